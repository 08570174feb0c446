/- Clusters of whatever size: those that are too great are refused. Contracts of Check, and of a placement's. Condition: the cluster lies in memory. How full nodes are, in numbers; share, isNode, isAbove: contracts. Condition: the cluster and the numbers lie in memory. Who goes through the pods of a node, heat's own: the contracts of podsOn and of what it hands back. Condition: the numbers lie in memory. A region that draws its order, within a round of a range function: it goes as it would without the round, if it defers nothing. No conditions. What pods ask for together: bounds, and what changes where one is taken off. Numbers only. A node's shares: the contract of heat's shares. Condition: the cluster and the numbers lie in memory, the placement may be, and there is the node. The nodes that are not lost and are so: the contracts of nodesThat and of what it hands back. Condition: the nodes lie in memory, and what tells whether one is so tells it. The nodes that are picked: the contract of heat's pick. Condition: the cluster and the numbers lie in memory, and what tells whether a node is so tells it. May a policy be? The contract of its Check; policies as values. Condition: its names lie in memory. -/
import Derived.Test.YticgcimcebdjlaaGreatA05
import Derived.Sort.CutIn
import Derived.OwnWalkIn

namespace Go.Proofs.YticgcimcebdjlaaGreat
open Go.RowKit Go.Maps

/-- No more than there may be. -/
def Few (ns : List NodeD) (ps : List PodD) (os : List OwnD) : Prop := ns.length ≤ 8 ∧ ps.length ≤ 24 ∧ os.length ≤ 8
instance (ns : List NodeD) (ps : List PodD) (os : List OwnD) : Decidable (Few ns ps os) := inferInstanceAs (Decidable (_ ∧ _ ∧ _))
theorem SnapIn.at {w : World} {A B C : Option Addr} {ca cb cc : Nat} {ns : List NodeD} {ps : List PodD} {os : List OwnD} (h : SnapIn w A B C ca cb cc ns ps os) (hs : Few ns ps os) : SnapAt w A B C ca cb cc ns ps os :=
  ⟨h.n, h.p, h.o, h.fo, by have := hs.1; omega, by have := hs.2.1; omega, by have := hs.2.2; omega, h.can, h.cap, h.cao⟩
theorem SnapIn.low {w w' : World} {A B C : Option Addr} {ca cb cc : Nat} {ns : List NodeD} {ps : List PodD} {os : List OwnD} (h : SnapIn w A B C ca cb cc ns ps os) (hb : Below w.heap.size w w') : SnapIn w' A B C ca cb cc ns ps os :=
  ⟨h.n.below hb, h.p.below hb, h.o.below hb, h.fo, h.can, h.cap, h.cao⟩
theorem clusB_few {ns : List NodeD} {ps : List PodD} {os : List OwnD} (h : clusB ns ps os = true) : Few ns ps os := by
  unfold clusB at h
  simp only [Bool.and_eq_true, decide_eq_true_eq] at h
  obtain ⟨⟨⟨⟨⟨⟨⟨⟨h1, h2⟩, h3⟩, _⟩, _⟩, _⟩, _⟩, _⟩, _⟩ := h
  exact ⟨by omega, by omega, by omega⟩
theorem checkS_few {ns : List NodeD} {ps : List PodD} {os : List OwnD} (h : checkS ns ps os ≠ 50) : Few ns ps os := by
  unfold checkS at h
  cases hc : clusB ns ps os with
  | true => exact clusB_few hc
  | false => rw [hc] at h; exact absurd rfl h
theorem checkS_big {ns : List NodeD} {ps : List PodD} {os : List OwnD} (h : ¬ Few ns ps os) : checkS ns ps os = 50 := Classical.byContradiction fun h' => h (checkS_few h')
theorem placeE_big {ns : List NodeD} {ps : List PodD} {os : List OwnD} (p : List Int) (h : ¬ Few ns ps os) : placeE ns ps os p = 50 := by
  unfold placeE
  rw [checkS_big h]
  rfl
theorem placeE_few {ns : List NodeD} {ps : List PodD} {os : List OwnD} {p : List Int} (h : placeE ns ps os p = 0) : Few ns ps os := Classical.byContradiction fun h' => by
  rw [placeE_big p h'] at h
  cases h

set_option maxRecDepth 100000 in
set_option maxHeartbeats 1000000 in
theorem may_big (A B C : Option Addr) (ca cb cc : Nat) (ns : List NodeD) (ps : List PodD) (os : List OwnD) (w : World) (hs : ¬ Few ns ps os) :
    Calls Tryz.prog 78 #[snapV A B C ca cb cc ns ps os] w fun e w' => e = .returned (.bool false) ∧ Below w.heap.size w w' := by
  have B0 : Hid (Below w.heap.size w (w.alloc (.cells (snapC A B C ca cb cc ns ps os) 26))) := Lib.hid (below1 w _)
  have S0 : Hid (Blk (w.alloc (.cells (snapC A B C ca cb cc ns ps os) 26)) w.heap.size (snapC A B C ca cb cc ns ps os) 26) := Lib.hid (Blk.new w _ _)
  go_enter Tryz.func78, Tryz.ntmps78
  go_upto_region 1 with fail
  try change Code.wp _ _ _ _ (w.alloc (.cells (snapC A B C ca cb cc ns ps os) 26))
  generalize (w.alloc (.cells (snapC A B C ca cb cc ns ps os) 26)) = W at B0 S0 ⊢
  have z0 : W.cell? ⟨w.heap.size, 0, none⟩ = some (.slice A ns.length ca) := Blk.cell S0.out 0
  have z1 : W.cell? ⟨w.heap.size, 1, none⟩ = some (.slice B ps.length cb) := Blk.cell S0.out 1
  have z2 : W.cell? ⟨w.heap.size, 2, none⟩ = some (.slice C os.length cc) := Blk.cell S0.out 2
  by_cases h1 : ns.length ≤ 8
  case neg =>
    have a1 : decide ((ns.length : Int) ≤ 8) = false := by simp; omega
    have b1 : decide (ns.length ≤ 8) = false := by simp; omega
    clear h1
    go_wp2
    go_ret
    exact ⟨rfl, B0.out⟩
  have a1 : decide ((ns.length : Int) ≤ 8) = true := by simp; omega
  have b1 : decide (ns.length ≤ 8) = true := by simp; omega
  by_cases h2 : ps.length ≤ 24
  case neg =>
    have a2 : decide ((ps.length : Int) ≤ 24) = false := by simp; omega
    have b2 : decide (ps.length ≤ 24) = false := by simp; omega
    clear h1 h2
    go_wp2
    go_ret
    exact ⟨rfl, B0.out⟩
  have a2 : decide ((ps.length : Int) ≤ 24) = true := by simp; omega
  have b2 : decide (ps.length ≤ 24) = true := by simp; omega
  have h3 : ¬ os.length ≤ 8 := fun h3 => hs ⟨h1, h2, h3⟩
  have a3 : decide ((os.length : Int) ≤ 8) = false := by simp; omega
  have b3 : decide (os.length ≤ 8) = false := by simp; omega
  clear h1 h2 h3 hs
  go_wp2
  go_ret
  exact ⟨rfl, B0.out⟩
set_option maxRecDepth 100000 in
set_option maxHeartbeats 1000000 in
theorem check_in (A B C : Option Addr) (ca cb cc : Nat) (ns : List NodeD) (ps : List PodD) (os : List OwnD) (w : World) (h : SnapIn w A B C ca cb cc ns ps os) :
    Calls Tryz.prog 40 #[snapV A B C ca cb cc ns ps os] w fun e w' => e = .returned (.int .i64 (checkS ns ps os)) ∧ Below w.heap.size w w' := by
  by_cases hs : Few ns ps os
  · exact check_any A B C ca cb cc ns ps os w (h.at hs)
  rw [checkS_big hs]
  have B0 : Hid (Below w.heap.size w (w.alloc (.cells (snapC A B C ca cb cc ns ps os) 26))) := Lib.hid (below1 w _)
  have S0 : Hid (Blk (w.alloc (.cells (snapC A B C ca cb cc ns ps os) 26)) w.heap.size (snapC A B C ca cb cc ns ps os) 26) := Lib.hid (Blk.new w _ _)
  have KM := Lib.hid (may_big A B C ca cb cc ns ps os (w.alloc (.cells (snapC A B C ca cb cc ns ps os) 26)) hs)
  clear h hs
  go_enter Tryz.func40, Tryz.ntmps40
  go_wp2_with fail
  refine (KM.out).mono ?_
  rintro e w1 ⟨rfl, hb⟩
  have B1 := Lib.hid (B0.out.trans (hb.mono B0.out.size))
  clear hb
  go_wp2
  go_ret
  exact ⟨rfl, B1.out⟩
set_option maxRecDepth 100000 in
set_option maxHeartbeats 1000000 in
theorem pcheck_in (A B C P : Option Addr) (ca cb cc cp : Nat) (ns : List NodeD) (ps : List PodD) (os : List OwnD) (p : List Int) (w : World) (h : SnapIn w A B C ca cb cc ns ps os) (hp : IntsAt w P cp p) :
    Calls Tryz.prog 11 #[snapV A B C ca cb cc ns ps os, .slice P p.length cp] w fun e w' => e = .returned (.int .i64 (placeE ns ps os p)) ∧ Below w.heap.size w w' := by
  by_cases hs : Few ns ps os
  · exact pcheck_any A B C P ca cb cc cp ns ps os p w (h.at hs) hp
  have hE := checkS_big hs
  rw [placeE_big p hs]
  have B0 : Hid (Below w.heap.size w (w.alloc (.cells (snapC A B C ca cb cc ns ps os) 26))) := Lib.hid (below1 w _)
  have S0 : Hid (Blk (w.alloc (.cells (snapC A B C ca cb cc ns ps os) 26)) w.heap.size (snapC A B C ca cb cc ns ps os) 26) := Lib.hid (Blk.new w _ _)
  have KM := Lib.hid (check_in A B C ca cb cc ns ps os (w.alloc (.cells (snapC A B C ca cb cc ns ps os) 26)) (h.low B0.out))
  rw [hE] at KM
  clear h hs hE hp
  go_enter Tryz.func11, Tryz.ntmps11
  go_wp2_with fail
  refine (KM.out).mono ?_
  rintro e w1 ⟨rfl, hb⟩
  have B1 := Lib.hid (B0.out.trans (hb.mono B0.out.size))
  clear hb
  go_wp2
  go_ret
  exact ⟨rfl, B1.out⟩
end Go.Proofs.YticgcimcebdjlaaGreat

namespace Go.Proofs.YticgcimcebdjlaaGreat
open Go.RowKit Go.Maps Go.Shelf
attribute [local go_sem] Oper.semAt_some

/-- A share of a quantity: all of it, where something is of nothing. -/
def shareH (a b : Int) : Int := if b = 0 ∧ 0 < a then 1000 else (Qu.shareL a b).1
/-- A node's shares. -/
def sharesU (ns : List NodeD) (ps : List PodD) (p : List Int) (n : Nat) (k : Nat) : Int := match ns[n]? with
  | some x => shareH (addW ps (onU p (n : Int) p.length) k) (x.cap k)
  | none => 0
abbrev row2 (x y : Int) : Array Value := #[.int .i64 x, .int .i64 y]

theorem hshare_any (a b : Int) (w : World) (ha : -9223372036854775808 ≤ a) (ha' : a ≤ 9223372036854775807) (hb : -9223372036854775808 ≤ b) (hb' : b ≤ 9223372036854775807) :
    Calls Tryz.prog 97 #[.int .i64 a, .int .i64 b] w fun e w' => e = .returned (.int .i64 (shareH a b)) ∧ Below w.heap.size w w' := by
  have K := Lib.hid (Qu.share_any a b w ha ha' hb hb')
  have E : Hid (shareH a b = if b = 0 ∧ 0 < a then 1000 else (Qu.shareL a b).1) := Lib.hid rfl
  generalize Qu.shareL a b = R at K E
  generalize shareH a b = S at E ⊢
  by_cases hz : b = 0
  · have hzb : (b == 0) = true := by simpa using hz
    have Hz := Lib.hid hz
    clear hz
    by_cases hp : 0 < a
    · have hpd : decide (0 < a) = true := decide_eq_true hp
      have He : Hid (S = 1000) := Lib.hid (by rw [E.out, if_pos ⟨Hz.out, hp⟩])
      clear E
      go_enter Tryz.func97, Tryz.ntmps97
      go_wp2
      go_ret
      rw [He.out]
      exact ⟨rfl, Below.refl _ _⟩
    · have hpd : decide (0 < a) = false := decide_eq_false hp
      have He : Hid (S = R.1) := Lib.hid (by rw [E.out, if_neg (fun h => hp h.2)])
      clear E
      go_enter Tryz.func97, Tryz.ntmps97
      go_wp2_with fail
      refine (K.out).mono ?_
      rintro e w1 ⟨rfl, hb1⟩
      have D := Lib.hid hb1
      clear hb1
      go_wp2
      go_ret
      rw [He.out]
      exact ⟨rfl, D.out⟩
  · have hzb : (b == 0) = false := by simpa using hz
    have He : Hid (S = R.1) := Lib.hid (by rw [E.out, if_neg (fun h => hz h.1)])
    clear E hz
    go_enter Tryz.func97, Tryz.ntmps97
    go_wp2_with fail
    refine (K.out).mono ?_
    rintro e w1 ⟨rfl, hb1⟩
    have D := Lib.hid hb1
    clear hb1
    go_wp2
    go_ret
    rw [He.out]
    exact ⟨rfl, D.out⟩

theorem above_any (a b : Int) (w : World) : Calls Tryz.prog 58 #[.int .i64 a, .int .i64 b] w fun e w' => e = .returned (.bool (decide (b ≠ 0 ∧ b < a))) ∧ Below w.heap.size w w' := by
  by_cases hb : b = 0
  · have hbb : (b != 0) = false := by simpa using hb
    rw [decide_eq_false (fun h => h.1 hb)]
    clear hb
    go_enter Tryz.func58, Tryz.ntmps58
    go_wp2
    go_ret
    exact ⟨rfl, Below.refl _ _⟩
  · have hbb : (b != 0) = true := by simpa using hb
    by_cases h1 : b < a
    · have h1d : decide (b < a) = true := decide_eq_true h1
      rw [decide_eq_true ⟨hb, h1⟩]
      clear hb
      go_enter Tryz.func58, Tryz.ntmps58
      go_wp2
      go_ret
      exact ⟨rfl, Below.refl _ _⟩
    · have h1d : decide (b < a) = false := decide_eq_false h1
      rw [decide_eq_false (fun h => h1 h.2)]
      clear hb
      go_enter Tryz.func58, Tryz.ntmps58
      go_wp2
      go_ret
      exact ⟨rfl, Below.refl _ _⟩
end Go.Proofs.YticgcimcebdjlaaGreat

namespace Go.Proofs.YticgcimcebdjlaaGreat
open Go.RowKit Go.Shelf
attribute [local go_sem] Oper.semAt_some

set_option maxRecDepth 100000 in
set_option maxHeartbeats 2000000 in
theorem on1_inH (n : Nat) (hn : 1 ≤ n) (l Bp Bn n₀ cp : Nat) (us : List Nat) (P : Option Addr) (p : List Int) (node : Int) (hfew : p.length ≤ 1000) (J Jx : List (AtNo p node) → World → Prop)
    (hY : ∀ pre (x : AtNo p node) W, J pre W → pre.length < p.length → YieldAt Fence.wide (n - 1) Tryz.prog l #[.int .i64 (x.1 : Int)] W fun e W' =>
      (e = .returned (.bool true) ∧ J (pre ++ [x]) W' ∧ KeepU n₀ us W W') ∨ (e = .returned (.bool false) ∧ Jx (pre ++ [x]) W'))
    (W : World) (hBp : W.cell? ⟨Bp, 0, none⟩ = some (.slice P p.length cp)) (hBn : Blk W Bn #[.int .i64 node] 3) (hus : Bn ∉ us)
    (hp : ∀ k x, p[k]? = some x → ∃ b o, P = some ⟨b, o, none⟩ ∧ b < n₀ ∧ W.cell? ⟨b, o + k, none⟩ = some (.int .i64 x)) (h0 : J [] W) :
    CallsIn Fence.wide n Tryz.prog 149 #[.func (.yield l) #[] #[], .pointer (some ⟨Bp, 0, none⟩), .pointer (some ⟨Bn, 0, none⟩)] W fun e W' => (∃ v, e = .returned v) ∧
      ((∃ ys : List (AtNo p node), ys.map (·.1) = onU p node p.length ∧ J ys W') ∨ (∃ pre : List (AtNo p node), True ∧ Jx pre W')) := by
  refine callsIn_of_wp Tryz.func149 rfl trivial ?_ rfl
  simp only [Tryz.ntmps149, List.size_toArray, List.length_cons, List.length_nil, Nat.reduceAdd, Nat.reduceSub, Array.replicate_succ, Array.replicate_zero, List.push_toArray, List.append_toArray, List.nil_append, List.cons_append]
  have HBn := Lib.hid hBn
  clear hBn
  gi_wp2
  gi_loopw [8] (fun i wr => ∃ (k : Nat) (pre : List (AtNo p node)), k ≤ p.length ∧ i = .int .i64 k ∧ pre.map (·.1) = onU p node k ∧ J pre wr ∧ KeepU n₀ us W wr) (fun i _ => p.length - (RowKit.intOf i).toNat)
  case atStart => exact ⟨0, [], Nat.zero_le _, rfl, rfl, h0, KeepU.refl _ _ _⟩
  case round =>
    obtain ⟨k, pre, hk, rfl, hpre, hJs, hnx⟩ := hrel
    by_cases hlt : k < p.length
    · obtain ⟨x, hx⟩ : ∃ x, p[k]? = some x := ⟨p[k], List.getElem?_eq_getElem hlt⟩
      obtain ⟨b, o, hA, hb, hc⟩ := hp k x hx
      subst hA
      have hcx : wr.cell? ⟨b, o + k, none⟩ = some (.int .i64 x) := (hnx.1.cell (p := ⟨b, o + k, none⟩) hb).trans hc
      have hnn : wr.cell? ⟨Bn, 0, none⟩ = some (.int .i64 node) := Blk.cell (hnx.2 Bn _ _ hus HBn.out) 0
      have k0 : (0 : Int) ≤ (k : Int) := by omega
      have k1 : (k : Int) < (p.length : Int) := by omega
      have hlen : pre.length < p.length := by
        have h1 := onU_len p node k
        have h2 : pre.length = (onU p node k).length := by rw [← hpre, List.length_map]
        omega
      have hstep : onU p node (k + 1) = onU p node k ++ (if x = node then [k] else []) := by
        rw [onU, hx]
        simp only [Option.some.injEq]
      by_cases hxn : x = node
      · subst hxn
        obtain ⟨fn, tmps, assign, body, hy, hR⟩ := hY pre ⟨k, hx⟩ wr hJs hlen
        dsimp only at hy
        rw [if_pos rfl] at hstep
        gi_wp2
        refine hR.mono ?_
        rintro e W3 (⟨rfl, hJ3, hk3⟩ | ⟨rfl, hJx3⟩)
        · gi_wp2
          go_roundw
          case rel => exact ⟨k + 1, pre ++ [⟨k, hx⟩], by omega, by go_num, by rw [hstep, List.map_append, hpre]; rfl, hJ3, hnx.trans hk3⟩
          case measure => simp [RowKit.intOf]; omega
        · gi_wp2
          refine bodyPost_ret (results_none rfl _ _ _) rfl ?_
          exact ⟨⟨_, rfl⟩, .inr ⟨pre ++ [⟨k, hx⟩], trivial, hJx3⟩⟩
      · rw [if_neg hxn, List.append_nil] at hstep
        have hxb : (x == node) = false := by simpa using hxn
        gi_wp2
        refine ⟨fun _ h => (by cases h), ?_⟩
        gi_wp2
        go_roundw
        case rel => exact ⟨k + 1, pre, by omega, by go_num, by rw [hstep, hpre], hJs, hnx⟩
        case measure => simp [RowKit.intOf]; omega
    · obtain rfl : k = p.length := by omega
      gi_wp2
      go_end0
      exact ⟨⟨_, rfl⟩, .inl ⟨pre, hpre, hJs⟩⟩
set_option maxHeartbeats 1000000 in
theorem on_anyH (n : Nat) (P : Option Addr) (len cp : Nat) (node : Int) (w : World) :
    CallsIn Fence.wide n Tryz.prog 96 #[.slice P len cp, .int .i64 node] w fun e w' => e = .returned (.func (.func 149) #[] #[.pointer (some ⟨w.heap.size, 0, none⟩), .pointer (some ⟨w.heap.size + 1, 0, none⟩)]) ∧ w' = (w.alloc (.cells #[.slice P len cp] 32)).alloc (.cells #[.int .i64 node] 3) := by
  refine callsIn_of_wp Tryz.func96 rfl trivial ?_ rfl
  simp only [Tryz.ntmps96, List.size_toArray, List.length_cons, List.length_nil, Nat.reduceAdd, Nat.reduceSub, Array.replicate_succ, Array.replicate_zero, List.push_toArray, List.append_toArray, List.nil_append, List.cons_append]
  gi_wp2
  go_ret
  exact ⟨rfl, rfl⟩

theorem on_stopsH (n : Nat) (hn : 1 ≤ n) (Bp Bn n₀ cp : Nat) (us : List Nat) (P : Option Addr) (p : List Int) (node : Int) (hfew : p.length ≤ 1000) (w : World) (hn₀ : n₀ ≤ w.heap.size) (hus : Bn ∉ us)
    (hBp : Blk w Bp #[.slice P p.length cp] 32) (hBn : Blk w Bn #[.int .i64 node] 3)
    (hp : ∀ k x, p[k]? = some x → ∃ b o, P = some ⟨b, o, none⟩ ∧ b < n₀ ∧ w.cell? ⟨b, o + k, none⟩ = some (.int .i64 x)) :
    SeqStopsK Fence.wide n Tryz.prog 149 #[.pointer (some ⟨Bp, 0, none⟩), .pointer (some ⟨Bn, 0, none⟩)] (fun x : AtNo p node => #[Value.int .i64 (x.1 : Int)]) (KeepU n₀ us) (fun ys => ys.map (·.1) = onU p node p.length) (fun _ => True) p.length w := fun l J Jx W hW _ _ hY h0 => by
  refine on1_inH n hn l Bp Bn n₀ cp us P p node hfew J Jx hY W (Blk.cell (hBp.below hW hBp.lt) 0) (hBn.below hW hBn.lt) hus ?_ h0
  intro k x hx
  obtain ⟨b, o, hA, hb, hc⟩ := hp k x hx
  exact ⟨b, o, hA, hb, (hW.cell (p := ⟨b, o + k, none⟩) (Nat.lt_of_lt_of_le hb hn₀)).trans hc⟩

end Go.Proofs.YticgcimcebdjlaaGreat

namespace Go.Proofs.YticgcimcebdjlaaGreat
open Go

theorem opIn_round {F : Fence} {n : Nat} {P : Program} {o : Oper} {a : Act} {w : World} {K : Act → World → Prop} {Q : Exit → Act → World → Prop} (l : Nat) (hro : F.round = none) (hd : ∀ c, o.op ≠ .defer c) (h : o.wpIn F n P a w K Q) : o.wpIn (F.inRound l) n P a w K Q := by
  refine ⟨h.1, ?_⟩
  have h2 := h.2
  rw [hro, Oper.semAt_eq none a.eval o hd] at h2
  show o.uponIn (F.inRound l) n P a K Q ((o.semAt (some l) a.eval).run P w)
  rw [Oper.semAt_eq (some l) a.eval o hd]
  exact h2
theorem anyIn_round {F : Fence} {n : Nat} {P : Program} {ops : Array Oper} {Q : Exit → Act → World → Prop} {md : Region.Mode} (l : Nat) (hro : F.round = none) (hd : ∀ (i : Nat) (o : Oper), ops[i]? = some o → ∀ c, o.op ≠ .defer c) :
    ∀ (fuel : Nat) (listed : Array Bool) (a : Act) (w : World), wpAnyIn F n P md ops Q fuel listed a w → wpAnyIn (F.inRound l) n P md ops Q fuel listed a w
  | 0, _, _, _, h => h
  | fuel + 1, listed, a, w, h => by
    refine ⟨h.1, fun i hi => ?_⟩
    have h2 := wpOpIn_mono (fun a w => anyIn_round l hro hd fuel _ a w) (h.2 i hi)
    unfold wpOpIn at h2 ⊢
    split
    · rename_i ho
      rw [ho] at h2
      exact h2
    · rename_i o ho
      rw [ho] at h2
      dsimp only at h2
      split
      · rename_i hw
        rw [if_pos hw] at h2
        exact opIn_round l hro (hd i o ho) h2
      · rename_i hw
        rw [if_neg hw] at h2
        exact h2
def noDefer (l : List Oper) : Bool := l.all fun o => match o.op with | .defer _ => false | _ => true
theorem noDefer_spec {l : List Oper} (h : noDefer l = true) (i : Nat) (o : Oper) (ho : l.toArray[i]? = some o) : ∀ c, o.op ≠ .defer c := by
  intro c e
  have hm : o ∈ l := by
    rw [List.getElem?_toArray] at ho
    exact List.mem_of_getElem? ho
  have := List.all_eq_true.1 h o hm
  rw [e] at this
  cases this
theorem region_round {n : Nat} {P : Program} {l : List Oper} {Q : Exit → Act → World → Prop} {id : Nat} {a : Act} {w : World} (r : Nat) (hm : P.follows .mixedOrders = true) (hd : noDefer l = true)
    (h : wpAnyIn Fence.wide n P .any l.toArray Q l.length (Array.replicate l.length false) a w.drew) : (Code.region id l.toArray true).wpIn (Fence.wide.inRound r) n P Q a w := by
  refine wpIn_region_any hm ?_
  have e : l.toArray.size = l.length := by simp
  rw [e]
  exact anyIn_round r rfl (fun i o ho => noDefer_spec hd i o ho) _ _ _ _ h
end Go.Proofs.YticgcimcebdjlaaGreat

namespace Go.Proofs.YticgcimcebdjlaaGreat
open Go.RowKit

theorem wrap_stepH (s x : Int) : wrap64 (wrap64 s + x) = wrap64 (s + x) := by
  unfold wrap64
  omega
def reqAtH (ps : List PodD) (k y : Nat) : Int := match ps[y]? with
  | some x => x.req k
  | none => 0
def reqSH (ps : List PodD) (k : Nat) (ys : List Nat) : Int := (ys.map (reqAtH ps k)).sum
theorem addW_fromH (ps : List PodD) (k : Nat) : ∀ (ys : List Nat) (s : Int), ys.foldl (fun a y => wrap64 (a + (match ps[y]? with | some x => x.req k | none => 0))) (wrap64 s) = wrap64 (s + reqSH ps k ys)
  | [], s => by simp [reqSH]
  | y :: t, s => by
    rw [List.foldl_cons, wrap_stepH]
    have := addW_fromH ps k t (s + reqAtH ps k y)
    unfold reqAtH at this
    rw [this]
    unfold reqSH
    rw [List.map_cons, List.sum_cons, ← Int.add_assoc]
    rfl
theorem addW_isH (ps : List PodD) (k : Nat) (ys : List Nat) : addW ps ys k = wrap64 (reqSH ps k ys) := by
  have := addW_fromH ps k ys 0
  rw [show wrap64 0 = 0 by unfold wrap64; omega, Int.zero_add] at this
  exact this
theorem chkV_boundsH {x : Nat → Int} (h : Qu.chkV x = 0) : ∀ j, j < 5 → 0 ≤ x j ∧ x j ≤ 1099511627776 := by
  have h0 : ∀ j, j < 5 → 0 ≤ x j := fun j hj => by
    by_cases hn : x j < 0
    · rw [Qu.chkV_neg hj hn] at h
      cases h
    · omega
  intro j hj
  refine ⟨h0 j hj, ?_⟩
  by_cases ht : Qu.top < x j
  · rw [Qu.chkV_over h0 hj ht] at h
    cases h
  · unfold Qu.top at ht
    omega
theorem cap_boundsH {ns : List NodeD} {ps : List PodD} {os : List OwnD} (h : checkS ns ps os = 0) {x : NodeD} (hx : x ∈ ns) : ∀ j, j < 5 → 0 ≤ x.cap j ∧ x.cap j ≤ 1099511627776 := by
  unfold checkS at h
  split at h
  · rename_i hc
    unfold clusB at hc
    simp only [Bool.and_eq_true, List.all_eq_true] at hc
    have h1 := hc.1.1.2 x hx
    unfold nodeB at h1
    simp only [Bool.and_eq_true, beq_iff_eq] at h1
    exact chkV_boundsH h1.1.1
  · cases h
theorem req_boundsH {ns : List NodeD} {ps : List PodD} {os : List OwnD} (h : checkS ns ps os = 0) {x : PodD} (hx : x ∈ ps) : ∀ j, j < 5 → 0 ≤ x.req j ∧ x.req j ≤ 1099511627776 := by
  unfold checkS at h
  split at h
  · rename_i hc
    unfold clusB at hc
    simp only [Bool.and_eq_true, List.all_eq_true] at hc
    have h1 := (hc.1.2 x hx).1
    unfold podB at h1
    simp only [Bool.and_eq_true, beq_iff_eq] at h1
    exact chkV_boundsH h1.1.1.1.1.1
  · cases h
theorem reqS_boundsH {ps : List PodD} {j : Nat} (h : ∀ x ∈ ps, 0 ≤ x.req j ∧ x.req j ≤ 1099511627776) : ∀ ys : List Nat, 0 ≤ reqSH ps j ys ∧ reqSH ps j ys ≤ 1099511627776 * (ys.length : Int)
  | [] => by simp [reqSH]
  | y :: t => by
    have ih := reqS_boundsH h t
    have ha : 0 ≤ reqAtH ps j y ∧ reqAtH ps j y ≤ 1099511627776 := by
      unfold reqAtH
      split
      · rename_i x hx
        exact h x (List.mem_of_getElem? hx)
      · omega
    have e : reqSH ps j (y :: t) = reqAtH ps j y + reqSH ps j t := by simp [reqSH]
    rw [e, List.length_cons]
    push_cast
    omega
theorem addW_boundsH {ps : List PodD} {j : Nat} (h : ∀ x ∈ ps, 0 ≤ x.req j ∧ x.req j ≤ 1099511627776) (ys : List Nat) (hl : ys.length ≤ 1000) : 0 ≤ addW ps ys j ∧ addW ps ys j ≤ 1099511627776000 := by
  have h1 := reqS_boundsH h ys
  rw [addW_isH]
  unfold wrap64
  omega
section
variable {ns : List NodeD} {ps : List PodD} {os : List OwnD} {p : List Int} {i : Nat}
end
section
variable {ns : List NodeD} {ps : List PodD} {os : List OwnD} {p : List Int} {i : Nat} {y z : Int}
end
end Go.Proofs.YticgcimcebdjlaaGreat

namespace Go.Proofs.YticgcimcebdjlaaGreat
open Go.RowKit Go.Shelf
attribute [local go_sem] Oper.semAt_some

theorem row2_nc {w w' : World} {b : Nat} {x y : Int} {row : Option Nat} (h : Blk w b (row2 x y) 27) (hg : w.grownBy w' row) (hr : ∀ r, row = some r → ∃ o : Obj, w.heap[r]? = some o ∧ o.isCells = false) : Blk w' b (row2 x y) 27 := blk_nc h hg hr

theorem row2_size : (Tryz.prog.info? 27).map (·.size) = some 2 := by kernel_rfl
set_option maxRecDepth 100000 in
set_option maxHeartbeats 4000000 in
theorem shares_any (A B C P : Option Addr) (ca cb cc cp : Nat) (ns : List NodeD) (ps : List PodD) (os : List OwnD) (p : List Int) (nd : Nat) (w : World) (h : SnapAt w A B C ca cb cc ns ps os) (hp : IntsAt w P cp p) (hok : placeE ns ps os p = 0) (hnd : nd < ns.length) :
    Calls Tryz.prog 57 #[snapV A B C ca cb cc ns ps os, .slice P p.length cp, .int .i64 (nd : Int)] w fun e w' => e = .returned (.agg (row2 (sharesU ns ps p nd 0) (sharesU ns ps p nd 1))) ∧ Below w.heap.size w w' := by
  have hlp := Lib.hid h.lp
  have hln := Lib.hid h.ln
  have hpl := Lib.hid (placeE_len hok)
  have H := Lib.hid h
  have HP := Lib.hid hp
  obtain ⟨x, hx⟩ : ∃ x, ns[nd]? = some x := ⟨ns[nd], List.getElem?_eq_getElem hnd⟩
  have HX := Lib.hid hx
  have hcap := Lib.hid (cap_boundsH (placeE_zero hok).1 (List.mem_of_getElem? hx))
  have hwa := Lib.hid (fun k (hk : k < 5) => addW_boundsH (ps := ps) (j := k) (fun x hx => req_boundsH (placeE_zero hok).1 hx k hk) (onU p (nd : Int) p.length) (Nat.le_trans (onU_len _ _ _) (by rw [placeE_len hok]; exact h.lp)))
  have HE : Hid (∀ k, sharesU ns ps p nd k = shareH (addW ps (onU p (nd : Int) p.length) k) (x.cap k)) := Lib.hid (fun k => by
    unfold sharesU
    rw [hx])
  have B0 : Hid (Below w.heap.size w (((w.alloc (.cells (snapC A B C ca cb cc ns ps os) 26)).alloc (.cells (row2 0 0) 27)).alloc (.cells (row2 0 0) 27))) := Lib.hid ((Qu.below2 w _ _).alloc (by simp; omega) _)
  have S0 : Hid (Blk (((w.alloc (.cells (snapC A B C ca cb cc ns ps os) 26)).alloc (.cells (row2 0 0) 27)).alloc (.cells (row2 0 0) 27)) w.heap.size (snapC A B C ca cb cc ns ps os) 26) := Lib.hid (Blk.alloc (Blk.alloc (Blk.new w _ _) _) _)
  have R0 : Hid (Blk (((w.alloc (.cells (snapC A B C ca cb cc ns ps os) 26)).alloc (.cells (row2 0 0) 27)).alloc (.cells (row2 0 0) 27)) (w.heap.size + 1) (row2 0 0) 27) := Lib.hid (Blk.alloc (blk2 w _ _ _) _)
  have U0 : Hid (Blk (((w.alloc (.cells (snapC A B C ca cb cc ns ps os) 26)).alloc (.cells (row2 0 0) 27)).alloc (.cells (row2 0 0) 27)) (w.heap.size + 2) (row2 0 0) 27) := Lib.hid (blk3 w _ _ _ _)
  clear h hp hok hx
  refine (callsIn_wide (n := 8)).1 ?_
  refine callsIn_of_wp_marks Tryz.func57 rfl trivial ?_ rfl
  simp only [Tryz.ntmps57, List.size_toArray, List.length_cons, List.length_nil, Nat.reduceAdd, Nat.reduceSub, Array.replicate_succ, Array.replicate_zero, List.push_toArray, List.append_toArray, List.nil_append, List.cons_append]
  gi_wp2_with fail
  refine ⟨trivial, ?_⟩
  refine (on_anyH _ P p.length cp (nd : Int) _).mono ?_
  rintro e w3 ⟨rfl, rfl⟩
  obtain ⟨w2, hw2⟩ : ∃ w2, (((w.alloc (.cells (snapC A B C ca cb cc ns ps os) 26)).alloc (.cells (row2 0 0) 27)).alloc (.cells (row2 0 0) 27)) = w2 := ⟨_, rfl⟩
  rw [hw2] at B0 S0 R0 U0
  try rw [show ((((w.alloc (.cells (snapC A B C ca cb cc ns ps os) 26)).alloc (.cells #[.int .i64 0, .int .i64 0] 27)).alloc (.cells #[.int .i64 0, .int .i64 0] 27))) = w2 from hw2]
  clear hw2
  have S2 := Lib.hid (Blk.alloc (Blk.alloc S0.out (.cells #[.slice P p.length cp] 32)) (.cells #[.int .i64 nd] 3))
  have R2 := Lib.hid (Blk.alloc (Blk.alloc R0.out (.cells #[.slice P p.length cp] 32)) (.cells #[.int .i64 nd] 3))
  have U2 := Lib.hid (Blk.alloc (Blk.alloc U0.out (.cells #[.slice P p.length cp] 32)) (.cells #[.int .i64 nd] 3))
  have P2 := Lib.hid (Blk.alloc (Blk.new w2 #[.slice P p.length cp] 32) (.cells #[.int .i64 nd] 3))
  have N2 := Lib.hid (blk2 w2 (.cells #[.slice P p.length cp] 32) #[.int .i64 nd] 3)
  have B2 := Lib.hid ((B0.out.alloc B0.out.size (.cells #[.slice P p.length cp] 32)).alloc (by have := B0.out.size; simp; omega) (.cells #[.int .i64 nd] 3))
  have hlu := Blk.lt U0.out
  generalize ((w2.alloc (.cells #[.slice P p.length cp] 32)).alloc (.cells #[.int .i64 nd] 3)) = W0 at S2 R2 U2 P2 N2 B2 ⊢
  clear B0 S0 R0 U0
  gi_wp2_with fail
  obtain ⟨Ub, hUb⟩ : ∃ Ub, w.heap.size + 1 + 1 = Ub := ⟨_, rfl⟩
  obtain ⟨Rb, hRb⟩ : ∃ Rb, w.heap.size + 1 = Rb := ⟨_, rfl⟩
  rw [show w.heap.size + 2 = Ub from hUb] at U2 hlu
  rw [hUb, hRb]
  rw [hRb] at R2
  have hU : Hid (w.heap.size < Rb ∧ Rb < Ub ∧ Ub < w2.heap.size) := Lib.hid ⟨by omega, by omega, hlu⟩
  have hW0 : Hid (w2.heap.size + 1 < W0.heap.size) := Lib.hid (Blk.lt N2.out)
  clear hUb hRb hlu
  refine wpIn_rangeFunc_ownG (α := AtNo p (nd : Int)) rfl (by omega) (gf := 149) (lb := #[.pointer (some ⟨w2.heap.size, 0, none⟩), .pointer (some ⟨w2.heap.size + 1, 0, none⟩)]) rfl trivial (enters_of Tryz.func149 (by kernel_rfl) rfl)
    (on_stopsH (8 - 1) (by omega) w2.heap.size (w2.heap.size + 1) w.heap.size cp [Ub] P p (nd : Int) (by rw [hpl.out]; exact hlp.out) W0 (by have := hU.out; have := hW0.out; omega) (by have := hU.out; simp; omega) P2.out N2.out ?hp)
    keepU_t (keepU_b (by have := hU.out; have := hW0.out; omega)) (Below.refl _ _) (fun _ => rfl)
    (fun pre W => (Blk W w.heap.size (snapC A B C ca cb cc ns ps os) 26 ∧ Blk W Rb (row2 0 0) 27 ∧ Blk W Ub (row2 (addW ps (pre.map (fun x => x.1)) 0) (addW ps (pre.map (fun x => x.1)) 1)) 27) ∧ Below w.heap.size w W)
    (fun _ _ _ => False)
    (OwnFrom.and (fun s X Y row hs hg hr => ⟨blk_nc hs.1 hg (fun r e => (hr r e).2), blk_nc hs.2.1 hg (fun r e => (hr r e).2), row2_nc hs.2.2 hg (fun r e => (hr r e).2)⟩) (ownFrom_below (Nat.le_refl _) (by have := hU.out; have := hW0.out; omega)))
    (fun _ _ _ _ _ hs _ _ => hs)
    ⟨⟨S2.out, R2.out, U2.out⟩, B2.out⟩
    (fun x => { tmps := #[snapV A B C ca cb cc ns ps os, Value.slice P p.length cp, Value.int IntKind.i64 (nd : Int),
          Value.pointer (some { block := w.heap.size, off := 0 }), undef, undef,
          Value.pointer (some { block := Rb, off := 0 }), Value.pointer (some { block := Ub, off := 0 }), .int .i64 (x.1 : Int), undef,
          undef, undef, Value.slice P p.length cp, Value.int IntKind.i64 (nd : Int),
          Value.func (Fn.func 149) #[]
            #[Value.pointer (some { block := w2.heap.size, off := 0 }),
              Value.pointer (some { block := w2.heap.size + 1, off := 0 })],
          .int .i64 (x.1 : Int), undef, undef, undef, undef, undef, undef, undef, undef, undef, undef, undef, undef, undef, undef,
          undef, undef, undef, undef, undef, undef, undef, undef, undef, undef, undef, undef, undef, undef, undef,
          undef, undef, undef, undef, undef, undef, undef], defers := [] }) ?assign ?body ?done ?stop
  case hp =>
    intro k x hx
    obtain ⟨b, o, hA, hb, _⟩ := atI HP.out.cells hx
    obtain ⟨b', o', hA', _, hc⟩ := atI (HP.out.below B2.out).cells hx
    rw [hA] at hA'
    cases hA'
    exact ⟨b, o, hA, hb, hc⟩
  case assign =>
    intro l x W K hK
    gi_wp2
    exact hK
  case body =>
    rintro l pre ⟨m, hm⟩ W ⟨⟨hS, hR, hUr⟩, hB⟩ hlen
    have hml : m < ps.length := by rw [← hpl.out]; exact (List.getElem?_eq_some_iff.1 hm).1
    obtain ⟨y, hy⟩ : ∃ y, ps[m]? = some y := ⟨ps[m], List.getElem?_eq_getElem hml⟩
    have HY := Lib.hid hy
    have HS := Lib.hid hS
    have HR := Lib.hid hR
    have HUr := Lib.hid hUr
    have HB := Lib.hid hB
    have HA0 : Hid (addW ps ((pre ++ [(⟨m, hm⟩ : AtNo p (nd : Int))]).map (fun x => x.1)) 0 = wrap64 (addW ps (pre.map (fun x => x.1)) 0 + y.req 0)) := Lib.hid (by
      rw [List.map_append]
      exact addW_snoc ps _ m y hy 0)
    have HA1 : Hid (addW ps ((pre ++ [(⟨m, hm⟩ : AtNo p (nd : Int))]).map (fun x => x.1)) 1 = wrap64 (addW ps (pre.map (fun x => x.1)) 1 + y.req 1)) := Lib.hid (by
      rw [List.map_append]
      exact addW_snoc ps _ m y hy 1)
    obtain ⟨b0, hb0⟩ : ∃ b0, addW ps ((pre ++ [(⟨m, hm⟩ : AtNo p (nd : Int))]).map (fun x => x.1)) 0 = b0 := ⟨_, rfl⟩
    rw [hb0] at HA0
    have hb0 := Lib.hid hb0
    obtain ⟨b1, hb1⟩ : ∃ b1, addW ps ((pre ++ [(⟨m, hm⟩ : AtNo p (nd : Int))]).map (fun x => x.1)) 1 = b1 := ⟨_, rfl⟩
    rw [hb1] at HA1
    have hb1 := Lib.hid hb1
    generalize addW ps (pre.map (fun x => x.1)) 0 = a0 at HUr HA0
    generalize addW ps (pre.map (fun x => x.1)) 1 = a1 at HUr HA1
    have m0 : (0 : Int) ≤ (m : Int) := by omega
    have m1 : (m : Int) < (ps.length : Int) := by omega
    clear hy hS hR hUr hB
    have hmx : Tryz.prog.follows .mixedOrders = true := by kernel_rfl
    gi_wp2_with fail
    gi_loopw [16] (fun i wr => ((i = .int .i64 0 ∧ Blk wr Ub (row2 a0 a1) 27) ∨ (i = .int .i64 1 ∧ Blk wr Ub (row2 b0 a1) 27) ∨ (i = .int .i64 2 ∧ Blk wr Ub (row2 b0 b1) 27)) ∧ KeepsOthers W wr ∧ KeepU w.heap.size [Ub] W wr) (fun i _ => 2 - (RowKit.intOf i).toNat)
    case atStart => exact ⟨.inl ⟨rfl, HUr.out⟩, KeepsOthers.refl _, KeepU.refl _ _ _⟩
    case round =>
      obtain ⟨hir, hko, hku⟩ := hrel
      have HKO := Lib.hid hko
      have HKU := Lib.hid hku
      have HBr := Lib.hid (HB.out.trans hku.1)
      clear hko hku
      obtain ⟨b, o, hA, hbl, c0, c1, c2, c3, c4, c5, c6, c7, c8, c9, c10, c11, c12, c13, c14⟩ := atP (H.out.below HBr.out).p.cells HY.out
      subst hA
      have z1 : wr.cell? ⟨w.heap.size, 1, none⟩ = some (.slice (some ⟨b, o, none⟩) ps.length cb) := Blk.cell (HKU.out.2 _ _ _ (by have := hU.out; simp; omega) HS.out) 1
      rcases hir with ⟨rfl, hr⟩ | ⟨rfl, hr⟩ | ⟨rfl, hr⟩
      · have HRr := Lib.hid hr
        have u0 : wr.drew.cell? ⟨Ub, 0, none⟩ = some (.int .i64 a0) := Blk.cell hr 0
        have f0 : wr.drew.frozen? ⟨Ub, 0, none⟩ = false := Blk.free hr 0
        have d0 : wr.drew.cell? ⟨b, o + m * 15 + 2 + 0, none⟩ = some (.int .i64 (y.req 0)) := c2
        have z1 : wr.drew.cell? ⟨w.heap.size, 1, none⟩ = some (.slice (some ⟨b, o, none⟩) ps.length cb) := z1
        have hwr : IntKind.i64.wrap (a0 + y.req 0) = b0 := (IntWalk.i64_left _).trans HA0.out.symm
        have HC := Lib.hid (And.intro HKO.out HKU.out)
        clear hr c0 c1 c2 c3 c4 c5 c6 c7 c8 c9 c10 c11 c12 c13 c14
        gi_wp2
        refine region_round _ hmx (by rfl) ?_
        refine wpAnyIn_take (i := 0) (v := ?_) rfl rfl (by kernel_rfl) (by kernel_rfl) (by kernel_rfl) (fun _ _ _ h => h) ⟨Or.inl ⟨by rfl, ?_⟩, fun _ => rfl⟩ ?_
        rotate_left 1
        · (intro w; go_simp; try with_reducible rfl)
        try simp only [Act.put, List.setIfInBounds_toArray, List.set_cons_zero, List.set_cons_succ]
        refine wpAnyIn_take (i := 1) (v := ?_) rfl rfl (by kernel_rfl) (by kernel_rfl) (by kernel_rfl) (fun _ _ _ h => h) ⟨Or.inl ⟨by rfl, ?_⟩, fun _ => rfl⟩ ?_
        rotate_left 1
        · (intro w; go_simp; try with_reducible rfl)
        try simp only [Act.put, List.setIfInBounds_toArray, List.set_cons_zero, List.set_cons_succ]
        refine wpAnyIn_take (i := 3) (v := ?_) rfl rfl (by kernel_rfl) (by kernel_rfl) (by kernel_rfl) (fun _ _ _ h => h) ⟨Or.inl ⟨by rfl, ?_⟩, fun _ => rfl⟩ ?_
        rotate_left 1
        · (intro w; go_simp; try with_reducible rfl)
        try simp only [Act.put, List.setIfInBounds_toArray, List.set_cons_zero, List.set_cons_succ]
        refine wpAnyIn_take (i := 5) (v := ?_) rfl rfl (by kernel_rfl) (by kernel_rfl) (by kernel_rfl) (fun _ _ _ h => h) ⟨Or.inl ⟨by rfl, ?_⟩, fun _ => rfl⟩ ?_
        rotate_left 1
        · (intro w; go_simp; try with_reducible rfl)
        try simp only [Act.put, List.setIfInBounds_toArray, List.set_cons_zero, List.set_cons_succ]
        refine wpAnyIn_take (i := 6) (v := ?_) rfl rfl (by kernel_rfl) (by kernel_rfl) (by kernel_rfl) (fun _ _ _ h => h) ⟨Or.inl ⟨by rfl, ?_⟩, fun _ => rfl⟩ ?_
        rotate_left 1
        · (intro w; go_simp; try with_reducible rfl)
        try simp only [Act.put, List.setIfInBounds_toArray, List.set_cons_zero, List.set_cons_succ]
        refine wpAnyIn_ready (rs := [2, 4]) (by kernel_rfl) (by simp) ?_
        refine AllReadyIn.cons rfl (fun K hK => ?_) (AllReadyIn.cons rfl (fun K hK => ?_) (AllReadyIn.nil))
        · go_simp
          try refine hK _ _ ?_
          clear hK K
          try simp only [Act.put, List.setIfInBounds_toArray, List.set_cons_zero, List.set_cons_succ]
          refine wpAnyIn_ready (rs := [4]) (by kernel_rfl) (by simp) ?_
          refine AllReadyIn.cons rfl (fun K hK => ?_) (AllReadyIn.nil)
          go_simp
          try refine hK _ _ ?_
          clear hK K
          try simp only [Act.put, List.setIfInBounds_toArray, List.set_cons_zero, List.set_cons_succ]
          refine wpAnyIn_take (i := 7) (v := ?_) rfl rfl (by kernel_rfl) (by kernel_rfl) (by kernel_rfl) (fun _ _ _ h => h) ⟨Or.inl ⟨by rfl, ?_⟩, fun _ => rfl⟩ ?_
          rotate_left 1
          · (intro w; go_simp; try with_reducible rfl)
          try simp only [Act.put, List.setIfInBounds_toArray, List.set_cons_zero, List.set_cons_succ]
          refine wpAnyIn_take (i := 8) (v := ?_) rfl rfl (by kernel_rfl) (by kernel_rfl) (by kernel_rfl) (fun _ _ _ h => h) ⟨Or.inl ⟨by rfl, ?_⟩, fun _ => rfl⟩ ?_
          rotate_left 1
          · (intro w; go_simp; try with_reducible rfl)
          try simp only [Act.put, List.setIfInBounds_toArray, List.set_cons_zero, List.set_cons_succ]
          refine wpAnyIn_take (i := 9) (v := ?_) rfl rfl (by kernel_rfl) (by kernel_rfl) (by kernel_rfl) (fun _ _ _ h => h) ⟨Or.inl ⟨by rfl, ?_⟩, fun _ => rfl⟩ ?_
          rotate_left 1
          · (intro w; go_simp; try with_reducible rfl)
          try simp only [Act.put, List.setIfInBounds_toArray, List.set_cons_zero, List.set_cons_succ]
          refine wpAnyIn_ready (rs := [10]) (by kernel_rfl) (by simp) ?_
          refine AllReadyIn.cons rfl (fun K hK => ?_) (AllReadyIn.nil)
          go_simp
          try refine hK _ _ ?_
          clear hK K
          try simp only [Act.put, List.setIfInBounds_toArray, List.set_cons_zero, List.set_cons_succ]
          refine wpAnyIn_take (i := 11) (v := ?_) rfl rfl (by kernel_rfl) (by kernel_rfl) (by kernel_rfl) (fun _ _ _ h => h) ⟨Or.inl ⟨by rfl, ?_⟩, fun _ => rfl⟩ ?_
          rotate_left 1
          · (intro w; go_simp; try with_reducible rfl)
          try simp only [Act.put, List.setIfInBounds_toArray, List.set_cons_zero, List.set_cons_succ]
          refine wpAnyIn_take (i := 12) (v := ?_) rfl rfl (by kernel_rfl) (by kernel_rfl) (by kernel_rfl) (fun _ _ _ h => h) ⟨Or.inl ⟨by rfl, ?_⟩, fun _ => rfl⟩ ?_
          rotate_left 1
          · (intro w; go_simp; try with_reducible rfl)
          try simp only [Act.put, List.setIfInBounds_toArray, List.set_cons_zero, List.set_cons_succ]
          refine wpAnyIn_ready (rs := [13]) (by kernel_rfl) (by simp) ?_
          refine AllReadyIn.cons rfl (fun K hK => ?_) (AllReadyIn.nil)
          go_simp
          try refine hK _ _ ?_
          clear hK K
          try simp only [Act.put, List.setIfInBounds_toArray, List.set_cons_zero, List.set_cons_succ]
          refine wpAnyIn_done (by kernel_rfl) ?_ _
          gi_wp2
          go_roundw
          case rel => exact ⟨.inr (.inl ⟨rfl, HRr.out.drew.set 0 _⟩), HC.out.1.trans ((KeepsOthers.drew _).trans (KeepsOthers.setCell _ _ _)), HC.out.2.trans (KeepU.trans ⟨(Below.refl _ _).drew, fun _ _ _ _ h => h⟩ (KeepU.set _ (by simp) (by have := hU.out; omega) _ _))⟩
          case measure => simp [RowKit.intOf]
        · go_simp
          try refine hK _ _ ?_
          clear hK K
          try simp only [Act.put, List.setIfInBounds_toArray, List.set_cons_zero, List.set_cons_succ]
          refine wpAnyIn_take (i := 7) (v := ?_) rfl rfl (by kernel_rfl) (by kernel_rfl) (by kernel_rfl) (fun _ _ _ h => h) ⟨Or.inl ⟨by rfl, ?_⟩, fun _ => rfl⟩ ?_
          rotate_left 1
          · (intro w; go_simp; try with_reducible rfl)
          try simp only [Act.put, List.setIfInBounds_toArray, List.set_cons_zero, List.set_cons_succ]
          refine wpAnyIn_take (i := 8) (v := ?_) rfl rfl (by kernel_rfl) (by kernel_rfl) (by kernel_rfl) (fun _ _ _ h => h) ⟨Or.inl ⟨by rfl, ?_⟩, fun _ => rfl⟩ ?_
          rotate_left 1
          · (intro w; go_simp; try with_reducible rfl)
          try simp only [Act.put, List.setIfInBounds_toArray, List.set_cons_zero, List.set_cons_succ]
          refine wpAnyIn_take (i := 9) (v := ?_) rfl rfl (by kernel_rfl) (by kernel_rfl) (by kernel_rfl) (fun _ _ _ h => h) ⟨Or.inl ⟨by rfl, ?_⟩, fun _ => rfl⟩ ?_
          rotate_left 1
          · (intro w; go_simp; try with_reducible rfl)
          try simp only [Act.put, List.setIfInBounds_toArray, List.set_cons_zero, List.set_cons_succ]
          refine wpAnyIn_ready (rs := [2, 10]) (by kernel_rfl) (by simp) ?_
          refine AllReadyIn.cons rfl (fun K hK => ?_) (AllReadyIn.cons rfl (fun K hK => ?_) (AllReadyIn.nil))
          · go_simp
            try refine hK _ _ ?_
            clear hK K
            try simp only [Act.put, List.setIfInBounds_toArray, List.set_cons_zero, List.set_cons_succ]
            refine wpAnyIn_ready (rs := [10]) (by kernel_rfl) (by simp) ?_
            refine AllReadyIn.cons rfl (fun K hK => ?_) (AllReadyIn.nil)
            go_simp
            try refine hK _ _ ?_
            clear hK K
            try simp only [Act.put, List.setIfInBounds_toArray, List.set_cons_zero, List.set_cons_succ]
            refine wpAnyIn_take (i := 11) (v := ?_) rfl rfl (by kernel_rfl) (by kernel_rfl) (by kernel_rfl) (fun _ _ _ h => h) ⟨Or.inl ⟨by rfl, ?_⟩, fun _ => rfl⟩ ?_
            rotate_left 1
            · (intro w; go_simp; try with_reducible rfl)
            try simp only [Act.put, List.setIfInBounds_toArray, List.set_cons_zero, List.set_cons_succ]
            refine wpAnyIn_take (i := 12) (v := ?_) rfl rfl (by kernel_rfl) (by kernel_rfl) (by kernel_rfl) (fun _ _ _ h => h) ⟨Or.inl ⟨by rfl, ?_⟩, fun _ => rfl⟩ ?_
            rotate_left 1
            · (intro w; go_simp; try with_reducible rfl)
            try simp only [Act.put, List.setIfInBounds_toArray, List.set_cons_zero, List.set_cons_succ]
            refine wpAnyIn_ready (rs := [13]) (by kernel_rfl) (by simp) ?_
            refine AllReadyIn.cons rfl (fun K hK => ?_) (AllReadyIn.nil)
            go_simp
            try refine hK _ _ ?_
            clear hK K
            try simp only [Act.put, List.setIfInBounds_toArray, List.set_cons_zero, List.set_cons_succ]
            refine wpAnyIn_done (by kernel_rfl) ?_ _
            gi_wp2
            go_roundw
            case rel => exact ⟨.inr (.inl ⟨rfl, HRr.out.drew.set 0 _⟩), HC.out.1.trans ((KeepsOthers.drew _).trans (KeepsOthers.setCell _ _ _)), HC.out.2.trans (KeepU.trans ⟨(Below.refl _ _).drew, fun _ _ _ _ h => h⟩ (KeepU.set _ (by simp) (by have := hU.out; omega) _ _))⟩
            case measure => simp [RowKit.intOf]
          · go_simp
            try refine hK _ _ ?_
            clear hK K
            try simp only [Act.put, List.setIfInBounds_toArray, List.set_cons_zero, List.set_cons_succ]
            refine wpAnyIn_ready (rs := [2]) (by kernel_rfl) (by simp) ?_
            refine AllReadyIn.cons rfl (fun K hK => ?_) (AllReadyIn.nil)
            go_simp
            try refine hK _ _ ?_
            clear hK K
            try simp only [Act.put, List.setIfInBounds_toArray, List.set_cons_zero, List.set_cons_succ]
            refine wpAnyIn_take (i := 11) (v := ?_) rfl rfl (by kernel_rfl) (by kernel_rfl) (by kernel_rfl) (fun _ _ _ h => h) ⟨Or.inl ⟨by rfl, ?_⟩, fun _ => rfl⟩ ?_
            rotate_left 1
            · (intro w; go_simp; try with_reducible rfl)
            try simp only [Act.put, List.setIfInBounds_toArray, List.set_cons_zero, List.set_cons_succ]
            refine wpAnyIn_take (i := 12) (v := ?_) rfl rfl (by kernel_rfl) (by kernel_rfl) (by kernel_rfl) (fun _ _ _ h => h) ⟨Or.inl ⟨by rfl, ?_⟩, fun _ => rfl⟩ ?_
            rotate_left 1
            · (intro w; go_simp; try with_reducible rfl)
            try simp only [Act.put, List.setIfInBounds_toArray, List.set_cons_zero, List.set_cons_succ]
            refine wpAnyIn_ready (rs := [13]) (by kernel_rfl) (by simp) ?_
            refine AllReadyIn.cons rfl (fun K hK => ?_) (AllReadyIn.nil)
            go_simp
            try refine hK _ _ ?_
            clear hK K
            try simp only [Act.put, List.setIfInBounds_toArray, List.set_cons_zero, List.set_cons_succ]
            refine wpAnyIn_done (by kernel_rfl) ?_ _
            gi_wp2
            go_roundw
            case rel => exact ⟨.inr (.inl ⟨rfl, HRr.out.drew.set 0 _⟩), HC.out.1.trans ((KeepsOthers.drew _).trans (KeepsOthers.setCell _ _ _)), HC.out.2.trans (KeepU.trans ⟨(Below.refl _ _).drew, fun _ _ _ _ h => h⟩ (KeepU.set _ (by simp) (by have := hU.out; omega) _ _))⟩
            case measure => simp [RowKit.intOf]
      · have HRr := Lib.hid hr
        have u0 : wr.drew.cell? ⟨Ub, 1, none⟩ = some (.int .i64 a1) := Blk.cell hr 1
        have f0 : wr.drew.frozen? ⟨Ub, 1, none⟩ = false := Blk.free hr 1
        have d0 : wr.drew.cell? ⟨b, o + m * 15 + 2 + 1, none⟩ = some (.int .i64 (y.req 1)) := c3
        have z1 : wr.drew.cell? ⟨w.heap.size, 1, none⟩ = some (.slice (some ⟨b, o, none⟩) ps.length cb) := z1
        have hwr : IntKind.i64.wrap (a1 + y.req 1) = b1 := (IntWalk.i64_left _).trans HA1.out.symm
        have HC := Lib.hid (And.intro HKO.out HKU.out)
        clear hr c0 c1 c2 c3 c4 c5 c6 c7 c8 c9 c10 c11 c12 c13 c14
        gi_wp2
        refine region_round _ hmx (by rfl) ?_
        refine wpAnyIn_take (i := 0) (v := ?_) rfl rfl (by kernel_rfl) (by kernel_rfl) (by kernel_rfl) (fun _ _ _ h => h) ⟨Or.inl ⟨by rfl, ?_⟩, fun _ => rfl⟩ ?_
        rotate_left 1
        · (intro w; go_simp; try with_reducible rfl)
        try simp only [Act.put, List.setIfInBounds_toArray, List.set_cons_zero, List.set_cons_succ]
        refine wpAnyIn_take (i := 1) (v := ?_) rfl rfl (by kernel_rfl) (by kernel_rfl) (by kernel_rfl) (fun _ _ _ h => h) ⟨Or.inl ⟨by rfl, ?_⟩, fun _ => rfl⟩ ?_
        rotate_left 1
        · (intro w; go_simp; try with_reducible rfl)
        try simp only [Act.put, List.setIfInBounds_toArray, List.set_cons_zero, List.set_cons_succ]
        refine wpAnyIn_take (i := 3) (v := ?_) rfl rfl (by kernel_rfl) (by kernel_rfl) (by kernel_rfl) (fun _ _ _ h => h) ⟨Or.inl ⟨by rfl, ?_⟩, fun _ => rfl⟩ ?_
        rotate_left 1
        · (intro w; go_simp; try with_reducible rfl)
        try simp only [Act.put, List.setIfInBounds_toArray, List.set_cons_zero, List.set_cons_succ]
        refine wpAnyIn_take (i := 5) (v := ?_) rfl rfl (by kernel_rfl) (by kernel_rfl) (by kernel_rfl) (fun _ _ _ h => h) ⟨Or.inl ⟨by rfl, ?_⟩, fun _ => rfl⟩ ?_
        rotate_left 1
        · (intro w; go_simp; try with_reducible rfl)
        try simp only [Act.put, List.setIfInBounds_toArray, List.set_cons_zero, List.set_cons_succ]
        refine wpAnyIn_take (i := 6) (v := ?_) rfl rfl (by kernel_rfl) (by kernel_rfl) (by kernel_rfl) (fun _ _ _ h => h) ⟨Or.inl ⟨by rfl, ?_⟩, fun _ => rfl⟩ ?_
        rotate_left 1
        · (intro w; go_simp; try with_reducible rfl)
        try simp only [Act.put, List.setIfInBounds_toArray, List.set_cons_zero, List.set_cons_succ]
        refine wpAnyIn_ready (rs := [2, 4]) (by kernel_rfl) (by simp) ?_
        refine AllReadyIn.cons rfl (fun K hK => ?_) (AllReadyIn.cons rfl (fun K hK => ?_) (AllReadyIn.nil))
        · go_simp
          try refine hK _ _ ?_
          clear hK K
          try simp only [Act.put, List.setIfInBounds_toArray, List.set_cons_zero, List.set_cons_succ]
          refine wpAnyIn_ready (rs := [4]) (by kernel_rfl) (by simp) ?_
          refine AllReadyIn.cons rfl (fun K hK => ?_) (AllReadyIn.nil)
          go_simp
          try refine hK _ _ ?_
          clear hK K
          try simp only [Act.put, List.setIfInBounds_toArray, List.set_cons_zero, List.set_cons_succ]
          refine wpAnyIn_take (i := 7) (v := ?_) rfl rfl (by kernel_rfl) (by kernel_rfl) (by kernel_rfl) (fun _ _ _ h => h) ⟨Or.inl ⟨by rfl, ?_⟩, fun _ => rfl⟩ ?_
          rotate_left 1
          · (intro w; go_simp; try with_reducible rfl)
          try simp only [Act.put, List.setIfInBounds_toArray, List.set_cons_zero, List.set_cons_succ]
          refine wpAnyIn_take (i := 8) (v := ?_) rfl rfl (by kernel_rfl) (by kernel_rfl) (by kernel_rfl) (fun _ _ _ h => h) ⟨Or.inl ⟨by rfl, ?_⟩, fun _ => rfl⟩ ?_
          rotate_left 1
          · (intro w; go_simp; try with_reducible rfl)
          try simp only [Act.put, List.setIfInBounds_toArray, List.set_cons_zero, List.set_cons_succ]
          refine wpAnyIn_take (i := 9) (v := ?_) rfl rfl (by kernel_rfl) (by kernel_rfl) (by kernel_rfl) (fun _ _ _ h => h) ⟨Or.inl ⟨by rfl, ?_⟩, fun _ => rfl⟩ ?_
          rotate_left 1
          · (intro w; go_simp; try with_reducible rfl)
          try simp only [Act.put, List.setIfInBounds_toArray, List.set_cons_zero, List.set_cons_succ]
          refine wpAnyIn_ready (rs := [10]) (by kernel_rfl) (by simp) ?_
          refine AllReadyIn.cons rfl (fun K hK => ?_) (AllReadyIn.nil)
          go_simp
          try refine hK _ _ ?_
          clear hK K
          try simp only [Act.put, List.setIfInBounds_toArray, List.set_cons_zero, List.set_cons_succ]
          refine wpAnyIn_take (i := 11) (v := ?_) rfl rfl (by kernel_rfl) (by kernel_rfl) (by kernel_rfl) (fun _ _ _ h => h) ⟨Or.inl ⟨by rfl, ?_⟩, fun _ => rfl⟩ ?_
          rotate_left 1
          · (intro w; go_simp; try with_reducible rfl)
          try simp only [Act.put, List.setIfInBounds_toArray, List.set_cons_zero, List.set_cons_succ]
          refine wpAnyIn_take (i := 12) (v := ?_) rfl rfl (by kernel_rfl) (by kernel_rfl) (by kernel_rfl) (fun _ _ _ h => h) ⟨Or.inl ⟨by rfl, ?_⟩, fun _ => rfl⟩ ?_
          rotate_left 1
          · (intro w; go_simp; try with_reducible rfl)
          try simp only [Act.put, List.setIfInBounds_toArray, List.set_cons_zero, List.set_cons_succ]
          refine wpAnyIn_ready (rs := [13]) (by kernel_rfl) (by simp) ?_
          refine AllReadyIn.cons rfl (fun K hK => ?_) (AllReadyIn.nil)
          go_simp
          try refine hK _ _ ?_
          clear hK K
          try simp only [Act.put, List.setIfInBounds_toArray, List.set_cons_zero, List.set_cons_succ]
          refine wpAnyIn_done (by kernel_rfl) ?_ _
          gi_wp2
          go_roundw
          case rel => exact ⟨.inr (.inr ⟨rfl, HRr.out.drew.set 1 _⟩), HC.out.1.trans ((KeepsOthers.drew _).trans (KeepsOthers.setCell _ _ _)), HC.out.2.trans (KeepU.trans ⟨(Below.refl _ _).drew, fun _ _ _ _ h => h⟩ (KeepU.set _ (by simp) (by have := hU.out; omega) _ _))⟩
          case measure => simp [RowKit.intOf]
        · go_simp
          try refine hK _ _ ?_
          clear hK K
          try simp only [Act.put, List.setIfInBounds_toArray, List.set_cons_zero, List.set_cons_succ]
          refine wpAnyIn_take (i := 7) (v := ?_) rfl rfl (by kernel_rfl) (by kernel_rfl) (by kernel_rfl) (fun _ _ _ h => h) ⟨Or.inl ⟨by rfl, ?_⟩, fun _ => rfl⟩ ?_
          rotate_left 1
          · (intro w; go_simp; try with_reducible rfl)
          try simp only [Act.put, List.setIfInBounds_toArray, List.set_cons_zero, List.set_cons_succ]
          refine wpAnyIn_take (i := 8) (v := ?_) rfl rfl (by kernel_rfl) (by kernel_rfl) (by kernel_rfl) (fun _ _ _ h => h) ⟨Or.inl ⟨by rfl, ?_⟩, fun _ => rfl⟩ ?_
          rotate_left 1
          · (intro w; go_simp; try with_reducible rfl)
          try simp only [Act.put, List.setIfInBounds_toArray, List.set_cons_zero, List.set_cons_succ]
          refine wpAnyIn_take (i := 9) (v := ?_) rfl rfl (by kernel_rfl) (by kernel_rfl) (by kernel_rfl) (fun _ _ _ h => h) ⟨Or.inl ⟨by rfl, ?_⟩, fun _ => rfl⟩ ?_
          rotate_left 1
          · (intro w; go_simp; try with_reducible rfl)
          try simp only [Act.put, List.setIfInBounds_toArray, List.set_cons_zero, List.set_cons_succ]
          refine wpAnyIn_ready (rs := [2, 10]) (by kernel_rfl) (by simp) ?_
          refine AllReadyIn.cons rfl (fun K hK => ?_) (AllReadyIn.cons rfl (fun K hK => ?_) (AllReadyIn.nil))
          · go_simp
            try refine hK _ _ ?_
            clear hK K
            try simp only [Act.put, List.setIfInBounds_toArray, List.set_cons_zero, List.set_cons_succ]
            refine wpAnyIn_ready (rs := [10]) (by kernel_rfl) (by simp) ?_
            refine AllReadyIn.cons rfl (fun K hK => ?_) (AllReadyIn.nil)
            go_simp
            try refine hK _ _ ?_
            clear hK K
            try simp only [Act.put, List.setIfInBounds_toArray, List.set_cons_zero, List.set_cons_succ]
            refine wpAnyIn_take (i := 11) (v := ?_) rfl rfl (by kernel_rfl) (by kernel_rfl) (by kernel_rfl) (fun _ _ _ h => h) ⟨Or.inl ⟨by rfl, ?_⟩, fun _ => rfl⟩ ?_
            rotate_left 1
            · (intro w; go_simp; try with_reducible rfl)
            try simp only [Act.put, List.setIfInBounds_toArray, List.set_cons_zero, List.set_cons_succ]
            refine wpAnyIn_take (i := 12) (v := ?_) rfl rfl (by kernel_rfl) (by kernel_rfl) (by kernel_rfl) (fun _ _ _ h => h) ⟨Or.inl ⟨by rfl, ?_⟩, fun _ => rfl⟩ ?_
            rotate_left 1
            · (intro w; go_simp; try with_reducible rfl)
            try simp only [Act.put, List.setIfInBounds_toArray, List.set_cons_zero, List.set_cons_succ]
            refine wpAnyIn_ready (rs := [13]) (by kernel_rfl) (by simp) ?_
            refine AllReadyIn.cons rfl (fun K hK => ?_) (AllReadyIn.nil)
            go_simp
            try refine hK _ _ ?_
            clear hK K
            try simp only [Act.put, List.setIfInBounds_toArray, List.set_cons_zero, List.set_cons_succ]
            refine wpAnyIn_done (by kernel_rfl) ?_ _
            gi_wp2
            go_roundw
            case rel => exact ⟨.inr (.inr ⟨rfl, HRr.out.drew.set 1 _⟩), HC.out.1.trans ((KeepsOthers.drew _).trans (KeepsOthers.setCell _ _ _)), HC.out.2.trans (KeepU.trans ⟨(Below.refl _ _).drew, fun _ _ _ _ h => h⟩ (KeepU.set _ (by simp) (by have := hU.out; omega) _ _))⟩
            case measure => simp [RowKit.intOf]
          · go_simp
            try refine hK _ _ ?_
            clear hK K
            try simp only [Act.put, List.setIfInBounds_toArray, List.set_cons_zero, List.set_cons_succ]
            refine wpAnyIn_ready (rs := [2]) (by kernel_rfl) (by simp) ?_
            refine AllReadyIn.cons rfl (fun K hK => ?_) (AllReadyIn.nil)
            go_simp
            try refine hK _ _ ?_
            clear hK K
            try simp only [Act.put, List.setIfInBounds_toArray, List.set_cons_zero, List.set_cons_succ]
            refine wpAnyIn_take (i := 11) (v := ?_) rfl rfl (by kernel_rfl) (by kernel_rfl) (by kernel_rfl) (fun _ _ _ h => h) ⟨Or.inl ⟨by rfl, ?_⟩, fun _ => rfl⟩ ?_
            rotate_left 1
            · (intro w; go_simp; try with_reducible rfl)
            try simp only [Act.put, List.setIfInBounds_toArray, List.set_cons_zero, List.set_cons_succ]
            refine wpAnyIn_take (i := 12) (v := ?_) rfl rfl (by kernel_rfl) (by kernel_rfl) (by kernel_rfl) (fun _ _ _ h => h) ⟨Or.inl ⟨by rfl, ?_⟩, fun _ => rfl⟩ ?_
            rotate_left 1
            · (intro w; go_simp; try with_reducible rfl)
            try simp only [Act.put, List.setIfInBounds_toArray, List.set_cons_zero, List.set_cons_succ]
            refine wpAnyIn_ready (rs := [13]) (by kernel_rfl) (by simp) ?_
            refine AllReadyIn.cons rfl (fun K hK => ?_) (AllReadyIn.nil)
            go_simp
            try refine hK _ _ ?_
            clear hK K
            try simp only [Act.put, List.setIfInBounds_toArray, List.set_cons_zero, List.set_cons_succ]
            refine wpAnyIn_done (by kernel_rfl) ?_ _
            gi_wp2
            go_roundw
            case rel => exact ⟨.inr (.inr ⟨rfl, HRr.out.drew.set 1 _⟩), HC.out.1.trans ((KeepsOthers.drew _).trans (KeepsOthers.setCell _ _ _)), HC.out.2.trans (KeepU.trans ⟨(Below.refl _ _).drew, fun _ _ _ _ h => h⟩ (KeepU.set _ (by simp) (by have := hU.out; omega) _ _))⟩
            case measure => simp [RowKit.intOf]
      · have HC := Lib.hid (And.intro HKO.out HKU.out)
        have HUr := Lib.hid hr
        clear hr c0 c1 c2 c3 c4 c5 c6 c7 c8 c9 c10 c11 c12 c13 c14
        gi_wp2
        refine ⟨HC.out.1.from _, HC.out.2, ⟨?_, ?_, by rw [hb0.out, hb1.out]; exact HUr.out⟩, HB.out.trans HC.out.2.1⟩
        · exact HC.out.2.2 _ _ _ (by have := hU.out; simp; omega) HS.out
        · exact HC.out.2.2 _ _ _ (by have := hU.out; simp; omega) HR.out
  case done =>
    rintro D ys W hD hys ⟨⟨hS, hR, hUr⟩, hB⟩ hK
    rw [hys] at hUr
    have HE0 : Hid (sharesU ns ps p nd 0 = shareH (addW ps (onU p (nd : Int) p.length) 0) (x.cap 0)) := Lib.hid (HE.out 0)
    have HE1 : Hid (sharesU ns ps p nd 1 = shareH (addW ps (onU p (nd : Int) p.length) 1) (x.cap 1)) := Lib.hid (HE.out 1)
    have w0 := hwa.out 0 (by omega)
    have w1 := hwa.out 1 (by omega)
    have k0 := hcap.out 0 (by omega)
    have k1 := hcap.out 1 (by omega)
    generalize addW ps (onU p (nd : Int) p.length) 0 = u0 at HE0 hUr w0
    generalize addW ps (onU p (nd : Int) p.length) 1 = u1 at HE1 hUr w1
    have KS0 := Lib.hid (fun W' => hshare_any u0 (x.cap 0) W' (by omega) (by omega) (by omega) (by omega))
    have KS1 := Lib.hid (fun W' => hshare_any u1 (x.cap 1) W' (by omega) (by omega) (by omega) (by omega))
    rw [← HE0.out] at KS0
    rw [← HE1.out] at KS1
    clear w0 w1 k0 k1 HE HE0 HE1 hwa hcap hys
    obtain ⟨v0, hv0⟩ : ∃ v0, sharesU ns ps p nd 0 = v0 := ⟨_, rfl⟩
    rw [hv0] at KS0
    have hv0 := Lib.hid hv0
    obtain ⟨v1, hv1⟩ : ∃ v1, sharesU ns ps p nd 1 = v1 := ⟨_, rfl⟩
    rw [hv1] at KS1
    have hv1 := Lib.hid hv1
    have HS := Lib.hid hS
    have HR := Lib.hid hR
    have HU := Lib.hid hUr
    have HB := Lib.hid hB
    have HK := Lib.hid hK
    have HD := Lib.hid hD
    have XB0 := Lib.hid (Blk.new W (row2 0 0) 27)
    have HX1 : Hid (W.heap.size < (W.alloc (.cells (row2 0 0) 27)).heap.size) := Lib.hid (Blk.lt XB0.out)
    have BW0 := Lib.hid (below1 W (.cells (row2 0 0) 27))
    have HKl : D < W.heap.size := (Array.getElem?_eq_some_iff.1 hK).1
    have HDl := Lib.hid HKl
    have nd0 : (0 : Int) ≤ (nd : Int) := by omega
    have nd1 : (nd : Int) < (ns.length : Int) := by omega
    clear hS hR hUr hB hK hD HKl
    gi_upto_region 10 with fail
    try change Code.wpIn _ _ _ _ _ _ (W.alloc (.cells (row2 0 0) 27))
    have HS1 := Lib.hid (Blk.alloc HS.out (.cells (row2 0 0) 27))
    have HR1 := Lib.hid (Blk.alloc HR.out (.cells (row2 0 0) 27))
    have HU1 := Lib.hid (Blk.alloc HU.out (.cells (row2 0 0) 27))
    have HK1 : Hid ((W.alloc (.cells (row2 0 0) 27)).heap[D]? = some (.deferred (some []))) := Lib.hid ((BW0.out.block D HDl.out).trans HK.out)
    have HB1 : Hid (Below w.heap.size w (W.alloc (.cells (row2 0 0) 27))) := Lib.hid (HB.out.alloc HB.out.size _)
    generalize (W.alloc (.cells (row2 0 0) 27)) = W1 at XB0 HX1 HS1 HR1 HU1 HK1 HB1 ⊢
    obtain ⟨Xb, hXb⟩ : ∃ Xb, W.heap.size = Xb := ⟨_, rfl⟩
    rw [hXb] at XB0 HX1 ⊢
    have HXd : Hid (D < Xb ∧ Ub < Xb ∧ Rb < Xb ∧ w.heap.size < Rb) := Lib.hid ⟨by have := HDl.out; omega, by have := Blk.lt HU.out; omega, by have := Blk.lt HR.out; omega, hU.out.1⟩
    clear hXb HS HR HU HK HB BW0 HDl
    gi_wp2_with fail
    gi_loopw [33] (fun i wr => ((i = .int .i64 0 ∧ Blk wr Xb (row2 0 0) 27) ∨ (i = .int .i64 1 ∧ Blk wr Xb (row2 v0 0) 27) ∨ (i = .int .i64 2 ∧ Blk wr Xb (row2 v0 v1) 27)) ∧ Blk wr w.heap.size (snapC A B C ca cb cc ns ps os) 26 ∧ Blk wr Rb (row2 0 0) 27 ∧ Blk wr Ub (row2 u0 u1) 27 ∧ wr.heap[D]? = some (.deferred (some [])) ∧ Below w.heap.size w wr) (fun i _ => 2 - (RowKit.intOf i).toNat)
    case atStart => exact ⟨.inl ⟨rfl, XB0.out⟩, HS1.out, HR1.out, HU1.out, HK1.out, HB1.out⟩
    case round =>
      clear XB0 HS1 HR1 HU1 HK1 HB1
      obtain ⟨hir, hs, hr, hu, hk, hb⟩ := hrel
      have SB := Lib.hid hs
      have RB := Lib.hid hr
      have UB := Lib.hid hu
      have DB := Lib.hid hk
      have HBr := Lib.hid hb
      clear hs hr hu hk hb
      obtain ⟨b, o, hA, hbl, c0, c1, c2, c3, c4, c5, c6, c7, c8, c9⟩ := atN (H.out.below HBr.out).n.cells HX.out
      obtain ⟨b', o', hA', hbw, _⟩ := atN H.out.n.cells HX.out
      rw [hA] at hA'
      cases hA'
      subst hA
      have z0 : wr.cell? ⟨w.heap.size, 0, none⟩ = some (.slice (some ⟨b, o, none⟩) ns.length ca) := Blk.cell SB.out 0
      rcases hir with ⟨rfl, hX⟩ | ⟨rfl, hX⟩ | ⟨rfl, hX⟩
      · have XB := Lib.hid hX
        have HC0 := Lib.hid (fun W' (hb : Below wr.heap.size wr W') => (show W'.cell? ⟨Ub, 0, none⟩ = some (.int .i64 u0) ∧ W'.cell? ⟨w.heap.size, 0, none⟩ = some (.slice (some ⟨b, o, none⟩) ns.length ca) ∧ W'.cell? ⟨b, o + nd * 10 + 1 + 0, none⟩ = some (.int .i64 (x.cap 0)) from ⟨Blk.cell (UB.out.below hb UB.out.lt) 0, Blk.cell (SB.out.below hb SB.out.lt) 0, (hb.cell (p := ⟨b, o + nd * 10 + 1 + 0, none⟩) hbl).trans c1⟩))
        have HD0 : Hid (Below wr.heap.size wr wr.drew) := Lib.hid ((Below.refl _ wr).drew)
        have s0 := HC0.out _ HD0.out
        clear hX c0 c1 c2 c3 c4 c5 c6 c7 c8 c9
        gi_wp2
        refine wpIn_wide.2 ?_
        go_region_held3 (fun w' => w'.cell? ⟨Ub, 0, none⟩ = some (.int .i64 u0) ∧ w'.cell? ⟨w.heap.size, 0, none⟩ = some (.slice (some ⟨b, o, none⟩) ns.length ca) ∧ w'.cell? ⟨b, o + nd * 10 + 1 + 0, none⟩ = some (.int .i64 (x.cap 0)))
          (first | exact s0 | exact s1 | exact s2)
          ((go_at_call 97; (with_reducible refine (KS0.out _).mono ?_); rintro e wA ⟨rfl, hbA⟩; have HDA := Lib.hid (HD0.out.trans (hbA.mono HD0.out.size)); have s1 := HC0.out _ HDA.out; have XA := Lib.hid (XB.out.below HDA.out XB.out.lt); have x0 := Blk.cell XA.out 0; have g0 := Blk.free XA.out 0; have s2 := And.intro (Blk.cell ((UB.out.below HDA.out UB.out.lt).oth (show Ub ≠ Xb by have := HXd.out; omega) 0 (.int .i64 v0)) 0) (And.intro (Blk.cell ((SB.out.below HDA.out SB.out.lt).oth (show w.heap.size ≠ Xb by have := HXd.out; omega) 0 (.int .i64 v0)) 0) ((((Below.refl w.heap.size wA).setCell (p := ⟨Xb, 0, none⟩) (show w.heap.size ≤ Xb by have := HXd.out; omega) (.int .i64 v0)).cell (p := ⟨b, o + nd * 10 + 1 + 0, none⟩) hbw).trans s1.2.2)); clear hbA))
        all_goals
          gi_wp2
          go_roundw
          case rel => exact ⟨.inr (.inl ⟨rfl, XA.out.set 0 _⟩), (SB.out.below HDA.out SB.out.lt).oth (by have := HXd.out; omega) 0 _, (RB.out.below HDA.out RB.out.lt).oth (by have := HXd.out; omega) 0 _, (UB.out.below HDA.out UB.out.lt).oth (by have := HXd.out; omega) 0 _, (KeepsOthers.setCell _ _ _).same D _ ((HDA.out.block D (Array.getElem?_eq_some_iff.1 DB.out).1).trans DB.out) rfl, (HBr.out.trans (HDA.out.mono HBr.out.size)).setCell (p := ⟨Xb, 0, none⟩) (show w.heap.size ≤ Xb by have := HXd.out; omega) _⟩
          case measure => simp [RowKit.intOf]
      · have XB := Lib.hid hX
        have HC0 := Lib.hid (fun W' (hb : Below wr.heap.size wr W') => (show W'.cell? ⟨Ub, 1, none⟩ = some (.int .i64 u1) ∧ W'.cell? ⟨w.heap.size, 0, none⟩ = some (.slice (some ⟨b, o, none⟩) ns.length ca) ∧ W'.cell? ⟨b, o + nd * 10 + 1 + 1, none⟩ = some (.int .i64 (x.cap 1)) from ⟨Blk.cell (UB.out.below hb UB.out.lt) 1, Blk.cell (SB.out.below hb SB.out.lt) 0, (hb.cell (p := ⟨b, o + nd * 10 + 1 + 1, none⟩) hbl).trans c2⟩))
        have HD0 : Hid (Below wr.heap.size wr wr.drew) := Lib.hid ((Below.refl _ wr).drew)
        have s0 := HC0.out _ HD0.out
        clear hX c0 c1 c2 c3 c4 c5 c6 c7 c8 c9
        gi_wp2
        refine wpIn_wide.2 ?_
        go_region_held3 (fun w' => w'.cell? ⟨Ub, 1, none⟩ = some (.int .i64 u1) ∧ w'.cell? ⟨w.heap.size, 0, none⟩ = some (.slice (some ⟨b, o, none⟩) ns.length ca) ∧ w'.cell? ⟨b, o + nd * 10 + 1 + 1, none⟩ = some (.int .i64 (x.cap 1)))
          (first | exact s0 | exact s1 | exact s2)
          ((go_at_call 97; (with_reducible refine (KS1.out _).mono ?_); rintro e wA ⟨rfl, hbA⟩; have HDA := Lib.hid (HD0.out.trans (hbA.mono HD0.out.size)); have s1 := HC0.out _ HDA.out; have XA := Lib.hid (XB.out.below HDA.out XB.out.lt); have x0 := Blk.cell XA.out 1; have g0 := Blk.free XA.out 1; have s2 := And.intro (Blk.cell ((UB.out.below HDA.out UB.out.lt).oth (show Ub ≠ Xb by have := HXd.out; omega) 1 (.int .i64 v1)) 1) (And.intro (Blk.cell ((SB.out.below HDA.out SB.out.lt).oth (show w.heap.size ≠ Xb by have := HXd.out; omega) 1 (.int .i64 v1)) 0) ((((Below.refl w.heap.size wA).setCell (p := ⟨Xb, 1, none⟩) (show w.heap.size ≤ Xb by have := HXd.out; omega) (.int .i64 v1)).cell (p := ⟨b, o + nd * 10 + 1 + 1, none⟩) hbw).trans s1.2.2)); clear hbA))
        all_goals
          gi_wp2
          go_roundw
          case rel => exact ⟨.inr (.inr ⟨rfl, XA.out.set 1 _⟩), (SB.out.below HDA.out SB.out.lt).oth (by have := HXd.out; omega) 1 _, (RB.out.below HDA.out RB.out.lt).oth (by have := HXd.out; omega) 1 _, (UB.out.below HDA.out UB.out.lt).oth (by have := HXd.out; omega) 1 _, (KeepsOthers.setCell _ _ _).same D _ ((HDA.out.block D (Array.getElem?_eq_some_iff.1 DB.out).1).trans DB.out) rfl, (HBr.out.trans (HDA.out.mono HBr.out.size)).setCell (p := ⟨Xb, 1, none⟩) (show w.heap.size ≤ Xb by have := HXd.out; omega) _⟩
          case measure => simp [RowKit.intOf]
      · have x0 : wr.cell? ⟨Xb, 0, none⟩ = some (.int .i64 v0) := Blk.cell hX 0
        have x1 : wr.cell? ⟨Xb, 1, none⟩ = some (.int .i64 v1) := Blk.cell hX 1
        have r0 : wr.cell? ⟨Rb, 0, none⟩ = some (.int .i64 0) := Blk.cell RB.out 0
        have r1 : wr.cell? ⟨Rb, 1, none⟩ = some (.int .i64 0) := Blk.cell RB.out 1
        have f0 := Blk.free RB.out 0
        have f1 := Blk.free RB.out 1
        have HZ : Hid (Blk ((wr.setCell ⟨Rb, 0, none⟩ (.int .i64 v0)).setCell ⟨Rb, 1, none⟩ (.int .i64 v1)) Rb (row2 v0 v1) 27) := Lib.hid ((RB.out.set 0 _).set 1 _)
        have HO : Hid (KeepsOthers wr ((wr.setCell ⟨Rb, 0, none⟩ (.int .i64 v0)).setCell ⟨Rb, 1, none⟩ (.int .i64 v1))) := Lib.hid ((KeepsOthers.setCell _ _ _).trans (KeepsOthers.setCell _ _ _))
        have HB5 : Hid (Below w.heap.size w ((wr.setCell ⟨Rb, 0, none⟩ (.int .i64 v0)).setCell ⟨Rb, 1, none⟩ (.int .i64 v1))) := Lib.hid ((HBr.out.setCell (p := ⟨Rb, 0, none⟩) (show w.heap.size ≤ Rb by have := HXd.out; omega) _).setCell (p := ⟨Rb, 1, none⟩) (show w.heap.size ≤ Rb by have := HXd.out; omega) _)
        clear hX c0 c1 c2 c3 c4 c5 c6 c7 c8 c9 z0
        gi_wp2
        generalize ((wr.setCell ⟨Rb, 0, none⟩ (.int .i64 v0)).setCell ⟨Rb, 1, none⟩ (.int .i64 v1)) = W5 at HZ HO HB5 ⊢
        have hK5 := HO.out.same D _ DB.out rfl
        refine ⟨by simp, .inl ⟨_, _, rfl, run_takeDeferred hK5, ?_⟩⟩
        refine ⟨.agg (row2 v0 v1), results_row1 Tryz.results57 _ _ Rb _ _ _ _ rfl (row2_nc HZ.out (grownBy_putObj' _ D (.deferred none)) (fun r e => by cases e; exact ⟨_, hK5, rfl⟩)) Tryz.underlying27 rfl row2_size, by rw [hv0.out, hv1.out], ?_⟩
        exact HB5.out.trans (belowK_b (w := w) (Nat.le_refl _) W5 D _ _ (by have := HD.out; have := hU.out; have := hW0.out; omega) hK5 rfl rfl)
  case stop =>
    rintro D c pre W _ _ h _
    exact h.elim
end Go.Proofs.YticgcimcebdjlaaGreat

namespace Go.Proofs.YticgcimcebdjlaaGreat
open Go.RowKit Go.Shelf
attribute [local go_sem] Oper.semAt_some

/-- All that lay below n₀ lies as it lay, and so do the blocks named. -/
def KeepL (n₀ : Nat) (bs : List Nat) (W W' : World) : Prop := Below n₀ W W' ∧ ∀ b ∈ bs, ∀ (cs : Array Value) (t : TypeId), Blk W b cs t → Blk W' b cs t
theorem KeepL.refl (n₀ : Nat) (bs : List Nat) (W : World) : KeepL n₀ bs W W := ⟨Below.refl _ _, fun _ _ _ _ h => h⟩
theorem KeepL.trans {n₀ : Nat} {bs : List Nat} {A B C : World} (h : KeepL n₀ bs A B) (k : KeepL n₀ bs B C) : KeepL n₀ bs A C := ⟨h.1.trans k.1, fun b hb cs t h1 => k.2 b hb cs t (h.2 b hb cs t h1)⟩
theorem KeepL.below {n₀ : Nat} {bs : List Nat} {A B : World} (h : Below A.heap.size A B) (hn : n₀ ≤ A.heap.size) : KeepL n₀ bs A B := ⟨h.mono hn, fun _ _ _ _ h1 => h1.below h h1.lt⟩
theorem keepL_t {n₀ : Nat} {bs : List Nat} : ∀ {A B C : World}, KeepL n₀ bs A B → KeepL n₀ bs B C → KeepL n₀ bs A C := fun h k => h.trans k
theorem keepL_b {n₀ : Nat} {bs : List Nat} {w : World} (hB : n₀ ≤ w.heap.size) : ∀ (W : World) (l : Nat) (o o' : Obj), w.heap.size ≤ l → W.heap[l]? = some o → o.isCells = false → o.isWalk = false → KeepL n₀ bs W (W.putObj l o') := fun W l o o' hl ho hc hw =>
  ⟨belowK_b (w := w) hB W l o o' hl ho hc hw, fun b _ cs t h1 => blk_nc h1 (grownBy_putObj' W l o') (fun r e => by cases e; exact ⟨o, ho, hc⟩)⟩
/-- Is there that node, not lost? -/
def liveB (ns : List NodeD) (k : Nat) : Bool := match ns[k]? with
  | some x => !x.lost
  | none => false
/-- Those of the first k nodes that are not lost and are so. -/
def thatU (ns : List NodeD) (F : Nat → Bool) : Nat → List Nat
  | 0 => []
  | k + 1 => thatU ns F k ++ (if (liveB ns k && F k) = true then [k] else [])
theorem thatU_len (ns : List NodeD) (F : Nat → Bool) : ∀ k, (thatU ns F k).length ≤ k
  | 0 => Nat.le_refl _
  | k + 1 => by
    have := thatU_len ns F k
    rw [thatU, List.length_append]
    split <;> simp <;> omega
abbrev ThatNo (ns : List NodeD) (F : Nat → Bool) := { k : Nat // k < ns.length ∧ liveB ns k = true ∧ F k = true }

set_option maxRecDepth 100000 in
set_option maxHeartbeats 4000000 in
theorem that1_in (n : Nat) (hn : 1 ≤ n) (l Bs Bf n₀ ca cb cc : Nat) (bs : List Nat) (A B C : Option Addr) (ns : List NodeD) (ps : List PodD) (os : List OwnD) (f : FuncId) (lb : Array Value) (F : Nat → Bool) (hfe : ∀ args w, (callFunc f args).run Tryz.prog w = .ok (.enter f args) w) (hnl : ns.length ≤ 9223372036854775807) (J Jx : List (ThatNo ns F) → World → Prop)
    (hY : ∀ pre (x : ThatNo ns F) W, J pre W → pre.length < ns.length → YieldAt Fence.wide (n - 1) Tryz.prog l #[.int .i64 (x.1 : Int)] W fun e W' =>
      (e = .returned (.bool true) ∧ J (pre ++ [x]) W' ∧ KeepL n₀ bs W W') ∨ (e = .returned (.bool false) ∧ Jx (pre ++ [x]) W'))
    (W : World) (hJ : AbidesFrom W.heap.size J) (hBs : Blk W Bs (snapC A B C ca cb cc ns ps os) 26) (hBf : Blk W Bf #[.func (.func f) #[] lb] 110) (husS : Bs ∈ bs) (husF : Bf ∈ bs) (hn₀ : n₀ ≤ W.heap.size)
    (hs : ∀ W', Below n₀ W W' → La.SlAt W' A (cellsN ns))
    (hF : ∀ (k : Nat) W', k < ns.length → KeepL n₀ bs W W' → CallsIn Fence.wide (n - 1) Tryz.prog f (#[.int .i64 (k : Int)] ++ lb) W' fun e W'' => e = .returned (.bool (F k)) ∧ Below W'.heap.size W' W'') (h0 : J [] W) :
    CallsIn Fence.wide n Tryz.prog 148 #[.func (.yield l) #[] #[], .pointer (some ⟨Bs, 0, none⟩), .pointer (some ⟨Bf, 0, none⟩)] W fun e W' => (∃ v, e = .returned v) ∧
      ((∃ ys : List (ThatNo ns F), ys.map (·.1) = thatU ns F ns.length ∧ J ys W') ∨ (∃ pre : List (ThatNo ns F), True ∧ Jx pre W')) := by
  have HBs := Lib.hid hBs
  have HBf := Lib.hid hBf
  have HS := Lib.hid hs
  have HF := Lib.hid hF
  have HJ := Lib.hid hJ
  have HN := Lib.hid hn₀
  have z0 : W.cell? ⟨Bs, 0, none⟩ = some (.slice A ns.length ca) := Blk.cell hBs 0
  clear hBs hBf hs hF hJ hn₀
  refine callsIn_of_wp Tryz.func148 rfl trivial ?_ rfl
  simp only [Tryz.ntmps148, List.size_toArray, List.length_cons, List.length_nil, Nat.reduceAdd, Nat.reduceSub, Array.replicate_succ, Array.replicate_zero, List.push_toArray, List.append_toArray, List.nil_append, List.cons_append]
  gi_wp2
  gi_loopw [9] (fun i wr => ∃ (k : Nat) (pre : List (ThatNo ns F)), k ≤ ns.length ∧ i = .int .i64 k ∧ pre.map (·.1) = thatU ns F k ∧ J pre wr ∧ KeepL n₀ bs W wr) (fun i _ => ns.length - (RowKit.intOf i).toNat)
  case atStart => exact ⟨0, [], Nat.zero_le _, rfl, rfl, h0, KeepL.refl _ _ _⟩
  case round =>
    obtain ⟨k, pre, hk, rfl, hpre, hJs, hnx⟩ := hrel
    have HNX := Lib.hid hnx
    have HJs := Lib.hid hJs
    have hsz : n₀ ≤ wr.heap.size := Nat.le_trans HN.out hnx.1.size
    clear hnx hJs
    by_cases hlt : k < ns.length
    · obtain ⟨x, hx⟩ : ∃ x, ns[k]? = some x := ⟨ns[k], List.getElem?_eq_getElem hlt⟩
      obtain ⟨b, o, hA, hbl, c0, c1, c2, c3, c4, c5, c6, c7, c8, c9⟩ := atN (HS.out _ HNX.out.1) hx
      subst hA
      have k0 : (0 : Int) ≤ (k : Int) := by omega
      have k1 : (k : Int) < (ns.length : Int) := by omega
      have hlen : pre.length < ns.length := by
        have h1 := thatU_len ns F k
        have h2 : pre.length = (thatU ns F k).length := by rw [← hpre, List.length_map]
        omega
      have hlive : liveB ns k = !x.lost := by
        unfold liveB
        rw [hx]
      have HST : Hid (thatU ns F (k + 1) = thatU ns F k ++ (if (!x.lost && F k) = true then [k] else [])) := Lib.hid (by rw [thatU, hlive])
      have HPRE := Lib.hid hpre
      have HLI := Lib.hid hlive
      have B1 : Hid (Below wr.heap.size wr (wr.alloc (.cells (cellsN [x]).toArray 114))) := Lib.hid (below1 wr _)
      have Q1 : Hid (Blk (wr.alloc (.cells (cellsN [x]).toArray 114)) wr.heap.size (cellsN [x]).toArray 114) := Lib.hid (Blk.new wr _ _)
      have HK1 : Hid (KeepL n₀ bs W (wr.alloc (.cells (cellsN [x]).toArray 114))) := Lib.hid (HNX.out.trans (KeepL.below B1.out hsz))
      have HJ1 : Hid (J pre (wr.alloc (.cells (cellsN [x]).toArray 114))) := Lib.hid (HJ.out pre wr _ none HJs.out (grown_of_below B1.out none) (fun r e => by cases e))
      clear hx hpre hlive
      gi_upto_region 3 with fail
      clear c0 c1 c2 c3 c4 c5 c6 c7 c8 c9
      try change Code.wpIn _ _ _ _ _ _ (wr.alloc (.cells (cellsN [x]).toArray 114))
      generalize (wr.alloc (.cells (cellsN [x]).toArray 114)) = W1 at B1 Q1 HK1 HJ1 ⊢
      have l0 : W1.cell? ⟨wr.heap.size, 9, none⟩ = some (.bool x.lost) := Blk.cell Q1.out 9
      have fb : W1.cell? ⟨Bf, 0, none⟩ = some (.func (.func f) #[] lb) := Blk.cell (HK1.out.2 Bf husF _ _ HBf.out) 0
      by_cases hlost : x.lost = true
      · rw [hlost] at l0
        have HE : Hid (thatU ns F (k + 1) = thatU ns F k) := Lib.hid (by rw [HST.out, hlost]; simp)
        clear hlost
        gi_wp2
        refine ⟨fun _ h => (by cases h), ?_⟩
        gi_wp2
        go_roundw
        case rel => exact ⟨k + 1, pre, by omega, by go_num, by rw [HE.out, HPRE.out], HJ1.out, HK1.out⟩
        case measure => simp [RowKit.intOf]; omega
      · have hlost : x.lost = false := by simpa using hlost
        rw [hlost] at l0
        have KF := Lib.hid (HF.out k W1 hlt HK1.out)
        gi_wp2_with fail
        refine ⟨trivial, ?_⟩
        refine (KF.out).mono ?_
        rintro e W2 ⟨rfl, hb⟩
        have HK2 := Lib.hid (HK1.out.trans (KeepL.below hb (Nat.le_trans hsz B1.out.size)))
        have HJ2 : Hid (J pre W2) := Lib.hid (HJ.out pre W1 W2 none HJ1.out (grown_of_below hb none) (fun r e => by cases e))
        have hfk : F k = true ∨ F k = false := by cases F k <;> simp
        rcases hfk with hfk | hfk
        · have HE : Hid (thatU ns F (k + 1) = thatU ns F k ++ [k]) := Lib.hid (by rw [HST.out, hlost, hfk]; simp)
          obtain ⟨fn, tmps, assign, body, hy, hR⟩ := hY pre ⟨k, hlt, by rw [HLI.out, hlost]; rfl, hfk⟩ W2 HJ2.out hlen
          dsimp only at hy
          have HFK := Lib.hid hfk
          rw [hfk]
          clear hb l0 fb
          gi_wp2
          refine hR.mono ?_
          rintro e W3 (⟨rfl, hJ3, hk3⟩ | ⟨rfl, hJx3⟩)
          · gi_wp2
            go_roundw
            case rel => exact ⟨k + 1, pre ++ [⟨k, hlt, by rw [HLI.out, hlost]; rfl, HFK.out⟩], by omega, by go_num, by rw [HE.out, List.map_append, HPRE.out]; rfl, hJ3, HK2.out.trans hk3⟩
            case measure => simp [RowKit.intOf]; omega
          · gi_wp2
            refine bodyPost_ret (results_none rfl _ _ _) rfl ?_
            exact ⟨⟨_, rfl⟩, .inr ⟨_, trivial, hJx3⟩⟩
        · have HE : Hid (thatU ns F (k + 1) = thatU ns F k) := Lib.hid (by rw [HST.out, hfk]; simp)
          rw [hfk]
          clear hb l0 fb
          gi_wp2
          refine ⟨fun _ h => (by cases h), ?_⟩
          gi_wp2
          go_roundw
          case rel => exact ⟨k + 1, pre, by omega, by go_num, by rw [HE.out, HPRE.out], HJ2.out, HK2.out⟩
          case measure => simp [RowKit.intOf]; omega
    · obtain rfl : k = ns.length := by omega
      have HE := Lib.hid (And.intro hpre HJs.out)
      clear hpre
      gi_wp2
      go_end0
      exact ⟨⟨_, rfl⟩, .inl ⟨pre, HE.out.1, HE.out.2⟩⟩

set_option maxHeartbeats 1000000 in
theorem that_any (n : Nat) (A B C : Option Addr) (ca cb cc : Nat) (ns : List NodeD) (ps : List PodD) (os : List OwnD) (f : FuncId) (lb : Array Value) (w : World) :
    CallsIn Fence.wide n Tryz.prog 95 #[snapV A B C ca cb cc ns ps os, .func (.func f) #[] lb] w fun e w' => e = .returned (.func (.func 148) #[] #[.pointer (some ⟨w.heap.size, 0, none⟩), .pointer (some ⟨w.heap.size + 1, 0, none⟩)]) ∧ w' = (w.alloc (.cells (snapC A B C ca cb cc ns ps os) 26)).alloc (.cells #[.func (.func f) #[] lb] 110) := by
  refine callsIn_of_wp Tryz.func95 rfl trivial ?_ rfl
  simp only [Tryz.ntmps95, List.size_toArray, List.length_cons, List.length_nil, Nat.reduceAdd, Nat.reduceSub, Array.replicate_succ, Array.replicate_zero, List.push_toArray, List.append_toArray, List.nil_append, List.cons_append]
  gi_wp2
  go_ret
  exact ⟨rfl, rfl⟩
theorem that_stops (n : Nat) (hn : 1 ≤ n) (Bs Bf n₀ ca cb cc : Nat) (bs : List Nat) (A B C : Option Addr) (ns : List NodeD) (ps : List PodD) (os : List OwnD) (f : FuncId) (lb : Array Value) (F : Nat → Bool) (hfe : ∀ args w, (callFunc f args).run Tryz.prog w = .ok (.enter f args) w) (hnl : ns.length ≤ 9223372036854775807)
    (w0 w : World) (hw0 : w0.heap.size = n₀) (hb0 : Below n₀ w0 w) (hn₀ : n₀ ≤ w.heap.size) (hBs : Blk w Bs (snapC A B C ca cb cc ns ps os) 26) (hBf : Blk w Bf #[.func (.func f) #[] lb] 110) (husS : Bs ∈ bs) (husF : Bf ∈ bs)
    (hs : La.SlAt w0 A (cellsN ns))
    (hF : ∀ (k : Nat) W', k < ns.length → Below n₀ w0 W' → CallsIn Fence.wide (n - 1) Tryz.prog f (#[.int .i64 (k : Int)] ++ lb) W' fun e W'' => e = .returned (.bool (F k)) ∧ Below W'.heap.size W' W'') :
    SeqStopsK Fence.wide n Tryz.prog 148 #[.pointer (some ⟨Bs, 0, none⟩), .pointer (some ⟨Bf, 0, none⟩)] (fun x : ThatNo ns F => #[Value.int .i64 (x.1 : Int)]) (KeepL n₀ bs) (fun ys => ys.map (·.1) = thatU ns F ns.length) (fun _ => True) ns.length w := fun l J Jx W hW hJ _ hY h0 => by
  have hbW : Below n₀ w0 W := hb0.trans (hW.mono hn₀)
  subst hw0
  exact that1_in n hn l Bs Bf w0.heap.size ca cb cc bs A B C ns ps os f lb F hfe hnl J Jx hY W hJ (hBs.below hW hBs.lt) (hBf.below hW hBf.lt) husS husF hbW.size (fun W' hb' => hs.below (hbW.trans hb')) (fun k W' hk hb' => hF k W' hk (hbW.trans hb'.1)) h0
end Go.Proofs.YticgcimcebdjlaaGreat

namespace Go.Proofs.YticgcimcebdjlaaGreat
open Go.RowKit Go.Shelf
attribute [local go_sem] Oper.semAt_some

theorem own_ncH {w w' : World} {base : Nat} {e : TypeId} {size n : Nat} {v : Value} {xs : List Value} {row : Option Nat} (h : w.ownsRow base e size v n xs) (hg : w.grownBy w' row) (hr : ∀ r, row = some r → ∃ o : Obj, w.heap[r]? = some o ∧ o.isCells = false) : w'.ownsRow base e size v n xs := by
  refine h.kept hg ?_
  rcases h.2 with ⟨rfl, _⟩ | ⟨g, cap, cur, rfl, _, hgb, _⟩
  · exact .inl rfl
  · refine .inr fun e' => ?_
    obtain ⟨o, ho, hc⟩ := hr g (by simpa [Value.ownBlock] using e'.symm)
    rw [hgb] at ho
    cases ho
    cases hc
theorem own_blkH {w : World} {base : Nat} {e : TypeId} {size n : Nat} {v : Value} {xs : List Value} (h : w.ownsRow base e size v n xs) {j : Nat} {cs : Array Value} {t : TypeId} (hj : Blk w j cs t) (hne : t ≠ e) : v.ownBlock = none ∨ v.ownBlock ≠ some j := by
  rcases h.2 with ⟨rfl, _⟩ | ⟨g, cap, cur, rfl, _, hgb, _⟩
  · exact .inl rfl
  · refine .inr fun e' => ?_
    have : g = j := by simpa [Value.ownBlock] using e'
    subst this
    unfold Blk at hj
    rw [hj] at hgb
    cases hgb
    exact hne rfl
theorem otherH {w w' : World} {base : Nat} {e : TypeId} {size n : Nat} {v : Value} {xs : List Value} (ho : w.ownsRow base e size v n xs) (hg : w.grownBy w' v.ownBlock) {j : Nat} {cs : Array Value} {t : TypeId} (hj : Blk w j cs t) (hne : t ≠ e) : Blk w' j cs t := by
  refine (hg.block j hj.lt ?_).trans hj
  rcases own_blkH ho hj hne with h | h
  · intro e'
    rw [h] at e'
    cases e'
  · exact fun e' => h e'.symm
theorem own_setH {w : World} {base : Nat} {e : TypeId} {size n : Nat} {v : Value} {xs : List Value} (ho : w.ownsRow base e size v n xs) {j : Nat} {cs : Array Value} {t : TypeId} (hj : Blk w j cs t) (hne : t ≠ e) (i : Nat) (u : Value) : (w.setCell ⟨j, i, none⟩ u).ownsRow base e size v n xs := by
  obtain ⟨hl, h1 | ⟨g, cap, cur, hv, hb, hg, r⟩⟩ := ho
  · exact ⟨hl, .inl h1⟩
  · refine ⟨hl, .inr ⟨g, cap, cur, hv, hb, (Below.heap_setCell w ⟨j, i, none⟩ u g ?_).trans hg, r⟩⟩
    rintro rfl
    unfold Blk at hj
    rw [hj] at hg
    cases hg
    exact hne rfl
theorem own_cellsH {w : World} {base : Nat} {e : TypeId} {size n : Nat} {v : Value} {xs : List Value} (h : w.ownsRow base e size v n xs) (j : Nat) (o : Obj) (hj : v.ownBlock = some j) (ho : w.heap[j]? = some o) : o.isCells = true := by
  rcases h.2 with ⟨rfl, _⟩ | ⟨g, cap, cur, rfl, _, hgb, _⟩
  · cases hj
  · have : g = j := by simpa [Value.ownBlock] using hj
    subst this
    rw [hgb] at ho
    cases ho
    rfl
/-- What pick tells. -/
def pickF (ns : List NodeD) (ps : List PodD) (os : List OwnD) (p : List Int) (F : Nat → Bool) : List Int := if placeE ns ps os p = 0 then (thatU ns F ns.length).map (fun k : Nat => (k : Int)) else []

set_option maxRecDepth 100000 in
set_option maxHeartbeats 1000000 in
theorem pick_no (A B C P : Option Addr) (ca cb cc cp : Nat) (ns : List NodeD) (ps : List PodD) (os : List OwnD) (p : List Int) (fv : Value) (w : World) (h : SnapIn w A B C ca cb cc ns ps os) (hp : IntsAt w P cp p) (hE : placeE ns ps os p ≠ 0) :
    Calls Tryz.prog 55 #[snapV A B C ca cb cc ns ps os, .slice P p.length cp, fv] w fun e w' => e = .returned (.slice none 0 0) ∧ Below w.heap.size w w' := by
  have B0 : Hid (Below w.heap.size w (w.alloc (.cells (snapC A B C ca cb cc ns ps os) 26))) := Lib.hid (below1 w _)
  have KC := Lib.hid (pcheck_in A B C P ca cb cc cp ns ps os p _ (h.low B0.out) (hp.below B0.out))
  generalize placeE ns ps os p = v at KC hE
  have hne : (v != 0) = true := by simpa using hE
  clear h hp hE
  go_enter Tryz.func55, Tryz.ntmps55
  go_wp2_with fail
  refine (KC.out).mono ?_
  rintro e w1 ⟨rfl, hb⟩
  have B1 := Lib.hid (B0.out.trans (hb.mono B0.out.size))
  clear hb
  go_wp2
  go_ret
  exact ⟨rfl, B1.out⟩

set_option maxRecDepth 100000 in
set_option maxHeartbeats 4000000 in
theorem pick_ok (A B C P : Option Addr) (ca cb cc cp : Nat) (ns : List NodeD) (ps : List PodD) (os : List OwnD) (p : List Int) (f : FuncId) (lb : Array Value) (F : Nat → Bool) (hfe : ∀ args w, (callFunc f args).run Tryz.prog w = .ok (.enter f args) w) (w : World) (h : SnapIn w A B C ca cb cc ns ps os) (hp : IntsAt w P cp p) (hE : placeE ns ps os p = 0)
    (hF : ∀ (k : Nat) W', k < ns.length → Below w.heap.size w W' → Calls Tryz.prog f (#[.int .i64 (k : Int)] ++ lb) W' fun e W'' => e = .returned (.bool (F k)) ∧ Below W'.heap.size W' W'') :
    Calls Tryz.prog 55 #[snapV A B C ca cb cc ns ps os, .slice P p.length cp, .func (.func f) #[] lb] w fun e w' => ∃ v, e = .returned v ∧ w'.ownsRow w.heap.size 3 1 v (thatU ns F ns.length).length (intsC ((thatU ns F ns.length).map (fun k : Nat => (k : Int)))) ∧ Below w.heap.size w w' := by
  have hfew := placeE_few hE
  have hnl : ns.length ≤ 8 := hfew.1
  have H := Lib.hid h
  have HF := Lib.hid hF
  have B0 : Hid (Below w.heap.size w (w.alloc (.cells (snapC A B C ca cb cc ns ps os) 26))) := Lib.hid (below1 w _)
  have S0 : Hid (Blk (w.alloc (.cells (snapC A B C ca cb cc ns ps os) 26)) w.heap.size (snapC A B C ca cb cc ns ps os) 26) := Lib.hid (Blk.new w _ _)
  have KC := Lib.hid ((callsIn_wide (n := 7)).2 (pcheck_in A B C P ca cb cc cp ns ps os p _ (h.low B0.out) (hp.below B0.out)))
  rw [hE] at KC
  clear h hp hF hE hfew
  obtain ⟨i0, hi0, hz0, hz1, hz2⟩ := info_parts Qu.int_info
  refine (callsIn_wide (n := 8)).1 ?_
  refine callsIn_of_wp_marks Tryz.func55 rfl trivial ?_ rfl
  simp only [Tryz.ntmps55, List.size_toArray, List.length_cons, List.length_nil, Nat.reduceAdd, Nat.reduceSub, Array.replicate_succ, Array.replicate_zero, List.push_toArray, List.append_toArray, List.nil_append, List.cons_append]
  gi_wp2_with fail
  refine ⟨trivial, ?_⟩
  refine (KC.out).mono ?_
  rintro e w1 ⟨rfl, hb⟩
  have B1 := Lib.hid (B0.out.trans (hb.mono B0.out.size))
  have S1 := Lib.hid (S0.out.below hb S0.out.lt)
  clear hb KC B0 S0
  gi_upto_region 4 with fail
  try change Code.wpIn _ _ _ _ _ _ (w1.alloc (.cells #[.slice none 0 0] 32))
  have N1 := Lib.hid (Blk.new w1 #[.slice none 0 0] 32)
  have S2 := Lib.hid (Blk.alloc S1.out (.cells #[.slice none 0 0] 32))
  have B2 : Hid (Below w.heap.size w (w1.alloc (.cells #[.slice none 0 0] 32))) := Lib.hid (B1.out.alloc B1.out.size _)
  have hN : Hid (w.heap.size < w1.heap.size) := Lib.hid (Blk.lt S1.out)
  have hN2 : Hid ((w1.alloc (.cells #[.slice none 0 0] 32)).heap.size = w1.heap.size + 1) := Lib.hid (by simp)
  generalize (w1.alloc (.cells #[.slice none 0 0] 32)) = w2 at N1 S2 B2 hN2 ⊢
  generalize w1.heap.size = Nb at N1 hN hN2 ⊢
  clear S1 B1
  have z0 : w2.cell? ⟨w.heap.size, 0, none⟩ = some (.slice A ns.length ca) := Blk.cell S2.out 0
  have z1 : w2.cell? ⟨w.heap.size, 1, none⟩ = some (.slice B ps.length cb) := Blk.cell S2.out 1
  have z2 : w2.cell? ⟨w.heap.size, 2, none⟩ = some (.slice C os.length cc) := Blk.cell S2.out 2
  gi_wp2_with fail
  refine ⟨trivial, ?_⟩
  refine (that_any _ A B C ca cb cc ns ps os f lb _).mono ?_
  rintro e w3 ⟨rfl, rfl⟩
  have N3 := Lib.hid (Blk.alloc (Blk.alloc N1.out (.cells (snapC A B C ca cb cc ns ps os) 26)) (.cells #[.func (.func f) #[] lb] 110))
  have Bs3 := Lib.hid (Blk.alloc (Blk.new w2 (snapC A B C ca cb cc ns ps os) 26) (.cells #[.func (.func f) #[] lb] 110))
  have Bf3 := Lib.hid (blk2 w2 (.cells (snapC A B C ca cb cc ns ps os) 26) #[.func (.func f) #[] lb] 110)
  have B3 : Hid (Below w.heap.size w ((w2.alloc (.cells (snapC A B C ca cb cc ns ps os) 26)).alloc (.cells #[.func (.func f) #[] lb] 110))) := Lib.hid (B2.out.trans ((Qu.below2 w2 _ _).mono B2.out.size))
  have hsz : Hid (((w2.alloc (.cells (snapC A B C ca cb cc ns ps os) 26)).alloc (.cells #[.func (.func f) #[] lb] 110)).heap.size = Nb + 3) := Lib.hid (by have := hN2.out; simp; omega)
  clear z0 z1 z2
  generalize ((w2.alloc (.cells (snapC A B C ca cb cc ns ps os) 26)).alloc (.cells #[.func (.func f) #[] lb] 110)) = W0 at N3 Bs3 Bf3 B3 hsz ⊢
  have hN2' := hN2.out
  rw [hN2'] at Bs3 Bf3 ⊢
  clear hN2' hN2 N1 S2 B2
  gi_wp2_with fail
  refine wpIn_rangeFunc_ownG (α := ThatNo ns F) rfl (by omega) (gf := 148) (lb := #[.pointer (some ⟨Nb + 1, 0, none⟩), .pointer (some ⟨Nb + 1 + 1, 0, none⟩)]) rfl trivial (enters_of Tryz.func148 (by kernel_rfl) rfl)
    (that_stops (8 - 1) (by omega) (Nb + 1) (Nb + 1 + 1) w.heap.size ca cb cc [Nb + 1, Nb + 1 + 1] A B C ns ps os f lb F hfe (by omega) w W0 rfl B3.out B3.out.size Bs3.out Bf3.out (by simp) (by simp) H.out.n.cells (fun k W' hk hb => (callsIn_wide (n := 8 - 1 - 1)).2 (HF.out k W' hk hb)))
    keepL_t (keepL_b B3.out.size) (Below.refl _ _) (fun _ => rfl)
    (fun pre W => (∃ v, Blk W Nb #[v] 32 ∧ W.ownsRow w.heap.size 3 1 v pre.length (intsC (pre.map (fun y => ((y.1 : Nat) : Int)))) ∧ Blk W (Nb + 1) (snapC A B C ca cb cc ns ps os) 26 ∧ Blk W (Nb + 1 + 1) #[.func (.func f) #[] lb] 110) ∧ Below w.heap.size w W)
    (fun _ _ _ => False)
    (OwnFrom.and (fun s X Y row hs hg hr => by
      obtain ⟨v, h1, h2, h3, h4⟩ := hs
      exact ⟨v, blk_nc h1 hg (fun r e => (hr r e).2), own_ncH h2 hg (fun r e => (hr r e).2), blk_nc h3 hg (fun r e => (hr r e).2), blk_nc h4 hg (fun r e => (hr r e).2)⟩) (ownFrom_below (Nat.le_refl _) B3.out.size))
    (fun _ _ _ _ _ hs _ _ => hs)
    ⟨⟨_, N3.out, World.ownsRow_nil _ _ _ _, Bs3.out, Bf3.out⟩, B3.out⟩
    (fun x => { tmps := #[snapV A B C ca cb cc ns ps os, Value.slice P p.length cp, Value.func (Fn.func f) #[] lb,
          Value.pointer (some { block := w.heap.size, off := 0 }), undef, undef, Value.slice none 0 0,
          Value.pointer (some { block := Nb, off := 0 }), .int .i64 (x.1 : Int),
          Value.agg #[Value.slice A ns.length ca, Value.slice B ps.length cb, Value.slice C os.length cc],
          Value.slice P p.length cp, Value.int IntKind.i64 0, Value.bool false,
          Value.agg #[Value.slice A ns.length ca, Value.slice B ps.length cb, Value.slice C os.length cc],
          Value.func (Fn.func f) #[] lb,
          Value.func (Fn.func 148) #[]
            #[Value.pointer (some { block := Nb + 1, off := 0 }),
              Value.pointer (some { block := Nb + 1 + 1, off := 0 })],
          .int .i64 (x.1 : Int), undef, undef, undef, undef, undef], defers := [] }) ?assign ?body ?done ?stop
  case assign =>
    intro l x W K hK
    gi_wp2
    exact hK
  case body =>
    rintro l pre ⟨m, hm⟩ W ⟨⟨v, hV, hO, hS, hFb⟩, hB⟩ hlen
    obtain ⟨xs, hxs⟩ : ∃ xs, intsC (pre.map (fun y => ((y.1 : Nat) : Int))) = xs := ⟨_, rfl⟩
    rw [hxs] at hO
    have HXS := Lib.hid hxs
    obtain ⟨pl, hpl⟩ : ∃ pl, pre.length = pl := ⟨_, rfl⟩
    rw [hpl] at hO hlen
    have HPL := Lib.hid hpl
    have HV := Lib.hid hV
    have HO := Lib.hid hO
    have HS := Lib.hid hS
    have HFb := Lib.hid hFb
    have HB := Lib.hid hB
    have v0 : W.cell? ⟨Nb, 0, none⟩ = some v := Blk.cell hV 0
    have hk1 : pl + 1 ≤ maxLen := by unfold maxLen; omega
    have hk2 : (pl + 1) * 8 ≤ 140737488355328 := by omega
    have hsw : w.heap.size ≤ (W.alloc (.cells #[.int .i64 (m : Int)] 3)).heap.size := by have := hB.size; simp; omega
    clear hV hO hS hFb hB hxs hpl
    gi_wp2_with (first
      | (gi_at_builtin; refine wpListIn_append_own _ rfl _ _ 32 rfl w.heap.size 3 i0 (.int .i64 0) 1 8 Tryz.underlying32 hi0 hz0 hz1 hz2 rfl (by decide) _ _ _ rfl (HO.out.alloc _) ⟨W.heap.size, 0, none⟩ 1 1 [.int .i64 (m : Int)] rfl rfl ?c1 ?c2 hk1 hk2 hsw ?_))
    case c1 => exact cell_one_new _ _ _
    case c2 => intro u hu; simp at hu; subst hu; rfl
    intro v' w3 hown' hg3 _
    have ha0 := HO.out.alloc (.cells #[.int .i64 (m : Int)] 3)
    have NV := Lib.hid (otherH ha0 hg3 (Blk.alloc HV.out (.cells #[.int .i64 (m : Int)] 3)) (by decide))
    have NS := Lib.hid (otherH ha0 hg3 (Blk.alloc HS.out (.cells #[.int .i64 (m : Int)] 3)) (by decide))
    have NF := Lib.hid (otherH ha0 hg3 (Blk.alloc HFb.out (.cells #[.int .i64 (m : Int)] 3)) (by decide))
    have NB : Hid (Below w.heap.size w w3) := Lib.hid ((HB.out.alloc HB.out.size (.cells #[.int .i64 (m : Int)] 3)).grown hg3 hsw (fun k e => (ha0.lt k e).1))
    have NK : Hid (KeepsOthers W w3) := Lib.hid ((KeepsOthers.alloc W (.cells #[.int .i64 (m : Int)] 3)).trans (KeepsOthers.of_grownBy hg3 (fun j o e ho => own_cellsH ha0 j o e ho)))
    have NL : Hid (KeepL w.heap.size [Nb + 1, Nb + 1 + 1] W w3) := Lib.hid ⟨((Below.refl _ _).alloc HB.out.size (.cells #[.int .i64 (m : Int)] 3)).grown hg3 hsw (fun k e => (ha0.lt k e).1), fun b hb cs t h1 => by
      have h2 : Blk w3 b #[] t ∨ True := .inr trivial
      simp only [List.mem_cons, List.not_mem_nil, or_false] at hb
      rcases hb with rfl | rfl
      · have e := HS.out
        unfold Blk at e h1
        rw [e] at h1
        cases h1
        exact NS.out
      · have e := HFb.out
        unfold Blk at e h1
        rw [e] at h1
        cases h1
        exact NF.out⟩
    obtain ⟨G', cg, rfl, _⟩ := La.own_slice hown'
    have NO := Lib.hid hown'
    have n0 : w3.cell? ⟨Nb, 0, none⟩ = some v := Blk.cell NV.out 0
    have n1 : w3.frozen? ⟨Nb, 0, none⟩ = false := Blk.free NV.out 0
    clear hown' hg3 ha0 v0 hk1 hk2 hsw
    gi_wp2
    refine ⟨(NK.out.trans (KeepsOthers.setCell _ _ _)).from _, NL.out.trans ⟨(Below.refl _ _).setCell (p := ⟨Nb, 0, none⟩) (Nat.le_of_lt hN.out) _, fun b hb cs t h1 => h1.oth (by simp only [List.mem_cons, List.not_mem_nil, or_false] at hb; omega) 0 _⟩, ⟨.slice G' (pl + 1) cg, NV.out.set 0 _, ?_, NS.out.oth (by omega) 0 _, NF.out.oth (by omega) 0 _⟩, NB.out.setCell (p := ⟨Nb, 0, none⟩) (Nat.le_of_lt hN.out) _⟩
    have h9 := own_setH NO.out NV.out (by decide) 0 (.slice G' (pl + 1) cg)
    have e9 : intsC ((pre ++ [(⟨m, hm⟩ : ThatNo ns F)]).map (fun y => ((y.1 : Nat) : Int))) = xs ++ [.int .i64 (m : Int)] := by
      rw [← HXS.out]
      unfold intsC
      rw [List.map_append, List.map_append]
      rfl
    rw [e9, List.length_append, HPL.out]
    exact h9
  case done =>
    rintro D ys W hD hys ⟨⟨v, hV, hO, hS, hFb⟩, hB⟩ hK
    obtain ⟨G', cg, rfl, _⟩ := La.own_slice hO
    have HO := Lib.hid hO
    have HB := Lib.hid hB
    have HK := Lib.hid hK
    have HD := Lib.hid hD
    have HY := Lib.hid hys
    have v0 : W.cell? ⟨Nb, 0, none⟩ = some (.slice G' ys.length cg) := Blk.cell hV 0
    have hyl : ys.length = (thatU ns F ns.length).length := by rw [← hys, List.length_map]
    have HYL := Lib.hid hyl
    clear hV hO hS hFb hB hK hD hys hyl
    gi_wp2
    refine ⟨by simp, .inl ⟨_, _, rfl, run_takeDeferred HK.out, ?_⟩⟩
    refine ⟨_, results_tmp rfl _ _ _, _, rfl, ?_, HB.out.trans (belowK_b (w := w) (Nat.le_refl _) W D _ _ (by have := HD.out; have := B3.out.size; omega) HK.out rfl rfl)⟩
    rw [← HYL.out, ← HY.out, List.map_map]
    exact ownsRow_putObj HO.out _ HK.out rfl
  case stop =>
    rintro D c pre W _ _ h _
    exact h.elim
end Go.Proofs.YticgcimcebdjlaaGreat

namespace Go.Proofs.YticgcimcebdjlaaGreat
open Go.RowKit

/-- A policy. -/
structure Pol where
  l0 : Int
  l1 : Int
  h0 : Int
  h1 : Int
  on : Int
  drain : List (List UInt8)
  mx : Int
  tr : Int
  rb : Bool
/-- Its value, with the list of names at A. -/
abbrev valG (g : Pol) (A : Option Addr) (c : Nat) : Value := .agg #[.int .i64 g.l0, .int .i64 g.l1, .int .i64 g.h0, .int .i64 g.h1, .int .i64 g.on, .slice A g.drain.length c, .int .i64 g.mx, .int .i64 g.tr, .bool g.rb]
/-- A list of names lies in memory. -/
structure NamesAt (w : World) (A : Option Addr) (c : Nat) (l : List (List UInt8)) : Prop where
  cells : La.SlAt w A (strC l)
  le : l.length ≤ c
  most : c ≤ 9223372036854775807
  big : ∀ x ∈ l, x.length ≤ 9223372036854775807
theorem NamesAt.below {w w' : World} {A : Option Addr} {c : Nat} {l : List (List UInt8)} (h : NamesAt w A c l) (hb : Below w.heap.size w w') : NamesAt w' A c l := ⟨h.cells.below hb, h.le, h.most, h.big⟩

def upB (n m : Int) : Bool := decide (0 ≤ n) && decide (n ≤ m)
def sharesB (l0 l1 h0 h1 : Int) : Bool := upB h0 1000 && upB l0 h0 && (upB h1 1000 && upB l1 h1)
def drainB (l : List (List UInt8)) : Bool := decide (l.length ≤ 8) && namesB l
/-- May a policy be? -/
def polB (g : Pol) : Bool := sharesB g.l0 g.l1 g.h0 g.h1 && upB g.on 31 && drainB g.drain && upB g.mx 48 && upB g.tr 8
def checkG (g : Pol) : Int := if polB g then 0 else 60

theorem upTo_any (n m : Int) (w : World) :
    Calls Tryz.prog 43 #[.int .i64 n, .int .i64 m] w fun e w' => e = .returned (.bool (upB n m)) ∧ w' = w := by
  by_cases h0 : (0 : Int) ≤ n
  · by_cases h1 : n ≤ m
    · have hv : upB n m = true := by simp [upB, h0, h1]
      rw [hv]
      go_enter Tryz.func43, Tryz.ntmps43
      go_wp2
      go_ret
      exact ⟨rfl, rfl⟩
    · have hv : upB n m = false := by simp [upB, h1]
      rw [hv]
      go_enter Tryz.func43, Tryz.ntmps43
      go_wp2
      go_ret
      exact ⟨rfl, rfl⟩
  · have hv : upB n m = false := by simp [upB, h0]
    rw [hv]
    go_enter Tryz.func43, Tryz.ntmps43
    go_wp2
    go_ret
    exact ⟨rfl, rfl⟩

set_option maxRecDepth 100000 in
set_option maxHeartbeats 1000000 in
theorem shares2_any (l0 l1 h0 h1 : Int) (w : World) :
    Calls Tryz.prog 42 #[.agg #[.int .i64 l0, .int .i64 l1], .agg #[.int .i64 h0, .int .i64 h1]] w fun e w' => e = .returned (.bool (sharesB l0 l1 h0 h1)) ∧ Below w.heap.size w w' := by
  have K := Lib.hid (fun n m w => upTo_any n m w)
  have Hl0 := Lib.hid (show sharesB l0 l1 h0 h1 = (upB h0 1000 && upB l0 h0 && (upB h1 1000 && upB l1 h1)) from rfl)
  obtain ⟨R, hR⟩ : ∃ R, sharesB l0 l1 h0 h1 = R := ⟨_, rfl⟩
  rw [hR]
  have HR0 := Lib.hid hR
  clear hR
  obtain ⟨sv1, hu1⟩ : ∃ u, upB h0 1000 = u := ⟨_, rfl⟩
  obtain ⟨sv2, hu2⟩ : ∃ u, upB l0 h0 = u := ⟨_, rfl⟩
  obtain ⟨sv3, hu3⟩ : ∃ u, upB h1 1000 = u := ⟨_, rfl⟩
  obtain ⟨sv4, hu4⟩ : ∃ u, upB l1 h1 = u := ⟨_, rfl⟩
  have K1 : Hid (∀ w, Calls Tryz.prog 43 #[.int .i64 h0, .int .i64 1000] w fun e w' => e = .returned (.bool sv1) ∧ w' = w) := Lib.hid (fun w => by rw [← hu1]; exact upTo_any _ _ _)
  have K2 : Hid (∀ w, Calls Tryz.prog 43 #[.int .i64 l0, .int .i64 h0] w fun e w' => e = .returned (.bool sv2) ∧ w' = w) := Lib.hid (fun w => by rw [← hu2]; exact upTo_any _ _ _)
  have K3 : Hid (∀ w, Calls Tryz.prog 43 #[.int .i64 h1, .int .i64 1000] w fun e w' => e = .returned (.bool sv3) ∧ w' = w) := Lib.hid (fun w => by rw [← hu3]; exact upTo_any _ _ _)
  have K4 : Hid (∀ w, Calls Tryz.prog 43 #[.int .i64 l1, .int .i64 h1] w fun e w' => e = .returned (.bool sv4) ∧ w' = w) := Lib.hid (fun w => by rw [← hu4]; exact upTo_any _ _ _)
  have HR : Hid (R = (sv1 && sv2 && (sv3 && sv4))) := Lib.hid (by rw [← HR0.out, Hl0.out, hu1, hu2, hu3, hu4])
  clear hu1 hu2 hu3 hu4 K Hl0 HR0
  have B0 : Hid (Below w.heap.size w ((w.alloc (.cells #[.int .i64 l0, .int .i64 l1] 27)).alloc (.cells #[.int .i64 h0, .int .i64 h1] 27))) := Lib.hid ((below1 w _).alloc (by simp) _)
  go_enter Tryz.func42, Tryz.ntmps42
  go_wp2_with fail
  have QL : Hid (Blk ((w.alloc (.cells #[.int .i64 l0, .int .i64 l1] 27)).alloc (.cells #[.int .i64 h0, .int .i64 h1] 27)) w.heap.size #[.int .i64 l0, .int .i64 l1] 27) := Lib.hid (Blk.alloc (Blk.new w _ _) _)
  have QH : Hid (Blk ((w.alloc (.cells #[.int .i64 l0, .int .i64 l1] 27)).alloc (.cells #[.int .i64 h0, .int .i64 h1] 27)) (w.heap.size + 1) #[.int .i64 h0, .int .i64 h1] 27) := Lib.hid (by have := Blk.new (w.alloc (.cells #[.int .i64 l0, .int .i64 l1] 27)) #[.int .i64 h0, .int .i64 h1] 27; simpa using this)
  generalize ((w.alloc (.cells #[.int .i64 l0, .int .i64 l1] 27)).alloc (.cells #[.int .i64 h0, .int .i64 h1] 27)) = W at B0 QL QH ⊢
  have hWl := Blk.lt QH.out
  go_loopw [6] (fun i wr => ∃ k : Nat, k ≤ 2 ∧ i = .int .i64 k ∧ (1 ≤ k → sv1 = true ∧ sv2 = true) ∧ (2 ≤ k → sv3 = true ∧ sv4 = true) ∧ Below W.heap.size W wr) (fun i _ => 2 - (intOf i).toNat)
  case atStart => exact ⟨0, by omega, rfl, fun h => by omega, fun h => by omega, Below.refl _ _⟩
  case round =>
    obtain ⟨k, hk, rfl, hp1, hp2, hbw⟩ := hrel
    have QL2 := Lib.hid (Blk.below QL.out hbw (by omega))
    have QH2 := Lib.hid (Blk.below QH.out hbw hWl)
    have HB := Lib.hid hbw
    have B2 := Lib.hid (B0.out.trans (hbw.mono B0.out.size))
    clear hbw
    have a0 : wr.cell? ⟨w.heap.size, 0, none⟩ = some (.int .i64 l0) := Blk.cell QL2.out 0
    have a1 : wr.cell? ⟨w.heap.size, 1, none⟩ = some (.int .i64 l1) := Blk.cell QL2.out 1
    have b0 : wr.cell? ⟨w.heap.size + 1, 0, none⟩ = some (.int .i64 h0) := Blk.cell QH2.out 0
    have b1 : wr.cell? ⟨w.heap.size + 1, 1, none⟩ = some (.int .i64 h1) := Blk.cell QH2.out 1
    rcases k with _ | _ | _ | k
    · clear a1 b1 K3 K4 hp1 hp2
      cases sv1
      · have HN : Hid (R = false) := Lib.hid (by rw [HR.out]; simp)
        go_wp2_with fail
        go_quiet ((go_at_call 43; exact Calls.quiet_of_same (K1.out _)))
        go_wp2
        go_ret
        exact ⟨La.retB HN.out.symm, belowN B2.out _⟩
      · cases sv2
        · have HN : Hid (R = false) := Lib.hid (by rw [HR.out]; simp)
          go_wp2_with fail
          go_quiet ((go_at_call 43; first | with_reducible exact Calls.quiet_of_same (K1.out _) | with_reducible exact Calls.quiet_of_same (K2.out _)))
          go_wp2
          go_ret
          exact ⟨La.retB HN.out.symm, belowN B2.out _⟩
        · go_wp2_with fail
          go_quiet ((go_at_call 43; first | with_reducible exact Calls.quiet_of_same (K1.out _) | with_reducible exact Calls.quiet_of_same (K2.out _)))
          go_wp2
          go_roundw
          case rel => exact ⟨1, by omega, by go_num, fun _ => by simp, fun h => by omega, belowN HB.out _⟩
          case measure => simp [intOf]
    · obtain ⟨e1, e2⟩ := hp1 (by omega)
      clear a0 b0 K1 K2 hp1 hp2
      subst e1 e2
      cases sv3
      · have HN : Hid (R = false) := Lib.hid (by rw [HR.out]; simp)
        go_wp2_with fail
        go_quiet ((go_at_call 43; exact Calls.quiet_of_same (K3.out _)))
        go_wp2
        go_ret
        exact ⟨La.retB HN.out.symm, belowN B2.out _⟩
      · cases sv4
        · have HN : Hid (R = false) := Lib.hid (by rw [HR.out]; simp)
          go_wp2_with fail
          go_quiet ((go_at_call 43; first | with_reducible exact Calls.quiet_of_same (K3.out _) | with_reducible exact Calls.quiet_of_same (K4.out _)))
          go_wp2
          go_ret
          exact ⟨La.retB HN.out.symm, belowN B2.out _⟩
        · go_wp2_with fail
          go_quiet ((go_at_call 43; first | with_reducible exact Calls.quiet_of_same (K3.out _) | with_reducible exact Calls.quiet_of_same (K4.out _)))
          go_wp2
          go_roundw
          case rel => exact ⟨2, by omega, by go_num, fun _ => by simp, fun _ => by simp, belowN HB.out _⟩
          case measure => simp [intOf]
    · obtain ⟨e1, e2⟩ := hp1 (by omega)
      obtain ⟨e3, e4⟩ := hp2 (by omega)
      subst e1 e2 e3 e4
      have HN : Hid (R = true) := Lib.hid (by rw [HR.out]; simp)
      clear hp1 hp2 a0 a1 b0 b1
      go_wp2
      go_ret
      exact ⟨La.retB HN.out.symm, B2.out⟩
    · omega

set_option maxRecDepth 100000 in
set_option maxHeartbeats 2000000 in
theorem drained_any (A : Option Addr) (c : Nat) (l : List (List UInt8)) (w : World) (hc : l.length ≤ c) (hcm : c ≤ 9223372036854775807) (hs : La.SlAt w A (strC l)) (hbig : ∀ x ∈ l, x.length ≤ 9223372036854775807) :
    Calls Tryz.prog 44 #[.slice A l.length c] w fun e w' => e = .returned (.bool (drainB l)) ∧ Below w.heap.size w w' := by
  have HS := Lib.hid hs
  have Hbig := Lib.hid hbig
  clear hs hbig
  by_cases h8 : 8 < l.length
  · have hv : drainB l = false := by simp [drainB]; omega
    rw [hv]
    have h8i : (8 : Int) < (l.length : Int) := by omega
    go_enter Tryz.func44, Tryz.ntmps44
    go_wp2
    go_ret
    exact ⟨rfl, Below.refl _ _⟩
  have hv : drainB l = namesB l := by simp [drainB]; omega
  rw [hv]
  have hl : l.length ≤ 8 := by omega
  have h8i : ¬ (8 : Int) < (l.length : Int) := by omega
  clear hv h8
  obtain ⟨R, hR⟩ : ∃ R, namesB l = R := ⟨_, rfl⟩
  rw [hR]
  have HR := Lib.hid hR
  clear hR
  go_enter Tryz.func44, Tryz.ntmps44
  go_wp2
  go_loopw [10] (fun i wr => ∃ k : Nat, k ≤ l.length ∧ i = .int .i64 k ∧ La.chkK La.nameB ltS l k = true ∧ Below w.heap.size w wr) (fun i _ => l.length - (intOf i).toNat)
  case atStart => exact ⟨0, by omega, rfl, rfl, Below.refl _ _⟩
  case round =>
    obtain ⟨k, hk, rfl, hp, hbw⟩ := hrel
    have Hp := Lib.hid hp
    have HB := Lib.hid hbw
    clear hp hbw
    by_cases hlt : k < l.length
    · obtain ⟨x, hxk⟩ : ∃ x, l[k]? = some x := ⟨l[k], List.getElem?_eq_getElem hlt⟩
      obtain ⟨b, o, hA, hb0, hx⟩ := strC_at (HS.out.below HB.out) hxk
      subst hA
      have hstep : La.chkK La.nameB ltS l (k + 1) = La.okAt La.nameB ltS l k x := by rw [La.chkK, Hp.out, hxk]; rfl
      have Hstep := Lib.hid hstep
      have KN := Lib.hid (La.nameB_any x wr (Hbig.out x (List.mem_of_getElem? hxk)))
      have Hxk := Lib.hid hxk
      have k0 : (0 : Int) ≤ (k : Int) := by omega
      have k1 : (k : Int) < (l.length : Int) := by omega
      clear hxk hstep
      go_wp2_with fail
      refine KN.out.mono ?_
      rintro e w3 ⟨rfl, hb3⟩
      have B3 := Lib.hid (HB.out.trans (hb3.mono HB.out.size))
      have Hb3 := Lib.hid hb3
      clear hb3 KN hx
      cases hnb : La.nameB x
      · have hno : R = false := by
          rw [← HR.out]
          exact La.chkK_false (k := k + 1) (by rw [Hstep.out]; exact La.okAt_no hnb) (by omega)
        have HNo := Lib.hid hno
        clear hno
        go_wp2
        go_ret
        exact ⟨La.retB HNo.out.symm, B3.out⟩
      · by_cases hz : k = 0
        · have hok := La.okAt_zero (mb := La.nameB) (ri := ltS) (l := l) (k := k) hnb hz
          have HO := Lib.hid hok
          have hz1 : ¬ (0 : Int) < (k : Int) := by omega
          have hz2 : decide ((0 : Int) < (k : Int)) = false := by simp; omega
          clear hok hz
          go_wp2_with fail
          go_roundw
          case rel => exact ⟨k + 1, by omega, by go_num, by rw [Hstep.out, HO.out], B3.out⟩
          case measure => simp [intOf]; omega
        · obtain ⟨y, hy⟩ : ∃ y, l[k - 1]? = some y := ⟨l[k - 1]'(by omega), List.getElem?_eq_getElem (by omega)⟩
          obtain ⟨b', o', hA', _, hyc⟩ := strC_at (HS.out.below B3.out) hy
          simp only [Option.some.injEq, Addr.mk.injEq] at hA'
          obtain ⟨rfl, rfl, _⟩ := hA'
          have hok := La.okAt_pos (mb := La.nameB) (ri := ltS) (l := l) (k := k) hnb hz hy
          have HO := Lib.hid hok
          have hz1 : (0 : Int) < (k : Int) := by omega
          obtain ⟨m, hm⟩ : ∃ m, k = m + 1 := ⟨k - 1, by omega⟩
          subst hm
          rw [Nat.add_sub_cancel] at hyc
          have m0 : (0 : Int) ≤ (m : Int) := by omega
          have m1 : (m : Int) < (l.length : Int) := by omega
          have m2 : ((m + 1 : Nat) : Int) - 1 = (m : Int) := by omega
          clear hok hz hy
          have hno0 : ltS y x = false → R = false := fun hls => by
            rw [← HR.out]
            exact La.chkK_false (k := m + 1 + 1) (by rw [Hstep.out, HO.out, hls]) (by omega)
          have HN0 := Lib.hid hno0
          clear hno0
          cases h1 : Op.bytesLess x y
          · cases h2 : (x == y)
            · have HL : Hid (ltS y x = true) := Lib.hid (by unfold ltS; rw [h1, h2]; rfl)
              go_wp2
              go_roundw
              case rel => exact ⟨m + 1 + 1, by omega, by go_num, by rw [Hstep.out, HO.out, HL.out], B3.out⟩
              case measure => simp [intOf]; omega
            · have HNo := Lib.hid (HN0.out (by unfold ltS; rw [h1, h2]; rfl))
              go_wp2
              go_ret
              exact ⟨La.retB HNo.out.symm, B3.out⟩
          · have HNo := Lib.hid (HN0.out (by unfold ltS; rw [h1]; rfl))
            go_wp2
            go_ret
            exact ⟨La.retB HNo.out.symm, B3.out⟩
    · obtain rfl : k = l.length := by omega
      have hyes : R = true := by rw [← HR.out]; exact Hp.out
      have HY := Lib.hid hyes
      clear hyes
      go_wp2
      go_ret
      exact ⟨La.retB HY.out.symm, HB.out⟩
abbrev cellsG (g : Pol) (A : Option Addr) (c : Nat) : Array Value := #[.int .i64 g.l0, .int .i64 g.l1, .int .i64 g.h0, .int .i64 g.h1, .int .i64 g.on, .slice A g.drain.length c, .int .i64 g.mx, .int .i64 g.tr, .bool g.rb]
set_option maxRecDepth 100000 in
set_option maxHeartbeats 1000000 in
theorem gcheck_any (g : Pol) (A : Option Addr) (c : Nat) (w : World) (h : NamesAt w A c g.drain) :
    Calls Tryz.prog 12 #[valG g A c] w fun e w' => e = .returned (.int .i64 (checkG g)) ∧ Below w.heap.size w w' := by
  obtain ⟨s1, h1⟩ : ∃ s, sharesB g.l0 g.l1 g.h0 g.h1 = s := ⟨_, rfl⟩
  obtain ⟨s2, h2⟩ : ∃ s, upB g.on 31 = s := ⟨_, rfl⟩
  obtain ⟨s3, h3⟩ : ∃ s, drainB g.drain = s := ⟨_, rfl⟩
  obtain ⟨s4, h4⟩ : ∃ s, upB g.mx 48 = s := ⟨_, rfl⟩
  obtain ⟨s5, h5⟩ : ∃ s, upB g.tr 8 = s := ⟨_, rfl⟩
  obtain ⟨R, hR⟩ : ∃ R, checkG g = R := ⟨_, rfl⟩
  have HR : Hid (R = if s1 && s2 && s3 && s4 && s5 then 0 else 60) := Lib.hid (by rw [← hR, ← h1, ← h2, ← h3, ← h4, ← h5]; rfl)
  have K1 : Hid (∀ w, Calls Tryz.prog 42 #[.agg #[.int .i64 g.l0, .int .i64 g.l1], .agg #[.int .i64 g.h0, .int .i64 g.h1]] w fun e w' => e = .returned (.bool s1) ∧ Below w.heap.size w w') := Lib.hid (fun w => by rw [← h1]; exact shares2_any _ _ _ _ _)
  have K2 : Hid (∀ w, Calls Tryz.prog 43 #[.int .i64 g.on, .int .i64 31] w fun e w' => e = .returned (.bool s2) ∧ w' = w) := Lib.hid (fun w => by rw [← h2]; exact upTo_any _ _ _)
  have K3 : Hid (∀ w', Below w.heap.size w w' → Calls Tryz.prog 44 #[.slice A g.drain.length c] w' fun e w'' => e = .returned (.bool s3) ∧ Below w'.heap.size w' w'') := Lib.hid (fun w' hb => by
    have h := h.below hb
    rw [← h3]
    exact drained_any A c g.drain w' h.le h.most h.cells h.big)
  have K4 : Hid (∀ w, Calls Tryz.prog 43 #[.int .i64 g.mx, .int .i64 48] w fun e w' => e = .returned (.bool s4) ∧ w' = w) := Lib.hid (fun w => by rw [← h4]; exact upTo_any _ _ _)
  have K5 : Hid (∀ w, Calls Tryz.prog 43 #[.int .i64 g.tr, .int .i64 8] w fun e w' => e = .returned (.bool s5) ∧ w' = w) := Lib.hid (fun w => by rw [← h5]; exact upTo_any _ _ _)
  rw [hR]
  clear hR h1 h2 h3 h4 h5
  have B0 : Hid (Below w.heap.size w (w.alloc (.cells (cellsG g A c) 30))) := Lib.hid (below1 w _)
  have Q0 : Hid (Blk (w.alloc (.cells (cellsG g A c) 30)) w.heap.size (cellsG g A c) 30) := Lib.hid (Blk.new w _ _)
  have hlt0 : w.heap.size < (w.alloc (.cells (cellsG g A c) 30)).heap.size := Blk.lt Q0.out
  clear h
  go_enter Tryz.func12, Tryz.ntmps12
  go_wp2_with fail
  refine (K1.out _).mono ?_
  rintro e w2 ⟨rfl, hb⟩
  have Q2 := Lib.hid (Q0.out.below hb hlt0)
  have B2 := Lib.hid (B0.out.trans (hb.mono (Nat.le_of_lt hlt0)))
  clear hb K1
  have hl2 := Blk.lt Q2.out
  have c4 : w2.cell? ⟨w.heap.size, 4, none⟩ = some (.int .i64 g.on) := Blk.cell Q2.out 4
  have c5 : w2.cell? ⟨w.heap.size, 5, none⟩ = some (.slice A g.drain.length c) := Blk.cell Q2.out 5
  cases s1
  · have HE : Hid (R = 60) := Lib.hid (by rw [HR.out]; simp)
    go_wp2
    go_ret
    exact ⟨congrArg (fun z => Ending.returned (.int .i64 z)) HE.out.symm, B2.out⟩
  · go_wp2_with fail
    refine (K2.out _).mono ?_
    rintro e w3 ⟨rfl, rfl⟩
    cases s2
    · have HE : Hid (R = 60) := Lib.hid (by rw [HR.out]; simp)
      go_wp2
      go_ret
      exact ⟨congrArg (fun z => Ending.returned (.int .i64 z)) HE.out.symm, B2.out⟩
    · go_wp2_with fail
      refine (K3.out _ B2.out).mono ?_
      rintro e w4 ⟨rfl, hb⟩
      have Q4 := Lib.hid (Q2.out.below hb hl2)
      have B4 := Lib.hid (B2.out.trans (hb.mono (Nat.le_of_lt hl2)))
      clear hb K3 c4 c5
      have c6 : w4.cell? ⟨w.heap.size, 6, none⟩ = some (.int .i64 g.mx) := Blk.cell Q4.out 6
      have c7 : w4.cell? ⟨w.heap.size, 7, none⟩ = some (.int .i64 g.tr) := Blk.cell Q4.out 7
      cases s3
      · have HE : Hid (R = 60) := Lib.hid (by rw [HR.out]; simp)
        go_wp2
        go_ret
        exact ⟨congrArg (fun z => Ending.returned (.int .i64 z)) HE.out.symm, B4.out⟩
      · go_wp2_with fail
        refine (K4.out _).mono ?_
        rintro e w5 ⟨rfl, rfl⟩
        cases s4
        · have HE : Hid (R = 60) := Lib.hid (by rw [HR.out]; simp)
          go_wp2
          go_ret
          exact ⟨congrArg (fun z => Ending.returned (.int .i64 z)) HE.out.symm, B4.out⟩
        · go_wp2_with fail
          refine (K5.out _).mono ?_
          rintro e w6 ⟨rfl, rfl⟩
          cases s5
          · have HE : Hid (R = 60) := Lib.hid (by rw [HR.out]; simp)
            go_wp2
            go_ret
            exact ⟨congrArg (fun z => Ending.returned (.int .i64 z)) HE.out.symm, B4.out⟩
          · have HE : Hid (R = 0) := Lib.hid (by rw [HR.out]; simp)
            go_wp2
            go_ret
            exact ⟨congrArg (fun z => Ending.returned (.int .i64 z)) HE.out.symm, B4.out⟩

/-- Where a name stands first. -/
def idxL (l : List (List UInt8)) (x : List UInt8) : Int := if x ∈ l then (l.idxOf x : Int) else -1
theorem idx_take {l : List (List UInt8)} {x : List UInt8} {k : Nat} (h : ∀ j, j < k → l[j]? ≠ some x) (hk : l[k]? = some x) : idxL l x = (k : Int) := by
  have hm : x ∈ l := List.mem_of_getElem? hk
  unfold idxL
  rw [if_pos hm]
  have h1 : l.idxOf x < l.length := List.idxOf_lt_length_iff.2 hm
  have h2 : l[l.idxOf x]? = some x := by rw [List.getElem?_eq_getElem h1]; simp
  rcases Nat.lt_trichotomy (l.idxOf x) k with h3 | h3 | h3
  · exact absurd h2 (h _ h3)
  · rw [h3]
  · have : l[k]? ≠ some x := by
      intro hk
      have hkl := (List.getElem?_eq_some_iff.1 hk)
      have := List.not_of_lt_findIdx (p := (· == x)) (xs := l) (i := k) (by simpa [List.idxOf] using h3)
      simp [hkl.2] at this
    exact absurd hk this
theorem idx_none {l : List (List UInt8)} {x : List UInt8} (h : ∀ j : Nat, l[j]? ≠ some x) : idxL l x = -1 := by
  unfold idxL
  rw [if_neg]
  intro hm
  obtain ⟨j, hj⟩ := List.getElem?_of_mem hm
  exact h j hj

set_option maxRecDepth 100000 in
set_option maxHeartbeats 1000000 in
theorem index_any (A : Option Addr) (c : Nat) (l : List (List UInt8)) (x : List UInt8) (w : World) (h : NamesAt w A c l) (hx : x.length ≤ 9223372036854775807) :
    Calls Tryz.prog 244 #[.slice A l.length c, strV x] w fun e w' => e = .returned (.int .i64 (idxL l x)) ∧ Below w.heap.size w w' := by
  have hl := Nat.le_trans h.le h.most
  have HS := Lib.hid h
  clear h
  go_enter Tryz.func244, Tryz.ntmps244
  go_wp2
  go_loopw [8] (fun i wr => ∃ k : Nat, k ≤ l.length ∧ i = .int .i64 k ∧ (∀ j, j < k → l[j]? ≠ some x) ∧ Below w.heap.size w wr) (fun i _ => l.length - (intOf i).toNat)
  case atStart => exact ⟨0, by omega, rfl, fun j hj => by omega, Below.refl _ _⟩
  case round =>
    obtain ⟨k, hk, rfl, hp, hbw⟩ := hrel
    have Hp := Lib.hid hp
    have HB := Lib.hid hbw
    clear hp hbw
    by_cases hlt : k < l.length
    · obtain ⟨y, hy⟩ : ∃ y, l[k]? = some y := ⟨l[k], List.getElem?_eq_getElem hlt⟩
      obtain ⟨b, o, hA, hb0, hyc⟩ := strC_at (HS.out.cells.below HB.out) hy
      subst hA
      have Hy := Lib.hid hy
      have k0 : (0 : Int) ≤ (k : Int) := by omega
      have k1 : (k : Int) < (l.length : Int) := by omega
      clear hy
      by_cases hq : x = y
      · subst hq
        have HE := Lib.hid (idx_take Hp.out Hy.out)
        go_wp2
        go_ret
        exact ⟨congrArg (fun z => Ending.returned (.int .i64 z)) HE.out.symm, HB.out⟩
      · have e3 : decide (x = y) = false := by simpa using hq
        have e4 : (x == y) = false := by simpa using hq
        have HQ := Lib.hid hq
        clear hq
        go_wp2
        go_roundw
        case rel =>
          refine ⟨k + 1, by omega, by go_num, fun j hj => ?_, HB.out⟩
          rcases Nat.lt_succ_iff_lt_or_eq.1 hj with h | rfl
          · exact Hp.out j h
          · rw [Hy.out]
            intro e
            cases e
            exact HQ.out rfl
        case measure => simp [intOf]; omega
    · obtain rfl : k = l.length := by omega
      have HE := Lib.hid (idx_none (l := l) (x := x) (fun j hj => Hp.out j (List.getElem?_eq_some_iff.1 hj).1 hj))
      go_wp2
      go_ret
      exact ⟨congrArg (fun z => Ending.returned (.int .i64 z)) HE.out.symm, HB.out⟩
theorem idx_in (l : List (List UInt8)) (x : List UInt8) : decide (0 ≤ idxL l x) = decide (x ∈ l) := by
  unfold idxL
  split
  · next h => simp [h]
  · next h => simp [h]
theorem contains_any (A : Option Addr) (c : Nat) (l : List (List UInt8)) (x : List UInt8) (w : World) (h : NamesAt w A c l) (hx : x.length ≤ 9223372036854775807) :
    Calls Tryz.prog 204 #[.slice A l.length c, strV x] w fun e w' => e = .returned (.bool (decide (x ∈ l))) ∧ Below w.heap.size w w' := by
  have K := Lib.hid (index_any A c l x w h hx)
  rw [← idx_in]
  generalize idxL l x = z at K ⊢
  clear h
  go_enter Tryz.func204, Tryz.ntmps204
  go_wp2_with fail
  refine K.out.mono ?_
  rintro e w2 ⟨rfl, hb⟩
  have HB := Lib.hid hb
  clear hb
  by_cases h0 : (0 : Int) ≤ z
  · go_wp2
    go_ret
    exact ⟨by simp [h0], HB.out⟩
  · go_wp2
    go_ret
    exact ⟨by simp [h0], HB.out⟩
theorem drains_any (g : Pol) (A : Option Addr) (c : Nat) (x : List UInt8) (w : World) (h : NamesAt w A c g.drain) (hx : x.length ≤ 9223372036854775807) :
    Calls Tryz.prog 197 #[valG g A c, strV x] w fun e w' => e = .returned (.bool (decide (x ∈ g.drain))) ∧ Below w.heap.size w w' := by
  have K : Hid (∀ w', Below w.heap.size w w' → Calls Tryz.prog 204 #[.slice A g.drain.length c, strV x] w' fun e w'' => e = .returned (.bool (decide (x ∈ g.drain))) ∧ Below w'.heap.size w' w'') := Lib.hid (fun w' hb => contains_any A c g.drain x w' (h.below hb) hx)
  generalize decide (x ∈ g.drain) = z at K ⊢
  have B0 : Hid (Below w.heap.size w (w.alloc (.cells (cellsG g A c) 30))) := Lib.hid (below1 w _)
  clear h
  go_enter Tryz.func197, Tryz.ntmps197
  go_wp2_with fail
  refine (K.out _ B0.out).mono ?_
  rintro e w2 ⟨rfl, hb⟩
  have HB := Lib.hid (B0.out.trans (hb.mono B0.out.size))
  clear hb
  go_wp2
  go_ret
  exact ⟨rfl, HB.out⟩
end Go.Proofs.YticgcimcebdjlaaGreat
