/- Who goes through the pods of a node, heat's own: the contracts of podsOn and of what it hands back. Condition: the numbers lie in memory. A region that draws its order, within a round of a range function: it goes as it would without the round, if it defers nothing. No conditions. A node's shares: the contract of heat's shares. Condition: the cluster and the numbers lie in memory, the placement may be, and there is the node. A node's shares, and its pods: the contracts of heat's Share and hasPods. Condition: the cluster and the numbers lie in memory. A pod more on a node: no share is less for it, no other node's is another; what fits is no more than the whole. In numbers only. The placement that a cluster itself tells, of any size: the contracts of Node, placeOf and Placement. Condition: the cluster lies in memory; a number for each of its pods does, too. The nodes that are not lost and are so: the contracts of nodesThat and of what it hands back. Condition: the nodes lie in memory, and what tells whether one is so tells it. The nodes that are picked: the contract of heat's pick. Condition: the cluster and the numbers lie in memory, and what tells whether a node is so tells it. -/
import Derived.Test.YtmdmjnffnjlgmaaA04
import Derived.Sort.CutIn
import Derived.OwnWalkIn

namespace Go.Proofs.Ytmdmjnffnjlgmaa
open Go.RowKit Go.Shelf
attribute [local go_sem] Oper.semAt_some

set_option maxRecDepth 100000 in
set_option maxHeartbeats 2000000 in
theorem on1_inH (n : Nat) (hn : 1 ≤ n) (l Bp Bn n₀ cp : Nat) (us : List Nat) (P : Option Addr) (p : List Int) (node : Int) (hfew : p.length ≤ 1000) (J Jx : List (AtNo p node) → World → Prop)
    (hY : ∀ pre (x : AtNo p node) W, J pre W → pre.length < p.length → YieldAt Fence.wide (n - 1) Try.prog l #[.int .i64 (x.1 : Int)] W fun e W' =>
      (e = .returned (.bool true) ∧ J (pre ++ [x]) W' ∧ KeepU n₀ us W W') ∨ (e = .returned (.bool false) ∧ Jx (pre ++ [x]) W'))
    (W : World) (hBp : W.cell? ⟨Bp, 0, none⟩ = some (.slice P p.length cp)) (hBn : Blk W Bn #[.int .i64 node] 3) (hus : Bn ∉ us)
    (hp : ∀ k x, p[k]? = some x → ∃ b o, P = some ⟨b, o, none⟩ ∧ b < n₀ ∧ W.cell? ⟨b, o + k, none⟩ = some (.int .i64 x)) (h0 : J [] W) :
    CallsIn Fence.wide n Try.prog 50 #[.func (.yield l) #[] #[], .pointer (some ⟨Bp, 0, none⟩), .pointer (some ⟨Bn, 0, none⟩)] W fun e W' => (∃ v, e = .returned v) ∧
      ((∃ ys : List (AtNo p node), ys.map (·.1) = onU p node p.length ∧ J ys W') ∨ (∃ pre : List (AtNo p node), True ∧ Jx pre W')) := by
  refine callsIn_of_wp Try.func50 rfl trivial ?_ rfl
  simp only [Try.ntmps50, List.size_toArray, List.length_cons, List.length_nil, Nat.reduceAdd, Nat.reduceSub, Array.replicate_succ, Array.replicate_zero, List.push_toArray, List.append_toArray, List.nil_append, List.cons_append]
  have HBn := Lib.hid hBn
  clear hBn
  gi_wp2
  gi_loopw [8] (fun i wr => ∃ (k : Nat) (pre : List (AtNo p node)), k ≤ p.length ∧ i = .int .i64 k ∧ pre.map (·.1) = onU p node k ∧ J pre wr ∧ KeepU n₀ us W wr) (fun i _ => p.length - (RowKit.intOf i).toNat)
  case atStart => exact ⟨0, [], Nat.zero_le _, rfl, rfl, h0, KeepU.refl _ _ _⟩
  case round =>
    obtain ⟨k, pre, hk, rfl, hpre, hJs, hnx⟩ := hrel
    by_cases hlt : k < p.length
    · obtain ⟨x, hx⟩ : ∃ x, p[k]? = some x := ⟨p[k], List.getElem?_eq_getElem hlt⟩
      obtain ⟨b, o, hA, hb, hc⟩ := hp k x hx
      subst hA
      have hcx : wr.cell? ⟨b, o + k, none⟩ = some (.int .i64 x) := (hnx.1.cell (p := ⟨b, o + k, none⟩) hb).trans hc
      have hnn : wr.cell? ⟨Bn, 0, none⟩ = some (.int .i64 node) := Blk.cell (hnx.2 Bn _ _ hus HBn.out) 0
      have k0 : (0 : Int) ≤ (k : Int) := by omega
      have k1 : (k : Int) < (p.length : Int) := by omega
      have hlen : pre.length < p.length := by
        have h1 := onU_len p node k
        have h2 : pre.length = (onU p node k).length := by rw [← hpre, List.length_map]
        omega
      have hstep : onU p node (k + 1) = onU p node k ++ (if x = node then [k] else []) := by
        rw [onU, hx]
        simp only [Option.some.injEq]
      by_cases hxn : x = node
      · subst hxn
        obtain ⟨fn, tmps, assign, body, hy, hR⟩ := hY pre ⟨k, hx⟩ wr hJs hlen
        dsimp only at hy
        rw [if_pos rfl] at hstep
        gi_wp2
        refine hR.mono ?_
        rintro e W3 (⟨rfl, hJ3, hk3⟩ | ⟨rfl, hJx3⟩)
        · gi_wp2
          go_roundw
          case rel => exact ⟨k + 1, pre ++ [⟨k, hx⟩], by omega, by go_num, by rw [hstep, List.map_append, hpre]; rfl, hJ3, hnx.trans hk3⟩
          case measure => simp [RowKit.intOf]; omega
        · gi_wp2
          refine bodyPost_ret (results_none rfl _ _ _) rfl ?_
          exact ⟨⟨_, rfl⟩, .inr ⟨pre ++ [⟨k, hx⟩], trivial, hJx3⟩⟩
      · rw [if_neg hxn, List.append_nil] at hstep
        have hxb : (x == node) = false := by simpa using hxn
        gi_wp2
        refine ⟨fun _ h => (by cases h), ?_⟩
        gi_wp2
        go_roundw
        case rel => exact ⟨k + 1, pre, by omega, by go_num, by rw [hstep, hpre], hJs, hnx⟩
        case measure => simp [RowKit.intOf]; omega
    · obtain rfl : k = p.length := by omega
      gi_wp2
      go_end0
      exact ⟨⟨_, rfl⟩, .inl ⟨pre, hpre, hJs⟩⟩
set_option maxHeartbeats 1000000 in
theorem on_anyH (n : Nat) (P : Option Addr) (len cp : Nat) (node : Int) (w : World) :
    CallsIn Fence.wide n Try.prog 33 #[.slice P len cp, .int .i64 node] w fun e w' => e = .returned (.func (.func 50) #[] #[.pointer (some ⟨w.heap.size, 0, none⟩), .pointer (some ⟨w.heap.size + 1, 0, none⟩)]) ∧ w' = (w.alloc (.cells #[.slice P len cp] 29)).alloc (.cells #[.int .i64 node] 3) := by
  refine callsIn_of_wp Try.func33 rfl trivial ?_ rfl
  simp only [Try.ntmps33, List.size_toArray, List.length_cons, List.length_nil, Nat.reduceAdd, Nat.reduceSub, Array.replicate_succ, Array.replicate_zero, List.push_toArray, List.append_toArray, List.nil_append, List.cons_append]
  gi_wp2
  go_ret
  exact ⟨rfl, rfl⟩

theorem on_stopsH (n : Nat) (hn : 1 ≤ n) (Bp Bn n₀ cp : Nat) (us : List Nat) (P : Option Addr) (p : List Int) (node : Int) (hfew : p.length ≤ 1000) (w : World) (hn₀ : n₀ ≤ w.heap.size) (hus : Bn ∉ us)
    (hBp : Blk w Bp #[.slice P p.length cp] 29) (hBn : Blk w Bn #[.int .i64 node] 3)
    (hp : ∀ k x, p[k]? = some x → ∃ b o, P = some ⟨b, o, none⟩ ∧ b < n₀ ∧ w.cell? ⟨b, o + k, none⟩ = some (.int .i64 x)) :
    SeqStopsK Fence.wide n Try.prog 50 #[.pointer (some ⟨Bp, 0, none⟩), .pointer (some ⟨Bn, 0, none⟩)] (fun x : AtNo p node => #[Value.int .i64 (x.1 : Int)]) (KeepU n₀ us) (fun ys => ys.map (·.1) = onU p node p.length) (fun _ => True) p.length w := fun l J Jx W hW _ _ hY h0 => by
  refine on1_inH n hn l Bp Bn n₀ cp us P p node hfew J Jx hY W (Blk.cell (hBp.below hW hBp.lt) 0) (hBn.below hW hBn.lt) hus ?_ h0
  intro k x hx
  obtain ⟨b, o, hA, hb, hc⟩ := hp k x hx
  exact ⟨b, o, hA, hb, (hW.cell (p := ⟨b, o + k, none⟩) (Nat.lt_of_lt_of_le hb hn₀)).trans hc⟩

end Go.Proofs.Ytmdmjnffnjlgmaa

namespace Go.Proofs.Ytmdmjnffnjlgmaa
open Go

theorem opIn_round {F : Fence} {n : Nat} {P : Program} {o : Oper} {a : Act} {w : World} {K : Act → World → Prop} {Q : Exit → Act → World → Prop} (l : Nat) (hro : F.round = none) (hd : ∀ c, o.op ≠ .defer c) (h : o.wpIn F n P a w K Q) : o.wpIn (F.inRound l) n P a w K Q := by
  refine ⟨h.1, ?_⟩
  have h2 := h.2
  rw [hro, Oper.semAt_eq none a.eval o hd] at h2
  show o.uponIn (F.inRound l) n P a K Q ((o.semAt (some l) a.eval).run P w)
  rw [Oper.semAt_eq (some l) a.eval o hd]
  exact h2
theorem anyIn_round {F : Fence} {n : Nat} {P : Program} {ops : Array Oper} {Q : Exit → Act → World → Prop} {md : Region.Mode} (l : Nat) (hro : F.round = none) (hd : ∀ (i : Nat) (o : Oper), ops[i]? = some o → ∀ c, o.op ≠ .defer c) :
    ∀ (fuel : Nat) (listed : Array Bool) (a : Act) (w : World), wpAnyIn F n P md ops Q fuel listed a w → wpAnyIn (F.inRound l) n P md ops Q fuel listed a w
  | 0, _, _, _, h => h
  | fuel + 1, listed, a, w, h => by
    refine ⟨h.1, fun i hi => ?_⟩
    have h2 := wpOpIn_mono (fun a w => anyIn_round l hro hd fuel _ a w) (h.2 i hi)
    unfold wpOpIn at h2 ⊢
    split
    · rename_i ho
      rw [ho] at h2
      exact h2
    · rename_i o ho
      rw [ho] at h2
      dsimp only at h2
      split
      · rename_i hw
        rw [if_pos hw] at h2
        exact opIn_round l hro (hd i o ho) h2
      · rename_i hw
        rw [if_neg hw] at h2
        exact h2
def noDefer (l : List Oper) : Bool := l.all fun o => match o.op with | .defer _ => false | _ => true
theorem noDefer_spec {l : List Oper} (h : noDefer l = true) (i : Nat) (o : Oper) (ho : l.toArray[i]? = some o) : ∀ c, o.op ≠ .defer c := by
  intro c e
  have hm : o ∈ l := by
    rw [List.getElem?_toArray] at ho
    exact List.mem_of_getElem? ho
  have := List.all_eq_true.1 h o hm
  rw [e] at this
  cases this
theorem region_round {n : Nat} {P : Program} {l : List Oper} {Q : Exit → Act → World → Prop} {id : Nat} {a : Act} {w : World} (r : Nat) (hm : P.follows .mixedOrders = true) (hd : noDefer l = true)
    (h : wpAnyIn Fence.wide n P .any l.toArray Q l.length (Array.replicate l.length false) a w.drew) : (Code.region id l.toArray true).wpIn (Fence.wide.inRound r) n P Q a w := by
  refine wpIn_region_any hm ?_
  have e : l.toArray.size = l.length := by simp
  rw [e]
  exact anyIn_round r rfl (fun i o ho => noDefer_spec hd i o ho) _ _ _ _ h
end Go.Proofs.Ytmdmjnffnjlgmaa

namespace Go.Proofs.Ytmdmjnffnjlgmaa
open Go.RowKit Go.Shelf
attribute [local go_sem] Oper.semAt_some

theorem row2_nc {w w' : World} {b : Nat} {x y : Int} {row : Option Nat} (h : Blk w b (row2 x y) 31) (hg : w.grownBy w' row) (hr : ∀ r, row = some r → ∃ o : Obj, w.heap[r]? = some o ∧ o.isCells = false) : Blk w' b (row2 x y) 31 := blk_nc h hg hr

theorem row2_size : (Try.prog.info? 31).map (·.size) = some 2 := by kernel_rfl
set_option maxRecDepth 100000 in
set_option maxHeartbeats 4000000 in
theorem shares_any (A B C P : Option Addr) (ca cb cc cp : Nat) (ns : List NodeD) (ps : List PodD) (os : List OwnD) (p : List Int) (nd : Nat) (w : World) (h : SnapAt w A B C ca cb cc ns ps os) (hp : IntsAt w P cp p) (hok : placeE ns ps os p = 0) (hnd : nd < ns.length) :
    Calls Try.prog 26 #[snapV A B C ca cb cc ns ps os, .slice P p.length cp, .int .i64 (nd : Int)] w fun e w' => e = .returned (.agg (row2 (sharesU ns ps p nd 0) (sharesU ns ps p nd 1))) ∧ Below w.heap.size w w' := by
  have hlp := Lib.hid h.lp
  have hln := Lib.hid h.ln
  have hpl := Lib.hid (placeE_len hok)
  have H := Lib.hid h
  have HP := Lib.hid hp
  obtain ⟨x, hx⟩ : ∃ x, ns[nd]? = some x := ⟨ns[nd], List.getElem?_eq_getElem hnd⟩
  have HX := Lib.hid hx
  have hcap := Lib.hid (cap_boundsH (placeE_zero hok).1 (List.mem_of_getElem? hx))
  have hwa := Lib.hid (fun k (hk : k < 5) => addW_boundsH (ps := ps) (j := k) (fun x hx => req_boundsH (placeE_zero hok).1 hx k hk) (onU p (nd : Int) p.length) (Nat.le_trans (onU_len _ _ _) (by rw [placeE_len hok]; exact h.lp)))
  have HE : Hid (∀ k, sharesU ns ps p nd k = shareH (addW ps (onU p (nd : Int) p.length) k) (x.cap k)) := Lib.hid (fun k => by
    unfold sharesU
    rw [hx])
  have B0 : Hid (Below w.heap.size w (((w.alloc (.cells (snapC A B C ca cb cc ns ps os) 26)).alloc (.cells (row2 0 0) 31)).alloc (.cells (row2 0 0) 31))) := Lib.hid ((Qu.below2 w _ _).alloc (by simp; omega) _)
  have S0 : Hid (Blk (((w.alloc (.cells (snapC A B C ca cb cc ns ps os) 26)).alloc (.cells (row2 0 0) 31)).alloc (.cells (row2 0 0) 31)) w.heap.size (snapC A B C ca cb cc ns ps os) 26) := Lib.hid (Blk.alloc (Blk.alloc (Blk.new w _ _) _) _)
  have R0 : Hid (Blk (((w.alloc (.cells (snapC A B C ca cb cc ns ps os) 26)).alloc (.cells (row2 0 0) 31)).alloc (.cells (row2 0 0) 31)) (w.heap.size + 1) (row2 0 0) 31) := Lib.hid (Blk.alloc (blk2 w _ _ _) _)
  have U0 : Hid (Blk (((w.alloc (.cells (snapC A B C ca cb cc ns ps os) 26)).alloc (.cells (row2 0 0) 31)).alloc (.cells (row2 0 0) 31)) (w.heap.size + 2) (row2 0 0) 31) := Lib.hid (blk3 w _ _ _ _)
  clear h hp hok hx
  refine (callsIn_wide (n := 8)).1 ?_
  refine callsIn_of_wp_marks Try.func26 rfl trivial ?_ rfl
  simp only [Try.ntmps26, List.size_toArray, List.length_cons, List.length_nil, Nat.reduceAdd, Nat.reduceSub, Array.replicate_succ, Array.replicate_zero, List.push_toArray, List.append_toArray, List.nil_append, List.cons_append]
  gi_wp2_with fail
  refine ⟨trivial, ?_⟩
  refine (on_anyH _ P p.length cp (nd : Int) _).mono ?_
  rintro e w3 ⟨rfl, rfl⟩
  obtain ⟨w2, hw2⟩ : ∃ w2, (((w.alloc (.cells (snapC A B C ca cb cc ns ps os) 26)).alloc (.cells (row2 0 0) 31)).alloc (.cells (row2 0 0) 31)) = w2 := ⟨_, rfl⟩
  rw [hw2] at B0 S0 R0 U0
  try rw [show ((((w.alloc (.cells (snapC A B C ca cb cc ns ps os) 26)).alloc (.cells #[.int .i64 0, .int .i64 0] 31)).alloc (.cells #[.int .i64 0, .int .i64 0] 31))) = w2 from hw2]
  clear hw2
  have S2 := Lib.hid (Blk.alloc (Blk.alloc S0.out (.cells #[.slice P p.length cp] 29)) (.cells #[.int .i64 nd] 3))
  have R2 := Lib.hid (Blk.alloc (Blk.alloc R0.out (.cells #[.slice P p.length cp] 29)) (.cells #[.int .i64 nd] 3))
  have U2 := Lib.hid (Blk.alloc (Blk.alloc U0.out (.cells #[.slice P p.length cp] 29)) (.cells #[.int .i64 nd] 3))
  have P2 := Lib.hid (Blk.alloc (Blk.new w2 #[.slice P p.length cp] 29) (.cells #[.int .i64 nd] 3))
  have N2 := Lib.hid (blk2 w2 (.cells #[.slice P p.length cp] 29) #[.int .i64 nd] 3)
  have B2 := Lib.hid ((B0.out.alloc B0.out.size (.cells #[.slice P p.length cp] 29)).alloc (by have := B0.out.size; simp; omega) (.cells #[.int .i64 nd] 3))
  have hlu := Blk.lt U0.out
  generalize ((w2.alloc (.cells #[.slice P p.length cp] 29)).alloc (.cells #[.int .i64 nd] 3)) = W0 at S2 R2 U2 P2 N2 B2 ⊢
  clear B0 S0 R0 U0
  gi_wp2_with fail
  obtain ⟨Ub, hUb⟩ : ∃ Ub, w.heap.size + 1 + 1 = Ub := ⟨_, rfl⟩
  obtain ⟨Rb, hRb⟩ : ∃ Rb, w.heap.size + 1 = Rb := ⟨_, rfl⟩
  rw [show w.heap.size + 2 = Ub from hUb] at U2 hlu
  rw [hUb, hRb]
  rw [hRb] at R2
  have hU : Hid (w.heap.size < Rb ∧ Rb < Ub ∧ Ub < w2.heap.size) := Lib.hid ⟨by omega, by omega, hlu⟩
  have hW0 : Hid (w2.heap.size + 1 < W0.heap.size) := Lib.hid (Blk.lt N2.out)
  clear hUb hRb hlu
  refine wpIn_rangeFunc_ownG (α := AtNo p (nd : Int)) rfl (by omega) (gf := 50) (lb := #[.pointer (some ⟨w2.heap.size, 0, none⟩), .pointer (some ⟨w2.heap.size + 1, 0, none⟩)]) rfl trivial (enters_of Try.func50 (by kernel_rfl) rfl)
    (on_stopsH (8 - 1) (by omega) w2.heap.size (w2.heap.size + 1) w.heap.size cp [Ub] P p (nd : Int) (by rw [hpl.out]; exact hlp.out) W0 (by have := hU.out; have := hW0.out; omega) (by have := hU.out; simp; omega) P2.out N2.out ?hp)
    keepU_t (keepU_b (by have := hU.out; have := hW0.out; omega)) (Below.refl _ _) (fun _ => rfl)
    (fun pre W => (Blk W w.heap.size (snapC A B C ca cb cc ns ps os) 26 ∧ Blk W Rb (row2 0 0) 31 ∧ Blk W Ub (row2 (addW ps (pre.map (fun x => x.1)) 0) (addW ps (pre.map (fun x => x.1)) 1)) 31) ∧ Below w.heap.size w W)
    (fun _ _ _ => False)
    (OwnFrom.and (fun s X Y row hs hg hr => ⟨blk_nc hs.1 hg (fun r e => (hr r e).2), blk_nc hs.2.1 hg (fun r e => (hr r e).2), row2_nc hs.2.2 hg (fun r e => (hr r e).2)⟩) (ownFrom_below (Nat.le_refl _) (by have := hU.out; have := hW0.out; omega)))
    (fun _ _ _ _ _ hs _ _ => hs)
    ⟨⟨S2.out, R2.out, U2.out⟩, B2.out⟩
    (fun x => { tmps := #[snapV A B C ca cb cc ns ps os, Value.slice P p.length cp, Value.int IntKind.i64 (nd : Int),
          Value.pointer (some { block := w.heap.size, off := 0 }), undef, undef,
          Value.pointer (some { block := Rb, off := 0 }), Value.pointer (some { block := Ub, off := 0 }), .int .i64 (x.1 : Int), undef,
          undef, undef, Value.slice P p.length cp, Value.int IntKind.i64 (nd : Int),
          Value.func (Fn.func 50) #[]
            #[Value.pointer (some { block := w2.heap.size, off := 0 }),
              Value.pointer (some { block := w2.heap.size + 1, off := 0 })],
          .int .i64 (x.1 : Int), undef, undef, undef, undef, undef, undef, undef, undef, undef, undef, undef, undef, undef, undef,
          undef, undef, undef, undef, undef, undef, undef, undef, undef, undef, undef, undef, undef, undef, undef,
          undef, undef, undef, undef, undef, undef, undef], defers := [] }) ?assign ?body ?done ?stop
  case hp =>
    intro k x hx
    obtain ⟨b, o, hA, hb, _⟩ := atI HP.out.cells hx
    obtain ⟨b', o', hA', _, hc⟩ := atI (HP.out.below B2.out).cells hx
    rw [hA] at hA'
    cases hA'
    exact ⟨b, o, hA, hb, hc⟩
  case assign =>
    intro l x W K hK
    gi_wp2
    exact hK
  case body =>
    rintro l pre ⟨m, hm⟩ W ⟨⟨hS, hR, hUr⟩, hB⟩ hlen
    have hml : m < ps.length := by rw [← hpl.out]; exact (List.getElem?_eq_some_iff.1 hm).1
    obtain ⟨y, hy⟩ : ∃ y, ps[m]? = some y := ⟨ps[m], List.getElem?_eq_getElem hml⟩
    have HY := Lib.hid hy
    have HS := Lib.hid hS
    have HR := Lib.hid hR
    have HUr := Lib.hid hUr
    have HB := Lib.hid hB
    have HA0 : Hid (addW ps ((pre ++ [(⟨m, hm⟩ : AtNo p (nd : Int))]).map (fun x => x.1)) 0 = wrap64 (addW ps (pre.map (fun x => x.1)) 0 + y.req 0)) := Lib.hid (by
      rw [List.map_append]
      exact addW_snoc ps _ m y hy 0)
    have HA1 : Hid (addW ps ((pre ++ [(⟨m, hm⟩ : AtNo p (nd : Int))]).map (fun x => x.1)) 1 = wrap64 (addW ps (pre.map (fun x => x.1)) 1 + y.req 1)) := Lib.hid (by
      rw [List.map_append]
      exact addW_snoc ps _ m y hy 1)
    obtain ⟨b0, hb0⟩ : ∃ b0, addW ps ((pre ++ [(⟨m, hm⟩ : AtNo p (nd : Int))]).map (fun x => x.1)) 0 = b0 := ⟨_, rfl⟩
    rw [hb0] at HA0
    have hb0 := Lib.hid hb0
    obtain ⟨b1, hb1⟩ : ∃ b1, addW ps ((pre ++ [(⟨m, hm⟩ : AtNo p (nd : Int))]).map (fun x => x.1)) 1 = b1 := ⟨_, rfl⟩
    rw [hb1] at HA1
    have hb1 := Lib.hid hb1
    generalize addW ps (pre.map (fun x => x.1)) 0 = a0 at HUr HA0
    generalize addW ps (pre.map (fun x => x.1)) 1 = a1 at HUr HA1
    have m0 : (0 : Int) ≤ (m : Int) := by omega
    have m1 : (m : Int) < (ps.length : Int) := by omega
    clear hy hS hR hUr hB
    have hmx : Try.prog.follows .mixedOrders = true := by kernel_rfl
    gi_wp2_with fail
    gi_loopw [16] (fun i wr => ((i = .int .i64 0 ∧ Blk wr Ub (row2 a0 a1) 31) ∨ (i = .int .i64 1 ∧ Blk wr Ub (row2 b0 a1) 31) ∨ (i = .int .i64 2 ∧ Blk wr Ub (row2 b0 b1) 31)) ∧ KeepsOthers W wr ∧ KeepU w.heap.size [Ub] W wr) (fun i _ => 2 - (RowKit.intOf i).toNat)
    case atStart => exact ⟨.inl ⟨rfl, HUr.out⟩, KeepsOthers.refl _, KeepU.refl _ _ _⟩
    case round =>
      obtain ⟨hir, hko, hku⟩ := hrel
      have HKO := Lib.hid hko
      have HKU := Lib.hid hku
      have HBr := Lib.hid (HB.out.trans hku.1)
      clear hko hku
      obtain ⟨b, o, hA, hbl, c0, c1, c2, c3, c4, c5, c6, c7, c8, c9, c10, c11, c12, c13, c14⟩ := atP (H.out.below HBr.out).p.cells HY.out
      subst hA
      have z1 : wr.cell? ⟨w.heap.size, 1, none⟩ = some (.slice (some ⟨b, o, none⟩) ps.length cb) := Blk.cell (HKU.out.2 _ _ _ (by have := hU.out; simp; omega) HS.out) 1
      rcases hir with ⟨rfl, hr⟩ | ⟨rfl, hr⟩ | ⟨rfl, hr⟩
      · have HRr := Lib.hid hr
        have u0 : wr.drew.cell? ⟨Ub, 0, none⟩ = some (.int .i64 a0) := Blk.cell hr 0
        have f0 : wr.drew.frozen? ⟨Ub, 0, none⟩ = false := Blk.free hr 0
        have d0 : wr.drew.cell? ⟨b, o + m * 15 + 2 + 0, none⟩ = some (.int .i64 (y.req 0)) := c2
        have z1 : wr.drew.cell? ⟨w.heap.size, 1, none⟩ = some (.slice (some ⟨b, o, none⟩) ps.length cb) := z1
        have hwr : IntKind.i64.wrap (a0 + y.req 0) = b0 := (IntWalk.i64_left _).trans HA0.out.symm
        have HC := Lib.hid (And.intro HKO.out HKU.out)
        clear hr c0 c1 c2 c3 c4 c5 c6 c7 c8 c9 c10 c11 c12 c13 c14
        gi_wp2
        refine region_round _ hmx (by rfl) ?_
        refine wpAnyIn_take (i := 0) (v := ?_) rfl rfl (by kernel_rfl) (by kernel_rfl) (by kernel_rfl) (fun _ _ _ h => h) ⟨Or.inl ⟨by rfl, ?_⟩, fun _ => rfl⟩ ?_
        rotate_left 1
        · (intro w; go_simp; try with_reducible rfl)
        try simp only [Act.put, List.setIfInBounds_toArray, List.set_cons_zero, List.set_cons_succ]
        refine wpAnyIn_take (i := 1) (v := ?_) rfl rfl (by kernel_rfl) (by kernel_rfl) (by kernel_rfl) (fun _ _ _ h => h) ⟨Or.inl ⟨by rfl, ?_⟩, fun _ => rfl⟩ ?_
        rotate_left 1
        · (intro w; go_simp; try with_reducible rfl)
        try simp only [Act.put, List.setIfInBounds_toArray, List.set_cons_zero, List.set_cons_succ]
        refine wpAnyIn_take (i := 3) (v := ?_) rfl rfl (by kernel_rfl) (by kernel_rfl) (by kernel_rfl) (fun _ _ _ h => h) ⟨Or.inl ⟨by rfl, ?_⟩, fun _ => rfl⟩ ?_
        rotate_left 1
        · (intro w; go_simp; try with_reducible rfl)
        try simp only [Act.put, List.setIfInBounds_toArray, List.set_cons_zero, List.set_cons_succ]
        refine wpAnyIn_take (i := 5) (v := ?_) rfl rfl (by kernel_rfl) (by kernel_rfl) (by kernel_rfl) (fun _ _ _ h => h) ⟨Or.inl ⟨by rfl, ?_⟩, fun _ => rfl⟩ ?_
        rotate_left 1
        · (intro w; go_simp; try with_reducible rfl)
        try simp only [Act.put, List.setIfInBounds_toArray, List.set_cons_zero, List.set_cons_succ]
        refine wpAnyIn_take (i := 6) (v := ?_) rfl rfl (by kernel_rfl) (by kernel_rfl) (by kernel_rfl) (fun _ _ _ h => h) ⟨Or.inl ⟨by rfl, ?_⟩, fun _ => rfl⟩ ?_
        rotate_left 1
        · (intro w; go_simp; try with_reducible rfl)
        try simp only [Act.put, List.setIfInBounds_toArray, List.set_cons_zero, List.set_cons_succ]
        refine wpAnyIn_ready (rs := [2, 4]) (by kernel_rfl) (by simp) ?_
        refine AllReadyIn.cons rfl (fun K hK => ?_) (AllReadyIn.cons rfl (fun K hK => ?_) (AllReadyIn.nil))
        · go_simp
          try refine hK _ _ ?_
          clear hK K
          try simp only [Act.put, List.setIfInBounds_toArray, List.set_cons_zero, List.set_cons_succ]
          refine wpAnyIn_ready (rs := [4]) (by kernel_rfl) (by simp) ?_
          refine AllReadyIn.cons rfl (fun K hK => ?_) (AllReadyIn.nil)
          go_simp
          try refine hK _ _ ?_
          clear hK K
          try simp only [Act.put, List.setIfInBounds_toArray, List.set_cons_zero, List.set_cons_succ]
          refine wpAnyIn_take (i := 7) (v := ?_) rfl rfl (by kernel_rfl) (by kernel_rfl) (by kernel_rfl) (fun _ _ _ h => h) ⟨Or.inl ⟨by rfl, ?_⟩, fun _ => rfl⟩ ?_
          rotate_left 1
          · (intro w; go_simp; try with_reducible rfl)
          try simp only [Act.put, List.setIfInBounds_toArray, List.set_cons_zero, List.set_cons_succ]
          refine wpAnyIn_take (i := 8) (v := ?_) rfl rfl (by kernel_rfl) (by kernel_rfl) (by kernel_rfl) (fun _ _ _ h => h) ⟨Or.inl ⟨by rfl, ?_⟩, fun _ => rfl⟩ ?_
          rotate_left 1
          · (intro w; go_simp; try with_reducible rfl)
          try simp only [Act.put, List.setIfInBounds_toArray, List.set_cons_zero, List.set_cons_succ]
          refine wpAnyIn_take (i := 9) (v := ?_) rfl rfl (by kernel_rfl) (by kernel_rfl) (by kernel_rfl) (fun _ _ _ h => h) ⟨Or.inl ⟨by rfl, ?_⟩, fun _ => rfl⟩ ?_
          rotate_left 1
          · (intro w; go_simp; try with_reducible rfl)
          try simp only [Act.put, List.setIfInBounds_toArray, List.set_cons_zero, List.set_cons_succ]
          refine wpAnyIn_ready (rs := [10]) (by kernel_rfl) (by simp) ?_
          refine AllReadyIn.cons rfl (fun K hK => ?_) (AllReadyIn.nil)
          go_simp
          try refine hK _ _ ?_
          clear hK K
          try simp only [Act.put, List.setIfInBounds_toArray, List.set_cons_zero, List.set_cons_succ]
          refine wpAnyIn_take (i := 11) (v := ?_) rfl rfl (by kernel_rfl) (by kernel_rfl) (by kernel_rfl) (fun _ _ _ h => h) ⟨Or.inl ⟨by rfl, ?_⟩, fun _ => rfl⟩ ?_
          rotate_left 1
          · (intro w; go_simp; try with_reducible rfl)
          try simp only [Act.put, List.setIfInBounds_toArray, List.set_cons_zero, List.set_cons_succ]
          refine wpAnyIn_take (i := 12) (v := ?_) rfl rfl (by kernel_rfl) (by kernel_rfl) (by kernel_rfl) (fun _ _ _ h => h) ⟨Or.inl ⟨by rfl, ?_⟩, fun _ => rfl⟩ ?_
          rotate_left 1
          · (intro w; go_simp; try with_reducible rfl)
          try simp only [Act.put, List.setIfInBounds_toArray, List.set_cons_zero, List.set_cons_succ]
          refine wpAnyIn_ready (rs := [13]) (by kernel_rfl) (by simp) ?_
          refine AllReadyIn.cons rfl (fun K hK => ?_) (AllReadyIn.nil)
          go_simp
          try refine hK _ _ ?_
          clear hK K
          try simp only [Act.put, List.setIfInBounds_toArray, List.set_cons_zero, List.set_cons_succ]
          refine wpAnyIn_done (by kernel_rfl) ?_ _
          gi_wp2
          go_roundw
          case rel => exact ⟨.inr (.inl ⟨rfl, HRr.out.drew.set 0 _⟩), HC.out.1.trans ((KeepsOthers.drew _).trans (KeepsOthers.setCell _ _ _)), HC.out.2.trans (KeepU.trans ⟨(Below.refl _ _).drew, fun _ _ _ _ h => h⟩ (KeepU.set _ (by simp) (by have := hU.out; omega) _ _))⟩
          case measure => simp [RowKit.intOf]
        · go_simp
          try refine hK _ _ ?_
          clear hK K
          try simp only [Act.put, List.setIfInBounds_toArray, List.set_cons_zero, List.set_cons_succ]
          refine wpAnyIn_take (i := 7) (v := ?_) rfl rfl (by kernel_rfl) (by kernel_rfl) (by kernel_rfl) (fun _ _ _ h => h) ⟨Or.inl ⟨by rfl, ?_⟩, fun _ => rfl⟩ ?_
          rotate_left 1
          · (intro w; go_simp; try with_reducible rfl)
          try simp only [Act.put, List.setIfInBounds_toArray, List.set_cons_zero, List.set_cons_succ]
          refine wpAnyIn_take (i := 8) (v := ?_) rfl rfl (by kernel_rfl) (by kernel_rfl) (by kernel_rfl) (fun _ _ _ h => h) ⟨Or.inl ⟨by rfl, ?_⟩, fun _ => rfl⟩ ?_
          rotate_left 1
          · (intro w; go_simp; try with_reducible rfl)
          try simp only [Act.put, List.setIfInBounds_toArray, List.set_cons_zero, List.set_cons_succ]
          refine wpAnyIn_take (i := 9) (v := ?_) rfl rfl (by kernel_rfl) (by kernel_rfl) (by kernel_rfl) (fun _ _ _ h => h) ⟨Or.inl ⟨by rfl, ?_⟩, fun _ => rfl⟩ ?_
          rotate_left 1
          · (intro w; go_simp; try with_reducible rfl)
          try simp only [Act.put, List.setIfInBounds_toArray, List.set_cons_zero, List.set_cons_succ]
          refine wpAnyIn_ready (rs := [2, 10]) (by kernel_rfl) (by simp) ?_
          refine AllReadyIn.cons rfl (fun K hK => ?_) (AllReadyIn.cons rfl (fun K hK => ?_) (AllReadyIn.nil))
          · go_simp
            try refine hK _ _ ?_
            clear hK K
            try simp only [Act.put, List.setIfInBounds_toArray, List.set_cons_zero, List.set_cons_succ]
            refine wpAnyIn_ready (rs := [10]) (by kernel_rfl) (by simp) ?_
            refine AllReadyIn.cons rfl (fun K hK => ?_) (AllReadyIn.nil)
            go_simp
            try refine hK _ _ ?_
            clear hK K
            try simp only [Act.put, List.setIfInBounds_toArray, List.set_cons_zero, List.set_cons_succ]
            refine wpAnyIn_take (i := 11) (v := ?_) rfl rfl (by kernel_rfl) (by kernel_rfl) (by kernel_rfl) (fun _ _ _ h => h) ⟨Or.inl ⟨by rfl, ?_⟩, fun _ => rfl⟩ ?_
            rotate_left 1
            · (intro w; go_simp; try with_reducible rfl)
            try simp only [Act.put, List.setIfInBounds_toArray, List.set_cons_zero, List.set_cons_succ]
            refine wpAnyIn_take (i := 12) (v := ?_) rfl rfl (by kernel_rfl) (by kernel_rfl) (by kernel_rfl) (fun _ _ _ h => h) ⟨Or.inl ⟨by rfl, ?_⟩, fun _ => rfl⟩ ?_
            rotate_left 1
            · (intro w; go_simp; try with_reducible rfl)
            try simp only [Act.put, List.setIfInBounds_toArray, List.set_cons_zero, List.set_cons_succ]
            refine wpAnyIn_ready (rs := [13]) (by kernel_rfl) (by simp) ?_
            refine AllReadyIn.cons rfl (fun K hK => ?_) (AllReadyIn.nil)
            go_simp
            try refine hK _ _ ?_
            clear hK K
            try simp only [Act.put, List.setIfInBounds_toArray, List.set_cons_zero, List.set_cons_succ]
            refine wpAnyIn_done (by kernel_rfl) ?_ _
            gi_wp2
            go_roundw
            case rel => exact ⟨.inr (.inl ⟨rfl, HRr.out.drew.set 0 _⟩), HC.out.1.trans ((KeepsOthers.drew _).trans (KeepsOthers.setCell _ _ _)), HC.out.2.trans (KeepU.trans ⟨(Below.refl _ _).drew, fun _ _ _ _ h => h⟩ (KeepU.set _ (by simp) (by have := hU.out; omega) _ _))⟩
            case measure => simp [RowKit.intOf]
          · go_simp
            try refine hK _ _ ?_
            clear hK K
            try simp only [Act.put, List.setIfInBounds_toArray, List.set_cons_zero, List.set_cons_succ]
            refine wpAnyIn_ready (rs := [2]) (by kernel_rfl) (by simp) ?_
            refine AllReadyIn.cons rfl (fun K hK => ?_) (AllReadyIn.nil)
            go_simp
            try refine hK _ _ ?_
            clear hK K
            try simp only [Act.put, List.setIfInBounds_toArray, List.set_cons_zero, List.set_cons_succ]
            refine wpAnyIn_take (i := 11) (v := ?_) rfl rfl (by kernel_rfl) (by kernel_rfl) (by kernel_rfl) (fun _ _ _ h => h) ⟨Or.inl ⟨by rfl, ?_⟩, fun _ => rfl⟩ ?_
            rotate_left 1
            · (intro w; go_simp; try with_reducible rfl)
            try simp only [Act.put, List.setIfInBounds_toArray, List.set_cons_zero, List.set_cons_succ]
            refine wpAnyIn_take (i := 12) (v := ?_) rfl rfl (by kernel_rfl) (by kernel_rfl) (by kernel_rfl) (fun _ _ _ h => h) ⟨Or.inl ⟨by rfl, ?_⟩, fun _ => rfl⟩ ?_
            rotate_left 1
            · (intro w; go_simp; try with_reducible rfl)
            try simp only [Act.put, List.setIfInBounds_toArray, List.set_cons_zero, List.set_cons_succ]
            refine wpAnyIn_ready (rs := [13]) (by kernel_rfl) (by simp) ?_
            refine AllReadyIn.cons rfl (fun K hK => ?_) (AllReadyIn.nil)
            go_simp
            try refine hK _ _ ?_
            clear hK K
            try simp only [Act.put, List.setIfInBounds_toArray, List.set_cons_zero, List.set_cons_succ]
            refine wpAnyIn_done (by kernel_rfl) ?_ _
            gi_wp2
            go_roundw
            case rel => exact ⟨.inr (.inl ⟨rfl, HRr.out.drew.set 0 _⟩), HC.out.1.trans ((KeepsOthers.drew _).trans (KeepsOthers.setCell _ _ _)), HC.out.2.trans (KeepU.trans ⟨(Below.refl _ _).drew, fun _ _ _ _ h => h⟩ (KeepU.set _ (by simp) (by have := hU.out; omega) _ _))⟩
            case measure => simp [RowKit.intOf]
      · have HRr := Lib.hid hr
        have u0 : wr.drew.cell? ⟨Ub, 1, none⟩ = some (.int .i64 a1) := Blk.cell hr 1
        have f0 : wr.drew.frozen? ⟨Ub, 1, none⟩ = false := Blk.free hr 1
        have d0 : wr.drew.cell? ⟨b, o + m * 15 + 2 + 1, none⟩ = some (.int .i64 (y.req 1)) := c3
        have z1 : wr.drew.cell? ⟨w.heap.size, 1, none⟩ = some (.slice (some ⟨b, o, none⟩) ps.length cb) := z1
        have hwr : IntKind.i64.wrap (a1 + y.req 1) = b1 := (IntWalk.i64_left _).trans HA1.out.symm
        have HC := Lib.hid (And.intro HKO.out HKU.out)
        clear hr c0 c1 c2 c3 c4 c5 c6 c7 c8 c9 c10 c11 c12 c13 c14
        gi_wp2
        refine region_round _ hmx (by rfl) ?_
        refine wpAnyIn_take (i := 0) (v := ?_) rfl rfl (by kernel_rfl) (by kernel_rfl) (by kernel_rfl) (fun _ _ _ h => h) ⟨Or.inl ⟨by rfl, ?_⟩, fun _ => rfl⟩ ?_
        rotate_left 1
        · (intro w; go_simp; try with_reducible rfl)
        try simp only [Act.put, List.setIfInBounds_toArray, List.set_cons_zero, List.set_cons_succ]
        refine wpAnyIn_take (i := 1) (v := ?_) rfl rfl (by kernel_rfl) (by kernel_rfl) (by kernel_rfl) (fun _ _ _ h => h) ⟨Or.inl ⟨by rfl, ?_⟩, fun _ => rfl⟩ ?_
        rotate_left 1
        · (intro w; go_simp; try with_reducible rfl)
        try simp only [Act.put, List.setIfInBounds_toArray, List.set_cons_zero, List.set_cons_succ]
        refine wpAnyIn_take (i := 3) (v := ?_) rfl rfl (by kernel_rfl) (by kernel_rfl) (by kernel_rfl) (fun _ _ _ h => h) ⟨Or.inl ⟨by rfl, ?_⟩, fun _ => rfl⟩ ?_
        rotate_left 1
        · (intro w; go_simp; try with_reducible rfl)
        try simp only [Act.put, List.setIfInBounds_toArray, List.set_cons_zero, List.set_cons_succ]
        refine wpAnyIn_take (i := 5) (v := ?_) rfl rfl (by kernel_rfl) (by kernel_rfl) (by kernel_rfl) (fun _ _ _ h => h) ⟨Or.inl ⟨by rfl, ?_⟩, fun _ => rfl⟩ ?_
        rotate_left 1
        · (intro w; go_simp; try with_reducible rfl)
        try simp only [Act.put, List.setIfInBounds_toArray, List.set_cons_zero, List.set_cons_succ]
        refine wpAnyIn_take (i := 6) (v := ?_) rfl rfl (by kernel_rfl) (by kernel_rfl) (by kernel_rfl) (fun _ _ _ h => h) ⟨Or.inl ⟨by rfl, ?_⟩, fun _ => rfl⟩ ?_
        rotate_left 1
        · (intro w; go_simp; try with_reducible rfl)
        try simp only [Act.put, List.setIfInBounds_toArray, List.set_cons_zero, List.set_cons_succ]
        refine wpAnyIn_ready (rs := [2, 4]) (by kernel_rfl) (by simp) ?_
        refine AllReadyIn.cons rfl (fun K hK => ?_) (AllReadyIn.cons rfl (fun K hK => ?_) (AllReadyIn.nil))
        · go_simp
          try refine hK _ _ ?_
          clear hK K
          try simp only [Act.put, List.setIfInBounds_toArray, List.set_cons_zero, List.set_cons_succ]
          refine wpAnyIn_ready (rs := [4]) (by kernel_rfl) (by simp) ?_
          refine AllReadyIn.cons rfl (fun K hK => ?_) (AllReadyIn.nil)
          go_simp
          try refine hK _ _ ?_
          clear hK K
          try simp only [Act.put, List.setIfInBounds_toArray, List.set_cons_zero, List.set_cons_succ]
          refine wpAnyIn_take (i := 7) (v := ?_) rfl rfl (by kernel_rfl) (by kernel_rfl) (by kernel_rfl) (fun _ _ _ h => h) ⟨Or.inl ⟨by rfl, ?_⟩, fun _ => rfl⟩ ?_
          rotate_left 1
          · (intro w; go_simp; try with_reducible rfl)
          try simp only [Act.put, List.setIfInBounds_toArray, List.set_cons_zero, List.set_cons_succ]
          refine wpAnyIn_take (i := 8) (v := ?_) rfl rfl (by kernel_rfl) (by kernel_rfl) (by kernel_rfl) (fun _ _ _ h => h) ⟨Or.inl ⟨by rfl, ?_⟩, fun _ => rfl⟩ ?_
          rotate_left 1
          · (intro w; go_simp; try with_reducible rfl)
          try simp only [Act.put, List.setIfInBounds_toArray, List.set_cons_zero, List.set_cons_succ]
          refine wpAnyIn_take (i := 9) (v := ?_) rfl rfl (by kernel_rfl) (by kernel_rfl) (by kernel_rfl) (fun _ _ _ h => h) ⟨Or.inl ⟨by rfl, ?_⟩, fun _ => rfl⟩ ?_
          rotate_left 1
          · (intro w; go_simp; try with_reducible rfl)
          try simp only [Act.put, List.setIfInBounds_toArray, List.set_cons_zero, List.set_cons_succ]
          refine wpAnyIn_ready (rs := [10]) (by kernel_rfl) (by simp) ?_
          refine AllReadyIn.cons rfl (fun K hK => ?_) (AllReadyIn.nil)
          go_simp
          try refine hK _ _ ?_
          clear hK K
          try simp only [Act.put, List.setIfInBounds_toArray, List.set_cons_zero, List.set_cons_succ]
          refine wpAnyIn_take (i := 11) (v := ?_) rfl rfl (by kernel_rfl) (by kernel_rfl) (by kernel_rfl) (fun _ _ _ h => h) ⟨Or.inl ⟨by rfl, ?_⟩, fun _ => rfl⟩ ?_
          rotate_left 1
          · (intro w; go_simp; try with_reducible rfl)
          try simp only [Act.put, List.setIfInBounds_toArray, List.set_cons_zero, List.set_cons_succ]
          refine wpAnyIn_take (i := 12) (v := ?_) rfl rfl (by kernel_rfl) (by kernel_rfl) (by kernel_rfl) (fun _ _ _ h => h) ⟨Or.inl ⟨by rfl, ?_⟩, fun _ => rfl⟩ ?_
          rotate_left 1
          · (intro w; go_simp; try with_reducible rfl)
          try simp only [Act.put, List.setIfInBounds_toArray, List.set_cons_zero, List.set_cons_succ]
          refine wpAnyIn_ready (rs := [13]) (by kernel_rfl) (by simp) ?_
          refine AllReadyIn.cons rfl (fun K hK => ?_) (AllReadyIn.nil)
          go_simp
          try refine hK _ _ ?_
          clear hK K
          try simp only [Act.put, List.setIfInBounds_toArray, List.set_cons_zero, List.set_cons_succ]
          refine wpAnyIn_done (by kernel_rfl) ?_ _
          gi_wp2
          go_roundw
          case rel => exact ⟨.inr (.inr ⟨rfl, HRr.out.drew.set 1 _⟩), HC.out.1.trans ((KeepsOthers.drew _).trans (KeepsOthers.setCell _ _ _)), HC.out.2.trans (KeepU.trans ⟨(Below.refl _ _).drew, fun _ _ _ _ h => h⟩ (KeepU.set _ (by simp) (by have := hU.out; omega) _ _))⟩
          case measure => simp [RowKit.intOf]
        · go_simp
          try refine hK _ _ ?_
          clear hK K
          try simp only [Act.put, List.setIfInBounds_toArray, List.set_cons_zero, List.set_cons_succ]
          refine wpAnyIn_take (i := 7) (v := ?_) rfl rfl (by kernel_rfl) (by kernel_rfl) (by kernel_rfl) (fun _ _ _ h => h) ⟨Or.inl ⟨by rfl, ?_⟩, fun _ => rfl⟩ ?_
          rotate_left 1
          · (intro w; go_simp; try with_reducible rfl)
          try simp only [Act.put, List.setIfInBounds_toArray, List.set_cons_zero, List.set_cons_succ]
          refine wpAnyIn_take (i := 8) (v := ?_) rfl rfl (by kernel_rfl) (by kernel_rfl) (by kernel_rfl) (fun _ _ _ h => h) ⟨Or.inl ⟨by rfl, ?_⟩, fun _ => rfl⟩ ?_
          rotate_left 1
          · (intro w; go_simp; try with_reducible rfl)
          try simp only [Act.put, List.setIfInBounds_toArray, List.set_cons_zero, List.set_cons_succ]
          refine wpAnyIn_take (i := 9) (v := ?_) rfl rfl (by kernel_rfl) (by kernel_rfl) (by kernel_rfl) (fun _ _ _ h => h) ⟨Or.inl ⟨by rfl, ?_⟩, fun _ => rfl⟩ ?_
          rotate_left 1
          · (intro w; go_simp; try with_reducible rfl)
          try simp only [Act.put, List.setIfInBounds_toArray, List.set_cons_zero, List.set_cons_succ]
          refine wpAnyIn_ready (rs := [2, 10]) (by kernel_rfl) (by simp) ?_
          refine AllReadyIn.cons rfl (fun K hK => ?_) (AllReadyIn.cons rfl (fun K hK => ?_) (AllReadyIn.nil))
          · go_simp
            try refine hK _ _ ?_
            clear hK K
            try simp only [Act.put, List.setIfInBounds_toArray, List.set_cons_zero, List.set_cons_succ]
            refine wpAnyIn_ready (rs := [10]) (by kernel_rfl) (by simp) ?_
            refine AllReadyIn.cons rfl (fun K hK => ?_) (AllReadyIn.nil)
            go_simp
            try refine hK _ _ ?_
            clear hK K
            try simp only [Act.put, List.setIfInBounds_toArray, List.set_cons_zero, List.set_cons_succ]
            refine wpAnyIn_take (i := 11) (v := ?_) rfl rfl (by kernel_rfl) (by kernel_rfl) (by kernel_rfl) (fun _ _ _ h => h) ⟨Or.inl ⟨by rfl, ?_⟩, fun _ => rfl⟩ ?_
            rotate_left 1
            · (intro w; go_simp; try with_reducible rfl)
            try simp only [Act.put, List.setIfInBounds_toArray, List.set_cons_zero, List.set_cons_succ]
            refine wpAnyIn_take (i := 12) (v := ?_) rfl rfl (by kernel_rfl) (by kernel_rfl) (by kernel_rfl) (fun _ _ _ h => h) ⟨Or.inl ⟨by rfl, ?_⟩, fun _ => rfl⟩ ?_
            rotate_left 1
            · (intro w; go_simp; try with_reducible rfl)
            try simp only [Act.put, List.setIfInBounds_toArray, List.set_cons_zero, List.set_cons_succ]
            refine wpAnyIn_ready (rs := [13]) (by kernel_rfl) (by simp) ?_
            refine AllReadyIn.cons rfl (fun K hK => ?_) (AllReadyIn.nil)
            go_simp
            try refine hK _ _ ?_
            clear hK K
            try simp only [Act.put, List.setIfInBounds_toArray, List.set_cons_zero, List.set_cons_succ]
            refine wpAnyIn_done (by kernel_rfl) ?_ _
            gi_wp2
            go_roundw
            case rel => exact ⟨.inr (.inr ⟨rfl, HRr.out.drew.set 1 _⟩), HC.out.1.trans ((KeepsOthers.drew _).trans (KeepsOthers.setCell _ _ _)), HC.out.2.trans (KeepU.trans ⟨(Below.refl _ _).drew, fun _ _ _ _ h => h⟩ (KeepU.set _ (by simp) (by have := hU.out; omega) _ _))⟩
            case measure => simp [RowKit.intOf]
          · go_simp
            try refine hK _ _ ?_
            clear hK K
            try simp only [Act.put, List.setIfInBounds_toArray, List.set_cons_zero, List.set_cons_succ]
            refine wpAnyIn_ready (rs := [2]) (by kernel_rfl) (by simp) ?_
            refine AllReadyIn.cons rfl (fun K hK => ?_) (AllReadyIn.nil)
            go_simp
            try refine hK _ _ ?_
            clear hK K
            try simp only [Act.put, List.setIfInBounds_toArray, List.set_cons_zero, List.set_cons_succ]
            refine wpAnyIn_take (i := 11) (v := ?_) rfl rfl (by kernel_rfl) (by kernel_rfl) (by kernel_rfl) (fun _ _ _ h => h) ⟨Or.inl ⟨by rfl, ?_⟩, fun _ => rfl⟩ ?_
            rotate_left 1
            · (intro w; go_simp; try with_reducible rfl)
            try simp only [Act.put, List.setIfInBounds_toArray, List.set_cons_zero, List.set_cons_succ]
            refine wpAnyIn_take (i := 12) (v := ?_) rfl rfl (by kernel_rfl) (by kernel_rfl) (by kernel_rfl) (fun _ _ _ h => h) ⟨Or.inl ⟨by rfl, ?_⟩, fun _ => rfl⟩ ?_
            rotate_left 1
            · (intro w; go_simp; try with_reducible rfl)
            try simp only [Act.put, List.setIfInBounds_toArray, List.set_cons_zero, List.set_cons_succ]
            refine wpAnyIn_ready (rs := [13]) (by kernel_rfl) (by simp) ?_
            refine AllReadyIn.cons rfl (fun K hK => ?_) (AllReadyIn.nil)
            go_simp
            try refine hK _ _ ?_
            clear hK K
            try simp only [Act.put, List.setIfInBounds_toArray, List.set_cons_zero, List.set_cons_succ]
            refine wpAnyIn_done (by kernel_rfl) ?_ _
            gi_wp2
            go_roundw
            case rel => exact ⟨.inr (.inr ⟨rfl, HRr.out.drew.set 1 _⟩), HC.out.1.trans ((KeepsOthers.drew _).trans (KeepsOthers.setCell _ _ _)), HC.out.2.trans (KeepU.trans ⟨(Below.refl _ _).drew, fun _ _ _ _ h => h⟩ (KeepU.set _ (by simp) (by have := hU.out; omega) _ _))⟩
            case measure => simp [RowKit.intOf]
      · have HC := Lib.hid (And.intro HKO.out HKU.out)
        have HUr := Lib.hid hr
        clear hr c0 c1 c2 c3 c4 c5 c6 c7 c8 c9 c10 c11 c12 c13 c14
        gi_wp2
        refine ⟨HC.out.1.from _, HC.out.2, ⟨?_, ?_, by rw [hb0.out, hb1.out]; exact HUr.out⟩, HB.out.trans HC.out.2.1⟩
        · exact HC.out.2.2 _ _ _ (by have := hU.out; simp; omega) HS.out
        · exact HC.out.2.2 _ _ _ (by have := hU.out; simp; omega) HR.out
  case done =>
    rintro D ys W hD hys ⟨⟨hS, hR, hUr⟩, hB⟩ hK
    rw [hys] at hUr
    have HE0 : Hid (sharesU ns ps p nd 0 = shareH (addW ps (onU p (nd : Int) p.length) 0) (x.cap 0)) := Lib.hid (HE.out 0)
    have HE1 : Hid (sharesU ns ps p nd 1 = shareH (addW ps (onU p (nd : Int) p.length) 1) (x.cap 1)) := Lib.hid (HE.out 1)
    have w0 := hwa.out 0 (by omega)
    have w1 := hwa.out 1 (by omega)
    have k0 := hcap.out 0 (by omega)
    have k1 := hcap.out 1 (by omega)
    generalize addW ps (onU p (nd : Int) p.length) 0 = u0 at HE0 hUr w0
    generalize addW ps (onU p (nd : Int) p.length) 1 = u1 at HE1 hUr w1
    have KS0 := Lib.hid (fun W' => hshare_any u0 (x.cap 0) W' (by omega) (by omega) (by omega) (by omega))
    have KS1 := Lib.hid (fun W' => hshare_any u1 (x.cap 1) W' (by omega) (by omega) (by omega) (by omega))
    rw [← HE0.out] at KS0
    rw [← HE1.out] at KS1
    clear w0 w1 k0 k1 HE HE0 HE1 hwa hcap hys
    obtain ⟨v0, hv0⟩ : ∃ v0, sharesU ns ps p nd 0 = v0 := ⟨_, rfl⟩
    rw [hv0] at KS0
    have hv0 := Lib.hid hv0
    obtain ⟨v1, hv1⟩ : ∃ v1, sharesU ns ps p nd 1 = v1 := ⟨_, rfl⟩
    rw [hv1] at KS1
    have hv1 := Lib.hid hv1
    have HS := Lib.hid hS
    have HR := Lib.hid hR
    have HU := Lib.hid hUr
    have HB := Lib.hid hB
    have HK := Lib.hid hK
    have HD := Lib.hid hD
    have XB0 := Lib.hid (Blk.new W (row2 0 0) 31)
    have HX1 : Hid (W.heap.size < (W.alloc (.cells (row2 0 0) 31)).heap.size) := Lib.hid (Blk.lt XB0.out)
    have BW0 := Lib.hid (below1 W (.cells (row2 0 0) 31))
    have HKl : D < W.heap.size := (Array.getElem?_eq_some_iff.1 hK).1
    have HDl := Lib.hid HKl
    have nd0 : (0 : Int) ≤ (nd : Int) := by omega
    have nd1 : (nd : Int) < (ns.length : Int) := by omega
    clear hS hR hUr hB hK hD HKl
    gi_upto_region 10 with fail
    try change Code.wpIn _ _ _ _ _ _ (W.alloc (.cells (row2 0 0) 31))
    have HS1 := Lib.hid (Blk.alloc HS.out (.cells (row2 0 0) 31))
    have HR1 := Lib.hid (Blk.alloc HR.out (.cells (row2 0 0) 31))
    have HU1 := Lib.hid (Blk.alloc HU.out (.cells (row2 0 0) 31))
    have HK1 : Hid ((W.alloc (.cells (row2 0 0) 31)).heap[D]? = some (.deferred (some []))) := Lib.hid ((BW0.out.block D HDl.out).trans HK.out)
    have HB1 : Hid (Below w.heap.size w (W.alloc (.cells (row2 0 0) 31))) := Lib.hid (HB.out.alloc HB.out.size _)
    generalize (W.alloc (.cells (row2 0 0) 31)) = W1 at XB0 HX1 HS1 HR1 HU1 HK1 HB1 ⊢
    obtain ⟨Xb, hXb⟩ : ∃ Xb, W.heap.size = Xb := ⟨_, rfl⟩
    rw [hXb] at XB0 HX1 ⊢
    have HXd : Hid (D < Xb ∧ Ub < Xb ∧ Rb < Xb ∧ w.heap.size < Rb) := Lib.hid ⟨by have := HDl.out; omega, by have := Blk.lt HU.out; omega, by have := Blk.lt HR.out; omega, hU.out.1⟩
    clear hXb HS HR HU HK HB BW0 HDl
    gi_wp2_with fail
    gi_loopw [33] (fun i wr => ((i = .int .i64 0 ∧ Blk wr Xb (row2 0 0) 31) ∨ (i = .int .i64 1 ∧ Blk wr Xb (row2 v0 0) 31) ∨ (i = .int .i64 2 ∧ Blk wr Xb (row2 v0 v1) 31)) ∧ Blk wr w.heap.size (snapC A B C ca cb cc ns ps os) 26 ∧ Blk wr Rb (row2 0 0) 31 ∧ Blk wr Ub (row2 u0 u1) 31 ∧ wr.heap[D]? = some (.deferred (some [])) ∧ Below w.heap.size w wr) (fun i _ => 2 - (RowKit.intOf i).toNat)
    case atStart => exact ⟨.inl ⟨rfl, XB0.out⟩, HS1.out, HR1.out, HU1.out, HK1.out, HB1.out⟩
    case round =>
      clear XB0 HS1 HR1 HU1 HK1 HB1
      obtain ⟨hir, hs, hr, hu, hk, hb⟩ := hrel
      have SB := Lib.hid hs
      have RB := Lib.hid hr
      have UB := Lib.hid hu
      have DB := Lib.hid hk
      have HBr := Lib.hid hb
      clear hs hr hu hk hb
      obtain ⟨b, o, hA, hbl, c0, c1, c2, c3, c4, c5, c6, c7, c8, c9⟩ := atN (H.out.below HBr.out).n.cells HX.out
      obtain ⟨b', o', hA', hbw, _⟩ := atN H.out.n.cells HX.out
      rw [hA] at hA'
      cases hA'
      subst hA
      have z0 : wr.cell? ⟨w.heap.size, 0, none⟩ = some (.slice (some ⟨b, o, none⟩) ns.length ca) := Blk.cell SB.out 0
      rcases hir with ⟨rfl, hX⟩ | ⟨rfl, hX⟩ | ⟨rfl, hX⟩
      · have XB := Lib.hid hX
        have HC0 := Lib.hid (fun W' (hb : Below wr.heap.size wr W') => (show W'.cell? ⟨Ub, 0, none⟩ = some (.int .i64 u0) ∧ W'.cell? ⟨w.heap.size, 0, none⟩ = some (.slice (some ⟨b, o, none⟩) ns.length ca) ∧ W'.cell? ⟨b, o + nd * 10 + 1 + 0, none⟩ = some (.int .i64 (x.cap 0)) from ⟨Blk.cell (UB.out.below hb UB.out.lt) 0, Blk.cell (SB.out.below hb SB.out.lt) 0, (hb.cell (p := ⟨b, o + nd * 10 + 1 + 0, none⟩) hbl).trans c1⟩))
        have HD0 : Hid (Below wr.heap.size wr wr.drew) := Lib.hid ((Below.refl _ wr).drew)
        have s0 := HC0.out _ HD0.out
        clear hX c0 c1 c2 c3 c4 c5 c6 c7 c8 c9
        gi_wp2
        refine wpIn_wide.2 ?_
        go_region_held3 (fun w' => w'.cell? ⟨Ub, 0, none⟩ = some (.int .i64 u0) ∧ w'.cell? ⟨w.heap.size, 0, none⟩ = some (.slice (some ⟨b, o, none⟩) ns.length ca) ∧ w'.cell? ⟨b, o + nd * 10 + 1 + 0, none⟩ = some (.int .i64 (x.cap 0)))
          (first | exact s0 | exact s1 | exact s2)
          ((go_at_call 47; (with_reducible refine (KS0.out _).mono ?_); rintro e wA ⟨rfl, hbA⟩; have HDA := Lib.hid (HD0.out.trans (hbA.mono HD0.out.size)); have s1 := HC0.out _ HDA.out; have XA := Lib.hid (XB.out.below HDA.out XB.out.lt); have x0 := Blk.cell XA.out 0; have g0 := Blk.free XA.out 0; have s2 := And.intro (Blk.cell ((UB.out.below HDA.out UB.out.lt).oth (show Ub ≠ Xb by have := HXd.out; omega) 0 (.int .i64 v0)) 0) (And.intro (Blk.cell ((SB.out.below HDA.out SB.out.lt).oth (show w.heap.size ≠ Xb by have := HXd.out; omega) 0 (.int .i64 v0)) 0) ((((Below.refl w.heap.size wA).setCell (p := ⟨Xb, 0, none⟩) (show w.heap.size ≤ Xb by have := HXd.out; omega) (.int .i64 v0)).cell (p := ⟨b, o + nd * 10 + 1 + 0, none⟩) hbw).trans s1.2.2)); clear hbA))
        all_goals
          gi_wp2
          go_roundw
          case rel => exact ⟨.inr (.inl ⟨rfl, XA.out.set 0 _⟩), (SB.out.below HDA.out SB.out.lt).oth (by have := HXd.out; omega) 0 _, (RB.out.below HDA.out RB.out.lt).oth (by have := HXd.out; omega) 0 _, (UB.out.below HDA.out UB.out.lt).oth (by have := HXd.out; omega) 0 _, (KeepsOthers.setCell _ _ _).same D _ ((HDA.out.block D (Array.getElem?_eq_some_iff.1 DB.out).1).trans DB.out) rfl, (HBr.out.trans (HDA.out.mono HBr.out.size)).setCell (p := ⟨Xb, 0, none⟩) (show w.heap.size ≤ Xb by have := HXd.out; omega) _⟩
          case measure => simp [RowKit.intOf]
      · have XB := Lib.hid hX
        have HC0 := Lib.hid (fun W' (hb : Below wr.heap.size wr W') => (show W'.cell? ⟨Ub, 1, none⟩ = some (.int .i64 u1) ∧ W'.cell? ⟨w.heap.size, 0, none⟩ = some (.slice (some ⟨b, o, none⟩) ns.length ca) ∧ W'.cell? ⟨b, o + nd * 10 + 1 + 1, none⟩ = some (.int .i64 (x.cap 1)) from ⟨Blk.cell (UB.out.below hb UB.out.lt) 1, Blk.cell (SB.out.below hb SB.out.lt) 0, (hb.cell (p := ⟨b, o + nd * 10 + 1 + 1, none⟩) hbl).trans c2⟩))
        have HD0 : Hid (Below wr.heap.size wr wr.drew) := Lib.hid ((Below.refl _ wr).drew)
        have s0 := HC0.out _ HD0.out
        clear hX c0 c1 c2 c3 c4 c5 c6 c7 c8 c9
        gi_wp2
        refine wpIn_wide.2 ?_
        go_region_held3 (fun w' => w'.cell? ⟨Ub, 1, none⟩ = some (.int .i64 u1) ∧ w'.cell? ⟨w.heap.size, 0, none⟩ = some (.slice (some ⟨b, o, none⟩) ns.length ca) ∧ w'.cell? ⟨b, o + nd * 10 + 1 + 1, none⟩ = some (.int .i64 (x.cap 1)))
          (first | exact s0 | exact s1 | exact s2)
          ((go_at_call 47; (with_reducible refine (KS1.out _).mono ?_); rintro e wA ⟨rfl, hbA⟩; have HDA := Lib.hid (HD0.out.trans (hbA.mono HD0.out.size)); have s1 := HC0.out _ HDA.out; have XA := Lib.hid (XB.out.below HDA.out XB.out.lt); have x0 := Blk.cell XA.out 1; have g0 := Blk.free XA.out 1; have s2 := And.intro (Blk.cell ((UB.out.below HDA.out UB.out.lt).oth (show Ub ≠ Xb by have := HXd.out; omega) 1 (.int .i64 v1)) 1) (And.intro (Blk.cell ((SB.out.below HDA.out SB.out.lt).oth (show w.heap.size ≠ Xb by have := HXd.out; omega) 1 (.int .i64 v1)) 0) ((((Below.refl w.heap.size wA).setCell (p := ⟨Xb, 1, none⟩) (show w.heap.size ≤ Xb by have := HXd.out; omega) (.int .i64 v1)).cell (p := ⟨b, o + nd * 10 + 1 + 1, none⟩) hbw).trans s1.2.2)); clear hbA))
        all_goals
          gi_wp2
          go_roundw
          case rel => exact ⟨.inr (.inr ⟨rfl, XA.out.set 1 _⟩), (SB.out.below HDA.out SB.out.lt).oth (by have := HXd.out; omega) 1 _, (RB.out.below HDA.out RB.out.lt).oth (by have := HXd.out; omega) 1 _, (UB.out.below HDA.out UB.out.lt).oth (by have := HXd.out; omega) 1 _, (KeepsOthers.setCell _ _ _).same D _ ((HDA.out.block D (Array.getElem?_eq_some_iff.1 DB.out).1).trans DB.out) rfl, (HBr.out.trans (HDA.out.mono HBr.out.size)).setCell (p := ⟨Xb, 1, none⟩) (show w.heap.size ≤ Xb by have := HXd.out; omega) _⟩
          case measure => simp [RowKit.intOf]
      · have x0 : wr.cell? ⟨Xb, 0, none⟩ = some (.int .i64 v0) := Blk.cell hX 0
        have x1 : wr.cell? ⟨Xb, 1, none⟩ = some (.int .i64 v1) := Blk.cell hX 1
        have r0 : wr.cell? ⟨Rb, 0, none⟩ = some (.int .i64 0) := Blk.cell RB.out 0
        have r1 : wr.cell? ⟨Rb, 1, none⟩ = some (.int .i64 0) := Blk.cell RB.out 1
        have f0 := Blk.free RB.out 0
        have f1 := Blk.free RB.out 1
        have HZ : Hid (Blk ((wr.setCell ⟨Rb, 0, none⟩ (.int .i64 v0)).setCell ⟨Rb, 1, none⟩ (.int .i64 v1)) Rb (row2 v0 v1) 31) := Lib.hid ((RB.out.set 0 _).set 1 _)
        have HO : Hid (KeepsOthers wr ((wr.setCell ⟨Rb, 0, none⟩ (.int .i64 v0)).setCell ⟨Rb, 1, none⟩ (.int .i64 v1))) := Lib.hid ((KeepsOthers.setCell _ _ _).trans (KeepsOthers.setCell _ _ _))
        have HB5 : Hid (Below w.heap.size w ((wr.setCell ⟨Rb, 0, none⟩ (.int .i64 v0)).setCell ⟨Rb, 1, none⟩ (.int .i64 v1))) := Lib.hid ((HBr.out.setCell (p := ⟨Rb, 0, none⟩) (show w.heap.size ≤ Rb by have := HXd.out; omega) _).setCell (p := ⟨Rb, 1, none⟩) (show w.heap.size ≤ Rb by have := HXd.out; omega) _)
        clear hX c0 c1 c2 c3 c4 c5 c6 c7 c8 c9 z0
        gi_wp2
        generalize ((wr.setCell ⟨Rb, 0, none⟩ (.int .i64 v0)).setCell ⟨Rb, 1, none⟩ (.int .i64 v1)) = W5 at HZ HO HB5 ⊢
        have hK5 := HO.out.same D _ DB.out rfl
        refine ⟨by simp, .inl ⟨_, _, rfl, run_takeDeferred hK5, ?_⟩⟩
        refine ⟨.agg (row2 v0 v1), results_row1 Try.results26 _ _ Rb _ _ _ _ rfl (row2_nc HZ.out (grownBy_putObj' _ D (.deferred none)) (fun r e => by cases e; exact ⟨_, hK5, rfl⟩)) Try.underlying31 rfl row2_size, by rw [hv0.out, hv1.out], ?_⟩
        exact HB5.out.trans (belowK_b (w := w) (Nat.le_refl _) W5 D _ _ (by have := HD.out; have := hU.out; have := hW0.out; omega) hK5 rfl rfl)
  case stop =>
    rintro D c pre W _ _ h _
    exact h.elim
end Go.Proofs.Ytmdmjnffnjlgmaa

namespace Go.Proofs.Ytmdmjnffnjlgmaa
open Go.RowKit Go.Maps Go.Shelf
attribute [local go_sem] Oper.semAt_some

theorem shareF_no {ns : List NodeD} {ps : List PodD} {os : List OwnD} {p : List Int} {node : Int} (h : nodeK ns ps os p node = false) (k : Nat) : shareF ns ps os p node k = 0 := by
  unfold shareF
  rw [h]
  rfl
theorem nodeK_yes {ns : List NodeD} {ps : List PodD} {os : List OwnD} {p : List Int} {node : Int} (h : nodeK ns ps os p node = true) : placeE ns ps os p = 0 ∧ ∃ n : Nat, node = (n : Int) ∧ n < ns.length := by
  obtain ⟨h1, h2, h3⟩ := of_decide_eq_true h
  exact ⟨h1, node.toNat, by omega, by omega⟩
theorem shareF_yes {ns : List NodeD} {ps : List PodD} {os : List OwnD} {p : List Int} {n : Nat} (h : nodeK ns ps os p (n : Int) = true) (k : Nat) : shareF ns ps os p (n : Int) k = sharesU ns ps p n k := by
  unfold shareF
  rw [h, Int.toNat_natCast]
  rfl

set_option maxRecDepth 100000 in
set_option maxHeartbeats 1000000 in
theorem hShare_in (A B C P : Option Addr) (ca cb cc cp : Nat) (ns : List NodeD) (ps : List PodD) (os : List OwnD) (p : List Int) (node : Int) (w : World) (h : SnapIn w A B C ca cb cc ns ps os) (hp : IntsAt w P cp p) :
    Calls Try.prog 12 #[snapV A B C ca cb cc ns ps os, .slice P p.length cp, .int .i64 node] w fun e w' => e = .returned (.agg (row2 (shareF ns ps os p node 0) (shareF ns ps os p node 1))) ∧ Below w.heap.size w w' := by
  have B0 : Hid (Below w.heap.size w ((w.alloc (.cells (snapC A B C ca cb cc ns ps os) 26)).alloc (.cells (row2 0 0) 31))) := Lib.hid (Qu.below2 w _ _)
  have S0 : Hid (Blk ((w.alloc (.cells (snapC A B C ca cb cc ns ps os) 26)).alloc (.cells (row2 0 0) 31)) w.heap.size (snapC A B C ca cb cc ns ps os) 26) := Lib.hid (Blk.alloc (Blk.new w _ _) _)
  have R0 : Hid (Blk ((w.alloc (.cells (snapC A B C ca cb cc ns ps os) 26)).alloc (.cells (row2 0 0) 31)) (w.heap.size + 1) (row2 0 0) 31) := Lib.hid (blk2 w _ _ _)
  have H := Lib.hid h
  have HP := Lib.hid hp
  have KN := Lib.hid (hnode_in A B C P ca cb cc cp ns ps os p node _ (h.low B0.out) (hp.below B0.out))
  have HN : Hid (nodeK ns ps os p node = false → shareF ns ps os p node 0 = 0 ∧ shareF ns ps os p node 1 = 0) := Lib.hid (fun h => ⟨shareF_no h 0, shareF_no h 1⟩)
  have KS : Hid (nodeK ns ps os p node = true → ∀ W', Below w.heap.size w W' → Calls Try.prog 26 #[snapV A B C ca cb cc ns ps os, .slice P p.length cp, .int .i64 node] W' fun e w' => e = .returned (.agg (row2 (shareF ns ps os p node 0) (shareF ns ps os p node 1))) ∧ Below W'.heap.size W' w') := Lib.hid (fun hk W' hb => by
    obtain ⟨hE, n, rfl, hn⟩ := nodeK_yes hk
    rw [shareF_yes hk, shareF_yes hk]
    exact shares_any A B C P ca cb cc cp ns ps os p n W' ((h.at (placeE_few hE)).below hb) (hp.below hb) hE hn)
  generalize shareF ns ps os p node 0 = x at HN KS ⊢
  generalize shareF ns ps os p node 1 = y at HN KS ⊢
  generalize nodeK ns ps os p node = b at KN HN KS
  clear h hp
  go_enter Try.func12, Try.ntmps12
  go_wp2_with fail
  refine (KN.out).mono ?_
  rintro e w1 ⟨rfl, hb⟩
  have B1 := Lib.hid (B0.out.trans (hb.mono B0.out.size))
  have R1 := Lib.hid (R0.out.below hb R0.out.lt)
  have S1 := Lib.hid (S0.out.below hb S0.out.lt)
  have z0 : w1.cell? ⟨w.heap.size, 0, none⟩ = some (.slice A ns.length ca) := Blk.cell S1.out 0
  have z1 : w1.cell? ⟨w.heap.size, 1, none⟩ = some (.slice B ps.length cb) := Blk.cell S1.out 1
  have z2 : w1.cell? ⟨w.heap.size, 2, none⟩ = some (.slice C os.length cc) := Blk.cell S1.out 2
  clear hb KN B0 R0 S0
  cases b with
  | false =>
    obtain ⟨rfl, rfl⟩ := HN.out rfl
    clear KS HN
    go_wp2_with (refine wpList_store_row rfl 31 (.tmp 6) (.tmp 12) rfl (w.heap.size + 1) (row2 0 0) rfl rfl 31 _ R1.out row2_size (by kernel_rfl) (by kernel_rfl) ?_)
    refine bodyPost_row1 Try.results12 (w.heap.size + 1) _ _ _ _ (by rfl) (by rfl) (Blk.put R1.out (row2 0 0)) Try.underlying31 rfl row2_size ?_
    exact ⟨rfl, below_setRow B1.out (by omega) _⟩
  | true =>
    have KS1 := Lib.hid (KS.out rfl _ B1.out)
    clear KS HN
    go_wp2_with fail
    refine (KS1.out).mono ?_
    rintro e w2 ⟨rfl, hb⟩
    have B2 := Lib.hid (B1.out.trans (hb.mono B1.out.size))
    have R2 := Lib.hid (R1.out.below hb R1.out.lt)
    clear hb z0 z1 z2 B1 R1 S1
    go_wp2_with (refine wpList_store_row rfl 31 (.tmp 6) (.tmp 16) rfl (w.heap.size + 1) (row2 x y) rfl rfl 31 _ R2.out row2_size (by kernel_rfl) (by kernel_rfl) ?_)
    refine bodyPost_row1 Try.results12 (w.heap.size + 1) _ _ _ _ (by rfl) (by rfl) (Blk.put R2.out (row2 x y)) Try.underlying31 rfl row2_size ?_
    exact ⟨rfl, below_setRow B2.out (by omega) _⟩
end Go.Proofs.Ytmdmjnffnjlgmaa

namespace Go.Proofs.Ytmdmjnffnjlgmaa
open Go.RowKit

theorem first_zeroH {f : Nat → Int × Int} : ∀ {n : Nat}, Qu.firstE f n = 0 → ∀ k, k < n → (f k).2 = 0
  | 0, _, k, hk => by omega
  | n + 1, h, k, hk => by
    rw [Qu.firstE] at h
    by_cases h1 : Qu.firstE f n = 0
    · rw [if_neg (by simpa using h1)] at h
      rcases Nat.lt_or_eq_of_le (Nat.le_of_lt_succ hk) with g | rfl
      · exact first_zeroH h1 k g
      · exact h
    · rw [if_pos h1] at h
      exact absurd h h1
theorem sum_topH {ns : List NodeD} {ps : List PodD} {os : List OwnD} (h : checkS ns ps os = 0) {j : Nat} (hj : j < 5) : ((ps.map (fun x => x.req j)).sum : Int) ≤ 1099511627776 := by
  unfold checkS at h
  split at h
  · split at h
    · rename_i hs
      rw [Bool.and_eq_true] at hs
      have h2 := hs.2
      unfold sumB at h2
      have h3 := first_zeroH (of_decide_eq_true h2) j hj
      unfold Qu.plusF Qu.addL at h3
      split at h3
      · rename_i hc
        exact absurd h3 hc
      · split at h3
        · cases h3
        · rename_i hc ht
          unfold Qu.top at ht
          have e : Qu.colL (ps.map (·.req)) j = ps.map (fun x => x.req j) := by simp [Qu.colL]
          rw [e] at ht
          omega
    · cases h
  · cases h
theorem reqS_takeH (ps : List PodD) (p : List Int) (n : Int) (j : Nat) (h : ∀ x ∈ ps, 0 ≤ x.req j ∧ x.req j ≤ 1099511627776) : ∀ k, reqSH ps j (onU p n k) ≤ ((ps.take k).map (fun x => x.req j)).sum
  | 0 => by simp [onU, reqSH]
  | k + 1 => by
    have ih := reqS_takeH ps p n j h k
    have h1 : reqSH ps j [k] = reqAtH ps j k := by simp [reqSH]
    have hz : reqSH ps j [] = 0 := rfl
    have hp := reqAt_posH h k
    rw [onU, reqS_appendH, List.take_add_one, List.map_append, List.sum_append]
    have e : ((ps[k]?.toList.map (fun x => x.req j)).sum : Int) = reqAtH ps j k := by
      unfold reqAtH
      cases ps[k]? <;> simp
    rw [e]
    split
    · rw [h1]
      omega
    · rw [hz]
      omega
theorem addW_topH {ns : List NodeD} {ps : List PodD} {os : List OwnD} {p : List Int} (hE : placeE ns ps os p = 0) (n : Int) {j : Nat} (hj : j < 5) : 0 ≤ addW ps (onU p n p.length) j ∧ addW ps (onU p n p.length) j ≤ 1099511627776 := by
  obtain ⟨hS, hl, _⟩ := placeE_zero hE
  have hr := fun x hx => req_boundsH hS (x := x) hx j hj
  have h1 := reqS_takeH ps p n j hr p.length
  have h2 := (reqS_boundsH hr (onU p n p.length)).1
  have h3 := sum_topH hS hj
  rw [hl, List.take_length, ← hl] at h1
  rw [addW_isH]
  unfold wrap64
  omega
theorem share_posH {x c : Int} (h0 : 0 ≤ x) (h2 : x ≤ 1099511627776) (hc : 0 < c) (hc' : c ≤ 1099511627776) : shareH x c = x * 1000 / c := by
  unfold shareH Qu.shareL Qu.top
  rw [if_neg (by omega), if_neg (by omega), if_neg (by omega), if_neg (by omega)]
theorem share_nilH (x : Int) (h0 : 0 ≤ x) : shareH x 0 = if 0 < x then 1000 else 0 := by
  unfold shareH Qu.shareL Qu.top
  by_cases hx : 0 < x
  · rw [if_pos ⟨rfl, hx⟩, if_pos hx]
  · obtain rfl : x = 0 := by omega
    simp
theorem share_monoH {a b c : Int} (h0 : 0 ≤ a) (h1 : a ≤ b) (h2 : b ≤ 1099511627776) (hc : 0 ≤ c) (hc' : c ≤ 1099511627776) : shareH a c ≤ shareH b c := by
  by_cases hz : c = 0
  · subst hz
    rw [share_nilH a h0, share_nilH b (by omega)]
    split <;> split <;> omega
  · rw [share_posH h0 (by omega) (by omega) hc', share_posH (by omega) h2 (by omega) hc']
    exact Int.ediv_le_ediv (by omega) (by omega)
theorem share_fitH {a c : Int} (h0 : 0 ≤ a) (h1 : a ≤ c) (hc' : c ≤ 1099511627776) : shareH a c ≤ 1000 := by
  by_cases hz : c = 0
  · subst hz
    rw [share_nilH a h0]
    split <;> omega
  · rw [share_posH h0 (by omega) (by omega) hc']
    refine Int.ediv_le_of_le_mul (by omega) ?_
    omega

section
variable {ns : List NodeD} {ps : List PodD} {os : List OwnD} {p : List Int} {k n : Nat}
/-- The placement with the pod on the node, unless the node is lost. -/
def moreP (ns : List NodeD) (p : List Int) (k n : Nat) : List Int := if lostB ns n then p.set k (-1) else p.set k (n : Int)
theorem more_len : (moreP ns p k n).length = p.length := by unfold moreP; split <;> simp
theorem more_placeH (hE : placeE ns ps os p = 0) (hn : n < ns.length) : placeE ns ps os (moreP ns p k n) = 0 := by
  unfold moreP
  split
  · exact off_placeH hE
  · rename_i hl
    obtain ⟨h1, h2, h3⟩ := placeE_zero hE
    unfold placeE
    rw [if_pos h1, if_pos (by simpa using h2), if_pos]
    rw [List.all_eq_true]
    intro x hx
    rcases List.mem_or_eq_of_mem_set hx with h | rfl
    · exact h3 x h
    · unfold okB tpB
      unfold lostB at hl
      rw [Int.toNat_natCast]
      obtain ⟨y, hy⟩ : ∃ y, ns[n]? = some y := ⟨ns[n], List.getElem?_eq_getElem hn⟩
      rw [hy] at hl ⊢
      dsimp only at hl ⊢
      cases hq : y.lost with
      | true => rw [hq] at hl; exact absurd rfl hl
      | false => simp
theorem more_otherH (hk : k < p.length) {i : Nat} (hi : i ≠ n) : onU (moreP ns p k n) (i : Int) (moreP ns p k n).length = onU (p.set k (-1)) (i : Int) (p.set k (-1)).length := by
  unfold moreP
  split
  · rfl
  · have h1 := set_onH (p := p.set k (-1)) (i := k) (y := -1) (z := (n : Int)) (by simpa using hk) (by rw [List.getElem?_set_self hk]) (n := (i : Int)) (by omega) (by omega) p.length
    rw [List.set_set] at h1
    rw [List.length_set, List.length_set]
    exact h1
theorem more_offH (hk : k < p.length) : (moreP ns p k n).set k (-1) = p.set k (-1) := by
  unfold moreP
  split <;> simp
theorem share_atH (hE : placeE ns ps os p = 0) {i : Nat} (hi : i < ns.length) {x : NodeD} (hx : ns[i]? = some x) (q : Nat) : shareF ns ps os p (i : Int) q = shareH (addW ps (onU p (i : Int) p.length) q) (x.cap q) := by
  rw [shareF_yes (by unfold nodeK; exact decide_eq_true ⟨hE, by omega, by omega⟩)]
  unfold sharesU
  rw [hx]
/-- All that the law asks. -/
theorem growsH (hE : placeE ns ps os p = 0) (hk : k < p.length) (hn : n < ns.length) {i : Nat} (hi : i < ns.length) {x : NodeD} (hx : ns[i]? = some x) {q : Nat} (hq : q < 5) :
    (i ≠ n → shareF ns ps os (p.set k (-1)) (i : Int) q = shareF ns ps os (moreP ns p k n) (i : Int) q) ∧ shareF ns ps os (p.set k (-1)) (i : Int) q ≤ shareF ns ps os (moreP ns p k n) (i : Int) q ∧
    (Qu.fitsV (usedF ns ps os (moreP ns p k n) (i : Int)) x.cap = true → shareF ns ps os (moreP ns p k n) (i : Int) q ≤ 1000) := by
  have hA := off_placeH (i := k) hE
  have hB := more_placeH (k := k) hE hn
  have hS := (placeE_zero hE).1
  have hc := cap_boundsH hS (List.mem_of_getElem? hx) q hq
  have hlen : p.length ≤ 1000 := by
    have := (placeE_zero hE).2.1
    have h24 := (placeE_few hE).2.1
    omega
  rw [share_atH hA hi hx, share_atH hB hi hx]
  have tA := addW_topH hA (i : Int) hq
  have tB := addW_topH hB (i : Int) hq
  refine ⟨fun h => by rw [more_otherH hk h], ?_, fun h => ?_⟩
  · have h1 := off_addWH (p := moreP ns p k n) (i := k) (by rw [more_len]; exact hk) (n := (i : Int)) (by omega) (fun x hx => req_boundsH hS hx q hq) (by rw [more_len]; exact hlen)
    rw [more_offH hk] at h1
    exact share_monoH tA.1 h1 tB.2 hc.1 hc.2
  · have h1 := (Qu.fitsV_iff _ _).1 h q hq
    unfold usedF at h1
    rw [if_pos ⟨hB, by omega, by omega⟩] at h1
    exact share_fitH tB.1 h1 hc.2
end
end Go.Proofs.Ytmdmjnffnjlgmaa

namespace Go.Proofs.Ytmdmjnffnjlgmaa
open Go.RowKit

/-- Where a pod is, and where all are. -/
def placeP (ns : List NodeD) (x : PodD) : Int := if x.on = [] then -1 else idxF x.on (ns.map (·.name))
def placesP (ns : List NodeD) (ps : List PodD) : List Int := ps.map (placeP ns)
/-- The row when the first k are written. -/
def rowP (ns : List NodeD) (ps : List PodD) (k : Nat) : List Int := (ps.take k).map (placeP ns) ++ List.replicate (ps.length - k) 0
theorem placesP_len (ns : List NodeD) (ps : List PodD) : (placesP ns ps).length = ps.length := by simp [placesP]
theorem rowP_len (ns : List NodeD) (ps : List PodD) (k : Nat) (hk : k ≤ ps.length) : (rowP ns ps k).length = ps.length := by simp [rowP]; omega
theorem rowP_end (ns : List NodeD) (ps : List PodD) : rowP ns ps ps.length = placesP ns ps := by simp [rowP, placesP]
theorem rowP_zero (ns : List NodeD) (ps : List PodD) : rowP ns ps 0 = List.replicate ps.length 0 := by simp [rowP]
theorem rowP_step (ns : List NodeD) (ps : List PodD) (k : Nat) (x : PodD) (hx : ps[k]? = some x) : (rowP ns ps k).set k (placeP ns x) = rowP ns ps (k + 1) := by
  have hlt := (List.getElem?_eq_some_iff.1 hx).1
  have e : ps.length - k = (ps.length - (k + 1)) + 1 := by omega
  unfold rowP
  rw [e, List.replicate_succ, List.set_append_right _ _ (by simp; omega), List.take_add_one, hx]
  simp [Nat.min_eq_left (Nat.le_of_lt hlt)]

theorem run_intsB (w : World) (n : Nat) (hn : n * 8 ≤ 140737488355328) : (Instr.makeSlice 29 (.int .i64 (n : Int)) (.int .i64 (n : Int))).run Try.prog w = .ok (.slice (some ⟨w.heap.size, 0, none⟩) n n) (w.alloc (.cells (madeCells #[.int .i64 0] n) 3)) := by
  cases hi : Try.prog.info? 3 with
  | none => have h := int_infoK; rw [hi] at h; cases h
  | some i =>
    have h := int_infoK
    rw [hi] at h
    simp only [Option.map_some, Option.some.injEq, Prod.mk.injEq] at h
    obtain ⟨h0, h1, h2⟩ := h
    have k := run_make (P := Try.prog) w 29 3 i (.int .i64 0) Try.underlying29 hi h0 .i64 .i64 n n (by omega) (by omega) (by rw [h2]; omega) (by omega)
    simpa [h1, Value.cells] using k
theorem own_madeB (w : World) (n base : Nat) (hn : n * 8 ≤ 140737488355328) (hb : base ≤ w.heap.size) : (w.alloc (.cells (madeCells #[.int .i64 0] n) 3)).ownsRow base 3 1 (.slice (some ⟨w.heap.size, 0, none⟩) n n) n (intsC (List.replicate n 0)) := by
  refine ⟨by simp [intsC], .inr ⟨w.heap.size, n, madeCells #[.int .i64 0] n, rfl, hb, heap_alloc_new _ _, Nat.le_refl _, by unfold maxLen; omega, by rw [size_madeCells, Nat.mul_one], ?_⟩⟩
  rw [toList_madeCells_one, Nat.mul_one, List.take_of_length_le (by simp)]
  simp [intsC]

set_option maxRecDepth 100000 in
set_option maxHeartbeats 2000000 in
theorem indexN_in (A : Option Addr) (c q : Nat) (l : List NodeD) (name : List UInt8) (w : World) (hl : l.length ≤ 9223372036854775807) (hs : La.SlAt w A (cellsN l)) (hq : w.cell? ⟨q, 0, none⟩ = some (strV name)) :
    Calls Try.prog 52 #[.slice A l.length c, .func (Fn.func 53) #[] #[.pointer (some ⟨q, 0, none⟩)]] w fun e w' => e = .returned (.int .i64 (idxF name (l.map (·.name)))) ∧ Below w.heap.size w w' := by
  have HS := Lib.hid hs
  have HQ := Lib.hid hq
  have hql : q < w.heap.size := World.block_lt_of_cell? w _ hq
  have hg : ∀ (args : Array Value) (w : World), (callFunc 53 args).run Try.prog w = .ok (.enter 53 args) w := fun _ _ => by kernel_rfl
  obtain ⟨R, hR⟩ : ∃ R, idxF name (l.map (·.name)) = R := ⟨_, rfl⟩
  have HR := Lib.hid hR
  rw [hR]
  clear hs hq hR
  go_enter Try.func52, Try.ntmps52
  go_wp2_with fail
  go_loopw [8] (fun i wr => ∃ k : Nat, k ≤ l.length ∧ i = .int .i64 k ∧ (∀ j x, j < k → (l.map (·.name))[j]? = some x → x ≠ name) ∧ Below w.heap.size w wr) (fun i _ => l.length - (RowKit.intOf i).toNat)
  case atStart => exact ⟨0, by omega, rfl, fun j x h => by omega, Below.refl _ _⟩
  case round =>
    obtain ⟨k, hk, rfl, hn, hb⟩ := hrel
    have HN := Lib.hid hn
    have HB := Lib.hid hb
    clear hn hb
    by_cases hlt : k < l.length
    · obtain ⟨x, hx⟩ : ∃ x, l[k]? = some x := ⟨l[k], List.getElem?_eq_getElem hlt⟩
      obtain ⟨b, o, hA, hbl, c0, c1, c2, c3, c4, c5, c6, c7, c8, c9⟩ := atN (HS.out.below HB.out) hx
      subst hA
      have hxn : (l.map (·.name))[k]? = some x.name := by simp [hx]
      have HX := Lib.hid hxn
      have k0 : (0 : Int) ≤ (k : Int) := by omega
      have k1 : (k : Int) < (l.length : Int) := by omega
      have KI := Lib.hid (fun w' (hb : Below wr.heap.size wr w') => isN x name q w' ((hb.cell (p := ⟨q, 0, none⟩) (by show q < wr.heap.size; have := HB.out.size; omega)).trans ((HB.out.cell (p := ⟨q, 0, none⟩) hql).trans HQ.out)))
      clear hx hxn
      go_wp2_with fail
      refine (KI.out _ (by first | exact Below.refl _ _ | exact (Below.refl _ _).drew)).mono ?_
      rintro e w3 ⟨rfl, hb3⟩
      have B3 := Lib.hid (HB.out.trans (hb3.mono HB.out.size))
      clear hb3 KI c0 c1 c2 c3 c4 c5 c6 c7 c8 c9
      by_cases he : x.name = name
      · have hd : decide (x.name = name) = true := by simpa using he
        have HE : Hid ((k : Int) = R) := Lib.hid (by rw [← HR.out]; exact (idx_hit name _ k (by rw [HX.out, he]) HN.out).symm)
        have He := Lib.hid he
        clear he
        go_wp2
        go_ret
        exact ⟨La.retI HE.out, B3.out⟩
      · have hd : decide (x.name = name) = false := by simpa using he
        have He := Lib.hid he
        clear he
        go_wp2
        go_roundw
        case rel =>
          refine ⟨k + 1, by omega, by go_num, fun j y hj hy => ?_, B3.out⟩
          by_cases hjk : j = k
          · subst hjk
            rw [HX.out] at hy
            cases hy
            exact He.out
          · exact HN.out j y (by omega) hy
        case measure => simp [RowKit.intOf]; omega
    · obtain rfl : k = l.length := by omega
      have HE : Hid ((-1 : Int) = R) := Lib.hid (by
        rw [← HR.out]
        refine (idx_miss name _ (fun j y hy => HN.out j y ?_ hy)).symm
        rcases Nat.lt_or_ge j l.length with h | h
        · exact h
        · rw [List.getElem?_eq_none (by simpa using h)] at hy
          cases hy)
      go_wp2
      go_ret
      exact ⟨La.retI HE.out, HB.out⟩

set_option maxHeartbeats 1000000 in
theorem findN_in (A B C : Option Addr) (ca cb cc la lb lc : Nat) (l : List NodeD) (name : List UInt8) (w : World) (hl : l.length ≤ 9223372036854775807) (hs : La.SlAt w A (cellsN l)) (hn : la = l.length) :
    Calls Try.prog 36 #[.agg #[.slice A la ca, .slice B lb cb, .slice C lc cc], strV name] w fun e w' => e = .returned (.int .i64 (idxF name (l.map (·.name)))) ∧ Below w.heap.size w w' := by
  subst hn
  have B2 := Lib.hid (Qu.below2 w (.cells #[.slice A l.length ca, .slice B lb cb, .slice C lc cc] 26) (.cells #[strV name] 9))
  have KI := Lib.hid (indexN_in A ca (w.heap.size + 1) l name _ hl (hs.below B2.out) (by
    rw [cell_of_row _ (w.heap.size + 1) 0 _ _ _ (blk2 w (.cells #[.slice A l.length ca, .slice B lb cb, .slice C lc cc] 26) #[strV name] 9)]
    rfl))
  generalize idxF name (l.map (·.name)) = R at KI ⊢
  clear hs
  go_enter Try.func36, Try.ntmps36
  go_wp2_with fail
  refine KI.out.mono ?_
  rintro e w3 ⟨rfl, hb3⟩
  have B3 := Lib.hid (B2.out.trans (hb3.mono B2.out.size))
  clear hb3 KI
  go_wp2
  go_ret
  exact ⟨rfl, B3.out⟩

set_option maxRecDepth 100000 in
set_option maxHeartbeats 2000000 in
theorem placeOf_in (A B C : Option Addr) (ca cb cc : Nat) (ns : List NodeD) (ps : List PodD) (os : List OwnD) (x : PodD) (w : World) (h : SnapIn w A B C ca cb cc ns ps os) :
    Calls Try.prog 20 #[snapV A B C ca cb cc ns ps os, valP x] w fun e w' => e = .returned (.int .i64 (placeP ns x)) ∧ Below w.heap.size w w' := by
  have B2 := Lib.hid (Qu.below2 w (.cells (snapC A B C ca cb cc ns ps os) 26) (.cells (cellsP [x]).toArray 58))
  have KN := Lib.hid (fun w' (hb : Below w.heap.size w w') => findN_in A B C ca cb cc ns.length ps.length os.length ns x.on w' (by have := h.can; omega) (h.n.1.below hb) rfl)
  have E : Hid (placeP ns x = if x.on = [] then -1 else idxF x.on (ns.map (·.name))) := Lib.hid rfl
  generalize placeP ns x = R at E ⊢
  generalize idxF x.on (ns.map (·.name)) = I at KN E
  clear h
  by_cases hx : x.on = []
  · have HE : Hid (R = -1) := Lib.hid (by rw [E.out, if_pos hx])
    have hxe : x.on.isEmpty = true := by rw [hx]; rfl
    clear hx E
    go_enter Try.func20, Try.ntmps20
    go_wp2
    go_ret
    exact ⟨by rw [HE.out]; rfl, B2.out⟩
  · have HE : Hid (R = I) := Lib.hid (by rw [E.out, if_neg hx])
    have hxe : x.on.isEmpty = false := by rw [← Bool.not_eq_true, List.isEmpty_iff]; exact hx
    clear hx E
    go_enter Try.func20, Try.ntmps20
    go_wp2_with fail
    refine (KN.out _ B2.out).mono ?_
    rintro e w3 ⟨rfl, hb⟩
    have B3 := Lib.hid (B2.out.trans (hb.mono B2.out.size))
    clear hb KN
    go_wp2
    go_ret
    exact ⟨by rw [HE.out]; rfl, B3.out⟩

set_option maxRecDepth 100000 in
set_option maxHeartbeats 4000000 in
theorem placement_in (A B C : Option Addr) (ca cb cc : Nat) (ns : List NodeD) (ps : List PodD) (os : List OwnD) (w : World) (h : SnapIn w A B C ca cb cc ns ps os) (hm : ps.length * 8 ≤ 140737488355328) :
    Calls Try.prog 6 #[snapV A B C ca cb cc ns ps os] w fun e w' => ∃ X cx, e = .returned (.slice X (placesP ns ps).length cx) ∧ w'.ownsRow w.heap.size 3 1 (.slice X (placesP ns ps).length cx) (placesP ns ps).length (intsC (placesP ns ps)) ∧ Below w.heap.size w w' := by
  have H := Lib.hid h
  have HM := Lib.hid hm
  have B0 := Lib.hid (below1 w (.cells (snapC A B C ca cb cc ns ps os) 26))
  have S0 : Hid (Blk (w.alloc (.cells (snapC A B C ca cb cc ns ps os) 26)) w.heap.size (snapC A B C ca cb cc ns ps os) 26) := Lib.hid (Blk.new w _ _)
  have hmk := run_intsB (w.alloc (.cells (snapC A B C ca cb cc ns ps os) 26)) ps.length hm
  have O1 := Lib.hid (own_madeB (w.alloc (.cells (snapC A B C ca cb cc ns ps os) 26)) ps.length w.heap.size hm B0.out.size)
  have S1 : Hid (Blk ((w.alloc (.cells (snapC A B C ca cb cc ns ps os) 26)).alloc (.cells (madeCells #[.int .i64 0] ps.length) 3)) w.heap.size (snapC A B C ca cb cc ns ps os) 26) := Lib.hid (Blk.alloc S0.out _)
  have B1 : Hid (Below w.heap.size w ((w.alloc (.cells (snapC A B C ca cb cc ns ps os) 26)).alloc (.cells (madeCells #[.int .i64 0] ps.length) 3))) := Lib.hid (B0.out.alloc B0.out.size _)
  have hsz : (w.alloc (.cells (snapC A B C ca cb cc ns ps os) 26)).heap.size = w.heap.size + 1 := by simp
  rw [hsz] at O1 hmk
  clear h hm
  have HL := Lib.hid (placesP_len ns ps)
  have HZ := Lib.hid (rowP_zero ns ps)
  go_enter Try.func6, Try.ntmps6
  go_upto_region 2 with fail
  generalize ((w.alloc (.cells (snapC A B C ca cb cc ns ps os) 26)).alloc (.cells (madeCells #[.int .i64 0] ps.length) 3)) = W1 at O1 S1 B1 ⊢
  clear hmk B0 S0 hsz
  have t1 : W1.cell? ⟨w.heap.size, 1, none⟩ = some (.slice B ps.length cb) := Blk.cell S1.out 1
  go_wp2_with fail
  clear t1
  have HS1 := Lib.hid (H.out.low B1.out)
  go_loopw [13] (fun i wr => ∃ k : Nat, k ≤ ps.length ∧ i = .int .i64 k ∧ wr.ownsRow w.heap.size 3 1 (.slice (some ⟨w.heap.size + 1, 0, none⟩) ps.length ps.length) ps.length (intsC (rowP ns ps k)) ∧ Blk wr w.heap.size (snapC A B C ca cb cc ns ps os) 26 ∧ Below w.heap.size w wr) (fun i _ => ps.length - (RowKit.intOf i).toNat)
  case atStart => exact ⟨0, by omega, rfl, by rw [HZ.out]; exact O1.out, S1.out, B1.out⟩
  case round =>
    obtain ⟨k, hk, rfl, ho, hs, hb⟩ := hrel
    have HO := Lib.hid ho
    have HS := Lib.hid hs
    have HB := Lib.hid hb
    clear ho hs hb
    by_cases hlt : k < ps.length
    · obtain ⟨x, hx⟩ : ∃ x, ps[k]? = some x := ⟨ps[k], List.getElem?_eq_getElem hlt⟩
      have HI := Lib.hid (H.out.low HB.out)
      obtain ⟨b, o, hA, hbl, c0, c1, c2, c3, c4, c5, c6, c7, c8, c9, c10, c11, c12, c13, c14⟩ := atP HI.out.p.1 hx
      subst hA
      have k0 : (0 : Int) ≤ (k : Int) := by omega
      have k1 : (k : Int) < (ps.length : Int) := by omega
      have HX := Lib.hid hx
      clear hx
      have z0 : wr.cell? ⟨w.heap.size, 0, none⟩ = some (.slice A ns.length ca) := Blk.cell HS.out 0
      have z1 : wr.cell? ⟨w.heap.size, 1, none⟩ = some (.slice (some ⟨b, o, none⟩) ps.length cb) := Blk.cell HS.out 1
      have z2 : wr.cell? ⟨w.heap.size, 2, none⟩ = some (.slice C os.length cc) := Blk.cell HS.out 2
      go_upto_region 5 with fail
      clear z0 z1 z2 c0 c1 c2 c3 c4 c5 c6 c7 c8 c9 c10 c11 c12 c13 c14
      change Code.wp _ _ _ _ (wr.alloc (.cells (cellsP [x]).toArray 58))
      have Q2 : Hid (Blk (wr.alloc (.cells (cellsP [x]).toArray 58)) wr.heap.size (cellsP [x]).toArray 58) := Lib.hid (Blk.new wr _ _)
      have S2 := Lib.hid (Blk.alloc HS.out (.cells (cellsP [x]).toArray 58))
      have B2 := Lib.hid (HB.out.alloc HB.out.size (.cells (cellsP [x]).toArray 58))
      have O2 := Lib.hid (HO.out.alloc (.cells (cellsP [x]).toArray 58))
      have HG : Hid (w.heap.size + 1 < wr.heap.size) := Lib.hid (by
        obtain ⟨g, cur, hA, _, hgb, _⟩ := own_blk HO.out (k := k) (y := .int .i64 ((rowP ns ps k)[k]'(by rw [rowP_len _ _ _ hk]; exact hlt))) (by unfold intsC; rw [List.getElem?_map, List.getElem?_eq_getElem (by rw [rowP_len _ _ _ hk]; exact hlt)]; rfl)
        cases hA
        exact hgb.lt)
      have HGn : Hid (w.heap.size ≤ wr.heap.size) := HB.out.size |> Lib.hid
      generalize (wr.alloc (.cells (cellsP [x]).toArray 58)) = W2 at Q2 S2 B2 O2 ⊢
      generalize wr.heap.size = G at Q2 HG HGn ⊢
      have z0 : W2.cell? ⟨w.heap.size, 0, none⟩ = some (.slice A ns.length ca) := Blk.cell S2.out 0
      have z1 : W2.cell? ⟨w.heap.size, 1, none⟩ = some (.slice (some ⟨b, o, none⟩) ps.length cb) := Blk.cell S2.out 1
      have z2 : W2.cell? ⟨w.heap.size, 2, none⟩ = some (.slice C os.length cc) := Blk.cell S2.out 2
      have q0 : W2.cell? ⟨G, 0, none⟩ = some (strV x.name) := Blk.cell Q2.out 0
      have q1 : W2.cell? ⟨G, 1, none⟩ = some (strV x.owner) := Blk.cell Q2.out 1
      have q2 : W2.cell? ⟨G, 2, none⟩ = some (.int .i64 (x.req 0)) := Blk.cell Q2.out 2
      have q3 : W2.cell? ⟨G, 3, none⟩ = some (.int .i64 (x.req 1)) := Blk.cell Q2.out 3
      have q4 : W2.cell? ⟨G, 4, none⟩ = some (.int .i64 (x.req 2)) := Blk.cell Q2.out 4
      have q5 : W2.cell? ⟨G, 5, none⟩ = some (.int .i64 (x.req 3)) := Blk.cell Q2.out 5
      have q6 : W2.cell? ⟨G, 6, none⟩ = some (.int .i64 (x.req 4)) := Blk.cell Q2.out 6
      have q7 : W2.cell? ⟨G, 7, none⟩ = some (.slice x.al x.labels.length x.cl) := Blk.cell Q2.out 7
      have q8 : W2.cell? ⟨G, 8, none⟩ = some (.slice x.aw x.whr.length x.cw) := Blk.cell Q2.out 8
      have q9 : W2.cell? ⟨G, 9, none⟩ = some (.slice x.ab x.bears.length x.cb) := Blk.cell Q2.out 9
      have q10 : W2.cell? ⟨G, 10, none⟩ = some (strV x.wt) := Blk.cell Q2.out 10
      have q11 : W2.cell? ⟨G, 11, none⟩ = some (.slice x.awt x.wtm.length x.cwt) := Blk.cell Q2.out 11
      have q12 : W2.cell? ⟨G, 12, none⟩ = some (strV x.ap) := Blk.cell Q2.out 12
      have q13 : W2.cell? ⟨G, 13, none⟩ = some (.slice x.aap x.apm.length x.cap) := Blk.cell Q2.out 13
      have q14 : W2.cell? ⟨G, 14, none⟩ = some (strV x.on) := Blk.cell Q2.out 14
      have KO := Lib.hid (placeOf_in A (some ⟨b, o, none⟩) C ca cb cc ns ps os x W2 (H.out.low B2.out))
      go_wp2_with fail
      refine (KO.out).mono ?_
      rintro e w3 ⟨rfl, hb⟩
      clear z0 z1 z2 q0 q1 q2 q3 q4 q5 q6 q7 q8 q9 q10 q11 q12 q13 q14 KO
      have O3 := Lib.hid (La.own_below O2.out hb)
      have S3 := Lib.hid (S2.out.below hb S2.out.lt)
      have B3 := Lib.hid (B2.out.trans (hb.mono B2.out.size))
      clear hb O2 S2 B2 Q2
      obtain ⟨g', cur, hA', _, hgb, hgc⟩ := own_blk O3.out (k := k) (y := .int .i64 ((rowP ns ps k)[k]'(by rw [rowP_len _ _ _ hk]; exact hlt))) (by unfold intsC; rw [List.getElem?_map, List.getElem?_eq_getElem (by rw [rowP_len _ _ _ hk]; exact hlt)]; rfl)
      cases hA'
      obtain ⟨y, hy⟩ : ∃ y, w3.cell? ⟨w.heap.size + 1, k, none⟩ = some y := ⟨_, (Blk.cell hgb k).trans hgc⟩
      have g1 : w3.frozen? ⟨w.heap.size + 1, k, none⟩ = false := Blk.free hgb k
      clear hgb hgc
      have hm := HM.out
      go_wp2
      go_roundw
      case rel =>
        refine ⟨k + 1, by omega, by go_num, ?_, ?_, ?_⟩
        · have h1 := own_put O3.out k (.int .i64 (placeP ns x))
          rw [ints_set, rowP_step ns ps k x HX.out] at h1
          exact h1
        · exact Blk.oth S3.out (by omega) k _
        · exact B3.out.setCell (p := ⟨w.heap.size + 1, k, none⟩) (by show w.heap.size ≤ w.heap.size + 1; omega) _
      case measure => simp [RowKit.intOf]; omega
    · obtain rfl : k = ps.length := by omega
      have HO1 := Lib.hid HO.out
      rw [rowP_end] at HO1
      go_wp2
      go_ret
      have hl := HL.out
      exact ⟨some ⟨w.heap.size + 1, 0, none⟩, ps.length, by rw [hl]; rfl, by rw [hl]; exact HO1.out, HB.out⟩
end Go.Proofs.Ytmdmjnffnjlgmaa

namespace Go.Proofs.Ytmdmjnffnjlgmaa
open Go.RowKit Go.Shelf
attribute [local go_sem] Oper.semAt_some

/-- All that lay below n₀ lies as it lay, and so do the blocks named. -/
def KeepL (n₀ : Nat) (bs : List Nat) (W W' : World) : Prop := Below n₀ W W' ∧ ∀ b ∈ bs, ∀ (cs : Array Value) (t : TypeId), Blk W b cs t → Blk W' b cs t
theorem KeepL.refl (n₀ : Nat) (bs : List Nat) (W : World) : KeepL n₀ bs W W := ⟨Below.refl _ _, fun _ _ _ _ h => h⟩
theorem KeepL.trans {n₀ : Nat} {bs : List Nat} {A B C : World} (h : KeepL n₀ bs A B) (k : KeepL n₀ bs B C) : KeepL n₀ bs A C := ⟨h.1.trans k.1, fun b hb cs t h1 => k.2 b hb cs t (h.2 b hb cs t h1)⟩
theorem KeepL.below {n₀ : Nat} {bs : List Nat} {A B : World} (h : Below A.heap.size A B) (hn : n₀ ≤ A.heap.size) : KeepL n₀ bs A B := ⟨h.mono hn, fun _ _ _ _ h1 => h1.below h h1.lt⟩
theorem keepL_t {n₀ : Nat} {bs : List Nat} : ∀ {A B C : World}, KeepL n₀ bs A B → KeepL n₀ bs B C → KeepL n₀ bs A C := fun h k => h.trans k
theorem keepL_b {n₀ : Nat} {bs : List Nat} {w : World} (hB : n₀ ≤ w.heap.size) : ∀ (W : World) (l : Nat) (o o' : Obj), w.heap.size ≤ l → W.heap[l]? = some o → o.isCells = false → o.isWalk = false → KeepL n₀ bs W (W.putObj l o') := fun W l o o' hl ho hc hw =>
  ⟨belowK_b (w := w) hB W l o o' hl ho hc hw, fun b _ cs t h1 => blk_nc h1 (grownBy_putObj' W l o') (fun r e => by cases e; exact ⟨o, ho, hc⟩)⟩
/-- Is there that node, not lost? -/
def liveB (ns : List NodeD) (k : Nat) : Bool := match ns[k]? with
  | some x => !x.lost
  | none => false
/-- Those of the first k nodes that are not lost and are so. -/
def thatU (ns : List NodeD) (F : Nat → Bool) : Nat → List Nat
  | 0 => []
  | k + 1 => thatU ns F k ++ (if (liveB ns k && F k) = true then [k] else [])
theorem thatU_len (ns : List NodeD) (F : Nat → Bool) : ∀ k, (thatU ns F k).length ≤ k
  | 0 => Nat.le_refl _
  | k + 1 => by
    have := thatU_len ns F k
    rw [thatU, List.length_append]
    split <;> simp <;> omega
abbrev ThatNo (ns : List NodeD) (F : Nat → Bool) := { k : Nat // k < ns.length ∧ liveB ns k = true ∧ F k = true }

set_option maxRecDepth 100000 in
set_option maxHeartbeats 4000000 in
theorem that1_in (n : Nat) (hn : 1 ≤ n) (l Bs Bf n₀ ca cb cc : Nat) (bs : List Nat) (A B C : Option Addr) (ns : List NodeD) (ps : List PodD) (os : List OwnD) (f : FuncId) (lb : Array Value) (F : Nat → Bool) (hfe : ∀ args w, (callFunc f args).run Try.prog w = .ok (.enter f args) w) (hnl : ns.length ≤ 9223372036854775807) (J Jx : List (ThatNo ns F) → World → Prop)
    (hY : ∀ pre (x : ThatNo ns F) W, J pre W → pre.length < ns.length → YieldAt Fence.wide (n - 1) Try.prog l #[.int .i64 (x.1 : Int)] W fun e W' =>
      (e = .returned (.bool true) ∧ J (pre ++ [x]) W' ∧ KeepL n₀ bs W W') ∨ (e = .returned (.bool false) ∧ Jx (pre ++ [x]) W'))
    (W : World) (hJ : AbidesFrom W.heap.size J) (hBs : Blk W Bs (snapC A B C ca cb cc ns ps os) 26) (hBf : Blk W Bf #[.func (.func f) #[] lb] 65) (husS : Bs ∈ bs) (husF : Bf ∈ bs) (hn₀ : n₀ ≤ W.heap.size)
    (hs : ∀ W', Below n₀ W W' → La.SlAt W' A (cellsN ns))
    (hF : ∀ (k : Nat) W', k < ns.length → KeepL n₀ bs W W' → CallsIn Fence.wide (n - 1) Try.prog f (#[.int .i64 (k : Int)] ++ lb) W' fun e W'' => e = .returned (.bool (F k)) ∧ Below W'.heap.size W' W'') (h0 : J [] W) :
    CallsIn Fence.wide n Try.prog 71 #[.func (.yield l) #[] #[], .pointer (some ⟨Bs, 0, none⟩), .pointer (some ⟨Bf, 0, none⟩)] W fun e W' => (∃ v, e = .returned v) ∧
      ((∃ ys : List (ThatNo ns F), ys.map (·.1) = thatU ns F ns.length ∧ J ys W') ∨ (∃ pre : List (ThatNo ns F), True ∧ Jx pre W')) := by
  have HBs := Lib.hid hBs
  have HBf := Lib.hid hBf
  have HS := Lib.hid hs
  have HF := Lib.hid hF
  have HJ := Lib.hid hJ
  have HN := Lib.hid hn₀
  have z0 : W.cell? ⟨Bs, 0, none⟩ = some (.slice A ns.length ca) := Blk.cell hBs 0
  clear hBs hBf hs hF hJ hn₀
  refine callsIn_of_wp Try.func71 rfl trivial ?_ rfl
  simp only [Try.ntmps71, List.size_toArray, List.length_cons, List.length_nil, Nat.reduceAdd, Nat.reduceSub, Array.replicate_succ, Array.replicate_zero, List.push_toArray, List.append_toArray, List.nil_append, List.cons_append]
  gi_wp2
  gi_loopw [9] (fun i wr => ∃ (k : Nat) (pre : List (ThatNo ns F)), k ≤ ns.length ∧ i = .int .i64 k ∧ pre.map (·.1) = thatU ns F k ∧ J pre wr ∧ KeepL n₀ bs W wr) (fun i _ => ns.length - (RowKit.intOf i).toNat)
  case atStart => exact ⟨0, [], Nat.zero_le _, rfl, rfl, h0, KeepL.refl _ _ _⟩
  case round =>
    obtain ⟨k, pre, hk, rfl, hpre, hJs, hnx⟩ := hrel
    have HNX := Lib.hid hnx
    have HJs := Lib.hid hJs
    have hsz : n₀ ≤ wr.heap.size := Nat.le_trans HN.out hnx.1.size
    clear hnx hJs
    by_cases hlt : k < ns.length
    · obtain ⟨x, hx⟩ : ∃ x, ns[k]? = some x := ⟨ns[k], List.getElem?_eq_getElem hlt⟩
      obtain ⟨b, o, hA, hbl, c0, c1, c2, c3, c4, c5, c6, c7, c8, c9⟩ := atN (HS.out _ HNX.out.1) hx
      subst hA
      have k0 : (0 : Int) ≤ (k : Int) := by omega
      have k1 : (k : Int) < (ns.length : Int) := by omega
      have hlen : pre.length < ns.length := by
        have h1 := thatU_len ns F k
        have h2 : pre.length = (thatU ns F k).length := by rw [← hpre, List.length_map]
        omega
      have hlive : liveB ns k = !x.lost := by
        unfold liveB
        rw [hx]
      have HST : Hid (thatU ns F (k + 1) = thatU ns F k ++ (if (!x.lost && F k) = true then [k] else [])) := Lib.hid (by rw [thatU, hlive])
      have HPRE := Lib.hid hpre
      have HLI := Lib.hid hlive
      have B1 : Hid (Below wr.heap.size wr (wr.alloc (.cells (cellsN [x]).toArray 46))) := Lib.hid (below1 wr _)
      have Q1 : Hid (Blk (wr.alloc (.cells (cellsN [x]).toArray 46)) wr.heap.size (cellsN [x]).toArray 46) := Lib.hid (Blk.new wr _ _)
      have HK1 : Hid (KeepL n₀ bs W (wr.alloc (.cells (cellsN [x]).toArray 46))) := Lib.hid (HNX.out.trans (KeepL.below B1.out hsz))
      have HJ1 : Hid (J pre (wr.alloc (.cells (cellsN [x]).toArray 46))) := Lib.hid (HJ.out pre wr _ none HJs.out (grown_of_below B1.out none) (fun r e => by cases e))
      clear hx hpre hlive
      gi_upto_region 3 with fail
      clear c0 c1 c2 c3 c4 c5 c6 c7 c8 c9
      try change Code.wpIn _ _ _ _ _ _ (wr.alloc (.cells (cellsN [x]).toArray 46))
      generalize (wr.alloc (.cells (cellsN [x]).toArray 46)) = W1 at B1 Q1 HK1 HJ1 ⊢
      have l0 : W1.cell? ⟨wr.heap.size, 9, none⟩ = some (.bool x.lost) := Blk.cell Q1.out 9
      have fb : W1.cell? ⟨Bf, 0, none⟩ = some (.func (.func f) #[] lb) := Blk.cell (HK1.out.2 Bf husF _ _ HBf.out) 0
      by_cases hlost : x.lost = true
      · rw [hlost] at l0
        have HE : Hid (thatU ns F (k + 1) = thatU ns F k) := Lib.hid (by rw [HST.out, hlost]; simp)
        clear hlost
        gi_wp2
        refine ⟨fun _ h => (by cases h), ?_⟩
        gi_wp2
        go_roundw
        case rel => exact ⟨k + 1, pre, by omega, by go_num, by rw [HE.out, HPRE.out], HJ1.out, HK1.out⟩
        case measure => simp [RowKit.intOf]; omega
      · have hlost : x.lost = false := by simpa using hlost
        rw [hlost] at l0
        have KF := Lib.hid (HF.out k W1 hlt HK1.out)
        gi_wp2_with fail
        refine ⟨trivial, ?_⟩
        refine (KF.out).mono ?_
        rintro e W2 ⟨rfl, hb⟩
        have HK2 := Lib.hid (HK1.out.trans (KeepL.below hb (Nat.le_trans hsz B1.out.size)))
        have HJ2 : Hid (J pre W2) := Lib.hid (HJ.out pre W1 W2 none HJ1.out (grown_of_below hb none) (fun r e => by cases e))
        have hfk : F k = true ∨ F k = false := by cases F k <;> simp
        rcases hfk with hfk | hfk
        · have HE : Hid (thatU ns F (k + 1) = thatU ns F k ++ [k]) := Lib.hid (by rw [HST.out, hlost, hfk]; simp)
          obtain ⟨fn, tmps, assign, body, hy, hR⟩ := hY pre ⟨k, hlt, by rw [HLI.out, hlost]; rfl, hfk⟩ W2 HJ2.out hlen
          dsimp only at hy
          have HFK := Lib.hid hfk
          rw [hfk]
          clear hb l0 fb
          gi_wp2
          refine hR.mono ?_
          rintro e W3 (⟨rfl, hJ3, hk3⟩ | ⟨rfl, hJx3⟩)
          · gi_wp2
            go_roundw
            case rel => exact ⟨k + 1, pre ++ [⟨k, hlt, by rw [HLI.out, hlost]; rfl, HFK.out⟩], by omega, by go_num, by rw [HE.out, List.map_append, HPRE.out]; rfl, hJ3, HK2.out.trans hk3⟩
            case measure => simp [RowKit.intOf]; omega
          · gi_wp2
            refine bodyPost_ret (results_none rfl _ _ _) rfl ?_
            exact ⟨⟨_, rfl⟩, .inr ⟨_, trivial, hJx3⟩⟩
        · have HE : Hid (thatU ns F (k + 1) = thatU ns F k) := Lib.hid (by rw [HST.out, hfk]; simp)
          rw [hfk]
          clear hb l0 fb
          gi_wp2
          refine ⟨fun _ h => (by cases h), ?_⟩
          gi_wp2
          go_roundw
          case rel => exact ⟨k + 1, pre, by omega, by go_num, by rw [HE.out, HPRE.out], HJ2.out, HK2.out⟩
          case measure => simp [RowKit.intOf]; omega
    · obtain rfl : k = ns.length := by omega
      have HE := Lib.hid (And.intro hpre HJs.out)
      clear hpre
      gi_wp2
      go_end0
      exact ⟨⟨_, rfl⟩, .inl ⟨pre, HE.out.1, HE.out.2⟩⟩

set_option maxHeartbeats 1000000 in
theorem that_any (n : Nat) (A B C : Option Addr) (ca cb cc : Nat) (ns : List NodeD) (ps : List PodD) (os : List OwnD) (f : FuncId) (lb : Array Value) (w : World) :
    CallsIn Fence.wide n Try.prog 46 #[snapV A B C ca cb cc ns ps os, .func (.func f) #[] lb] w fun e w' => e = .returned (.func (.func 71) #[] #[.pointer (some ⟨w.heap.size, 0, none⟩), .pointer (some ⟨w.heap.size + 1, 0, none⟩)]) ∧ w' = (w.alloc (.cells (snapC A B C ca cb cc ns ps os) 26)).alloc (.cells #[.func (.func f) #[] lb] 65) := by
  refine callsIn_of_wp Try.func46 rfl trivial ?_ rfl
  simp only [Try.ntmps46, List.size_toArray, List.length_cons, List.length_nil, Nat.reduceAdd, Nat.reduceSub, Array.replicate_succ, Array.replicate_zero, List.push_toArray, List.append_toArray, List.nil_append, List.cons_append]
  gi_wp2
  go_ret
  exact ⟨rfl, rfl⟩
theorem that_stops (n : Nat) (hn : 1 ≤ n) (Bs Bf n₀ ca cb cc : Nat) (bs : List Nat) (A B C : Option Addr) (ns : List NodeD) (ps : List PodD) (os : List OwnD) (f : FuncId) (lb : Array Value) (F : Nat → Bool) (hfe : ∀ args w, (callFunc f args).run Try.prog w = .ok (.enter f args) w) (hnl : ns.length ≤ 9223372036854775807)
    (w0 w : World) (hw0 : w0.heap.size = n₀) (hb0 : Below n₀ w0 w) (hn₀ : n₀ ≤ w.heap.size) (hBs : Blk w Bs (snapC A B C ca cb cc ns ps os) 26) (hBf : Blk w Bf #[.func (.func f) #[] lb] 65) (husS : Bs ∈ bs) (husF : Bf ∈ bs)
    (hs : La.SlAt w0 A (cellsN ns))
    (hF : ∀ (k : Nat) W', k < ns.length → Below n₀ w0 W' → CallsIn Fence.wide (n - 1) Try.prog f (#[.int .i64 (k : Int)] ++ lb) W' fun e W'' => e = .returned (.bool (F k)) ∧ Below W'.heap.size W' W'') :
    SeqStopsK Fence.wide n Try.prog 71 #[.pointer (some ⟨Bs, 0, none⟩), .pointer (some ⟨Bf, 0, none⟩)] (fun x : ThatNo ns F => #[Value.int .i64 (x.1 : Int)]) (KeepL n₀ bs) (fun ys => ys.map (·.1) = thatU ns F ns.length) (fun _ => True) ns.length w := fun l J Jx W hW hJ _ hY h0 => by
  have hbW : Below n₀ w0 W := hb0.trans (hW.mono hn₀)
  subst hw0
  exact that1_in n hn l Bs Bf w0.heap.size ca cb cc bs A B C ns ps os f lb F hfe hnl J Jx hY W hJ (hBs.below hW hBs.lt) (hBf.below hW hBf.lt) husS husF hbW.size (fun W' hb' => hs.below (hbW.trans hb')) (fun k W' hk hb' => hF k W' hk (hbW.trans hb'.1)) h0
end Go.Proofs.Ytmdmjnffnjlgmaa

namespace Go.Proofs.Ytmdmjnffnjlgmaa
open Go.RowKit Go.Shelf
attribute [local go_sem] Oper.semAt_some

theorem own_ncH {w w' : World} {base : Nat} {e : TypeId} {size n : Nat} {v : Value} {xs : List Value} {row : Option Nat} (h : w.ownsRow base e size v n xs) (hg : w.grownBy w' row) (hr : ∀ r, row = some r → ∃ o : Obj, w.heap[r]? = some o ∧ o.isCells = false) : w'.ownsRow base e size v n xs := by
  refine h.kept hg ?_
  rcases h.2 with ⟨rfl, _⟩ | ⟨g, cap, cur, rfl, _, hgb, _⟩
  · exact .inl rfl
  · refine .inr fun e' => ?_
    obtain ⟨o, ho, hc⟩ := hr g (by simpa [Value.ownBlock] using e'.symm)
    rw [hgb] at ho
    cases ho
    cases hc
theorem own_blkH {w : World} {base : Nat} {e : TypeId} {size n : Nat} {v : Value} {xs : List Value} (h : w.ownsRow base e size v n xs) {j : Nat} {cs : Array Value} {t : TypeId} (hj : Blk w j cs t) (hne : t ≠ e) : v.ownBlock = none ∨ v.ownBlock ≠ some j := by
  rcases h.2 with ⟨rfl, _⟩ | ⟨g, cap, cur, rfl, _, hgb, _⟩
  · exact .inl rfl
  · refine .inr fun e' => ?_
    have : g = j := by simpa [Value.ownBlock] using e'
    subst this
    unfold Blk at hj
    rw [hj] at hgb
    cases hgb
    exact hne rfl
theorem otherH {w w' : World} {base : Nat} {e : TypeId} {size n : Nat} {v : Value} {xs : List Value} (ho : w.ownsRow base e size v n xs) (hg : w.grownBy w' v.ownBlock) {j : Nat} {cs : Array Value} {t : TypeId} (hj : Blk w j cs t) (hne : t ≠ e) : Blk w' j cs t := by
  refine (hg.block j hj.lt ?_).trans hj
  rcases own_blkH ho hj hne with h | h
  · intro e'
    rw [h] at e'
    cases e'
  · exact fun e' => h e'.symm
theorem own_setH {w : World} {base : Nat} {e : TypeId} {size n : Nat} {v : Value} {xs : List Value} (ho : w.ownsRow base e size v n xs) {j : Nat} {cs : Array Value} {t : TypeId} (hj : Blk w j cs t) (hne : t ≠ e) (i : Nat) (u : Value) : (w.setCell ⟨j, i, none⟩ u).ownsRow base e size v n xs := by
  obtain ⟨hl, h1 | ⟨g, cap, cur, hv, hb, hg, r⟩⟩ := ho
  · exact ⟨hl, .inl h1⟩
  · refine ⟨hl, .inr ⟨g, cap, cur, hv, hb, (Below.heap_setCell w ⟨j, i, none⟩ u g ?_).trans hg, r⟩⟩
    rintro rfl
    unfold Blk at hj
    rw [hj] at hg
    cases hg
    exact hne rfl
theorem own_cellsH {w : World} {base : Nat} {e : TypeId} {size n : Nat} {v : Value} {xs : List Value} (h : w.ownsRow base e size v n xs) (j : Nat) (o : Obj) (hj : v.ownBlock = some j) (ho : w.heap[j]? = some o) : o.isCells = true := by
  rcases h.2 with ⟨rfl, _⟩ | ⟨g, cap, cur, rfl, _, hgb, _⟩
  · cases hj
  · have : g = j := by simpa [Value.ownBlock] using hj
    subst this
    rw [hgb] at ho
    cases ho
    rfl
/-- What pick tells. -/
def pickF (ns : List NodeD) (ps : List PodD) (os : List OwnD) (p : List Int) (F : Nat → Bool) : List Int := if placeE ns ps os p = 0 then (thatU ns F ns.length).map (fun k : Nat => (k : Int)) else []

set_option maxRecDepth 100000 in
set_option maxHeartbeats 1000000 in
theorem pick_no (A B C P : Option Addr) (ca cb cc cp : Nat) (ns : List NodeD) (ps : List PodD) (os : List OwnD) (p : List Int) (fv : Value) (w : World) (h : SnapIn w A B C ca cb cc ns ps os) (hp : IntsAt w P cp p) (hE : placeE ns ps os p ≠ 0) :
    Calls Try.prog 24 #[snapV A B C ca cb cc ns ps os, .slice P p.length cp, fv] w fun e w' => e = .returned (.slice none 0 0) ∧ Below w.heap.size w w' := by
  have B0 : Hid (Below w.heap.size w (w.alloc (.cells (snapC A B C ca cb cc ns ps os) 26))) := Lib.hid (below1 w _)
  have KC := Lib.hid (pcheck_in A B C P ca cb cc cp ns ps os p _ (h.low B0.out) (hp.below B0.out))
  generalize placeE ns ps os p = v at KC hE
  have hne : (v != 0) = true := by simpa using hE
  clear h hp hE
  go_enter Try.func24, Try.ntmps24
  go_wp2_with fail
  refine (KC.out).mono ?_
  rintro e w1 ⟨rfl, hb⟩
  have B1 := Lib.hid (B0.out.trans (hb.mono B0.out.size))
  clear hb
  go_wp2
  go_ret
  exact ⟨rfl, B1.out⟩

set_option maxRecDepth 100000 in
set_option maxHeartbeats 4000000 in
theorem pick_ok (A B C P : Option Addr) (ca cb cc cp : Nat) (ns : List NodeD) (ps : List PodD) (os : List OwnD) (p : List Int) (f : FuncId) (lb : Array Value) (F : Nat → Bool) (hfe : ∀ args w, (callFunc f args).run Try.prog w = .ok (.enter f args) w) (w : World) (h : SnapIn w A B C ca cb cc ns ps os) (hp : IntsAt w P cp p) (hE : placeE ns ps os p = 0)
    (hF : ∀ (k : Nat) W', k < ns.length → Below w.heap.size w W' → Calls Try.prog f (#[.int .i64 (k : Int)] ++ lb) W' fun e W'' => e = .returned (.bool (F k)) ∧ Below W'.heap.size W' W'') :
    Calls Try.prog 24 #[snapV A B C ca cb cc ns ps os, .slice P p.length cp, .func (.func f) #[] lb] w fun e w' => ∃ v, e = .returned v ∧ w'.ownsRow w.heap.size 3 1 v (thatU ns F ns.length).length (intsC ((thatU ns F ns.length).map (fun k : Nat => (k : Int)))) ∧ Below w.heap.size w w' := by
  have hfew := placeE_few hE
  have hnl : ns.length ≤ 8 := hfew.1
  have H := Lib.hid h
  have HF := Lib.hid hF
  have B0 : Hid (Below w.heap.size w (w.alloc (.cells (snapC A B C ca cb cc ns ps os) 26))) := Lib.hid (below1 w _)
  have S0 : Hid (Blk (w.alloc (.cells (snapC A B C ca cb cc ns ps os) 26)) w.heap.size (snapC A B C ca cb cc ns ps os) 26) := Lib.hid (Blk.new w _ _)
  have KC := Lib.hid ((callsIn_wide (n := 7)).2 (pcheck_in A B C P ca cb cc cp ns ps os p _ (h.low B0.out) (hp.below B0.out)))
  rw [hE] at KC
  clear h hp hF hE hfew
  obtain ⟨i0, hi0, hz0, hz1, hz2⟩ := info_parts Qu.int_info
  refine (callsIn_wide (n := 8)).1 ?_
  refine callsIn_of_wp_marks Try.func24 rfl trivial ?_ rfl
  simp only [Try.ntmps24, List.size_toArray, List.length_cons, List.length_nil, Nat.reduceAdd, Nat.reduceSub, Array.replicate_succ, Array.replicate_zero, List.push_toArray, List.append_toArray, List.nil_append, List.cons_append]
  gi_wp2_with fail
  refine ⟨trivial, ?_⟩
  refine (KC.out).mono ?_
  rintro e w1 ⟨rfl, hb⟩
  have B1 := Lib.hid (B0.out.trans (hb.mono B0.out.size))
  have S1 := Lib.hid (S0.out.below hb S0.out.lt)
  clear hb KC B0 S0
  gi_upto_region 4 with fail
  try change Code.wpIn _ _ _ _ _ _ (w1.alloc (.cells #[.slice none 0 0] 29))
  have N1 := Lib.hid (Blk.new w1 #[.slice none 0 0] 29)
  have S2 := Lib.hid (Blk.alloc S1.out (.cells #[.slice none 0 0] 29))
  have B2 : Hid (Below w.heap.size w (w1.alloc (.cells #[.slice none 0 0] 29))) := Lib.hid (B1.out.alloc B1.out.size _)
  have hN : Hid (w.heap.size < w1.heap.size) := Lib.hid (Blk.lt S1.out)
  have hN2 : Hid ((w1.alloc (.cells #[.slice none 0 0] 29)).heap.size = w1.heap.size + 1) := Lib.hid (by simp)
  generalize (w1.alloc (.cells #[.slice none 0 0] 29)) = w2 at N1 S2 B2 hN2 ⊢
  generalize w1.heap.size = Nb at N1 hN hN2 ⊢
  clear S1 B1
  have z0 : w2.cell? ⟨w.heap.size, 0, none⟩ = some (.slice A ns.length ca) := Blk.cell S2.out 0
  have z1 : w2.cell? ⟨w.heap.size, 1, none⟩ = some (.slice B ps.length cb) := Blk.cell S2.out 1
  have z2 : w2.cell? ⟨w.heap.size, 2, none⟩ = some (.slice C os.length cc) := Blk.cell S2.out 2
  gi_wp2_with fail
  refine ⟨trivial, ?_⟩
  refine (that_any _ A B C ca cb cc ns ps os f lb _).mono ?_
  rintro e w3 ⟨rfl, rfl⟩
  have N3 := Lib.hid (Blk.alloc (Blk.alloc N1.out (.cells (snapC A B C ca cb cc ns ps os) 26)) (.cells #[.func (.func f) #[] lb] 65))
  have Bs3 := Lib.hid (Blk.alloc (Blk.new w2 (snapC A B C ca cb cc ns ps os) 26) (.cells #[.func (.func f) #[] lb] 65))
  have Bf3 := Lib.hid (blk2 w2 (.cells (snapC A B C ca cb cc ns ps os) 26) #[.func (.func f) #[] lb] 65)
  have B3 : Hid (Below w.heap.size w ((w2.alloc (.cells (snapC A B C ca cb cc ns ps os) 26)).alloc (.cells #[.func (.func f) #[] lb] 65))) := Lib.hid (B2.out.trans ((Qu.below2 w2 _ _).mono B2.out.size))
  have hsz : Hid (((w2.alloc (.cells (snapC A B C ca cb cc ns ps os) 26)).alloc (.cells #[.func (.func f) #[] lb] 65)).heap.size = Nb + 3) := Lib.hid (by have := hN2.out; simp; omega)
  clear z0 z1 z2
  generalize ((w2.alloc (.cells (snapC A B C ca cb cc ns ps os) 26)).alloc (.cells #[.func (.func f) #[] lb] 65)) = W0 at N3 Bs3 Bf3 B3 hsz ⊢
  have hN2' := hN2.out
  rw [hN2'] at Bs3 Bf3 ⊢
  clear hN2' hN2 N1 S2 B2
  gi_wp2_with fail
  refine wpIn_rangeFunc_ownG (α := ThatNo ns F) rfl (by omega) (gf := 71) (lb := #[.pointer (some ⟨Nb + 1, 0, none⟩), .pointer (some ⟨Nb + 1 + 1, 0, none⟩)]) rfl trivial (enters_of Try.func71 (by kernel_rfl) rfl)
    (that_stops (8 - 1) (by omega) (Nb + 1) (Nb + 1 + 1) w.heap.size ca cb cc [Nb + 1, Nb + 1 + 1] A B C ns ps os f lb F hfe (by omega) w W0 rfl B3.out B3.out.size Bs3.out Bf3.out (by simp) (by simp) H.out.n.cells (fun k W' hk hb => (callsIn_wide (n := 8 - 1 - 1)).2 (HF.out k W' hk hb)))
    keepL_t (keepL_b B3.out.size) (Below.refl _ _) (fun _ => rfl)
    (fun pre W => (∃ v, Blk W Nb #[v] 29 ∧ W.ownsRow w.heap.size 3 1 v pre.length (intsC (pre.map (fun y => ((y.1 : Nat) : Int)))) ∧ Blk W (Nb + 1) (snapC A B C ca cb cc ns ps os) 26 ∧ Blk W (Nb + 1 + 1) #[.func (.func f) #[] lb] 65) ∧ Below w.heap.size w W)
    (fun _ _ _ => False)
    (OwnFrom.and (fun s X Y row hs hg hr => by
      obtain ⟨v, h1, h2, h3, h4⟩ := hs
      exact ⟨v, blk_nc h1 hg (fun r e => (hr r e).2), own_ncH h2 hg (fun r e => (hr r e).2), blk_nc h3 hg (fun r e => (hr r e).2), blk_nc h4 hg (fun r e => (hr r e).2)⟩) (ownFrom_below (Nat.le_refl _) B3.out.size))
    (fun _ _ _ _ _ hs _ _ => hs)
    ⟨⟨_, N3.out, World.ownsRow_nil _ _ _ _, Bs3.out, Bf3.out⟩, B3.out⟩
    (fun x => { tmps := #[snapV A B C ca cb cc ns ps os, Value.slice P p.length cp, Value.func (Fn.func f) #[] lb,
          Value.pointer (some { block := w.heap.size, off := 0 }), undef, undef, Value.slice none 0 0,
          Value.pointer (some { block := Nb, off := 0 }), .int .i64 (x.1 : Int),
          Value.agg #[Value.slice A ns.length ca, Value.slice B ps.length cb, Value.slice C os.length cc],
          Value.slice P p.length cp, Value.int IntKind.i64 0, Value.bool false,
          Value.agg #[Value.slice A ns.length ca, Value.slice B ps.length cb, Value.slice C os.length cc],
          Value.func (Fn.func f) #[] lb,
          Value.func (Fn.func 71) #[]
            #[Value.pointer (some { block := Nb + 1, off := 0 }),
              Value.pointer (some { block := Nb + 1 + 1, off := 0 })],
          .int .i64 (x.1 : Int), undef, undef, undef, undef, undef], defers := [] }) ?assign ?body ?done ?stop
  case assign =>
    intro l x W K hK
    gi_wp2
    exact hK
  case body =>
    rintro l pre ⟨m, hm⟩ W ⟨⟨v, hV, hO, hS, hFb⟩, hB⟩ hlen
    obtain ⟨xs, hxs⟩ : ∃ xs, intsC (pre.map (fun y => ((y.1 : Nat) : Int))) = xs := ⟨_, rfl⟩
    rw [hxs] at hO
    have HXS := Lib.hid hxs
    obtain ⟨pl, hpl⟩ : ∃ pl, pre.length = pl := ⟨_, rfl⟩
    rw [hpl] at hO hlen
    have HPL := Lib.hid hpl
    have HV := Lib.hid hV
    have HO := Lib.hid hO
    have HS := Lib.hid hS
    have HFb := Lib.hid hFb
    have HB := Lib.hid hB
    have v0 : W.cell? ⟨Nb, 0, none⟩ = some v := Blk.cell hV 0
    have hk1 : pl + 1 ≤ maxLen := by unfold maxLen; omega
    have hk2 : (pl + 1) * 8 ≤ 140737488355328 := by omega
    have hsw : w.heap.size ≤ (W.alloc (.cells #[.int .i64 (m : Int)] 3)).heap.size := by have := hB.size; simp; omega
    clear hV hO hS hFb hB hxs hpl
    gi_wp2_with (first
      | (gi_at_builtin; refine wpListIn_append_own _ rfl _ _ 29 rfl w.heap.size 3 i0 (.int .i64 0) 1 8 Try.underlying29 hi0 hz0 hz1 hz2 rfl (by decide) _ _ _ rfl (HO.out.alloc _) ⟨W.heap.size, 0, none⟩ 1 1 [.int .i64 (m : Int)] rfl rfl ?c1 ?c2 hk1 hk2 hsw ?_))
    case c1 => exact cell_one_new _ _ _
    case c2 => intro u hu; simp at hu; subst hu; rfl
    intro v' w3 hown' hg3 _
    have ha0 := HO.out.alloc (.cells #[.int .i64 (m : Int)] 3)
    have NV := Lib.hid (otherH ha0 hg3 (Blk.alloc HV.out (.cells #[.int .i64 (m : Int)] 3)) (by decide))
    have NS := Lib.hid (otherH ha0 hg3 (Blk.alloc HS.out (.cells #[.int .i64 (m : Int)] 3)) (by decide))
    have NF := Lib.hid (otherH ha0 hg3 (Blk.alloc HFb.out (.cells #[.int .i64 (m : Int)] 3)) (by decide))
    have NB : Hid (Below w.heap.size w w3) := Lib.hid ((HB.out.alloc HB.out.size (.cells #[.int .i64 (m : Int)] 3)).grown hg3 hsw (fun k e => (ha0.lt k e).1))
    have NK : Hid (KeepsOthers W w3) := Lib.hid ((KeepsOthers.alloc W (.cells #[.int .i64 (m : Int)] 3)).trans (KeepsOthers.of_grownBy hg3 (fun j o e ho => own_cellsH ha0 j o e ho)))
    have NL : Hid (KeepL w.heap.size [Nb + 1, Nb + 1 + 1] W w3) := Lib.hid ⟨((Below.refl _ _).alloc HB.out.size (.cells #[.int .i64 (m : Int)] 3)).grown hg3 hsw (fun k e => (ha0.lt k e).1), fun b hb cs t h1 => by
      have h2 : Blk w3 b #[] t ∨ True := .inr trivial
      simp only [List.mem_cons, List.not_mem_nil, or_false] at hb
      rcases hb with rfl | rfl
      · have e := HS.out
        unfold Blk at e h1
        rw [e] at h1
        cases h1
        exact NS.out
      · have e := HFb.out
        unfold Blk at e h1
        rw [e] at h1
        cases h1
        exact NF.out⟩
    obtain ⟨G', cg, rfl, _⟩ := La.own_slice hown'
    have NO := Lib.hid hown'
    have n0 : w3.cell? ⟨Nb, 0, none⟩ = some v := Blk.cell NV.out 0
    have n1 : w3.frozen? ⟨Nb, 0, none⟩ = false := Blk.free NV.out 0
    clear hown' hg3 ha0 v0 hk1 hk2 hsw
    gi_wp2
    refine ⟨(NK.out.trans (KeepsOthers.setCell _ _ _)).from _, NL.out.trans ⟨(Below.refl _ _).setCell (p := ⟨Nb, 0, none⟩) (Nat.le_of_lt hN.out) _, fun b hb cs t h1 => h1.oth (by simp only [List.mem_cons, List.not_mem_nil, or_false] at hb; omega) 0 _⟩, ⟨.slice G' (pl + 1) cg, NV.out.set 0 _, ?_, NS.out.oth (by omega) 0 _, NF.out.oth (by omega) 0 _⟩, NB.out.setCell (p := ⟨Nb, 0, none⟩) (Nat.le_of_lt hN.out) _⟩
    have h9 := own_setH NO.out NV.out (by decide) 0 (.slice G' (pl + 1) cg)
    have e9 : intsC ((pre ++ [(⟨m, hm⟩ : ThatNo ns F)]).map (fun y => ((y.1 : Nat) : Int))) = xs ++ [.int .i64 (m : Int)] := by
      rw [← HXS.out]
      unfold intsC
      rw [List.map_append, List.map_append]
      rfl
    rw [e9, List.length_append, HPL.out]
    exact h9
  case done =>
    rintro D ys W hD hys ⟨⟨v, hV, hO, hS, hFb⟩, hB⟩ hK
    obtain ⟨G', cg, rfl, _⟩ := La.own_slice hO
    have HO := Lib.hid hO
    have HB := Lib.hid hB
    have HK := Lib.hid hK
    have HD := Lib.hid hD
    have HY := Lib.hid hys
    have v0 : W.cell? ⟨Nb, 0, none⟩ = some (.slice G' ys.length cg) := Blk.cell hV 0
    have hyl : ys.length = (thatU ns F ns.length).length := by rw [← hys, List.length_map]
    have HYL := Lib.hid hyl
    clear hV hO hS hFb hB hK hD hys hyl
    gi_wp2
    refine ⟨by simp, .inl ⟨_, _, rfl, run_takeDeferred HK.out, ?_⟩⟩
    refine ⟨_, results_tmp rfl _ _ _, _, rfl, ?_, HB.out.trans (belowK_b (w := w) (Nat.le_refl _) W D _ _ (by have := HD.out; have := B3.out.size; omega) HK.out rfl rfl)⟩
    rw [← HYL.out, ← HY.out, List.map_map]
    exact ownsRow_putObj HO.out _ HK.out rfl
  case stop =>
    rintro D c pre W _ _ h _
    exact h.elim
end Go.Proofs.Ytmdmjnffnjlgmaa
