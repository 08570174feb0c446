/- Who goes through the pods of a node: the contracts of podsOn and of what it hands back. Condition: the numbers lie in memory. Who goes through the pods of an owner that do not wait: the contracts of podsOf and of what it hands back. Condition: the cluster and the numbers lie in memory. What the pods of a node ask for: the contract of Used. Condition: the cluster and the numbers lie in memory. What the pods of a node ask for: the contract of Used where there is the node. Condition: the cluster and the numbers lie in memory. -/
import Derived.RangeFuncNested
import Derived.RangeFuncBound
import Derived.RangeFuncCalls
import Derived.RangeFuncLeaves
import Derived.RangeFuncBox
import Derived.Shelf.Abstract
import Derived.Shelf.RegionOpen
import Derived.WalkKit
import Derived.OwnWalkIn
import Derived.TacticsInMore
import Derived.LoopNIn
import Derived.LoopIn
import Derived.Test.YtfnigiiocapceaaGreatKb

namespace Go.Proofs.YtfnigiiocapceaaGreat
open Go.RowKit Go.Shelf
attribute [local go_sem] Oper.semAt_some

/-- All that lay below n₀ lies as it lay, and so does each block of cells but those named. -/
def KeepU (n₀ : Nat) (us : List Nat) (W W' : World) : Prop := Below n₀ W W' ∧ ∀ (b : Nat) (cs : Array Value) (t : TypeId), b ∉ us → Blk W b cs t → Blk W' b cs t
theorem KeepU.refl (n₀ : Nat) (us : List Nat) (W : World) : KeepU n₀ us W W := ⟨Below.refl _ _, fun _ _ _ _ h => h⟩
theorem KeepU.trans {n₀ : Nat} {us : List Nat} {A B C : World} (h : KeepU n₀ us A B) (k : KeepU n₀ us B C) : KeepU n₀ us A C := ⟨h.1.trans k.1, fun b cs t hb h1 => k.2 b cs t hb (h.2 b cs t hb h1)⟩
theorem KeepU.below {n₀ : Nat} {us : List Nat} {A B : World} (h : Below A.heap.size A B) (hn : n₀ ≤ A.heap.size) : KeepU n₀ us A B := ⟨h.mono hn, fun _ _ _ _ h1 => h1.below h h1.lt⟩
theorem KeepU.set {n₀ : Nat} {us : List Nat} (A : World) {u : Nat} (hu : u ∈ us) (hn : n₀ ≤ u) (i : Nat) (v : Value) : KeepU n₀ us A (A.setCell ⟨u, i, none⟩ v) :=
  ⟨(Below.refl _ _).setCell (p := ⟨u, i, none⟩) hn v, fun b cs t hb h1 => h1.oth (fun e => hb (e ▸ hu)) i v⟩
theorem keepU_t {n₀ : Nat} {us : List Nat} : ∀ {A B C : World}, KeepU n₀ us A B → KeepU n₀ us B C → KeepU n₀ us A C := fun h k => h.trans k
theorem blk_nc {w w' : World} {b : Nat} {cs : Array Value} {t : TypeId} {row : Option Nat} (h : Blk w b cs t) (hg : w.grownBy w' row) (hr : ∀ r, row = some r → ∃ o : Obj, w.heap[r]? = some o ∧ o.isCells = false) : Blk w' b cs t :=
  Blk.kept h hg (fun e => by
    obtain ⟨o, ho, hc⟩ := hr b e.symm
    unfold Blk at h
    rw [h] at ho
    cases ho
    cases hc)
theorem keepU_b {n₀ : Nat} {us : List Nat} {w : World} (hB : n₀ ≤ w.heap.size) : ∀ (W : World) (l : Nat) (o o' : Obj), w.heap.size ≤ l → W.heap[l]? = some o → o.isCells = false → o.isWalk = false → KeepU n₀ us W (W.putObj l o') := fun W l o o' hl ho hc hw =>
  ⟨belowK_b (w := w) hB W l o o' hl ho hc hw, fun b cs t _ h1 => blk_nc h1 (grownBy_putObj' W l o') (fun r e => by cases e; exact ⟨o, ho, hc⟩)⟩

/-- The places below k at which that number stands. -/
def onU (p : List Int) (node : Int) : Nat → List Nat
  | 0 => []
  | k + 1 => onU p node k ++ (if p[k]? = some node then [k] else [])
theorem onU_len (p : List Int) (node : Int) : ∀ k, (onU p node k).length ≤ k
  | 0 => Nat.le_refl _
  | k + 1 => by
    have := onU_len p node k
    rw [onU, List.length_append]
    split <;> simp <;> omega
/-- A place at which that number stands. -/
abbrev AtNo (p : List Int) (node : Int) := { k : Nat // p[k]? = some node }

set_option maxRecDepth 100000 in
set_option maxHeartbeats 2000000 in
theorem on1_in (n : Nat) (hn : 1 ≤ n) (l Bp Bn n₀ cp : Nat) (us : List Nat) (P : Option Addr) (p : List Int) (node : Int) (hfew : p.length ≤ 1000) (J Jx : List (AtNo p node) → World → Prop)
    (hY : ∀ pre (x : AtNo p node) W, J pre W → pre.length < p.length → YieldAt Fence.wide (n - 1) Tryz.prog l #[.int .i64 (x.1 : Int)] W fun e W' =>
      (e = .returned (.bool true) ∧ J (pre ++ [x]) W' ∧ KeepU n₀ us W W') ∨ (e = .returned (.bool false) ∧ Jx (pre ++ [x]) W'))
    (W : World) (hBp : W.cell? ⟨Bp, 0, none⟩ = some (.slice P p.length cp)) (hBn : Blk W Bn #[.int .i64 node] 3) (hus : Bn ∉ us)
    (hp : ∀ k x, p[k]? = some x → ∃ b o, P = some ⟨b, o, none⟩ ∧ b < n₀ ∧ W.cell? ⟨b, o + k, none⟩ = some (.int .i64 x)) (h0 : J [] W) :
    CallsIn Fence.wide n Tryz.prog 65 #[.func (.yield l) #[] #[], .pointer (some ⟨Bp, 0, none⟩), .pointer (some ⟨Bn, 0, none⟩)] W fun e W' => (∃ v, e = .returned v) ∧
      ((∃ ys : List (AtNo p node), ys.map (·.1) = onU p node p.length ∧ J ys W') ∨ (∃ pre : List (AtNo p node), True ∧ Jx pre W')) := by
  refine callsIn_of_wp Tryz.func65 rfl trivial ?_ rfl
  simp only [Tryz.ntmps65, List.size_toArray, List.length_cons, List.length_nil, Nat.reduceAdd, Nat.reduceSub, Array.replicate_succ, Array.replicate_zero, List.push_toArray, List.append_toArray, List.nil_append, List.cons_append]
  have HBn := Lib.hid hBn
  clear hBn
  gi_wp2
  gi_loopw [8] (fun i wr => ∃ (k : Nat) (pre : List (AtNo p node)), k ≤ p.length ∧ i = .int .i64 k ∧ pre.map (·.1) = onU p node k ∧ J pre wr ∧ KeepU n₀ us W wr) (fun i _ => p.length - (intOf i).toNat)
  case atStart => exact ⟨0, [], Nat.zero_le _, rfl, rfl, h0, KeepU.refl _ _ _⟩
  case round =>
    obtain ⟨k, pre, hk, rfl, hpre, hJs, hnx⟩ := hrel
    by_cases hlt : k < p.length
    · obtain ⟨x, hx⟩ : ∃ x, p[k]? = some x := ⟨p[k], List.getElem?_eq_getElem hlt⟩
      obtain ⟨b, o, hA, hb, hc⟩ := hp k x hx
      subst hA
      have hcx : wr.cell? ⟨b, o + k, none⟩ = some (.int .i64 x) := (hnx.1.cell (p := ⟨b, o + k, none⟩) hb).trans hc
      have hnn : wr.cell? ⟨Bn, 0, none⟩ = some (.int .i64 node) := Blk.cell (hnx.2 Bn _ _ hus HBn.out) 0
      have k0 : (0 : Int) ≤ (k : Int) := by omega
      have k1 : (k : Int) < (p.length : Int) := by omega
      have hlen : pre.length < p.length := by
        have h1 := onU_len p node k
        have h2 : pre.length = (onU p node k).length := by rw [← hpre, List.length_map]
        omega
      have hstep : onU p node (k + 1) = onU p node k ++ (if x = node then [k] else []) := by
        rw [onU, hx]
        simp only [Option.some.injEq]
      by_cases hxn : x = node
      · subst hxn
        obtain ⟨fn, tmps, assign, body, hy, hR⟩ := hY pre ⟨k, hx⟩ wr hJs hlen
        dsimp only at hy
        rw [if_pos rfl] at hstep
        gi_wp2
        refine hR.mono ?_
        rintro e W3 (⟨rfl, hJ3, hk3⟩ | ⟨rfl, hJx3⟩)
        · gi_wp2
          go_roundw
          case rel => exact ⟨k + 1, pre ++ [⟨k, hx⟩], by omega, by go_num, by rw [hstep, List.map_append, hpre]; rfl, hJ3, hnx.trans hk3⟩
          case measure => simp [intOf]; omega
        · gi_wp2
          refine bodyPost_ret (results_none rfl _ _ _) rfl ?_
          exact ⟨⟨_, rfl⟩, .inr ⟨pre ++ [⟨k, hx⟩], trivial, hJx3⟩⟩
      · rw [if_neg hxn, List.append_nil] at hstep
        have hxb : (x == node) = false := by simpa using hxn
        gi_wp2
        refine ⟨fun _ h => (by cases h), ?_⟩
        gi_wp2
        go_roundw
        case rel => exact ⟨k + 1, pre, by omega, by go_num, by rw [hstep, hpre], hJs, hnx⟩
        case measure => simp [intOf]; omega
    · obtain rfl : k = p.length := by omega
      gi_wp2
      go_end0
      exact ⟨⟨_, rfl⟩, .inl ⟨pre, hpre, hJs⟩⟩
end Go.Proofs.YtfnigiiocapceaaGreat

namespace Go.Proofs.YtfnigiiocapceaaGreat
open Go.RowKit Go.Shelf
attribute [local go_sem] Oper.semAt_some

/-- A pod that does not wait. -/
abbrev OffNo (p : List Int) := { k : Nat // ∃ x : Int, p[k]? = some x ∧ x ≠ -1 }
/-- Those of a list of places whose pods do not wait. -/
def offL (p : List Int) (M : List Int) : List Nat := (M.map Int.toNat).filter (fun k => decide (p[k]? ≠ some (-1)))
theorem offL_len (p M : List Int) : (offL p M).length ≤ M.length := by
  unfold offL
  exact Nat.le_trans (List.length_filter_le _ _) (by simp)
theorem offL_step (p M : List Int) (k m : Nat) (h : M[k]? = some (m : Int)) : offL p (M.take (k + 1)) = offL p (M.take k) ++ (if p[m]? = some (-1) then [] else [m]) := by
  have h1 : M.take (k + 1) = M.take k ++ [(m : Int)] := by
    obtain ⟨hk, he⟩ := List.getElem?_eq_some_iff.1 h
    rw [List.take_succ_eq_append_getElem hk, he]
  unfold offL
  rw [h1, List.map_append, List.filter_append]
  congr 1
  by_cases hq : p[m]? = some (-1)
  · simp [hq]
  · simp [hq]

theorem membersU_mem (ps : List PodD) (name : List UInt8) : ∀ (k : Nat) (y : Int), y ∈ membersU ps name k → ∃ m : Nat, y = (m : Int) ∧ m < k ∧ ∃ x, ps[m]? = some x ∧ x.owner = name
  | 0, y, h => by simp [membersU] at h
  | k + 1, y, h => by
    rw [membersU, List.mem_append] at h
    rcases h with h | h
    · obtain ⟨m, h1, h2, h3⟩ := membersU_mem ps name k y h
      exact ⟨m, h1, by omega, h3⟩
    · cases hx : ps[k]? with
      | none => rw [hx] at h; simp at h
      | some x =>
        rw [hx] at h
        dsimp only at h
        by_cases hn : x.owner = name
        · rw [if_pos hn] at h
          simp at h
          exact ⟨k, h, by omega, x, hx, hn⟩
        · rw [if_neg hn] at h
          simp at h
theorem own_blk {w : World} {base : Nat} {e : TypeId} {A : Option Addr} {c n : Nat} {xs : List Value} (h : w.ownsRow base e 1 (.slice A n c) n xs) {k : Nat} {y : Value} (hk : xs[k]? = some y) :
    ∃ g cur, A = some ⟨g, 0, none⟩ ∧ base ≤ g ∧ Blk w g cur e ∧ cur[k]? = some y := by
  have hlt := (List.getElem?_eq_some_iff.1 hk).1
  obtain ⟨hl, h1 | ⟨g, cap, cur, hv, hb, hg, h1, h2, h3, h4⟩⟩ := h
  · omega
  · cases hv
    refine ⟨g, cur, rfl, hb, hg, ?_⟩
    rw [← h4, List.getElem?_take, if_pos (by omega)] at hk
    simpa using hk

set_option maxRecDepth 100000 in
set_option maxHeartbeats 2000000 in
theorem of1_in (n : Nat) (hn : 1 ≤ n) (l Bs Bo Bp n₀ ca cb cc cp : Nat) (us : List Nat) (A B C P : Option Addr) (ns : List NodeD) (ps : List PodD) (os : List OwnD) (p : List Int) (ko : Nat) (xo : OwnD) (hxo : os[ko]? = some xo) (hpl : p.length = ps.length) (J Jx : List (OffNo p) → World → Prop)
    (hY : ∀ pre (x : OffNo p) W, J pre W → pre.length < p.length → YieldAt Fence.wide (n - 1) Tryz.prog l #[.int .i64 (x.1 : Int)] W fun e W' =>
      (e = .returned (.bool true) ∧ J (pre ++ [x]) W' ∧ KeepU n₀ us W W') ∨ (e = .returned (.bool false) ∧ Jx (pre ++ [x]) W'))
    (W : World) (hJ : AbidesFrom W.heap.size J) (hBs : Blk W Bs (snapC A B C ca cb cc ns ps os) 26) (hBo : Blk W Bo #[.int .i64 (ko : Int)] 3) (hBp : Blk W Bp #[.slice P p.length cp] 27) (husp : Bp ∉ us) (hus : ∀ u ∈ us, u < W.heap.size)
    (hs : SnapAt W A B C ca cb cc ns ps os)
    (hp : ∀ k x, p[k]? = some x → ∃ b o, P = some ⟨b, o, none⟩ ∧ b < n₀ ∧ W.cell? ⟨b, o + k, none⟩ = some (.int .i64 x)) (hn₀ : n₀ ≤ W.heap.size) (h0 : J [] W) :
    CallsIn Fence.wide n Tryz.prog 66 #[.func (.yield l) #[] #[], .pointer (some ⟨Bs, 0, none⟩), .pointer (some ⟨Bo, 0, none⟩), .pointer (some ⟨Bp, 0, none⟩)] W fun e W' => (∃ v, e = .returned v) ∧
      ((∃ ys : List (OffNo p), ys.map (·.1) = offL p (membersF ps xo.name) ∧ J ys W') ∨ (∃ pre : List (OffNo p), True ∧ Jx pre W')) := by
  have KM := Lib.hid ((callsIn_wide (n := n - 1)).2 (members_any A B C ca cb cc ns ps os ko xo W hs hxo))
  have HBp := Lib.hid hBp
  have HP := Lib.hid hp
  have hlp := hs.lp
  have s0 : W.cell? ⟨Bs, 0, none⟩ = some (.slice A ns.length ca) := Blk.cell hBs 0
  have s1 : W.cell? ⟨Bs, 1, none⟩ = some (.slice B ps.length cb) := Blk.cell hBs 1
  have s2 : W.cell? ⟨Bs, 2, none⟩ = some (.slice C os.length cc) := Blk.cell hBs 2
  have b0 : W.cell? ⟨Bo, 0, none⟩ = some (.int .i64 (ko : Int)) := Blk.cell hBo 0
  have HM : Hid (∀ k y, (membersF ps xo.name)[k]? = some y → ∃ m : Nat, y = (m : Int) ∧ m < p.length) := Lib.hid (fun k y h => by
    obtain ⟨m, h1, h2, _⟩ := membersU_mem ps xo.name _ y (List.mem_of_getElem? h)
    exact ⟨m, h1, by omega⟩)
  have hML : (membersF ps xo.name).length ≤ p.length := by rw [hpl]; exact membersU_len ps xo.name _
  clear hBp hp hs hBs hBo
  generalize membersF ps xo.name = M at KM HM hML ⊢
  refine callsIn_of_wp Tryz.func66 rfl trivial ?_ rfl
  simp only [Tryz.ntmps66, List.size_toArray, List.length_cons, List.length_nil, Nat.reduceAdd, Nat.reduceSub, Array.replicate_succ, Array.replicate_zero, List.push_toArray, List.append_toArray, List.nil_append, List.cons_append]
  gi_wp2_with fail
  refine ⟨trivial, ?_⟩
  refine (KM.out).mono ?_
  rintro e W1 ⟨v, rfl, ho, hb⟩
  clear KM
  obtain ⟨A1, c1, rfl, hcm⟩ := La.own_slice ho
  have HO := Lib.hid ho
  have HB := Lib.hid hb
  have HP1 : Hid (Blk W1 Bp #[.slice P p.length cp] 27) := Lib.hid (HBp.out.below hb HBp.out.lt)
  have HJ1 : Hid (J [] W1) := Lib.hid (hJ [] W W1 none h0 (grown_of_below hb none) (fun r e => by cases e))
  clear s0 s1 s2 b0 ho hb hJ h0
  gi_wp2
  gi_loopw [11] (fun i wr => ∃ (k : Nat) (pre : List (OffNo p)), k ≤ M.length ∧ i = .int .i64 k ∧ pre.map (·.1) = offL p (M.take k) ∧ J pre wr ∧ KeepU n₀ us W1 wr) (fun i _ => M.length - (intOf i).toNat)
  case atStart => exact ⟨0, [], Nat.zero_le _, rfl, rfl, HJ1.out, KeepU.refl _ _ _⟩
  case round =>
    obtain ⟨k, pre, hk, rfl, hpre, hJs, hnx⟩ := hrel
    by_cases hlt : k < M.length
    · obtain ⟨y, hy⟩ : ∃ y, M[k]? = some y := ⟨M[k], List.getElem?_eq_getElem hlt⟩
      obtain ⟨m, rfl, hm⟩ := HM.out k y hy
      obtain ⟨g, cur, hA1, hg, hgb, hgc⟩ := own_blk HO.out (k := k) (y := .int .i64 (m : Int)) (by simp [intsC, hy])
      subst hA1
      have hgu : g ∉ us := fun h => by have := hus g h; omega
      have hc1 : wr.cell? ⟨g, k, none⟩ = some (.int .i64 (m : Int)) := (Blk.cell (hnx.2 g _ _ hgu hgb) k).trans hgc
      obtain ⟨x, hx⟩ : ∃ x, p[m]? = some x := ⟨p[m], List.getElem?_eq_getElem hm⟩
      obtain ⟨b, o, hA, hb, hc⟩ := HP.out m x hx
      subst hA
      have hpp : wr.cell? ⟨Bp, 0, none⟩ = some (.slice (some ⟨b, o, none⟩) p.length cp) := Blk.cell (hnx.2 Bp _ _ husp HP1.out) 0
      have hcx : wr.cell? ⟨b, o + m, none⟩ = some (.int .i64 x) := (hnx.1.cell (p := ⟨b, o + m, none⟩) hb).trans ((HB.out.cell (p := ⟨b, o + m, none⟩) (Nat.lt_of_lt_of_le hb hn₀)).trans hc)
      have k0 : (0 : Int) ≤ (k : Int) := by omega
      have k1 : (k : Int) < (M.length : Int) := by omega
      have m0 : (0 : Int) ≤ (m : Int) := by omega
      have m1 : (m : Int) < (p.length : Int) := by omega
      have hlen : pre.length < p.length := by
        have h1 := offL_len p (M.take k)
        have h2 : pre.length = (offL p (M.take k)).length := by rw [← hpre, List.length_map]
        have h3 : (M.take k).length = k := by rw [List.length_take]; omega
        omega
      have hstep := offL_step p M k m hy
      by_cases hxn : x = -1
      · subst hxn
        rw [if_pos hx, List.append_nil] at hstep
        have hxb : ((-1 : Int) != -1) = false := by decide
        gi_wp2
        refine ⟨fun _ h => (by cases h), ?_⟩
        gi_wp2
        go_roundw
        case rel => exact ⟨k + 1, pre, by omega, by go_num, by rw [hstep, hpre], hJs, hnx⟩
        case measure => simp [intOf]; omega
      · have hxb : (x != -1) = true := by simpa using hxn
        rw [if_neg (by rw [hx]; simpa using hxn)] at hstep
        obtain ⟨fn, tmps, assign, body, hy, hR⟩ := hY pre ⟨m, x, hx, hxn⟩ wr hJs hlen
        dsimp only at hy
        gi_wp2
        refine hR.mono ?_
        rintro e W3 (⟨rfl, hJ3, hk3⟩ | ⟨rfl, hJx3⟩)
        · gi_wp2
          go_roundw
          case rel => exact ⟨k + 1, pre ++ [⟨m, x, hx, hxn⟩], by omega, by go_num, by rw [hstep, List.map_append, hpre]; rfl, hJ3, hnx.trans hk3⟩
          case measure => simp [intOf]; omega
        · gi_wp2
          refine bodyPost_ret (results_none rfl _ _ _) rfl ?_
          exact ⟨⟨_, rfl⟩, .inr ⟨pre ++ [⟨m, x, hx, hxn⟩], trivial, hJx3⟩⟩
    · obtain rfl : k = M.length := by omega
      rw [List.take_length] at hpre
      gi_wp2
      go_end0
      exact ⟨⟨_, rfl⟩, .inl ⟨pre, hpre, hJs⟩⟩

set_option maxHeartbeats 1000000 in
theorem of_any (n : Nat) (A B C P : Option Addr) (ca cb cc cp : Nat) (ns : List NodeD) (ps : List PodD) (os : List OwnD) (len : Nat) (ko : Int) (w : World) :
    CallsIn Fence.wide n Tryz.prog 43 #[snapV A B C ca cb cc ns ps os, .slice P len cp, .int .i64 ko] w fun e w' => e = .returned (.func (.func 66) #[] #[.pointer (some ⟨w.heap.size, 0, none⟩), .pointer (some ⟨w.heap.size + 1 + 1, 0, none⟩), .pointer (some ⟨w.heap.size + 1, 0, none⟩)]) ∧ w' = ((w.alloc (.cells (snapC A B C ca cb cc ns ps os) 26)).alloc (.cells #[.slice P len cp] 27)).alloc (.cells #[.int .i64 ko] 3) := by
  refine callsIn_of_wp Tryz.func43 rfl trivial ?_ rfl
  simp only [Tryz.ntmps43, List.size_toArray, List.length_cons, List.length_nil, Nat.reduceAdd, Nat.reduceSub, Array.replicate_succ, Array.replicate_zero, List.push_toArray, List.append_toArray, List.nil_append, List.cons_append]
  gi_wp2
  go_ret
  exact ⟨rfl, rfl⟩

theorem of_stops (n : Nat) (hn : 1 ≤ n) (Bs Bo Bp n₀ ca cb cc cp : Nat) (us : List Nat) (A B C P : Option Addr) (ns : List NodeD) (ps : List PodD) (os : List OwnD) (p : List Int) (ko : Nat) (xo : OwnD) (hxo : os[ko]? = some xo) (hpl : p.length = ps.length) (w : World) (hn₀ : n₀ ≤ w.heap.size)
    (hBs : Blk w Bs (snapC A B C ca cb cc ns ps os) 26) (hBo : Blk w Bo #[.int .i64 (ko : Int)] 3) (hBp : Blk w Bp #[.slice P p.length cp] 27) (husp : Bp ∉ us) (hus : ∀ u ∈ us, u < w.heap.size)
    (hs : SnapAt w A B C ca cb cc ns ps os)
    (hp : ∀ k x, p[k]? = some x → ∃ b o, P = some ⟨b, o, none⟩ ∧ b < n₀ ∧ w.cell? ⟨b, o + k, none⟩ = some (.int .i64 x)) :
    SeqStopsK Fence.wide n Tryz.prog 66 #[.pointer (some ⟨Bs, 0, none⟩), .pointer (some ⟨Bo, 0, none⟩), .pointer (some ⟨Bp, 0, none⟩)] (fun x : OffNo p => #[Value.int .i64 (x.1 : Int)]) (KeepU n₀ us) (fun ys => ys.map (·.1) = offL p (membersF ps xo.name)) (fun _ => True) p.length w := fun l J Jx W hW hJ _ hY h0 => by
  refine of1_in n hn l Bs Bo Bp n₀ ca cb cc cp us A B C P ns ps os p ko xo hxo hpl J Jx hY W hJ (hBs.below hW hBs.lt) (hBo.below hW hBo.lt) (hBp.below hW hBp.lt) husp (fun u hu => Nat.lt_of_lt_of_le (hus u hu) hW.size) (hs.below hW) ?_ (Nat.le_trans hn₀ hW.size) h0
  intro k x hx
  obtain ⟨b, o, hA, hb, hc⟩ := hp k x hx
  exact ⟨b, o, hA, hb, (hW.cell (p := ⟨b, o + k, none⟩) (Nat.lt_of_lt_of_le hb hn₀)).trans hc⟩

abbrev ofWorld (W : World) (A B C P : Option Addr) (ca cb cc cp : Nat) (ns : List NodeD) (ps : List PodD) (os : List OwnD) (len : Nat) (ko : Int) : World := ((W.alloc (.cells (snapC A B C ca cb cc ns ps os) 26)).alloc (.cells #[.slice P len cp] 27)).alloc (.cells #[.int .i64 ko] 3)
theorem of_at (n : Nat) (hn : 1 ≤ n) (ca cb cc cp : Nat) (us : List Nat) (A B C P : Option Addr) (ns : List NodeD) (ps : List PodD) (os : List OwnD) (p : List Int) (ko : Nat) (xo : OwnD) (hxo : os[ko]? = some xo) (hpl : p.length = ps.length) (w W : World) (hB : Below w.heap.size w W)
    (hs : SnapAt w A B C ca cb cc ns ps os) (hp : IntsAt w P cp p) (hus : ∀ u ∈ us, u < W.heap.size) :
    SeqStopsK Fence.wide n Tryz.prog 66 #[.pointer (some ⟨W.heap.size, 0, none⟩), .pointer (some ⟨W.heap.size + 1 + 1, 0, none⟩), .pointer (some ⟨W.heap.size + 1, 0, none⟩)] (fun x : OffNo p => #[Value.int .i64 (x.1 : Int)]) (KeepU w.heap.size us) (fun ys => ys.map (·.1) = offL p (membersF ps xo.name)) (fun _ => True) p.length (ofWorld W A B C P ca cb cc cp ns ps os p.length (ko : Int)) := by
  have hb : Below W.heap.size W (ofWorld W A B C P ca cb cc cp ns ps os p.length (ko : Int)) := (Qu.below2 W _ _).alloc (by simp; omega) _
  have hsz : (ofWorld W A B C P ca cb cc cp ns ps os p.length (ko : Int)).heap.size = W.heap.size + 3 := by simp [ofWorld]
  have hbw := hB.trans (hb.mono hB.size)
  refine of_stops n hn W.heap.size (W.heap.size + 1 + 1) (W.heap.size + 1) w.heap.size ca cb cc cp us A B C P ns ps os p ko xo hxo hpl _ hbw.size ?_ ?_ ?_ ?_ ?_ (hs.below hbw) ?_
  · exact Blk.alloc (Blk.alloc (Blk.new W _ _) _) _
  · have := Blk.new ((W.alloc (.cells (snapC A B C ca cb cc ns ps os) 26)).alloc (.cells #[.slice P p.length cp] 27)) #[.int .i64 (ko : Int)] 3
    rwa [World.size_alloc, World.size_alloc] at this
  · exact Blk.alloc (blk2 W (.cells (snapC A B C ca cb cc ns ps os) 26) #[.slice P p.length cp] 27) _
  · intro h
    have := hus _ h
    omega
  · intro u hu
    have := hus u hu
    omega
  · intro k x hx
    obtain ⟨b, o, hA, hb0, _⟩ := atI hp.cells hx
    obtain ⟨b', o', hA', _, hc⟩ := atI (hp.below hbw).cells hx
    rw [hA] at hA'
    cases hA'
    exact ⟨b, o, hA, hb0, hc⟩
end Go.Proofs.YtfnigiiocapceaaGreat

namespace Go.Proofs.YtfnigiiocapceaaGreat
open Go.RowKit Go.Shelf
attribute [local go_sem] Oper.semAt_some

set_option maxHeartbeats 1000000 in
theorem on_any (n : Nat) (P : Option Addr) (len cp : Nat) (node : Int) (w : World) :
    CallsIn Fence.wide n Tryz.prog 40 #[.slice P len cp, .int .i64 node] w fun e w' => e = .returned (.func (.func 65) #[] #[.pointer (some ⟨w.heap.size, 0, none⟩), .pointer (some ⟨w.heap.size + 1, 0, none⟩)]) ∧ w' = (w.alloc (.cells #[.slice P len cp] 27)).alloc (.cells #[.int .i64 node] 3) := by
  refine callsIn_of_wp Tryz.func40 rfl trivial ?_ rfl
  simp only [Tryz.ntmps40, List.size_toArray, List.length_cons, List.length_nil, Nat.reduceAdd, Nat.reduceSub, Array.replicate_succ, Array.replicate_zero, List.push_toArray, List.append_toArray, List.nil_append, List.cons_append]
  gi_wp2
  go_ret
  exact ⟨rfl, rfl⟩

theorem on_stops (n : Nat) (hn : 1 ≤ n) (Bp Bn n₀ cp : Nat) (us : List Nat) (P : Option Addr) (p : List Int) (node : Int) (hfew : p.length ≤ 1000) (w : World) (hn₀ : n₀ ≤ w.heap.size) (hus : Bn ∉ us)
    (hBp : Blk w Bp #[.slice P p.length cp] 27) (hBn : Blk w Bn #[.int .i64 node] 3)
    (hp : ∀ k x, p[k]? = some x → ∃ b o, P = some ⟨b, o, none⟩ ∧ b < n₀ ∧ w.cell? ⟨b, o + k, none⟩ = some (.int .i64 x)) :
    SeqStopsK Fence.wide n Tryz.prog 65 #[.pointer (some ⟨Bp, 0, none⟩), .pointer (some ⟨Bn, 0, none⟩)] (fun x : AtNo p node => #[Value.int .i64 (x.1 : Int)]) (KeepU n₀ us) (fun ys => ys.map (·.1) = onU p node p.length) (fun _ => True) p.length w := fun l J Jx W hW _ _ hY h0 => by
  refine on1_in n hn l Bp Bn n₀ cp us P p node hfew J Jx hY W (Blk.cell (hBp.below hW hBp.lt) 0) (hBn.below hW hBn.lt) hus ?_ h0
  intro k x hx
  obtain ⟨b, o, hA, hb, hc⟩ := hp k x hx
  exact ⟨b, o, hA, hb, (hW.cell (p := ⟨b, o + k, none⟩) (Nat.lt_of_lt_of_le hb hn₀)).trans hc⟩

/-- What pods ask for together, as a machine adds. -/
def addW (ps : List PodD) (ys : List Nat) (k : Nat) : Int := ys.foldl (fun a y => wrap64 (a + (match ps[y]? with | some x => x.req k | none => 0))) 0
/-- What Used tells. -/
def usedF (ns : List NodeD) (ps : List PodD) (os : List OwnD) (p : List Int) (node : Int) (k : Nat) : Int :=
  if placeE ns ps os p = 0 ∧ 0 ≤ node ∧ node < (ns.length : Int) then addW ps (onU p node p.length) k else 0

theorem placeE_len {ns : List NodeD} {ps : List PodD} {os : List OwnD} {p : List Int} (hE : placeE ns ps os p = 0) : p.length = ps.length := by
  unfold placeE at hE
  split at hE
  · split at hE
    · assumption
    · cases hE
  · rename_i hne
    exact absurd hE hne
abbrev zer5 : Array Value := #[.int .i64 0, .int .i64 0, .int .i64 0, .int .i64 0, .int .i64 0]
theorem blk3 (w : World) (o o' : Obj) (cs : Array Value) (t : TypeId) : Blk (((w.alloc o).alloc o').alloc (.cells cs t)) (w.heap.size + 2) cs t := by
  have := Blk.new ((w.alloc o).alloc o') cs t
  rwa [World.size_alloc, World.size_alloc] at this

set_option maxRecDepth 100000 in
set_option maxHeartbeats 400000 in
theorem used_no (A B C P : Option Addr) (ca cb cc cp : Nat) (ns : List NodeD) (ps : List PodD) (os : List OwnD) (p : List Int) (node : Int) (w : World) (h : SnapAt w A B C ca cb cc ns ps os) (hp : IntsAt w P cp p) (hok : ¬ (placeE ns ps os p = 0 ∧ 0 ≤ node ∧ node < (ns.length : Int))) :
    Calls Tryz.prog 13 #[snapV A B C ca cb cc ns ps os, .slice P p.length cp, .int .i64 node] w fun e w' => e = .returned (rowV (fun _ => 0)) ∧ Below w.heap.size w w' := by
  have B0 : Hid (Below w.heap.size w (((w.alloc (.cells (snapC A B C ca cb cc ns ps os) 26)).alloc (.cells zer5 33)).alloc (.cells zer5 33))) := Lib.hid ((Qu.below2 w _ _).alloc (by simp; omega) _)
  have S0 : Hid (Blk (((w.alloc (.cells (snapC A B C ca cb cc ns ps os) 26)).alloc (.cells zer5 33)).alloc (.cells zer5 33)) w.heap.size (snapC A B C ca cb cc ns ps os) 26) := Lib.hid (Blk.alloc (Blk.alloc (Blk.new w _ _) _) _)
  have R0 : Hid (Blk (((w.alloc (.cells (snapC A B C ca cb cc ns ps os) 26)).alloc (.cells zer5 33)).alloc (.cells zer5 33)) (w.heap.size + 1) zer5 33) := Lib.hid (Blk.alloc (blk2 w _ _ _) _)
  have U0 : Hid (Blk (((w.alloc (.cells (snapC A B C ca cb cc ns ps os) 26)).alloc (.cells zer5 33)).alloc (.cells zer5 33)) (w.heap.size + 2) zer5 33) := Lib.hid (blk3 w _ _ _ _)
  have KC := Lib.hid (pcheck_any A B C P ca cb cc cp ns ps os p _ (h.below B0.out) (hp.below B0.out))
  have hl0 := Blk.lt U0.out
  generalize placeE ns ps os p = v0 at KC hok
  have KP : Hid (v0 = 0 → ∀ w', Calls Tryz.prog 39 #[.int .i64 node, .int .i64 (ns.length : Int)] w' fun e w'' => e = .returned (.bool false) ∧ w'' = w') := Lib.hid (fun hv w' => by
    have := isPlace_any node ns.length w'
    rwa [decide_eq_false (fun h => hok ⟨hv, h⟩)] at this)
  clear hok h hp
  go_enter Tryz.func13, Tryz.ntmps13
  go_wp2_with fail
  refine (KC.out).mono ?_
  rintro e w1 ⟨rfl, hb⟩
  clear KC
  have S1 := Lib.hid (S0.out.below hb (by omega))
  have R1 := Lib.hid (R0.out.below hb (by omega))
  have U1 := Lib.hid (U0.out.below hb (by omega))
  have B1 := Lib.hid (B0.out.trans (hb.mono (by omega)))
  clear hb S0 R0 U0 B0 hl0
  have s0 : w1.cell? ⟨w.heap.size, 0, none⟩ = some (.slice A ns.length ca) := Blk.cell S1.out 0
  have u0 : w1.cell? ⟨w.heap.size + 2, 0, none⟩ = some (.int .i64 0) := Blk.cell U1.out 0
  have u1 : w1.cell? ⟨w.heap.size + 2, 1, none⟩ = some (.int .i64 0) := Blk.cell U1.out 1
  have u2 : w1.cell? ⟨w.heap.size + 2, 2, none⟩ = some (.int .i64 0) := Blk.cell U1.out 2
  have u3 : w1.cell? ⟨w.heap.size + 2, 3, none⟩ = some (.int .i64 0) := Blk.cell U1.out 3
  have u4 : w1.cell? ⟨w.heap.size + 2, 4, none⟩ = some (.int .i64 0) := Blk.cell U1.out 4
  by_cases hvz : v0 = 0
  · subst hvz
    have KQ := Lib.hid (KP.out rfl)
    go_wp2_with fail
    refine (KQ.out _).mono ?_
    rintro e w2 ⟨rfl, rfl⟩
    go_wp2_with (refine wpList_store_row rfl 33 (.tmp 6) (.tmp 23) rfl (w.heap.size + 1) zer5 rfl rfl 33 _ R1.out Qu.vec_size (by kernel_rfl) (by kernel_rfl) ?_)
    refine bodyPost_row1 Tryz.results13 (w.heap.size + 1) _ _ _ _ (by rfl) (by rfl) (Blk.put R1.out zer5) Tryz.underlying33 rfl Qu.vec_size ?_
    exact ⟨rfl, below_setRow B1.out (by omega) _⟩
  · have hvb : (v0 != 0) = true := by simpa using hvz
    clear KP
    go_wp2_with (refine wpList_store_row rfl 33 (.tmp 6) (.tmp 23) rfl (w.heap.size + 1) zer5 rfl rfl 33 _ R1.out Qu.vec_size (by kernel_rfl) (by kernel_rfl) ?_)
    refine bodyPost_row1 Tryz.results13 (w.heap.size + 1) _ _ _ _ (by rfl) (by rfl) (Blk.put R1.out zer5) Tryz.underlying33 rfl Qu.vec_size ?_
    exact ⟨rfl, below_setRow B1.out (by omega) _⟩

/-- One pod more. -/
def addR (a r : Nat → Int) (j : Nat) (k : Nat) : Int := if k < j then wrap64 (a k + r k) else a k

end Go.Proofs.YtfnigiiocapceaaGreat

namespace Go.Proofs.YtfnigiiocapceaaGreat
open Go.RowKit Go.Shelf
attribute [local go_sem] Oper.semAt_some

/-- The first five of two rows are the same. -/
theorem RowAt_congr {w : World} {b : Nat} {x y : Nat → Int} (h : Qu.RowAt w b x) (he : ∀ k, k < 5 → x k = y k) : Qu.RowAt w b y := by
  unfold Qu.RowAt at h ⊢
  rw [h, he 0 (by omega), he 1 (by omega), he 2 (by omega), he 3 (by omega), he 4 (by omega)]
theorem addR_zero (a r : Nat → Int) : addR a r 0 = a := by
  funext k
  unfold addR
  rw [if_neg (by omega)]
theorem addR_at (a r : Nat → Int) (j : Nat) : addR a r j j = a j := by
  unfold addR
  rw [if_neg (by omega)]
theorem addR_step (a r : Nat → Int) (j : Nat) : Qu.upd (addR a r j) j (wrap64 (a j + r j)) = addR a r (j + 1) := by
  funext k
  unfold Qu.upd addR
  by_cases h : k = j
  · subst h
    rw [if_pos rfl, if_pos (by omega)]
  · rw [if_neg h]
    by_cases h2 : k < j
    · rw [if_pos h2, if_pos (by omega)]
    · rw [if_neg h2, if_neg (by omega)]
theorem addW_snoc (ps : List PodD) (ys : List Nat) (m : Nat) (x : PodD) (hx : ps[m]? = some x) (k : Nat) : addW ps (ys ++ [m]) k = wrap64 (addW ps ys k + x.req k) := by
  unfold addW
  rw [List.foldl_append]
  simp [hx]
theorem rowAt_nc {w w' : World} {b : Nat} {x : Nat → Int} {row : Option Nat} (h : Qu.RowAt w b x) (hg : w.grownBy w' row) (hr : ∀ r, row = some r → ∃ o : Obj, w.heap[r]? = some o ∧ o.isCells = false) : Qu.RowAt w' b x := blk_nc (cs := #[.int .i64 (x 0), .int .i64 (x 1), .int .i64 (x 2), .int .i64 (x 3), .int .i64 (x 4)]) (t := 33) h hg hr
theorem addW_nil (ps : List PodD) : addW ps [] = fun _ => 0 := rfl

set_option maxRecDepth 100000 in
set_option maxHeartbeats 2000000 in
theorem used_ok (A B C P : Option Addr) (ca cb cc cp : Nat) (ns : List NodeD) (ps : List PodD) (os : List OwnD) (p : List Int) (node : Int) (w : World) (h : SnapAt w A B C ca cb cc ns ps os) (hp : IntsAt w P cp p) (hok : placeE ns ps os p = 0 ∧ 0 ≤ node ∧ node < (ns.length : Int)) :
    Calls Tryz.prog 13 #[snapV A B C ca cb cc ns ps os, .slice P p.length cp, .int .i64 node] w fun e w' => e = .returned (rowV (addW ps (onU p node p.length))) ∧ Below w.heap.size w w' := by
  have hlp := Lib.hid h.lp
  have hpl := Lib.hid (placeE_len hok.1)
  have H := Lib.hid h
  have HP := Lib.hid hp
  have B0 : Hid (Below w.heap.size w (((w.alloc (.cells (snapC A B C ca cb cc ns ps os) 26)).alloc (.cells zer5 33)).alloc (.cells zer5 33))) := Lib.hid ((Qu.below2 w _ _).alloc (by simp; omega) _)
  have S0 : Hid (Blk (((w.alloc (.cells (snapC A B C ca cb cc ns ps os) 26)).alloc (.cells zer5 33)).alloc (.cells zer5 33)) w.heap.size (snapC A B C ca cb cc ns ps os) 26) := Lib.hid (Blk.alloc (Blk.alloc (Blk.new w _ _) _) _)
  have R0 : Hid (Blk (((w.alloc (.cells (snapC A B C ca cb cc ns ps os) 26)).alloc (.cells zer5 33)).alloc (.cells zer5 33)) (w.heap.size + 1) zer5 33) := Lib.hid (Blk.alloc (blk2 w _ _ _) _)
  have U0 : Hid (Blk (((w.alloc (.cells (snapC A B C ca cb cc ns ps os) 26)).alloc (.cells zer5 33)).alloc (.cells zer5 33)) (w.heap.size + 2) zer5 33) := Lib.hid (blk3 w _ _ _ _)
  have KC := Lib.hid ((callsIn_wide (n := 7)).2 (pcheck_any A B C P ca cb cc cp ns ps os p _ (h.below B0.out) (hp.below B0.out)))
  have hl0 := Blk.lt U0.out
  have KP : Hid (∀ w', CallsIn Fence.wide 7 Tryz.prog 39 #[.int .i64 node, .int .i64 (ns.length : Int)] w' fun e w'' => e = .returned (.bool true) ∧ w'' = w') := Lib.hid (fun w' => (callsIn_wide (n := 7)).2 (by
    have := isPlace_any node ns.length w'
    rwa [decide_eq_true hok.2] at this))
  rw [hok.1] at KC
  clear h hp hok
  refine (callsIn_wide (n := 8)).1 ?_
  refine callsIn_of_wp_marks Tryz.func13 rfl trivial ?_ rfl
  simp only [Tryz.ntmps13, List.size_toArray, List.length_cons, List.length_nil, Nat.reduceAdd, Nat.reduceSub, Array.replicate_succ, Array.replicate_zero, List.push_toArray, List.append_toArray, List.nil_append, List.cons_append]
  gi_wp2_with fail
  refine ⟨trivial, ?_⟩
  refine (KC.out).mono ?_
  rintro e w1 ⟨rfl, hb⟩
  clear KC
  have S1 := Lib.hid (S0.out.below hb (by omega))
  have R1 := Lib.hid (R0.out.below hb (by omega))
  have U1 := Lib.hid (U0.out.below hb (by omega))
  have B1 := Lib.hid (B0.out.trans (hb.mono (by omega)))
  clear hb S0 R0 U0 B0 hl0
  have s0 : w1.cell? ⟨w.heap.size, 0, none⟩ = some (.slice A ns.length ca) := Blk.cell S1.out 0
  gi_wp2_with fail
  refine ⟨trivial, ?_⟩
  refine (KP.out _).mono ?_
  rintro e w2 ⟨rfl, rfl⟩
  gi_wp2_with fail
  refine ⟨trivial, ?_⟩
  refine (on_any _ P p.length cp node _).mono ?_
  rintro e w3 ⟨rfl, rfl⟩
  have S2 := Lib.hid (Blk.alloc (Blk.alloc S1.out (.cells #[.slice P p.length cp] 27)) (.cells #[.int .i64 node] 3))
  have R2 := Lib.hid (Blk.alloc (Blk.alloc R1.out (.cells #[.slice P p.length cp] 27)) (.cells #[.int .i64 node] 3))
  have U2 := Lib.hid (Blk.alloc (Blk.alloc U1.out (.cells #[.slice P p.length cp] 27)) (.cells #[.int .i64 node] 3))
  have P2 := Lib.hid (Blk.alloc (Blk.new w2 #[.slice P p.length cp] 27) (.cells #[.int .i64 node] 3))
  have N2 := Lib.hid (blk2 w2 (.cells #[.slice P p.length cp] 27) #[.int .i64 node] 3)
  have B2 := Lib.hid ((B1.out.alloc B1.out.size (.cells #[.slice P p.length cp] 27)).alloc (by have := B1.out.size; simp; omega) (.cells #[.int .i64 node] 3))
  have hlu := Blk.lt U1.out
  generalize ((w2.alloc (.cells #[.slice P p.length cp] 27)).alloc (.cells #[.int .i64 node] 3)) = W0 at S2 R2 U2 P2 N2 B2 ⊢
  gi_wp2_with fail
  obtain ⟨Ub, hUb⟩ : ∃ Ub, w.heap.size + 1 + 1 = Ub := ⟨_, rfl⟩
  obtain ⟨Rb, hRb⟩ : ∃ Rb, w.heap.size + 1 = Rb := ⟨_, rfl⟩
  rw [show w.heap.size + 2 = Ub from hUb] at U2 hlu
  rw [hUb, hRb]
  rw [hRb] at R2
  have hU : Hid (w.heap.size < Rb ∧ Rb < Ub ∧ Ub < w2.heap.size) := Lib.hid ⟨by omega, by omega, hlu⟩
  have hW0 : Hid (w2.heap.size + 1 < W0.heap.size) := Lib.hid (Blk.lt N2.out)
  clear hUb hRb hlu s0 KP
  refine wpIn_rangeFunc_ownG (α := AtNo p node) rfl (by omega) (gf := 65) (lb := #[.pointer (some ⟨w2.heap.size, 0, none⟩), .pointer (some ⟨w2.heap.size + 1, 0, none⟩)]) rfl trivial (enters_of Tryz.func65 (by kernel_rfl) rfl)
    (on_stops (8 - 1) (by omega) w2.heap.size (w2.heap.size + 1) w.heap.size cp [Ub] P p node (by rw [hpl.out]; exact hlp.out) W0 (by have := hU.out; have := hW0.out; omega) (by have := hU.out; simp; omega) P2.out N2.out ?hp)
    keepU_t (keepU_b (by have := hU.out; have := hW0.out; omega)) (Below.refl _ _) (fun _ => rfl)
    (fun pre W => (Blk W w.heap.size (snapC A B C ca cb cc ns ps os) 26 ∧ Blk W Rb zer5 33 ∧ Qu.RowAt W Ub (addW ps (pre.map (·.1)))) ∧ Below w.heap.size w W)
    (fun _ _ _ => False)
    (OwnFrom.and (fun s X Y row hs hg hr => ⟨blk_nc hs.1 hg (fun r e => (hr r e).2), blk_nc hs.2.1 hg (fun r e => (hr r e).2), rowAt_nc hs.2.2 hg (fun r e => (hr r e).2)⟩) (ownFrom_below (Nat.le_refl _) (by have := hU.out; have := hW0.out; omega)))
    (fun _ _ _ _ _ hs _ _ => hs)
    ⟨⟨S2.out, R2.out, U2.out⟩, B2.out⟩
    (fun x => { tmps := #[snapV A B C ca cb cc ns ps os, Value.slice P p.length cp, Value.int IntKind.i64 node,
          Value.pointer (some { block := w.heap.size, off := 0 }), undef, undef,
          Value.pointer (some { block := Rb, off := 0 }),
          Value.pointer (some { block := Ub, off := 0 }), .int .i64 (x.1 : Int), undef, undef,
          Value.agg #[Value.slice A ns.length ca, Value.slice B ps.length cb, Value.slice C os.length cc],
          Value.slice P p.length cp, Value.int IntKind.i64 0, Value.bool false, Value.bool false,
          Value.int IntKind.i64 node, Value.pointer (some { block := w.heap.size, off := 0 }),
          Value.slice A ns.length ca, Value.int IntKind.i64 ns.length, Value.bool true, Value.bool false,
          Value.bool false, undef, Value.slice P p.length cp, Value.int IntKind.i64 node,
          Value.func (Fn.func 65) #[]
            #[Value.pointer (some { block := w2.heap.size, off := 0 }),
              Value.pointer (some { block := w2.heap.size + 1, off := 0 })],
          .int .i64 (x.1 : Int), undef, undef, undef, undef, undef, undef, undef, undef, undef, undef, undef, undef, undef, undef,
          undef, undef, undef, undef], defers := [] }) ?assign ?body ?done ?stop
  case hp =>
    intro k x hx
    obtain ⟨b, o, hA, hb, _⟩ := atI HP.out.cells hx
    obtain ⟨b', o', hA', _, hc⟩ := atI (HP.out.below B2.out).cells hx
    rw [hA] at hA'
    cases hA'
    exact ⟨b, o, hA, hb, hc⟩
  case assign =>
    intro l x W K hK
    gi_wp2
    exact hK
  case body =>
    rintro l pre ⟨m, hm⟩ W ⟨⟨hS, hR, hUr⟩, hB⟩ hlen
    have hml : m < ps.length := by rw [← hpl.out]; exact (List.getElem?_eq_some_iff.1 hm).1
    obtain ⟨y, hy⟩ : ∃ y, ps[m]? = some y := ⟨ps[m], List.getElem?_eq_getElem hml⟩
    obtain ⟨b, o, hA, hbl, c0, c1, c2, c3, c4, c5, c6, c7, c8, c9, c10, c11, c12, c13, c14⟩ := atP (H.out.below hB).p.cells hy
    subst hA
    have z1 : W.cell? ⟨w.heap.size, 1, none⟩ = some (.slice (some ⟨b, o, none⟩) ps.length cb) := Blk.cell hS 1
    have m0 : (0 : Int) ≤ (m : Int) := by omega
    have m1 : (m : Int) < (ps.length : Int) := by omega
    have HY := Lib.hid hy
    have HS := Lib.hid hS
    have HR := Lib.hid hR
    have HUr := Lib.hid hUr
    have HB := Lib.hid hB
    obtain ⟨a, ha⟩ : ∃ a, addW ps (pre.map (·.1)) = a := ⟨_, rfl⟩
    have Ha := Lib.hid ha
    rw [ha] at HUr
    clear hy hS hR hUr hB c0 c1 c7 c8 c9 c10 c11 c12 c13 c14 ha
    gi_wp2_with fail
    gi_loopw [34] (fun i wr => ∃ j : Nat, j ≤ 5 ∧ i = .int .i64 j ∧ Qu.RowAt wr Ub (addR a y.req j) ∧ KeepsOthers W wr ∧ KeepU w.heap.size [Ub] W wr) (fun i _ => 5 - (intOf i).toNat)
    case atStart => exact ⟨0, by omega, rfl, by rw [addR_zero]; exact HUr.out, KeepsOthers.refl _, KeepU.refl _ _ _⟩
    case round =>
      obtain ⟨j, hj, rfl, hr, hko, hku⟩ := hrel
      have HRr := Lib.hid hr
      have HKO := Lib.hid hko
      have HKU := Lib.hid hku
      clear hr hko hku
      by_cases hlt : j < 5
      · have hi := fun w => Qu.idx_row y.req j hlt w
        have hc : wr.cell? ⟨Ub, j, none⟩ = some (.int .i64 (a j)) := by
          have := HRr.out.cell hlt
          rwa [addR_at] at this
        have hf : wr.frozen? ⟨Ub, j, none⟩ = false := HRr.out.free j
        have hd5 : (j : Int) < 5 := by omega
        have hj0 : (0 : Int) ≤ (j : Int) := by omega
        gi_wp2
        go_roundw
        case rel =>
          refine ⟨j + 1, by omega, by go_num, ?_, HKO.out.trans (KeepsOthers.setCell _ _ _), HKU.out.trans (KeepU.set _ (by simp) (by have := hU.out; omega) _ _)⟩
          rw [← addR_step]
          exact HRr.out.set hlt _
        case measure => simp [intOf]; omega
      · obtain rfl : j = 5 := by omega
        gi_wp2
        refine ⟨HKO.out.from _, HKU.out, ⟨?_, ?_, ?_⟩, HB.out.trans HKU.out.1⟩
        · exact HKU.out.2 _ _ _ (by have := hU.out; simp; omega) HS.out
        · exact HKU.out.2 _ _ _ (by have := hU.out; simp; omega) HR.out
        · refine RowAt_congr HRr.out (fun k hk => ?_)
          rw [List.map_append]
          show addR a y.req 5 k = addW ps (pre.map (·.1) ++ [m]) k
          rw [addW_snoc ps _ m y HY.out, Ha.out]
          unfold addR
          rw [if_pos hk]
  case done =>
    rintro D ys W hD hys ⟨⟨hS, hR, hUr⟩, hB⟩ hK
    rw [hys] at hUr
    have u0 := hUr.cell (k := 0) (by omega)
    have u1 := hUr.cell (k := 1) (by omega)
    have u2 := hUr.cell (k := 2) (by omega)
    have u3 := hUr.cell (k := 3) (by omega)
    have u4 := hUr.cell (k := 4) (by omega)
    have hRc : ∀ k, k < 5 → W.cell? ⟨Rb, k, none⟩ = some (.int .i64 0) := fun k hk => by
      rw [Blk.cell hR k]
      match k, hk with
      | 0, _ => rfl
      | 1, _ => rfl
      | 2, _ => rfl
      | 3, _ => rfl
      | 4, _ => rfl
    have r0 := hRc 0 (by omega)
    have r1 := hRc 1 (by omega)
    have r2 := hRc 2 (by omega)
    have r3 := hRc 3 (by omega)
    have r4 := hRc 4 (by omega)
    have f0 := Blk.free hR 0
    have f1 := Blk.free hR 1
    have f2 := Blk.free hR 2
    have f3 := Blk.free hR 3
    have f4 := Blk.free hR 4
    have HR := Lib.hid hR
    have HB := Lib.hid hB
    have HK := Lib.hid hK
    have HD := Lib.hid hD
    clear hRc hR hB hK hD hS hUr hys
    gi_wp2
    have HZ : Hid (Qu.RowAt W Rb (fun _ => 0)) := HR
    generalize hv : addW ps (onU p node p.length) = v
    have HO : Hid (KeepsOthers W (((((W.setCell ⟨Rb, 0, none⟩ (.int .i64 (v 0))).setCell ⟨Rb, 1, none⟩ (.int .i64 (v 1))).setCell ⟨Rb, 2, none⟩ (.int .i64 (v 2))).setCell ⟨Rb, 3, none⟩ (.int .i64 (v 3))).setCell ⟨Rb, 4, none⟩ (.int .i64 (v 4)))) := Lib.hid (((((KeepsOthers.setCell _ _ _).trans (KeepsOthers.setCell _ _ _)).trans (KeepsOthers.setCell _ _ _)).trans (KeepsOthers.setCell _ _ _)).trans (KeepsOthers.setCell _ _ _))
    have HV : Hid (Qu.RowAt (((((W.setCell ⟨Rb, 0, none⟩ (.int .i64 (v 0))).setCell ⟨Rb, 1, none⟩ (.int .i64 (v 1))).setCell ⟨Rb, 2, none⟩ (.int .i64 (v 2))).setCell ⟨Rb, 3, none⟩ (.int .i64 (v 3))).setCell ⟨Rb, 4, none⟩ (.int .i64 (v 4))) Rb v) := Lib.hid (by
      refine RowAt_congr (((((HZ.out.set (k := 0) (by omega) (v 0)).set (k := 1) (by omega) (v 1)).set (k := 2) (by omega) (v 2)).set (k := 3) (by omega) (v 3)).set (k := 4) (by omega) (v 4)) (fun k hk => ?_)
      match k, hk with
      | 0, _ => rfl
      | 1, _ => rfl
      | 2, _ => rfl
      | 3, _ => rfl
      | 4, _ => rfl)
    have HB5 : Hid (Below w.heap.size w (((((W.setCell ⟨Rb, 0, none⟩ (.int .i64 (v 0))).setCell ⟨Rb, 1, none⟩ (.int .i64 (v 1))).setCell ⟨Rb, 2, none⟩ (.int .i64 (v 2))).setCell ⟨Rb, 3, none⟩ (.int .i64 (v 3))).setCell ⟨Rb, 4, none⟩ (.int .i64 (v 4)))) := Lib.hid (by
      have hr := hU.out.1
      exact ((((HB.out.setCell (p := ⟨Rb, 0, none⟩) (Nat.le_of_lt hr) _).setCell (p := ⟨Rb, 1, none⟩) (Nat.le_of_lt hr) _).setCell (p := ⟨Rb, 2, none⟩) (Nat.le_of_lt hr) _).setCell (p := ⟨Rb, 3, none⟩) (Nat.le_of_lt hr) _).setCell (p := ⟨Rb, 4, none⟩) (Nat.le_of_lt hr) _)
    generalize (((((W.setCell ⟨Rb, 0, none⟩ (.int .i64 (v 0))).setCell ⟨Rb, 1, none⟩ (.int .i64 (v 1))).setCell ⟨Rb, 2, none⟩ (.int .i64 (v 2))).setCell ⟨Rb, 3, none⟩ (.int .i64 (v 3))).setCell ⟨Rb, 4, none⟩ (.int .i64 (v 4))) = W5 at HO HV HB5 ⊢
    have hK5 := HO.out.same D _ HK.out rfl
    refine ⟨by simp, .inl ⟨_, _, rfl, run_takeDeferred hK5, ?_⟩⟩
    refine ⟨rowV v, results_row1 Tryz.results13 _ _ Rb _ _ _ _ rfl (rowAt_nc HV.out (grownBy_putObj' _ D (.deferred none)) (fun r e => by cases e; exact ⟨_, hK5, rfl⟩)) Tryz.underlying33 rfl Qu.vec_size, rfl, ?_⟩
    exact HB5.out.trans (belowK_b (w := w) (Nat.le_refl _) W5 D _ _ (by have := HD.out; have := hU.out; have := hW0.out; omega) hK5 rfl rfl)
  case stop =>
    rintro D c pre W _ _ h _
    exact h.elim

theorem used_any (A B C P : Option Addr) (ca cb cc cp : Nat) (ns : List NodeD) (ps : List PodD) (os : List OwnD) (p : List Int) (node : Int) (w : World) (h : SnapAt w A B C ca cb cc ns ps os) (hp : IntsAt w P cp p) :
    Calls Tryz.prog 13 #[snapV A B C ca cb cc ns ps os, .slice P p.length cp, .int .i64 node] w fun e w' => e = .returned (rowV (usedF ns ps os p node)) ∧ Below w.heap.size w w' := by
  by_cases hok : placeE ns ps os p = 0 ∧ 0 ≤ node ∧ node < (ns.length : Int)
  · have hE : usedF ns ps os p node = addW ps (onU p node p.length) := by
      funext k
      unfold usedF
      rw [if_pos hok]
    rw [hE]
    exact used_ok A B C P ca cb cc cp ns ps os p node w h hp hok
  · have hE : usedF ns ps os p node = fun _ => 0 := by
      funext k
      unfold usedF
      rw [if_neg hok]
    rw [hE]
    exact used_no A B C P ca cb cc cp ns ps os p node w h hp hok
end Go.Proofs.YtfnigiiocapceaaGreat
