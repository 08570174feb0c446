/- How many pods of an owner run in each domain: what the document sums is what the program counts. No conditions. By how much an owner's spread is too great, by the document's words: skew. A contract. Condition: the cluster and the numbers lie in memory. A list of clauses as a value; Same, by the document's words, of two that are the same. No conditions but that they lie in memory. The clauses of nodes, by the document's words: caps. A contract. Condition: the cluster and the numbers lie in memory. One clause of a list, by the document's words: Of, out of what All tells. A contract. Condition: the cluster and the numbers lie in memory. What of a list is broken, by the document's words: Broken, out of what All tells. A contract. Condition: the cluster and the numbers lie in memory. Who is near whom, by the document's words: near, about. Contracts. Condition: the cluster and the numbers lie in memory. The clauses of a placement, by the document's words, as a list: first those of nodes, then those of pods by kinds, then those of owners; and by the program's words, subject by subject: it is the same list. In numbers and texts only. The clauses of a placement stand in order, each once; none is broken by less than nothing; how many are about pods. In numbers only. What Get answers, as a plain function. Condition: a list that can lie in memory. What holds where a placement may be: few labels, keys that differ, short values, names that differ, quantities in bounds; and the pods near a pod, as a list. In numbers and texts only. The program's rule for ClauseCap: overCap. A contract. Condition: the cluster and the numbers lie in memory, the placement may be, the node is there. A map of how much clauses are broken, its keys what they are about: what is found in it, how many are in it, what they are together. In numbers and data only. The program's rule for ClauseDouble: isSingle and double. Contracts. Condition: the cluster and the numbers lie in memory, and the placement may be. What a step makes worse is about its pod, its node, its pod's owner, or about a pod that asks for somebody near, or is of the same owner. In numbers only. All that clauses may be about: subjects. A contract. Condition: the cluster and the numbers lie in memory. The rules of the kinds: a map of eight functions. Contracts of its maker and of its look-up. No conditions. -/
import Derived.Test.YtiiheajieegdkaaGreatA05
import Derived.StillTailTactics
import Derived.Maps.OwnSet
import Derived.Maps.OwnOps
import Derived.Maps.RangeWalk
import Derived.DeepKeys4
import Derived.WalkArith
import Derived.Carry
import Derived.MapViews

namespace Go.Proofs.YtiiheajieegdkaaGreat
open Go.RowKit Go.Maps Go.Sort

/-- What those of the first nodes have together that have that value. -/
def sumV (ns : List NodeD) (key : List UInt8) (L : List Int) (v : List UInt8) : Nat → Int
  | 0 => 0
  | k + 1 => sumV ns key L v k + (if domF ns (k : Int) key = some v then L.getD k 0 else 0)
theorem sumV_zero (ns : List NodeD) (key v : List UInt8) (L : List Int) (h : ∀ k, L.getD k 0 = 0) : ∀ k, sumV ns key L v k = 0
  | 0 => rfl
  | k + 1 => by
    rw [sumV, sumV_zero ns key v L h k, h]
    split <;> rfl
theorem sumV_set (ns : List NodeD) (key v : List UInt8) (L : List Int) (q : Nat) (hq : q < L.length) : ∀ k, sumV ns key (L.set q (L.getD q 0 + 1)) v k = sumV ns key L v k + (if q < k ∧ domF ns (q : Int) key = some v then 1 else 0)
  | 0 => by
    rw [if_neg (by omega)]
    rfl
  | k + 1 => by
    rw [sumV, sumV, sumV_set ns key v L q hq k]
    by_cases e : q = k
    · subst e
      rw [if_neg (fun h => by omega)]
      by_cases hd : domF ns (q : Int) key = some v
      · rw [if_pos hd, if_pos hd, if_pos ⟨by omega, hd⟩]
        rw [List.getD_eq_getElem?_getD, List.getElem?_set_self hq]
        simp
        omega
      · rw [if_neg hd, if_neg hd, if_neg (fun h => hd h.2)]
    · have h1 : (L.set q (L.getD q 0 + 1)).getD k 0 = L.getD k 0 := by
        rw [List.getD_eq_getElem?_getD, List.getElem?_set_ne e, ← List.getD_eq_getElem?_getD]
      have h2 : (if q < k + 1 ∧ domF ns (q : Int) key = some v then (1 : Int) else 0) = if q < k ∧ domF ns (q : Int) key = some v then 1 else 0 := by
        by_cases hk : q < k ∧ domF ns (q : Int) key = some v
        · rw [if_pos hk, if_pos ⟨by omega, hk.2⟩]
        · rw [if_neg hk, if_neg (fun h => hk ⟨by omega, h.2⟩)]
      rw [h1, h2]
      omega
theorem two_from (ns : List NodeD) (key : List UInt8) (p : List Int) : ∀ (ys : List Nat) (D : DataW Unit) (L : List Int) (c : Nat), SpreadAt ns key D c → c + ys.length ≤ 1000 → L.length = ns.length → (∀ y ∈ ys, ∃ x, p[y]? = some x ∧ 0 ≤ x ∧ x < (ns.length : Int)) → (∀ v, valD D v = sumV ns key L v ns.length) → ∀ v, valD (ys.foldl (spreadS ns key p) D) v = sumV ns key (ys.foldl (fun l y => match p[y]? with | some x => l.set x.toNat (l.getD x.toNat 0 + 1) | none => l) L) v ns.length
  | [], _, _, _, _, _, _, _, hv => hv
  | y :: t, D, L, c, h, hc, hL, hy, hv => by
    rw [List.length_cons] at hc
    obtain ⟨x, hx, hx0, hx1⟩ := hy y (by simp)
    obtain ⟨q, rfl⟩ : ∃ q : Nat, x = (q : Int) := ⟨x.toNat, by omega⟩
    have hs : SpreadAt ns key (spreadS ns key p D y) (c + 1) := spread_from ns key p [y] D c h (by simp; omega)
    rw [List.foldl_cons, List.foldl_cons]
    have hst : (match p[y]? with | some x => L.set x.toNat (L.getD x.toNat 0 + 1) | none => L) = L.set q (L.getD q 0 + 1) := by
      rw [hx]
      simp
    rw [hst]
    refine two_from ns key p t _ _ (c + 1) hs (by omega) (by rw [List.length_set, hL]) (fun z hz => hy z (by simp [hz])) (fun v => ?_)
    rw [sumV_set ns key v L q (by omega), ← hv]
    have hq : q < ns.length := by omega
    unfold spreadS
    rw [hx]
    dsimp only
    cases hd : domF ns (q : Int) key with
    | none =>
      rw [if_neg (fun h => by have := h.2; cases this)]
      simp
    | some u =>
      dsimp only
      have hw : wrap64 (valD D u + 1) = valD D u + 1 := IntWalk.wrap64_in _ (by have := h.vals u; omega)
      have e : bumpD D u = D.put (.string u) (.lit (.int .i64 (valD D u + 1))) := by
        rw [← hw]
        rfl
      rw [e, val_put h.keyed]
      by_cases huv : v = u
      · subst huv
        rw [if_pos rfl, if_pos ⟨hq, rfl⟩]
        rfl
      · rw [if_neg huv, if_neg (fun h => huv (by have := h.2; cases this; rfl))]
        omega

theorem repl_getD (n k : Nat) : (List.replicate n (0 : Int)).getD k 0 = 0 := by
  rw [List.getD_eq_getElem?_getD, List.getElem?_replicate]
  split <;> rfl

theorem spread_is (ns : List NodeD) (key : List UInt8) (p : List Int) (ys : List Nat) (hl : ys.length ≤ 1000) (hy : ∀ y ∈ ys, ∃ x, p[y]? = some x ∧ 0 ≤ x ∧ x < (ns.length : Int)) :
    rowD (spreadD ns key p ys) = (domsR ns key ns.length).map (fun v => sumV ns key (cntL ns.length p ys) v ns.length) := by
  have hA := spread_all ns key p ys hl
  have hk : sortK (spreadD ns key p ys) = domsR ns key ns.length := by
    rw [← doms_sort]
    exact mergeSort_of_perm hA.keys
  unfold rowD
  rw [hk]
  refine List.map_congr_left (fun v _ => ?_)
  exact two_from ns key p ys _ _ 0 (spread_zero ns key) (by omega) (List.length_replicate ..) hy (fun u => by
    rw [sumV_zero ns key u _ (repl_getD ns.length)]
    exact (keyed_doms ns key ns.length).2 u) v

end Go.Proofs.YtiiheajieegdkaaGreat

namespace Go.Proofs.YtiiheajieegdkaaGreat
open Go.RowKit

def minL (l : List Int) : Int := l.foldl min (l.headD 0)
def maxL (l : List Int) : Int := l.foldl max (l.headD 0)
/-- By how much it is too great. -/
def skewO (l : List Int) (skew : Int) : Int := if l = [] then 0 else max 0 (wrap64 (wrap64 (maxL l - minL l) - skew))
end Go.Proofs.YtiiheajieegdkaaGreat

namespace Go.Proofs.YtiiheajieegdkaaGreat
open Go.RowKit

/-- A clause: its kind, A, B, By. -/
abbrev ClT := Int × Int × Int × Int
abbrev clV (x : ClT) : Value := .agg #[.int .i64 x.1, .int .i64 x.2.1, .int .i64 x.2.2.1, .int .i64 x.2.2.2]
def cells4 (l : List ClT) : List Value := l.flatMap fun x => [.int .i64 x.1, .int .i64 x.2.1, .int .i64 x.2.2.1, .int .i64 x.2.2.2]
theorem cells4_snoc (l : List ClT) (x : ClT) : cells4 (l ++ [x]) = cells4 l ++ [.int .i64 x.1, .int .i64 x.2.1, .int .i64 x.2.2.1, .int .i64 x.2.2.2] := by simp [cells4]
theorem cells4_at : ∀ (l : List ClT) (k : Nat) (x : ClT), l[k]? = some x → (cells4 l)[k * 4]? = some (.int .i64 x.1) ∧ (cells4 l)[k * 4 + 1]? = some (.int .i64 x.2.1) ∧ (cells4 l)[k * 4 + 2]? = some (.int .i64 x.2.2.1) ∧ (cells4 l)[k * 4 + 3]? = some (.int .i64 x.2.2.2)
  | [], k, x, h => by simp at h
  | y :: t, 0, x, h => by
    simp only [List.getElem?_cons_zero, Option.some.injEq] at h
    subst h
    exact ⟨rfl, rfl, rfl, rfl⟩
  | y :: t, k + 1, x, h => by
    obtain ⟨h0, h1, h2, h3⟩ := cells4_at t k x (by simpa using h)
    have e : cells4 (y :: t) = [.int .i64 y.1, .int .i64 y.2.1, .int .i64 y.2.2.1, .int .i64 y.2.2.2] ++ cells4 t := rfl
    rw [e]
    refine ⟨?_, ?_, ?_, ?_⟩
    · rw [List.getElem?_append_right (by simp; omega), ← h0]; congr 1; simp; omega
    · rw [List.getElem?_append_right (by simp; omega), ← h1]; congr 1; simp; omega
    · rw [List.getElem?_append_right (by simp; omega), ← h2]; congr 1; simp; omega
    · rw [List.getElem?_append_right (by simp; omega), ← h3]; congr 1; simp; omega
theorem atC {w : World} {A : Option Addr} {l : List ClT} (h : La.SlAt w A (cells4 l)) {k : Nat} {x : ClT} (hk : l[k]? = some x) :
    ∃ b o, A = some ⟨b, o, none⟩ ∧ b < w.heap.size ∧ w.cell? ⟨b, o + k * 4, none⟩ = some (.int .i64 x.1) ∧ w.cell? ⟨b, o + k * 4 + 1, none⟩ = some (.int .i64 x.2.1) ∧ w.cell? ⟨b, o + k * 4 + 2, none⟩ = some (.int .i64 x.2.2.1) ∧ w.cell? ⟨b, o + k * 4 + 3, none⟩ = some (.int .i64 x.2.2.2) := by
  obtain ⟨h0, h1, h2, h3⟩ := cells4_at l k x hk
  obtain ⟨b, o, hA, c0⟩ := h _ _ h0
  obtain ⟨b', o', hA', c1⟩ := h _ _ h1
  rw [hA] at hA'
  cases hA'
  obtain ⟨b', o', hA', c2⟩ := h _ _ h2
  rw [hA] at hA'
  cases hA'
  obtain ⟨b', o', hA', c3⟩ := h _ _ h3
  rw [hA] at hA'
  cases hA'
  exact ⟨b, o, hA, World.block_lt_of_cell? w _ c0, c0, c1, c2, c3⟩

theorem part_cl0 (a b c d : Int) (w : World) : (Go.part 3 #[.int .i64 a, .int .i64 b, .int .i64 c, .int .i64 d] 0).run Tryz.prog w = .ok (.int .i64 a) w := by kernel_rfl
theorem part_cl1 (a b c d : Int) (w : World) : (Go.part 3 #[.int .i64 a, .int .i64 b, .int .i64 c, .int .i64 d] 1).run Tryz.prog w = .ok (.int .i64 b) w := by kernel_rfl
theorem part_cl2 (a b c d : Int) (w : World) : (Go.part 3 #[.int .i64 a, .int .i64 b, .int .i64 c, .int .i64 d] 2).run Tryz.prog w = .ok (.int .i64 c) w := by kernel_rfl
theorem part_cl3 (a b c d : Int) (w : World) : (Go.part 3 #[.int .i64 a, .int .i64 b, .int .i64 c, .int .i64 d] 3).run Tryz.prog w = .ok (.int .i64 d) w := by kernel_rfl
theorem eq_cl_in (n : Nat) (a b c d : Int) (w : World) : (Op.equalIn (n + 2) 47 (.agg #[.int .i64 a, .int .i64 b, .int .i64 c, .int .i64 d]) (.agg #[.int .i64 a, .int .i64 b, .int .i64 c, .int .i64 d])).run Tryz.prog w = .ok true w := by
  rw [Op.equalIn]
  simp only [Sem.run_bind, run_underlying Tryz.underlying47, Result.andThen_ok]
  simp [Sem.run_bind, part_cl0, part_cl1, part_cl2, part_cl3, Qu.eq_int]
theorem eq_cl (a b c d : Int) (w : World) : (Op.equalIn 10000 47 (.agg #[.int .i64 a, .int .i64 b, .int .i64 c, .int .i64 d]) (.agg #[.int .i64 a, .int .i64 b, .int .i64 c, .int .i64 d])).run Tryz.prog w = .ok true w := eq_cl_in 9998 a b c d w
theorem cl_guard : Tryz.prog.eqGuardType Tryz.prog.depth 47 = false := by kernel_rfl

end Go.Proofs.YtiiheajieegdkaaGreat

namespace Go.Proofs.YtiiheajieegdkaaGreat
open Go.RowKit

/-- The clause of a node and a quantity. -/
def capC (ps : List PodD) (p : List Int) (n : Nat) (x : NodeD) (k : Nat) : ClT := (1, (n : Int), (k : Int), max 0 (wrap64 (addW ps (onU p (n : Int) p.length) k - x.cap k)))
def capN (ps : List PodD) (p : List Int) (n : Nat) (x : NodeD) (k : Nat) : List ClT := (List.range k).map (capC ps p n x)
def capsU (ns : List NodeD) (ps : List PodD) (p : List Int) : Nat → List ClT
  | 0 => []
  | n + 1 => capsU ns ps p n ++ (match ns[n]? with
    | some x => capN ps p n x 5
    | none => [])
theorem capN_len (ps : List PodD) (p : List Int) (n : Nat) (x : NodeD) (k : Nat) : (capN ps p n x k).length = k := by simp [capN]
theorem capsU_len (ns : List NodeD) (ps : List PodD) (p : List Int) : ∀ n, (capsU ns ps p n).length ≤ 5 * n
  | 0 => Nat.le_refl _
  | n + 1 => by
    have := capsU_len ns ps p n
    rw [capsU, List.length_append]
    split
    · rw [capN_len]; omega
    · simp; omega
theorem cl_info : (Tryz.prog.info? 47).map (fun i => (i.zero, i.size, i.bytes)) = some (some (.agg #[.int .i64 0, .int .i64 0, .int .i64 0, .int .i64 0]), 4, 32) := by kernel_rfl
end Go.Proofs.YtiiheajieegdkaaGreat

namespace Go.Proofs.YtiiheajieegdkaaGreat
open Go.RowKit

def isC (kd a b : Int) (c : ClT) : Bool := decide (c.1 = kd ∧ c.2.1 = a ∧ c.2.2.1 = b)
/-- By how much that clause of a list is broken. -/
def findC (l : List ClT) (kd a b : Int) : Option Int := (l.find? (isC kd a b)).map (·.2.2.2)
theorem findC_at {l : List ClT} {kd a b : Int} {k : Nat} {y : ClT} (hk : l[k]? = some y) (hy : isC kd a b y = true) (hn : ∀ (j : Nat) (z : ClT), j < k → l[j]? = some z → isC kd a b z = false) : findC l kd a b = some y.2.2.2 := by
  unfold findC
  induction l generalizing k with
  | nil => simp at hk
  | cons c t ih =>
    cases k with
    | zero =>
      simp only [List.getElem?_cons_zero, Option.some.injEq] at hk
      subst hk
      rw [List.find?_cons_of_pos hy]
      rfl
    | succ k =>
      rw [List.find?_cons_of_neg (by rw [hn 0 c (by omega) rfl]; simp)]
      exact ih (k := k) (by simpa using hk) (fun j z hj hz => hn (j + 1) z (by omega) (by simpa using hz))
theorem findC_no {l : List ClT} {kd a b : Int} (hn : ∀ (j : Nat) (z : ClT), l[j]? = some z → isC kd a b z = false) : findC l kd a b = none := by
  unfold findC
  have : l.find? (isC kd a b) = none := by
    rw [List.find?_eq_none]
    intro z hz
    obtain ⟨j, hj⟩ := List.mem_iff_getElem?.1 hz
    rw [hn j z hj]
    simp
  rw [this]
  rfl

end Go.Proofs.YtiiheajieegdkaaGreat

namespace Go.Proofs.YtiiheajieegdkaaGreat
open Go.RowKit

def brokC (c : ClT) : Bool := decide (0 < c.2.2.2)
theorem filt_snoc {l : List ClT} {k : Nat} {y : ClT} (f : ClT → Bool) (hy : l[k]? = some y) : (l.take (k + 1)).filter f = (l.take k).filter f ++ (if f y then [y] else []) := by
  rw [List.take_add_one, hy, List.filter_append]
  cases h : f y <;> simp [h]

end Go.Proofs.YtiiheajieegdkaaGreat

namespace Go.Proofs.YtiiheajieegdkaaGreat
open Go.RowKit

/-- Whether two nodes have the same value for a key. -/
def nearO (a b : NodeD) (key : List UInt8) : Bool := match valK a key, valK b key with
  | some u, some v => decide (u = v)
  | _, _ => false

/-- Whether a pod counts near another one's node. -/
def aboutB (ns : List NodeD) (ps : List PodD) (p : List Int) (pod : Nat) (topo : List UInt8) (terms : List T3) (others : Bool) (i : Nat) : Bool := match p[i]?, p[pod]?, ps[i]? with
  | some x, some xp, some y => decide (0 ≤ x) && !(others && decide (i = pod)) && (match ns[x.toNat]?, ns[xp.toNat]? with | some a, some b => nearO a b topo | _, _ => false) && holdsO terms y.labels
  | _, _, _ => false
def aboutU (ns : List NodeD) (ps : List PodD) (p : List Int) (pod : Nat) (topo : List UInt8) (terms : List T3) (others : Bool) : Nat → Nat
  | 0 => 0
  | k + 1 => aboutU ns ps p pod topo terms others k + (if aboutB ns ps p pod topo terms others k then 1 else 0)
theorem aboutU_le (ns : List NodeD) (ps : List PodD) (p : List Int) (pod : Nat) (topo : List UInt8) (terms : List T3) (others : Bool) : ∀ k, aboutU ns ps p pod topo terms others k ≤ k
  | 0 => Nat.le_refl _
  | k + 1 => by
    have := aboutU_le ns ps p pod topo terms others k
    rw [aboutU]
    split <;> omega
end Go.Proofs.YtiiheajieegdkaaGreat

namespace Go.Proofs.YtiiheajieegdkaaGreat
open Go.RowKit

/-- By how much a clause about a pod is broken; none: there is none. -/
def ofU (ns : List NodeD) (ps : List PodD) (os : List OwnD) (p : List Int) (kind i : Nat) : Option Nat := match p[i]?, ps[i]? with
  | some q, some x => if q < 0 then none else match ns[q.toNat]? with
    | some n => if kind = 2 then some (termsO x.whr n.labels) else if kind = 3 then some (taintsO n.taints x.bears)
      else if kind = 4 then (if x.wt = [] then none else some (1 - aboutU ns ps p i x.wt x.wtm false p.length))
      else if kind = 5 then (if x.ap = [] then none else some (aboutU ns ps p i x.ap x.apm true p.length))
      else if x.owner = [] then none else if singleO os x.owner then some (doubU ps p i p.length) else none
    | none => none
  | _, _ => none
theorem ofU_at {ns : List NodeD} {ps : List PodD} {os : List OwnD} {p : List Int} {kind i q : Nat} {x : PodD} {n : NodeD} (hi : p[i]? = some (q : Int)) (hx : ps[i]? = some x) (hn : ns[q]? = some n) : ofU ns ps os p kind i = if kind = 2 then some (termsO x.whr n.labels) else if kind = 3 then some (taintsO n.taints x.bears)
      else if kind = 4 then (if x.wt = [] then none else some (1 - aboutU ns ps p i x.wt x.wtm false p.length))
      else if kind = 5 then (if x.ap = [] then none else some (aboutU ns ps p i x.ap x.apm true p.length))
      else if x.owner = [] then none else if singleO os x.owner then some (doubU ps p i p.length) else none := by
  unfold ofU
  rw [hi, hx]
  dsimp only
  rw [if_neg (by omega), Int.toNat_natCast, hn]
theorem ofU_wait {ns : List NodeD} {ps : List PodD} {os : List OwnD} {p : List Int} {kind i : Nat} (hi : p[i]? = some (-1)) : ofU ns ps os p kind i = none := by
  unfold ofU
  rw [hi]
  cases ps[i]? with
  | none => rfl
  | some x =>
    dsimp only
    rw [if_pos (by omega)]

/-- The clause of a pod, in a list. -/
def podR (ns : List NodeD) (ps : List PodD) (os : List OwnD) (p : List Int) (kind i : Nat) : List ClT := match ofU ns ps os p kind i with
  | some b => [((kind : Int), (i : Int), 0, (b : Int))]
  | none => []
def podsU (ns : List NodeD) (ps : List PodD) (os : List OwnD) (p : List Int) (kind : Nat) : Nat → List ClT
  | 0 => []
  | i + 1 => podsU ns ps os p kind i ++ podR ns ps os p kind i
/-- The kinds of 2 on, so many. -/
def kindsU (ns : List NodeD) (ps : List PodD) (os : List OwnD) (p : List Int) : Nat → List ClT
  | 0 => []
  | k + 1 => kindsU ns ps os p k ++ podsU ns ps os p (k + 2) p.length
def spreadR (ns : List NodeD) (ps : List PodD) (os : List OwnD) (p : List Int) (i : Nat) : List ClT := match os[i]? with
  | some o => if o.topo = [] then [] else [(7, (i : Int), 0, skewO (spreadF ns ps os p (i : Int)) o.skew)]
  | none => []
def spreadsU (ns : List NodeD) (ps : List PodD) (os : List OwnD) (p : List Int) : Nat → List ClT
  | 0 => []
  | i + 1 => spreadsU ns ps os p i ++ spreadR ns ps os p i
def minR (ns : List NodeD) (ps : List PodD) (os : List OwnD) (p : List Int) (i : Nat) : List ClT := match os[i]? with
  | some o => [(8, (i : Int), 0, max 0 (wrap64 (o.min - placedF ns ps os p (i : Int))))]
  | none => []
def minsU (ns : List NodeD) (ps : List PodD) (os : List OwnD) (p : List Int) : Nat → List ClT
  | 0 => []
  | i + 1 => minsU ns ps os p i ++ minR ns ps os p i
/-- All clauses of a placement that may be. -/
def allU (ns : List NodeD) (ps : List PodD) (os : List OwnD) (p : List Int) : List ClT := capsU ns ps p ns.length ++ kindsU ns ps os p 5 ++ spreadsU ns ps os p os.length ++ minsU ns ps os p os.length
/-- What All tells: nothing, where the placement may not be. -/
def all8 (ns : List NodeD) (ps : List PodD) (os : List OwnD) (p : List Int) : List ClT := if placeE ns ps os p = 0 then allU ns ps os p else []

theorem podR_len (ns : List NodeD) (ps : List PodD) (os : List OwnD) (p : List Int) (kind i : Nat) : (podR ns ps os p kind i).length ≤ 1 := by
  unfold podR
  split <;> simp
theorem podsU_len (ns : List NodeD) (ps : List PodD) (os : List OwnD) (p : List Int) (kind : Nat) : ∀ i, (podsU ns ps os p kind i).length ≤ i
  | 0 => Nat.le_refl _
  | i + 1 => by
    have := podsU_len ns ps os p kind i
    have := podR_len ns ps os p kind i
    rw [podsU, List.length_append]
    omega
theorem kindsU_len (ns : List NodeD) (ps : List PodD) (os : List OwnD) (p : List Int) : ∀ k, (kindsU ns ps os p k).length ≤ k * p.length
  | 0 => by simp [kindsU]
  | k + 1 => by
    have := kindsU_len ns ps os p k
    have := podsU_len ns ps os p (k + 2) p.length
    rw [kindsU, List.length_append, Nat.succ_mul]
    omega
theorem spreadR_len (ns : List NodeD) (ps : List PodD) (os : List OwnD) (p : List Int) (i : Nat) : (spreadR ns ps os p i).length ≤ 1 := by
  unfold spreadR
  split
  · split <;> simp
  · simp
theorem spreadsU_len (ns : List NodeD) (ps : List PodD) (os : List OwnD) (p : List Int) : ∀ i, (spreadsU ns ps os p i).length ≤ i
  | 0 => Nat.le_refl _
  | i + 1 => by
    have := spreadsU_len ns ps os p i
    have := spreadR_len ns ps os p i
    rw [spreadsU, List.length_append]
    omega
theorem minsU_len (ns : List NodeD) (ps : List PodD) (os : List OwnD) (p : List Int) : ∀ i, (minsU ns ps os p i).length ≤ i
  | 0 => Nat.le_refl _
  | i + 1 => by
    have := minsU_len ns ps os p i
    rw [minsU, List.length_append]
    unfold minR
    split <;> simp <;> omega
theorem allU_len (ns : List NodeD) (ps : List PodD) (os : List OwnD) (p : List Int) : (allU ns ps os p).length ≤ 5 * ns.length + 5 * p.length + 2 * os.length := by
  have := capsU_len ns ps p ns.length
  have := kindsU_len ns ps os p 5
  have := spreadsU_len ns ps os p os.length
  have := minsU_len ns ps os p os.length
  unfold allU
  simp only [List.length_append]
  omega
theorem all8_len (ns : List NodeD) (ps : List PodD) (os : List OwnD) (p : List Int) : (all8 ns ps os p).length ≤ 5 * ns.length + 5 * p.length + 2 * os.length := by
  unfold all8
  split
  · exact allU_len ns ps os p
  · simp

/-- What a clause is about, by the program's words. -/
inductive Sub
  | node (n q : Nat)
  | pod (i : Nat)
  | owner (o : Nat)
def Sub.a : Sub → Nat
  | .node n _ => n
  | .pod i => i
  | .owner o => o
def Sub.b : Sub → Nat
  | .node _ q => q
  | _ => 0
def nodesS : Nat → List Sub
  | 0 => []
  | n + 1 => nodesS n ++ (List.range 5).map (Sub.node n)
def podS (p : List Int) (i : Nat) : List Sub := if p[i]? = some (-1) then [] else [.pod i]
def podsS (p : List Int) : Nat → List Sub
  | 0 => []
  | i + 1 => podsS p i ++ podS p i
def ownersS : Nat → List Sub
  | 0 => []
  | o + 1 => ownersS o ++ [.owner o]
def subsU (ns : List NodeD) (os : List OwnD) (p : List Int) : List Sub := nodesS ns.length ++ podsS p p.length ++ ownersS os.length
/-- By how much the clause of a kind about a subject is broken; none: there is none. -/
def byU (ns : List NodeD) (ps : List PodD) (os : List OwnD) (p : List Int) (kind : Nat) : Sub → Option Int
  | .node n q => if kind = 1 then (match ns[n]? with | some x => some (max 0 (wrap64 (addW ps (onU p (n : Int) p.length) q - x.cap q))) | none => none) else none
  | .pod i => if 2 ≤ kind ∧ kind ≤ 6 then (ofU ns ps os p kind i).map (fun b => (b : Int)) else none
  | .owner o => if kind = 7 then (match os[o]? with | some x => if x.topo = [] then none else some (skewO (spreadF ns ps os p (o : Int)) x.skew) | none => none) else if kind = 8 then (match os[o]? with | some x => some (max 0 (wrap64 (x.min - placedF ns ps os p (o : Int)))) | none => none) else none
def clauseK (ns : List NodeD) (ps : List PodD) (os : List OwnD) (p : List Int) (kind : Nat) (s : Sub) : Option ClT := (byU ns ps os p kind s).map fun b => ((kind : Int), (s.a : Int), (s.b : Int), b)
def lookK (ns : List NodeD) (ps : List PodD) (os : List OwnD) (p : List Int) : Nat → List ClT
  | 0 => []
  | k + 1 => lookK ns ps os p k ++ (subsU ns os p).filterMap (clauseK ns ps os p (k + 1))

theorem nodes_no {f : Sub → Option ClT} (h : ∀ n q, f (.node n q) = none) : ∀ k, (nodesS k).filterMap f = []
  | 0 => rfl
  | k + 1 => by
    rw [nodesS, List.filterMap_append, nodes_no h k, List.nil_append, List.filterMap_eq_nil_iff]
    intro s hs
    obtain ⟨q, _, rfl⟩ := List.mem_map.1 hs
    exact h k q
theorem pods_no {f : Sub → Option ClT} (p : List Int) (h : ∀ i, f (.pod i) = none) : ∀ k, (podsS p k).filterMap f = []
  | 0 => rfl
  | k + 1 => by
    rw [podsS, List.filterMap_append, pods_no p h k, List.nil_append, podS]
    split
    · rfl
    · simp [h]
theorem owners_no {f : Sub → Option ClT} (h : ∀ o, f (.owner o) = none) : ∀ k, (ownersS k).filterMap f = []
  | 0 => rfl
  | k + 1 => by
    rw [ownersS, List.filterMap_append, owners_no h k, List.nil_append]
    simp [h]
theorem caps_are (ns : List NodeD) (ps : List PodD) (os : List OwnD) (p : List Int) : ∀ k, k ≤ ns.length → (nodesS k).filterMap (clauseK ns ps os p 1) = capsU ns ps p k
  | 0, _ => rfl
  | k + 1, h => by
    obtain ⟨x, hx⟩ : ∃ x, ns[k]? = some x := ⟨ns[k], List.getElem?_eq_getElem h⟩
    rw [nodesS, List.filterMap_append, caps_are ns ps os p k (by omega), capsU, hx]
    congr 1
    dsimp only
    unfold capN
    rw [List.filterMap_map, ← List.filterMap_eq_map]
    congr 1
    funext q
    simp [clauseK, byU, hx, capC, Sub.a, Sub.b]
theorem pods_are (ns : List NodeD) (ps : List PodD) (os : List OwnD) (p : List Int) (kind : Nat) (h2 : 2 ≤ kind) (h6 : kind ≤ 6) : ∀ k, (podsS p k).filterMap (clauseK ns ps os p kind) = podsU ns ps os p kind k
  | 0 => rfl
  | k + 1 => by
    rw [podsS, List.filterMap_append, pods_are ns ps os p kind h2 h6 k, podsU]
    congr 1
    unfold podS podR
    by_cases hw : p[k]? = some (-1)
    · rw [if_pos hw, ofU_wait hw]
      rfl
    · rw [if_neg hw]
      cases hq : ofU ns ps os p kind k <;> simp [clauseK, byU, h2, h6, hq, Sub.a, Sub.b]
theorem spreads_are (ns : List NodeD) (ps : List PodD) (os : List OwnD) (p : List Int) : ∀ k, (ownersS k).filterMap (clauseK ns ps os p 7) = spreadsU ns ps os p k
  | 0 => rfl
  | k + 1 => by
    rw [ownersS, List.filterMap_append, spreads_are ns ps os p k, spreadsU]
    congr 1
    unfold spreadR
    cases ho : os[k]? with
    | none => simp [clauseK, byU, ho]
    | some o =>
      by_cases ht : o.topo = []
      · simp [clauseK, byU, ho, ht]
      · simp [clauseK, byU, ho, ht, Sub.a, Sub.b]
theorem mins_are (ns : List NodeD) (ps : List PodD) (os : List OwnD) (p : List Int) : ∀ k, (ownersS k).filterMap (clauseK ns ps os p 8) = minsU ns ps os p k
  | 0 => rfl
  | k + 1 => by
    rw [ownersS, List.filterMap_append, mins_are ns ps os p k, minsU]
    congr 1
    unfold minR
    cases ho : os[k]? with
    | none => simp [clauseK, byU, ho]
    | some o => simp [clauseK, byU, ho, Sub.a, Sub.b]
/-- Subject by subject it is the same list. -/
theorem look_is (ns : List NodeD) (ps : List PodD) (os : List OwnD) (p : List Int) : lookK ns ps os p 8 = allU ns ps os p := by
  have h1 : (subsU ns os p).filterMap (clauseK ns ps os p 1) = capsU ns ps p ns.length := by
    unfold subsU
    rw [List.filterMap_append, List.filterMap_append, caps_are ns ps os p _ (Nat.le_refl _), pods_no p (fun i => by simp [clauseK, byU]), owners_no (fun i => by simp [clauseK, byU]), List.append_nil, List.append_nil]
  have h2 : ∀ kind, 2 ≤ kind → kind ≤ 6 → (subsU ns os p).filterMap (clauseK ns ps os p kind) = podsU ns ps os p kind p.length := fun kind a b => by
    have a1 : kind ≠ 1 := by omega
    have a7 : kind ≠ 7 := by omega
    have a8 : kind ≠ 8 := by omega
    unfold subsU
    rw [List.filterMap_append, List.filterMap_append, nodes_no (fun n q => by simp [clauseK, byU, a1]), pods_are ns ps os p kind a b, owners_no (fun i => by simp [clauseK, byU, a7, a8]), List.append_nil, List.nil_append]
  have h7 : (subsU ns os p).filterMap (clauseK ns ps os p 7) = spreadsU ns ps os p os.length := by
    unfold subsU
    rw [List.filterMap_append, List.filterMap_append, nodes_no (fun n q => by simp [clauseK, byU]), pods_no p (fun i => by simp [clauseK, byU]), spreads_are, List.append_nil, List.nil_append]
  have h8 : (subsU ns os p).filterMap (clauseK ns ps os p 8) = minsU ns ps os p os.length := by
    unfold subsU
    rw [List.filterMap_append, List.filterMap_append, nodes_no (fun n q => by simp [clauseK, byU]), pods_no p (fun i => by simp [clauseK, byU]), mins_are, List.append_nil, List.nil_append]
  simp only [lookK, List.nil_append]
  rw [h1, h2 2 (by omega) (by omega), h2 3 (by omega) (by omega), h2 4 (by omega) (by omega), h2 5 (by omega) (by omega), h2 6 (by omega) (by omega), h7, h8]
  unfold allU
  simp only [kindsU, List.nil_append, List.append_assoc]
end Go.Proofs.YtiiheajieegdkaaGreat

namespace Go.Proofs.YtiiheajieegdkaaGreat
open Go.RowKit

/-- One clause stands ahead of another. -/
def Rise3 (c d : ClT) : Prop := c.1 < d.1 ∨ (c.1 = d.1 ∧ (c.2.1 < d.2.1 ∨ (c.2.1 = d.2.1 ∧ c.2.2.1 < d.2.2.1)))
theorem caps_kind (ns : List NodeD) (ps : List PodD) (p : List Int) : ∀ k, ∀ c ∈ capsU ns ps p k, c.1 = 1 ∧ 0 ≤ c.2.1 ∧ c.2.1 < (k : Int) ∧ 0 ≤ c.2.2.2
  | 0, c, h => by simp [capsU] at h
  | k + 1, c, h => by
    rw [capsU, List.mem_append] at h
    rcases h with h | h
    · have := caps_kind ns ps p k c h
      omega
    · split at h
      · obtain ⟨q, hq, rfl⟩ := List.mem_map.1 h
        refine ⟨rfl, ?_, ?_, ?_⟩
        · show (0 : Int) ≤ (k : Int); omega
        · show (k : Int) < ((k + 1 : Nat) : Int); omega
        · show 0 ≤ max 0 _; omega
      · simp at h
theorem caps_rise (ns : List NodeD) (ps : List PodD) (p : List Int) : ∀ k, (capsU ns ps p k).Pairwise Rise3
  | 0 => List.Pairwise.nil
  | k + 1 => by
    rw [capsU, List.pairwise_append]
    refine ⟨caps_rise ns ps p k, ?_, ?_⟩
    · split
      · unfold capN
        rw [List.pairwise_map]
        refine List.Pairwise.imp ?_ List.pairwise_lt_range
        intro a b hab
        refine .inr ⟨rfl, .inr ⟨rfl, ?_⟩⟩
        show (a : Int) < (b : Int)
        omega
      · exact List.Pairwise.nil
    · intro c hc d hd
      obtain ⟨h1, _, h3, _⟩ := caps_kind ns ps p k c hc
      split at hd
      · obtain ⟨q, hq, rfl⟩ := List.mem_map.1 hd
        refine .inr ⟨h1, .inl ?_⟩
        show c.2.1 < (k : Int)
        omega
      · simp at hd
theorem pods_kind (ns : List NodeD) (ps : List PodD) (os : List OwnD) (p : List Int) (kind : Nat) : ∀ k, ∀ c ∈ podsU ns ps os p kind k, c.1 = (kind : Int) ∧ 0 ≤ c.2.1 ∧ c.2.1 < (k : Int) ∧ 0 ≤ c.2.2.2
  | 0, c, h => by simp [podsU] at h
  | k + 1, c, h => by
    rw [podsU, List.mem_append] at h
    rcases h with h | h
    · have := pods_kind ns ps os p kind k c h
      omega
    · unfold podR at h
      split at h
      · simp at h
        subst h
        refine ⟨rfl, ?_, ?_, ?_⟩
        · show (0 : Int) ≤ (k : Int); omega
        · show (k : Int) < ((k + 1 : Nat) : Int); omega
        · rename_i b _
          show (0 : Int) ≤ (b : Int); omega
      · simp at h
theorem pods_rise (ns : List NodeD) (ps : List PodD) (os : List OwnD) (p : List Int) (kind : Nat) : ∀ k, (podsU ns ps os p kind k).Pairwise Rise3
  | 0 => List.Pairwise.nil
  | k + 1 => by
    rw [podsU, List.pairwise_append]
    refine ⟨pods_rise ns ps os p kind k, ?_, ?_⟩
    · unfold podR
      split
      · exact List.pairwise_singleton _ _
      · exact List.Pairwise.nil
    · intro c hc d hd
      obtain ⟨h1, _, h3, _⟩ := pods_kind ns ps os p kind k c hc
      unfold podR at hd
      split at hd
      · simp at hd
        subst hd
        refine .inr ⟨h1, .inl ?_⟩
        show c.2.1 < (k : Int)
        omega
      · simp at hd
theorem kinds_kind (ns : List NodeD) (ps : List PodD) (os : List OwnD) (p : List Int) : ∀ k, ∀ c ∈ kindsU ns ps os p k, 2 ≤ c.1 ∧ c.1 ≤ (k : Int) + 1 ∧ 0 ≤ c.2.1 ∧ c.2.1 < (p.length : Int) ∧ 0 ≤ c.2.2.2
  | 0, c, h => by simp [kindsU] at h
  | k + 1, c, h => by
    rw [kindsU, List.mem_append] at h
    rcases h with h | h
    · have := kinds_kind ns ps os p k c h
      omega
    · have := pods_kind ns ps os p (k + 2) p.length c h
      omega
theorem kinds_rise (ns : List NodeD) (ps : List PodD) (os : List OwnD) (p : List Int) : ∀ k, (kindsU ns ps os p k).Pairwise Rise3
  | 0 => List.Pairwise.nil
  | k + 1 => by
    rw [kindsU, List.pairwise_append]
    refine ⟨kinds_rise ns ps os p k, pods_rise ns ps os p (k + 2) p.length, ?_⟩
    intro c hc d hd
    have := kinds_kind ns ps os p k c hc
    have := pods_kind ns ps os p (k + 2) p.length d hd
    exact .inl (by omega)
theorem skewO_pos (l : List Int) (s : Int) : 0 ≤ skewO l s := by
  unfold skewO
  split <;> omega
theorem spreads_kind (ns : List NodeD) (ps : List PodD) (os : List OwnD) (p : List Int) : ∀ k, ∀ c ∈ spreadsU ns ps os p k, c.1 = 7 ∧ 0 ≤ c.2.1 ∧ c.2.1 < (k : Int) ∧ 0 ≤ c.2.2.2
  | 0, c, h => by simp [spreadsU] at h
  | k + 1, c, h => by
    rw [spreadsU, List.mem_append] at h
    rcases h with h | h
    · have := spreads_kind ns ps os p k c h
      omega
    · unfold spreadR at h
      split at h
      · split at h
        · simp at h
        · simp at h
          subst h
          refine ⟨rfl, ?_, ?_, skewO_pos _ _⟩
          · show (0 : Int) ≤ (k : Int); omega
          · show (k : Int) < ((k + 1 : Nat) : Int); omega
      · simp at h
theorem spreads_rise (ns : List NodeD) (ps : List PodD) (os : List OwnD) (p : List Int) : ∀ k, (spreadsU ns ps os p k).Pairwise Rise3
  | 0 => List.Pairwise.nil
  | k + 1 => by
    rw [spreadsU, List.pairwise_append]
    refine ⟨spreads_rise ns ps os p k, ?_, ?_⟩
    · unfold spreadR
      split
      · split
        · exact List.Pairwise.nil
        · exact List.pairwise_singleton _ _
      · exact List.Pairwise.nil
    · intro c hc d hd
      obtain ⟨h1, _, h3, _⟩ := spreads_kind ns ps os p k c hc
      unfold spreadR at hd
      split at hd
      · split at hd
        · simp at hd
        · simp at hd
          subst hd
          refine .inr ⟨h1, .inl ?_⟩
          show c.2.1 < (k : Int)
          omega
      · simp at hd
theorem mins_kind (ns : List NodeD) (ps : List PodD) (os : List OwnD) (p : List Int) : ∀ k, ∀ c ∈ minsU ns ps os p k, c.1 = 8 ∧ 0 ≤ c.2.1 ∧ c.2.1 < (k : Int) ∧ 0 ≤ c.2.2.2
  | 0, c, h => by simp [minsU] at h
  | k + 1, c, h => by
    rw [minsU, List.mem_append] at h
    rcases h with h | h
    · have := mins_kind ns ps os p k c h
      omega
    · unfold minR at h
      split at h
      · simp at h
        subst h
        refine ⟨rfl, ?_, ?_, ?_⟩
        · show (0 : Int) ≤ (k : Int); omega
        · show (k : Int) < ((k + 1 : Nat) : Int); omega
        · show 0 ≤ max 0 _; omega
      · simp at h
theorem mins_rise (ns : List NodeD) (ps : List PodD) (os : List OwnD) (p : List Int) : ∀ k, (minsU ns ps os p k).Pairwise Rise3
  | 0 => List.Pairwise.nil
  | k + 1 => by
    rw [minsU, List.pairwise_append]
    refine ⟨mins_rise ns ps os p k, ?_, ?_⟩
    · unfold minR
      split
      · exact List.pairwise_singleton _ _
      · exact List.Pairwise.nil
    · intro c hc d hd
      obtain ⟨h1, _, h3, _⟩ := mins_kind ns ps os p k c hc
      unfold minR at hd
      split at hd
      · simp at hd
        subst hd
        refine .inr ⟨h1, .inl ?_⟩
        show c.2.1 < (k : Int)
        omega
      · simp at hd
theorem all8_rise (ns : List NodeD) (ps : List PodD) (os : List OwnD) (p : List Int) : (all8 ns ps os p).Pairwise Rise3 := by
  unfold all8
  split
  · unfold allU
    rw [List.pairwise_append, List.pairwise_append, List.pairwise_append]
    refine ⟨⟨⟨caps_rise _ _ _ _, kinds_rise _ _ _ _ _, ?_⟩, spreads_rise _ _ _ _ _, ?_⟩, mins_rise _ _ _ _ _, ?_⟩
    · intro c hc d hd
      have := caps_kind ns ps p _ c hc
      have := kinds_kind ns ps os p _ d hd
      exact .inl (by omega)
    · intro c hc d hd
      have := spreads_kind ns ps os p _ d hd
      rcases List.mem_append.1 hc with hc | hc
      · have := caps_kind ns ps p _ c hc
        exact .inl (by omega)
      · have := kinds_kind ns ps os p _ c hc
        exact .inl (by omega)
    · intro c hc d hd
      have := mins_kind ns ps os p _ d hd
      rcases List.mem_append.1 hc with hc | hc
      · rcases List.mem_append.1 hc with hc | hc
        · have := caps_kind ns ps p _ c hc
          exact .inl (by omega)
        · have := kinds_kind ns ps os p _ c hc
          exact .inl (by omega)
      · have := spreads_kind ns ps os p _ c hc
        exact .inl (by omega)
  · exact List.Pairwise.nil
/-- What each clause is: of a known kind, broken by no less than nothing; one about a pod is about one that is there. -/
theorem all8_good (ns : List NodeD) (ps : List PodD) (os : List OwnD) (p : List Int) : ∀ c ∈ all8 ns ps os p, 0 ≤ c.2.2.2 ∧ (2 ≤ c.1 → c.1 ≤ 6 → 0 ≤ c.2.1 ∧ c.2.1 < (p.length : Int)) := by
  intro c hc
  unfold all8 at hc
  split at hc
  · unfold allU at hc
    simp only [List.mem_append] at hc
    rcases hc with ((hc | hc) | hc) | hc
    · have := caps_kind ns ps p _ c hc
      exact ⟨by omega, fun h1 h2 => by omega⟩
    · have := kinds_kind ns ps os p _ c hc
      exact ⟨by omega, fun h1 h2 => by omega⟩
    · have := spreads_kind ns ps os p _ c hc
      exact ⟨by omega, fun h1 h2 => by omega⟩
    · have := mins_kind ns ps os p _ c hc
      exact ⟨by omega, fun h1 h2 => by omega⟩
  · simp at hc
theorem rise_at {l : List ClT} (h : l.Pairwise Rise3) {i j : Nat} {c d : ClT} (hi : l[i]? = some c) (hj : l[j]? = some d) (hij : i < j) : Rise3 c d := by
  obtain ⟨h1, rfl⟩ := List.getElem?_eq_some_iff.1 hi
  obtain ⟨h2, rfl⟩ := List.getElem?_eq_some_iff.1 hj
  exact List.pairwise_iff_getElem.1 h i j h1 h2 hij
/-- Each clause is found by what it is about. -/
theorem find_rise {l : List ClT} (h : l.Pairwise Rise3) {c : ClT} (hc : c ∈ l) : findC l c.1 c.2.1 c.2.2.1 = some c.2.2.2 := by
  obtain ⟨k, hk⟩ := List.mem_iff_getElem?.1 hc
  refine findC_at hk (by simp [isC]) ?_
  intro j z hj hz
  have hr := rise_at h hz hk hj
  unfold isC
  refine decide_eq_false ?_
  rintro ⟨e1, e2, e3⟩
  unfold Rise3 at hr
  omega
end Go.Proofs.YtiiheajieegdkaaGreat

namespace Go.Proofs.YtiiheajieegdkaaGreat.La
open Go.RowKit

abbrev Lab := List UInt8 × List UInt8
/-- The value of a key's first label. -/
def getL (l : List Lab) (k : List UInt8) : List UInt8 × Bool :=
  match l.find? (fun x => decide (x.1 = k)) with
  | some x => (x.2, true)
  | none => ([], false)

theorem find_take {l : List Lab} {k : List UInt8} {n : Nat} {x : Lab} (hx : l[n]? = some x) (h : (l.take n).find? (fun x => decide (x.1 = k)) = none) (hk : x.1 = k) : getL l k = (x.2, true) := by
  unfold getL
  have e : l = l.take n ++ x :: l.drop (n + 1) := by
    obtain ⟨hn, e⟩ := List.getElem?_eq_some_iff.1 hx
    rw [← e, ← List.drop_eq_getElem_cons hn, List.take_append_drop]
  rw [e, List.find?_append, h]
  simp [hk]
theorem find_no {l : List Lab} {k : List UInt8} {n : Nat} {x : Lab} (hx : l[n]? = some x) (h : (l.take n).find? (fun x => decide (x.1 = k)) = none) (hk : ¬ x.1 = k) : (l.take (n + 1)).find? (fun x => decide (x.1 = k)) = none := by
  rw [List.take_add_one, hx, List.find?_append, h]
  simp [hk]

theorem clone_any (l : List UInt8) (w : World) (h : l.length ≤ 1000) : Calls Tryz.prog 210 #[strV l] w fun e w' => e = .returned (strV l) ∧ Below w.heap.size w w' := by
  have K := Lib.hid (Tryz.stringslite_Clone ⟨l.toArray⟩ w (by
    show l.toArray.size ≤ _
    simp
    omega))
  go_enter Tryz.func210, Tryz.ntmps210
  go_wp2_with fail
  refine K.out.mono ?_
  rintro e w1 ⟨rfl, hb⟩
  have HB := Lib.hid hb
  clear hb
  go_wp2
  go_ret
  exact ⟨rfl, HB.out⟩

set_option maxRecDepth 100000 in
set_option maxHeartbeats 2000000 in
theorem get_any (A : Option Addr) (c : Nat) (l : List Lab) (k : List UInt8) (w : World) (hn : l.length ≤ 1000) (_hc : l.length ≤ c) (hs : SlAt w A (cellsL l)) (hbig : ∀ x ∈ l, x.2.length ≤ 1000) :
    Calls Tryz.prog 271 #[.slice A l.length c, strV k] w fun e w' => e = .returned (.tuple #[strV (getL l k).1, .bool (getL l k).2]) ∧ Below w.heap.size w w' := by
  have HS := Lib.hid hs
  have HBig := Lib.hid hbig
  clear hs hbig
  rcases hG : getL l k with ⟨g1, g2⟩
  have HG := Lib.hid hG
  simp only
  clear hG
  go_enter Tryz.func271, Tryz.ntmps271
  go_wp2
  go_loopw [10] (fun i wr => ∃ n : Nat, n ≤ l.length ∧ i = .int .i64 n ∧ (l.take n).find? (fun x => decide (x.1 = k)) = none ∧ Below w.heap.size w wr) (fun i _ => l.length - (intOf i).toNat)
  case atStart => exact ⟨0, by omega, rfl, rfl, Below.refl _ _⟩
  case round =>
    obtain ⟨n, hnl, rfl, hno, hbw⟩ := hrel
    have HB := Lib.hid hbw
    have HNo := Lib.hid hno
    clear hbw hno
    by_cases hlt : n < l.length
    · obtain ⟨x, hx⟩ : ∃ x, l[n]? = some x := ⟨l[n], List.getElem?_eq_getElem hlt⟩
      obtain ⟨b, o, hA, hb, hy⟩ := SlAt.lab (HS.out.below HB.out) hx
      subst hA
      obtain ⟨y0, y1⟩ := hy
      have n0 : (0 : Int) ≤ (n : Int) := by omega
      have n1 : (n : Int) < (l.length : Int) := by omega
      have HX := Lib.hid hx
      have hB2 := Lib.hid (HB.out.alloc HB.out.size (.cells #[strV x.1, strV x.2] 29))
      clear hx
      by_cases hq : x.1 = k
      · have KC := Lib.hid (fun w => clone_any x.2 w (HBig.out x (List.mem_of_getElem? HX.out)))
        have hq2 := find_take HX.out HNo.out hq
        rw [HG.out] at hq2
        simp only [Prod.mk.injEq] at hq2
        obtain ⟨rfl, rfl⟩ := hq2
        subst hq
        go_wp2_with fail
        refine (KC.out _).mono ?_
        rintro e w2 ⟨rfl, hb⟩
        have HB3 := Lib.hid (hB2.out.trans (hb.mono hB2.out.size))
        clear hb
        go_wp2
        go_ret2
        exact ⟨rfl, HB3.out⟩
      · have hqb : (x.1 == k) = false := by simpa using hq
        have HF := Lib.hid (find_no HX.out HNo.out hq)
        have HQ := Lib.hid hq
        clear hq
        go_wp2
        go_roundw
        case rel => exact ⟨n + 1, by omega, by go_num, HF.out, hB2.out⟩
        case measure => simp [intOf]; omega
    · obtain rfl : n = l.length := by omega
      have e : getL l k = ([], false) := by
        have := HNo.out
        rw [List.take_length] at this
        unfold getL
        rw [this]
      rw [HG.out] at e
      simp only [Prod.mk.injEq] at e
      obtain ⟨rfl, rfl⟩ := e
      go_wp2
      go_ret2
      exact ⟨rfl, HB.out⟩
end Go.Proofs.YtiiheajieegdkaaGreat.La

namespace Go.Proofs.YtiiheajieegdkaaGreat
open Go.RowKit

theorem placeE_chk {ns : List NodeD} {ps : List PodD} {os : List OwnD} {p : List Int} (hE : placeE ns ps os p = 0) : checkS ns ps os = 0 := by
  unfold placeE at hE
  split at hE
  · assumption
  · exact hE
theorem getL_getO (l : List L2) (k : List UInt8) : La.getL l k = ((getO l k).getD [], (getO l k).isSome) := by
  unfold La.getL getO
  cases l.find? (fun x => decide (x.1 = k)) <;> rfl
theorem valK_up {x : NodeD} (h : x.lost = false) (k : List UInt8) : valK x k = getO x.labels k := by
  unfold valK getO
  rw [h]
  rfl
theorem tpB_up {ns : List NodeD} {q : Nat} {x : NodeD} (h : tpB ns (q : Int) = true) (hx : ns[q]? = some x) : x.lost = false := by
  unfold tpB at h
  rw [Int.toNat_natCast, hx] at h
  simp only [Bool.and_eq_true, decide_eq_true_eq] at h
  simpa using h.2
theorem node_vals {ns : List NodeD} {ps : List PodD} {os : List OwnD} (h : checkS ns ps os = 0) {x : NodeD} (hx : x ∈ ns) : ∀ y ∈ x.labels, y.2.length ≤ 1000 := by
  intro y hy
  unfold checkS at h
  split at h
  · rename_i hc
    unfold clusB at hc
    simp only [Bool.and_eq_true, List.all_eq_true] at hc
    have h1 := hc.1.1.2 x hx
    unfold nodeB at h1
    simp only [Bool.and_eq_true, beq_iff_eq] at h1
    have h2 := chkK_all h1.1.2 y hy
    unfold La.labB at h2
    simp only [Bool.and_eq_true] at h2
    have h3 := h2.2
    unfold La.valueB at h3
    simp only [Bool.and_eq_true, decide_eq_true_eq] at h3
    have := span15 La.okVal y.2 0 (by omega)
    omega
  · cases h
theorem terms_few {ns : List NodeD} {ps : List PodD} {os : List OwnD} (h : checkS ns ps os = 0) {x : PodD} (hx : x ∈ ps) : x.wtm.length ≤ 6 ∧ x.apm.length ≤ 6 := by
  unfold checkS at h
  split at h
  · rename_i hc
    unfold clusB at hc
    simp only [Bool.and_eq_true, List.all_eq_true] at hc
    have h1 := (hc.1.2 x hx).1
    unfold podB at h1
    simp only [Bool.and_eq_true, beq_iff_eq] at h1
    have hn : ∀ (t : List UInt8) (l : List T3), nearB t l = true → l.length ≤ 6 := by
      intro t l hb
      unfold nearB at hb
      split at hb
      · have : l.length = 0 := by simpa using hb
        omega
      · simp only [Bool.and_eq_true, beq_iff_eq] at hb
        exact chk_few hb.2
    exact ⟨hn _ _ h1.1.2, hn _ _ h1.2⟩
  · cases h
/-- How many terms do not hold, by the program's words. -/
theorem termsO_holds (ts : List T3) (l : List L2) (hp : l.Pairwise (fun x y => x.1 ≠ y.1)) : termsO ts l = numL (fun t => !La.holdsL [t] l) ts := by
  unfold termsO
  congr 1
  funext t
  rw [holdO_eq l hp t]
  simp [La.holdsL]

/-- The pods near a pod that are of terms, itself too, of the first k. -/
def nearP (ns : List NodeD) (ps : List PodD) (p : List Int) (pod : Nat) (topo : List UInt8) (terms : List T3) : Nat → List Int
  | 0 => []
  | k + 1 => nearP ns ps p pod topo terms k ++ (if aboutB ns ps p pod topo terms false k then [(k : Int)] else [])
theorem nearP_len (ns : List NodeD) (ps : List PodD) (p : List Int) (pod : Nat) (topo : List UInt8) (terms : List T3) : ∀ k, (nearP ns ps p pod topo terms k).length = aboutU ns ps p pod topo terms false k
  | 0 => rfl
  | k + 1 => by
    rw [nearP, aboutU, List.length_append, nearP_len ns ps p pod topo terms k]
    split <;> rfl
theorem aboutB_others (ns : List NodeD) (ps : List PodD) (p : List Int) (pod : Nat) (topo : List UInt8) (terms : List T3) (k : Nat) : aboutB ns ps p pod topo terms true k = (!decide (k = pod) && aboutB ns ps p pod topo terms false k) := by
  unfold aboutB
  cases p[k]? with
  | none => simp
  | some x =>
    cases p[pod]? with
    | none => simp
    | some xp =>
      cases ps[k]? with
      | none => simp
      | some y =>
        dsimp only
        cases decide (0 ≤ x) <;> cases decide (k = pod) <;> simp
theorem nearP_others (ns : List NodeD) (ps : List PodD) (p : List Int) (pod : Nat) (topo : List UInt8) (terms : List T3) : ∀ k, numL (fun x : Int => !decide (x = (pod : Int))) (nearP ns ps p pod topo terms k) = aboutU ns ps p pod topo terms true k
  | 0 => rfl
  | k + 1 => by
    have ih := nearP_others ns ps p pod topo terms k
    unfold numL at ih ⊢
    rw [nearP, aboutU, List.filter_append, List.length_append, ih, aboutB_others]
    by_cases hk : k = pod
    · subst hk
      cases aboutB ns ps p k topo terms false k <;> simp
    · have hk2 : ¬ (k : Int) = (pod : Int) := by omega
      cases aboutB ns ps p pod topo terms false k <;> simp [hk, hk2]
theorem nearP_none {ns : List NodeD} {ps : List PodD} {p : List Int} {pod q : Nat} {topo : List UInt8} {terms : List T3} {xb : NodeD} (hp : p[pod]? = some (q : Int)) (hb : ns[q]? = some xb) (hv : valK xb topo = none) : ∀ k, nearP ns ps p pod topo terms k = []
  | 0 => rfl
  | k + 1 => by
    have : aboutB ns ps p pod topo terms false k = false := by
      unfold aboutB
      rw [hp]
      cases p[k]? with
      | none => rfl
      | some x =>
        cases ps[k]? with
        | none => rfl
        | some y =>
          dsimp only
          rw [Int.toNat_natCast, hb]
          cases ns[x.toNat]? with
          | none => simp
          | some a =>
            have : nearO a xb topo = false := by
              unfold nearO
              rw [hv]
              cases valK a topo <;> rfl
            simp [this]
    rw [nearP, nearP_none hp hb hv k, this]
    rfl
end Go.Proofs.YtiiheajieegdkaaGreat

namespace Go.Proofs.YtiiheajieegdkaaGreat
open Go.RowKit

theorem chkV_bounds {x : Nat → Int} (h : Qu.chkV x = 0) : ∀ j, j < 5 → 0 ≤ x j ∧ x j ≤ 1099511627776 := by
  have h0 : ∀ j, j < 5 → 0 ≤ x j := fun j hj => by
    by_cases hn : x j < 0
    · rw [Qu.chkV_neg hj hn] at h
      cases h
    · omega
  intro j hj
  refine ⟨h0 j hj, ?_⟩
  by_cases ht : Qu.top < x j
  · rw [Qu.chkV_over h0 hj ht] at h
    cases h
  · unfold Qu.top at ht
    omega
theorem cap_bounds {ns : List NodeD} {ps : List PodD} {os : List OwnD} (h : checkS ns ps os = 0) {x : NodeD} (hx : x ∈ ns) : ∀ j, j < 5 → 0 ≤ x.cap j ∧ x.cap j ≤ 1099511627776 := by
  unfold checkS at h
  split at h
  · rename_i hc
    unfold clusB at hc
    simp only [Bool.and_eq_true, List.all_eq_true] at hc
    have h1 := hc.1.1.2 x hx
    unfold nodeB at h1
    simp only [Bool.and_eq_true, beq_iff_eq] at h1
    exact chkV_bounds h1.1.1
  · cases h
theorem req_bounds {ns : List NodeD} {ps : List PodD} {os : List OwnD} (h : checkS ns ps os = 0) {x : PodD} (hx : x ∈ ps) : ∀ j, j < 5 → 0 ≤ x.req j ∧ x.req j ≤ 1099511627776 := by
  unfold checkS at h
  split at h
  · rename_i hc
    unfold clusB at hc
    simp only [Bool.and_eq_true, List.all_eq_true] at hc
    have h1 := (hc.1.2 x hx).1
    unfold podB at h1
    simp only [Bool.and_eq_true, beq_iff_eq] at h1
    exact chkV_bounds h1.1.1.1.1.1
  · cases h
theorem reqS_bounds {ps : List PodD} {j : Nat} (h : ∀ x ∈ ps, 0 ≤ x.req j ∧ x.req j ≤ 1099511627776) : ∀ ys : List Nat, 0 ≤ reqS ps j ys ∧ reqS ps j ys ≤ 1099511627776 * (ys.length : Int)
  | [] => by simp [reqS]
  | y :: t => by
    have ih := reqS_bounds h t
    have ha : 0 ≤ reqAt ps j y ∧ reqAt ps j y ≤ 1099511627776 := by
      unfold reqAt
      split
      · rename_i x hx
        exact h x (List.mem_of_getElem? hx)
      · omega
    have e : reqS ps j (y :: t) = reqAt ps j y + reqS ps j t := by simp [reqS]
    rw [e, List.length_cons]
    push_cast
    omega
theorem addW_bounds {ps : List PodD} {j : Nat} (h : ∀ x ∈ ps, 0 ≤ x.req j ∧ x.req j ≤ 1099511627776) (ys : List Nat) (hl : ys.length ≤ 1000) : 0 ≤ addW ps ys j ∧ addW ps ys j ≤ 1099511627776000 := by
  have h1 := reqS_bounds h ys
  rw [addW_is]
  unfold wrap64
  omega
theorem over_upto (y : Nat → Int) (q : Nat) (a : Int) (ha : 0 ≤ a ∧ a ≤ 1099511627776000) (hy : ∀ j, j < 5 → 0 ≤ y j ∧ y j ≤ 1099511627776) : ∀ k, k ≤ 5 → Qu.overV (fun t => if t = q then a else 0) y k = if q < k then max 0 (a - y q) else 0
  | 0, _ => by simp [Qu.overV]
  | k + 1, h => by
    have hk := hy k (by omega)
    rw [Qu.overV, over_upto y q a ha hy k (by omega)]
    by_cases hkq : k = q
    · subst hkq
      rw [if_pos rfl, if_neg (by omega : ¬ k < k), if_pos (by omega : k < k + 1)]
      split
      · unfold wrap64
        omega
      · omega
    · rw [if_neg hkq, if_neg (by omega)]
      by_cases hq : q < k
      · rw [if_pos hq, if_pos (by omega)]
      · rw [if_neg hq, if_neg (by omega)]
theorem over_one (y : Nat → Int) (q : Nat) (hq : q < 5) (a : Int) (ha : 0 ≤ a ∧ a ≤ 1099511627776000) (hy : ∀ j, j < 5 → 0 ≤ y j ∧ y j ≤ 1099511627776) : Qu.overV (fun t => if t = q then a else 0) y 5 = max 0 (wrap64 (a - y q)) := by
  have h0 := hy q hq
  rw [over_upto y q a ha hy 5 (Nat.le_refl _), if_pos hq]
  unfold wrap64
  omega
theorem addW_on (ps : List PodD) (p : List Int) (n : Int) (k q : Nat) (x : PodD) (hk : p[k]? = some n) (hx : ps[k]? = some x) : addW ps (onU p n (k + 1)) q = wrap64 (addW ps (onU p n k) q + x.req q) := by
  rw [onU, if_pos hk]
  unfold addW
  rw [List.foldl_append]
  simp [hx]
theorem addW_off (ps : List PodD) (p : List Int) (n : Int) (k q : Nat) (hk : p[k]? ≠ some n) : addW ps (onU p n (k + 1)) q = addW ps (onU p n k) q := by
  rw [onU, if_neg hk, List.append_nil]
def oneR (q : Nat) (a : Int) : Nat → Int := fun t => if t = q then a else 0
theorem atP_rq {w : World} {A : Option Addr} {l : List PodD} (h : La.SlAt w A (cellsP l)) {n b o : Nat} {x : PodD} (hA : A = some ⟨b, o, none⟩) (hn : l[n]? = some x) : ∀ j, j < 5 → w.cell? ⟨b, o + n * 15 + 2 + j, none⟩ = some (.int .i64 (x.req j)) := fun j hj => by
  obtain ⟨b', o', hA', _, c0, c1, c2, c3, c4, c5, c6, _⟩ := atP h hn
  rw [hA] at hA'
  cases hA'
  match j, hj with
  | 0, _ => exact c2
  | 1, _ => exact c3
  | 2, _ => exact c4
  | 3, _ => exact c5
  | 4, _ => exact c6

set_option maxRecDepth 100000 in
set_option maxHeartbeats 8000000 in
theorem overCap_any (A B C P : Option Addr) (ca cb cc cp : Nat) (ns : List NodeD) (ps : List PodD) (os : List OwnD) (p : List Int) (n q : Nat) (x : NodeD) (hE : placeE ns ps os p = 0) (hn : ns[n]? = some x) (hq : q < 5) (w : World) (h : SnapAt w A B C ca cb cc ns ps os) (hp : IntsAt w P cp p) :
    Calls Tryz.prog 193 #[viewV A B C P ca cb cc cp ns ps os p, .int .i64 (n : Int), .int .i64 (q : Int)] w fun e w' => e = .returned (.tuple #[.int .i64 (max 0 (wrap64 (addW ps (onU p (n : Int) p.length) q - x.cap q))), .bool true]) ∧ Below w.heap.size w w' := by
  have hck := placeE_chk hE
  have hcb := cap_bounds hck (List.mem_of_getElem? hn)
  have hlp := h.lp
  have HPL := Lib.hid (placeE_len hE)
  have hal : (onU p (n : Int) p.length).length ≤ 1000 := by have := onU_len p (n : Int) p.length; have := HPL.out; omega
  have HV : Hid (Qu.overV (oneR q (addW ps (onU p (n : Int) p.length) q)) x.cap 5 = max 0 (wrap64 (addW ps (onU p (n : Int) p.length) q - x.cap q))) := Lib.hid (over_one x.cap q hq _ (addW_bounds (fun y hy => req_bounds hck hy q hq) _ hal) hcb)
  have HON : Hid (∀ (k : Nat) (y : PodD), p[k]? = some (n : Int) → ps[k]? = some y → addW ps (onU p (n : Int) (k + 1)) q = wrap64 (addW ps (onU p (n : Int) k) q + y.req q)) := Lib.hid (fun k y h1 h2 => addW_on ps p _ k q y h1 h2)
  have HOFF : Hid (∀ k, p[k]? ≠ some (n : Int) → addW ps (onU p (n : Int) (k + 1)) q = addW ps (onU p (n : Int) k) q) := Lib.hid (fun k h1 => addW_off ps p _ k q h1)
  have HZ0 : Hid (addW ps (onU p (n : Int) 0) q = 0) := Lib.hid rfl
  rw [← HV.out]
  obtain ⟨S, hS⟩ : ∃ S : Nat → Int, (fun k => addW ps (onU p (n : Int) k) q) = S := ⟨_, rfl⟩
  have HS0 : Hid (S 0 = 0) := Lib.hid (by rw [← hS]; exact HZ0.out)
  have HSO : Hid (∀ (k : Nat) (y : PodD), p[k]? = some (n : Int) → ps[k]? = some y → S (k + 1) = wrap64 (S k + y.req q)) := Lib.hid (fun k y h1 h2 => by rw [← hS]; exact HON.out k y h1 h2)
  have HSF : Hid (∀ k, p[k]? ≠ some (n : Int) → S (k + 1) = S k) := Lib.hid (fun k h1 => by rw [← hS]; exact HOFF.out k h1)
  rw [show addW ps (onU p (n : Int) p.length) q = S p.length by rw [← hS]]
  have n0 : (0 : Int) ≤ (n : Int) := by omega
  have n1 : (n : Int) < (ns.length : Int) := by have := (List.getElem?_eq_some_iff.1 hn).1; omega
  have q0 : (0 : Int) ≤ (q : Int) := by omega
  have q1 : (q : Int) < 5 := by omega
  obtain ⟨bn, on, hA, _⟩ := atN h.n.cells hn
  subst hA
  have B0 : Hid (Below w.heap.size w (w.alloc (.cells (viewC (some ⟨bn, on, none⟩) B C P ca cb cc cp ns ps os p) 170))) := Lib.hid (below1 w _)
  have S0 : Hid (Blk (w.alloc (.cells (viewC (some ⟨bn, on, none⟩) B C P ca cb cc cp ns ps os p) 170)) w.heap.size (viewC (some ⟨bn, on, none⟩) B C P ca cb cc cp ns ps os p) 170) := Lib.hid (Blk.new w _ _)
  have HP := Lib.hid (fun W' (hb : Below w.heap.size w W') => hp.below hb)
  have H := Lib.hid (fun W' (hb : Below w.heap.size w W') => h.below hb)
  have HN := Lib.hid hn
  have HQ := Lib.hid hq
  clear h hp hE hn hck hcb hal HV HON HOFF HZ0 hS
  go_enter Tryz.func193, Tryz.ntmps193
  obtain ⟨W, hW⟩ : ∃ W, (w.alloc (.cells (viewC (some ⟨bn, on, none⟩) B C P ca cb cc cp ns ps os p) 170)) = W := ⟨_, rfl⟩
  rw [hW] at B0 S0
  go_upto_region 1 with fail
  try rw [show (w.alloc (.cells #[.slice (some ⟨bn, on, none⟩) ns.length ca, .slice B ps.length cb, .slice C os.length cc, .slice P p.length cp] 170)) = W from hW]
  clear hW
  have HZ := Lib.hid (fun W' (hb : Below W.heap.size W W') => (show W'.cell? ⟨w.heap.size, 0, none⟩ = some (.slice (some ⟨bn, on, none⟩) ns.length ca) ∧ W'.cell? ⟨w.heap.size, 1, none⟩ = some (.slice B ps.length cb) ∧ W'.cell? ⟨w.heap.size, 3, none⟩ = some (.slice P p.length cp) from ⟨Blk.cell (S0.out.below hb S0.out.lt) 0, Blk.cell (S0.out.below hb S0.out.lt) 1, Blk.cell (S0.out.below hb S0.out.lt) 3⟩))
  have HT := Lib.hid (fun W' (hb : Below W.heap.size W W') => B0.out.trans (hb.mono B0.out.size))
  clear B0 S0
  have B1 : Hid (Below W.heap.size W (W.alloc (.cells #[.int .i64 0, .int .i64 0, .int .i64 0, .int .i64 0, .int .i64 0] 32))) := Lib.hid (below1 W _)
  have R1 : Hid (Qu.RowAt (W.alloc (.cells #[.int .i64 0, .int .i64 0, .int .i64 0, .int .i64 0, .int .i64 0] 32)) W.heap.size (oneR q 0)) := Lib.hid (by
    have := Qu.RowAt.new W (fun _ => 0)
    have e : oneR q 0 = fun _ => 0 := by
      funext t
      unfold oneR
      split <;> rfl
    rw [e]
    exact this)
  go_upto_region 2 with fail
  try change Code.wp _ _ _ _ (W.alloc (.cells #[.int .i64 0, .int .i64 0, .int .i64 0, .int .i64 0, .int .i64 0] 32))
  generalize (W.alloc (.cells #[.int .i64 0, .int .i64 0, .int .i64 0, .int .i64 0, .int .i64 0] 32)) = V at B1 R1 ⊢
  have HVb : Hid (W.heap.size ≤ W.heap.size) := Lib.hid (Nat.le_refl _)
  obtain ⟨z0, z1, z3⟩ := HZ.out _ B1.out
  go_wp2_with fail
  clear z0 z1 z3
  go_loopw [14] (fun j wr => ∃ k : Nat, k ≤ p.length ∧ j = .int .i64 (k : Int) ∧ Qu.RowAt wr W.heap.size (oneR q (S k)) ∧ Below W.heap.size W wr) (fun j _ => p.length - (intOf j).toNat)
  case atStart => exact ⟨0, by omega, rfl, by rw [HS0.out]; exact R1.out, B1.out⟩
  case round =>
    clear R1 B1
    obtain ⟨k, hk, rfl, hr, hb⟩ := hrel
    have HR := Lib.hid hr
    have HB := Lib.hid hb
    clear hr hb
    by_cases hlt : k < p.length
    case neg =>
      obtain rfl : k = p.length := by omega
      have HR2 : Hid (Qu.RowAt wr.drew W.heap.size (oneR q (S p.length))) := Lib.hid (show Qu.RowAt wr _ _ from HR.out)
      have HB2 : Hid (Below W.heap.size W wr.drew) := Lib.hid HB.out.drew
      obtain ⟨z0, z1, z3⟩ := HZ.out _ HB2.out
      obtain ⟨b', o', e1, _, d0, d1, d2, d3, d4, d5, _⟩ := atN (H.out _ (HT.out _ HB2.out)).n.cells HN.out
      cases e1
      have r0 := HR2.out.cell (k := 0) (by omega)
      have r1 := HR2.out.cell (k := 1) (by omega)
      have r2 := HR2.out.cell (k := 2) (by omega)
      have r3 := HR2.out.cell (k := 3) (by omega)
      have r4 := HR2.out.cell (k := 4) (by omega)
      have KO := Lib.hid (Qu.over_any (oneR q (S p.length)) x.cap wr.drew)
      clear HR2 HR HB d0
      go_upto_region 8 with fail
      go_still_tail 8, (by kernel_rfl)
      change wpList _ _ _ _ _ wr.drew
      go_wp2_with fail
      refine (KO.out).mono ?_
      rintro e w2 ⟨rfl, hb2⟩
      have B2 := Lib.hid (HT.out _ (HB2.out.trans (hb2.mono HB2.out.size)))
      clear hb2
      go_wp2
      go_ret2
      exact ⟨rfl, B2.out⟩
    obtain ⟨v, hv⟩ : ∃ v, p[k]? = some v := ⟨p[k], List.getElem?_eq_getElem hlt⟩
    obtain ⟨y, hy⟩ : ∃ y, ps[k]? = some y := ⟨ps[k]'(by have := HPL.out; omega), List.getElem?_eq_getElem _⟩
    obtain ⟨bp, op, hAp, _, pk⟩ := atI (HP.out _ (HT.out _ HB.out)).cells hv
    subst hAp
    have k0 : (0 : Int) ≤ (k : Int) := by omega
    have k1 : (k : Int) < (p.length : Int) := by omega
    have k2 : (k : Int) < (ps.length : Int) := by have := HPL.out; omega
    by_cases hvn : v = (n : Int)
    case neg =>
      have HE : Hid (S (k + 1) = S k) := Lib.hid (HSF.out k (by rw [hv]; intro e; exact hvn (Option.some.inj e)))
      have hvb : (v == (n : Int)) = false := by simpa using hvn
      have hvd : decide (v = (n : Int)) = false := decide_eq_false hvn
      clear hv hy
      go_wp2_with fail
      go_roundw
      case rel => exact ⟨k + 1, by omega, by go_num, by rw [HE.out]; exact HR.out, HB.out⟩
      case measure => simp [intOf]; omega
    subst hvn
    have HE : Hid (S (k + 1) = wrap64 (S k + y.req q)) := Lib.hid (HSO.out k y hv hy)
    obtain ⟨b, o, hBq, _⟩ := atP (H.out _ (HT.out _ HB.out)).p.cells hy
    have hpr := atP_rq (H.out _ (HT.out _ HB.out)).p.cells hBq hy q HQ.out
    subst hBq
    have hrc := HR.out.cell HQ.out
    clear hv hy
    go_upto_region 6 with fail
    have HB2 : Hid (Below W.heap.size W wr.drew) := Lib.hid HB.out.drew
    obtain ⟨z0, z1, z3⟩ := HZ.out _ HB2.out
    have hpr2 : wr.drew.cell? ⟨b, o + k * 15 + 2 + q, none⟩ = some (.int .i64 (y.req q)) := hpr
    have hrc2 : wr.drew.cell? ⟨W.heap.size, q, none⟩ = some (.int .i64 (oneR q (S k) q)) := hrc
    have hfr := HR.out.free q
    have hsz := HB.out.size
    have hS : Hid (Qu.RowAt (wr.setCell ⟨W.heap.size, q, none⟩ (.int .i64 (wrap64 (oneR q (S k) q + y.req q)))).drew W.heap.size (oneR q (S (k + 1)))) := Lib.hid (by
      have h1 := Qu.RowAt.set (show Qu.RowAt wr W.heap.size (oneR q (S k)) from HR.out) HQ.out (wrap64 (oneR q (S k) q + y.req q))
      have e : Qu.upd (oneR q (S k)) q (wrap64 (oneR q (S k) q + y.req q)) = oneR q (S (k + 1)) := by
        funext t
        unfold Qu.upd oneR
        rw [HE.out, if_pos rfl]
        by_cases ht : t = q
        · rw [if_pos ht, if_pos ht]
        · rw [if_neg ht, if_neg ht, if_neg ht]
      rw [← e]
      exact (show Qu.RowAt _ _ _ from h1))
    have hB3 : Hid (Below W.heap.size W (wr.setCell ⟨W.heap.size, q, none⟩ (.int .i64 (wrap64 (oneR q (S k) q + y.req q)))).drew) := Lib.hid (HB.out.setCell (p := ⟨W.heap.size, q, none⟩) (Nat.le_refl _) _).drew
    have hzz : oneR q (S k) q = S k := if_pos rfl
    generalize oneR q (S k) q = sk at hrc2 hS hB3
    clear hpr hrc pk HR HB
    go_still_tail 14, (by kernel_rfl)
    change wpList _ _ _ _ _ wr.drew
    go_wp2_with fail
    go_roundw
    case rel => exact ⟨k + 1, by omega, by go_num, hS.out, hB3.out⟩
    case measure => simp [intOf]; omega
end Go.Proofs.YtiiheajieegdkaaGreat

namespace Go.Proofs.YtiiheajieegdkaaGreat
open Go.RowKit Go.Maps

theorem which_row : (185 : TypeId) < Tryz.prog.types.size := of_decide_eq_true (by kernel_rfl)
theorem which_laid : laidOutB Tryz.prog = true := by kernel_rfl
theorem which_wide : (match Tryz.prog.underlying 185 with | some (.array _ _) | some (.struct _) => true | _ => false) = true := by rw [Tryz.underlying185]
set_option maxRecDepth 100000 in
theorem which_law : Keyed Tryz.prog 185 := Keyed.of_law (deep_law_laid which_laid (m := 2) (by omega) which_row (by kernel_rfl) which_wide)
theorem which_type : Tryz.prog.keyType 185 = true := by kernel_rfl
theorem which_cells : Tryz.prog.cellsOf 185 = 3 := by kernel_rfl
theorem int_cells1 : Tryz.prog.cellsOf 3 = 1 := by kernel_rfl
theorem which_lits (n : Nat) (cs : List Value) : Tryz.prog.keyLits (n + 1) 185 cs = (match Tryz.prog.underlying 185, cs with | some (.struct fs), cs => if cs.length = Tryz.prog.cellsOf 185 ∧ fs.all (·.name != "_") = true then (fs.toList.mapM fun f => Tryz.prog.keyLits n f.type ((cs.drop f.offset).take (Tryz.prog.cellsOf f.type))).map List.flatten else none | _, _ => none) := by
  rw [Tryz.underlying185]
  conv => lhs; unfold Program.keyLits
  rw [Tryz.underlying185]
theorem int_lits (n : Nat) (a : Int) (h : (Lit.int .i64 a).wf = true) : Tryz.prog.keyLits (n + 1) 3 [.int .i64 a] = some [.int .i64 a] := by
  unfold Program.keyLits
  rw [Tryz.underlying3]
  simp [h]

/-- What a clause is about, as a value, as a key's datum. -/
def keyW (a b c : Int) : Value := .agg #[.int .i64 a, .int .i64 b, .int .i64 c]
def litW (a b c : Int) : Lit := .string (keyBytes [.int .i64 a, .int .i64 b, .int .i64 c])
def KeyOk (a b c : Int) : Prop := (0 ≤ a ∧ a ≤ 1000000) ∧ (0 ≤ b ∧ b ≤ 1000000) ∧ (0 ≤ c ∧ c ≤ 1000000)
theorem keyOf_w {a b c : Int} (h : KeyOk a b c) : keyOf Tryz.prog 185 (keyW a b c) = some (litW a b c) := by
  obtain ⟨⟨a0, a1⟩, ⟨b0, b1⟩, c0, c1⟩ := h
  have ha : (Lit.int .i64 a).wf = true := WalkArith.wf_i64 (by omega)
  have hb : (Lit.int .i64 b).wf = true := WalkArith.wf_i64 (by omega)
  have hc : (Lit.int .i64 c).wf = true := WalkArith.wf_i64 (by omega)
  clear a0 a1 b0 b1 c0 c1
  obtain ⟨n, hn⟩ : ∃ n, Tryz.prog.types.size + 1 = n + 1 + 1 := by
    obtain ⟨m, hm⟩ := Nat.exists_eq_succ_of_ne_zero (Nat.ne_of_gt (Nat.lt_of_le_of_lt (Nat.zero_le _) which_row))
    exact ⟨m, by rw [hm]⟩
  have hl : Tryz.prog.keyLits (n + 1 + 1) 185 [.int .i64 a, .int .i64 b, .int .i64 c] = some [.int .i64 a, .int .i64 b, .int .i64 c] := by
    rw [which_lits, Tryz.underlying185]
    simp [which_cells, int_cells1, int_lits n _ ha, int_lits n _ hb, int_lits n _ hc]
  have hf : (Value.agg #[.int .i64 a, .int .i64 b, .int .i64 c]).formed Tryz.prog 185 = true := by simp [Value.formed, Tryz.underlying185, which_cells]
  unfold keyOf keyW
  rw [Tryz.underlying185]
  dsimp only
  rw [which_type, hf, hn]
  show (if (true && true) = true then Option.map (fun ls => Lit.string (keyBytes ls)) (Tryz.prog.keyLits (n + 1 + 1) 185 [.int .i64 a, .int .i64 b, .int .i64 c]) else none) = _
  rw [hl]
  rfl
theorem litW_key {a b c : Int} (h : KeyOk a b c) : WideAt.IsKeyLit (litW a b c) := which_law.key (keyOf_w h)
theorem litW_inj {a b c a' b' c' : Int} (h : KeyOk a b c) (h' : KeyOk a' b' c') (e : litW a b c = litW a' b' c') : a = a' ∧ b = b' ∧ c = c' := by
  have h1 := keyOf_w h
  have h2 := keyOf_w h'
  rw [e] at h1
  have := which_law.inj h1 h2
  unfold keyW at this
  simpa using this
/-- How a number in the map reads. -/
def intE (v : Value) : Option (DataW Unit × List MemPlace) := match v with
  | .int .i64 a => some (.lit (.int .i64 a), [])
  | _ => none
theorem intE_inv {v : Value} {y : DataW Unit × List MemPlace} (h : intE v = some y) : ∃ c, v = .int .i64 c ∧ y = (.lit (.int .i64 c), []) := by
  unfold intE at h
  split at h
  · rename_i a
    exact ⟨a, rfl, (Option.some.inj h).symm⟩
  · cases h

def OkC (c : ClT) : Prop := KeyOk c.1 c.2.1 c.2.2.1
def litC (c : ClT) : Lit := litW c.1 c.2.1 c.2.2.1
def putW (D : DataW Unit) (c : ClT) : DataW Unit := D.put (litC c) (.lit (.int .i64 c.2.2.2))
/-- The map of a list of clauses. -/
def mapW (l : List ClT) : DataW Unit := l.foldl putW (.map [])
theorem mapW_snoc (l : List ClT) (c : ClT) : mapW (l ++ [c]) = putW (mapW l) c := by simp [mapW, List.foldl_append]
theorem findC_cons (c : ClT) (l : List ClT) (kd a b : Int) : findC (c :: l) kd a b = if isC kd a b c = true then some c.2.2.2 else findC l kd a b := by
  unfold findC
  rw [List.find?_cons]
  cases isC kd a b c <;> rfl
theorem findC_rise {c : ClT} {l : List ClT} (h : ∀ d ∈ l, Rise3 c d) {kd a b : Int} (hi : isC kd a b c = true) : findC l kd a b = none := by
  refine findC_no fun j z hz => ?_
  have hr := h z (List.mem_of_getElem? hz)
  unfold isC at hi ⊢
  have hi := of_decide_eq_true hi
  refine decide_eq_false ?_
  rintro ⟨e1, e2, e3⟩
  unfold Rise3 at hr
  omega
theorem fold_at {kd a b : Int} (hk : KeyOk kd a b) (z : DataW Unit) : ∀ (l : List ClT) (D : DataW Unit), IsMap D → (∀ c ∈ l, OkC c) → l.Pairwise Rise3 → (l.foldl putW D).atKey (litW kd a b) z = match findC l kd a b with
      | some y => .lit (.int .i64 y)
      | none => D.atKey (litW kd a b) z
  | [], _, _, _, _ => rfl
  | c :: t, D, hD, ho, hr => by
    obtain ⟨hr1, hr2⟩ := List.pairwise_cons.1 hr
    rw [List.foldl_cons, fold_at hk z t (putW D c) (hD.put _ _) (fun x hx => ho x (by simp [hx])) hr2, findC_cons]
    by_cases hi : isC kd a b c = true
    · rw [if_pos hi, findC_rise hr1 hi]
      dsimp only
      have hi := of_decide_eq_true hi
      obtain ⟨e1, e2, e3⟩ := hi
      unfold putW litC
      rw [e1, e2, e3]
      exact atKey_put_same hD (litW_key hk) _ _
    · rw [if_neg hi]
      cases findC t kd a b with
      | some y => rfl
      | none =>
        dsimp only
        unfold putW
        refine atKey_put_other (fun e => hi ?_) _ _
        exact decide_eq_true (by
          obtain ⟨h1, h2, h3⟩ := litW_inj hk (ho c (by simp)) e
          exact ⟨h1.symm, h2.symm, h3.symm⟩)
theorem mapW_at {kd a b : Int} (hk : KeyOk kd a b) {l : List ClT} (ho : ∀ c ∈ l, OkC c) (hr : l.Pairwise Rise3) : (mapW l).atKey (litW kd a b) (.lit (.int .i64 0)) = .lit (.int .i64 ((findC l kd a b).getD 0)) := by
  unfold mapW
  rw [fold_at hk _ l _ isMap_empty ho hr]
  cases findC l kd a b <;> rfl
theorem fold_has_keep {k : Lit} (hk : WideAt.IsKeyLit k) : ∀ (l : List ClT) (D : DataW Unit), IsMap D → (has D k = true ∨ ∃ c ∈ l, k = litC c) → has (l.foldl putW D) k = true
  | [], _, _, h => by
    rcases h with h | ⟨c, hc, _⟩
    · exact h
    · cases hc
  | c :: t, D, hD, h => by
    rw [List.foldl_cons]
    refine fold_has_keep hk t _ (hD.put _ _) ?_
    by_cases e : k = litC c
    · left
      unfold putW
      rw [← e]
      exact has_put_same hD hk _
    · rcases h with h | ⟨d, hd, e'⟩
      · left
        unfold putW
        rw [has_put_other e]
        exact h
      · rcases List.mem_cons.1 hd with rfl | hd
        · exact absurd e' e
        · exact .inr ⟨d, hd, e'⟩
theorem mapW_has {l : List ClT} {c : ClT} (hc : c ∈ l) (ho : OkC c) : has (mapW l) (litC c) = true := fold_has_keep (litW_key ho) l _ isMap_empty (.inr ⟨c, hc, rfl⟩)
theorem mapW_size {l : List ClT} (ho : ∀ c ∈ l, OkC c) : size (mapW l) = 0 ↔ l = [] := by
  constructor
  · intro h
    cases l with
    | nil => rfl
    | cons c t =>
      have h1 := mapW_has (l := c :: t) (c := c) (by simp) (ho c (by simp))
      generalize mapW (c :: t) = D at h h1
      cases D <;> try cases h1
      rename_i es
      have h2 : es = [] := List.length_eq_zero_iff.1 h
      subst h2
      cases h1
  · rintro rfl
    rfl

/-- What each clause is about may be a key. -/
theorem all8_keys {ns : List NodeD} {ps : List PodD} {os : List OwnD} {p : List Int} (hn : ns.length ≤ 1000) (ho : os.length ≤ 1000) (hp : p.length ≤ 1000) : ∀ c ∈ all8 ns ps os p, OkC c := by
  have hB : ∀ c ∈ capsU ns ps p ns.length, 0 ≤ c.2.2.1 ∧ c.2.2.1 ≤ 5 := by
    have : ∀ k, ∀ c ∈ capsU ns ps p k, 0 ≤ c.2.2.1 ∧ c.2.2.1 ≤ 5 := by
      intro k
      induction k with
      | zero => intro c hc; simp [capsU] at hc
      | succ k ih =>
        intro c hc
        rw [capsU, List.mem_append] at hc
        rcases hc with hc | hc
        · exact ih c hc
        · split at hc
          · obtain ⟨q, hq, rfl⟩ := List.mem_map.1 hc
            have := List.mem_range.1 hq
            show (0 : Int) ≤ (q : Int) ∧ (q : Int) ≤ 5
            omega
          · simp at hc
    exact this _
  have hP : ∀ kind k, ∀ c ∈ podsU ns ps os p kind k, c.2.2.1 = 0 := by
    intro kind k
    induction k with
    | zero => intro c hc; simp [podsU] at hc
    | succ k ih =>
      intro c hc
      rw [podsU, List.mem_append] at hc
      rcases hc with hc | hc
      · exact ih c hc
      · unfold podR at hc
        split at hc
        · simp at hc
          subst hc
          rfl
        · simp at hc
  have hK : ∀ k, ∀ c ∈ kindsU ns ps os p k, c.2.2.1 = 0 := by
    intro k
    induction k with
    | zero => intro c hc; simp [kindsU] at hc
    | succ k ih =>
      intro c hc
      rw [kindsU, List.mem_append] at hc
      rcases hc with hc | hc
      · exact ih c hc
      · exact hP _ _ c hc
  have hS : ∀ k, ∀ c ∈ spreadsU ns ps os p k, c.2.2.1 = 0 := by
    intro k
    induction k with
    | zero => intro c hc; simp [spreadsU] at hc
    | succ k ih =>
      intro c hc
      rw [spreadsU, List.mem_append] at hc
      rcases hc with hc | hc
      · exact ih c hc
      · unfold spreadR at hc
        split at hc
        · split at hc
          · simp at hc
          · simp at hc
            subst hc
            rfl
        · simp at hc
  have hM : ∀ k, ∀ c ∈ minsU ns ps os p k, c.2.2.1 = 0 := by
    intro k
    induction k with
    | zero => intro c hc; simp [minsU] at hc
    | succ k ih =>
      intro c hc
      rw [minsU, List.mem_append] at hc
      rcases hc with hc | hc
      · exact ih c hc
      · unfold minR at hc
        split at hc
        · simp at hc
          subst hc
          rfl
        · simp at hc
  intro c hc
  unfold OkC KeyOk
  unfold all8 at hc
  split at hc
  · unfold allU at hc
    simp only [List.mem_append] at hc
    rcases hc with ((hc | hc) | hc) | hc
    · have := caps_kind ns ps p _ c hc
      have := hB c hc
      omega
    · have := kinds_kind ns ps os p _ c hc
      have := hK _ c hc
      omega
    · have := spreads_kind ns ps os p _ c hc
      have := hS _ c hc
      omega
    · have := mins_kind ns ps os p _ c hc
      have := hM _ c hc
      omega
  · simp at hc
theorem rise_filter {l : List ClT} (h : l.Pairwise Rise3) (f : ClT → Bool) : (l.filter f).Pairwise Rise3 := h.filter f
/-- Of those that are broken alone the same is found. -/
theorem find_broken {kd a b : Int} : ∀ {l : List ClT}, l.Pairwise Rise3 → (∀ c ∈ l, 0 ≤ c.2.2.2) → (findC (l.filter brokC) kd a b).getD 0 = (findC l kd a b).getD 0
  | [], _, _ => rfl
  | c :: t, hr, hg => by
    obtain ⟨hr1, hr2⟩ := List.pairwise_cons.1 hr
    have ih := find_broken (kd := kd) (a := a) (b := b) hr2 (fun x hx => hg x (by simp [hx]))
    rw [findC_cons]
    by_cases hb : brokC c = true
    · rw [List.filter_cons_of_pos hb, findC_cons]
      split
      · rfl
      · exact ih
    · rw [List.filter_cons_of_neg hb]
      by_cases hi : isC kd a b c = true
      · rw [if_pos hi, ih, findC_rise hr1 hi]
        have h0 := hg c (by simp)
        unfold brokC at hb
        have hb : ¬ 0 < c.2.2.2 := fun h => hb (decide_eq_true h)
        show (0 : Int) = c.2.2.2
        omega
      · rw [if_neg hi]
        exact ih
/-- By how much that clause is broken in a list; nothing, where it is not there. -/
def was9 (L : List ClT) (c : ClT) : Int := (findC L c.1 c.2.1 c.2.2.1).getD 0
def worC (L : List ClT) (c : ClT) : Bool := decide (was9 L c < c.2.2.2)
/-- What is worse in q than in p. -/
def worseU (ns : List NodeD) (ps : List PodD) (os : List OwnD) (p q : List Int) : List ClT := (all8 ns ps os q).filter (worC (all8 ns ps os p))
def worseE (ns : List NodeD) (ps : List PodD) (os : List OwnD) (p q : List Int) : Int := if placeE ns ps os p = 0 then placeE ns ps os q else placeE ns ps os p
/-- What Worse tells. -/
def worseF (ns : List NodeD) (ps : List PodD) (os : List OwnD) (p q : List Int) : List ClT := if placeE ns ps os p = 0 then worseU ns ps os p q else []
theorem worC_broken {L : List ClT} (hr : L.Pairwise Rise3) (hg : ∀ c ∈ L, 0 ≤ c.2.2.2) (c : ClT) : decide ((findC (L.filter brokC) c.1 c.2.1 c.2.2.1).getD 0 < c.2.2.2) = worC L c := by
  unfold worC was9
  rw [find_broken hr hg]
theorem all8_fine {w : World} {A B C : Option Addr} {ca cb cc : Nat} {ns : List NodeD} {ps : List PodD} {os : List OwnD} (h : SnapAt w A B C ca cb cc ns ps os) (p : List Int) : (∀ c ∈ all8 ns ps os p, OkC c) ∧ (all8 ns ps os p).length ≤ 12000 := by
  by_cases hE : placeE ns ps os p = 0
  · have hp := placeE_len hE
    have h1 := h.ln
    have h2 := h.lp
    have h3 := h.lo
    exact ⟨all8_keys h1 h3 (by omega), Nat.le_trans (all8_len ns ps os p) (by omega)⟩
  · unfold all8
    rw [if_neg hE]
    simp
end Go.Proofs.YtiiheajieegdkaaGreat

namespace Go.Proofs.YtiiheajieegdkaaGreat
open Go.RowKit

theorem names_good {l : List (List UInt8)} (h : namesB l = true) : (∀ x ∈ l, x ≠ []) ∧ l.Pairwise (fun a b => a ≠ b) := by
  unfold namesB at h
  have hk : ∀ (k : Nat) (x : List UInt8), l[k]? = some x → La.okAt La.nameB ltS l k x = true := by
    intro k x hx
    have hlt := (List.getElem?_eq_some_iff.1 hx).1
    have h2 : La.chkK La.nameB ltS l (k + 1) = true := by
      cases hq : La.chkK La.nameB ltS l (k + 1) with
      | true => rfl
      | false =>
        rw [La.chkK_false hq (by omega)] at h
        cases h
    rw [La.chkK, hx] at h2
    simp only [Bool.and_eq_true] at h2
    exact h2.2
  have hs : ∀ (k : Nat) (x y : List UInt8), l[k]? = some x → l[k + 1]? = some y → Ahead x y := by
    intro k x y hx hy
    have h3 := hk _ _ hy
    unfold La.okAt at h3
    have h4 : La.nameB y = true ∧ ltS x y = true := by simpa [hx] using h3
    have h5 := h4.2
    unfold ltS at h5
    simp only [Bool.not_eq_true', Bool.or_eq_false_iff, beq_eq_false_iff_ne] at h5
    exact ⟨less_not h5.1, fun e => h5.2 e.symm⟩
  have ha : ∀ (d k : Nat) (x y : List UInt8), l[k]? = some x → l[k + 1 + d]? = some y → Ahead x y := by
    intro d
    induction d with
    | zero => exact fun k x y hx hy => hs k x y hx hy
    | succ d ih =>
      intro k x y hx hy
      have hlt := (List.getElem?_eq_some_iff.1 hy).1
      obtain ⟨z, hz⟩ : ∃ z, l[k + 1 + d]? = some z := ⟨l[k + 1 + d]'(by omega), List.getElem?_eq_getElem _⟩
      exact (ih k x z hx hz).trans (hs _ _ _ hz hy)
  constructor
  · intro x hx
    obtain ⟨k, hk2⟩ := List.mem_iff_getElem?.1 hx
    have h3 := hk _ _ hk2
    unfold La.okAt at h3
    simp only [Bool.and_eq_true] at h3
    have h4 := h3.1
    unfold La.nameB at h4
    simp only [Bool.and_eq_true, decide_eq_true_eq] at h4
    exact h4.1
  · rw [List.pairwise_iff_getElem]
    intro i j hi hj hij
    refine (ha (j - i - 1) i l[i] l[j] (List.getElem?_eq_getElem hi) ?_).2
    rw [show i + 1 + (j - i - 1) = j by omega]
    exact List.getElem?_eq_getElem hj
theorem own_names {ns : List NodeD} {ps : List PodD} {os : List OwnD} (h : checkS ns ps os = 0) : (∀ o ∈ os, o.name ≠ []) ∧ os.Pairwise (fun a b => a.name ≠ b.name) := by
  unfold checkS at h
  split at h
  · rename_i hc
    unfold clusB at hc
    simp only [Bool.and_eq_true, List.all_eq_true] at hc
    obtain ⟨h1, h2⟩ := names_good hc.1.1.1.2
    exact ⟨fun o ho => h1 _ (List.mem_map.2 ⟨o, ho, rfl⟩), (List.pairwise_map.1 h2)⟩
  · cases h
def singleP (name : List UInt8) (o : OwnD) : Bool := o.single && decide (o.name = name)
theorem single_is {os : List OwnD} (hp : os.Pairwise (fun a b => a.name ≠ b.name)) (name : List UInt8) : os.any (singleP name) = singleO os name := by
  unfold singleO
  induction os with
  | nil => rfl
  | cons a t ih =>
    obtain ⟨h1, h2⟩ := List.pairwise_cons.1 hp
    rw [List.any_cons]
    by_cases he : a.name = name
    · rw [List.find?_cons_of_pos (by simpa using he)]
      have : t.any (singleP name) = false := by
        rw [List.any_eq_false]
        intro z hz
        have : z.name ≠ name := fun e => h1 z hz (he.trans e.symm)
        simp [singleP, this]
      rw [this]
      simp [singleP, he]
    · rw [List.find?_cons_of_neg (by simpa using he), ih h2]
      simp [singleP, he]
theorem single_none {os : List OwnD} (hn : ∀ o ∈ os, o.name ≠ []) : os.any (singleP []) = false := by
  rw [List.any_eq_false]
  intro z hz
  simp [singleP, hn z hz]

set_option maxHeartbeats 1000000 in
theorem isS (x : OwnD) (name : List UInt8) (q : Nat) (w : World) (hq : w.cell? ⟨q, 0, none⟩ = some (strV name)) :
    Calls Tryz.prog 273 #[valO x, .pointer (some ⟨q, 0, none⟩)] w fun e w' => e = .returned (.bool (singleP name x)) ∧ Below w.heap.size w w' := by
  have hql : q < w.heap.size := World.block_lt_of_cell? w _ hq
  have hq1 : (w.alloc (.cells (cellsO [x]).toArray 36)).cell? ⟨q, 0, none⟩ = some (strV name) := ((below1 w (.cells (cellsO [x]).toArray 36)).cell (p := ⟨q, 0, none⟩) hql).trans hq
  have hne : ¬ w.heap.size = q := by omega
  have hne2 : ¬ q = w.heap.size := by omega
  cases hs : x.single with
  | false =>
    have HE : Hid (singleP name x = false) := Lib.hid (by simp [singleP, hs])
    go_enter Tryz.func273, Tryz.ntmps273
    go_wp2
    go_ret
    exact ⟨La.retB HE.out.symm, (Below.refl _ _).alloc (Nat.le_refl _) _⟩
  | true =>
    by_cases he : x.name = name
    · have HE : Hid (singleP name x = true) := Lib.hid (by simp [singleP, hs, he])
      have hb : (x.name == name) = true := by simpa using he
      clear he
      go_enter Tryz.func273, Tryz.ntmps273
      go_wp2
      go_ret
      exact ⟨La.retB HE.out.symm, (Below.refl _ _).alloc (Nat.le_refl _) _⟩
    · have HE : Hid (singleP name x = false) := Lib.hid (by simp [singleP, hs, he])
      have hb : (x.name == name) = false := by simpa using he
      clear he
      go_enter Tryz.func273, Tryz.ntmps273
      go_wp2
      go_ret
      exact ⟨La.retB HE.out.symm, (Below.refl _ _).alloc (Nat.le_refl _) _⟩

set_option maxRecDepth 100000 in
set_option maxHeartbeats 2000000 in
theorem indexS (A : Option Addr) (c q : Nat) (l : List OwnD) (name : List UInt8) (w : World) (hl : l.length ≤ 1000) (hs : La.SlAt w A (cellsO l)) (hq : w.cell? ⟨q, 0, none⟩ = some (strV name)) :
    Calls Tryz.prog 264 #[.slice A l.length c, .func (Fn.func 273) #[] #[.pointer (some ⟨q, 0, none⟩)]] w fun e w' => (∃ r : Int, e = .returned (.int .i64 r) ∧ -1 ≤ r ∧ decide (0 ≤ r) = l.any (singleP name)) ∧ Below w.heap.size w w' := by
  have HS := Lib.hid hs
  have HQ := Lib.hid hq
  have hql : q < w.heap.size := World.block_lt_of_cell? w _ hq
  have hg : ∀ (args : Array Value) (w : World), (callFunc 273 args).run Tryz.prog w = .ok (.enter 273 args) w := fun _ _ => by kernel_rfl
  obtain ⟨R, hR⟩ : ∃ R, l.any (singleP name) = R := ⟨_, rfl⟩
  have HR := Lib.hid hR
  rw [hR]
  clear hs hq hR
  go_enter Tryz.func264, Tryz.ntmps264
  go_wp2_with fail
  go_loopw [8] (fun i wr => ∃ k : Nat, k ≤ l.length ∧ i = .int .i64 k ∧ (∀ (j : Nat) (x : OwnD), j < k → l[j]? = some x → singleP name x = false) ∧ Below w.heap.size w wr) (fun i _ => l.length - (intOf i).toNat)
  case atStart => exact ⟨0, by omega, rfl, fun j x h => by omega, Below.refl _ _⟩
  case round =>
    obtain ⟨k, hk, rfl, hn, hb⟩ := hrel
    have HN := Lib.hid hn
    have HB := Lib.hid hb
    clear hn hb
    by_cases hlt : k < l.length
    · obtain ⟨x, hx⟩ : ∃ x, l[k]? = some x := ⟨l[k], List.getElem?_eq_getElem hlt⟩
      obtain ⟨b, o, hA, hbl, c0, c1, c2, c3, c4⟩ := atO (HS.out.below HB.out) hx
      subst hA
      have HX := Lib.hid hx
      have k0 : (0 : Int) ≤ (k : Int) := by omega
      have k1 : (k : Int) < (l.length : Int) := by omega
      have KI := Lib.hid (fun w' (hb : Below wr.heap.size wr w') => isS x name q w' ((hb.cell (p := ⟨q, 0, none⟩) (by show q < wr.heap.size; have := HB.out.size; omega)).trans ((HB.out.cell (p := ⟨q, 0, none⟩) hql).trans HQ.out)))
      cases hd : singleP name x with
      | true =>
        have HE : Hid (true = R) := Lib.hid (by rw [← HR.out]; exact (List.any_eq_true.2 ⟨x, List.mem_of_getElem? hx, hd⟩).symm)
        rw [hd] at KI
        clear hx hd
        go_wp2_with fail
        refine (KI.out _ (by first | exact Below.refl _ _ | exact (Below.refl _ _).drew)).mono ?_
        rintro e w3 ⟨rfl, hb3⟩
        have B3 := Lib.hid (HB.out.trans (hb3.mono HB.out.size))
        clear hb3 KI c0 c1 c2 c3 c4
        go_wp2
        go_ret
        exact ⟨⟨(k : Int), rfl, by omega, by rw [← HE.out]; exact decide_eq_true k0⟩, B3.out⟩
      | false =>
        have He := Lib.hid hd
        rw [hd] at KI
        clear hx hd
        go_wp2_with fail
        refine (KI.out _ (by first | exact Below.refl _ _ | exact (Below.refl _ _).drew)).mono ?_
        rintro e w3 ⟨rfl, hb3⟩
        have B3 := Lib.hid (HB.out.trans (hb3.mono HB.out.size))
        clear hb3 KI c0 c1 c2 c3 c4
        go_wp2
        go_roundw
        case rel =>
          refine ⟨k + 1, by omega, by go_num, fun j y hj hy => ?_, B3.out⟩
          by_cases hjk : j = k
          · subst hjk
            rw [HX.out] at hy
            cases hy
            exact He.out
          · exact HN.out j y (by omega) hy
        case measure => simp [intOf]; omega
    · obtain rfl : k = l.length := by omega
      have HE : Hid (false = R) := Lib.hid (by
        rw [← HR.out]
        refine (List.any_eq_false.2 fun z hz => ?_).symm
        obtain ⟨j, hj⟩ := List.mem_iff_getElem?.1 hz
        rw [HN.out j z (List.getElem?_eq_some_iff.1 hj).1 hj]
        simp)
      go_wp2
      go_ret
      exact ⟨⟨-1, rfl, by omega, by rw [← HE.out]; rfl⟩, HB.out⟩

set_option maxHeartbeats 1000000 in
theorem containsS (A : Option Addr) (c q : Nat) (l : List OwnD) (name : List UInt8) (w : World) (hl : l.length ≤ 1000) (hs : La.SlAt w A (cellsO l)) (hq : w.cell? ⟨q, 0, none⟩ = some (strV name)) :
    Calls Tryz.prog 272 #[.slice A l.length c, .func (Fn.func 273) #[] #[.pointer (some ⟨q, 0, none⟩)]] w fun e w' => e = .returned (.bool (l.any (singleP name))) ∧ Below w.heap.size w w' := by
  have K := Lib.hid (indexS A c q l name w hl hs hq)
  clear hs hq
  generalize l.any (singleP name) = R at K ⊢
  go_enter Tryz.func272, Tryz.ntmps272
  go_wp2_with fail
  refine K.out.mono ?_
  rintro e w1 ⟨⟨i, rfl, hi1, hi⟩, hb⟩
  have HB := Lib.hid hb
  have Hi := Lib.hid hi
  clear hb hi
  go_wp2
  go_ret
  exact ⟨La.retB (by rw [← Hi.out]), HB.out⟩

set_option maxRecDepth 100000 in
set_option maxHeartbeats 2000000 in
theorem isSingle_any (A B C P : Option Addr) (ca cb cc cp : Nat) (ns : List NodeD) (ps : List PodD) (os : List OwnD) (p : List Int) (name : List UInt8) (w : World) (h : SnapAt w A B C ca cb cc ns ps os) :
    Calls Tryz.prog 241 #[viewV A B C P ca cb cc cp ns ps os p, strV name] w fun e w' => e = .returned (.bool (os.any (singleP name))) ∧ Below w.heap.size w w' := by
  have hlo := h.lo
  have B0 : Hid (Below w.heap.size w ((w.alloc (.cells (viewC A B C P ca cb cc cp ns ps os p) 170)).alloc (.cells #[strV name] 9))) := Lib.hid (Qu.below2 w _ _)
  have S0 : Hid (Blk ((w.alloc (.cells (viewC A B C P ca cb cc cp ns ps os p) 170)).alloc (.cells #[strV name] 9)) w.heap.size (viewC A B C P ca cb cc cp ns ps os p) 170) := Lib.hid (Blk.alloc (Blk.new w _ _) _)
  have S1 : Hid (Blk ((w.alloc (.cells (viewC A B C P ca cb cc cp ns ps os p) 170)).alloc (.cells #[strV name] 9)) (w.heap.size + 1) #[strV name] 9) := Lib.hid (blk2 w _ _ _)
  have K := Lib.hid (containsS C cc (w.heap.size + 1) os name _ hlo (h.below B0.out).o (Blk.cell S1.out 0))
  generalize os.any (singleP name) = R at K ⊢
  clear h
  go_enter Tryz.func241, Tryz.ntmps241
  go_upto_region 1 with fail
  change Code.wp _ _ _ _ ((w.alloc (.cells (viewC A B C P ca cb cc cp ns ps os p) 170)).alloc (.cells #[strV name] 9))
  generalize ((w.alloc (.cells (viewC A B C P ca cb cc cp ns ps os p) 170)).alloc (.cells #[strV name] 9)) = W at B0 S0 S1 K ⊢
  have z2 : W.cell? ⟨w.heap.size, 2, none⟩ = some (.slice C os.length cc) := Blk.cell S0.out 2
  go_wp2_with fail
  refine (K.out).mono ?_
  rintro e w1 ⟨rfl, hb⟩
  have HB := Lib.hid (B0.out.trans (hb.mono B0.out.size))
  clear hb
  go_wp2
  go_ret
  exact ⟨rfl, HB.out⟩
end Go.Proofs.YtiiheajieegdkaaGreat

namespace Go.Proofs.YtiiheajieegdkaaGreat
open Go.RowKit


section
variable {ns : List NodeD} {ps : List PodD} {os : List OwnD} {p : List Int} {i : Nat} {y z : Int}
/-- What is worse is broken. -/
theorem worse_by {L : List ClT} (hg : ∀ c ∈ L, 0 ≤ c.2.2.2) {c : ClT} (h : worC L c = true) : 0 < c.2.2.2 := by
  unfold worC was9 at h
  have h := of_decide_eq_true h
  have : 0 ≤ (findC L c.1 c.2.1 c.2.2.1).getD 0 := by
    cases hf : findC L c.1 c.2.1 c.2.2.1 with
    | none => simp
    | some b =>
      unfold findC at hf
      cases hq : L.find? (isC c.1 c.2.1 c.2.2.1) with
      | none => rw [hq] at hf; cases hf
      | some d =>
        rw [hq] at hf
        have := hg d (List.mem_of_find?_eq_some hq)
        simp at hf
        simp
        omega
  omega
end
end Go.Proofs.YtiiheajieegdkaaGreat

namespace Go.Proofs.YtiiheajieegdkaaGreat
open Go.RowKit

/-- A subject, as a value. -/
def subV : Sub → Value
  | .node n q => .iface 224 (.agg #[.int .i64 (n : Int), .int .i64 (q : Int)])
  | .pod i => .iface 226 (.agg #[.int .i64 (i : Int)])
  | .owner o => .iface 228 (.agg #[.int .i64 (o : Int)])
theorem su_info : (Tryz.prog.info? 176).map (fun i => (i.zero, i.size, i.bytes)) = some (some .nilIface, 1, 16) := by kernel_rfl
theorem nodesS_len : ∀ k, (nodesS k).length = 5 * k
  | 0 => rfl
  | k + 1 => by
    rw [nodesS, List.length_append, nodesS_len k]
    simp
    omega
theorem podsS_len (p : List Int) : ∀ k, (podsS p k).length ≤ k
  | 0 => Nat.le_refl _
  | k + 1 => by
    have := podsS_len p k
    rw [podsS, List.length_append]
    unfold podS
    split <;> simp <;> omega
theorem ownersS_len : ∀ k, (ownersS k).length = k
  | 0 => rfl
  | k + 1 => by
    rw [ownersS, List.length_append, ownersS_len k]
    rfl
theorem subsU_len (ns : List NodeD) (os : List OwnD) (p : List Int) : (subsU ns os p).length ≤ 5 * ns.length + p.length + os.length := by
  have := nodesS_len ns.length
  have := podsS_len p p.length
  have := ownersS_len os.length
  unfold subsU
  simp only [List.length_append]
  omega
theorem qs_succ (n k : Nat) : (List.range (k + 1)).map (Sub.node n) = (List.range k).map (Sub.node n) ++ [.node n k] := by
  rw [List.range_succ, List.map_append]
  rfl

set_option maxRecDepth 100000 in
set_option maxHeartbeats 8000000 in
theorem subjects_any (A B C P : Option Addr) (ca cb cc cp : Nat) (ns : List NodeD) (ps : List PodD) (os : List OwnD) (p : List Int) (hln : ns.length ≤ 1000) (hlp : p.length ≤ 1000) (hlo : os.length ≤ 1000) (w : World) (hp : IntsAt w P cp p) :
    Calls Tryz.prog 141 #[viewV A B C P ca cb cc cp ns ps os p] w fun e w' => ∃ v, e = .returned v ∧ w'.ownsRow w.heap.size 176 1 v (subsU ns os p).length ((subsU ns os p).map subV) ∧ Below w.heap.size w w' := by
  have HP := Lib.hid hp
  have B0 : Hid (Below w.heap.size w (w.alloc (.cells (viewC A B C P ca cb cc cp ns ps os p) 170))) := Lib.hid (below1 w _)
  have S0 : Hid (Blk (w.alloc (.cells (viewC A B C P ca cb cc cp ns ps os p) 170)) w.heap.size (viewC A B C P ca cb cc cp ns ps os p) 170) := Lib.hid (Blk.new w _ _)
  obtain ⟨i0, hi0, hz0, hz1, hz2⟩ := info_parts su_info
  have HA : Hid (subsU ns os p = nodesS ns.length ++ podsS p p.length ++ ownersS os.length) := Lib.hid rfl
  generalize subsU ns os p = SU at HA ⊢
  clear hp
  go_enter Tryz.func141, Tryz.ntmps141
  obtain ⟨W, hW⟩ : ∃ W, (w.alloc (.cells (viewC A B C P ca cb cc cp ns ps os p) 170)) = W := ⟨_, rfl⟩
  rw [hW] at B0 S0
  go_upto_region 2 with fail
  try rw [show (w.alloc (.cells #[.slice A ns.length ca, .slice B ps.length cb, .slice C os.length cc, .slice P p.length cp] 170)) = W from hW]
  clear hW
  have HZ := Lib.hid (fun W' (hb : Below W.heap.size W W') => (show W'.cell? ⟨w.heap.size, 0, none⟩ = some (.slice A ns.length ca) ∧ W'.cell? ⟨w.heap.size, 1, none⟩ = some (.slice B ps.length cb) ∧ W'.cell? ⟨w.heap.size, 2, none⟩ = some (.slice C os.length cc) ∧ W'.cell? ⟨w.heap.size, 3, none⟩ = some (.slice P p.length cp) from ⟨Blk.cell (S0.out.below hb S0.out.lt) 0, Blk.cell (S0.out.below hb S0.out.lt) 1, Blk.cell (S0.out.below hb S0.out.lt) 2, Blk.cell (S0.out.below hb S0.out.lt) 3⟩))
  have HT := Lib.hid (fun W' (hb : Below W.heap.size W W') => B0.out.trans (hb.mono B0.out.size))
  have HPp := Lib.hid (fun W' (hb : Below W.heap.size W W') => HP.out.below (HT.out W' hb))
  have HB0 := Lib.hid B0.out.size
  obtain ⟨z0, z1, z2, z3⟩ := HZ.out _ (Below.refl _ W)
  clear HP B0 S0
  go_wp2_with fail
  go_loopw [3, 13] (fun v i wr => ∃ n : Nat, n ≤ ns.length ∧ i = .int .i64 (n : Int) ∧ wr.ownsRow W.heap.size 176 1 v (nodesS n).length ((nodesS n).map subV) ∧ Below W.heap.size W wr) (fun _ i _ => ns.length - (intOf i).toNat)
  case atStart => exact ⟨0, by omega, rfl, World.ownsRow_nil _ _ _ _, Below.refl _ _⟩
  case round =>
    clear z0 z1 z2 z3
    obtain ⟨n, hn, rfl, ho, hb⟩ := hrel
    have HO := Lib.hid ho
    have HB := Lib.hid hb
    clear ho hb
    have hnl := nodesS_len n
    by_cases hlt : n < ns.length
    case neg =>
      obtain rfl : n = ns.length := by omega
      obtain ⟨z0, z1, z2, z3⟩ := HZ.out _ HB.out
      generalize nodesS ns.length = NS at HO HA hnl
      go_wp2_with fail
      go_loopw [3, 31] (fun v i wr => ∃ k : Nat, k ≤ p.length ∧ i = .int .i64 (k : Int) ∧ wr.ownsRow W.heap.size 176 1 v (NS ++ podsS p k).length ((NS ++ podsS p k).map subV) ∧ Below W.heap.size W wr) (fun _ i _ => p.length - (intOf i).toNat)
      case atStart => exact ⟨0, by omega, rfl, by rw [show NS ++ podsS p 0 = NS from List.append_nil _]; exact HO.out, HB.out⟩
      case round =>
        clear HO HB z0 z1 z2 z3
        obtain ⟨k, hk, rfl, ho, hb⟩ := hrel
        have HO := Lib.hid ho
        have HB := Lib.hid hb
        clear ho hb
        have hpl := podsS_len p k
        have hpl2 : (NS ++ podsS p k).length ≤ 7000 := by rw [List.length_append]; omega
        by_cases hlk : k < p.length
        case neg =>
          obtain rfl : k = p.length := by omega
          obtain ⟨z0, z1, z2, z3⟩ := HZ.out _ HB.out
          generalize NS ++ podsS p p.length = PS at HO HA hpl2
          clear hk hlk
          go_wp2_with fail
          go_loopw [3, 49] (fun v i wr => ∃ o : Nat, o ≤ os.length ∧ i = .int .i64 (o : Int) ∧ wr.ownsRow W.heap.size 176 1 v (PS ++ ownersS o).length ((PS ++ ownersS o).map subV) ∧ Below W.heap.size W wr) (fun _ i _ => os.length - (intOf i).toNat)
          case atStart => exact ⟨0, by omega, rfl, by rw [show PS ++ ownersS 0 = PS from List.append_nil _]; exact HO.out, HB.out⟩
          case round =>
            clear HO HB z0 z1 z2 z3
            obtain ⟨o, ho', rfl, ho, hb⟩ := hrel
            have HO := Lib.hid ho
            have HB := Lib.hid hb
            clear ho hb
            have hol := ownersS_len o
            have hol2 : (PS ++ ownersS o).length ≤ 8000 := by rw [List.length_append]; omega
            by_cases hlo2 : o < os.length
            case neg =>
              obtain rfl : o = os.length := by omega
              go_wp2
              go_ret
              rw [HA.out]
              exact ⟨_, rfl, own_base HO.out HB0.out, HT.out _ HB.out⟩
            have Hd : Hid (PS ++ ownersS (o + 1) = (PS ++ ownersS o) ++ [.owner o]) := Lib.hid (by rw [ownersS, List.append_assoc])
            generalize PS ++ ownersS o = M at HO Hd hol2
            have o1 : (o : Int) < (os.length : Int) := by omega
            clear hol
            go_wp2_with (at_builtin; refine wpList_append_own _ rfl _ _ 171 rfl W.heap.size 176 i0 .nilIface 1 16 Tryz.underlying171 hi0 hz0 hz1 hz2 rfl (by decide) _ _ _ rfl (show World.ownsRow _ _ _ _ _ _ _ from HO.out.alloc _) ⟨wr.heap.size, 0, none⟩ 1 1 [.iface 228 (.agg #[.int .i64 (o : Int)])] rfl rfl ?c1c ?c2c ?c3c ?c4c ?c5c ?_)
            case c1c =>
              intro j u hj
              match j, hj with
              | 0, hj => simp at hj; subst hj; simp [Addr.add]
            case c2c => first | rfl | (intro u hu; simp at hu; subst hu; rfl)
            case c3c => unfold maxLen; omega
            case c4c => omega
            case c5c => have := HB.out.size; simp; omega
            intro v4 w4 hown4 hgrow4 _
            have P4 := Lib.hid hown4
            have D4 := Lib.hid ((HB.out.alloc HB.out.size (.cells #[.iface 228 (.agg #[.int .i64 (o : Int)])] 176)).grown hgrow4 (by have := HB.out.size; simp; omega) (fun j hj => own_gem HO.out hj))
            clear hown4 hgrow4
            go_wp2_with fail
            go_roundw
            case rel =>
              refine ⟨o + 1, by omega, by go_num, ?_, D4.out⟩
              rw [Hd.out, List.length_append, List.map_append]
              exact P4.out
            case measure => simp [intOf]; omega
        obtain ⟨x, hx⟩ : ∃ x, p[k]? = some x := ⟨p[k], List.getElem?_eq_getElem hlk⟩
        obtain ⟨bp, op, hAp, _, pk⟩ := atI (HPp.out _ HB.out).cells hx
        subst hAp
        have k0 : (0 : Int) ≤ (k : Int) := by omega
        have k1 : (k : Int) < (p.length : Int) := by omega
        by_cases hw : x = -1
        case pos =>
          subst hw
          have hE2 : Hid (NS ++ podsS p (k + 1) = NS ++ podsS p k) := Lib.hid (by rw [podsS, podS, if_pos hx, List.append_nil])
          generalize NS ++ podsS p k = M at HO hE2 hpl2
          clear hx hpl
          go_wp2_with fail
          go_roundw
          case rel => exact ⟨k + 1, by omega, by go_num, by rw [hE2.out]; exact HO.out, HB.out⟩
          case measure => simp [intOf]; omega
        have hE2 : Hid (NS ++ podsS p (k + 1) = (NS ++ podsS p k) ++ [.pod k]) := Lib.hid (by rw [podsS, podS, if_neg (by rw [hx]; intro h; exact hw (Option.some.inj h)), List.append_assoc])
        generalize NS ++ podsS p k = M at HO hE2 hpl2
        have hwb : (x != -1) = true := by simpa using hw
        have hwd : decide (x = -1) = false := decide_eq_false hw
        have hwe : (x == -1) = false := by simpa using hw
        clear hx hpl
        go_wp2_with (at_builtin; refine wpList_append_own _ rfl _ _ 171 rfl W.heap.size 176 i0 .nilIface 1 16 Tryz.underlying171 hi0 hz0 hz1 hz2 rfl (by decide) _ _ _ rfl (show World.ownsRow _ _ _ _ _ _ _ from HO.out.alloc _) ⟨wr.heap.size, 0, none⟩ 1 1 [.iface 226 (.agg #[.int .i64 (k : Int)])] rfl rfl ?c1b ?c2b ?c3b ?c4b ?c5b ?_)
        case c1b =>
          intro j u hj
          match j, hj with
          | 0, hj => simp at hj; subst hj; simp [Addr.add]
        case c2b => first | rfl | (intro u hu; simp at hu; subst hu; rfl)
        case c3b => unfold maxLen; omega
        case c4b => omega
        case c5b => have := HB.out.size; simp; omega
        intro v4 w4 hown4 hgrow4 _
        have P4 := Lib.hid hown4
        have D4 := Lib.hid ((HB.out.alloc HB.out.size (.cells #[.iface 226 (.agg #[.int .i64 (k : Int)])] 176)).grown hgrow4 (by have := HB.out.size; simp; omega) (fun j hj => own_gem HO.out hj))
        clear hown4 hgrow4
        go_wp2_with fail
        go_roundw
        case rel =>
          refine ⟨k + 1, by omega, by go_num, ?_, D4.out⟩
          rw [hE2.out, List.length_append, List.map_append]
          exact P4.out
        case measure => simp [intOf]; omega
    have Hd : Hid (nodesS (n + 1) = nodesS n ++ (List.range 5).map (Sub.node n)) := Lib.hid rfl
    generalize nodesS n = NS at HO Hd hnl
    have n1 : (n : Int) < (ns.length : Int) := by omega
    go_wp2_with fail
    go_loopw [3, 16] (fun v i wr => ∃ k : Nat, k ≤ 5 ∧ i = .int .i64 (k : Int) ∧ wr.ownsRow W.heap.size 176 1 v (NS ++ (List.range k).map (Sub.node n)).length ((NS ++ (List.range k).map (Sub.node n)).map subV) ∧ Below W.heap.size W wr) (fun _ i _ => 5 - (intOf i).toNat)
    case atStart => exact ⟨0, by omega, rfl, by rw [show NS ++ (List.range 0).map (Sub.node n) = NS from List.append_nil _]; exact HO.out, HB.out⟩
    case round =>
      clear HO HB
      obtain ⟨k, hk, rfl, ho, hb⟩ := hrel
      have HO := Lib.hid ho
      have HB := Lib.hid hb
      clear ho hb
      have hkl : (NS ++ (List.range k).map (Sub.node n)).length ≤ 6000 := by simp; omega
      by_cases hlk : k < 5
      case neg =>
        obtain rfl : k = 5 := by omega
        go_wp2_with fail
        go_roundw
        case rel => exact ⟨n + 1, by omega, by go_num, by rw [Hd.out]; exact HO.out, HB.out⟩
        case measure => simp [intOf]; omega
      have hE2 : Hid (NS ++ (List.range (k + 1)).map (Sub.node n) = (NS ++ (List.range k).map (Sub.node n)) ++ [.node n k]) := Lib.hid (by rw [qs_succ, List.append_assoc])
      generalize NS ++ (List.range k).map (Sub.node n) = M at HO hE2 hkl
      have k1 : (k : Int) < 5 := by omega
      go_wp2_with (at_builtin; refine wpList_append_own _ rfl _ _ 171 rfl W.heap.size 176 i0 .nilIface 1 16 Tryz.underlying171 hi0 hz0 hz1 hz2 rfl (by decide) _ _ _ rfl (show World.ownsRow _ _ _ _ _ _ _ from HO.out.alloc _) ⟨wr.heap.size, 0, none⟩ 1 1 [.iface 224 (.agg #[.int .i64 (n : Int), .int .i64 (k : Int)])] rfl rfl ?c1a ?c2a ?c3a ?c4a ?c5a ?_)
      case c1a =>
        intro j u hj
        match j, hj with
        | 0, hj => simp at hj; subst hj; simp [Addr.add]
      case c2a => first | rfl | (intro u hu; simp at hu; subst hu; rfl)
      case c3a => unfold maxLen; omega
      case c4a => omega
      case c5a => have := HB.out.size; simp; omega
      intro v4 w4 hown4 hgrow4 _
      have P4 := Lib.hid hown4
      have D4 := Lib.hid ((HB.out.alloc HB.out.size (.cells #[.iface 224 (.agg #[.int .i64 (n : Int), .int .i64 (k : Int)])] 176)).grown hgrow4 (by have := HB.out.size; simp; omega) (fun j hj => own_gem HO.out hj))
      clear hown4 hgrow4
      go_wp2_with fail
      go_roundw
      case rel =>
        refine ⟨k + 1, by omega, by go_num, ?_, D4.out⟩
        rw [hE2.out, List.length_append, List.map_append]
        exact P4.out
      case measure => simp [intOf]; omega
end Go.Proofs.YtiiheajieegdkaaGreat

namespace Go.Proofs.YtiiheajieegdkaaGreat
open Go.RowKit

/-- The rule of a kind, as a value. -/
def ruleV : Nat → Value
  | 1 => .agg #[.func (Fn.func 193) #[] #[], .nilFunc, .nilFunc]
  | 2 => .agg #[.nilFunc, .func (Fn.func 194) #[] #[], .nilFunc]
  | 3 => .agg #[.nilFunc, .func (Fn.func 195) #[] #[], .nilFunc]
  | 4 => .agg #[.nilFunc, .func (Fn.func 196) #[] #[], .nilFunc]
  | 5 => .agg #[.nilFunc, .func (Fn.func 197) #[] #[], .nilFunc]
  | 6 => .agg #[.nilFunc, .func (Fn.func 198) #[] #[], .nilFunc]
  | 7 => .agg #[.nilFunc, .nilFunc, .func (Fn.func 199) #[] #[]]
  | 8 => .agg #[.nilFunc, .nilFunc, .func (Fn.func 200) #[] #[]]
  | _ => .agg #[.nilFunc, .nilFunc, .nilFunc]
def entsR (k : Nat) : List MapEntry := (List.range k).map fun (j : Nat) => ⟨.int .i64 ((j : Int) + 1), ruleV (j + 1), j⟩
theorem entsR_succ (k : Nat) : entsR (k + 1) = entsR k ++ [⟨.int .i64 ((k : Int) + 1), ruleV (k + 1), k⟩] := by
  unfold entsR
  rw [List.range_succ, List.map_append]
  rfl
theorem isKey_i64 (x : Int) : MapKept.IsKey (.int .i64) (.int .i64 x) := by simp [MapKept.IsKey]
theorem find_no9 : ∀ k : Nat, k < 8 → Instr.findNow (.int .i64) (.int .i64 ((k : Int) + 1)) (entsR k) 0 = some none := by
  intro k hk
  match k, hk with
  | 0, _ => rfl
  | 1, _ => rfl
  | 2, _ => rfl
  | 3, _ => rfl
  | 4, _ => rfl
  | 5, _ => rfl
  | 6, _ => rfl
  | 7, _ => rfl
theorem find_at9 : ∀ k : Nat, k < 8 → Instr.findNow (.int .i64) (.int .i64 ((k : Int) + 1)) (entsR 8) 0 = some (some (k, ruleV (k + 1))) := by
  intro k hk
  match k, hk with
  | 0, _ => rfl
  | 1, _ => rfl
  | 2, _ => rfl
  | 3, _ => rfl
  | 4, _ => rfl
  | 5, _ => rfl
  | 6, _ => rfl
  | 7, _ => rfl

/-- One more rule in a map that is the last block. -/
theorem run_rule (w : World) (k : Nat) (_hk : k < 8) (h1 : Instr.findNow (.int .i64) (.int .i64 ((k : Int) + 1)) (entsR k) 0 = some none) :
    (Instr.mapUpdate 173 (.map (some w.heap.size)) (.int .i64 ((k : Int) + 1)) (ruleV (k + 1))).run Tryz.prog (w.alloc (.map (entsR k).toArray k)) =
      .ok () (w.alloc (.map (entsR (k + 1)).toArray (k + 1))) := by
  have hb := (MapKept.heap_alloc w (.map (entsR k).toArray k)).1
  have hset : ∀ o : Obj, { w.alloc (.map (entsR k).toArray k) with heap := (w.alloc (.map (entsR k).toArray k)).heap.setIfInBounds w.heap.size o } = w.alloc o := by
    intro o
    simp only [World.alloc]
    congr 1
    apply Array.ext'
    simp [Array.setIfInBounds, Array.toList_push]
  rw [entsR_succ]
  generalize w.alloc (.map (entsR k).toArray k) = W at hb hset
  unfold Instr.mapUpdate
  simp only [Sem.run_bind, run_underlying Tryz.underlying173, Result.andThen]
  simp [getObj, Sem.run, hb, MapKept.run_checkKey Tryz.underlying3 (isKey_i64 _), MapKept.run_findKey Tryz.underlying3 h1, MapKept.run_setObj_map _ hb, hset]
/-- The rule of a kind is found. -/
theorem run_ruleAt (w : World) (M : Nat) (h : w.heap[M]? = some (.map (entsR 8).toArray 8)) (k : Nat) (hk : k < 8) :
    (Instr.lookup 173 (.map (some M)) (.int .i64 ((k : Int) + 1)) false).run Tryz.prog w = .ok (ruleV (k + 1)) w := by
  have h1 := find_at9 k hk
  unfold Instr.lookup
  simp only [Sem.run_bind, run_underlying Tryz.underlying173, Result.andThen]
  simp [getObj, Sem.run, h, Result.andThen, MapKept.run_checkKey Tryz.underlying3 (isKey_i64 _), MapKept.run_findKey Tryz.underlying3 h1]

set_option maxRecDepth 100000 in
set_option maxHeartbeats 2000000 in
theorem rules_any (w : World) : Calls Tryz.prog 142 #[] w fun e w' => e = .returned (.map (some w.heap.size)) ∧ w'.heap[w.heap.size]? = some (.map (entsR 8).toArray 8) ∧ Below w.heap.size w w' := by
  have hmm := @run_makeMap Tryz.prog
  have m0 : (Instr.mapUpdate 173 (.map (some w.heap.size)) (.int .i64 1) (.agg #[.func (Fn.func 193) #[] #[], .nilFunc, .nilFunc])).run Tryz.prog (w.alloc (.map #[] 0)) = .ok () (w.alloc (.map (entsR 1).toArray 1)) := run_rule w 0 (by omega) (find_no9 0 (by omega))
  have m1 : (Instr.mapUpdate 173 (.map (some w.heap.size)) (.int .i64 2) (.agg #[.nilFunc, .func (Fn.func 194) #[] #[], .nilFunc])).run Tryz.prog (w.alloc (.map (entsR 1).toArray 1)) = .ok () (w.alloc (.map (entsR 2).toArray 2)) := run_rule w 1 (by omega) (find_no9 1 (by omega))
  have m2 : (Instr.mapUpdate 173 (.map (some w.heap.size)) (.int .i64 3) (.agg #[.nilFunc, .func (Fn.func 195) #[] #[], .nilFunc])).run Tryz.prog (w.alloc (.map (entsR 2).toArray 2)) = .ok () (w.alloc (.map (entsR 3).toArray 3)) := run_rule w 2 (by omega) (find_no9 2 (by omega))
  have m3 : (Instr.mapUpdate 173 (.map (some w.heap.size)) (.int .i64 4) (.agg #[.nilFunc, .func (Fn.func 196) #[] #[], .nilFunc])).run Tryz.prog (w.alloc (.map (entsR 3).toArray 3)) = .ok () (w.alloc (.map (entsR 4).toArray 4)) := run_rule w 3 (by omega) (find_no9 3 (by omega))
  have m4 : (Instr.mapUpdate 173 (.map (some w.heap.size)) (.int .i64 5) (.agg #[.nilFunc, .func (Fn.func 197) #[] #[], .nilFunc])).run Tryz.prog (w.alloc (.map (entsR 4).toArray 4)) = .ok () (w.alloc (.map (entsR 5).toArray 5)) := run_rule w 4 (by omega) (find_no9 4 (by omega))
  have m5 : (Instr.mapUpdate 173 (.map (some w.heap.size)) (.int .i64 6) (.agg #[.nilFunc, .func (Fn.func 198) #[] #[], .nilFunc])).run Tryz.prog (w.alloc (.map (entsR 5).toArray 5)) = .ok () (w.alloc (.map (entsR 6).toArray 6)) := run_rule w 5 (by omega) (find_no9 5 (by omega))
  have m6 : (Instr.mapUpdate 173 (.map (some w.heap.size)) (.int .i64 7) (.agg #[.nilFunc, .nilFunc, .func (Fn.func 199) #[] #[]])).run Tryz.prog (w.alloc (.map (entsR 6).toArray 6)) = .ok () (w.alloc (.map (entsR 7).toArray 7)) := run_rule w 6 (by omega) (find_no9 6 (by omega))
  have m7 : (Instr.mapUpdate 173 (.map (some w.heap.size)) (.int .i64 8) (.agg #[.nilFunc, .nilFunc, .func (Fn.func 200) #[] #[]])).run Tryz.prog (w.alloc (.map (entsR 7).toArray 7)) = .ok () (w.alloc (.map (entsR 8).toArray 8)) := run_rule w 7 (by omega) (find_no9 7 (by omega))
  have hb := (MapKept.heap_alloc w (.map (entsR 8).toArray 8)).1
  have HB := Lib.hid hb
  have B0 : Hid (Below w.heap.size w (w.alloc (.map (entsR 8).toArray 8))) := Lib.hid (below1 w _)
  clear hb
  generalize entsR 8 = E8 at m7 HB B0 ⊢
  generalize entsR 7 = E7 at m6 m7
  generalize entsR 6 = E6 at m5 m6
  generalize entsR 5 = E5 at m4 m5
  generalize entsR 4 = E4 at m3 m4
  generalize entsR 3 = E3 at m2 m3
  generalize entsR 2 = E2 at m1 m2
  generalize entsR 1 = E1 at m0 m1
  go_enter Tryz.func142, Tryz.ntmps142
  go_wp2_with fail
  go_ret
  exact ⟨rfl, HB.out, B0.out⟩
end Go.Proofs.YtiiheajieegdkaaGreat
