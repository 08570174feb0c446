/- What is counted in the domains is no more than what is counted: numbers and keys only. Conditions: the pods are on nodes that there are. Which values nodes have for a key, as the document says it. Contracts, and what of it is the program's. Condition: the cluster lies in memory. All values that nodes have for a key, rising, as the document says it: a list into which each is put where it belongs, and that it is the keys of a map, sorted. Condition: the cluster lies in memory. What Counts, Spread and Placed tell of one owner: numbers only. Condition: the placement may be. Counts and Placed as the document says them: contracts. Condition: the cluster and the numbers lie in memory. What Holds and Bears answer, as plain functions. Condition: the lists lie in memory. What the document says of terms and of what is borne: contracts. Condition: the lists lie in memory. The document's word on a term is the program's, where a list's keys differ. In numbers and texts only. Of a cluster that may be, a node's and a pod's labels have keys that differ, and are few. In numbers and texts only. The program's rule for ClauseMin: belowMin. A contract. Condition: the cluster and the numbers lie in memory. What the document counts for the clauses of a pod: terms, taints, single, doubles. Contracts. Condition: the cluster and the numbers lie in memory. What the document counts for the clauses of a pod: taints, single, doubles. Contracts. Condition: the cluster and the numbers lie in memory. How many pods of an owner run in each domain: what the document sums is what the program counts. No conditions. By how much an owner's spread is too great, by the document's words: skew. A contract. Condition: the cluster and the numbers lie in memory. A list of clauses as a value; Same, by the document's words, of two that are the same. No conditions but that they lie in memory. The clauses of nodes, by the document's words: caps. A contract. Condition: the cluster and the numbers lie in memory. One clause of a list, by the document's words: Of, out of what All tells. A contract. Condition: the cluster and the numbers lie in memory. What of a list is broken, by the document's words: Broken, out of what All tells. A contract. Condition: the cluster and the numbers lie in memory. Who is near whom, by the document's words: near, about. Contracts. Condition: the cluster and the numbers lie in memory. The clauses of a placement, by the document's words, as a list: first those of nodes, then those of pods by kinds, then those of owners; and by the program's words, subject by subject: it is the same list. In numbers and texts only. What Get answers, as a plain function. Condition: a list that can lie in memory. What holds where a placement may be: few labels, keys that differ, short values, names that differ, quantities in bounds; and the pods near a pod, as a list. In numbers and texts only. The program's rule for ClauseCap: overCap. A contract. Condition: the cluster and the numbers lie in memory, the placement may be, the node is there. What is left on a node: contracts of left and Left. Condition: the cluster and the numbers lie in memory. -/
import Derived.Test.YtmmokiaipfalmaaGreatA05
import Derived.Laws.AppendOwnNone
import Derived.StillTailTactics

namespace Go.Proofs.YtmmokiaipfalmaaGreat
open Go.RowKit Go.Shelf Go.Maps Go.Sort

theorem insert_perm (x : Lit × DataW Unit) : ∀ l : List (Lit × DataW Unit), (DataW.insert x l).Perm (x :: l)
  | [] => by simp [DataW.insert]
  | y :: r => by
    unfold DataW.insert
    split
    · exact List.Perm.refl _
    · exact ((insert_perm x r).cons y).trans (List.Perm.swap x y r)
/-- A map whose keys are texts, each once. -/
structure KeyedD (D : DataW Unit) : Prop where
  isMap : IsMap D
  texts : ∀ es, D = .map es → ∀ q ∈ es, ∃ x, q.1 = .string x
  once : (strKeys D).Nodup
theorem keys_filter (v : List UInt8) : ∀ es : List (Lit × DataW Unit), (∀ q ∈ es, ∃ x, q.1 = .string x) → (es.filter fun p => !p.1.sameKey (.string v)).map (fun p => strOf p.1) = (es.map fun p => strOf p.1).filter (· != v)
  | [], _ => rfl
  | q :: t, h => by
    obtain ⟨x, hx⟩ := h q (by simp)
    have ih := keys_filter v t (fun z hz => h z (by simp [hz]))
    rw [List.map_cons, hx]
    by_cases e : x = v
    · subst e
      rw [List.filter_cons_of_neg (by rw [hx]; simp [WideAt.sameKey_self (show WideAt.IsKeyLit (.string x) from trivial)]), List.filter_cons_of_neg (by simp [strOf]), ih]
    · have hn : (Lit.string x).sameKey (.string v) = false := by
        cases hc : (Lit.string x).sameKey (.string v) with
        | false => rfl
        | true => exact absurd (by simpa using WideAt.sameKey_eq hc) e
      rw [List.filter_cons_of_pos (by rw [hx, hn]; rfl), List.filter_cons_of_pos (by simpa [strOf] using e), List.map_cons, ih, hx]
theorem keys_put {D : DataW Unit} (h : KeyedD D) (v : List UInt8) (d : DataW Unit) : (strKeys (D.put (.string v) d)).Perm (v :: (strKeys D).filter (· != v)) := by
  obtain ⟨es, rfl⟩ := h.isMap
  show ((DataW.insert (.string v, d) (es.filter fun p => !p.1.sameKey (.string v))).map fun p => strOf p.1).Perm _
  refine ((insert_perm _ _).map _).trans ?_
  rw [List.map_cons, keys_filter v es (h.texts es rfl)]
  exact List.Perm.refl _
theorem KeyedD.put {D : DataW Unit} (h : KeyedD D) (v : List UInt8) (d : DataW Unit) : KeyedD (D.put (.string v) d) := by
  have hp := keys_put h v d
  obtain ⟨es, rfl⟩ := h.isMap
  refine ⟨⟨_, rfl⟩, ?_, ?_⟩
  · intro es' he q hq
    cases he
    have := (insert_perm (.string v, d) (es.filter fun p => !p.1.sameKey (.string v))).mem_iff.1 hq
    rcases List.mem_cons.1 this with rfl | hm
    · exact ⟨v, rfl⟩
    · exact h.texts es rfl q (List.mem_filter.1 hm).1
  · refine hp.nodup_iff.2 (List.nodup_cons.2 ⟨fun hm => ?_, h.once.filter _⟩)
    have := (List.mem_filter.1 hm).2
    simp at this
theorem keys_same {D : DataW Unit} (h : KeyedD D) {v : List UInt8} (hv : v ∈ strKeys D) (d : DataW Unit) : (strKeys (D.put (.string v) d)).Perm (strKeys D) := by
  refine (keys_put h v d).trans ?_
  rw [← h.once.erase_eq_filter]
  exact (List.perm_cons_erase hv).symm
theorem mem_put {D : DataW Unit} (h : KeyedD D) (v : List UInt8) (d : DataW Unit) (u : List UInt8) : u ∈ strKeys (D.put (.string v) d) ↔ u = v ∨ u ∈ strKeys D := by
  rw [(keys_put h v d).mem_iff, List.mem_cons, List.mem_filter]
  by_cases e : u = v <;> simp [e]

/-- The number at a text. -/
def valD (D : DataW Unit) (v : List UInt8) : Int := numD (D.atKey (.string v) (.lit (.int .i64 0)))
theorem val_put {D : DataW Unit} (h : KeyedD D) (v : List UInt8) (d : DataW Unit) (u : List UInt8) : valD (D.put (.string v) d) u = if u = v then numD d else valD D u := by
  unfold valD
  by_cases e : u = v
  · subst e
    rw [if_pos rfl, atKey_put_same h.isMap (show WideAt.IsKeyLit (.string u) from trivial)]
  · rw [if_neg e, atKey_put_other (by intro hc; cases hc; exact e rfl)]
def sumK (D : DataW Unit) : Int := ((strKeys D).map (valD D)).sum
theorem sum_perm {l l' : List Int} (h : l.Perm l') : l.sum = l'.sum := by
  induction h with
  | nil => rfl
  | cons x _ ih => rw [List.sum_cons, List.sum_cons, ih]
  | swap x y l => simp; omega
  | trans _ _ h1 h2 => rw [h1, h2]
theorem sum_turn {f g : List UInt8 → Int} {v : List UInt8} : ∀ {l : List (List UInt8)}, l.Nodup → (∀ u, u ≠ v → g u = f u) → (l.map g).sum = (l.map f).sum + (if v ∈ l then g v - f v else 0)
  | [], _, _ => by simp
  | u :: t, h, e => by
    obtain ⟨h1, h2⟩ := List.nodup_cons.1 h
    have ih := sum_turn h2 e
    rw [List.map_cons, List.map_cons, List.sum_cons, List.sum_cons, ih]
    by_cases hu : u = v
    · subst hu
      rw [if_neg h1, if_pos (by simp)]
      omega
    · rw [e u hu]
      by_cases hv : v ∈ t
      · rw [if_pos hv, if_pos (by simp [hv])]
        omega
      · rw [if_neg hv, if_neg (by simp [hv]; exact fun hc => hu hc.symm)]
        omega
theorem keyed_nil : KeyedD (.map []) := ⟨⟨[], rfl⟩, (by intro es h q hq; cases h; cases hq), List.nodup_nil⟩
theorem keyed_doms (ns : List NodeD) (key : List UInt8) : ∀ k, KeyedD (domsU ns key k) ∧ ∀ v, valD (domsU ns key k) v = 0
  | 0 => ⟨keyed_nil, fun _ => rfl⟩
  | k + 1 => by
    obtain ⟨h1, h2⟩ := keyed_doms ns key k
    rw [domsU]
    cases hd : domF ns (k : Int) key with
    | none => exact ⟨h1, h2⟩
    | some v =>
      refine ⟨h1.put v _, fun u => ?_⟩
      show valD ((domsU ns key k).put (.string v) (.lit (.int .i64 0))) u = 0
      rw [val_put h1]
      split
      · rfl
      · exact h2 u
theorem doms_has (ns : List NodeD) (key : List UInt8) (n : Nat) (v : List UInt8) (h : domF ns (n : Int) key = some v) : ∀ k, n < k → v ∈ strKeys (domsU ns key k)
  | 0, h' => absurd h' (by omega)
  | k + 1, h' => by
    rw [domsU]
    by_cases e : n = k
    · subst e
      rw [h]
      exact (mem_put (keyed_doms ns key n).1 v _ v).2 (.inl rfl)
    · have ih := doms_has ns key n v h k (by omega)
      cases hd : domF ns (k : Int) key with
      | none => exact ih
      | some u => exact (mem_put (keyed_doms ns key k).1 u _ v).2 (.inr ih)
theorem empty_has {ns : List NodeD} {key v : List UInt8} {x : Int} (h : domF ns x key = some v) : v ∈ strKeys (emptyD ns key) := by
  have h' := h
  unfold domF at h'
  by_cases ht : tpB ns x = true
  · obtain ⟨n, rfl, hn⟩ := tpB_lt ht
    exact doms_has ns key n v h ns.length hn
  · rw [if_neg ht] at h'
    cases h'

/-- A map of the domains in which c at most are counted. -/
structure SpreadAt (ns : List NodeD) (key : List UInt8) (D : DataW Unit) (c : Nat) : Prop where
  keyed : KeyedD D
  keys : (strKeys D).Perm (strKeys (emptyD ns key))
  vals : ∀ v, 0 ≤ valD D v ∧ valD D v ≤ (c : Int)
  sum : sumK D ≤ (c : Int)
theorem SpreadAt.mono {ns : List NodeD} {key : List UInt8} {D : DataW Unit} {c d : Nat} (h : SpreadAt ns key D c) (hd : c ≤ d) : SpreadAt ns key D d :=
  ⟨h.keyed, h.keys, fun v => by have := h.vals v; omega, by have := h.sum; omega⟩
theorem sum_zero : ∀ l : List (List UInt8), ∀ f : List UInt8 → Int, (∀ v, f v = 0) → (l.map f).sum = 0
  | [], _, _ => rfl
  | u :: t, f, h => by rw [List.map_cons, List.sum_cons, h u, sum_zero t f h]; rfl
theorem spread_zero (ns : List NodeD) (key : List UInt8) : SpreadAt ns key (emptyD ns key) 0 := by
  obtain ⟨h1, h2⟩ := keyed_doms ns key ns.length
  refine ⟨h1, List.Perm.refl _, fun v => ?_, ?_⟩
  · rw [show valD (emptyD ns key) v = 0 from h2 v]
    omega
  · rw [show sumK (emptyD ns key) = 0 from sum_zero _ _ h2]
    omega
theorem spread_bump {ns : List NodeD} {key v : List UInt8} {D : DataW Unit} {c : Nat} (h : SpreadAt ns key D c) (hc : c ≤ 1000) (hv : v ∈ strKeys (emptyD ns key)) : SpreadAt ns key (bumpD D v) (c + 1) := by
  have hm : v ∈ strKeys D := h.keys.mem_iff.2 hv
  have hw : wrap64 (valD D v + 1) = valD D v + 1 := IntWalk.wrap64_in _ (by have := h.vals v; omega)
  have e : bumpD D v = D.put (.string v) (.lit (.int .i64 (valD D v + 1))) := by
    rw [← hw]
    rfl
  have hval : ∀ u, valD (bumpD D v) u = if u = v then valD D v + 1 else valD D u := by
    intro u
    rw [e, val_put h.keyed]
    rfl
  have hk : (strKeys (bumpD D v)).Perm (strKeys D) := by
    rw [e]
    exact keys_same h.keyed hm _
  refine ⟨by rw [e]; exact h.keyed.put v _, hk.trans h.keys, fun u => ?_, ?_⟩
  · rw [hval]
    have h1 := h.vals v
    have h2 := h.vals u
    split <;> omega
  · have h1 : sumK (bumpD D v) = ((strKeys D).map (valD (bumpD D v))).sum := sum_perm (hk.map _)
    rw [h1, sum_turn (f := valD D) (v := v) h.keyed.once (fun u hu => by rw [hval, if_neg hu]), if_pos hm, hval, if_pos rfl]
    have := h.sum
    unfold sumK at this
    omega
theorem spread_from (ns : List NodeD) (key : List UInt8) (p : List Int) : ∀ (ys : List Nat) (D : DataW Unit) (c : Nat), SpreadAt ns key D c → c + ys.length ≤ 1000 → SpreadAt ns key (ys.foldl (spreadS ns key p) D) (c + ys.length)
  | [], D, c, h, _ => h
  | y :: t, D, c, h, hl => by
    rw [List.length_cons] at hl
    have hs : SpreadAt ns key (spreadS ns key p D y) (c + 1) := by
      unfold spreadS
      cases hy : p[y]? with
      | none => exact h.mono (by omega)
      | some x =>
        dsimp only
        cases hd : domF ns x key with
        | none => exact h.mono (by omega)
        | some v => exact spread_bump h (by omega) (empty_has hd)
    have := spread_from ns key p t _ (c + 1) hs (by omega)
    rw [List.foldl_cons, List.length_cons, show c + (t.length + 1) = c + 1 + t.length by omega]
    exact this
theorem spread_all (ns : List NodeD) (key : List UInt8) (p : List Int) (ys : List Nat) (h : ys.length ≤ 1000) : SpreadAt ns key (spreadD ns key p ys) ys.length := by
  have := spread_from ns key p ys _ 0 (spread_zero ns key) (by omega)
  rwa [Nat.zero_add] at this

end Go.Proofs.YtmmokiaipfalmaaGreat

namespace Go.Proofs.YtmmokiaipfalmaaGreat
open Go.RowKit Go.Maps Go.Sort

/-- Which value a node has for a key. -/
def valK (x : NodeD) (key : List UInt8) : Option (List UInt8) := if x.lost then none else (x.labels.find? (fun y => decide (y.1 = key))).map (·.2)
end Go.Proofs.YtmmokiaipfalmaaGreat

namespace Go.Proofs.YtmmokiaipfalmaaGreat
open Go.RowKit Go.Maps Go.Sort

/-- A text put where it belongs, unless it is there. -/
def insS (v : List UInt8) : List (List UInt8) → List (List UInt8)
  | [] => [v]
  | x :: t => if Op.bytesLess x v then x :: insS v t else if x = v then x :: t else v :: x :: t
def domsR (ns : List NodeD) (key : List UInt8) : Nat → List (List UInt8)
  | 0 => []
  | k + 1 => match domF ns (k : Int) key with
    | some v => insS v (domsR ns key k)
    | none => domsR ns key k
theorem ins_mem (v u : List UInt8) : ∀ l, u ∈ insS v l ↔ u = v ∨ u ∈ l
  | [] => by simp [insS]
  | x :: t => by
    have ih := ins_mem v u t
    rw [insS]
    split
    · rw [List.mem_cons, ih, List.mem_cons]
      constructor
      · rintro (h | h | h)
        · exact .inr (.inl h)
        · exact .inl h
        · exact .inr (.inr h)
      · rintro (h | h | h)
        · exact .inr (.inl h)
        · exact .inl h
        · exact .inr (.inr h)
    · split
      · rename_i _ e
        subst e
        rw [List.mem_cons]
        constructor
        · exact .inr
        · rintro (h | h)
          · exact .inl h
          · exact h
      · rw [List.mem_cons]
theorem ins_len (v : List UInt8) : ∀ l, (insS v l).length ≤ l.length + 1
  | [] => by simp [insS]
  | x :: t => by
    have ih := ins_len v t
    rw [insS]
    split
    · simp only [List.length_cons]; omega
    · split <;> simp
theorem domsR_len (ns : List NodeD) (key : List UInt8) : ∀ k, (domsR ns key k).length ≤ k
  | 0 => Nat.le_refl _
  | k + 1 => by
    have ih := domsR_len ns key k
    rw [domsR]
    split
    · have := ins_len ‹_› (domsR ns key k)
      omega
    · omega
/-- One stands ahead of another. -/
def Ahead (a b : List UInt8) : Prop := a ≤ b ∧ a ≠ b
theorem less_ahead {a b : List UInt8} (h : Op.bytesLess a b = true) : Ahead a b := by
  rw [Proofs.bytesLess_eq, decide_eq_true_eq] at h
  exact ⟨List.le_of_lt h, fun e => List.lt_irrefl _ (e ▸ h)⟩
theorem less_not {a b : List UInt8} (h : Op.bytesLess a b = false) : b ≤ a := by
  rw [Proofs.bytesLess_eq, decide_eq_false_iff_not] at h
  exact List.not_lt.1 h
theorem Ahead.trans {a b c : List UInt8} (h : Ahead a b) (k : Ahead b c) : Ahead a c :=
  ⟨List.le_trans h.1 k.1, fun e => h.2 (List.le_antisymm h.1 (e ▸ k.1))⟩
theorem ins_rises (v : List UInt8) : ∀ l : List (List UInt8), l.Pairwise Ahead → (insS v l).Pairwise Ahead
  | [], _ => by simp [insS]
  | x :: t, h => by
    obtain ⟨h1, h2⟩ := List.pairwise_cons.1 h
    rw [insS]
    split
    · rename_i hl
      refine List.pairwise_cons.2 ⟨fun u hu => ?_, ins_rises v t h2⟩
      rcases (ins_mem v u t).1 hu with rfl | hm
      · exact less_ahead hl
      · exact h1 u hm
    · rename_i hl
      split
      · exact h
      · rename_i hne
        have hv : Ahead v x := ⟨less_not (by simpa using hl), fun e => hne e.symm⟩
        exact List.pairwise_cons.2 ⟨fun u hu => by
          rcases List.mem_cons.1 hu with rfl | hm
          · exact hv
          · exact hv.trans (h1 u hm), h⟩
theorem doms_same (ns : List NodeD) (key : List UInt8) : ∀ k, (domsR ns key k).Pairwise Ahead ∧ ∀ u, u ∈ domsR ns key k ↔ u ∈ strKeys (domsU ns key k)
  | 0 => ⟨List.Pairwise.nil, fun u => by
    show u ∈ [] ↔ u ∈ strKeys (.map [])
    simp [strKeys]⟩
  | k + 1 => by
    obtain ⟨h1, h2⟩ := doms_same ns key k
    rw [domsR, domsU]
    cases hd : domF ns (k : Int) key with
    | none => exact ⟨h1, h2⟩
    | some v =>
      refine ⟨ins_rises v _ h1, fun u => ?_⟩
      dsimp only
      rw [ins_mem, mem_put (keyed_doms ns key k).1, h2]
theorem doms_sort (ns : List NodeD) (key : List UInt8) (k : Nat) : sortK (domsU ns key k) = domsR ns key k := by
  obtain ⟨h1, h2⟩ := doms_same ns key k
  have hnd : (domsR ns key k).Nodup := h1.imp (fun h => h.2)
  have hp : (domsR ns key k).Perm (strKeys (domsU ns key k)) := (List.perm_ext_iff_of_nodup hnd (keyed_doms ns key k).1.once).2 h2
  have e := mergeSort_of_perm hp
  unfold sortK
  rw [← e]
  exact List.mergeSort_of_pairwise (h1.imp (fun h => decide_eq_true h.1))
end Go.Proofs.YtmmokiaipfalmaaGreat

namespace Go.Proofs.YtmmokiaipfalmaaGreat
open Go.RowKit Go.Shelf Go.Maps Go.Sort

theorem members_in (ps : List PodD) (name : List UInt8) : ∀ n, ∀ y ∈ membersU ps name n, 0 ≤ y ∧ y < (n : Int)
  | 0, y, h => by cases h
  | n + 1, y, h => by
    rw [membersU, List.mem_append] at h
    rcases h with h | h
    · have := members_in ps name n y h
      omega
    · cases hn : ps[n]? with
      | none => rw [hn] at h; cases h
      | some x =>
        rw [hn] at h
        dsimp only at h
        by_cases e : x.owner = name
        · rw [if_pos e] at h
          simp only [List.mem_singleton] at h
          omega
        · rw [if_neg e] at h
          cases h
theorem off_in {ns : List NodeD} {ps : List PodD} {os : List OwnD} {p : List Int} (hE : placeE ns ps os p = 0) (name : List UInt8) : ∀ y ∈ offL p (membersF ps name), ∃ x, p[y]? = some x ∧ 0 ≤ x ∧ x < (ns.length : Int) := by
  intro y hy
  unfold offL at hy
  obtain ⟨h1, h2⟩ := List.mem_filter.1 hy
  obtain ⟨z, hz, rfl⟩ := List.mem_map.1 h1
  have h3 := members_in ps name ps.length z hz
  have hl := placeE_len hE
  have hlt : z.toNat < p.length := by omega
  refine ⟨p[z.toNat], List.getElem?_eq_getElem hlt, ?_⟩
  have h4 : p[z.toNat] ≠ -1 := by
    intro e
    rw [List.getElem?_eq_getElem hlt, e] at h2
    simp at h2
  obtain ⟨n, hn, hn2⟩ := tpB_lt (placeE_on hE (List.getElem?_eq_getElem hlt) h4)
  omega

end Go.Proofs.YtmmokiaipfalmaaGreat

namespace Go.Proofs.YtmmokiaipfalmaaGreat
open Go.RowKit Go.Maps Go.Sort

/-- What is told of an owner that is asked for. -/
theorem owned_is {ns : List NodeD} {ps : List PodD} {os : List OwnD} {p : List Int} {k : Int} (h : ownerB ns ps os p k = true) :
    ∃ (ko : Nat) (xo : OwnD), k = (ko : Int) ∧ os[ko]? = some xo ∧ placeE ns ps os p = 0 ∧ countsF ns ps os p k = cntL ns.length p (offL p (membersF ps xo.name)) ∧ placedF ns ps os p k = ((offL p (membersF ps xo.name)).length : Int) ∧ spreadF ns ps os p k = rowD (spreadD ns xo.topo p (offL p (membersF ps xo.name))) := by
  obtain ⟨h1, n, x, rfl, hx⟩ := ownerB_parts h
  have ho : ofF ps os p (n : Int) = offL p (membersF ps x.name) := by
    unfold ofF
    rw [Int.toNat_natCast, hx]
  refine ⟨n, x, rfl, hx, h1, ?_, ?_, ?_⟩
  · unfold countsF
    rw [if_pos h, ho]
  · unfold placedF
    rw [if_pos h, ho]
  · unfold spreadF
    rw [if_pos h, Int.toNat_natCast, hx]

end Go.Proofs.YtmmokiaipfalmaaGreat

namespace Go.Proofs.YtmmokiaipfalmaaGreat.La
open Go.RowKit

set_option maxRecDepth 100000 in
set_option maxHeartbeats 1000000 in
theorem indexFunc_any (p : List UInt8 × List UInt8 → Bool) (g : FuncId) (q : Value) (A : Option Addr) (c : Nat) (l : List (List UInt8 × List UInt8)) (w : World) (hn : l.length ≤ 1000) (_hc : l.length ≤ c) (hs : SlAt w A (cellsL l))
    (hg1 : ∀ (args : Array Value) (w : World), (callFunc g args).run Tryz.prog w = .ok (.enter g args) w)
    (hcl : ∀ (x : List UInt8 × List UInt8) (w' : World), Below w.heap.size w w' → Calls Tryz.prog g #[labV x, q] w' fun e w'' => e = .returned (.bool (p x)) ∧ Below w'.heap.size w' w'') :
    Calls Tryz.prog 388 #[.slice A l.length c, .func (Fn.func g) #[] #[q]] w fun e w' => (∃ i : Int, e = .returned (.int .i64 i) ∧ -1 ≤ i ∧ i ≤ 1000 ∧ (decide (0 ≤ i) = l.any p)) ∧ Below w.heap.size w w' := by
  have HS := Lib.hid hs
  have Hcl := Lib.hid hcl
  clear hs hcl
  go_enter Tryz.func388, Tryz.ntmps388
  go_wp2
  go_loopw [8] (fun i wr => ∃ k : Nat, k ≤ l.length ∧ i = .int .i64 k ∧ (l.take k).any p = false ∧ Below w.heap.size w wr) (fun i _ => l.length - (intOf i).toNat)
  case atStart => exact ⟨0, by omega, rfl, rfl, Below.refl _ _⟩
  case round =>
    obtain ⟨k, hk, rfl, hp, hbw⟩ := hrel
    have Hp := Lib.hid hp
    have Hbw := Lib.hid hbw
    clear hp hbw
    by_cases hlt : k < l.length
    · obtain ⟨x, hxk⟩ : ∃ x, l[k]? = some x := ⟨l[k], List.getElem?_eq_getElem hlt⟩
      obtain ⟨b0, o0, hA, hb0, hx⟩ := SlAt.lab (HS.out.below Hbw.out) hxk
      have ht : l.take (k + 1) = l.take k ++ [x] := by rw [List.take_add_one, hxk]; rfl
      subst hA
      have hx0 : wr.cell? ⟨b0, o0 + k * 2, none⟩ = some (strV x.1) := hx.1
      have hx1 : wr.cell? ⟨b0, o0 + k * 2 + 1, none⟩ = some (strV x.2) := hx.2
      have Hx := Lib.hid hx
      have Hk := Lib.hid hxk
      have Ht := Lib.hid ht
      clear hx hxk ht
      cases hpx : p x
      · have K := Lib.hid (Hcl.out x wr Hbw.out)
        rw [hpx] at K
        have Hpx := Lib.hid hpx
        clear hpx
        go_wp2_with fail
        refine K.out.mono ?_
        rintro e w2 ⟨rfl, hb2⟩
        have Hbw2 := Lib.hid (Hbw.out.trans (hb2.mono Hbw.out.size))
        clear hb2
        go_wp2
        go_roundw
        case rel => exact ⟨k + 1, by omega, by go_num, by rw [Ht.out, List.any_append, Hp.out]; simp [Hpx.out], Hbw2.out⟩
        case measure => simp [intOf]; omega
      · have K := Lib.hid (Hcl.out x wr Hbw.out)
        rw [hpx] at K
        have Hpx := Lib.hid hpx
        clear hpx
        go_wp2_with fail
        refine K.out.mono ?_
        rintro e w2 ⟨rfl, hb2⟩
        have Hbw2 := Lib.hid (Hbw.out.trans (hb2.mono Hbw.out.size))
        clear hb2
        go_wp2
        go_ret
        refine ⟨⟨(k : Int), rfl, by omega, by omega, ?_⟩, Hbw2.out⟩
        have : l.any p = true := List.any_eq_true.2 ⟨x, List.mem_of_getElem? Hk.out, Hpx.out⟩
        rw [this]
        simp
    · obtain rfl : k = l.length := by omega
      go_wp2
      go_ret
      refine ⟨⟨-1, rfl, by omega, by omega, ?_⟩, Hbw.out⟩
      have := Hp.out
      rw [List.take_length] at this
      rw [this]
      simp

set_option maxHeartbeats 400000 in
theorem containsFunc_any (p : List UInt8 × List UInt8 → Bool) (g : FuncId) (q : Value) (A : Option Addr) (c : Nat) (l : List (List UInt8 × List UInt8)) (w : World) (hn : l.length ≤ 1000) (hc : l.length ≤ c) (hs : SlAt w A (cellsL l))
    (hg1 : ∀ (args : Array Value) (w : World), (callFunc g args).run Tryz.prog w = .ok (.enter g args) w)
    (hcl : ∀ (x : List UInt8 × List UInt8) (w' : World), Below w.heap.size w w' → Calls Tryz.prog g #[labV x, q] w' fun e w'' => e = .returned (.bool (p x)) ∧ Below w'.heap.size w' w'') :
    Calls Tryz.prog 377 #[.slice A l.length c, .func (Fn.func g) #[] #[q]] w fun e w' => e = .returned (.bool (l.any p)) ∧ Below w.heap.size w w' := by
  have K := Lib.hid (indexFunc_any p g q A c l w hn hc hs hg1 hcl)
  clear hs hcl hg1
  go_enter Tryz.func377, Tryz.ntmps377
  go_wp2_with fail
  refine K.out.mono ?_
  rintro e w1 ⟨⟨i, rfl, hi0, hi1, hi⟩, hb⟩
  have HB := Lib.hid hb
  have Hi := Lib.hid hi
  clear hb hi
  go_wp2
  go_ret
  exact ⟨retB (by rw [← Hi.out]), HB.out⟩

def keyP (t : Int × List UInt8 × List UInt8) (x : List UInt8 × List UInt8) : Bool := decide (x.1 = t.2.1)
def bothP (t : Int × List UInt8 × List UInt8) (x : List UInt8 × List UInt8) : Bool := decide (x.1 = t.2.1) && decide (x.2 = t.2.2)
def holdL (t : Int × List UInt8 × List UInt8) (l : List (List UInt8 × List UInt8)) : Bool :=
  if t.1 = 1 then l.any (bothP t) else if t.1 = 2 then !l.any (bothP t) else if t.1 = 3 then l.any (keyP t) else !l.any (keyP t)

set_option maxHeartbeats 400000 in
theorem hold1_any (t : Int × List UInt8 × List UInt8) (x : List UInt8 × List UInt8) (b : Nat) (w : World) (h : Blk w b #[.int .i64 t.1, strV t.2.1, strV t.2.2] 98) :
    Calls Tryz.prog 386 #[labV x, .pointer (some ⟨b, 0, none⟩)] w fun e w' => e = .returned (.bool (keyP t x)) ∧ Below w.heap.size w w' := by
  obtain ⟨d0, d1, d2, f0, f1, f2⟩ := Blk.c3 h
  have hlt := h.lt
  clear h
  go_enter Tryz.func386, Tryz.ntmps386
  go_wp2
  go_ret
  refine ⟨retB ?_, below1 _ _⟩
  unfold keyP
  rw [Bool.eq_iff_iff]
  simp

set_option maxHeartbeats 400000 in
theorem hold2_any (t : Int × List UInt8 × List UInt8) (x : List UInt8 × List UInt8) (b : Nat) (w : World) (h : Blk w b #[.int .i64 t.1, strV t.2.1, strV t.2.2] 98) :
    Calls Tryz.prog 387 #[labV x, .pointer (some ⟨b, 0, none⟩)] w fun e w' => e = .returned (.bool (bothP t x)) ∧ Below w.heap.size w w' := by
  obtain ⟨d0, d1, d2, f0, f1, f2⟩ := Blk.c3 h
  have hlt := h.lt
  clear h
  go_enter Tryz.func387, Tryz.ntmps387
  go_wp2
  all_goals
    go_ret
    refine ⟨retB ?_, below1 _ _⟩
    unfold bothP
    rw [Bool.eq_iff_iff]
    simp_all

set_option maxHeartbeats 1000000 in
theorem holds1_any (t : Int × List UInt8 × List UInt8) (A : Option Addr) (c : Nat) (l : List (List UInt8 × List UInt8)) (w : World) (hn : l.length ≤ 1000) (hc : l.length ≤ c) (hs : SlAt w A (cellsL l)) :
    Calls Tryz.prog 375 #[terV t, .slice A l.length c] w fun e w' => e = .returned (.bool (holdL t l)) ∧ Below w.heap.size w w' := by
  have hS := hs.below (below1 w (.cells #[.int .i64 t.1, strV t.2.1, strV t.2.2] 98))
  have hT := Blk.new w #[.int .i64 t.1, strV t.2.1, strV t.2.2] 98
  have K1 := Lib.hid (containsFunc_any (keyP t) 386 (.pointer (some ⟨w.heap.size, 0, none⟩)) A c l _ hn hc hS (fun _ _ => by kernel_rfl) (fun x w' hb => hold1_any t x w.heap.size w' (hT.below hb hT.lt)))
  have K2 := Lib.hid (containsFunc_any (bothP t) 387 (.pointer (some ⟨w.heap.size, 0, none⟩)) A c l _ hn hc hS (fun _ _ => by kernel_rfl) (fun x w' hb => hold2_any t x w.heap.size w' (hT.below hb hT.lt)))
  have HB := Lib.hid (below1 w (.cells #[.int .i64 t.1, strV t.2.1, strV t.2.2] 98))
  clear hs hS hT
  obtain ⟨k, a, b⟩ := t
  simp only at K1 K2 HB
  by_cases h1 : k = 1
  · have hb1 : (k == 1) = true := by simpa using h1
    have E : Hid (holdL (k, a, b) l = l.any (bothP (k, a, b))) := by show holdL _ _ = _; unfold holdL; rw [if_pos h1]
    have H1 := Lib.hid h1
    clear h1
    go_enter Tryz.func375, Tryz.ntmps375
    go_wp2_with fail
    refine K2.out.mono ?_
    rintro e w1 ⟨rfl, hb⟩
    have HB2 := Lib.hid (HB.out.trans (hb.mono HB.out.size))
    clear hb
    go_wp2
    go_ret
    exact ⟨retB (by rw [E.out]), HB2.out⟩
  · have hb1 : (k == 1) = false := by simpa using h1
    have H1 := Lib.hid h1
    clear h1
    by_cases h2 : k = 2
    · have hb2 : (k == 2) = true := by simpa using h2
      have E : Hid (holdL (k, a, b) l = !l.any (bothP (k, a, b))) := by show holdL _ _ = _; unfold holdL; rw [if_neg H1.out, if_pos h2]
      have H2 := Lib.hid h2
      clear h2
      go_enter Tryz.func375, Tryz.ntmps375
      go_wp2_with fail
      refine K2.out.mono ?_
      rintro e w1 ⟨rfl, hb⟩
      have HB2 := Lib.hid (HB.out.trans (hb.mono HB.out.size))
      clear hb
      go_wp2
      go_ret
      exact ⟨retB (by rw [E.out]), HB2.out⟩
    · have hb2 : (k == 2) = false := by simpa using h2
      have H2 := Lib.hid h2
      clear h2
      by_cases h3 : k = 3
      · have hb3 : (k == 3) = true := by simpa using h3
        have E : Hid (holdL (k, a, b) l = l.any (keyP (k, a, b))) := by show holdL _ _ = _; unfold holdL; rw [if_neg H1.out, if_neg H2.out, if_pos h3]
        have H3 := Lib.hid h3
        clear h3
        go_enter Tryz.func375, Tryz.ntmps375
        go_wp2_with fail
        refine K1.out.mono ?_
        rintro e w1 ⟨rfl, hb⟩
        have HB2 := Lib.hid (HB.out.trans (hb.mono HB.out.size))
        clear hb
        go_wp2
        go_ret
        exact ⟨retB (by rw [E.out]), HB2.out⟩
      · have hb3 : (k == 3) = false := by simpa using h3
        have E : Hid (holdL (k, a, b) l = !l.any (keyP (k, a, b))) := by show holdL _ _ = _; unfold holdL; rw [if_neg H1.out, if_neg H2.out, if_neg h3]
        have H3 := Lib.hid h3
        clear h3
        go_enter Tryz.func375, Tryz.ntmps375
        go_wp2_with fail
        refine K1.out.mono ?_
        rintro e w1 ⟨rfl, hb⟩
        have HB2 := Lib.hid (HB.out.trans (hb.mono HB.out.size))
        clear hb
        go_wp2
        go_ret
        exact ⟨retB (by rw [E.out]), HB2.out⟩

def holdsL (ts : List (Int × List UInt8 × List UInt8)) (l : List (List UInt8 × List UInt8)) : Bool := ts.all (fun t => holdL t l)

set_option maxHeartbeats 1000000 in
theorem holds_any (A1 A2 : Option Addr) (c1 c2 : Nat) (ts : List (Int × List UInt8 × List UInt8)) (l : List (List UInt8 × List UInt8)) (w : World) (hn1 : ts.length ≤ 1000) (_hc1 : ts.length ≤ c1) (hn : l.length ≤ 1000) (hc : l.length ≤ c2) (ht : SlAt w A1 (cellsT ts)) (hs : SlAt w A2 (cellsL l)) :
    Calls Tryz.prog 355 #[.slice A1 ts.length c1, .slice A2 l.length c2] w fun e w' => e = .returned (.bool (holdsL ts l)) ∧ Below w.heap.size w w' := by
  have HT := Lib.hid ht
  have HS := Lib.hid hs
  clear ht hs
  go_enter Tryz.func355, Tryz.ntmps355
  go_wp2
  go_loopw [9] (fun i wr => ∃ k : Nat, k ≤ ts.length ∧ i = .int .i64 k ∧ (ts.take k).all (fun t => holdL t l) = true ∧ Below w.heap.size w wr) (fun i _ => ts.length - (intOf i).toNat)
  case atStart => exact ⟨0, by omega, rfl, rfl, Below.refl _ _⟩
  case round =>
    obtain ⟨k, hk, rfl, hp, hbw⟩ := hrel
    have Hp := Lib.hid hp
    have Hbw := Lib.hid hbw
    clear hp hbw
    by_cases hlt : k < ts.length
    · obtain ⟨x, hxk⟩ : ∃ x, ts[k]? = some x := ⟨ts[k], List.getElem?_eq_getElem hlt⟩
      obtain ⟨b0, o0, hA, hb0, hx⟩ := SlAt.ter (HT.out.below Hbw.out) hxk
      have htk : ts.take (k + 1) = ts.take k ++ [x] := by rw [List.take_add_one, hxk]; rfl
      subst hA
      have hx0 : wr.cell? ⟨b0, o0 + k * 3, none⟩ = some (.int .i64 x.1) := hx.1
      have hx1 : wr.cell? ⟨b0, o0 + k * 3 + 1, none⟩ = some (strV x.2.1) := hx.2.1
      have hx2 : wr.cell? ⟨b0, o0 + k * 3 + 2, none⟩ = some (strV x.2.2) := hx.2.2
      have Hk := Lib.hid hxk
      have Ht := Lib.hid htk
      clear hx hxk htk
      have K := Lib.hid (holds1_any x A2 c2 l _ hn hc ((HS.out.below Hbw.out).below (below1 wr (.cells #[.int .i64 x.1, strV x.2.1, strV x.2.2] 98))))
      have Hbw1 := Lib.hid (Hbw.out.alloc Hbw.out.size (.cells #[.int .i64 x.1, strV x.2.1, strV x.2.2] 98))
      cases hpx : holdL x l
      · rw [hpx] at K
        have Hpx := Lib.hid hpx
        clear hpx
        go_wp2_with fail
        refine K.out.mono ?_
        rintro e w2 ⟨rfl, hb2⟩
        have Hbw2 := Lib.hid (Hbw1.out.trans (hb2.mono Hbw1.out.size))
        clear hb2
        go_wp2
        go_ret
        refine ⟨retB ?_, Hbw2.out⟩
        symm
        unfold holdsL
        rw [List.all_eq_false]
        exact ⟨x, List.mem_of_getElem? Hk.out, by rw [Hpx.out]; simp⟩
      · rw [hpx] at K
        have Hpx := Lib.hid hpx
        clear hpx
        go_wp2_with fail
        refine K.out.mono ?_
        rintro e w2 ⟨rfl, hb2⟩
        have Hbw2 := Lib.hid (Hbw1.out.trans (hb2.mono Hbw1.out.size))
        clear hb2
        go_wp2
        go_roundw
        case rel => exact ⟨k + 1, by omega, by go_num, by rw [Ht.out, List.all_append, Hp.out]; simp [Hpx.out], Hbw2.out⟩
        case measure => simp [intOf]; omega
    · obtain rfl : k = ts.length := by omega
      go_wp2
      go_ret
      refine ⟨retB ?_, Hbw.out⟩
      have := Hp.out
      rw [List.take_length] at this
      exact this.symm

def bearP (t x : List UInt8 × List UInt8) : Bool := decide (x.1 = t.1) && (decide (x.2 = t.2) || decide (x.2 = [42]))
def bearsL (bs ts : List (List UInt8 × List UInt8)) : Bool := ts.all (fun t => bs.any (bearP t))

set_option maxHeartbeats 400000 in
theorem bear1_any (t x : List UInt8 × List UInt8) (b : Nat) (w : World) (h : Blk w b #[strV t.1, strV t.2] 100) :
    Calls Tryz.prog 376 #[labV x, .pointer (some ⟨b, 0, none⟩)] w fun e w' => e = .returned (.bool (bearP t x)) ∧ Below w.heap.size w w' := by
  obtain ⟨d0, d1, f0, f1⟩ := Blk.c2 h
  have hlt := h.lt
  clear h
  go_enter Tryz.func376, Tryz.ntmps376
  go_wp2
  all_goals
    go_ret
    refine ⟨retB ?_, below1 _ _⟩
    unfold bearP
    rw [Bool.eq_iff_iff]
    simp_all

set_option maxHeartbeats 1000000 in
theorem bears_any (A1 A2 : Option Addr) (c1 c2 : Nat) (bs ts : List (List UInt8 × List UInt8)) (w : World) (hn1 : bs.length ≤ 1000) (hc1 : bs.length ≤ c1) (hn : ts.length ≤ 1000) (_hc : ts.length ≤ c2) (hb : SlAt w A1 (cellsL bs)) (ht : SlAt w A2 (cellsL ts)) :
    Calls Tryz.prog 356 #[.slice A1 bs.length c1, .slice A2 ts.length c2] w fun e w' => e = .returned (.bool (bearsL bs ts)) ∧ Below w.heap.size w w' := by
  have HT := Lib.hid ht
  have HS := Lib.hid hb
  clear ht hb
  go_enter Tryz.func356, Tryz.ntmps356
  go_wp2
  go_loopw [10] (fun i wr => ∃ k : Nat, k ≤ ts.length ∧ i = .int .i64 k ∧ (ts.take k).all (fun t => bs.any (bearP t)) = true ∧ Below w.heap.size w wr) (fun i _ => ts.length - (intOf i).toNat)
  case atStart => exact ⟨0, by omega, rfl, rfl, Below.refl _ _⟩
  case round =>
    obtain ⟨k, hk, rfl, hp, hbw⟩ := hrel
    have Hp := Lib.hid hp
    have Hbw := Lib.hid hbw
    clear hp hbw
    by_cases hlt : k < ts.length
    · obtain ⟨x, hxk⟩ : ∃ x, ts[k]? = some x := ⟨ts[k], List.getElem?_eq_getElem hlt⟩
      obtain ⟨b0, o0, hA, hb0, hx⟩ := SlAt.lab (HT.out.below Hbw.out) hxk
      have htk : ts.take (k + 1) = ts.take k ++ [x] := by rw [List.take_add_one, hxk]; rfl
      subst hA
      have hx0 : wr.cell? ⟨b0, o0 + k * 2, none⟩ = some (strV x.1) := hx.1
      have hx1 : wr.cell? ⟨b0, o0 + k * 2 + 1, none⟩ = some (strV x.2) := hx.2
      have Hk := Lib.hid hxk
      have Ht := Lib.hid htk
      clear hx hxk htk
      have hT := Blk.new wr #[strV x.1, strV x.2] 100
      have K := Lib.hid (containsFunc_any (bearP x) 376 (.pointer (some ⟨wr.heap.size, 0, none⟩)) A1 c1 bs _ hn1 hc1 ((HS.out.below Hbw.out).below (below1 wr (.cells #[strV x.1, strV x.2] 100))) (fun _ _ => by kernel_rfl) (fun y w' hb => bear1_any x y wr.heap.size w' (hT.below hb hT.lt)))
      have Hbw1 := Lib.hid (Hbw.out.alloc Hbw.out.size (.cells #[strV x.1, strV x.2] 100))
      clear hT
      cases hpx : bs.any (bearP x)
      · rw [hpx] at K
        have Hpx := Lib.hid hpx
        clear hpx
        go_wp2_with fail
        refine K.out.mono ?_
        rintro e w2 ⟨rfl, hb2⟩
        have Hbw2 := Lib.hid (Hbw1.out.trans (hb2.mono Hbw1.out.size))
        clear hb2
        go_wp2
        go_ret
        refine ⟨retB ?_, Hbw2.out⟩
        symm
        unfold bearsL
        rw [List.all_eq_false]
        exact ⟨x, List.mem_of_getElem? Hk.out, by rw [Hpx.out]; simp⟩
      · rw [hpx] at K
        have Hpx := Lib.hid hpx
        clear hpx
        go_wp2_with fail
        refine K.out.mono ?_
        rintro e w2 ⟨rfl, hb2⟩
        have Hbw2 := Lib.hid (Hbw1.out.trans (hb2.mono Hbw1.out.size))
        clear hb2
        go_wp2
        go_roundw
        case rel => exact ⟨k + 1, by omega, by go_num, by rw [Ht.out, List.all_append, Hp.out]; simp [Hpx.out], Hbw2.out⟩
        case measure => simp [intOf]; omega
    · obtain rfl : k = ts.length := by omega
      go_wp2
      go_ret
      refine ⟨retB ?_, Hbw.out⟩
      have := Hp.out
      rw [List.take_length] at this
      exact this.symm

end Go.Proofs.YtmmokiaipfalmaaGreat.La

namespace Go.Proofs.YtmmokiaipfalmaaGreat
open Go.RowKit

/-- The value of the first of that key. -/
def getO (l : List L2) (k : List UInt8) : Option (List UInt8) := (l.find? (fun y => decide (y.1 = k))).map (·.2)
/-- Whether a term holds, by the document's words. -/
def holdO (t : T3) (l : List L2) : Bool := if t.1 = 1 then decide (getO l t.2.1 = some t.2.2) else if t.1 = 2 then !decide (getO l t.2.1 = some t.2.2) else if t.1 = 3 then (getO l t.2.1).isSome else !(getO l t.2.1).isSome
def holdsO (ts : List T3) (l : List L2) : Bool := ts.all (fun t => holdO t l)

end Go.Proofs.YtmmokiaipfalmaaGreat

namespace Go.Proofs.YtmmokiaipfalmaaGreat
open Go.RowKit

theorem getO_cons (y : L2) (t : List L2) (k : List UInt8) : getO (y :: t) k = if y.1 = k then some y.2 else getO t k := by
  unfold getO
  by_cases h : y.1 = k
  · rw [List.find?_cons_of_pos (by simpa using h), if_pos h]
    rfl
  · rw [List.find?_cons_of_neg (by simpa using h), if_neg h]
theorem getO_key (l : List L2) (k : List UInt8) : (getO l k).isSome = l.any (fun x => decide (x.1 = k)) := by
  induction l with
  | nil => rfl
  | cons y t ih =>
    rw [getO_cons, List.any_cons]
    by_cases h : y.1 = k
    · rw [if_pos h, decide_eq_true h]
      rfl
    · rw [if_neg h, decide_eq_false h, ih, Bool.false_or]
theorem getO_both (l : List L2) (hp : l.Pairwise (fun x y => x.1 ≠ y.1)) (k v : List UInt8) : decide (getO l k = some v) = l.any (fun x => decide (x.1 = k) && decide (x.2 = v)) := by
  induction l with
  | nil => rfl
  | cons y t ih =>
    obtain ⟨h1, h2⟩ := List.pairwise_cons.1 hp
    rw [getO_cons, List.any_cons]
    by_cases h : y.1 = k
    · have hr : t.any (fun x => decide (x.1 = k) && decide (x.2 = v)) = false := by
        rw [List.any_eq_false]
        intro z hz
        have : z.1 ≠ k := fun e => h1 z hz (h.trans e.symm)
        simp [this]
      rw [if_pos h, decide_eq_true h, hr]
      simp
    · rw [if_neg h, decide_eq_false h, Bool.false_and, Bool.false_or, ih h2]
theorem holdO_eq (l : List L2) (hp : l.Pairwise (fun x y => x.1 ≠ y.1)) (t : T3) : holdO t l = La.holdL t l := by
  unfold holdO La.holdL
  rw [getO_both l hp, getO_key]
  rfl
theorem holdsO_eq (l : List L2) (hp : l.Pairwise (fun x y => x.1 ≠ y.1)) (ts : List T3) : holdsO ts l = La.holdsL ts l := by
  unfold holdsO La.holdsL
  congr 1
  funext t
  exact holdO_eq l hp t
end Go.Proofs.YtmmokiaipfalmaaGreat

namespace Go.Proofs.YtmmokiaipfalmaaGreat
open Go.RowKit

theorem chk_few {α : Type} {mb : α → Bool} {ri : α → α → Bool} {l : List α} (h : La.chkA mb ri l = 0) : l.length ≤ 6 := by
  unfold La.chkA at h
  split at h
  · cases h
  · rename_i hc
    omega
theorem chk_step {α : Type} {mb : α → Bool} {ri : α → α → Bool} {l : List α} (h : La.chkA mb ri l = 0) {k : Nat} {x y : α} (hk : l[k]? = some x) (hy : l[k + 1]? = some y) : ri x y = true := by
  unfold La.chkA at h
  split at h
  · cases h
  · rename_i hc
    have hlt := (List.getElem?_eq_some_iff.1 hy).1
    have h2 : La.chkK mb ri l (k + 1 + 1) = true := by
      cases hq : La.chkK mb ri l (k + 1 + 1) with
      | true => rfl
      | false => exact absurd (.inr (La.chkK_false hq (by omega))) hc
    rw [La.chkK, hy] at h2
    simp only [Bool.and_eq_true] at h2
    have h3 := h2.2
    unfold La.okAt at h3
    have h4 : mb y = true ∧ ri x y = true := by simpa [hk] using h3
    exact h4.2
theorem keys_ahead {mb : L2 → Bool} {l : List L2} (h : La.chkA mb La.keyR l = 0) : ∀ (d k : Nat) (x y : L2), l[k]? = some x → l[k + 1 + d]? = some y → Ahead x.1 y.1
  | 0, k, x, y, hx, hy => less_ahead (chk_step h hx hy)
  | d + 1, k, x, y, hx, hy => by
    have hlt := (List.getElem?_eq_some_iff.1 hy).1
    obtain ⟨z, hz⟩ : ∃ z, l[k + 1 + d]? = some z := ⟨l[k + 1 + d]'(by omega), List.getElem?_eq_getElem _⟩
    exact (keys_ahead h d k x z hx hz).trans (less_ahead (chk_step h hz hy))
theorem keys_differ {mb : L2 → Bool} {l : List L2} (h : La.chkA mb La.keyR l = 0) : l.Pairwise (fun x y => x.1 ≠ y.1) := by
  rw [List.pairwise_iff_getElem]
  intro i j hi hj hij
  refine (keys_ahead h (j - i - 1) i l[i] l[j] (List.getElem?_eq_getElem hi) ?_).2
  rw [show i + 1 + (j - i - 1) = j by omega]
  exact List.getElem?_eq_getElem hj
theorem node_keys {ns : List NodeD} {ps : List PodD} {os : List OwnD} (h : checkS ns ps os = 0) {x : NodeD} (hx : x ∈ ns) : x.labels.Pairwise (fun a b => a.1 ≠ b.1) ∧ x.labels.length ≤ 6 ∧ x.taints.length ≤ 6 := by
  unfold checkS at h
  split at h
  · rename_i hc
    unfold clusB at hc
    simp only [Bool.and_eq_true, List.all_eq_true] at hc
    have h1 := hc.1.1.2 x hx
    unfold nodeB at h1
    simp only [Bool.and_eq_true, beq_iff_eq] at h1
    exact ⟨keys_differ h1.1.2, chk_few h1.1.2, chk_few h1.2⟩
  · cases h
theorem pod_keys {ns : List NodeD} {ps : List PodD} {os : List OwnD} (h : checkS ns ps os = 0) {x : PodD} (hx : x ∈ ps) : x.labels.Pairwise (fun a b => a.1 ≠ b.1) ∧ x.labels.length ≤ 6 ∧ x.whr.length ≤ 6 ∧ x.bears.length ≤ 6 := by
  unfold checkS at h
  split at h
  · rename_i hc
    unfold clusB at hc
    simp only [Bool.and_eq_true, List.all_eq_true] at hc
    have h1 := (hc.1.2 x hx).1
    unfold podB at h1
    simp only [Bool.and_eq_true, beq_iff_eq] at h1
    exact ⟨keys_differ h1.1.1.1.1.2, chk_few h1.1.1.1.1.2, chk_few h1.1.1.1.2, chk_few h1.1.1.2⟩
  · cases h
end Go.Proofs.YtmmokiaipfalmaaGreat

namespace Go.Proofs.YtmmokiaipfalmaaGreat
open Go.RowKit

abbrev viewV (A B C P : Option Addr) (ca cb cc cp : Nat) (ns : List NodeD) (ps : List PodD) (os : List OwnD) (p : List Int) : Value := .agg #[.slice A ns.length ca, .slice B ps.length cb, .slice C os.length cc, .slice P p.length cp]
abbrev viewC (A B C P : Option Addr) (ca cb cc cp : Nat) (ns : List NodeD) (ps : List PodD) (os : List OwnD) (p : List Int) : Array Value := #[.slice A ns.length ca, .slice B ps.length cb, .slice C os.length cc, .slice P p.length cp]

set_option maxRecDepth 100000 in
set_option maxHeartbeats 4000000 in
theorem belowMin_any (A B C P : Option Addr) (ca cb cc cp : Nat) (ns : List NodeD) (ps : List PodD) (os : List OwnD) (p : List Int) (ko : Nat) (xo : OwnD) (hxo : os[ko]? = some xo) (w : World) (h : SnapAt w A B C ca cb cc ns ps os) (hp : IntsAt w P cp p) :
    Calls Tryz.prog 308 #[viewV A B C P ca cb cc cp ns ps os p, .int .i64 (ko : Int)] w fun e w' => e = .returned (.tuple #[.int .i64 (max 0 (wrap64 (xo.min - placedF ns ps os p (ko : Int)))), .bool true]) ∧ Below w.heap.size w w' := by
  have q0 : (0 : Int) ≤ (ko : Int) := by omega
  have q1 : (ko : Int) < (os.length : Int) := by have := (List.getElem?_eq_some_iff.1 hxo).1; omega
  have B0 : Hid (Below w.heap.size w (w.alloc (.cells (viewC A B C P ca cb cc cp ns ps os p) 256))) := Lib.hid (below1 w _)
  have S0 : Hid (Blk (w.alloc (.cells (viewC A B C P ca cb cc cp ns ps os p) 256)) w.heap.size (viewC A B C P ca cb cc cp ns ps os p) 256) := Lib.hid (Blk.new w _ _)
  obtain ⟨bo, oo, hAo, hbo, d0, d1, d2, d3, d4⟩ := atO (h.below B0.out).o hxo
  subst hAo
  have HO : Hid (∀ W', Below w.heap.size w W' → W'.cell? ⟨bo, oo + ko * 5 + 1, none⟩ = some (.int .i64 xo.min)) := Lib.hid (fun W' hb => by
    obtain ⟨b', o', hA', _, _, e1, _⟩ := atO (h.below hb).o hxo
    cases hA'
    exact e1)
  have KP := Lib.hid (fun W' (hb : Below w.heap.size w W') => placed_any A B (some ⟨bo, oo, none⟩) P ca cb cc cp ns ps os p (ko : Int) W' (h.below hb) (hp.below hb))
  generalize placedF ns ps os p (ko : Int) = m at KP ⊢
  clear h hp hxo d0 d1 d2 d3 d4
  go_enter Tryz.func308, Tryz.ntmps308
  go_upto_region 1 with fail
  change Code.wp _ _ _ _ (w.alloc (.cells (viewC A B (some ⟨bo, oo, none⟩) P ca cb cc cp ns ps os p) 256))
  generalize (w.alloc (.cells (viewC A B (some ⟨bo, oo, none⟩) P ca cb cc cp ns ps os p) 256)) = W at B0 S0 ⊢
  have HZ := Lib.hid (fun W' (hb : Below W.heap.size W W') => (show W'.cell? ⟨w.heap.size, 0, none⟩ = some (.slice A ns.length ca) ∧ W'.cell? ⟨w.heap.size, 1, none⟩ = some (.slice B ps.length cb) ∧ W'.cell? ⟨w.heap.size, 2, none⟩ = some (.slice (some ⟨bo, oo, none⟩) os.length cc) ∧ W'.cell? ⟨w.heap.size, 3, none⟩ = some (.slice P p.length cp) from ⟨Blk.cell (S0.out.below hb S0.out.lt) 0, Blk.cell (S0.out.below hb S0.out.lt) 1, Blk.cell (S0.out.below hb S0.out.lt) 2, Blk.cell (S0.out.below hb S0.out.lt) 3⟩))
  have HT := Lib.hid (fun W' (hb : Below W.heap.size W W') => B0.out.trans (hb.mono B0.out.size))
  have HB : Hid (Below W.heap.size W W.drew) := Lib.hid (Below.refl _ _).drew
  obtain ⟨z0, z1, z2, z3⟩ := HZ.out _ HB.out
  have z4 := HO.out _ (HT.out _ HB.out)
  clear B0 S0
  go_region_held3 (fun w' => w'.cell? ⟨w.heap.size, 0, none⟩ = some (.slice A ns.length ca) ∧ w'.cell? ⟨w.heap.size, 1, none⟩ = some (.slice B ps.length cb) ∧ w'.cell? ⟨w.heap.size, 2, none⟩ = some (.slice (some ⟨bo, oo, none⟩) os.length cc) ∧ w'.cell? ⟨w.heap.size, 3, none⟩ = some (.slice P p.length cp) ∧ w'.cell? ⟨bo, oo + ko * 5 + 1, none⟩ = some (.int .i64 xo.min)) (first | exact ⟨z0, z1, z2, z3, z4⟩ | exact ⟨by assumption, by assumption, by assumption, by assumption, by assumption⟩)
    (first
      | (go_at_call 360
         with_reducible refine (KP.out _ (HT.out _ HB.out)).mono ?_
         rintro e wA ⟨rfl, hbA⟩
         have HB := Lib.hid (HB.out.trans (hbA.mono HB.out.size))
         obtain ⟨z0, z1, z2, z3⟩ := HZ.out _ HB.out
         have z4 := HO.out _ (HT.out _ HB.out)
         clear hbA))
  all_goals
    have D := Lib.hid (HT.out _ HB.out)
    go_wp2
    go_ret2
    have e : wrap64 (xo.min - m) = IntKind.i64.wrap (xo.min - m) := (IntWalk.i64_left _).symm
    exact ⟨by rw [e]; rfl, D.out⟩
end Go.Proofs.YtmmokiaipfalmaaGreat

namespace Go.Proofs.YtmmokiaipfalmaaGreat
open Go.RowKit

/-- How many of a list are so. -/
def numL {α : Type} (f : α → Bool) (l : List α) : Nat := (l.filter f).length
theorem numL_snoc {α : Type} (f : α → Bool) {l : List α} {k : Nat} {y : α} (hy : l[k]? = some y) : numL f (l.take (k + 1)) = numL f (l.take k) + (if f y then 1 else 0) := by
  unfold numL
  rw [List.take_add_one, hy, List.filter_append, List.length_append]
  cases h : f y <;> simp [h]
theorem numL_le {α : Type} (f : α → Bool) (l : List α) : numL f l ≤ l.length := List.length_filter_le _ _
def termsO (ts : List T3) (l : List L2) : Nat := numL (fun t => !holdO t l) ts
def taintsO (ts bs : List L2) : Nat := numL (fun t => !La.bearsL bs [t]) ts

end Go.Proofs.YtmmokiaipfalmaaGreat

namespace Go.Proofs.YtmmokiaipfalmaaGreat
open Go.RowKit

/-- Whether the owner of that name is single. -/
def singleO (os : List OwnD) (name : List UInt8) : Bool := match os.find? (fun o => decide (o.name = name)) with
  | some o => o.single
  | none => false
/-- How many of the first k other pods stand where that one stands, and are of its owner. -/
def doubU (ps : List PodD) (p : List Int) (pod : Nat) : Nat → Nat
  | 0 => 0
  | k + 1 => doubU ps p pod k + (if k ≠ pod ∧ p[k]? = p[pod]? ∧ (ps[k]?).map (·.owner) = (ps[pod]?).map (·.owner) then 1 else 0)
theorem doubU_le (ps : List PodD) (p : List Int) (pod : Nat) : ∀ k, doubU ps p pod k ≤ k
  | 0 => Nat.le_refl _
  | k + 1 => by
    have := doubU_le ps p pod k
    rw [doubU]
    split <;> omega

end Go.Proofs.YtmmokiaipfalmaaGreat

namespace Go.Proofs.YtmmokiaipfalmaaGreat
open Go.RowKit Go.Maps Go.Sort

/-- What those of the first nodes have together that have that value. -/
def sumV (ns : List NodeD) (key : List UInt8) (L : List Int) (v : List UInt8) : Nat → Int
  | 0 => 0
  | k + 1 => sumV ns key L v k + (if domF ns (k : Int) key = some v then L.getD k 0 else 0)
theorem sumV_zero (ns : List NodeD) (key v : List UInt8) (L : List Int) (h : ∀ k, L.getD k 0 = 0) : ∀ k, sumV ns key L v k = 0
  | 0 => rfl
  | k + 1 => by
    rw [sumV, sumV_zero ns key v L h k, h]
    split <;> rfl
theorem sumV_set (ns : List NodeD) (key v : List UInt8) (L : List Int) (q : Nat) (hq : q < L.length) : ∀ k, sumV ns key (L.set q (L.getD q 0 + 1)) v k = sumV ns key L v k + (if q < k ∧ domF ns (q : Int) key = some v then 1 else 0)
  | 0 => by
    rw [if_neg (by omega)]
    rfl
  | k + 1 => by
    rw [sumV, sumV, sumV_set ns key v L q hq k]
    by_cases e : q = k
    · subst e
      rw [if_neg (fun h => by omega)]
      by_cases hd : domF ns (q : Int) key = some v
      · rw [if_pos hd, if_pos hd, if_pos ⟨by omega, hd⟩]
        rw [List.getD_eq_getElem?_getD, List.getElem?_set_self hq]
        simp
        omega
      · rw [if_neg hd, if_neg hd, if_neg (fun h => hd h.2)]
    · have h1 : (L.set q (L.getD q 0 + 1)).getD k 0 = L.getD k 0 := by
        rw [List.getD_eq_getElem?_getD, List.getElem?_set_ne e, ← List.getD_eq_getElem?_getD]
      have h2 : (if q < k + 1 ∧ domF ns (q : Int) key = some v then (1 : Int) else 0) = if q < k ∧ domF ns (q : Int) key = some v then 1 else 0 := by
        by_cases hk : q < k ∧ domF ns (q : Int) key = some v
        · rw [if_pos hk, if_pos ⟨by omega, hk.2⟩]
        · rw [if_neg hk, if_neg (fun h => hk ⟨by omega, h.2⟩)]
      rw [h1, h2]
      omega
theorem two_from (ns : List NodeD) (key : List UInt8) (p : List Int) : ∀ (ys : List Nat) (D : DataW Unit) (L : List Int) (c : Nat), SpreadAt ns key D c → c + ys.length ≤ 1000 → L.length = ns.length → (∀ y ∈ ys, ∃ x, p[y]? = some x ∧ 0 ≤ x ∧ x < (ns.length : Int)) → (∀ v, valD D v = sumV ns key L v ns.length) → ∀ v, valD (ys.foldl (spreadS ns key p) D) v = sumV ns key (ys.foldl (fun l y => match p[y]? with | some x => l.set x.toNat (l.getD x.toNat 0 + 1) | none => l) L) v ns.length
  | [], _, _, _, _, _, _, _, hv => hv
  | y :: t, D, L, c, h, hc, hL, hy, hv => by
    rw [List.length_cons] at hc
    obtain ⟨x, hx, hx0, hx1⟩ := hy y (by simp)
    obtain ⟨q, rfl⟩ : ∃ q : Nat, x = (q : Int) := ⟨x.toNat, by omega⟩
    have hs : SpreadAt ns key (spreadS ns key p D y) (c + 1) := spread_from ns key p [y] D c h (by simp; omega)
    rw [List.foldl_cons, List.foldl_cons]
    have hst : (match p[y]? with | some x => L.set x.toNat (L.getD x.toNat 0 + 1) | none => L) = L.set q (L.getD q 0 + 1) := by
      rw [hx]
      simp
    rw [hst]
    refine two_from ns key p t _ _ (c + 1) hs (by omega) (by rw [List.length_set, hL]) (fun z hz => hy z (by simp [hz])) (fun v => ?_)
    rw [sumV_set ns key v L q (by omega), ← hv]
    have hq : q < ns.length := by omega
    unfold spreadS
    rw [hx]
    dsimp only
    cases hd : domF ns (q : Int) key with
    | none =>
      rw [if_neg (fun h => by have := h.2; cases this)]
      simp
    | some u =>
      dsimp only
      have hw : wrap64 (valD D u + 1) = valD D u + 1 := IntWalk.wrap64_in _ (by have := h.vals u; omega)
      have e : bumpD D u = D.put (.string u) (.lit (.int .i64 (valD D u + 1))) := by
        rw [← hw]
        rfl
      rw [e, val_put h.keyed]
      by_cases huv : v = u
      · subst huv
        rw [if_pos rfl, if_pos ⟨hq, rfl⟩]
        rfl
      · rw [if_neg huv, if_neg (fun h => huv (by have := h.2; cases this; rfl))]
        omega

theorem repl_getD (n k : Nat) : (List.replicate n (0 : Int)).getD k 0 = 0 := by
  rw [List.getD_eq_getElem?_getD, List.getElem?_replicate]
  split <;> rfl

theorem spread_is (ns : List NodeD) (key : List UInt8) (p : List Int) (ys : List Nat) (hl : ys.length ≤ 1000) (hy : ∀ y ∈ ys, ∃ x, p[y]? = some x ∧ 0 ≤ x ∧ x < (ns.length : Int)) :
    rowD (spreadD ns key p ys) = (domsR ns key ns.length).map (fun v => sumV ns key (cntL ns.length p ys) v ns.length) := by
  have hA := spread_all ns key p ys hl
  have hk : sortK (spreadD ns key p ys) = domsR ns key ns.length := by
    rw [← doms_sort]
    exact mergeSort_of_perm hA.keys
  unfold rowD
  rw [hk]
  refine List.map_congr_left (fun v _ => ?_)
  exact two_from ns key p ys _ _ 0 (spread_zero ns key) (by omega) (List.length_replicate ..) hy (fun u => by
    rw [sumV_zero ns key u _ (repl_getD ns.length)]
    exact (keyed_doms ns key ns.length).2 u) v

end Go.Proofs.YtmmokiaipfalmaaGreat

namespace Go.Proofs.YtmmokiaipfalmaaGreat
open Go.RowKit

def minL (l : List Int) : Int := l.foldl min (l.headD 0)
def maxL (l : List Int) : Int := l.foldl max (l.headD 0)
/-- By how much it is too great. -/
def skewO (l : List Int) (skew : Int) : Int := if l = [] then 0 else max 0 (wrap64 (wrap64 (maxL l - minL l) - skew))
end Go.Proofs.YtmmokiaipfalmaaGreat

namespace Go.Proofs.YtmmokiaipfalmaaGreat
open Go.RowKit

/-- A clause: its kind, A, B, By. -/
abbrev ClT := Int × Int × Int × Int
abbrev clV (x : ClT) : Value := .agg #[.int .i64 x.1, .int .i64 x.2.1, .int .i64 x.2.2.1, .int .i64 x.2.2.2]
def cells4 (l : List ClT) : List Value := l.flatMap fun x => [.int .i64 x.1, .int .i64 x.2.1, .int .i64 x.2.2.1, .int .i64 x.2.2.2]
theorem cells4_snoc (l : List ClT) (x : ClT) : cells4 (l ++ [x]) = cells4 l ++ [.int .i64 x.1, .int .i64 x.2.1, .int .i64 x.2.2.1, .int .i64 x.2.2.2] := by simp [cells4]
theorem cells4_at : ∀ (l : List ClT) (k : Nat) (x : ClT), l[k]? = some x → (cells4 l)[k * 4]? = some (.int .i64 x.1) ∧ (cells4 l)[k * 4 + 1]? = some (.int .i64 x.2.1) ∧ (cells4 l)[k * 4 + 2]? = some (.int .i64 x.2.2.1) ∧ (cells4 l)[k * 4 + 3]? = some (.int .i64 x.2.2.2)
  | [], k, x, h => by simp at h
  | y :: t, 0, x, h => by
    simp only [List.getElem?_cons_zero, Option.some.injEq] at h
    subst h
    exact ⟨rfl, rfl, rfl, rfl⟩
  | y :: t, k + 1, x, h => by
    obtain ⟨h0, h1, h2, h3⟩ := cells4_at t k x (by simpa using h)
    have e : cells4 (y :: t) = [.int .i64 y.1, .int .i64 y.2.1, .int .i64 y.2.2.1, .int .i64 y.2.2.2] ++ cells4 t := rfl
    rw [e]
    refine ⟨?_, ?_, ?_, ?_⟩
    · rw [List.getElem?_append_right (by simp; omega), ← h0]; congr 1; simp; omega
    · rw [List.getElem?_append_right (by simp; omega), ← h1]; congr 1; simp; omega
    · rw [List.getElem?_append_right (by simp; omega), ← h2]; congr 1; simp; omega
    · rw [List.getElem?_append_right (by simp; omega), ← h3]; congr 1; simp; omega
theorem atC {w : World} {A : Option Addr} {l : List ClT} (h : La.SlAt w A (cells4 l)) {k : Nat} {x : ClT} (hk : l[k]? = some x) :
    ∃ b o, A = some ⟨b, o, none⟩ ∧ b < w.heap.size ∧ w.cell? ⟨b, o + k * 4, none⟩ = some (.int .i64 x.1) ∧ w.cell? ⟨b, o + k * 4 + 1, none⟩ = some (.int .i64 x.2.1) ∧ w.cell? ⟨b, o + k * 4 + 2, none⟩ = some (.int .i64 x.2.2.1) ∧ w.cell? ⟨b, o + k * 4 + 3, none⟩ = some (.int .i64 x.2.2.2) := by
  obtain ⟨h0, h1, h2, h3⟩ := cells4_at l k x hk
  obtain ⟨b, o, hA, c0⟩ := h _ _ h0
  obtain ⟨b', o', hA', c1⟩ := h _ _ h1
  rw [hA] at hA'
  cases hA'
  obtain ⟨b', o', hA', c2⟩ := h _ _ h2
  rw [hA] at hA'
  cases hA'
  obtain ⟨b', o', hA', c3⟩ := h _ _ h3
  rw [hA] at hA'
  cases hA'
  exact ⟨b, o, hA, World.block_lt_of_cell? w _ c0, c0, c1, c2, c3⟩

end Go.Proofs.YtmmokiaipfalmaaGreat

namespace Go.Proofs.YtmmokiaipfalmaaGreat
open Go.RowKit

/-- The clause of a node and a quantity. -/
def capC (ps : List PodD) (p : List Int) (n : Nat) (x : NodeD) (k : Nat) : ClT := (1, (n : Int), (k : Int), max 0 (wrap64 (addW ps (onU p (n : Int) p.length) k - x.cap k)))
def capN (ps : List PodD) (p : List Int) (n : Nat) (x : NodeD) (k : Nat) : List ClT := (List.range k).map (capC ps p n x)
def capsU (ns : List NodeD) (ps : List PodD) (p : List Int) : Nat → List ClT
  | 0 => []
  | n + 1 => capsU ns ps p n ++ (match ns[n]? with
    | some x => capN ps p n x 5
    | none => [])
theorem capN_len (ps : List PodD) (p : List Int) (n : Nat) (x : NodeD) (k : Nat) : (capN ps p n x k).length = k := by simp [capN]
theorem capsU_len (ns : List NodeD) (ps : List PodD) (p : List Int) : ∀ n, (capsU ns ps p n).length ≤ 5 * n
  | 0 => Nat.le_refl _
  | n + 1 => by
    have := capsU_len ns ps p n
    rw [capsU, List.length_append]
    split
    · rw [capN_len]; omega
    · simp; omega
theorem cl_info : (Tryz.prog.info? 62).map (fun i => (i.zero, i.size, i.bytes)) = some (some (.agg #[.int .i64 0, .int .i64 0, .int .i64 0, .int .i64 0]), 4, 32) := by kernel_rfl
end Go.Proofs.YtmmokiaipfalmaaGreat

namespace Go.Proofs.YtmmokiaipfalmaaGreat
open Go.RowKit

def isC (kd a b : Int) (c : ClT) : Bool := decide (c.1 = kd ∧ c.2.1 = a ∧ c.2.2.1 = b)
/-- By how much that clause of a list is broken. -/
def findC (l : List ClT) (kd a b : Int) : Option Int := (l.find? (isC kd a b)).map (·.2.2.2)
theorem findC_no {l : List ClT} {kd a b : Int} (hn : ∀ (j : Nat) (z : ClT), l[j]? = some z → isC kd a b z = false) : findC l kd a b = none := by
  unfold findC
  have : l.find? (isC kd a b) = none := by
    rw [List.find?_eq_none]
    intro z hz
    obtain ⟨j, hj⟩ := List.mem_iff_getElem?.1 hz
    rw [hn j z hj]
    simp
  rw [this]
  rfl

end Go.Proofs.YtmmokiaipfalmaaGreat

namespace Go.Proofs.YtmmokiaipfalmaaGreat
open Go.RowKit

def brokC (c : ClT) : Bool := decide (0 < c.2.2.2)
theorem filt_snoc {l : List ClT} {k : Nat} {y : ClT} (f : ClT → Bool) (hy : l[k]? = some y) : (l.take (k + 1)).filter f = (l.take k).filter f ++ (if f y then [y] else []) := by
  rw [List.take_add_one, hy, List.filter_append]
  cases h : f y <;> simp [h]

end Go.Proofs.YtmmokiaipfalmaaGreat

namespace Go.Proofs.YtmmokiaipfalmaaGreat
open Go.RowKit

/-- Whether two nodes have the same value for a key. -/
def nearO (a b : NodeD) (key : List UInt8) : Bool := match valK a key, valK b key with
  | some u, some v => decide (u = v)
  | _, _ => false

/-- Whether a pod counts near another one's node. -/
def aboutB (ns : List NodeD) (ps : List PodD) (p : List Int) (pod : Nat) (topo : List UInt8) (terms : List T3) (others : Bool) (i : Nat) : Bool := match p[i]?, p[pod]?, ps[i]? with
  | some x, some xp, some y => decide (0 ≤ x) && !(others && decide (i = pod)) && (match ns[x.toNat]?, ns[xp.toNat]? with | some a, some b => nearO a b topo | _, _ => false) && holdsO terms y.labels
  | _, _, _ => false
def aboutU (ns : List NodeD) (ps : List PodD) (p : List Int) (pod : Nat) (topo : List UInt8) (terms : List T3) (others : Bool) : Nat → Nat
  | 0 => 0
  | k + 1 => aboutU ns ps p pod topo terms others k + (if aboutB ns ps p pod topo terms others k then 1 else 0)
theorem aboutU_le (ns : List NodeD) (ps : List PodD) (p : List Int) (pod : Nat) (topo : List UInt8) (terms : List T3) (others : Bool) : ∀ k, aboutU ns ps p pod topo terms others k ≤ k
  | 0 => Nat.le_refl _
  | k + 1 => by
    have := aboutU_le ns ps p pod topo terms others k
    rw [aboutU]
    split <;> omega
end Go.Proofs.YtmmokiaipfalmaaGreat

namespace Go.Proofs.YtmmokiaipfalmaaGreat
open Go.RowKit

/-- By how much a clause about a pod is broken; none: there is none. -/
def ofU (ns : List NodeD) (ps : List PodD) (os : List OwnD) (p : List Int) (kind i : Nat) : Option Nat := match p[i]?, ps[i]? with
  | some q, some x => if q < 0 then none else match ns[q.toNat]? with
    | some n => if kind = 2 then some (termsO x.whr n.labels) else if kind = 3 then some (taintsO n.taints x.bears)
      else if kind = 4 then (if x.wt = [] then none else some (1 - aboutU ns ps p i x.wt x.wtm false p.length))
      else if kind = 5 then (if x.ap = [] then none else some (aboutU ns ps p i x.ap x.apm true p.length))
      else if x.owner = [] then none else if singleO os x.owner then some (doubU ps p i p.length) else none
    | none => none
  | _, _ => none
theorem ofU_at {ns : List NodeD} {ps : List PodD} {os : List OwnD} {p : List Int} {kind i q : Nat} {x : PodD} {n : NodeD} (hi : p[i]? = some (q : Int)) (hx : ps[i]? = some x) (hn : ns[q]? = some n) : ofU ns ps os p kind i = if kind = 2 then some (termsO x.whr n.labels) else if kind = 3 then some (taintsO n.taints x.bears)
      else if kind = 4 then (if x.wt = [] then none else some (1 - aboutU ns ps p i x.wt x.wtm false p.length))
      else if kind = 5 then (if x.ap = [] then none else some (aboutU ns ps p i x.ap x.apm true p.length))
      else if x.owner = [] then none else if singleO os x.owner then some (doubU ps p i p.length) else none := by
  unfold ofU
  rw [hi, hx]
  dsimp only
  rw [if_neg (by omega), Int.toNat_natCast, hn]
theorem ofU_wait {ns : List NodeD} {ps : List PodD} {os : List OwnD} {p : List Int} {kind i : Nat} (hi : p[i]? = some (-1)) : ofU ns ps os p kind i = none := by
  unfold ofU
  rw [hi]
  cases ps[i]? with
  | none => rfl
  | some x =>
    dsimp only
    rw [if_pos (by omega)]

/-- The clause of a pod, in a list. -/
def podR (ns : List NodeD) (ps : List PodD) (os : List OwnD) (p : List Int) (kind i : Nat) : List ClT := match ofU ns ps os p kind i with
  | some b => [((kind : Int), (i : Int), 0, (b : Int))]
  | none => []
def podsU (ns : List NodeD) (ps : List PodD) (os : List OwnD) (p : List Int) (kind : Nat) : Nat → List ClT
  | 0 => []
  | i + 1 => podsU ns ps os p kind i ++ podR ns ps os p kind i
/-- The kinds of 2 on, so many. -/
def kindsU (ns : List NodeD) (ps : List PodD) (os : List OwnD) (p : List Int) : Nat → List ClT
  | 0 => []
  | k + 1 => kindsU ns ps os p k ++ podsU ns ps os p (k + 2) p.length
def spreadR (ns : List NodeD) (ps : List PodD) (os : List OwnD) (p : List Int) (i : Nat) : List ClT := match os[i]? with
  | some o => if o.topo = [] then [] else [(7, (i : Int), 0, skewO (spreadF ns ps os p (i : Int)) o.skew)]
  | none => []
def spreadsU (ns : List NodeD) (ps : List PodD) (os : List OwnD) (p : List Int) : Nat → List ClT
  | 0 => []
  | i + 1 => spreadsU ns ps os p i ++ spreadR ns ps os p i
def minR (ns : List NodeD) (ps : List PodD) (os : List OwnD) (p : List Int) (i : Nat) : List ClT := match os[i]? with
  | some o => [(8, (i : Int), 0, max 0 (wrap64 (o.min - placedF ns ps os p (i : Int))))]
  | none => []
def minsU (ns : List NodeD) (ps : List PodD) (os : List OwnD) (p : List Int) : Nat → List ClT
  | 0 => []
  | i + 1 => minsU ns ps os p i ++ minR ns ps os p i
/-- All clauses of a placement that may be. -/
def allU (ns : List NodeD) (ps : List PodD) (os : List OwnD) (p : List Int) : List ClT := capsU ns ps p ns.length ++ kindsU ns ps os p 5 ++ spreadsU ns ps os p os.length ++ minsU ns ps os p os.length
/-- What All tells: nothing, where the placement may not be. -/
def all8 (ns : List NodeD) (ps : List PodD) (os : List OwnD) (p : List Int) : List ClT := if placeE ns ps os p = 0 then allU ns ps os p else []

theorem podR_len (ns : List NodeD) (ps : List PodD) (os : List OwnD) (p : List Int) (kind i : Nat) : (podR ns ps os p kind i).length ≤ 1 := by
  unfold podR
  split <;> simp
theorem podsU_len (ns : List NodeD) (ps : List PodD) (os : List OwnD) (p : List Int) (kind : Nat) : ∀ i, (podsU ns ps os p kind i).length ≤ i
  | 0 => Nat.le_refl _
  | i + 1 => by
    have := podsU_len ns ps os p kind i
    have := podR_len ns ps os p kind i
    rw [podsU, List.length_append]
    omega
theorem kindsU_len (ns : List NodeD) (ps : List PodD) (os : List OwnD) (p : List Int) : ∀ k, (kindsU ns ps os p k).length ≤ k * p.length
  | 0 => by simp [kindsU]
  | k + 1 => by
    have := kindsU_len ns ps os p k
    have := podsU_len ns ps os p (k + 2) p.length
    rw [kindsU, List.length_append, Nat.succ_mul]
    omega
theorem spreadR_len (ns : List NodeD) (ps : List PodD) (os : List OwnD) (p : List Int) (i : Nat) : (spreadR ns ps os p i).length ≤ 1 := by
  unfold spreadR
  split
  · split <;> simp
  · simp
theorem spreadsU_len (ns : List NodeD) (ps : List PodD) (os : List OwnD) (p : List Int) : ∀ i, (spreadsU ns ps os p i).length ≤ i
  | 0 => Nat.le_refl _
  | i + 1 => by
    have := spreadsU_len ns ps os p i
    have := spreadR_len ns ps os p i
    rw [spreadsU, List.length_append]
    omega
theorem minsU_len (ns : List NodeD) (ps : List PodD) (os : List OwnD) (p : List Int) : ∀ i, (minsU ns ps os p i).length ≤ i
  | 0 => Nat.le_refl _
  | i + 1 => by
    have := minsU_len ns ps os p i
    rw [minsU, List.length_append]
    unfold minR
    split <;> simp <;> omega
theorem allU_len (ns : List NodeD) (ps : List PodD) (os : List OwnD) (p : List Int) : (allU ns ps os p).length ≤ 5 * ns.length + 5 * p.length + 2 * os.length := by
  have := capsU_len ns ps p ns.length
  have := kindsU_len ns ps os p 5
  have := spreadsU_len ns ps os p os.length
  have := minsU_len ns ps os p os.length
  unfold allU
  simp only [List.length_append]
  omega
theorem all8_len (ns : List NodeD) (ps : List PodD) (os : List OwnD) (p : List Int) : (all8 ns ps os p).length ≤ 5 * ns.length + 5 * p.length + 2 * os.length := by
  unfold all8
  split
  · exact allU_len ns ps os p
  · simp

/-- What a clause is about, by the program's words. -/
inductive Sub
  | node (n q : Nat)
  | pod (i : Nat)
  | owner (o : Nat)
def Sub.a : Sub → Nat
  | .node n _ => n
  | .pod i => i
  | .owner o => o
def Sub.b : Sub → Nat
  | .node _ q => q
  | _ => 0
def nodesS : Nat → List Sub
  | 0 => []
  | n + 1 => nodesS n ++ (List.range 5).map (Sub.node n)
def podS (p : List Int) (i : Nat) : List Sub := if p[i]? = some (-1) then [] else [.pod i]
def podsS (p : List Int) : Nat → List Sub
  | 0 => []
  | i + 1 => podsS p i ++ podS p i
def ownersS : Nat → List Sub
  | 0 => []
  | o + 1 => ownersS o ++ [.owner o]
def subsU (ns : List NodeD) (os : List OwnD) (p : List Int) : List Sub := nodesS ns.length ++ podsS p p.length ++ ownersS os.length
/-- By how much the clause of a kind about a subject is broken; none: there is none. -/
def byU (ns : List NodeD) (ps : List PodD) (os : List OwnD) (p : List Int) (kind : Nat) : Sub → Option Int
  | .node n q => if kind = 1 then (match ns[n]? with | some x => some (max 0 (wrap64 (addW ps (onU p (n : Int) p.length) q - x.cap q))) | none => none) else none
  | .pod i => if 2 ≤ kind ∧ kind ≤ 6 then (ofU ns ps os p kind i).map (fun b => (b : Int)) else none
  | .owner o => if kind = 7 then (match os[o]? with | some x => if x.topo = [] then none else some (skewO (spreadF ns ps os p (o : Int)) x.skew) | none => none) else if kind = 8 then (match os[o]? with | some x => some (max 0 (wrap64 (x.min - placedF ns ps os p (o : Int)))) | none => none) else none
def clauseK (ns : List NodeD) (ps : List PodD) (os : List OwnD) (p : List Int) (kind : Nat) (s : Sub) : Option ClT := (byU ns ps os p kind s).map fun b => ((kind : Int), (s.a : Int), (s.b : Int), b)
def lookK (ns : List NodeD) (ps : List PodD) (os : List OwnD) (p : List Int) : Nat → List ClT
  | 0 => []
  | k + 1 => lookK ns ps os p k ++ (subsU ns os p).filterMap (clauseK ns ps os p (k + 1))

theorem nodes_no {f : Sub → Option ClT} (h : ∀ n q, f (.node n q) = none) : ∀ k, (nodesS k).filterMap f = []
  | 0 => rfl
  | k + 1 => by
    rw [nodesS, List.filterMap_append, nodes_no h k, List.nil_append, List.filterMap_eq_nil_iff]
    intro s hs
    obtain ⟨q, _, rfl⟩ := List.mem_map.1 hs
    exact h k q
theorem pods_no {f : Sub → Option ClT} (p : List Int) (h : ∀ i, f (.pod i) = none) : ∀ k, (podsS p k).filterMap f = []
  | 0 => rfl
  | k + 1 => by
    rw [podsS, List.filterMap_append, pods_no p h k, List.nil_append, podS]
    split
    · rfl
    · simp [h]
theorem owners_no {f : Sub → Option ClT} (h : ∀ o, f (.owner o) = none) : ∀ k, (ownersS k).filterMap f = []
  | 0 => rfl
  | k + 1 => by
    rw [ownersS, List.filterMap_append, owners_no h k, List.nil_append]
    simp [h]
theorem caps_are (ns : List NodeD) (ps : List PodD) (os : List OwnD) (p : List Int) : ∀ k, k ≤ ns.length → (nodesS k).filterMap (clauseK ns ps os p 1) = capsU ns ps p k
  | 0, _ => rfl
  | k + 1, h => by
    obtain ⟨x, hx⟩ : ∃ x, ns[k]? = some x := ⟨ns[k], List.getElem?_eq_getElem h⟩
    rw [nodesS, List.filterMap_append, caps_are ns ps os p k (by omega), capsU, hx]
    congr 1
    dsimp only
    unfold capN
    rw [List.filterMap_map, ← List.filterMap_eq_map]
    congr 1
    funext q
    simp [clauseK, byU, hx, capC, Sub.a, Sub.b]
theorem pods_are (ns : List NodeD) (ps : List PodD) (os : List OwnD) (p : List Int) (kind : Nat) (h2 : 2 ≤ kind) (h6 : kind ≤ 6) : ∀ k, (podsS p k).filterMap (clauseK ns ps os p kind) = podsU ns ps os p kind k
  | 0 => rfl
  | k + 1 => by
    rw [podsS, List.filterMap_append, pods_are ns ps os p kind h2 h6 k, podsU]
    congr 1
    unfold podS podR
    by_cases hw : p[k]? = some (-1)
    · rw [if_pos hw, ofU_wait hw]
      rfl
    · rw [if_neg hw]
      cases hq : ofU ns ps os p kind k <;> simp [clauseK, byU, h2, h6, hq, Sub.a, Sub.b]
theorem spreads_are (ns : List NodeD) (ps : List PodD) (os : List OwnD) (p : List Int) : ∀ k, (ownersS k).filterMap (clauseK ns ps os p 7) = spreadsU ns ps os p k
  | 0 => rfl
  | k + 1 => by
    rw [ownersS, List.filterMap_append, spreads_are ns ps os p k, spreadsU]
    congr 1
    unfold spreadR
    cases ho : os[k]? with
    | none => simp [clauseK, byU, ho]
    | some o =>
      by_cases ht : o.topo = []
      · simp [clauseK, byU, ho, ht]
      · simp [clauseK, byU, ho, ht, Sub.a, Sub.b]
theorem mins_are (ns : List NodeD) (ps : List PodD) (os : List OwnD) (p : List Int) : ∀ k, (ownersS k).filterMap (clauseK ns ps os p 8) = minsU ns ps os p k
  | 0 => rfl
  | k + 1 => by
    rw [ownersS, List.filterMap_append, mins_are ns ps os p k, minsU]
    congr 1
    unfold minR
    cases ho : os[k]? with
    | none => simp [clauseK, byU, ho]
    | some o => simp [clauseK, byU, ho, Sub.a, Sub.b]
/-- Subject by subject it is the same list. -/
theorem look_is (ns : List NodeD) (ps : List PodD) (os : List OwnD) (p : List Int) : lookK ns ps os p 8 = allU ns ps os p := by
  have h1 : (subsU ns os p).filterMap (clauseK ns ps os p 1) = capsU ns ps p ns.length := by
    unfold subsU
    rw [List.filterMap_append, List.filterMap_append, caps_are ns ps os p _ (Nat.le_refl _), pods_no p (fun i => by simp [clauseK, byU]), owners_no (fun i => by simp [clauseK, byU]), List.append_nil, List.append_nil]
  have h2 : ∀ kind, 2 ≤ kind → kind ≤ 6 → (subsU ns os p).filterMap (clauseK ns ps os p kind) = podsU ns ps os p kind p.length := fun kind a b => by
    have a1 : kind ≠ 1 := by omega
    have a7 : kind ≠ 7 := by omega
    have a8 : kind ≠ 8 := by omega
    unfold subsU
    rw [List.filterMap_append, List.filterMap_append, nodes_no (fun n q => by simp [clauseK, byU, a1]), pods_are ns ps os p kind a b, owners_no (fun i => by simp [clauseK, byU, a7, a8]), List.append_nil, List.nil_append]
  have h7 : (subsU ns os p).filterMap (clauseK ns ps os p 7) = spreadsU ns ps os p os.length := by
    unfold subsU
    rw [List.filterMap_append, List.filterMap_append, nodes_no (fun n q => by simp [clauseK, byU]), pods_no p (fun i => by simp [clauseK, byU]), spreads_are, List.append_nil, List.nil_append]
  have h8 : (subsU ns os p).filterMap (clauseK ns ps os p 8) = minsU ns ps os p os.length := by
    unfold subsU
    rw [List.filterMap_append, List.filterMap_append, nodes_no (fun n q => by simp [clauseK, byU]), pods_no p (fun i => by simp [clauseK, byU]), mins_are, List.append_nil, List.nil_append]
  simp only [lookK, List.nil_append]
  rw [h1, h2 2 (by omega) (by omega), h2 3 (by omega) (by omega), h2 4 (by omega) (by omega), h2 5 (by omega) (by omega), h2 6 (by omega) (by omega), h7, h8]
  unfold allU
  simp only [kindsU, List.nil_append, List.append_assoc]
end Go.Proofs.YtmmokiaipfalmaaGreat

namespace Go.Proofs.YtmmokiaipfalmaaGreat.La
open Go.RowKit

abbrev Lab := List UInt8 × List UInt8
/-- The value of a key's first label. -/
def getL (l : List Lab) (k : List UInt8) : List UInt8 × Bool :=
  match l.find? (fun x => decide (x.1 = k)) with
  | some x => (x.2, true)
  | none => ([], false)

theorem find_take {l : List Lab} {k : List UInt8} {n : Nat} {x : Lab} (hx : l[n]? = some x) (h : (l.take n).find? (fun x => decide (x.1 = k)) = none) (hk : x.1 = k) : getL l k = (x.2, true) := by
  unfold getL
  have e : l = l.take n ++ x :: l.drop (n + 1) := by
    obtain ⟨hn, e⟩ := List.getElem?_eq_some_iff.1 hx
    rw [← e, ← List.drop_eq_getElem_cons hn, List.take_append_drop]
  rw [e, List.find?_append, h]
  simp [hk]
theorem find_no {l : List Lab} {k : List UInt8} {n : Nat} {x : Lab} (hx : l[n]? = some x) (h : (l.take n).find? (fun x => decide (x.1 = k)) = none) (hk : ¬ x.1 = k) : (l.take (n + 1)).find? (fun x => decide (x.1 = k)) = none := by
  rw [List.take_add_one, hx, List.find?_append, h]
  simp [hk]

theorem clone_any (l : List UInt8) (w : World) (h : l.length ≤ 1000) : Calls Tryz.prog 366 #[strV l] w fun e w' => e = .returned (strV l) ∧ Below w.heap.size w w' := by
  have K := Lib.hid (Tryz.stringslite_Clone ⟨l.toArray⟩ w (by
    show l.toArray.size ≤ _
    simp
    omega))
  go_enter Tryz.func366, Tryz.ntmps366
  go_wp2_with fail
  refine K.out.mono ?_
  rintro e w1 ⟨rfl, hb⟩
  have HB := Lib.hid hb
  clear hb
  go_wp2
  go_ret
  exact ⟨rfl, HB.out⟩

set_option maxRecDepth 100000 in
set_option maxHeartbeats 2000000 in
theorem get_any (A : Option Addr) (c : Nat) (l : List Lab) (k : List UInt8) (w : World) (hn : l.length ≤ 1000) (_hc : l.length ≤ c) (hs : SlAt w A (cellsL l)) (hbig : ∀ x ∈ l, x.2.length ≤ 1000) :
    Calls Tryz.prog 378 #[.slice A l.length c, strV k] w fun e w' => e = .returned (.tuple #[strV (getL l k).1, .bool (getL l k).2]) ∧ Below w.heap.size w w' := by
  have HS := Lib.hid hs
  have HBig := Lib.hid hbig
  clear hs hbig
  rcases hG : getL l k with ⟨g1, g2⟩
  have HG := Lib.hid hG
  simp only
  clear hG
  go_enter Tryz.func378, Tryz.ntmps378
  go_wp2
  go_loopw [10] (fun i wr => ∃ n : Nat, n ≤ l.length ∧ i = .int .i64 n ∧ (l.take n).find? (fun x => decide (x.1 = k)) = none ∧ Below w.heap.size w wr) (fun i _ => l.length - (intOf i).toNat)
  case atStart => exact ⟨0, by omega, rfl, rfl, Below.refl _ _⟩
  case round =>
    obtain ⟨n, hnl, rfl, hno, hbw⟩ := hrel
    have HB := Lib.hid hbw
    have HNo := Lib.hid hno
    clear hbw hno
    by_cases hlt : n < l.length
    · obtain ⟨x, hx⟩ : ∃ x, l[n]? = some x := ⟨l[n], List.getElem?_eq_getElem hlt⟩
      obtain ⟨b, o, hA, hb, hy⟩ := SlAt.lab (HS.out.below HB.out) hx
      subst hA
      obtain ⟨y0, y1⟩ := hy
      have n0 : (0 : Int) ≤ (n : Int) := by omega
      have n1 : (n : Int) < (l.length : Int) := by omega
      have HX := Lib.hid hx
      have hB2 := Lib.hid (HB.out.alloc HB.out.size (.cells #[strV x.1, strV x.2] 100))
      clear hx
      by_cases hq : x.1 = k
      · have KC := Lib.hid (fun w => clone_any x.2 w (HBig.out x (List.mem_of_getElem? HX.out)))
        have hq2 := find_take HX.out HNo.out hq
        rw [HG.out] at hq2
        simp only [Prod.mk.injEq] at hq2
        obtain ⟨rfl, rfl⟩ := hq2
        subst hq
        go_wp2_with fail
        refine (KC.out _).mono ?_
        rintro e w2 ⟨rfl, hb⟩
        have HB3 := Lib.hid (hB2.out.trans (hb.mono hB2.out.size))
        clear hb
        go_wp2
        go_ret2
        exact ⟨rfl, HB3.out⟩
      · have hqb : (x.1 == k) = false := by simpa using hq
        have HF := Lib.hid (find_no HX.out HNo.out hq)
        have HQ := Lib.hid hq
        clear hq
        go_wp2
        go_roundw
        case rel => exact ⟨n + 1, by omega, by go_num, HF.out, hB2.out⟩
        case measure => simp [intOf]; omega
    · obtain rfl : n = l.length := by omega
      have e : getL l k = ([], false) := by
        have := HNo.out
        rw [List.take_length] at this
        unfold getL
        rw [this]
      rw [HG.out] at e
      simp only [Prod.mk.injEq] at e
      obtain ⟨rfl, rfl⟩ := e
      go_wp2
      go_ret2
      exact ⟨rfl, HB.out⟩
end Go.Proofs.YtmmokiaipfalmaaGreat.La

namespace Go.Proofs.YtmmokiaipfalmaaGreat
open Go.RowKit

theorem placeE_chk {ns : List NodeD} {ps : List PodD} {os : List OwnD} {p : List Int} (hE : placeE ns ps os p = 0) : checkS ns ps os = 0 := by
  unfold placeE at hE
  split at hE
  · assumption
  · exact hE
theorem getL_getO (l : List L2) (k : List UInt8) : La.getL l k = ((getO l k).getD [], (getO l k).isSome) := by
  unfold La.getL getO
  cases l.find? (fun x => decide (x.1 = k)) <;> rfl
theorem valK_up {x : NodeD} (h : x.lost = false) (k : List UInt8) : valK x k = getO x.labels k := by
  unfold valK getO
  rw [h]
  rfl
theorem tpB_up {ns : List NodeD} {q : Nat} {x : NodeD} (h : tpB ns (q : Int) = true) (hx : ns[q]? = some x) : x.lost = false := by
  unfold tpB at h
  rw [Int.toNat_natCast, hx] at h
  simp only [Bool.and_eq_true, decide_eq_true_eq] at h
  simpa using h.2
theorem node_vals {ns : List NodeD} {ps : List PodD} {os : List OwnD} (h : checkS ns ps os = 0) {x : NodeD} (hx : x ∈ ns) : ∀ y ∈ x.labels, y.2.length ≤ 1000 := by
  intro y hy
  unfold checkS at h
  split at h
  · rename_i hc
    unfold clusB at hc
    simp only [Bool.and_eq_true, List.all_eq_true] at hc
    have h1 := hc.1.1.2 x hx
    unfold nodeB at h1
    simp only [Bool.and_eq_true, beq_iff_eq] at h1
    have h2 := chkK_all h1.1.2 y hy
    unfold La.labB at h2
    simp only [Bool.and_eq_true] at h2
    have h3 := h2.2
    unfold La.valueB at h3
    simp only [Bool.and_eq_true, decide_eq_true_eq] at h3
    have := span15 La.okVal y.2 0 (by omega)
    omega
  · cases h
theorem terms_few {ns : List NodeD} {ps : List PodD} {os : List OwnD} (h : checkS ns ps os = 0) {x : PodD} (hx : x ∈ ps) : x.wtm.length ≤ 6 ∧ x.apm.length ≤ 6 := by
  unfold checkS at h
  split at h
  · rename_i hc
    unfold clusB at hc
    simp only [Bool.and_eq_true, List.all_eq_true] at hc
    have h1 := (hc.1.2 x hx).1
    unfold podB at h1
    simp only [Bool.and_eq_true, beq_iff_eq] at h1
    have hn : ∀ (t : List UInt8) (l : List T3), nearB t l = true → l.length ≤ 6 := by
      intro t l hb
      unfold nearB at hb
      split at hb
      · have : l.length = 0 := by simpa using hb
        omega
      · simp only [Bool.and_eq_true, beq_iff_eq] at hb
        exact chk_few hb.2
    exact ⟨hn _ _ h1.1.2, hn _ _ h1.2⟩
  · cases h
/-- How many terms do not hold, by the program's words. -/
theorem termsO_holds (ts : List T3) (l : List L2) (hp : l.Pairwise (fun x y => x.1 ≠ y.1)) : termsO ts l = numL (fun t => !La.holdsL [t] l) ts := by
  unfold termsO
  congr 1
  funext t
  rw [holdO_eq l hp t]
  simp [La.holdsL]

/-- The pods near a pod that are of terms, itself too, of the first k. -/
def nearP (ns : List NodeD) (ps : List PodD) (p : List Int) (pod : Nat) (topo : List UInt8) (terms : List T3) : Nat → List Int
  | 0 => []
  | k + 1 => nearP ns ps p pod topo terms k ++ (if aboutB ns ps p pod topo terms false k then [(k : Int)] else [])
theorem nearP_len (ns : List NodeD) (ps : List PodD) (p : List Int) (pod : Nat) (topo : List UInt8) (terms : List T3) : ∀ k, (nearP ns ps p pod topo terms k).length = aboutU ns ps p pod topo terms false k
  | 0 => rfl
  | k + 1 => by
    rw [nearP, aboutU, List.length_append, nearP_len ns ps p pod topo terms k]
    split <;> rfl
theorem aboutB_others (ns : List NodeD) (ps : List PodD) (p : List Int) (pod : Nat) (topo : List UInt8) (terms : List T3) (k : Nat) : aboutB ns ps p pod topo terms true k = (!decide (k = pod) && aboutB ns ps p pod topo terms false k) := by
  unfold aboutB
  cases p[k]? with
  | none => simp
  | some x =>
    cases p[pod]? with
    | none => simp
    | some xp =>
      cases ps[k]? with
      | none => simp
      | some y =>
        dsimp only
        cases decide (0 ≤ x) <;> cases decide (k = pod) <;> simp
theorem nearP_others (ns : List NodeD) (ps : List PodD) (p : List Int) (pod : Nat) (topo : List UInt8) (terms : List T3) : ∀ k, numL (fun x : Int => !decide (x = (pod : Int))) (nearP ns ps p pod topo terms k) = aboutU ns ps p pod topo terms true k
  | 0 => rfl
  | k + 1 => by
    have ih := nearP_others ns ps p pod topo terms k
    unfold numL at ih ⊢
    rw [nearP, aboutU, List.filter_append, List.length_append, ih, aboutB_others]
    by_cases hk : k = pod
    · subst hk
      cases aboutB ns ps p k topo terms false k <;> simp
    · have hk2 : ¬ (k : Int) = (pod : Int) := by omega
      cases aboutB ns ps p pod topo terms false k <;> simp [hk, hk2]
theorem nearP_none {ns : List NodeD} {ps : List PodD} {p : List Int} {pod q : Nat} {topo : List UInt8} {terms : List T3} {xb : NodeD} (hp : p[pod]? = some (q : Int)) (hb : ns[q]? = some xb) (hv : valK xb topo = none) : ∀ k, nearP ns ps p pod topo terms k = []
  | 0 => rfl
  | k + 1 => by
    have : aboutB ns ps p pod topo terms false k = false := by
      unfold aboutB
      rw [hp]
      cases p[k]? with
      | none => rfl
      | some x =>
        cases ps[k]? with
        | none => rfl
        | some y =>
          dsimp only
          rw [Int.toNat_natCast, hb]
          cases ns[x.toNat]? with
          | none => simp
          | some a =>
            have : nearO a xb topo = false := by
              unfold nearO
              rw [hv]
              cases valK a topo <;> rfl
            simp [this]
    rw [nearP, nearP_none hp hb hv k, this]
    rfl
end Go.Proofs.YtmmokiaipfalmaaGreat

namespace Go.Proofs.YtmmokiaipfalmaaGreat
open Go.RowKit

theorem chkV_bounds {x : Nat → Int} (h : Qu.chkV x = 0) : ∀ j, j < 5 → 0 ≤ x j ∧ x j ≤ 1099511627776 := by
  have h0 : ∀ j, j < 5 → 0 ≤ x j := fun j hj => by
    by_cases hn : x j < 0
    · rw [Qu.chkV_neg hj hn] at h
      cases h
    · omega
  intro j hj
  refine ⟨h0 j hj, ?_⟩
  by_cases ht : Qu.top < x j
  · rw [Qu.chkV_over h0 hj ht] at h
    cases h
  · unfold Qu.top at ht
    omega
theorem cap_bounds {ns : List NodeD} {ps : List PodD} {os : List OwnD} (h : checkS ns ps os = 0) {x : NodeD} (hx : x ∈ ns) : ∀ j, j < 5 → 0 ≤ x.cap j ∧ x.cap j ≤ 1099511627776 := by
  unfold checkS at h
  split at h
  · rename_i hc
    unfold clusB at hc
    simp only [Bool.and_eq_true, List.all_eq_true] at hc
    have h1 := hc.1.1.2 x hx
    unfold nodeB at h1
    simp only [Bool.and_eq_true, beq_iff_eq] at h1
    exact chkV_bounds h1.1.1
  · cases h
theorem req_bounds {ns : List NodeD} {ps : List PodD} {os : List OwnD} (h : checkS ns ps os = 0) {x : PodD} (hx : x ∈ ps) : ∀ j, j < 5 → 0 ≤ x.req j ∧ x.req j ≤ 1099511627776 := by
  unfold checkS at h
  split at h
  · rename_i hc
    unfold clusB at hc
    simp only [Bool.and_eq_true, List.all_eq_true] at hc
    have h1 := (hc.1.2 x hx).1
    unfold podB at h1
    simp only [Bool.and_eq_true, beq_iff_eq] at h1
    exact chkV_bounds h1.1.1.1.1.1
  · cases h
theorem reqS_bounds {ps : List PodD} {j : Nat} (h : ∀ x ∈ ps, 0 ≤ x.req j ∧ x.req j ≤ 1099511627776) : ∀ ys : List Nat, 0 ≤ reqS ps j ys ∧ reqS ps j ys ≤ 1099511627776 * (ys.length : Int)
  | [] => by simp [reqS]
  | y :: t => by
    have ih := reqS_bounds h t
    have ha : 0 ≤ reqAt ps j y ∧ reqAt ps j y ≤ 1099511627776 := by
      unfold reqAt
      split
      · rename_i x hx
        exact h x (List.mem_of_getElem? hx)
      · omega
    have e : reqS ps j (y :: t) = reqAt ps j y + reqS ps j t := by simp [reqS]
    rw [e, List.length_cons]
    push_cast
    omega
theorem addW_bounds {ps : List PodD} {j : Nat} (h : ∀ x ∈ ps, 0 ≤ x.req j ∧ x.req j ≤ 1099511627776) (ys : List Nat) (hl : ys.length ≤ 1000) : 0 ≤ addW ps ys j ∧ addW ps ys j ≤ 1099511627776000 := by
  have h1 := reqS_bounds h ys
  rw [addW_is]
  unfold wrap64
  omega
theorem over_upto (y : Nat → Int) (q : Nat) (a : Int) (ha : 0 ≤ a ∧ a ≤ 1099511627776000) (hy : ∀ j, j < 5 → 0 ≤ y j ∧ y j ≤ 1099511627776) : ∀ k, k ≤ 5 → Qu.overV (fun t => if t = q then a else 0) y k = if q < k then max 0 (a - y q) else 0
  | 0, _ => by simp [Qu.overV]
  | k + 1, h => by
    have hk := hy k (by omega)
    rw [Qu.overV, over_upto y q a ha hy k (by omega)]
    by_cases hkq : k = q
    · subst hkq
      rw [if_pos rfl, if_neg (by omega : ¬ k < k), if_pos (by omega : k < k + 1)]
      split
      · unfold wrap64
        omega
      · omega
    · rw [if_neg hkq, if_neg (by omega)]
      by_cases hq : q < k
      · rw [if_pos hq, if_pos (by omega)]
      · rw [if_neg hq, if_neg (by omega)]
theorem over_one (y : Nat → Int) (q : Nat) (hq : q < 5) (a : Int) (ha : 0 ≤ a ∧ a ≤ 1099511627776000) (hy : ∀ j, j < 5 → 0 ≤ y j ∧ y j ≤ 1099511627776) : Qu.overV (fun t => if t = q then a else 0) y 5 = max 0 (wrap64 (a - y q)) := by
  have h0 := hy q hq
  rw [over_upto y q a ha hy 5 (Nat.le_refl _), if_pos hq]
  unfold wrap64
  omega
theorem addW_on (ps : List PodD) (p : List Int) (n : Int) (k q : Nat) (x : PodD) (hk : p[k]? = some n) (hx : ps[k]? = some x) : addW ps (onU p n (k + 1)) q = wrap64 (addW ps (onU p n k) q + x.req q) := by
  rw [onU, if_pos hk]
  unfold addW
  rw [List.foldl_append]
  simp [hx]
theorem addW_off (ps : List PodD) (p : List Int) (n : Int) (k q : Nat) (hk : p[k]? ≠ some n) : addW ps (onU p n (k + 1)) q = addW ps (onU p n k) q := by
  rw [onU, if_neg hk, List.append_nil]
def oneR (q : Nat) (a : Int) : Nat → Int := fun t => if t = q then a else 0
theorem atP_rq {w : World} {A : Option Addr} {l : List PodD} (h : La.SlAt w A (cellsP l)) {n b o : Nat} {x : PodD} (hA : A = some ⟨b, o, none⟩) (hn : l[n]? = some x) : ∀ j, j < 5 → w.cell? ⟨b, o + n * 15 + 2 + j, none⟩ = some (.int .i64 (x.req j)) := fun j hj => by
  obtain ⟨b', o', hA', _, c0, c1, c2, c3, c4, c5, c6, _⟩ := atP h hn
  rw [hA] at hA'
  cases hA'
  match j, hj with
  | 0, _ => exact c2
  | 1, _ => exact c3
  | 2, _ => exact c4
  | 3, _ => exact c5
  | 4, _ => exact c6

set_option maxRecDepth 100000 in
set_option maxHeartbeats 8000000 in
theorem overCap_any (A B C P : Option Addr) (ca cb cc cp : Nat) (ns : List NodeD) (ps : List PodD) (os : List OwnD) (p : List Int) (n q : Nat) (x : NodeD) (hE : placeE ns ps os p = 0) (hn : ns[n]? = some x) (hq : q < 5) (w : World) (h : SnapAt w A B C ca cb cc ns ps os) (hp : IntsAt w P cp p) :
    Calls Tryz.prog 301 #[viewV A B C P ca cb cc cp ns ps os p, .int .i64 (n : Int), .int .i64 (q : Int)] w fun e w' => e = .returned (.tuple #[.int .i64 (max 0 (wrap64 (addW ps (onU p (n : Int) p.length) q - x.cap q))), .bool true]) ∧ Below w.heap.size w w' := by
  have hck := placeE_chk hE
  have hcb := cap_bounds hck (List.mem_of_getElem? hn)
  have hlp := h.lp
  have HPL := Lib.hid (placeE_len hE)
  have hal : (onU p (n : Int) p.length).length ≤ 1000 := by have := onU_len p (n : Int) p.length; have := HPL.out; omega
  have HV : Hid (Qu.overV (oneR q (addW ps (onU p (n : Int) p.length) q)) x.cap 5 = max 0 (wrap64 (addW ps (onU p (n : Int) p.length) q - x.cap q))) := Lib.hid (over_one x.cap q hq _ (addW_bounds (fun y hy => req_bounds hck hy q hq) _ hal) hcb)
  have HON : Hid (∀ (k : Nat) (y : PodD), p[k]? = some (n : Int) → ps[k]? = some y → addW ps (onU p (n : Int) (k + 1)) q = wrap64 (addW ps (onU p (n : Int) k) q + y.req q)) := Lib.hid (fun k y h1 h2 => addW_on ps p _ k q y h1 h2)
  have HOFF : Hid (∀ k, p[k]? ≠ some (n : Int) → addW ps (onU p (n : Int) (k + 1)) q = addW ps (onU p (n : Int) k) q) := Lib.hid (fun k h1 => addW_off ps p _ k q h1)
  have HZ0 : Hid (addW ps (onU p (n : Int) 0) q = 0) := Lib.hid rfl
  rw [← HV.out]
  obtain ⟨S, hS⟩ : ∃ S : Nat → Int, (fun k => addW ps (onU p (n : Int) k) q) = S := ⟨_, rfl⟩
  have HS0 : Hid (S 0 = 0) := Lib.hid (by rw [← hS]; exact HZ0.out)
  have HSO : Hid (∀ (k : Nat) (y : PodD), p[k]? = some (n : Int) → ps[k]? = some y → S (k + 1) = wrap64 (S k + y.req q)) := Lib.hid (fun k y h1 h2 => by rw [← hS]; exact HON.out k y h1 h2)
  have HSF : Hid (∀ k, p[k]? ≠ some (n : Int) → S (k + 1) = S k) := Lib.hid (fun k h1 => by rw [← hS]; exact HOFF.out k h1)
  rw [show addW ps (onU p (n : Int) p.length) q = S p.length by rw [← hS]]
  have n0 : (0 : Int) ≤ (n : Int) := by omega
  have n1 : (n : Int) < (ns.length : Int) := by have := (List.getElem?_eq_some_iff.1 hn).1; omega
  have q0 : (0 : Int) ≤ (q : Int) := by omega
  have q1 : (q : Int) < 5 := by omega
  obtain ⟨bn, on, hA, _⟩ := atN h.n.cells hn
  subst hA
  have B0 : Hid (Below w.heap.size w (w.alloc (.cells (viewC (some ⟨bn, on, none⟩) B C P ca cb cc cp ns ps os p) 256))) := Lib.hid (below1 w _)
  have S0 : Hid (Blk (w.alloc (.cells (viewC (some ⟨bn, on, none⟩) B C P ca cb cc cp ns ps os p) 256)) w.heap.size (viewC (some ⟨bn, on, none⟩) B C P ca cb cc cp ns ps os p) 256) := Lib.hid (Blk.new w _ _)
  have HP := Lib.hid (fun W' (hb : Below w.heap.size w W') => hp.below hb)
  have H := Lib.hid (fun W' (hb : Below w.heap.size w W') => h.below hb)
  have HN := Lib.hid hn
  have HQ := Lib.hid hq
  clear h hp hE hn hck hcb hal HV HON HOFF HZ0 hS
  go_enter Tryz.func301, Tryz.ntmps301
  obtain ⟨W, hW⟩ : ∃ W, (w.alloc (.cells (viewC (some ⟨bn, on, none⟩) B C P ca cb cc cp ns ps os p) 256)) = W := ⟨_, rfl⟩
  rw [hW] at B0 S0
  go_upto_region 1 with fail
  try rw [show (w.alloc (.cells #[.slice (some ⟨bn, on, none⟩) ns.length ca, .slice B ps.length cb, .slice C os.length cc, .slice P p.length cp] 256)) = W from hW]
  clear hW
  have HZ := Lib.hid (fun W' (hb : Below W.heap.size W W') => (show W'.cell? ⟨w.heap.size, 0, none⟩ = some (.slice (some ⟨bn, on, none⟩) ns.length ca) ∧ W'.cell? ⟨w.heap.size, 1, none⟩ = some (.slice B ps.length cb) ∧ W'.cell? ⟨w.heap.size, 3, none⟩ = some (.slice P p.length cp) from ⟨Blk.cell (S0.out.below hb S0.out.lt) 0, Blk.cell (S0.out.below hb S0.out.lt) 1, Blk.cell (S0.out.below hb S0.out.lt) 3⟩))
  have HT := Lib.hid (fun W' (hb : Below W.heap.size W W') => B0.out.trans (hb.mono B0.out.size))
  clear B0 S0
  have B1 : Hid (Below W.heap.size W (W.alloc (.cells #[.int .i64 0, .int .i64 0, .int .i64 0, .int .i64 0, .int .i64 0] 47))) := Lib.hid (below1 W _)
  have R1 : Hid (Qu.RowAt (W.alloc (.cells #[.int .i64 0, .int .i64 0, .int .i64 0, .int .i64 0, .int .i64 0] 47)) W.heap.size (oneR q 0)) := Lib.hid (by
    have := Qu.RowAt.new W (fun _ => 0)
    have e : oneR q 0 = fun _ => 0 := by
      funext t
      unfold oneR
      split <;> rfl
    rw [e]
    exact this)
  go_upto_region 2 with fail
  try change Code.wp _ _ _ _ (W.alloc (.cells #[.int .i64 0, .int .i64 0, .int .i64 0, .int .i64 0, .int .i64 0] 47))
  generalize (W.alloc (.cells #[.int .i64 0, .int .i64 0, .int .i64 0, .int .i64 0, .int .i64 0] 47)) = V at B1 R1 ⊢
  have HVb : Hid (W.heap.size ≤ W.heap.size) := Lib.hid (Nat.le_refl _)
  obtain ⟨z0, z1, z3⟩ := HZ.out _ B1.out
  go_wp2_with fail
  clear z0 z1 z3
  go_loopw [14] (fun j wr => ∃ k : Nat, k ≤ p.length ∧ j = .int .i64 (k : Int) ∧ Qu.RowAt wr W.heap.size (oneR q (S k)) ∧ Below W.heap.size W wr) (fun j _ => p.length - (intOf j).toNat)
  case atStart => exact ⟨0, by omega, rfl, by rw [HS0.out]; exact R1.out, B1.out⟩
  case round =>
    clear R1 B1
    obtain ⟨k, hk, rfl, hr, hb⟩ := hrel
    have HR := Lib.hid hr
    have HB := Lib.hid hb
    clear hr hb
    by_cases hlt : k < p.length
    case neg =>
      obtain rfl : k = p.length := by omega
      have HR2 : Hid (Qu.RowAt wr.drew W.heap.size (oneR q (S p.length))) := Lib.hid (show Qu.RowAt wr _ _ from HR.out)
      have HB2 : Hid (Below W.heap.size W wr.drew) := Lib.hid HB.out.drew
      obtain ⟨z0, z1, z3⟩ := HZ.out _ HB2.out
      obtain ⟨b', o', e1, _, d0, d1, d2, d3, d4, d5, _⟩ := atN (H.out _ (HT.out _ HB2.out)).n.cells HN.out
      cases e1
      have r0 := HR2.out.cell (k := 0) (by omega)
      have r1 := HR2.out.cell (k := 1) (by omega)
      have r2 := HR2.out.cell (k := 2) (by omega)
      have r3 := HR2.out.cell (k := 3) (by omega)
      have r4 := HR2.out.cell (k := 4) (by omega)
      have KO := Lib.hid (Qu.over_any (oneR q (S p.length)) x.cap wr.drew)
      clear HR2 HR HB d0
      go_upto_region 8 with fail
      go_still_tail 8, (by kernel_rfl)
      change wpList _ _ _ _ _ wr.drew
      go_wp2_with fail
      refine (KO.out).mono ?_
      rintro e w2 ⟨rfl, hb2⟩
      have B2 := Lib.hid (HT.out _ (HB2.out.trans (hb2.mono HB2.out.size)))
      clear hb2
      go_wp2
      go_ret2
      exact ⟨rfl, B2.out⟩
    obtain ⟨v, hv⟩ : ∃ v, p[k]? = some v := ⟨p[k], List.getElem?_eq_getElem hlt⟩
    obtain ⟨y, hy⟩ : ∃ y, ps[k]? = some y := ⟨ps[k]'(by have := HPL.out; omega), List.getElem?_eq_getElem _⟩
    obtain ⟨bp, op, hAp, _, pk⟩ := atI (HP.out _ (HT.out _ HB.out)).cells hv
    subst hAp
    have k0 : (0 : Int) ≤ (k : Int) := by omega
    have k1 : (k : Int) < (p.length : Int) := by omega
    have k2 : (k : Int) < (ps.length : Int) := by have := HPL.out; omega
    by_cases hvn : v = (n : Int)
    case neg =>
      have HE : Hid (S (k + 1) = S k) := Lib.hid (HSF.out k (by rw [hv]; intro e; exact hvn (Option.some.inj e)))
      have hvb : (v == (n : Int)) = false := by simpa using hvn
      have hvd : decide (v = (n : Int)) = false := decide_eq_false hvn
      clear hv hy
      go_wp2_with fail
      go_roundw
      case rel => exact ⟨k + 1, by omega, by go_num, by rw [HE.out]; exact HR.out, HB.out⟩
      case measure => simp [intOf]; omega
    subst hvn
    have HE : Hid (S (k + 1) = wrap64 (S k + y.req q)) := Lib.hid (HSO.out k y hv hy)
    obtain ⟨b, o, hBq, _⟩ := atP (H.out _ (HT.out _ HB.out)).p.cells hy
    have hpr := atP_rq (H.out _ (HT.out _ HB.out)).p.cells hBq hy q HQ.out
    subst hBq
    have hrc := HR.out.cell HQ.out
    clear hv hy
    go_upto_region 6 with fail
    have HB2 : Hid (Below W.heap.size W wr.drew) := Lib.hid HB.out.drew
    obtain ⟨z0, z1, z3⟩ := HZ.out _ HB2.out
    have hpr2 : wr.drew.cell? ⟨b, o + k * 15 + 2 + q, none⟩ = some (.int .i64 (y.req q)) := hpr
    have hrc2 : wr.drew.cell? ⟨W.heap.size, q, none⟩ = some (.int .i64 (oneR q (S k) q)) := hrc
    have hfr := HR.out.free q
    have hsz := HB.out.size
    have hS : Hid (Qu.RowAt (wr.setCell ⟨W.heap.size, q, none⟩ (.int .i64 (wrap64 (oneR q (S k) q + y.req q)))).drew W.heap.size (oneR q (S (k + 1)))) := Lib.hid (by
      have h1 := Qu.RowAt.set (show Qu.RowAt wr W.heap.size (oneR q (S k)) from HR.out) HQ.out (wrap64 (oneR q (S k) q + y.req q))
      have e : Qu.upd (oneR q (S k)) q (wrap64 (oneR q (S k) q + y.req q)) = oneR q (S (k + 1)) := by
        funext t
        unfold Qu.upd oneR
        rw [HE.out, if_pos rfl]
        by_cases ht : t = q
        · rw [if_pos ht, if_pos ht]
        · rw [if_neg ht, if_neg ht, if_neg ht]
      rw [← e]
      exact (show Qu.RowAt _ _ _ from h1))
    have hB3 : Hid (Below W.heap.size W (wr.setCell ⟨W.heap.size, q, none⟩ (.int .i64 (wrap64 (oneR q (S k) q + y.req q)))).drew) := Lib.hid (HB.out.setCell (p := ⟨W.heap.size, q, none⟩) (Nat.le_refl _) _).drew
    have hzz : oneR q (S k) q = S k := if_pos rfl
    generalize oneR q (S k) q = sk at hrc2 hS hB3
    clear hpr hrc pk HR HB
    go_still_tail 14, (by kernel_rfl)
    change wpList _ _ _ _ _ wr.drew
    go_wp2_with fail
    go_roundw
    case rel => exact ⟨k + 1, by omega, by go_num, hS.out, hB3.out⟩
    case measure => simp [intOf]; omega
end Go.Proofs.YtmmokiaipfalmaaGreat

namespace Go.Proofs.YtmmokiaipfalmaaGreat
open Go.RowKit Go.Maps

/-- What is left of one quantity, per mille. -/
def leftT (c u : Int) : Int := if 0 < c then (1000 * max 0 (c - u)).tdiv c else 0
/-- What is left of the first k quantities. -/
def leftS (cap used : Nat → Int) : Nat → Int
  | 0 => 0
  | k + 1 => leftS cap used k + leftT (cap k) (used k)
theorem leftT_range {c u : Int} (hc : 0 ≤ c) (hu : 0 ≤ u) : 0 ≤ leftT c u ∧ leftT c u ≤ 1000 := by
  unfold leftT
  split
  · rename_i h
    rw [Int.tdiv_eq_ediv_of_nonneg (by omega)]
    refine ⟨Int.ediv_nonneg (by omega) hc, ?_⟩
    have : 1000 * max 0 (c - u) ≤ c * 1000 := by omega
    exact Int.ediv_le_of_le_mul h (by omega)
  · omega
theorem leftS_range {cap used : Nat → Int} (hc : ∀ j, j < 5 → 0 ≤ cap j) (hu : ∀ j, j < 5 → 0 ≤ used j) : ∀ k, k ≤ 5 → 0 ≤ leftS cap used k ∧ leftS cap used k ≤ 1000 * k
  | 0, _ => by simp [leftS]
  | k + 1, h => by
    have h1 := leftS_range hc hu k (by omega)
    have h2 := leftT_range (hc k (by omega)) (hu k (by omega))
    rw [leftS]
    omega
theorem cap_ix (cap : Nat → Int) (k : Nat) (hk : k < 5) (w : World) : (Instr.index 47 (.agg #[.int .i64 (cap 0), .int .i64 (cap 1), .int .i64 (cap 2), .int .i64 (cap 3), .int .i64 (cap 4)]) (.int .i64 (k : Int))).run Tryz.prog w = .ok (.int .i64 (cap k)) w := by
  obtain rfl | rfl | rfl | rfl | rfl : k = 0 ∨ k = 1 ∨ k = 2 ∨ k = 3 ∨ k = 4 := by omega
  all_goals kernel_rfl
set_option maxRecDepth 100000 in
set_option maxHeartbeats 8000000 in
theorem left_any (A B C P : Option Addr) (ca cb cc cp : Nat) (ns : List NodeD) (ps : List PodD) (os : List OwnD) (p : List Int) (n : Nat) (x : NodeD) (hE : placeE ns ps os p = 0) (hn : ns[n]? = some x) (w : World) (h : SnapAt w A B C ca cb cc ns ps os) (hp : IntsAt w P cp p) :
    Calls Tryz.prog 73 #[snapV A B C ca cb cc ns ps os, .slice P p.length cp, .int .i64 (n : Int)] w fun e w' => e = .returned (.int .i64 (leftS x.cap (addW ps (onU p (n : Int) p.length)) 5)) ∧ Below w.heap.size w w' := by
  have hck := placeE_chk hE
  have hcb := cap_bounds hck (List.mem_of_getElem? hn)
  have hnl := (List.getElem?_eq_some_iff.1 hn).1
  have hal : (onU p (n : Int) p.length).length ≤ 1000 := by
    have := onU_len p (n : Int) p.length
    have := placeE_len hE
    have := (placeE_few hE).2.1
    omega
  have hub : ∀ j, j < 5 → 0 ≤ addW ps (onU p (n : Int) p.length) j ∧ addW ps (onU p (n : Int) p.length) j ≤ 1099511627776000 := fun j hj => addW_bounds (fun y hy => req_bounds hck hy j hj) _ hal
  have n0 : (0 : Int) ≤ (n : Int) := by omega
  have n1 : (n : Int) < (ns.length : Int) := by omega
  have eU : usedF ns ps os p (n : Int) = addW ps (onU p (n : Int) p.length) := by
    funext k
    unfold usedF
    rw [if_pos ⟨hE, n0, n1⟩]
  have B0 : Hid (Below w.heap.size w (w.alloc (.cells (snapC A B C ca cb cc ns ps os) 26))) := Lib.hid (below1 w _)
  have S0 : Hid (Blk (w.alloc (.cells (snapC A B C ca cb cc ns ps os) 26)) w.heap.size (snapC A B C ca cb cc ns ps os) 26) := Lib.hid (Blk.new w _ _)
  have KU := Lib.hid (fun W' (hb : Below w.heap.size w W') => used_any A B C P ca cb cc cp ns ps os p (n : Int) W' (h.below hb) (hp.below hb))
  rw [eU] at KU
  have HA := Lib.hid (fun W' (hb : Below w.heap.size w W') => atN (h.below hb).n.cells hn)
  have HR := Lib.hid (fun k hk => leftS_range (cap := x.cap) (used := addW ps (onU p (n : Int) p.length)) (fun j hj => (hcb j hj).1) (fun j hj => (hub j hj).1) k hk)
  clear eU hal hck h hp hE hn hnl
  obtain ⟨U, hU⟩ : ∃ U, addW ps (onU p (n : Int) p.length) = U := ⟨_, rfl⟩
  rw [hU] at KU HR hub ⊢
  clear hU
  obtain ⟨bn, on, hA, _⟩ := HA.out w (Below.refl _ _)
  subst hA
  go_enter Tryz.func73, Tryz.ntmps73
  go_upto_region 1 with fail
  try change Code.wp _ _ _ _ (w.alloc (.cells (snapC (some ⟨bn, on, none⟩) B C ca cb cc ns ps os) 26))
  generalize (w.alloc (.cells (snapC (some ⟨bn, on, none⟩) B C ca cb cc ns ps os) 26)) = W0 at B0 S0 ⊢
  have KU1 := Lib.hid (KU.out _ B0.out)
  have z0 : W0.cell? ⟨w.heap.size, 0, none⟩ = some (.slice (some ⟨bn, on, none⟩) ns.length ca) := Blk.cell S0.out 0
  have z1 : W0.cell? ⟨w.heap.size, 1, none⟩ = some (.slice B ps.length cb) := Blk.cell S0.out 1
  have z2 : W0.cell? ⟨w.heap.size, 2, none⟩ = some (.slice C os.length cc) := Blk.cell S0.out 2
  go_wp2_with fail
  refine (KU1.out).mono ?_
  rintro e W1 ⟨rfl, hb⟩
  have S1 := Lib.hid (S0.out.below hb S0.out.lt)
  have B1 := Lib.hid (B0.out.trans (hb.mono B0.out.size))
  clear hb KU KU1 S0 B0 z0 z1 z2
  have Q2 : Hid (Blk (W1.alloc (.cells #[.int .i64 (U 0), .int .i64 (U 1), .int .i64 (U 2), .int .i64 (U 3), .int .i64 (U 4)] 47)) W1.heap.size #[.int .i64 (U 0), .int .i64 (U 1), .int .i64 (U 2), .int .i64 (U 3), .int .i64 (U 4)] 47) := Lib.hid (Blk.new W1 _ _)
  have B2 : Hid (Below w.heap.size w (W1.alloc (.cells #[.int .i64 (U 0), .int .i64 (U 1), .int .i64 (U 2), .int .i64 (U 3), .int .i64 (U 4)] 47))) := Lib.hid (B1.out.trans ((below1 W1 _).mono B1.out.size))
  have z0 : (W1.alloc (.cells #[.int .i64 (U 0), .int .i64 (U 1), .int .i64 (U 2), .int .i64 (U 3), .int .i64 (U 4)] 47)).cell? ⟨w.heap.size, 0, none⟩ = some (.slice (some ⟨bn, on, none⟩) ns.length ca) := Blk.cell (Blk.alloc S1.out _) 0
  go_upto_region 2 with fail
  try change Code.wp _ _ _ _ (W1.alloc (.cells #[.int .i64 (U 0), .int .i64 (U 1), .int .i64 (U 2), .int .i64 (U 3), .int .i64 (U 4)] 47))
  generalize (W1.alloc (.cells #[.int .i64 (U 0), .int .i64 (U 1), .int .i64 (U 2), .int .i64 (U 3), .int .i64 (U 4)] 47)) = W2 at Q2 B2 z0 ⊢
  obtain ⟨Ub, hUb⟩ : ∃ b, W1.heap.size = b := ⟨_, rfl⟩
  rw [hUb] at Q2 ⊢
  clear hUb S1 B1
  obtain ⟨b', o', e1, _, d0, d1, d2, d3, d4, d5, _⟩ := HA.out _ B2.out
  cases e1
  have HU : Hid (∀ k : Nat, k < 5 → W2.cell? ⟨Ub, k, none⟩ = some (.int .i64 (U k))) := Lib.hid (fun k hk => by
    have h := Blk.cell Q2.out k
    rw [h]
    match k, hk with
    | 0, _ => rfl
    | 1, _ => rfl
    | 2, _ => rfl
    | 3, _ => rfl
    | 4, _ => rfl
    | k + 5, hk => omega)
  go_wp2_with fail
  go_loopw [8, 21] (fun u i wr => ∃ k : Nat, k ≤ 5 ∧ i = .int .i64 (k : Int) ∧ u = .int .i64 (leftS x.cap U k) ∧ wr = W2) (fun _ i _ => 5 - (intOf i).toNat)
  case atStart => exact ⟨0, by omega, rfl, rfl, rfl⟩
  case round =>
    obtain ⟨k, hk, rfl, rfl, rfl⟩ := hrel
    obtain ⟨l0, l1⟩ := HR.out k hk
    by_cases h5 : k = 5
    · subst h5
      clear d0 d1 d2 d3 d4 d5 z0 hcb hub HR HA HU l0 l1
      go_wp2_with fail
      go_ret
      exact ⟨rfl, B2.out⟩
    have hlt : k < 5 := by omega
    have EL : Hid (leftS x.cap U (k + 1) = leftS x.cap U k + leftT (x.cap k) (U k)) := Lib.hid rfl
    obtain ⟨c0, c1⟩ := hcb k hlt
    obtain ⟨v0, v1⟩ := hub k hlt
    have HT := Lib.hid (leftT_range c0 v0)
    have ix := fun w => cap_ix x.cap k hlt w
    have uk := HU.out k hlt
    have k0 : (0 : Int) ≤ (k : Int) := by omega
    have k1 : (k : Int) < 5 := by omega
    generalize leftS x.cap U k = a at EL l0 l1 ⊢
    generalize x.cap k = c at EL c0 c1 HT ix
    generalize U k = v at EL v0 v1 HT uk
    clear HR HA HU z0 hcb hub d0 d1 d2 d3 d4 d5
    by_cases hp : 0 < c
    · have ET : Hid (leftT c v = (1000 * max 0 (c - v)).tdiv c) := Lib.hid (if_pos hp)
      have hr := HT.out
      rw [ET.out] at EL hr
      have w1 : IntKind.i64.wrap (c - v) = c - v := IntWalk.i64_in _ (by omega)
      have w2 : IntKind.i64.wrap (1000 * max 0 (c - v)) = 1000 * max 0 (c - v) := IntWalk.i64_in _ (by omega)
      have w4 : IntKind.i64.wrap ((1000 * max 0 (c - v)).tdiv c) = (1000 * max 0 (c - v)).tdiv c := IntWalk.i64_in _ (by omega)
      have w3 : IntKind.i64.wrap (a + (1000 * max 0 (c - v)).tdiv c) = a + (1000 * max 0 (c - v)).tdiv c := IntWalk.i64_in _ (by omega)
      have hpd : decide (0 < c) = true := decide_eq_true hp
      have hz : (c == 0) = false := by rw [beq_eq_false_iff_ne]; omega
      have hz2 : c ≠ 0 := by omega
      clear ET HT hr
      go_wp2_with fail
      go_roundw
      case rel => exact ⟨k + 1, by omega, by go_num, by rw [EL.out], trivial⟩
      case measure => simp [intOf] <;> omega
    · have ET : Hid (leftT c v = 0) := Lib.hid (if_neg hp)
      have hpd : decide (0 < c) = false := decide_eq_false hp
      rw [ET.out, Int.add_zero] at EL
      clear ET HT
      go_wp2_with fail
      go_roundw
      case rel => exact ⟨k + 1, by omega, by go_num, by rw [EL.out], trivial⟩
      case measure => simp [intOf] <;> omega
/-- What is left on node n. -/
def leftN (ns : List NodeD) (ps : List PodD) (p : List Int) (n : Nat) : Int := match ns[n]? with
  | some x => leftS x.cap (addW ps (onU p (n : Int) p.length)) 5
  | none => 0
/-- What Left tells. -/
def leftF (ns : List NodeD) (ps : List PodD) (os : List OwnD) (p : List Int) (node : Int) : Int := if placeE ns ps os p = 0 ∧ 0 ≤ node ∧ node < (ns.length : Int) then leftN ns ps p node.toNat else 0
set_option maxRecDepth 100000 in
set_option maxHeartbeats 8000000 in
theorem Left_any (A B C P : Option Addr) (ca cb cc cp : Nat) (ns : List NodeD) (ps : List PodD) (os : List OwnD) (p : List Int) (node : Int) (w : World) (h : SnapIn w A B C ca cb cc ns ps os) (hp : IntsAt w P cp p) :
    Calls Tryz.prog 24 #[snapV A B C ca cb cc ns ps os, .slice P p.length cp, .int .i64 node] w fun e w' => e = .returned (.int .i64 (leftF ns ps os p node)) ∧ Below w.heap.size w w' := by
  have EF : Hid (leftF ns ps os p node = if placeE ns ps os p = 0 ∧ 0 ≤ node ∧ node < (ns.length : Int) then leftN ns ps p node.toNat else 0) := Lib.hid rfl
  generalize leftF ns ps os p node = R at EF ⊢
  have B0 : Hid (Below w.heap.size w (w.alloc (.cells (snapC A B C ca cb cc ns ps os) 26))) := Lib.hid (below1 w _)
  have S0 : Hid (Blk (w.alloc (.cells (snapC A B C ca cb cc ns ps os) 26)) w.heap.size (snapC A B C ca cb cc ns ps os) 26) := Lib.hid (Blk.new w _ _)
  have KE := Lib.hid (fun W' (hb : Below w.heap.size w W') => pcheck_in A B C P ca cb cc cp ns ps os p W' (h.low hb) (hp.below hb))
  have KI := Lib.hid (fun i n W' => isPlaceF_any i n W')
  have KL : Hid (∀ (n : Nat), placeE ns ps os p = 0 → node = (n : Int) → n < ns.length → ∀ W', Below w.heap.size w W' → Calls Tryz.prog 73 #[snapV A B C ca cb cc ns ps os, .slice P p.length cp, .int .i64 node] W' fun e w' => e = .returned (.int .i64 (leftN ns ps p node.toNat)) ∧ Below W'.heap.size W' w') := Lib.hid (fun n hE e hn W' hb => by
    subst e
    obtain ⟨x, hx⟩ : ∃ x, ns[n]? = some x := ⟨ns[n], List.getElem?_eq_getElem hn⟩
    have e2 : leftN ns ps p ((n : Int).toNat) = leftS x.cap (addW ps (onU p (n : Int) p.length)) 5 := by
      unfold leftN
      rw [Int.toNat_natCast, hx]
    rw [e2]
    exact left_any A B C P ca cb cc cp ns ps os p n x hE hx W' ((h.low hb).at (placeE_few hE)) (hp.below hb))
  clear h hp
  go_enter Tryz.func24, Tryz.ntmps24
  go_upto_region 1 with fail
  try change Code.wp _ _ _ _ (w.alloc (.cells (snapC A B C ca cb cc ns ps os) 26))
  generalize (w.alloc (.cells (snapC A B C ca cb cc ns ps os) 26)) = W0 at B0 S0 ⊢
  have HC : Hid (∀ W', Below W0.heap.size W0 W' → (W'.cell? ⟨w.heap.size, 0, none⟩ = some (.slice A ns.length ca) ∧ W'.cell? ⟨w.heap.size, 1, none⟩ = some (.slice B ps.length cb) ∧ W'.cell? ⟨w.heap.size, 2, none⟩ = some (.slice C os.length cc))) := Lib.hid (fun W' hb => by
    have h1 := S0.out.below hb S0.out.lt
    exact ⟨Blk.cell h1 0, Blk.cell h1 1, Blk.cell h1 2⟩)
  have HT := Lib.hid (fun W' (hb : Below W0.heap.size W0 W') => B0.out.trans (hb.mono B0.out.size))
  have KE1 := Lib.hid (KE.out _ B0.out)
  clear S0 B0 KE
  obtain ⟨z0, z1, z2⟩ := HC.out _ (Below.refl _ _)
  generalize hEE : placeE ns ps os p = E at KE1 EF KL
  go_wp2_with fail
  refine (KE1.out).mono ?_
  rintro e W1 ⟨rfl, hb⟩
  have HB1 := Lib.hid hb
  clear hb KE1 z0 z1 z2 hEE
  by_cases h0 : E = 0
  case neg =>
    have hne : (E != 0) = true := by simpa using h0
    have hnd : decide (E = 0) = false := decide_eq_false h0
    have D := Lib.hid (HT.out _ HB1.out)
    have ER : Hid (R = 0) := Lib.hid (by rw [EF.out, if_neg (fun h => h0 h.1)])
    clear h0 EF KL
    go_wp2
    go_ret
    rw [ER.out]
    exact ⟨rfl, D.out⟩
  subst h0
  obtain ⟨z0, z1, z2⟩ := HC.out _ HB1.out
  by_cases hn : 0 ≤ node ∧ node < (ns.length : Int)
  case neg =>
    have D := Lib.hid (HT.out _ HB1.out)
    have ER : Hid (R = 0) := Lib.hid (by rw [EF.out, if_neg (fun h => hn h.2)])
    have KI1 : Hid (∀ W', Calls Tryz.prog 79 #[.int .i64 node, .int .i64 (ns.length : Int)] W' fun e w' => e = .returned (.bool false) ∧ w' = W') := Lib.hid (fun W' => by
      have e : (decide (0 ≤ node) && decide (node < (ns.length : Int))) = false := by
        rw [← Bool.decide_and]
        exact decide_eq_false hn
      rw [← e]
      exact KI.out _ _ W')
    clear hn EF KL KI
    go_wp2_with fail
    refine (KI1.out _).mono ?_
    rintro e W2 ⟨rfl, rfl⟩
    go_wp2
    go_ret
    rw [ER.out]
    exact ⟨rfl, D.out⟩
  have ER : Hid (R = leftN ns ps p node.toNat) := Lib.hid (by rw [EF.out, if_pos ⟨rfl, hn⟩])
  have KI1 : Hid (∀ W', Calls Tryz.prog 79 #[.int .i64 node, .int .i64 (ns.length : Int)] W' fun e w' => e = .returned (.bool true) ∧ w' = W') := Lib.hid (fun W' => by
    have e : (decide (0 ≤ node) && decide (node < (ns.length : Int))) = true := by
      rw [← Bool.decide_and]
      exact decide_eq_true hn
    rw [← e]
    exact KI.out _ _ W')
  have KL1 := Lib.hid (KL.out node.toNat rfl (by omega) (by omega) _ (HT.out _ HB1.out))
  rw [← ER.out] at KL1
  clear hn EF KL KI ER
  go_wp2_with fail
  refine (KI1.out _).mono ?_
  rintro e W2 ⟨rfl, rfl⟩
  go_wp2_with fail
  refine (KL1.out).mono ?_
  rintro e W3 ⟨rfl, hb⟩
  have D := Lib.hid (HT.out _ (HB1.out.trans (hb.mono HB1.out.size)))
  clear hb
  go_wp2
  go_ret
  exact ⟨rfl, D.out⟩
end Go.Proofs.YtmmokiaipfalmaaGreat
