/- The clauses of a placement stand in order, each once; none is broken by less than nothing; how many are about pods. In numbers only. A map of how much clauses are broken, its keys what they are about: what is found in it, how many are in it, what they are together. In numbers and data only. By how much the clauses of a placement are broken, as a map: the program's brokenBy, whichOf, weight. Contracts. Condition: the cluster and the numbers lie in memory. What one placement makes worse: the program's worseThan, its closure, Worse. Contracts. Condition: the cluster and the numbers lie in memory. Whether a placement is safe, by how much it is broken: the program's Safe, Sum. Contracts. Condition: the cluster and the numbers lie in memory. A clause about a pod, by the document's words: of. A contract. Conditions: the cluster and the numbers lie in memory, the placement may be, the pod is there, the kind is one of those about pods. All clauses of a placement, by the document's words: All. A contract. Condition: the cluster and the numbers lie in memory. By how much a clause is broken in a list: find. A contract. Condition: the list lies in memory. -/
import Derived.Test.YtpdaohkpgconkaaGreatC10
import Derived.Maps.OwnSet
import Derived.Maps.OwnOps
import Derived.Maps.RangeWalk
import Derived.DeepKeys4
import Derived.WalkArith
import Derived.Deep.RegionHeld3
import Derived.StillTailTactics
import Derived.Handy

namespace Go.Proofs.YtpdaohkpgconkaaGreat
open Go.RowKit

/-- One clause stands ahead of another. -/
def Rise3 (c d : ClT) : Prop := c.1 < d.1 ∨ (c.1 = d.1 ∧ (c.2.1 < d.2.1 ∨ (c.2.1 = d.2.1 ∧ c.2.2.1 < d.2.2.1)))
theorem caps_kind (ns : List NodeD) (ps : List PodD) (p : List Int) : ∀ k, ∀ c ∈ capsU ns ps p k, c.1 = 1 ∧ 0 ≤ c.2.1 ∧ c.2.1 < (k : Int) ∧ 0 ≤ c.2.2.2
  | 0, c, h => by simp [capsU] at h
  | k + 1, c, h => by
    rw [capsU, List.mem_append] at h
    rcases h with h | h
    · have := caps_kind ns ps p k c h
      omega
    · split at h
      · obtain ⟨q, hq, rfl⟩ := List.mem_map.1 h
        refine ⟨rfl, ?_, ?_, ?_⟩
        · show (0 : Int) ≤ (k : Int); omega
        · show (k : Int) < ((k + 1 : Nat) : Int); omega
        · show 0 ≤ max 0 _; omega
      · simp at h
theorem caps_rise (ns : List NodeD) (ps : List PodD) (p : List Int) : ∀ k, (capsU ns ps p k).Pairwise Rise3
  | 0 => List.Pairwise.nil
  | k + 1 => by
    rw [capsU, List.pairwise_append]
    refine ⟨caps_rise ns ps p k, ?_, ?_⟩
    · split
      · unfold capN
        rw [List.pairwise_map]
        refine List.Pairwise.imp ?_ List.pairwise_lt_range
        intro a b hab
        refine .inr ⟨rfl, .inr ⟨rfl, ?_⟩⟩
        show (a : Int) < (b : Int)
        omega
      · exact List.Pairwise.nil
    · intro c hc d hd
      obtain ⟨h1, _, h3, _⟩ := caps_kind ns ps p k c hc
      split at hd
      · obtain ⟨q, hq, rfl⟩ := List.mem_map.1 hd
        refine .inr ⟨h1, .inl ?_⟩
        show c.2.1 < (k : Int)
        omega
      · simp at hd
theorem pods_kind (ns : List NodeD) (ps : List PodD) (os : List OwnD) (p : List Int) (kind : Nat) : ∀ k, ∀ c ∈ podsU ns ps os p kind k, c.1 = (kind : Int) ∧ 0 ≤ c.2.1 ∧ c.2.1 < (k : Int) ∧ 0 ≤ c.2.2.2
  | 0, c, h => by simp [podsU] at h
  | k + 1, c, h => by
    rw [podsU, List.mem_append] at h
    rcases h with h | h
    · have := pods_kind ns ps os p kind k c h
      omega
    · unfold podR at h
      split at h
      · simp at h
        subst h
        refine ⟨rfl, ?_, ?_, ?_⟩
        · show (0 : Int) ≤ (k : Int); omega
        · show (k : Int) < ((k + 1 : Nat) : Int); omega
        · rename_i b _
          show (0 : Int) ≤ (b : Int); omega
      · simp at h
theorem pods_rise (ns : List NodeD) (ps : List PodD) (os : List OwnD) (p : List Int) (kind : Nat) : ∀ k, (podsU ns ps os p kind k).Pairwise Rise3
  | 0 => List.Pairwise.nil
  | k + 1 => by
    rw [podsU, List.pairwise_append]
    refine ⟨pods_rise ns ps os p kind k, ?_, ?_⟩
    · unfold podR
      split
      · exact List.pairwise_singleton _ _
      · exact List.Pairwise.nil
    · intro c hc d hd
      obtain ⟨h1, _, h3, _⟩ := pods_kind ns ps os p kind k c hc
      unfold podR at hd
      split at hd
      · simp at hd
        subst hd
        refine .inr ⟨h1, .inl ?_⟩
        show c.2.1 < (k : Int)
        omega
      · simp at hd
theorem kinds_kind (ns : List NodeD) (ps : List PodD) (os : List OwnD) (p : List Int) : ∀ k, ∀ c ∈ kindsU ns ps os p k, 2 ≤ c.1 ∧ c.1 ≤ (k : Int) + 1 ∧ 0 ≤ c.2.1 ∧ c.2.1 < (p.length : Int) ∧ 0 ≤ c.2.2.2
  | 0, c, h => by simp [kindsU] at h
  | k + 1, c, h => by
    rw [kindsU, List.mem_append] at h
    rcases h with h | h
    · have := kinds_kind ns ps os p k c h
      omega
    · have := pods_kind ns ps os p (k + 2) p.length c h
      omega
theorem kinds_rise (ns : List NodeD) (ps : List PodD) (os : List OwnD) (p : List Int) : ∀ k, (kindsU ns ps os p k).Pairwise Rise3
  | 0 => List.Pairwise.nil
  | k + 1 => by
    rw [kindsU, List.pairwise_append]
    refine ⟨kinds_rise ns ps os p k, pods_rise ns ps os p (k + 2) p.length, ?_⟩
    intro c hc d hd
    have := kinds_kind ns ps os p k c hc
    have := pods_kind ns ps os p (k + 2) p.length d hd
    exact .inl (by omega)
theorem skewO_pos (l : List Int) (s : Int) : 0 ≤ skewO l s := by
  unfold skewO
  split <;> omega
theorem spreads_kind (ns : List NodeD) (ps : List PodD) (os : List OwnD) (p : List Int) : ∀ k, ∀ c ∈ spreadsU ns ps os p k, c.1 = 7 ∧ 0 ≤ c.2.1 ∧ c.2.1 < (k : Int) ∧ 0 ≤ c.2.2.2
  | 0, c, h => by simp [spreadsU] at h
  | k + 1, c, h => by
    rw [spreadsU, List.mem_append] at h
    rcases h with h | h
    · have := spreads_kind ns ps os p k c h
      omega
    · unfold spreadR at h
      split at h
      · split at h
        · simp at h
        · simp at h
          subst h
          refine ⟨rfl, ?_, ?_, skewO_pos _ _⟩
          · show (0 : Int) ≤ (k : Int); omega
          · show (k : Int) < ((k + 1 : Nat) : Int); omega
      · simp at h
theorem spreads_rise (ns : List NodeD) (ps : List PodD) (os : List OwnD) (p : List Int) : ∀ k, (spreadsU ns ps os p k).Pairwise Rise3
  | 0 => List.Pairwise.nil
  | k + 1 => by
    rw [spreadsU, List.pairwise_append]
    refine ⟨spreads_rise ns ps os p k, ?_, ?_⟩
    · unfold spreadR
      split
      · split
        · exact List.Pairwise.nil
        · exact List.pairwise_singleton _ _
      · exact List.Pairwise.nil
    · intro c hc d hd
      obtain ⟨h1, _, h3, _⟩ := spreads_kind ns ps os p k c hc
      unfold spreadR at hd
      split at hd
      · split at hd
        · simp at hd
        · simp at hd
          subst hd
          refine .inr ⟨h1, .inl ?_⟩
          show c.2.1 < (k : Int)
          omega
      · simp at hd
theorem mins_kind (ns : List NodeD) (ps : List PodD) (os : List OwnD) (p : List Int) : ∀ k, ∀ c ∈ minsU ns ps os p k, c.1 = 8 ∧ 0 ≤ c.2.1 ∧ c.2.1 < (k : Int) ∧ 0 ≤ c.2.2.2
  | 0, c, h => by simp [minsU] at h
  | k + 1, c, h => by
    rw [minsU, List.mem_append] at h
    rcases h with h | h
    · have := mins_kind ns ps os p k c h
      omega
    · unfold minR at h
      split at h
      · simp at h
        subst h
        refine ⟨rfl, ?_, ?_, ?_⟩
        · show (0 : Int) ≤ (k : Int); omega
        · show (k : Int) < ((k + 1 : Nat) : Int); omega
        · show 0 ≤ max 0 _; omega
      · simp at h
theorem mins_rise (ns : List NodeD) (ps : List PodD) (os : List OwnD) (p : List Int) : ∀ k, (minsU ns ps os p k).Pairwise Rise3
  | 0 => List.Pairwise.nil
  | k + 1 => by
    rw [minsU, List.pairwise_append]
    refine ⟨mins_rise ns ps os p k, ?_, ?_⟩
    · unfold minR
      split
      · exact List.pairwise_singleton _ _
      · exact List.Pairwise.nil
    · intro c hc d hd
      obtain ⟨h1, _, h3, _⟩ := mins_kind ns ps os p k c hc
      unfold minR at hd
      split at hd
      · simp at hd
        subst hd
        refine .inr ⟨h1, .inl ?_⟩
        show c.2.1 < (k : Int)
        omega
      · simp at hd
theorem all8_rise (ns : List NodeD) (ps : List PodD) (os : List OwnD) (p : List Int) : (all8 ns ps os p).Pairwise Rise3 := by
  unfold all8
  split
  · unfold allU
    rw [List.pairwise_append, List.pairwise_append, List.pairwise_append]
    refine ⟨⟨⟨caps_rise _ _ _ _, kinds_rise _ _ _ _ _, ?_⟩, spreads_rise _ _ _ _ _, ?_⟩, mins_rise _ _ _ _ _, ?_⟩
    · intro c hc d hd
      have := caps_kind ns ps p _ c hc
      have := kinds_kind ns ps os p _ d hd
      exact .inl (by omega)
    · intro c hc d hd
      have := spreads_kind ns ps os p _ d hd
      rcases List.mem_append.1 hc with hc | hc
      · have := caps_kind ns ps p _ c hc
        exact .inl (by omega)
      · have := kinds_kind ns ps os p _ c hc
        exact .inl (by omega)
    · intro c hc d hd
      have := mins_kind ns ps os p _ d hd
      rcases List.mem_append.1 hc with hc | hc
      · rcases List.mem_append.1 hc with hc | hc
        · have := caps_kind ns ps p _ c hc
          exact .inl (by omega)
        · have := kinds_kind ns ps os p _ c hc
          exact .inl (by omega)
      · have := spreads_kind ns ps os p _ c hc
        exact .inl (by omega)
  · exact List.Pairwise.nil
/-- What each clause is: of a known kind, broken by no less than nothing; one about a pod is about one that is there. -/
theorem all8_good (ns : List NodeD) (ps : List PodD) (os : List OwnD) (p : List Int) : ∀ c ∈ all8 ns ps os p, 0 ≤ c.2.2.2 ∧ (2 ≤ c.1 → c.1 ≤ 6 → 0 ≤ c.2.1 ∧ c.2.1 < (p.length : Int)) := by
  intro c hc
  unfold all8 at hc
  split at hc
  · unfold allU at hc
    simp only [List.mem_append] at hc
    rcases hc with ((hc | hc) | hc) | hc
    · have := caps_kind ns ps p _ c hc
      exact ⟨by omega, fun h1 h2 => by omega⟩
    · have := kinds_kind ns ps os p _ c hc
      exact ⟨by omega, fun h1 h2 => by omega⟩
    · have := spreads_kind ns ps os p _ c hc
      exact ⟨by omega, fun h1 h2 => by omega⟩
    · have := mins_kind ns ps os p _ c hc
      exact ⟨by omega, fun h1 h2 => by omega⟩
  · simp at hc
theorem rise_at {l : List ClT} (h : l.Pairwise Rise3) {i j : Nat} {c d : ClT} (hi : l[i]? = some c) (hj : l[j]? = some d) (hij : i < j) : Rise3 c d := by
  obtain ⟨h1, rfl⟩ := List.getElem?_eq_some_iff.1 hi
  obtain ⟨h2, rfl⟩ := List.getElem?_eq_some_iff.1 hj
  exact List.pairwise_iff_getElem.1 h i j h1 h2 hij
/-- Each clause is found by what it is about. -/
theorem find_rise {l : List ClT} (h : l.Pairwise Rise3) {c : ClT} (hc : c ∈ l) : findC l c.1 c.2.1 c.2.2.1 = some c.2.2.2 := by
  obtain ⟨k, hk⟩ := List.mem_iff_getElem?.1 hc
  refine findC_at hk (by simp [isC]) ?_
  intro j z hj hz
  have hr := rise_at h hz hk hj
  unfold isC
  refine decide_eq_false ?_
  rintro ⟨e1, e2, e3⟩
  unfold Rise3 at hr
  omega
end Go.Proofs.YtpdaohkpgconkaaGreat

namespace Go.Proofs.YtpdaohkpgconkaaGreat
open Go.RowKit Go.Maps

theorem which_row : (93 : TypeId) < Tryz.prog.types.size := of_decide_eq_true (by kernel_rfl)
theorem which_laid : laidOutB Tryz.prog = true := by kernel_rfl
theorem which_wide : (match Tryz.prog.underlying 93 with | some (.array _ _) | some (.struct _) => true | _ => false) = true := by rw [Tryz.underlying93]
set_option maxRecDepth 100000 in
theorem which_law : Keyed Tryz.prog 93 := Keyed.of_law (deep_law_laid which_laid (m := 2) (by omega) which_row (by kernel_rfl) which_wide)
theorem which_type : Tryz.prog.keyType 93 = true := by kernel_rfl
theorem which_cells : Tryz.prog.cellsOf 93 = 3 := by kernel_rfl
theorem int_cells1 : Tryz.prog.cellsOf 3 = 1 := by kernel_rfl
theorem which_lits (n : Nat) (cs : List Value) : Tryz.prog.keyLits (n + 1) 93 cs = (match Tryz.prog.underlying 93, cs with | some (.struct fs), cs => if cs.length = Tryz.prog.cellsOf 93 ∧ fs.all (·.name != "_") = true then (fs.toList.mapM fun f => Tryz.prog.keyLits n f.type ((cs.drop f.offset).take (Tryz.prog.cellsOf f.type))).map List.flatten else none | _, _ => none) := by
  rw [Tryz.underlying93]
  conv => lhs; unfold Program.keyLits
  rw [Tryz.underlying93]
theorem int_lits (n : Nat) (a : Int) (h : (Lit.int .i64 a).wf = true) : Tryz.prog.keyLits (n + 1) 3 [.int .i64 a] = some [.int .i64 a] := by
  unfold Program.keyLits
  rw [Tryz.underlying3]
  simp [h]

/-- What a clause is about, as a value, as a key's datum. -/
def keyW (a b c : Int) : Value := .agg #[.int .i64 a, .int .i64 b, .int .i64 c]
def litW (a b c : Int) : Lit := .string (keyBytes [.int .i64 a, .int .i64 b, .int .i64 c])
def KeyOk (a b c : Int) : Prop := (0 ≤ a ∧ a ≤ 1000000) ∧ (0 ≤ b ∧ b ≤ 1000000) ∧ (0 ≤ c ∧ c ≤ 1000000)
theorem keyOf_w {a b c : Int} (h : KeyOk a b c) : keyOf Tryz.prog 93 (keyW a b c) = some (litW a b c) := by
  obtain ⟨⟨a0, a1⟩, ⟨b0, b1⟩, c0, c1⟩ := h
  have ha : (Lit.int .i64 a).wf = true := WalkArith.wf_i64 (by omega)
  have hb : (Lit.int .i64 b).wf = true := WalkArith.wf_i64 (by omega)
  have hc : (Lit.int .i64 c).wf = true := WalkArith.wf_i64 (by omega)
  clear a0 a1 b0 b1 c0 c1
  obtain ⟨n, hn⟩ : ∃ n, Tryz.prog.types.size + 1 = n + 1 + 1 := by
    obtain ⟨m, hm⟩ := Nat.exists_eq_succ_of_ne_zero (Nat.ne_of_gt (Nat.lt_of_le_of_lt (Nat.zero_le _) which_row))
    exact ⟨m, by rw [hm]⟩
  have hl : Tryz.prog.keyLits (n + 1 + 1) 93 [.int .i64 a, .int .i64 b, .int .i64 c] = some [.int .i64 a, .int .i64 b, .int .i64 c] := by
    rw [which_lits, Tryz.underlying93]
    simp [which_cells, int_cells1, int_lits n _ ha, int_lits n _ hb, int_lits n _ hc]
  have hf : (Value.agg #[.int .i64 a, .int .i64 b, .int .i64 c]).formed Tryz.prog 93 = true := by simp [Value.formed, Tryz.underlying93, which_cells]
  unfold keyOf keyW
  rw [Tryz.underlying93]
  dsimp only
  rw [which_type, hf, hn]
  show (if (true && true) = true then Option.map (fun ls => Lit.string (keyBytes ls)) (Tryz.prog.keyLits (n + 1 + 1) 93 [.int .i64 a, .int .i64 b, .int .i64 c]) else none) = _
  rw [hl]
  rfl
theorem litW_key {a b c : Int} (h : KeyOk a b c) : WideAt.IsKeyLit (litW a b c) := which_law.key (keyOf_w h)
theorem litW_inj {a b c a' b' c' : Int} (h : KeyOk a b c) (h' : KeyOk a' b' c') (e : litW a b c = litW a' b' c') : a = a' ∧ b = b' ∧ c = c' := by
  have h1 := keyOf_w h
  have h2 := keyOf_w h'
  rw [e] at h1
  have := which_law.inj h1 h2
  unfold keyW at this
  simpa using this
theorem keyOf_w_inv {v : Value} {kl : Lit} (h : keyOf Tryz.prog 93 v = some kl) {a b c : Int} (hk : KeyOk a b c) (e : kl = litW a b c) : v = keyW a b c := by
  subst e
  exact which_law.inj h (keyOf_w hk)

/-- How a number in the map reads. -/
def intE (v : Value) : Option (DataW Unit × List MemPlace) := match v with
  | .int .i64 a => some (.lit (.int .i64 a), [])
  | _ => none
theorem intE_inv {v : Value} {y : DataW Unit × List MemPlace} (h : intE v = some y) : ∃ c, v = .int .i64 c ∧ y = (.lit (.int .i64 c), []) := by
  unfold intE at h
  split at h
  · rename_i a
    exact ⟨a, rfl, (Option.some.inj h).symm⟩
  · cases h

def OkC (c : ClT) : Prop := KeyOk c.1 c.2.1 c.2.2.1
def litC (c : ClT) : Lit := litW c.1 c.2.1 c.2.2.1
def putW (D : DataW Unit) (c : ClT) : DataW Unit := D.put (litC c) (.lit (.int .i64 c.2.2.2))
/-- The map of a list of clauses. -/
def mapW (l : List ClT) : DataW Unit := l.foldl putW (.map [])
theorem mapW_snoc (l : List ClT) (c : ClT) : mapW (l ++ [c]) = putW (mapW l) c := by simp [mapW, List.foldl_append]
theorem findC_cons (c : ClT) (l : List ClT) (kd a b : Int) : findC (c :: l) kd a b = if isC kd a b c = true then some c.2.2.2 else findC l kd a b := by
  unfold findC
  rw [List.find?_cons]
  cases isC kd a b c <;> rfl
theorem findC_rise {c : ClT} {l : List ClT} (h : ∀ d ∈ l, Rise3 c d) {kd a b : Int} (hi : isC kd a b c = true) : findC l kd a b = none := by
  refine findC_no fun j z hz => ?_
  have hr := h z (List.mem_of_getElem? hz)
  unfold isC at hi ⊢
  have hi := of_decide_eq_true hi
  refine decide_eq_false ?_
  rintro ⟨e1, e2, e3⟩
  unfold Rise3 at hr
  omega
theorem fold_at {kd a b : Int} (hk : KeyOk kd a b) (z : DataW Unit) : ∀ (l : List ClT) (D : DataW Unit), IsMap D → (∀ c ∈ l, OkC c) → l.Pairwise Rise3 → (l.foldl putW D).atKey (litW kd a b) z = match findC l kd a b with
      | some y => .lit (.int .i64 y)
      | none => D.atKey (litW kd a b) z
  | [], _, _, _, _ => rfl
  | c :: t, D, hD, ho, hr => by
    obtain ⟨hr1, hr2⟩ := List.pairwise_cons.1 hr
    rw [List.foldl_cons, fold_at hk z t (putW D c) (hD.put _ _) (fun x hx => ho x (by simp [hx])) hr2, findC_cons]
    by_cases hi : isC kd a b c = true
    · rw [if_pos hi, findC_rise hr1 hi]
      dsimp only
      have hi := of_decide_eq_true hi
      obtain ⟨e1, e2, e3⟩ := hi
      unfold putW litC
      rw [e1, e2, e3]
      exact atKey_put_same hD (litW_key hk) _ _
    · rw [if_neg hi]
      cases findC t kd a b with
      | some y => rfl
      | none =>
        dsimp only
        unfold putW
        refine atKey_put_other (fun e => hi ?_) _ _
        exact decide_eq_true (by
          obtain ⟨h1, h2, h3⟩ := litW_inj hk (ho c (by simp)) e
          exact ⟨h1.symm, h2.symm, h3.symm⟩)
theorem mapW_at {kd a b : Int} (hk : KeyOk kd a b) {l : List ClT} (ho : ∀ c ∈ l, OkC c) (hr : l.Pairwise Rise3) : (mapW l).atKey (litW kd a b) (.lit (.int .i64 0)) = .lit (.int .i64 ((findC l kd a b).getD 0)) := by
  unfold mapW
  rw [fold_at hk _ l _ isMap_empty ho hr]
  cases findC l kd a b <;> rfl
theorem fold_has {k : Lit} : ∀ (l : List ClT) (D : DataW Unit), has (l.foldl putW D) k = true → (∃ c ∈ l, k = litC c) ∨ has D k = true
  | [], _, h => .inr h
  | c :: t, D, h => by
    rcases fold_has t (putW D c) h with ⟨d, hd, e⟩ | h
    · exact .inl ⟨d, by simp [hd], e⟩
    · by_cases e : k = litC c
      · exact .inl ⟨c, by simp, e⟩
      · unfold putW at h
        rw [has_put_other e] at h
        exact .inr h
theorem mapW_has_inv {k : Lit} {l : List ClT} (h : has (mapW l) k = true) : ∃ c ∈ l, k = litC c := by
  rcases fold_has l _ h with h | h
  · exact h
  · cases h
theorem fold_has_keep {k : Lit} (hk : WideAt.IsKeyLit k) : ∀ (l : List ClT) (D : DataW Unit), IsMap D → (has D k = true ∨ ∃ c ∈ l, k = litC c) → has (l.foldl putW D) k = true
  | [], _, _, h => by
    rcases h with h | ⟨c, hc, _⟩
    · exact h
    · cases hc
  | c :: t, D, hD, h => by
    rw [List.foldl_cons]
    refine fold_has_keep hk t _ (hD.put _ _) ?_
    by_cases e : k = litC c
    · left
      unfold putW
      rw [← e]
      exact has_put_same hD hk _
    · rcases h with h | ⟨d, hd, e'⟩
      · left
        unfold putW
        rw [has_put_other e]
        exact h
      · rcases List.mem_cons.1 hd with rfl | hd
        · exact absurd e' e
        · exact .inr ⟨d, hd, e'⟩
theorem mapW_has {l : List ClT} {c : ClT} (hc : c ∈ l) (ho : OkC c) : has (mapW l) (litC c) = true := fold_has_keep (litW_key ho) l _ isMap_empty (.inr ⟨c, hc, rfl⟩)
theorem mapW_size {l : List ClT} (ho : ∀ c ∈ l, OkC c) : size (mapW l) = 0 ↔ l = [] := by
  constructor
  · intro h
    cases l with
    | nil => rfl
    | cons c t =>
      have h1 := mapW_has (l := c :: t) (c := c) (by simp) (ho c (by simp))
      generalize mapW (c :: t) = D at h h1
      cases D <;> try cases h1
      rename_i es
      have h2 : es = [] := List.length_eq_zero_iff.1 h
      subst h2
      cases h1
  · rintro rfl
    rfl

/-- What a broken clause counts. -/
def wtC (c : ClT) : Int := if c.1 = 1 then 1 else c.2.2.2
/-- What those together count that are no longer to come. -/
def sumL (left : Lit → Bool) : List ClT → Int
  | [] => 0
  | c :: t => (if left (litC c) then 0 else wtC c) + sumL left t
def sumW : List ClT → Int
  | [] => 0
  | c :: t => wtC c + sumW t
theorem sumL_start {left : Lit → Bool} : ∀ {l : List ClT}, (∀ c ∈ l, left (litC c) = true) → sumL left l = 0
  | [], _ => rfl
  | c :: t, h => by
    rw [sumL, h c (by simp), sumL_start (fun d hd => h d (by simp [hd]))]
    rfl
theorem sumL_end {left : Lit → Bool} (h : ∀ k, left k = false) : ∀ l : List ClT, sumL left l = sumW l
  | [] => rfl
  | c :: t => by
    rw [sumL, h, sumL_end h t, sumW]
    rfl
theorem sumL_same {left left' : Lit → Bool} : ∀ {l : List ClT}, (∀ c ∈ l, left (litC c) = left' (litC c)) → sumL left l = sumL left' l
  | [], _ => rfl
  | c :: t, h => by
    rw [sumL, sumL, h c (by simp), sumL_same (fun d hd => h d (by simp [hd]))]
theorem litC_ne {c d : ClT} (hc : OkC c) (hd : OkC d) (hr : Rise3 c d) : litC c ≠ litC d := by
  intro e
  obtain ⟨h1, h2, h3⟩ := litW_inj hc hd e
  unfold Rise3 at hr
  omega
theorem sumL_step {left : Lit → Bool} {c : ClT} (hl : left (litC c) = true) : ∀ {l : List ClT}, (∀ d ∈ l, OkC d) → l.Pairwise Rise3 → c ∈ l → sumL (fun z => left z && !z.sameKey (litC c)) l = sumL left l + wtC c
  | [], _, _, h => by cases h
  | d :: t, ho, hr, h => by
    obtain ⟨hr1, hr2⟩ := List.pairwise_cons.1 hr
    have hod := ho d (by simp)
    rcases List.mem_cons.1 h with rfl | h
    · have e1 : sumL (fun z => left z && !z.sameKey (litC c)) t = sumL left t := sumL_same (fun x hx => by
        have hne := litC_ne hod (ho x (by simp [hx])) (hr1 x hx)
        show (left (litC x) && !(litC x).sameKey (litC c)) = left (litC x)
        rw [sameKey_ne hne.symm]
        simp)
      rw [sumL, sumL, e1, hl]
      have e2 : (litC c).sameKey (litC c) = true := WideAt.sameKey_self (litW_key hod)
      show (if (true && !(litC c).sameKey (litC c)) = true then 0 else wtC c) + sumL left t = (if true = true then 0 else wtC c) + sumL left t + wtC c
      rw [e2]
      simp
      omega
    · have hne := litC_ne hod (ho c (by simp [h])) (hr1 c h)
      have e2 : (left (litC d) && !(litC d).sameKey (litC c)) = left (litC d) := by
        rw [sameKey_ne hne]
        simp
      rw [sumL, sumL, sumL_step hl (fun x hx => ho x (by simp [hx])) hr2 h]
      show (if (left (litC d) && !(litC d).sameKey (litC c)) = true then 0 else wtC d) + _ = _
      rw [e2]
      omega

/-- What each clause is about may be a key. -/
theorem all8_keys {ns : List NodeD} {ps : List PodD} {os : List OwnD} {p : List Int} (hn : ns.length ≤ 1000) (ho : os.length ≤ 1000) (hp : p.length ≤ 1000) : ∀ c ∈ all8 ns ps os p, OkC c := by
  have hB : ∀ c ∈ capsU ns ps p ns.length, 0 ≤ c.2.2.1 ∧ c.2.2.1 ≤ 5 := by
    have : ∀ k, ∀ c ∈ capsU ns ps p k, 0 ≤ c.2.2.1 ∧ c.2.2.1 ≤ 5 := by
      intro k
      induction k with
      | zero => intro c hc; simp [capsU] at hc
      | succ k ih =>
        intro c hc
        rw [capsU, List.mem_append] at hc
        rcases hc with hc | hc
        · exact ih c hc
        · split at hc
          · obtain ⟨q, hq, rfl⟩ := List.mem_map.1 hc
            have := List.mem_range.1 hq
            show (0 : Int) ≤ (q : Int) ∧ (q : Int) ≤ 5
            omega
          · simp at hc
    exact this _
  have hP : ∀ kind k, ∀ c ∈ podsU ns ps os p kind k, c.2.2.1 = 0 := by
    intro kind k
    induction k with
    | zero => intro c hc; simp [podsU] at hc
    | succ k ih =>
      intro c hc
      rw [podsU, List.mem_append] at hc
      rcases hc with hc | hc
      · exact ih c hc
      · unfold podR at hc
        split at hc
        · simp at hc
          subst hc
          rfl
        · simp at hc
  have hK : ∀ k, ∀ c ∈ kindsU ns ps os p k, c.2.2.1 = 0 := by
    intro k
    induction k with
    | zero => intro c hc; simp [kindsU] at hc
    | succ k ih =>
      intro c hc
      rw [kindsU, List.mem_append] at hc
      rcases hc with hc | hc
      · exact ih c hc
      · exact hP _ _ c hc
  have hS : ∀ k, ∀ c ∈ spreadsU ns ps os p k, c.2.2.1 = 0 := by
    intro k
    induction k with
    | zero => intro c hc; simp [spreadsU] at hc
    | succ k ih =>
      intro c hc
      rw [spreadsU, List.mem_append] at hc
      rcases hc with hc | hc
      · exact ih c hc
      · unfold spreadR at hc
        split at hc
        · split at hc
          · simp at hc
          · simp at hc
            subst hc
            rfl
        · simp at hc
  have hM : ∀ k, ∀ c ∈ minsU ns ps os p k, c.2.2.1 = 0 := by
    intro k
    induction k with
    | zero => intro c hc; simp [minsU] at hc
    | succ k ih =>
      intro c hc
      rw [minsU, List.mem_append] at hc
      rcases hc with hc | hc
      · exact ih c hc
      · unfold minR at hc
        split at hc
        · simp at hc
          subst hc
          rfl
        · simp at hc
  intro c hc
  unfold OkC KeyOk
  unfold all8 at hc
  split at hc
  · unfold allU at hc
    simp only [List.mem_append] at hc
    rcases hc with ((hc | hc) | hc) | hc
    · have := caps_kind ns ps p _ c hc
      have := hB c hc
      omega
    · have := kinds_kind ns ps os p _ c hc
      have := hK _ c hc
      omega
    · have := spreads_kind ns ps os p _ c hc
      have := hS _ c hc
      omega
    · have := mins_kind ns ps os p _ c hc
      have := hM _ c hc
      omega
  · simp at hc
theorem rise_filter {l : List ClT} (h : l.Pairwise Rise3) (f : ClT → Bool) : (l.filter f).Pairwise Rise3 := h.filter f
/-- Of those that are broken alone the same is found. -/
theorem find_broken {kd a b : Int} : ∀ {l : List ClT}, l.Pairwise Rise3 → (∀ c ∈ l, 0 ≤ c.2.2.2) → (findC (l.filter brokC) kd a b).getD 0 = (findC l kd a b).getD 0
  | [], _, _ => rfl
  | c :: t, hr, hg => by
    obtain ⟨hr1, hr2⟩ := List.pairwise_cons.1 hr
    have ih := find_broken (kd := kd) (a := a) (b := b) hr2 (fun x hx => hg x (by simp [hx]))
    rw [findC_cons]
    by_cases hb : brokC c = true
    · rw [List.filter_cons_of_pos hb, findC_cons]
      split
      · rfl
      · exact ih
    · rw [List.filter_cons_of_neg hb]
      by_cases hi : isC kd a b c = true
      · rw [if_pos hi, ih, findC_rise hr1 hi]
        have h0 := hg c (by simp)
        unfold brokC at hb
        have hb : ¬ 0 < c.2.2.2 := fun h => hb (decide_eq_true h)
        show (0 : Int) = c.2.2.2
        omega
      · rw [if_neg hi]
        exact ih
/-- What a clause counts, by the document's words; all of them together. -/
def wt9 (c : ClT) : Int := if c.1 = 1 then min c.2.2.2 1 else c.2.2.2
def sum9 : List ClT → Int
  | [] => 0
  | c :: t => wt9 c + sum9 t
theorem sum9_broken : ∀ {l : List ClT}, (∀ c ∈ l, 0 ≤ c.2.2.2) → sumW (l.filter brokC) = sum9 l
  | [], _ => rfl
  | c :: t, hg => by
    have ih := sum9_broken (fun x hx => hg x (by simp [hx]) : ∀ x ∈ t, 0 ≤ x.2.2.2)
    have h0 := hg c (by simp)
    by_cases hb : brokC c = true
    · rw [List.filter_cons_of_pos hb, sumW, sum9, ih]
      have hb := of_decide_eq_true hb
      unfold wtC wt9
      split <;> omega
    · rw [List.filter_cons_of_neg hb, sum9, ih]
      have hb : ¬ 0 < c.2.2.2 := fun h => hb (decide_eq_true h)
      unfold wt9
      split <;> omega
/-- By how much that clause is broken in a list; nothing, where it is not there. -/
def was9 (L : List ClT) (c : ClT) : Int := (findC L c.1 c.2.1 c.2.2.1).getD 0
def worC (L : List ClT) (c : ClT) : Bool := decide (was9 L c < c.2.2.2)
/-- What is worse in q than in p. -/
def worseU (ns : List NodeD) (ps : List PodD) (os : List OwnD) (p q : List Int) : List ClT := (all8 ns ps os q).filter (worC (all8 ns ps os p))
def worseE (ns : List NodeD) (ps : List PodD) (os : List OwnD) (p q : List Int) : Int := if placeE ns ps os p = 0 then placeE ns ps os q else placeE ns ps os p
/-- What Worse tells. -/
def worseF (ns : List NodeD) (ps : List PodD) (os : List OwnD) (p q : List Int) : List ClT := if placeE ns ps os p = 0 then worseU ns ps os p q else []
theorem worC_broken {L : List ClT} (hr : L.Pairwise Rise3) (hg : ∀ c ∈ L, 0 ≤ c.2.2.2) (c : ClT) : decide ((findC (L.filter brokC) c.1 c.2.1 c.2.2.1).getD 0 < c.2.2.2) = worC L c := by
  unfold worC was9
  rw [find_broken hr hg]
theorem worse_nil {ns : List NodeD} {ps : List PodD} {os : List OwnD} {p q : List Int} (h : placeE ns ps os q ≠ 0) : worseU ns ps os p q = [] := by
  unfold worseU all8
  rw [if_neg h]
  rfl
theorem all8_fine {w : World} {A B C : Option Addr} {ca cb cc : Nat} {ns : List NodeD} {ps : List PodD} {os : List OwnD} (h : SnapAt w A B C ca cb cc ns ps os) (p : List Int) : (∀ c ∈ all8 ns ps os p, OkC c) ∧ (all8 ns ps os p).length ≤ 12000 := by
  by_cases hE : placeE ns ps os p = 0
  · have hp := placeE_len hE
    have h1 := h.ln
    have h2 := h.lp
    have h3 := h.lo
    exact ⟨all8_keys h1 h3 (by omega), Nat.le_trans (all8_len ns ps os p) (by omega)⟩
  · unfold all8
    rw [if_neg hE]
    simp
end Go.Proofs.YtpdaohkpgconkaaGreat

namespace Go.Proofs.YtpdaohkpgconkaaGreat
open Go.RowKit Go.Maps Go.Shelf

theorem zero_intS (w : World) : (zeroValue 3).run Tryz.prog w = .ok (.int .i64 0) w := by kernel_rfl
/-- A store into the map. -/
theorem map_run {w : World} {b n : Nat} {D : DataW Unit} (hown : w.ownsMap Tryz.prog 93 intE b n D) (hn : n < maxLen) {key : Value} {kl : Lit} (hkey : keyOf Tryz.prog 93 key = some kl) (y : Int) :
    ∃ w', (Instr.mapUpdate 87 (.map (some b)) key (.int .i64 y)).run Tryz.prog w = .ok () w' ∧ w'.ownsMap Tryz.prog 93 intE b (n + 1) (D.put kl (.lit (.int .i64 y))) ∧ w.grownBy w' (some b) :=
  hown.update which_law Tryz.underlying87 hn hkey (val := .int .i64 y) (d := .lit (.int .i64 y)) (ps := []) rfl
/-- A look-up. -/
theorem look_run {w : World} {b n : Nat} {D : DataW Unit} (hown : w.ownsMap Tryz.prog 93 intE b n D) {key : Value} {kl : Lit} (hkey : keyOf Tryz.prog 93 key = some kl) {y : Int} (hat : D.atKey kl (.lit (.int .i64 0)) = .lit (.int .i64 y)) :
    (Instr.lookup 87 (.map (some b)) key false).run Tryz.prog w = .ok (.int .i64 y) w := by
  obtain ⟨v, ps, hrun, hv⟩ := hown.lookup which_law Tryz.underlying87 (zero_intS w) (zd := .lit (.int .i64 0)) (zp := []) rfl hkey
  obtain ⟨c, rfl, hc⟩ := intE_inv hv
  rw [hat] at hc
  simp only [Prod.mk.injEq, DataW.lit.injEq, Lit.int.injEq, true_and] at hc
  obtain ⟨rfl, _⟩ := hc
  exact hrun
theorem blk_grown {w w' : World} {b g : Nat} {cs : Array Value} {t : TypeId} (h : Blk w g cs t) (hg : w.grownBy w' (some b)) (hne : g ≠ b) : Blk w' g cs t := (hg.block g h.lt (fun e => hne (Option.some.inj e))).trans h
theorem own_mapB {w w' : World} {b n : Nat} {D : DataW Unit} (h : w.ownsMap Tryz.prog 93 intE b n D) (hb : Below w.heap.size w w') : w'.ownsMap Tryz.prog 93 intE b n D := h.kept (grown_of_below hb none) (by simp)

set_option maxRecDepth 100000 in
set_option maxHeartbeats 1000000 in
theorem whichOf_any (c : ClT) (w : World) : Calls Tryz.prog 72 #[clV c] w fun e w' => e = .returned (keyW c.1 c.2.1 c.2.2.1) ∧ Below w.heap.size w w' := by
  have B0 : Hid (Below w.heap.size w ((w.alloc (.cells #[.int .i64 c.1, .int .i64 c.2.1, .int .i64 c.2.2.1, .int .i64 c.2.2.2] 47)).alloc (.cells #[.int .i64 c.1, .int .i64 c.2.1, .int .i64 c.2.2.1] 93))) := Lib.hid (Qu.below2 w _ _)
  have Q0 : Hid (Blk ((w.alloc (.cells #[.int .i64 c.1, .int .i64 c.2.1, .int .i64 c.2.2.1, .int .i64 c.2.2.2] 47)).alloc (.cells #[.int .i64 c.1, .int .i64 c.2.1, .int .i64 c.2.2.1] 93)) (w.heap.size + 1) #[.int .i64 c.1, .int .i64 c.2.1, .int .i64 c.2.2.1] 93) := Lib.hid (blk2 w _ _ _)
  go_enter Tryz.func72, Tryz.ntmps72
  go_wp2_with fail
  refine bodyPost_row1 Tryz.results72 (w.heap.size + 1) _ _ _ _ (by rfl) (by rfl) Q0.out Tryz.underlying93 rfl (by kernel_rfl) ?_
  exact ⟨rfl, B0.out⟩

set_option maxRecDepth 100000 in
set_option maxHeartbeats 1000000 in
theorem weight_any (a b c y : Int) (w : World) : Calls Tryz.prog 59 #[keyW a b c, .int .i64 y] w fun e w' => e = .returned (.int .i64 (if a = 1 then 1 else y)) ∧ Below w.heap.size w w' := by
  have B0 : Hid (Below w.heap.size w (w.alloc (.cells #[.int .i64 a, .int .i64 b, .int .i64 c] 93))) := Lib.hid (below1 w _)
  unfold keyW
  by_cases h : a = 1
  · subst h
    go_enter Tryz.func59, Tryz.ntmps59
    go_wp2
    go_ret
    exact ⟨rfl, B0.out⟩
  · have h1 : (a == 1) = false := by simpa using h
    have HE : Hid ((if a = 1 then 1 else y) = y) := Lib.hid (if_neg h)
    generalize (if a = 1 then 1 else y) = R at HE ⊢
    clear h
    go_enter Tryz.func59, Tryz.ntmps59
    go_wp2
    go_ret
    exact ⟨by rw [HE.out]; rfl, B0.out⟩

/-- The map that brokenBy hands on. -/
def MapAt (B0 : Nat) (w : World) (E : Int) (l : List ClT) (m : Option Nat) : Prop := (E ≠ 0 → m = none) ∧ (E = 0 → ∃ b, m = some b ∧ B0 ≤ b ∧ w.ownsMap Tryz.prog 93 intE b l.length (mapW (l.filter brokC)))

set_option maxRecDepth 100000 in
set_option maxHeartbeats 8000000 in
theorem brokenBy_any (A B C P : Option Addr) (ca cb cc cp : Nat) (ns : List NodeD) (ps : List PodD) (os : List OwnD) (p : List Int) (hk : ∀ c ∈ all8 ns ps os p, OkC c) (hl : (all8 ns ps os p).length ≤ 12000) (w : World) (h : SnapAt w A B C ca cb cc ns ps os) (hp : IntsAt w P cp p) :
    Calls Tryz.prog 55 #[snapV A B C ca cb cc ns ps os, .slice P p.length cp] w fun e w' => ∃ m, e = .returned (.tuple #[.map m, .int .i64 (placeE ns ps os p)]) ∧ MapAt w.heap.size w' (placeE ns ps os p) (all8 ns ps os p) m ∧ Below w.heap.size w w' := by
  have B0 : Hid (Below w.heap.size w (w.alloc (.cells (snapC A B C ca cb cc ns ps os) 26))) := Lib.hid (below1 w _)
  have HA := Lib.hid (allP_any A B C P ca cb cc cp ns ps os p _ (h.below B0.out) (hp.below B0.out))
  have hmm := @run_makeMap Tryz.prog
  generalize all8 ns ps os p = l at HA hl hk ⊢
  generalize placeE ns ps os p = E at HA ⊢
  clear h hp
  go_enter Tryz.func55, Tryz.ntmps55
  go_wp2_with fail
  refine (HA.out).mono ?_
  rintro e w1 ⟨v, rfl, ho, hb⟩
  obtain ⟨G, cg, rfl, _⟩ := La.own_slice ho
  have O1 := Lib.hid (La.own_slat ho)
  have B1 := Lib.hid (B0.out.trans (hb.mono B0.out.size))
  clear ho hb HA B0
  by_cases hE : E = 0
  case neg =>
    have hne : (E != 0) = true := by simpa using hE
    have HE := Lib.hid hE
    clear hE
    go_wp2
    go_ret2
    exact ⟨none, rfl, ⟨fun _ => rfl, fun h => absurd h HE.out⟩, B1.out⟩
  subst hE
  go_wp2_with fail
  go_loopw [23] (fun i wr => ∃ k : Nat, k ≤ l.length ∧ i = .int .i64 k ∧ wr.ownsMap Tryz.prog 93 intE w1.heap.size k (mapW ((l.take k).filter brokC)) ∧ Below w1.heap.size w1 wr) (fun i _ => l.length - (intOf i).toNat)
  case atStart => exact ⟨0, by omega, rfl, World.ownsMap_made _ _ _ _, (Below.refl _ _).alloc (Nat.le_refl _) _⟩
  case round =>
    obtain ⟨k, hk9, rfl, ho, hb⟩ := hrel
    have HO := Lib.hid ho
    have HB := Lib.hid hb
    clear ho hb
    by_cases hlt : k < l.length
    case neg =>
      obtain rfl : k = l.length := by omega
      rw [List.take_length] at HO
      go_wp2
      go_ret2
      exact ⟨some w1.heap.size, rfl, ⟨fun h => absurd rfl h, fun _ => ⟨_, rfl, B1.out.size, HO.out⟩⟩, B1.out.trans (HB.out.mono B1.out.size)⟩
    obtain ⟨y, hy⟩ : ∃ y, l[k]? = some y := ⟨l[k], List.getElem?_eq_getElem hlt⟩
    have Hok := Lib.hid (hk y (List.mem_of_getElem? hy))
    obtain ⟨g, o, hG, hbl, c0, c1, c2, c3⟩ := atC (La.SlAt.below O1.out HB.out) hy
    subst hG
    have k0 : (0 : Int) ≤ (k : Int) := by omega
    have k1 : (k : Int) < (l.length : Int) := by omega
    have HF := Lib.hid (filt_snoc brokC hy)
    have Hy : Hid (brokC y = decide (0 < y.2.2.2)) := Lib.hid rfl
    clear hy
    generalize (l.take k).filter brokC = M at HO HF
    go_upto_region 8 with fail
    have T8 : Hid (Blk (wr.alloc (.cells #[.int .i64 y.1, .int .i64 y.2.1, .int .i64 y.2.2.1, .int .i64 y.2.2.2] 47)) wr.heap.size #[.int .i64 y.1, .int .i64 y.2.1, .int .i64 y.2.2.1, .int .i64 y.2.2.2] 47) := Lib.hid (Blk.new wr _ _)
    have R8 : Hid (Below wr.heap.size wr (wr.alloc (.cells #[.int .i64 y.1, .int .i64 y.2.1, .int .i64 y.2.2.1, .int .i64 y.2.2.2] 47))) := Lib.hid (below1 wr _)
    try change Code.wp _ _ _ _ (wr.alloc (.cells #[.int .i64 y.1, .int .i64 y.2.1, .int .i64 y.2.2.1, .int .i64 y.2.2.2] 47))
    generalize (wr.alloc (.cells #[.int .i64 y.1, .int .i64 y.2.1, .int .i64 y.2.2.1, .int .i64 y.2.2.2] 47)) = W8 at T8 R8 ⊢
    have HO8 := Lib.hid (own_mapB HO.out R8.out)
    have HB8 := Lib.hid (HB.out.trans (R8.out.mono HB.out.size))
    clear c0 c1 c2 c3
    have HC := Lib.hid (fun W' (hb : Below W8.heap.size W8 W') => (show W'.cell? ⟨wr.heap.size, 0, none⟩ = some (.int .i64 y.1) ∧ W'.cell? ⟨wr.heap.size, 1, none⟩ = some (.int .i64 y.2.1) ∧ W'.cell? ⟨wr.heap.size, 2, none⟩ = some (.int .i64 y.2.2.1) ∧ W'.cell? ⟨wr.heap.size, 3, none⟩ = some (.int .i64 y.2.2.2) from ⟨Blk.cell (T8.out.below hb T8.out.lt) 0, Blk.cell (T8.out.below hb T8.out.lt) 1, Blk.cell (T8.out.below hb T8.out.lt) 2, Blk.cell (T8.out.below hb T8.out.lt) 3⟩))
    have HOm := Lib.hid (fun W' (hb : Below W8.heap.size W8 W') => own_mapB HO8.out hb)
    have HBm := Lib.hid (fun W' (hb : Below W8.heap.size W8 W') => HB8.out.trans (hb.mono HB8.out.size))
    have HTm := Lib.hid (fun W' (hb : Below W8.heap.size W8 W') => T8.out.below hb T8.out.lt)
    have hne : Hid (wr.heap.size ≠ w1.heap.size) := Lib.hid (Nat.ne_of_gt HO.out.lt)
    obtain ⟨c0, c1, c2, c3⟩ := HC.out _ (Below.refl _ W8)
    clear R8 HO HB T8
    by_cases h1 : 0 < y.2.2.2
    case neg =>
      have HE : Hid ((l.take (k + 1)).filter brokC = M) := Lib.hid (by rw [HF.out, Hy.out, decide_eq_false h1]; simp)
      clear HF Hy
      go_wp2_with fail
      go_roundw
      case rel => exact ⟨k + 1, by omega, by go_num, by rw [HE.out]; exact HO8.out.mono (by omega), HB8.out⟩
      case measure => simp [intOf]; omega
    have HE : Hid (mapW ((l.take (k + 1)).filter brokC) = (mapW M).put (litW y.1 y.2.1 y.2.2.1) (.lit (.int .i64 y.2.2.2))) := Lib.hid (by rw [HF.out, Hy.out, decide_eq_true h1, if_pos rfl, mapW_snoc]; rfl)
    clear HF Hy
    have KW := Lib.hid (fun W' => whichOf_any y W')
    have hkn : k < maxLen := by unfold maxLen; omega
    have HKO := Lib.hid (keyOf_w Hok.out)
    go_upto_region 9 with fail
    have HD : Hid (Below W8.heap.size W8 W8.drew) := Lib.hid ((Below.refl _ W8).drew)
    clear c0 c1 c2 c3
    obtain ⟨c0, c1, c2, c3⟩ := HC.out _ HD.out
    go_region_held3 (fun w' => w'.cell? ⟨wr.heap.size, 0, none⟩ = some (.int .i64 y.1) ∧ w'.cell? ⟨wr.heap.size, 1, none⟩ = some (.int .i64 y.2.1) ∧ w'.cell? ⟨wr.heap.size, 2, none⟩ = some (.int .i64 y.2.2.1) ∧ w'.cell? ⟨wr.heap.size, 3, none⟩ = some (.int .i64 y.2.2.2))
      (first | exact ⟨c0, c1, c2, c3⟩ | exact ⟨y0, y1, y2, y3⟩ | exact ⟨x0, x1, x2, x3⟩)
      (first
        | (go_at_call 72
           refine (KW.out _).mono ?_
           rintro e wA ⟨rfl, hbA⟩
           have HDA := Lib.hid (HD.out.trans (hbA.mono HD.out.size))
           obtain ⟨y0, y1, y2, y3⟩ := HC.out _ HDA.out
           obtain ⟨wB, hrunB, hownB, hgB⟩ := map_run (HOm.out _ HDA.out) hkn HKO.out y.2.2.2
           have TB := Lib.hid (blk_grown (HTm.out _ HDA.out) hgB hne.out)
           have x0 : wB.cell? ⟨wr.heap.size, 0, none⟩ = some (.int .i64 y.1) := Blk.cell TB.out 0
           have x1 : wB.cell? ⟨wr.heap.size, 1, none⟩ = some (.int .i64 y.2.1) := Blk.cell TB.out 1
           have x2 : wB.cell? ⟨wr.heap.size, 2, none⟩ = some (.int .i64 y.2.2.1) := Blk.cell TB.out 2
           have x3 : wB.cell? ⟨wr.heap.size, 3, none⟩ = some (.int .i64 y.2.2.2) := Blk.cell TB.out 3
           clear hbA))
    all_goals
      have D9 := Lib.hid ((HBm.out _ HDA.out).grown hgB (HBm.out _ HDA.out).size (fun j hj => by cases hj; exact Nat.le_refl _))
      have P9 := Lib.hid hownB
      clear hownB hgB
      (try go_wp2_with fail)
      go_roundw
      case rel => exact ⟨k + 1, by omega, by go_num, by rw [HE.out]; exact P9.out, D9.out⟩
      case measure => simp [intOf]; omega
end Go.Proofs.YtpdaohkpgconkaaGreat

namespace Go.Proofs.YtpdaohkpgconkaaGreat
open Go.RowKit Go.Maps Go.Shelf

set_option maxRecDepth 100000 in
set_option maxHeartbeats 4000000 in
theorem worse1_any (c : ClT) (hk : OkC c) (g mb n : Nat) (L : List ClT) (hL : ∀ d ∈ L, OkC d) (hr : L.Pairwise Rise3) (hg0 : ∀ d ∈ L, 0 ≤ d.2.2.2) (w : World) (hg : Blk w g #[.map (some mb)] 87) (hm : w.ownsMap Tryz.prog 93 intE mb n (mapW (L.filter brokC))) :
    Calls Tryz.prog 73 #[clV c, .pointer (some ⟨g, 0, none⟩)] w fun e w' => e = .returned (.bool (worC L c)) ∧ Below w.heap.size w w' := by
  have B0 : Hid (Below w.heap.size w (w.alloc (.cells #[.int .i64 c.1, .int .i64 c.2.1, .int .i64 c.2.2.1, .int .i64 c.2.2.2] 47))) := Lib.hid (below1 w _)
  have Q0 : Hid (Blk (w.alloc (.cells #[.int .i64 c.1, .int .i64 c.2.1, .int .i64 c.2.2.1, .int .i64 c.2.2.2] 47)) w.heap.size #[.int .i64 c.1, .int .i64 c.2.1, .int .i64 c.2.2.1, .int .i64 c.2.2.2] 47) := Lib.hid (Blk.new w _ _)
  have G0 : Hid (Blk (w.alloc (.cells #[.int .i64 c.1, .int .i64 c.2.1, .int .i64 c.2.2.1, .int .i64 c.2.2.2] 47)) g #[.map (some mb)] 87) := Lib.hid (Blk.alloc hg _)
  have M0 := Lib.hid (own_mapB hm B0.out)
  have HKO := Lib.hid (keyOf_w hk)
  have HAT := Lib.hid (mapW_at hk (l := L.filter brokC) (fun d hd => hL d (List.mem_filter.1 hd).1) (rise_filter hr _))
  have HE := Lib.hid (worC_broken hr hg0 c)
  have KW := Lib.hid (fun W' => whichOf_any c W')
  generalize (findC (L.filter brokC) c.1 c.2.1 c.2.2.1).getD 0 = z at HAT HE
  generalize worC L c = res at HE ⊢
  generalize mapW (L.filter brokC) = D at M0 HAT
  clear hg hm hL hr hg0 hk
  have hz : (z < c.2.2.2 ∧ decide (z < c.2.2.2) = true) ∨ (¬ z < c.2.2.2 ∧ decide (z < c.2.2.2) = false) := by
    by_cases h : z < c.2.2.2
    · exact .inl ⟨h, decide_eq_true h⟩
    · exact .inr ⟨h, decide_eq_false h⟩
  go_enter Tryz.func73, Tryz.ntmps73
  go_upto_region 1 with fail
  try change Code.wp _ _ _ _ (w.alloc (.cells #[.int .i64 c.1, .int .i64 c.2.1, .int .i64 c.2.2.1, .int .i64 c.2.2.2] 47))
  generalize (w.alloc (.cells #[.int .i64 c.1, .int .i64 c.2.1, .int .i64 c.2.2.1, .int .i64 c.2.2.2] 47)) = W at B0 Q0 G0 M0 ⊢
  have HC := Lib.hid (fun W' (hb : Below W.heap.size W W') => (show W'.cell? ⟨w.heap.size, 0, none⟩ = some (.int .i64 c.1) ∧ W'.cell? ⟨w.heap.size, 1, none⟩ = some (.int .i64 c.2.1) ∧ W'.cell? ⟨w.heap.size, 2, none⟩ = some (.int .i64 c.2.2.1) ∧ W'.cell? ⟨w.heap.size, 3, none⟩ = some (.int .i64 c.2.2.2) ∧ W'.cell? ⟨g, 0, none⟩ = some (.map (some mb)) from ⟨Blk.cell (Q0.out.below hb Q0.out.lt) 0, Blk.cell (Q0.out.below hb Q0.out.lt) 1, Blk.cell (Q0.out.below hb Q0.out.lt) 2, Blk.cell (Q0.out.below hb Q0.out.lt) 3, Blk.cell (G0.out.below hb G0.out.lt) 0⟩))
  have HOm := Lib.hid (fun W' (hb : Below W.heap.size W W') => own_mapB M0.out hb)
  have HD : Hid (Below W.heap.size W W.drew) := Lib.hid ((Below.refl _ W).drew)
  obtain ⟨c0, c1, c2, c3, c4⟩ := HC.out _ HD.out
  rcases hz with ⟨h1, h2⟩ | ⟨h1, h2⟩
  · rw [h2] at HE
    have HR := Lib.hid HE.out.symm
    clear HE h2
    go_region_held3 (fun w' => w'.cell? ⟨w.heap.size, 0, none⟩ = some (.int .i64 c.1) ∧ w'.cell? ⟨w.heap.size, 1, none⟩ = some (.int .i64 c.2.1) ∧ w'.cell? ⟨w.heap.size, 2, none⟩ = some (.int .i64 c.2.2.1) ∧ w'.cell? ⟨w.heap.size, 3, none⟩ = some (.int .i64 c.2.2.2) ∧ w'.cell? ⟨g, 0, none⟩ = some (.map (some mb)))
      (first | exact ⟨c0, c1, c2, c3, c4⟩ | exact ⟨y0, y1, y2, y3, y4⟩)
      (first
        | (go_at_call 72
           refine (KW.out _).mono ?_
           rintro e wA ⟨rfl, hbA⟩
           have HDA := Lib.hid (HD.out.trans (hbA.mono HD.out.size))
           obtain ⟨y0, y1, y2, y3, y4⟩ := HC.out _ HDA.out
           have hlk := look_run (HOm.out _ HDA.out) HKO.out HAT.out
           clear hbA))
    all_goals
      (try go_wp2_with fail)
      go_ret
      exact ⟨La.retB HR.out.symm, B0.out.trans (HDA.out.mono B0.out.size)⟩
  · have HE0 := HE
    rw [h2] at HE
    have HR := Lib.hid HE.out.symm
    have h3 : c.2.2.2 ≤ z := by omega
    clear HE h2 h1
    go_region_held3 (fun w' => w'.cell? ⟨w.heap.size, 0, none⟩ = some (.int .i64 c.1) ∧ w'.cell? ⟨w.heap.size, 1, none⟩ = some (.int .i64 c.2.1) ∧ w'.cell? ⟨w.heap.size, 2, none⟩ = some (.int .i64 c.2.2.1) ∧ w'.cell? ⟨w.heap.size, 3, none⟩ = some (.int .i64 c.2.2.2) ∧ w'.cell? ⟨g, 0, none⟩ = some (.map (some mb)))
      (first | exact ⟨c0, c1, c2, c3, c4⟩ | exact ⟨y0, y1, y2, y3, y4⟩)
      (first
        | (go_at_call 72
           refine (KW.out _).mono ?_
           rintro e wA ⟨rfl, hbA⟩
           have HDA := Lib.hid (HD.out.trans (hbA.mono HD.out.size))
           obtain ⟨y0, y1, y2, y3, y4⟩ := HC.out _ HDA.out
           have hlk := look_run (HOm.out _ HDA.out) HKO.out HAT.out
           clear hbA))
    all_goals
      (try go_wp2_with fail)
      go_ret
      exact ⟨La.retB HE0.out, B0.out.trans (HDA.out.mono B0.out.size)⟩

/-- What worseThan hands on. -/
def FunAt (B0 : Nat) (w : World) (E : Int) (L : List ClT) (F : Value) : Prop := (E ≠ 0 → F = .nilFunc) ∧ (E = 0 → ∃ g mb, F = .func (Fn.func 73) #[] #[.pointer (some ⟨g, 0, none⟩)] ∧ B0 ≤ g ∧ Blk w g #[.map (some mb)] 87 ∧ w.ownsMap Tryz.prog 93 intE mb L.length (mapW (L.filter brokC)))

set_option maxRecDepth 100000 in
set_option maxHeartbeats 2000000 in
theorem worseThan_any (A B C P : Option Addr) (ca cb cc cp : Nat) (ns : List NodeD) (ps : List PodD) (os : List OwnD) (p : List Int) (hk : ∀ c ∈ all8 ns ps os p, OkC c) (hl : (all8 ns ps os p).length ≤ 12000) (w : World) (h : SnapAt w A B C ca cb cc ns ps os) (hp : IntsAt w P cp p) :
    Calls Tryz.prog 56 #[snapV A B C ca cb cc ns ps os, .slice P p.length cp] w fun e w' => ∃ F, e = .returned (.tuple #[F, .int .i64 (placeE ns ps os p)]) ∧ FunAt w.heap.size w' (placeE ns ps os p) (all8 ns ps os p) F ∧ Below w.heap.size w w' := by
  have B0 : Hid (Below w.heap.size w (w.alloc (.cells (snapC A B C ca cb cc ns ps os) 26))) := Lib.hid (below1 w _)
  have HA := Lib.hid (brokenBy_any A B C P ca cb cc cp ns ps os p hk hl _ (h.below B0.out) (hp.below B0.out))
  generalize all8 ns ps os p = l at HA ⊢
  generalize placeE ns ps os p = E at HA ⊢
  clear h hp hk hl
  go_enter Tryz.func56, Tryz.ntmps56
  go_wp2_with fail
  refine (HA.out).mono ?_
  rintro e w1 ⟨m, rfl, hm, hb⟩
  have HM := Lib.hid hm
  have B1 := Lib.hid (B0.out.trans (hb.mono B0.out.size))
  clear hm hb HA B0
  by_cases hE : E = 0
  case neg =>
    have hne : (E != 0) = true := by simpa using hE
    have HE := Lib.hid hE
    have B2 := Lib.hid (B1.out.alloc B1.out.size (.cells #[.map m] 87))
    clear hE
    go_wp2
    go_ret2
    exact ⟨_, rfl, ⟨fun _ => rfl, fun h => absurd h HE.out⟩, B2.out⟩
  subst hE
  obtain ⟨mb, rfl, hmb, hmo⟩ := HM.out.2 rfl
  have B2 := Lib.hid (B1.out.alloc B1.out.size (.cells #[.map (some mb)] 87))
  have Q2 := Lib.hid (Blk.new w1 #[.map (some mb)] 87)
  have M2 := Lib.hid (hmo.alloc (.cells #[.map (some mb)] 87))
  have hsz := Lib.hid B1.out.size
  clear hmb hmo HM
  go_wp2
  go_ret2
  exact ⟨_, rfl, ⟨fun h => absurd rfl h, fun _ => ⟨_, mb, rfl, hsz.out, Q2.out, M2.out⟩⟩, B2.out⟩

set_option maxRecDepth 100000 in
set_option maxHeartbeats 8000000 in
theorem worse_any (A B C P Q : Option Addr) (ca cb cc cp cq : Nat) (ns : List NodeD) (ps : List PodD) (os : List OwnD) (p q : List Int) (hk : ∀ c ∈ all8 ns ps os p, OkC c) (hkq : ∀ c ∈ all8 ns ps os q, OkC c) (hl : (all8 ns ps os p).length ≤ 12000) (hlq : (all8 ns ps os q).length ≤ 12000) (w : World) (h : SnapAt w A B C ca cb cc ns ps os) (hp : IntsAt w P cp p) (hq : IntsAt w Q cq q) :
    Calls Tryz.prog 23 #[snapV A B C ca cb cc ns ps os, .slice P p.length cp, .slice Q q.length cq] w fun e w' => ∃ v, e = .returned (.tuple #[v, .int .i64 (worseE ns ps os p q)]) ∧ w'.ownsRow w.heap.size 47 4 v (worseF ns ps os p q).length (cells4 (worseF ns ps os p q)) ∧ Below w.heap.size w w' := by
  have B0 : Hid (Below w.heap.size w (w.alloc (.cells (snapC A B C ca cb cc ns ps os) 26))) := Lib.hid (below1 w _)
  have S0 : Hid (Blk (w.alloc (.cells (snapC A B C ca cb cc ns ps os) 26)) w.heap.size (snapC A B C ca cb cc ns ps os) 26) := Lib.hid (Blk.new w _ _)
  have HA := Lib.hid (worseThan_any A B C P ca cb cc cp ns ps os p hk hl _ (h.below B0.out) (hp.below B0.out))
  have HB := Lib.hid (fun W' (hb : Below w.heap.size w W') => allP_any A B C Q ca cb cc cq ns ps os q W' (h.below hb) (hq.below hb))
  have HR := Lib.hid (all8_rise ns ps os p)
  have HG := Lib.hid (fun c hc => (all8_good ns ps os p c hc).1)
  have HK := Lib.hid hk
  have HKq := Lib.hid hkq
  obtain ⟨i0, hi0, hz0, hz1, hz2⟩ := info_parts cl_info
  have HF : Hid (worseF ns ps os p q = if placeE ns ps os p = 0 then (all8 ns ps os q).filter (worC (all8 ns ps os p)) else []) := Lib.hid rfl
  have HF0 : Hid (placeE ns ps os q ≠ 0 → all8 ns ps os q = []) := Lib.hid (fun h => by unfold all8; rw [if_neg h])
  have HE : Hid (worseE ns ps os p q = if placeE ns ps os p = 0 then placeE ns ps os q else placeE ns ps os p) := Lib.hid rfl
  generalize worseF ns ps os p q = R at HF ⊢
  generalize worseE ns ps os p q = e9 at HE ⊢
  generalize all8 ns ps os p = L at HA HR HG HK HF
  generalize all8 ns ps os q = l at HB HKq HF HF0 hlq
  generalize placeE ns ps os p = Ep at HA HF HE
  generalize placeE ns ps os q = Eq at HB HE HF0
  clear h hp hq hk hkq hl
  go_enter Tryz.func23, Tryz.ntmps23
  go_wp2_with fail
  refine (HA.out).mono ?_
  rintro e w1 ⟨F, rfl, hF, hb⟩
  have HFn := Lib.hid hF
  have B1 := Lib.hid (B0.out.trans (hb.mono B0.out.size))
  have S1 := Lib.hid (S0.out.below hb S0.out.lt)
  clear hF hb HA B0 S0
  by_cases hE : Ep = 0
  case neg =>
    have hne : (Ep != 0) = true := by simpa using hE
    have hR : R = [] := by rw [HF.out, if_neg hE]
    have h9 : e9 = Ep := by rw [HE.out, if_neg hE]
    clear hE HF HE
    go_wp2
    go_ret2
    subst hR h9
    exact ⟨_, rfl, World.ownsRow_nil _ _ _ _, B1.out⟩
  subst hE
  obtain ⟨g, mb, rfl, hg, hgb, hmo⟩ := HFn.out.2 rfl
  have G1 := Lib.hid hgb
  have M1 := Lib.hid hmo
  have h9 : Hid (e9 = Eq) := Lib.hid (by rw [HE.out, if_pos rfl])
  have hR : Hid (R = l.filter (worC L)) := Lib.hid (by rw [HF.out, if_pos rfl])
  clear hg hgb hmo HFn HF HE
  have KB := Lib.hid (HB.out _ B1.out)
  have z0 : w1.cell? ⟨w.heap.size, 0, none⟩ = some (.slice A ns.length ca) := Blk.cell S1.out 0
  have z1 : w1.cell? ⟨w.heap.size, 1, none⟩ = some (.slice B ps.length cb) := Blk.cell S1.out 1
  have z2 : w1.cell? ⟨w.heap.size, 2, none⟩ = some (.slice C os.length cc) := Blk.cell S1.out 2
  go_wp2_with fail
  refine (KB.out).mono ?_
  rintro e w2 ⟨v, rfl, ho, hb⟩
  obtain ⟨Gl, cg, rfl, _⟩ := La.own_slice ho
  have O2 := Lib.hid (La.own_slat ho)
  have B2 := Lib.hid (B1.out.trans (hb.mono B1.out.size))
  have G2 := Lib.hid (G1.out.below hb G1.out.lt)
  have M2 := Lib.hid (own_mapB M1.out hb)
  clear ho hb KB HB B1 S1 G1 M1 z0 z1 z2
  by_cases hE : Eq = 0
  case neg =>
    have hne : (Eq != 0) = true := by simpa using hE
    have hR2 : R = [] := by rw [hR.out, HF0.out hE]; rfl
    have h92 := h9.out
    clear hE hR h9 HF0
    go_wp2
    go_ret2
    subst hR2 h92
    exact ⟨_, rfl, World.ownsRow_nil _ _ _ _, B2.out⟩
  subst hE
  clear HF0
  have henter : ∀ (args : Array Value) (w : World), (callFunc 73 args).run Tryz.prog w = .ok (.enter 73 args) w := fun _ _ => by kernel_rfl
  have KW := Lib.hid (fun (W' : World) (hb : Below w2.heap.size w2 W') (y : ClT) (hy : y ∈ l) => worse1_any y (HKq.out y hy) g mb L.length L HK.out HR.out HG.out W' (G2.out.below hb G2.out.lt) (own_mapB M2.out hb))
  clear HK HR HG G2 M2
  go_wp2_with fail
  go_loopw [11, 34] (fun v i wr => ∃ k : Nat, k ≤ l.length ∧ i = .int .i64 k ∧ wr.ownsRow w2.heap.size 47 4 v ((l.take k).filter (worC L)).length (cells4 ((l.take k).filter (worC L))) ∧ Below w2.heap.size w2 wr) (fun _ i _ => l.length - (intOf i).toNat)
  case atStart => exact ⟨0, by omega, rfl, World.ownsRow_nil _ _ _ _, Below.refl _ _⟩
  case round =>
    obtain ⟨k, hk, rfl, ho, hb⟩ := hrel
    have HO := Lib.hid ho
    have HB := Lib.hid hb
    clear ho hb
    by_cases hlt : k < l.length
    case neg =>
      obtain rfl : k = l.length := by omega
      rw [List.take_length, ← hR.out] at HO
      have h92 := h9.out
      clear h9
      go_wp2
      go_ret2
      subst h92
      exact ⟨_, rfl, own_base HO.out B2.out.size, B2.out.trans (HB.out.mono B2.out.size)⟩
    obtain ⟨y, hy⟩ : ∃ y, l[k]? = some y := ⟨l[k], List.getElem?_eq_getElem hlt⟩
    have hyl := List.mem_of_getElem? hy
    obtain ⟨gy, oy, hGy, hbl, c0, c1, c2, c3⟩ := atC (La.SlAt.below O2.out HB.out) hy
    subst hGy
    have k0 : (0 : Int) ≤ (k : Int) := by omega
    have k1 : (k : Int) < (l.length : Int) := by omega
    have HF := Lib.hid (filt_snoc (worC L) hy)
    have hfl : ((l.take k).filter (worC L)).length ≤ k := Nat.le_trans (List.length_filter_le _ _) (by rw [List.length_take]; omega)
    clear hy
    generalize (l.take k).filter (worC L) = M at HO HF hfl
    go_upto_region 11 with fail
    have T8 : Hid (Blk (wr.alloc (.cells #[.int .i64 y.1, .int .i64 y.2.1, .int .i64 y.2.2.1, .int .i64 y.2.2.2] 47)) wr.heap.size #[.int .i64 y.1, .int .i64 y.2.1, .int .i64 y.2.2.1, .int .i64 y.2.2.2] 47) := Lib.hid (Blk.new wr _ _)
    have R8 : Hid (Below wr.heap.size wr (wr.alloc (.cells #[.int .i64 y.1, .int .i64 y.2.1, .int .i64 y.2.2.1, .int .i64 y.2.2.2] 47))) := Lib.hid (below1 wr _)
    try change Code.wp _ _ _ _ (wr.alloc (.cells #[.int .i64 y.1, .int .i64 y.2.1, .int .i64 y.2.2.1, .int .i64 y.2.2.2] 47))
    generalize (wr.alloc (.cells #[.int .i64 y.1, .int .i64 y.2.1, .int .i64 y.2.2.1, .int .i64 y.2.2.2] 47)) = W8 at T8 R8 ⊢
    have HO8 := Lib.hid (La.own_below HO.out R8.out)
    have HB8 := Lib.hid (HB.out.trans (R8.out.mono HB.out.size))
    clear c0 c1 c2 c3
    have c0 : W8.cell? ⟨wr.heap.size, 0, none⟩ = some (.int .i64 y.1) := Blk.cell T8.out 0
    have c1 : W8.cell? ⟨wr.heap.size, 1, none⟩ = some (.int .i64 y.2.1) := Blk.cell T8.out 1
    have c2 : W8.cell? ⟨wr.heap.size, 2, none⟩ = some (.int .i64 y.2.2.1) := Blk.cell T8.out 2
    have c3 : W8.cell? ⟨wr.heap.size, 3, none⟩ = some (.int .i64 y.2.2.2) := Blk.cell T8.out 3
    have KY := Lib.hid (KW.out W8 HB8.out y hyl)
    clear R8 HO HB hyl
    go_wp2_with fail
    refine (KY.out).mono ?_
    rintro e w3 ⟨rfl, hb3⟩
    have HO9 := Lib.hid (La.own_below HO8.out hb3)
    have HB9 := Lib.hid (HB8.out.trans (hb3.mono HB8.out.size))
    have T9 := Lib.hid (T8.out.below hb3 T8.out.lt)
    clear KY c0 c1 c2 c3 hb3 HO8 HB8 T8
    have c0 : w3.cell? ⟨wr.heap.size, 0, none⟩ = some (.int .i64 y.1) := Blk.cell T9.out 0
    have c1 : w3.cell? ⟨wr.heap.size, 1, none⟩ = some (.int .i64 y.2.1) := Blk.cell T9.out 1
    have c2 : w3.cell? ⟨wr.heap.size, 2, none⟩ = some (.int .i64 y.2.2.1) := Blk.cell T9.out 2
    have c3 : w3.cell? ⟨wr.heap.size, 3, none⟩ = some (.int .i64 y.2.2.2) := Blk.cell T9.out 3
    cases hwy : worC L y with
    | false =>
      have HE : Hid ((l.take (k + 1)).filter (worC L) = M) := Lib.hid (by rw [HF.out, hwy]; simp)
      clear HF hwy
      go_wp2_with fail
      go_roundw
      case rel => exact ⟨k + 1, by omega, by go_num, by rw [HE.out]; exact HO9.out, HB9.out⟩
      case measure => simp [intOf]; omega
    | true =>
      have HE : Hid ((l.take (k + 1)).filter (worC L) = M ++ [y]) := Lib.hid (by rw [HF.out, hwy]; simp)
      clear HF hwy
      go_wp2_with (at_builtin; refine wpList_append_own _ rfl _ _ 48 rfl w2.heap.size 47 i0 (.agg #[.int .i64 0, .int .i64 0, .int .i64 0, .int .i64 0]) 4 32 Tryz.underlying48 hi0 hz0 hz1 hz2 rfl (by decide) _ _ _ rfl (show World.ownsRow _ _ _ _ _ _ _ from HO9.out.alloc _) ⟨w3.heap.size, 0, none⟩ 1 1 [.int .i64 y.1, .int .i64 y.2.1, .int .i64 y.2.2.1, .int .i64 y.2.2.2] rfl rfl ?c1z ?c2z ?c3z ?c4z ?c5z ?_)
      case c1z =>
        intro j u hj
        match j, hj with
        | 0, hj => simp at hj; subst hj; simp [Addr.add]
        | 1, hj => simp at hj; subst hj; simp [Addr.add]
        | 2, hj => simp at hj; subst hj; simp [Addr.add]
        | 3, hj => simp at hj; subst hj; simp [Addr.add]
      case c2z => first | rfl | (intro u hu; simp at hu; rcases hu with rfl | rfl | rfl | rfl <;> rfl)
      case c3z => unfold maxLen; omega
      case c4z => omega
      case c5z => have := HB9.out.size; simp; omega
      intro v4 w4 hown4 hgrow4 _
      have P4 := Lib.hid hown4
      have D4 := Lib.hid ((HB9.out.alloc HB9.out.size (.cells #[.int .i64 y.1, .int .i64 y.2.1, .int .i64 y.2.2.1, .int .i64 y.2.2.2] 47)).grown hgrow4 (by have := HB9.out.size; simp; omega) (fun j hj => own_gem HO9.out hj))
      clear hown4 hgrow4
      go_wp2_with fail
      go_roundw
      case rel =>
        refine ⟨k + 1, by omega, by go_num, ?_, D4.out⟩
        rw [HE.out, List.length_append, cells4_snoc]
        exact P4.out
      case measure => simp [intOf]; omega
end Go.Proofs.YtpdaohkpgconkaaGreat

namespace Go.Proofs.YtpdaohkpgconkaaGreat
open Go.RowKit Go.Maps Go.Shelf

theorem broken_keys {l : List ClT} (h : ∀ c ∈ l, OkC c) : ∀ c ∈ l.filter brokC, OkC c := fun c hc => h c (List.mem_filter.1 hc).1
/-- What Safe tells. -/
def safeB (ns : List NodeD) (ps : List PodD) (os : List OwnD) (p : List Int) : Bool := decide (placeE ns ps os p = 0) && ((all8 ns ps os p).filter brokC).isEmpty
set_option maxRecDepth 100000 in
set_option maxHeartbeats 4000000 in
theorem safe_any (A B C P : Option Addr) (ca cb cc cp : Nat) (ns : List NodeD) (ps : List PodD) (os : List OwnD) (p : List Int) (hk : ∀ c ∈ all8 ns ps os p, OkC c) (hl : (all8 ns ps os p).length ≤ 12000) (w : World) (h : SnapAt w A B C ca cb cc ns ps os) (hp : IntsAt w P cp p) :
    Calls Tryz.prog 21 #[snapV A B C ca cb cc ns ps os, .slice P p.length cp] w fun e w' => e = .returned (.tuple #[.bool (safeB ns ps os p), .int .i64 (placeE ns ps os p)]) ∧ Below w.heap.size w w' := by
  have B0 : Hid (Below w.heap.size w (w.alloc (.cells (snapC A B C ca cb cc ns ps os) 26))) := Lib.hid (below1 w _)
  have HA := Lib.hid (brokenBy_any A B C P ca cb cc cp ns ps os p hk hl _ (h.below B0.out) (hp.below B0.out))
  have HK := Lib.hid hk
  have HS : Hid (safeB ns ps os p = (decide (placeE ns ps os p = 0) && ((all8 ns ps os p).filter brokC).isEmpty)) := Lib.hid rfl
  generalize safeB ns ps os p = R at HS ⊢
  generalize all8 ns ps os p = l at HA HK HS
  generalize placeE ns ps os p = E at HA HS ⊢
  clear h hp hk hl
  go_enter Tryz.func21, Tryz.ntmps21
  go_wp2_with fail
  refine (HA.out).mono ?_
  rintro e w1 ⟨m, rfl, hm, hb⟩
  have HM := Lib.hid hm
  have B1 := Lib.hid (B0.out.trans (hb.mono B0.out.size))
  clear hm hb HA B0
  by_cases hE : E = 0
  case neg =>
    have hne : (E == 0) = false := by simpa using hE
    have hnd : decide (E = 0) = false := decide_eq_false hE
    have hR : R = false := by rw [HS.out, hnd]; rfl
    clear hE HS
    go_wp2
    go_ret2
    subst hR
    exact ⟨rfl, B1.out⟩
  subst hE
  obtain ⟨mb, rfl, _, hmo⟩ := HM.out.2 rfl
  have hln := fun ty => hmo.len Tryz.underlying87 ty
  have hsz := mapW_size (broken_keys HK.out)
  have HSZ : Hid (R = decide (size (mapW (l.filter brokC)) = 0)) := Lib.hid (by
    rw [HS.out]
    by_cases h0 : l.filter brokC = []
    · rw [decide_eq_true (hsz.2 h0), h0]
      rfl
    · rw [decide_eq_false (fun h => h0 (hsz.1 h))]
      cases hf : l.filter brokC with
      | nil => exact absurd hf h0
      | cons a t => rfl)
  clear hsz HS HM hmo
  generalize size (mapW (l.filter brokC)) = z at HSZ hln
  by_cases hz : z = 0
  · have hz1 : (((z : Nat) : Int) == 0) = true := by simpa using hz
    have hz2 : decide (((z : Nat) : Int) = 0) = true := decide_eq_true (by omega)
    have hR : R = true := by rw [HSZ.out]; exact decide_eq_true hz
    clear HSZ hz
    go_wp2
    go_ret2
    subst hR
    exact ⟨rfl, B1.out⟩
  · have hz1 : (((z : Nat) : Int) == 0) = false := by simpa using hz
    have hz2 : decide (((z : Nat) : Int) = 0) = false := decide_eq_false (by omega)
    have hR : R = false := by rw [HSZ.out]; exact decide_eq_false hz
    clear HSZ hz
    go_wp2
    go_ret2
    subst hR
    exact ⟨rfl, B1.out⟩

/-- What Sum tells. -/
def sumF (ns : List NodeD) (ps : List PodD) (os : List OwnD) (p : List Int) : Int := wrap64 (sum9 (all8 ns ps os p))
set_option maxRecDepth 100000 in
set_option maxHeartbeats 8000000 in
theorem sum_anyS (A B C P : Option Addr) (ca cb cc cp : Nat) (ns : List NodeD) (ps : List PodD) (os : List OwnD) (p : List Int) (hk : ∀ c ∈ all8 ns ps os p, OkC c) (hl : (all8 ns ps os p).length ≤ 12000) (w : World) (h : SnapAt w A B C ca cb cc ns ps os) (hp : IntsAt w P cp p) :
    Calls Tryz.prog 25 #[snapV A B C ca cb cc ns ps os, .slice P p.length cp] w fun e w' => e = .returned (.tuple #[.int .i64 (sumF ns ps os p), .int .i64 (placeE ns ps os p)]) ∧ Below w.heap.size w w' := by
  have B0 : Hid (Below w.heap.size w (w.alloc (.cells (snapC A B C ca cb cc ns ps os) 26))) := Lib.hid (below1 w _)
  have HA := Lib.hid (brokenBy_any A B C P ca cb cc cp ns ps os p hk hl _ (h.below B0.out) (hp.below B0.out))
  have HK := Lib.hid (broken_keys hk)
  have HRi := Lib.hid (rise_filter (all8_rise ns ps os p) brokC)
  have HS : Hid (sumF ns ps os p = wrap64 (sumW ((all8 ns ps os p).filter brokC))) := Lib.hid (by unfold sumF; rw [sum9_broken (fun c hc => (all8_good ns ps os p c hc).1)])
  have H0 : Hid (placeE ns ps os p ≠ 0 → all8 ns ps os p = []) := Lib.hid (fun h => by unfold all8; rw [if_neg h])
  generalize sumF ns ps os p = R at HS ⊢
  generalize all8 ns ps os p = l at HA HK HS HRi H0
  generalize placeE ns ps os p = E at HA H0 ⊢
  clear h hp hk hl
  go_enter Tryz.func25, Tryz.ntmps25
  go_wp2_with fail
  refine (HA.out).mono ?_
  rintro e w1 ⟨m, rfl, hm, hb⟩
  have HM := Lib.hid hm
  have B1 := Lib.hid (B0.out.trans (hb.mono B0.out.size))
  clear hm hb HA B0
  by_cases hE : E = 0
  case neg =>
    obtain rfl := HM.out.1 hE
    have hR : R = 0 := by rw [HS.out, H0.out hE]; exact IntWalk.wrap64_in 0 (by omega)
    have hrg := run_range_nilMap (P := Tryz.prog) w1 87 93 3 Tryz.underlying87
    have hnx : ∀ ty, (Instr.next (.pointer (some ⟨w1.heap.size, 0, none⟩)) false ty).run Tryz.prog (w1.alloc (.mapIter none 0 #[] 0)) = _ := fun ty => run_next_nilMap w1 ty 0 0 #[]
    have B2 := Lib.hid (B1.out.alloc B1.out.size (.mapIter none 0 #[] 0))
    clear hE HS H0 HM
    go_wp2
    refine wp_loop_rounds 1 ?_
    rw [rounds_succ]
    go_wp2
    go_ret2
    subst hR
    exact ⟨rfl, B2.out⟩
  subst hE
  obtain ⟨mb, rfl, hmb, hmo⟩ := HM.out.2 rfl
  have B9 := B1
  have HMB := Lib.hid hmb
  clear HM H0 hmb
  generalize hM : l.filter brokC = M at HK HRi HS hmo
  clear hM
  go_wp2_with (first
    | (at_range; refine wpList_range_own _ rfl _ 87 rfl 93 3 which_law Tryz.underlying87 intE mb l.length (mapW M) rfl hmo ?_; intro w0 hrg0 hg0 hs0)
    | go_in)
  go_frame
  have HG0 := Lib.hid hg0
  go_loopw [8] (fun v wr => ∃ (left : Lit → Bool) (cnt : Nat), v = .int .i64 (wrap64 (sumL left M)) ∧ (∀ kl, left kl = true → ∃ c ∈ M, kl = litC c) ∧ wr.ranges Tryz.prog 93 intE mb w1.heap.size l.length (mapW M) left cnt ∧ Below w.heap.size w wr)
    (fun _ wr => wr.rangeLeft mb w1.heap.size)
  case atStart =>
    refine ⟨_, _, ?_, fun kl hkl => mapW_has_inv hkl, hrg0, B1.out.grown (hg0.but none) (by have := B1.out.size; omega) (fun j hj => by cases hj)⟩
    rw [sumL_start (fun c hc => mapW_has hc (HK.out c hc)), show wrap64 0 = 0 from IntWalk.wrap64_in 0 (by omega)]
  case round =>
    obtain ⟨left, cnt, rfl, hleft, hrg, hbw⟩ := hrel
    have HL := Lib.hid hleft
    have HW := Lib.hid hbw
    have HRG := Lib.hid hrg
    clear hleft hbw hg0 hrg0
    go_wp2_with (first
      | (at_next; refine wpList_next_ranges _ rfl _ rfl 93 which_law intE (fun (v : Value) => v) (fun (c : Int) => Value.int .i64 c) (fun key kl hk => ⟨key, rfl⟩) (fun v y hv => by obtain ⟨c, e, _⟩ := intE_inv hv; exact ⟨c, e⟩) mb w1.heap.size l.length _ _ _ rfl hrg ?_ ?_)
      | go_in)
    · intro _ hl0
      have HE : Hid (R = wrap64 (sumL left M)) := Lib.hid (by rw [HS.out, sumL_end hl0])
      clear hrg HRG
      go_wp2
      go_ret2
      rw [HE.out]
      exact ⟨rfl, HW.out⟩
    · intro kv c kl y ps3 w3 cnt1 hkey hlx hRy hat hrg1 hlt hg1 hs1 hen
      obtain ⟨d, hd, rfl⟩ := HL.out kl hlx
      have hok := HK.out d hd
      obtain rfl : kv = keyW d.1 d.2.1 d.2.2.1 := keyOf_w_inv hkey hok rfl
      have hf := mapW_at hok HK.out HRi.out
      have hfr := find_rise HRi.out hd
      rw [hfr] at hf
      have hy1 := hat (.lit (.int .i64 0))
      have hcy : c = d.2.2.2 := by
        have e1 := Option.some.inj (show some ((DataW.lit (.int .i64 c) : DataW Unit), ([] : List MemPlace)) = some (y, ps3) from hRy)
        have e3 : y = .lit (.int .i64 c) := (congrArg Prod.fst e1).symm
        rw [e3] at hy1
        have e2 := hy1.symm.trans hf
        simpa using e2
      subst hcy
      have HST := Lib.hid (sumL_step hlx HK.out HRi.out hd)
      have HLN : Hid (∀ kl', (fun z => left z && !z.sameKey (litC d)) kl' = true → ∃ c ∈ M, kl' = litC c) := Lib.hid (fun kl' h => HL.out kl' (by
        simp only [Bool.and_eq_true] at h
        exact h.1))
      have HRG1 := Lib.hid hrg1
      have HW3 := Lib.hid (HW.out.grown hg1 HW.out.size (fun j hj => by cases hj; exact B9.out.size))
      have hlef := hrg.left_eq
      have Hcnt := Lib.hid hlt
      clear hkey hlx hRy hat hg1 hs1 hf hfr hy1 hok hd hrg hrg1 hlt
      generalize (fun z => left z && !z.sameKey (litC d)) = left' at HST HLN HRG1
      have KWt := Lib.hid (fun W' => weight_any d.1 d.2.1 d.2.2.1 d.2.2.2 W')
      have Hwt : Hid ((if d.1 = 1 then 1 else d.2.2.2) = wtC d) := Lib.hid rfl
      generalize (if d.1 = 1 then 1 else d.2.2.2) = wt at KWt Hwt
      have hcells : ∀ a b c : Int, keyW a b c = .agg #[.int .i64 a, .int .i64 b, .int .i64 c] := fun _ _ _ => rfl
      rw [hcells] at hen KWt
      have HVs : Hid (wrap64 (wrap64 (sumL left M) + wt) = wrap64 (sumL left' M)) := Lib.hid (by rw [wrap_step, HST.out, Hwt.out])
      have hmeas : w3.rangeLeft mb w1.heap.size = cnt1 := HRG1.out.left_eq
      have hcnt := Hcnt.out
      have R4 := Lib.hid (HRG1.out.alloc (.cells #[.int .i64 d.1, .int .i64 d.2.1, .int .i64 d.2.2.1] 93))
      have B4 := Lib.hid (HW3.out.alloc HW3.out.size (.cells #[.int .i64 d.1, .int .i64 d.2.1, .int .i64 d.2.2.1] 93))
      clear HST Hwt HRG HL hmeas hcnt HRG1 HW3
      generalize wrap64 (sumL left M) = s0 at HVs ⊢
      go_wp2_with fail
      refine (KWt.out _).mono ?_
      rintro e w5 ⟨rfl, hb5⟩
      have R5 := Lib.hid (R4.out.kept (grown_of_below hb5 none) (by simp) (by simp))
      have B5 := Lib.hid (B4.out.trans (hb5.mono B4.out.size))
      clear hb5 R4 B4
      go_wp2_with fail
      go_roundw
      case rel => exact ⟨left', cnt1, by first | exact congrArg (Value.int .i64) HVs.out | (rw [← HVs.out]; rfl), HLN.out, R5.out, B5.out⟩
      case measure => rw [R5.out.left_eq, hlef]; exact Hcnt.out

theorem safe_at (A B C P : Option Addr) (ca cb cc cp : Nat) (ns : List NodeD) (ps : List PodD) (os : List OwnD) (p : List Int) (w : World) (h : SnapAt w A B C ca cb cc ns ps os) (hp : IntsAt w P cp p) :
    Calls Tryz.prog 21 #[snapV A B C ca cb cc ns ps os, .slice P p.length cp] w fun e w' => e = .returned (.tuple #[.bool (safeB ns ps os p), .int .i64 (placeE ns ps os p)]) ∧ Below w.heap.size w w' :=
  safe_any A B C P ca cb cc cp ns ps os p (all8_fine h p).1 (all8_fine h p).2 w h hp
theorem sum_atS (A B C P : Option Addr) (ca cb cc cp : Nat) (ns : List NodeD) (ps : List PodD) (os : List OwnD) (p : List Int) (w : World) (h : SnapAt w A B C ca cb cc ns ps os) (hp : IntsAt w P cp p) :
    Calls Tryz.prog 25 #[snapV A B C ca cb cc ns ps os, .slice P p.length cp] w fun e w' => e = .returned (.tuple #[.int .i64 (sumF ns ps os p), .int .i64 (placeE ns ps os p)]) ∧ Below w.heap.size w w' :=
  sum_anyS A B C P ca cb cc cp ns ps os p (all8_fine h p).1 (all8_fine h p).2 w h hp
theorem worse_at (A B C P Q : Option Addr) (ca cb cc cp cq : Nat) (ns : List NodeD) (ps : List PodD) (os : List OwnD) (p q : List Int) (w : World) (h : SnapAt w A B C ca cb cc ns ps os) (hp : IntsAt w P cp p) (hq : IntsAt w Q cq q) :
    Calls Tryz.prog 23 #[snapV A B C ca cb cc ns ps os, .slice P p.length cp, .slice Q q.length cq] w fun e w' => ∃ v, e = .returned (.tuple #[v, .int .i64 (worseE ns ps os p q)]) ∧ w'.ownsRow w.heap.size 47 4 v (worseF ns ps os p q).length (cells4 (worseF ns ps os p q)) ∧ Below w.heap.size w w' :=
  worse_any A B C P Q ca cb cc cp cq ns ps os p q (all8_fine h p).1 (all8_fine h q).1 (all8_fine h p).2 (all8_fine h q).2 w h hp hq
end Go.Proofs.YtpdaohkpgconkaaGreat

namespace Go.Proofs.YtpdaohkpgconkaaGreat
open Go.RowKit

abbrev podArr (x : PodD) : Array Value := #[strV x.name, strV x.owner, .int .i64 (x.req 0), .int .i64 (x.req 1), .int .i64 (x.req 2), .int .i64 (x.req 3), .int .i64 (x.req 4), .slice x.al x.labels.length x.cl, .slice x.aw x.whr.length x.cw, .slice x.ab x.bears.length x.cb, strV x.wt, .slice x.awt x.wtm.length x.cwt, strV x.ap, .slice x.aap x.apm.length x.cap, strV x.on]
abbrev nodeArr (x : NodeD) : Array Value := #[strV x.name, .int .i64 (x.cap 0), .int .i64 (x.cap 1), .int .i64 (x.cap 2), .int .i64 (x.cap 3), .int .i64 (x.cap 4), .slice x.al x.labels.length x.cl, .slice x.at_ x.taints.length x.ct, .bool x.cordon, .bool x.lost]
/-- Two new blocks hold a pod and a node. -/
def OfSt (W : World) (x : PodD) (n : NodeD) (a b : Value) (wc : World) : Prop := ∃ u v, a = .pointer (some ⟨u, 0, none⟩) ∧ b = .pointer (some ⟨v, 0, none⟩) ∧ Blk wc u (podArr x) 43 ∧ Blk wc v (nodeArr n) 34 ∧ Below W.heap.size W wc

theorem ofst1 (W : World) (x : PodD) (n : NodeD) : OfSt W x n (.pointer (some ⟨W.heap.size, 0, none⟩)) (.pointer (some ⟨W.heap.size + 1, 0, none⟩)) ((W.alloc (.cells (podArr x) 43)).alloc (.cells (nodeArr n) 34)).drew :=
  ⟨_, _, rfl, rfl, Blk.drew (Blk.alloc (Blk.new W _ _) _), Blk.drew (blk2 W _ _ _), (Qu.below2 W _ _).drew⟩
theorem ofst2 (W : World) (x : PodD) (n : NodeD) : OfSt W x n (.pointer (some ⟨W.heap.size + 1, 0, none⟩)) (.pointer (some ⟨W.heap.size, 0, none⟩)) ((W.alloc (.cells (nodeArr n) 34)).alloc (.cells (podArr x) 43)).drew :=
  ⟨_, _, rfl, rfl, Blk.drew (blk2 W _ _ _), Blk.drew (Blk.alloc (Blk.new W _ _) _), (Qu.below2 W _ _).drew⟩

set_option maxRecDepth 100000 in
set_option maxHeartbeats 8000000 in
theorem ofR_any (A B C P : Option Addr) (ca cb cc cp : Nat) (ns : List NodeD) (ps : List PodD) (os : List OwnD) (p : List Int) (kind i : Nat) (hk2 : 2 ≤ kind) (hk6 : kind ≤ 6) (hE : placeE ns ps os p = 0) (hi : i < p.length) (w : World) (h : SnapAt w A B C ca cb cc ns ps os) (hp : IntsAt w P cp p) :
    Calls Tryz.prog 75 #[snapV A B C ca cb cc ns ps os, .slice P p.length cp, .int .i64 (kind : Int), .int .i64 (i : Int)] w fun e w' => e = .returned (.tuple #[.int .i64 (((ofU ns ps os p kind i).getD 0 : Nat) : Int), .bool (ofU ns ps os p kind i).isSome]) ∧ Below w.heap.size w w' := by
  have HPL := Lib.hid (placeE_len hE)
  obtain ⟨q0, hq0⟩ : ∃ x, p[i]? = some x := ⟨p[i], List.getElem?_eq_getElem hi⟩
  obtain ⟨y, hy⟩ : ∃ y, ps[i]? = some y := ⟨ps[i]'(by have := HPL.out; omega), List.getElem?_eq_getElem _⟩
  have B0 : Hid (Below w.heap.size w (w.alloc (.cells (snapC A B C ca cb cc ns ps os) 26))) := Lib.hid (below1 w _)
  have S0 : Hid (Blk (w.alloc (.cells (snapC A B C ca cb cc ns ps os) 26)) w.heap.size (snapC A B C ca cb cc ns ps os) 26) := Lib.hid (Blk.new w _ _)
  have i0 : (0 : Int) ≤ (i : Int) := by omega
  have i1 : (i : Int) < (p.length : Int) := by omega
  have i2 : (i : Int) < (ps.length : Int) := by have := HPL.out; omega
  obtain ⟨bp, op, hAp, _, _⟩ := atI hp.cells hq0
  subst hAp
  have HPC : Hid (∀ W', Below w.heap.size w W' → W'.cell? ⟨bp, op + i, none⟩ = some (.int .i64 q0)) := Lib.hid (fun W' hb => by
    obtain ⟨b', o', hA', _, hc⟩ := atI (hp.below hb).cells hq0
    cases hA'
    exact hc)
  by_cases hx : q0 = -1
  case pos =>
    subst hx
    have HE : Hid (ofU ns ps os p kind i = none) := Lib.hid (ofU_wait hq0)
    have pk := HPC.out _ B0.out
    have e1 : (-1 : Int) < 0 := by omega
    clear h hp hE hq0 hy hk2 hk6
    go_enter Tryz.func75, Tryz.ntmps75
    go_upto_region 1 with fail
    change Code.wp _ _ _ _ (w.alloc (.cells (snapC A B C ca cb cc ns ps os) 26))
    generalize (w.alloc (.cells (snapC A B C ca cb cc ns ps os) 26)) = W at B0 S0 pk ⊢
    go_wp2
    go_ret2
    rw [HE.out]
    exact ⟨rfl, B0.out⟩
  obtain ⟨q, rfl, hq⟩ := tpB_lt (placeE_on hE hq0 hx)
  obtain ⟨x, hxn⟩ : ∃ x, ns[q]? = some x := ⟨ns[q], List.getElem?_eq_getElem hq⟩
  have e1 : ¬ ((q : Int) < 0) := by omega
  have qn : (q : Int) < (ns.length : Int) := by omega
  have hq00 : (0 : Int) ≤ (q : Int) := by omega
  obtain ⟨b, o, hB, _⟩ := atP h.p.cells hy
  subst hB
  obtain ⟨bn, on, hA, _⟩ := atN h.n.cells hxn
  subst hA
  have E := Lib.hid (ofU_at (os := os) (kind := kind) hq0 hy hxn)
  have H := Lib.hid (fun W' (hb : Below w.heap.size w W') => h.below hb)
  have HP := Lib.hid (fun W' (hb : Below w.heap.size w W') => hp.below hb)
  have HQ0 := Lib.hid hq0
  have HY := Lib.hid hy
  have HXN := Lib.hid hxn
  have HEE := Lib.hid hE
  have HI := Lib.hid hi
  have HK := Lib.hid (⟨hk2, hk6⟩ : 2 ≤ kind ∧ kind ≤ 6)
  have pk := HPC.out _ B0.out
  have PC : Hid (∀ W', Below w.heap.size w W' → _) := Lib.hid (fun W' hb => atP (h.below hb).p.cells hy)
  have NC : Hid (∀ W', Below w.heap.size w W' → _) := Lib.hid (fun W' hb => atN (h.below hb).n.cells hxn)
  generalize ofU ns ps os p kind i = R at E ⊢
  clear h hp hE hq0 hy hxn hk2 hk6 hx
  go_enter Tryz.func75, Tryz.ntmps75
  go_upto_region 1 with fail
  change Code.wp _ _ _ _ (w.alloc (.cells (snapC (some ⟨bn, on, none⟩) (some ⟨b, o, none⟩) C ca cb cc ns ps os) 26))
  generalize (w.alloc (.cells (snapC (some ⟨bn, on, none⟩) (some ⟨b, o, none⟩) C ca cb cc ns ps os) 26)) = W at B0 S0 pk ⊢
  have HZ := Lib.hid (fun W' (hb : Below W.heap.size W W') => (show W'.cell? ⟨w.heap.size, 0, none⟩ = some (.slice (some ⟨bn, on, none⟩) ns.length ca) ∧ W'.cell? ⟨w.heap.size, 1, none⟩ = some (.slice (some ⟨b, o, none⟩) ps.length cb) ∧ W'.cell? ⟨w.heap.size, 2, none⟩ = some (.slice C os.length cc) from ⟨Blk.cell (S0.out.below hb S0.out.lt) 0, Blk.cell (S0.out.below hb S0.out.lt) 1, Blk.cell (S0.out.below hb S0.out.lt) 2⟩))
  have HT := Lib.hid (fun W' (hb : Below W.heap.size W W') => B0.out.trans (hb.mono B0.out.size))
  clear B0 S0
  have SF : Hid (∀ W', Below W.heap.size W W' → W'.cell? ⟨w.heap.size, 0, none⟩ = some (.slice (some ⟨bn, on, none⟩) ns.length ca) ∧ W'.cell? ⟨w.heap.size, 1, none⟩ = some (.slice (some ⟨b, o, none⟩) ps.length cb) ∧ W'.cell? ⟨bp, op + i, none⟩ = some (.int .i64 (q : Int)) ∧ W'.cell? ⟨b, o + i * 15, none⟩ = some (strV y.name) ∧ W'.cell? ⟨b, o + i * 15 + 1, none⟩ = some (strV y.owner) ∧ W'.cell? ⟨b, o + i * 15 + 2, none⟩ = some (.int .i64 (y.req 0)) ∧ W'.cell? ⟨b, o + i * 15 + 3, none⟩ = some (.int .i64 (y.req 1)) ∧ W'.cell? ⟨b, o + i * 15 + 4, none⟩ = some (.int .i64 (y.req 2)) ∧ W'.cell? ⟨b, o + i * 15 + 5, none⟩ = some (.int .i64 (y.req 3)) ∧ W'.cell? ⟨b, o + i * 15 + 6, none⟩ = some (.int .i64 (y.req 4)) ∧ W'.cell? ⟨b, o + i * 15 + 7, none⟩ = some (.slice y.al y.labels.length y.cl) ∧ W'.cell? ⟨b, o + i * 15 + 8, none⟩ = some (.slice y.aw y.whr.length y.cw) ∧ W'.cell? ⟨b, o + i * 15 + 9, none⟩ = some (.slice y.ab y.bears.length y.cb) ∧ W'.cell? ⟨b, o + i * 15 + 10, none⟩ = some (strV y.wt) ∧ W'.cell? ⟨b, o + i * 15 + 11, none⟩ = some (.slice y.awt y.wtm.length y.cwt) ∧ W'.cell? ⟨b, o + i * 15 + 12, none⟩ = some (strV y.ap) ∧ W'.cell? ⟨b, o + i * 15 + 13, none⟩ = some (.slice y.aap y.apm.length y.cap) ∧ W'.cell? ⟨b, o + i * 15 + 14, none⟩ = some (strV y.on) ∧ W'.cell? ⟨bn, on + q * 10, none⟩ = some (strV x.name) ∧ W'.cell? ⟨bn, on + q * 10 + 1, none⟩ = some (.int .i64 (x.cap 0)) ∧ W'.cell? ⟨bn, on + q * 10 + 2, none⟩ = some (.int .i64 (x.cap 1)) ∧ W'.cell? ⟨bn, on + q * 10 + 3, none⟩ = some (.int .i64 (x.cap 2)) ∧ W'.cell? ⟨bn, on + q * 10 + 4, none⟩ = some (.int .i64 (x.cap 3)) ∧ W'.cell? ⟨bn, on + q * 10 + 5, none⟩ = some (.int .i64 (x.cap 4)) ∧ W'.cell? ⟨bn, on + q * 10 + 6, none⟩ = some (.slice x.al x.labels.length x.cl) ∧ W'.cell? ⟨bn, on + q * 10 + 7, none⟩ = some (.slice x.at_ x.taints.length x.ct) ∧ W'.cell? ⟨bn, on + q * 10 + 8, none⟩ = some (.bool x.cordon) ∧ W'.cell? ⟨bn, on + q * 10 + 9, none⟩ = some (.bool x.lost)) := Lib.hid (fun W' hb => by
    obtain ⟨z0, z1, z2⟩ := HZ.out _ hb
    have pk := HPC.out _ (HT.out _ hb)
    obtain ⟨b1, o1, e1, _, c0, c1, c2, c3, c4, c5, c6, c7, c8, c9, c10, c11, c12, c13, c14⟩ := PC.out _ (HT.out _ hb)
    cases e1
    obtain ⟨b2, o2, e2, _, d0, d1, d2, d3, d4, d5, d6, d7, d8, d9⟩ := NC.out _ (HT.out _ hb)
    cases e2
    exact ⟨z0, z1, pk, c0, c1, c2, c3, c4, c5, c6, c7, c8, c9, c10, c11, c12, c13, c14, d0, d1, d2, d3, d4, d5, d6, d7, d8, d9⟩)
  go_upto_region 3 with fail
  go_cut [10, 11] (fun u v wc => OfSt W y x u v wc)
  case first =>
    go_region_held3 (fun w' => w'.cell? ⟨w.heap.size, 0, none⟩ = some (.slice (some ⟨bn, on, none⟩) ns.length ca) ∧ w'.cell? ⟨w.heap.size, 1, none⟩ = some (.slice (some ⟨b, o, none⟩) ps.length cb) ∧ w'.cell? ⟨bp, op + i, none⟩ = some (.int .i64 (q : Int)) ∧ w'.cell? ⟨b, o + i * 15, none⟩ = some (strV y.name) ∧ w'.cell? ⟨b, o + i * 15 + 1, none⟩ = some (strV y.owner) ∧ w'.cell? ⟨b, o + i * 15 + 2, none⟩ = some (.int .i64 (y.req 0)) ∧ w'.cell? ⟨b, o + i * 15 + 3, none⟩ = some (.int .i64 (y.req 1)) ∧ w'.cell? ⟨b, o + i * 15 + 4, none⟩ = some (.int .i64 (y.req 2)) ∧ w'.cell? ⟨b, o + i * 15 + 5, none⟩ = some (.int .i64 (y.req 3)) ∧ w'.cell? ⟨b, o + i * 15 + 6, none⟩ = some (.int .i64 (y.req 4)) ∧ w'.cell? ⟨b, o + i * 15 + 7, none⟩ = some (.slice y.al y.labels.length y.cl) ∧ w'.cell? ⟨b, o + i * 15 + 8, none⟩ = some (.slice y.aw y.whr.length y.cw) ∧ w'.cell? ⟨b, o + i * 15 + 9, none⟩ = some (.slice y.ab y.bears.length y.cb) ∧ w'.cell? ⟨b, o + i * 15 + 10, none⟩ = some (strV y.wt) ∧ w'.cell? ⟨b, o + i * 15 + 11, none⟩ = some (.slice y.awt y.wtm.length y.cwt) ∧ w'.cell? ⟨b, o + i * 15 + 12, none⟩ = some (strV y.ap) ∧ w'.cell? ⟨b, o + i * 15 + 13, none⟩ = some (.slice y.aap y.apm.length y.cap) ∧ w'.cell? ⟨b, o + i * 15 + 14, none⟩ = some (strV y.on) ∧ w'.cell? ⟨bn, on + q * 10, none⟩ = some (strV x.name) ∧ w'.cell? ⟨bn, on + q * 10 + 1, none⟩ = some (.int .i64 (x.cap 0)) ∧ w'.cell? ⟨bn, on + q * 10 + 2, none⟩ = some (.int .i64 (x.cap 1)) ∧ w'.cell? ⟨bn, on + q * 10 + 3, none⟩ = some (.int .i64 (x.cap 2)) ∧ w'.cell? ⟨bn, on + q * 10 + 4, none⟩ = some (.int .i64 (x.cap 3)) ∧ w'.cell? ⟨bn, on + q * 10 + 5, none⟩ = some (.int .i64 (x.cap 4)) ∧ w'.cell? ⟨bn, on + q * 10 + 6, none⟩ = some (.slice x.al x.labels.length x.cl) ∧ w'.cell? ⟨bn, on + q * 10 + 7, none⟩ = some (.slice x.at_ x.taints.length x.ct) ∧ w'.cell? ⟨bn, on + q * 10 + 8, none⟩ = some (.bool x.cordon) ∧ w'.cell? ⟨bn, on + q * 10 + 9, none⟩ = some (.bool x.lost)) (exact SF.out _ (by go_grown)) (skip)
    all_goals
      (try go_wp2_with fail)
      go_meet
      first | exact ofst1 W y x | exact ofst2 W y x
  case rest =>
    obtain ⟨u, v, rfl, rfl, hP, hN, hB⟩ := hcut
    have HB := Lib.hid hB
    obtain ⟨z0, z1, z2⟩ := HZ.out _ HB.out
    have p1 : wc.cell? ⟨u, 1, none⟩ = some (strV y.owner) := Blk.cell hP 1
    have p8 : wc.cell? ⟨u, 8, none⟩ = some (.slice y.aw y.whr.length y.cw) := Blk.cell hP 8
    have p9 : wc.cell? ⟨u, 9, none⟩ = some (.slice y.ab y.bears.length y.cb) := Blk.cell hP 9
    have p10 : wc.cell? ⟨u, 10, none⟩ = some (strV y.wt) := Blk.cell hP 10
    have p11 : wc.cell? ⟨u, 11, none⟩ = some (.slice y.awt y.wtm.length y.cwt) := Blk.cell hP 11
    have p12 : wc.cell? ⟨u, 12, none⟩ = some (strV y.ap) := Blk.cell hP 12
    have p13 : wc.cell? ⟨u, 13, none⟩ = some (.slice y.aap y.apm.length y.cap) := Blk.cell hP 13
    have n6 : wc.cell? ⟨v, 6, none⟩ = some (.slice x.al x.labels.length x.cl) := Blk.cell hN 6
    have n7 : wc.cell? ⟨v, 7, none⟩ = some (.slice x.at_ x.taints.length x.ct) := Blk.cell hN 7
    have HPb := Lib.hid hP
    have YF := Lib.hid ((H.out _ (HT.out _ HB.out)).p.fit y (List.mem_of_getElem? HY.out))
    have XF := Lib.hid ((H.out _ (HT.out _ HB.out)).n.fit x (List.mem_of_getElem? HXN.out))
    have hlp := (H.out _ (HT.out _ HB.out)).lp
    clear SF PC NC HPC hP hN hB pk
    by_cases e2 : kind = 2
    case pos =>
      subst e2
      have HE : Hid (R = some (termsO y.whr x.labels)) := Lib.hid (by rw [E.out]; rfl)
      clear E
      go_wp2_with fail
      refine (terms_any y.aw x.al y.cw x.cl y.whr x.labels _ YF.out.wh.le YF.out.wh.most (Nat.le_trans XF.out.l.le XF.out.l.most) YF.out.wh.cells XF.out.l.cells).mono ?_
      rintro e w2 ⟨rfl, hb2⟩
      have B2 := Lib.hid (HT.out _ (HB.out.trans (hb2.mono HB.out.size)))
      clear hb2
      go_wp2
      go_ret2
      rw [HE.out]
      exact ⟨rfl, B2.out⟩
    by_cases e3 : kind = 3
    case pos =>
      subst e3
      have HE : Hid (R = some (taintsO x.taints y.bears)) := Lib.hid (by rw [E.out]; rfl)
      clear E e2
      go_wp2_with fail
      refine (taints_any x.at_ y.ab x.ct y.cb x.taints y.bears _ XF.out.t.le XF.out.t.most (Nat.le_trans YF.out.b.le YF.out.b.most) XF.out.t.cells YF.out.b.cells).mono ?_
      rintro e w2 ⟨rfl, hb2⟩
      have B2 := Lib.hid (HT.out _ (HB.out.trans (hb2.mono HB.out.size)))
      clear hb2
      go_wp2
      go_ret2
      rw [HE.out]
      exact ⟨rfl, B2.out⟩
    by_cases e4 : kind = 4
    case pos =>
      subst e4
      by_cases ht : y.wt = []
      case pos =>
        have HE : Hid (R = none) := Lib.hid (by rw [E.out, ht]; rfl)
        rw [ht] at p10
        clear E e2 e3
        go_wp2
        go_ret2
        rw [HE.out]
        exact ⟨rfl, HT.out _ HB.out⟩
      have HE : Hid (R = some (1 - aboutU ns ps p i y.wt y.wtm false p.length)) := Lib.hid (by rw [E.out]; simp [ht])
      have htb : (y.wt == []) = false := by simpa using ht
      have hal := aboutU_le ns ps p i y.wt y.wtm false p.length
      have KA := Lib.hid (about_any (some ⟨bn, on, none⟩) (some ⟨b, o, none⟩) C (some ⟨bp, op, none⟩) y.awt ca cb cc cp y.cwt ns ps os p i q y.wt y.wtm false wc (H.out _ (HT.out _ HB.out)) (HP.out _ (HT.out _ HB.out)) HEE.out HQ0.out YF.out.wt.cells (Nat.le_trans YF.out.wt.le YF.out.wt.most))
      generalize aboutU ns ps p i y.wt y.wtm false p.length = m at KA HE hal
      have hws : IntKind.i64.wrap (1 - (m : Int)) = 1 - (m : Int) := IntWalk.i64_in _ (by have := HPL.out; omega)
      clear E e2 e3 ht
      go_wp2_with fail
      refine (KA.out).mono ?_
      rintro e w2 ⟨rfl, hb2⟩
      have B2 := Lib.hid (HT.out _ (HB.out.trans (hb2.mono HB.out.size)))
      clear hb2 KA
      go_wp2
      go_ret2
      rw [HE.out]
      refine ⟨?_, B2.out⟩
      show Ending.returned (.tuple #[.int .i64 _, .bool true]) = .returned (.tuple #[.int .i64 ((1 - m : Nat) : Int), .bool true])
      congr 5
      omega
    by_cases e5 : kind = 5
    case pos =>
      subst e5
      by_cases ht : y.ap = []
      case pos =>
        have HE : Hid (R = none) := Lib.hid (by rw [E.out, ht]; rfl)
        rw [ht] at p12
        clear E e2 e3 e4
        go_wp2
        go_ret2
        rw [HE.out]
        exact ⟨rfl, HT.out _ HB.out⟩
      have HE : Hid (R = some (aboutU ns ps p i y.ap y.apm true p.length)) := Lib.hid (by rw [E.out]; simp [ht])
      have htb : (y.ap == []) = false := by simpa using ht
      have KA := Lib.hid (about_any (some ⟨bn, on, none⟩) (some ⟨b, o, none⟩) C (some ⟨bp, op, none⟩) y.aap ca cb cc cp y.cap ns ps os p i q y.ap y.apm true wc (H.out _ (HT.out _ HB.out)) (HP.out _ (HT.out _ HB.out)) HEE.out HQ0.out YF.out.ap.cells (Nat.le_trans YF.out.ap.le YF.out.ap.most))
      generalize aboutU ns ps p i y.ap y.apm true p.length = m at KA HE
      clear E e2 e3 e4 ht
      go_wp2_with fail
      refine (KA.out).mono ?_
      rintro e w2 ⟨rfl, hb2⟩
      have B2 := Lib.hid (HT.out _ (HB.out.trans (hb2.mono HB.out.size)))
      clear hb2 KA
      go_wp2
      go_ret2
      rw [HE.out]
      exact ⟨rfl, B2.out⟩
    obtain ⟨hk2, hk6⟩ := HK.out
    obtain rfl : kind = 6 := by omega
    by_cases ht : y.owner = []
    case pos =>
      have HE : Hid (R = none) := Lib.hid (by rw [E.out, ht]; rfl)
      rw [ht] at p1
      clear E e2 e3 e4 e5 hk2 hk6
      go_wp2
      go_ret2
      rw [HE.out]
      exact ⟨rfl, HT.out _ HB.out⟩
    have htb : (y.owner == []) = false := by simpa using ht
    have HE : Hid (R = if singleO os y.owner then some (doubU ps p i p.length) else none) := Lib.hid (by rw [E.out]; simp [ht])
    have KS := Lib.hid (single_any (some ⟨bn, on, none⟩) (some ⟨b, o, none⟩) C ca cb cc ns ps os y.owner wc (H.out _ (HT.out _ HB.out)))
    have KD := Lib.hid (fun W' (hb : Below W.heap.size W W') => doubles_any (some ⟨bn, on, none⟩) (some ⟨b, o, none⟩) C (some ⟨bp, op, none⟩) ca cb cc cp ns ps os p i W' (H.out _ (HT.out _ hb)) (HP.out _ (HT.out _ hb)) HPL.out HI.out)
    generalize doubU ps p i p.length = m at KD HE
    generalize singleO os y.owner = S at KS HE
    clear E e2 e3 e4 e5 hk2 hk6 ht
    go_wp2_with fail
    refine (KS.out).mono ?_
    rintro e w2 ⟨rfl, hb2⟩
    have B2 := Lib.hid (HB.out.trans (hb2.mono HB.out.size))
    clear hb2 KS z0 z1 z2
    obtain ⟨z0, z1, z2⟩ := HZ.out _ B2.out
    cases S with
    | false =>
      go_wp2
      go_ret2
      rw [HE.out]
      exact ⟨rfl, HT.out _ B2.out⟩
    | true =>
      go_wp2_with fail
      refine (KD.out _ B2.out).mono ?_
      rintro e w3 ⟨rfl, hb3⟩
      have B3 := Lib.hid (HT.out _ (B2.out.trans (hb3.mono B2.out.size)))
      clear hb3
      go_wp2
      go_ret2
      rw [HE.out]
      exact ⟨rfl, B3.out⟩
end Go.Proofs.YtpdaohkpgconkaaGreat

namespace Go.Proofs.YtpdaohkpgconkaaGreat
open Go.RowKit

theorem cl4_cells (w : World) (a b c d : Int) : ∀ j u, ([.int .i64 a, .int .i64 b, .int .i64 c, .int .i64 d] : List Value)[j]? = some u → World.cell? (w.alloc (.cells #[.int .i64 a, .int .i64 b, .int .i64 c, .int .i64 d] 47)) ((⟨w.heap.size, 0, none⟩ : Addr).add j) = some u := by
  intro j u hj
  rw [WideShapes.add_plain, Nat.zero_add, ← hj, ← List.getElem?_toArray]
  exact Blk.cell (Blk.new w _ _) j
theorem cl4_one (a b c d : Int) : ∀ u ∈ ([.int .i64 a, .int .i64 b, .int .i64 c, .int .i64 d] : List Value), u.oneCell' = true := by
  intro u hu
  simp at hu
  rcases hu with rfl | rfl | rfl | rfl <;> rfl

set_option maxRecDepth 100000 in
set_option maxHeartbeats 8000000 in
theorem all8_any (A B C P : Option Addr) (ca cb cc cp : Nat) (ns : List NodeD) (ps : List PodD) (os : List OwnD) (p : List Int) (w : World) (h : SnapAt w A B C ca cb cc ns ps os) (hp : IntsAt w P cp p) :
    Calls Tryz.prog 57 #[snapV A B C ca cb cc ns ps os, .slice P p.length cp] w fun e w' => ∃ v, e = .returned (.tuple #[v, .int .i64 (placeE ns ps os p)]) ∧ w'.ownsRow w.heap.size 47 4 v (all8 ns ps os p).length (cells4 (all8 ns ps os p)) ∧ Below w.heap.size w w' := by
  have B0 : Hid (Below w.heap.size w (w.alloc (.cells (snapC A B C ca cb cc ns ps os) 26))) := Lib.hid (below1 w _)
  have S0 : Hid (Blk (w.alloc (.cells (snapC A B C ca cb cc ns ps os) 26)) w.heap.size (snapC A B C ca cb cc ns ps os) 26) := Lib.hid (Blk.new w _ _)
  have KC := Lib.hid (check7_any A B C P ca cb cc cp ns ps os p _ (h.below B0.out) (hp.below B0.out))
  obtain ⟨i0, hi0, hz0, hz1, hz2⟩ := info_parts cl_info
  by_cases hE : placeE ns ps os p = 0
  case neg =>
    have HE : Hid (all8 ns ps os p = []) := Lib.hid (by unfold all8; rw [if_neg hE])
    generalize placeE ns ps os p = er at KC hE ⊢
    have hne : (er != 0) = true := by simpa using hE
    have hnd : decide (er = 0) = false := decide_eq_false hE
    have hnb : (er == 0) = false := by simpa using hE
    clear h hp
    go_enter Tryz.func57, Tryz.ntmps57
    go_wp2_with fail
    refine (KC.out).mono ?_
    rintro e w1 ⟨rfl, hb⟩
    have B1 := Lib.hid (B0.out.trans (hb.mono B0.out.size))
    clear hb KC B0 S0
    go_wp2
    go_ret2
    rw [HE.out]
    exact ⟨_, rfl, World.ownsRow_nil _ _ _ _, B1.out⟩
  have HEE := Lib.hid hE
  have HPL := Lib.hid (placeE_len hE)
  have HA8 : Hid (all8 ns ps os p = capsU ns ps p ns.length ++ kindsU ns ps os p 5 ++ spreadsU ns ps os p os.length ++ minsU ns ps os p os.length) := Lib.hid (by unfold all8; rw [if_pos hE]; rfl)
  have hln := h.ln
  have hlp := h.lp
  have hlo := h.lo
  have hpl2 : p.length ≤ 1000 := by have := HPL.out; omega
  have H := Lib.hid (fun W' (hb : Below w.heap.size w W') => h.below hb)
  have HP := Lib.hid (fun W' (hb : Below w.heap.size w W') => hp.below hb)
  rw [hE] at KC ⊢
  clear h hp hE
  go_enter Tryz.func57, Tryz.ntmps57
  obtain ⟨W, hW⟩ : ∃ W, (w.alloc (.cells (snapC A B C ca cb cc ns ps os) 26)) = W := ⟨_, rfl⟩
  rw [hW] at B0 S0 KC
  have HZ := Lib.hid (fun W' (hb : Below W.heap.size W W') => (show W'.cell? ⟨w.heap.size, 0, none⟩ = some (.slice A ns.length ca) ∧ W'.cell? ⟨w.heap.size, 1, none⟩ = some (.slice B ps.length cb) ∧ W'.cell? ⟨w.heap.size, 2, none⟩ = some (.slice C os.length cc) from ⟨Blk.cell (S0.out.below hb S0.out.lt) 0, Blk.cell (S0.out.below hb S0.out.lt) 1, Blk.cell (S0.out.below hb S0.out.lt) 2⟩))
  obtain ⟨z0, z1, z2⟩ := HZ.out _ (Below.refl _ W)
  go_wp2_with fail
  try rw [show (w.alloc (.cells #[.slice A ns.length ca, .slice B ps.length cb, .slice C os.length cc] 26)) = W from hW]
  clear hW
  refine (KC.out).mono ?_
  rintro e w1 ⟨rfl, hb1⟩
  clear z0 z1 z2
  have HT := Lib.hid (fun W' (hb : Below W.heap.size W W') => B0.out.trans (hb.mono B0.out.size))
  have HS := Lib.hid (fun W' (hb : Below W.heap.size W W') => H.out W' (HT.out W' hb))
  have HPp := Lib.hid (fun W' (hb : Below W.heap.size W W') => HP.out W' (HT.out W' hb))
  have HB0 := Lib.hid B0.out.size
  have HB1 := Lib.hid hb1
  clear H HP B0 S0 KC hb1
  obtain ⟨z0, z1, z2⟩ := HZ.out _ HB1.out
  go_wp2_with fail
  refine (caps_any A B C P ca cb cc cp ns ps os p HPL.out _ (HS.out _ HB1.out) (HPp.out _ HB1.out)).mono ?_
  rintro e w2 ⟨v2, rfl, ho2, hb2⟩
  have O2 := Lib.hid (own_base ho2 HB1.out.size)
  have HB2 := Lib.hid (HB1.out.trans (hb2.mono HB1.out.size))
  have hcl := capsU_len ns ps p ns.length
  generalize capsU ns ps p ns.length = CL at O2 HA8 hcl
  clear ho2 hb2 HB1 z0 z1 z2
  go_wp2_with fail
  go_loopw [7, 8] (fun v kd wr => ∃ k : Nat, 2 ≤ k ∧ k ≤ 7 ∧ kd = .int .i64 (k : Int) ∧ wr.ownsRow W.heap.size 47 4 v (CL ++ kindsU ns ps os p (k - 2)).length (cells4 (CL ++ kindsU ns ps os p (k - 2))) ∧ Below W.heap.size W wr) (fun _ kd _ => 7 - (intOf kd).toNat)
  case atStart => exact ⟨2, by omega, by omega, rfl, by rw [show CL ++ kindsU ns ps os p (2 - 2) = CL from List.append_nil _]; exact O2.out, HB2.out⟩
  case round =>
    clear O2 HB2
    obtain ⟨k, hk2, hk7, rfl, ho, hb⟩ := hrel
    have HO := Lib.hid ho
    have HB := Lib.hid hb
    clear ho hb
    have hkl := kindsU_len ns ps os p (k - 2)
    have hkl2 : (kindsU ns ps os p (k - 2)).length ≤ 5 * 1000 := Nat.le_trans hkl (Nat.mul_le_mul (by omega) hpl2)
    have hkl3 : (CL ++ kindsU ns ps os p (k - 2)).length ≤ 10000 := by rw [List.length_append]; omega
    clear hkl hkl2
    by_cases hlt : k < 7
    case neg =>
      have ek : k = 7 := by omega
      have e7 : (k : Int) = 7 := by omega
      rw [e7]
      rw [ek] at HO hkl3
      clear e7 ek
      have HA9 : Hid (all8 ns ps os p = (CL ++ kindsU ns ps os p (7 - 2)) ++ spreadsU ns ps os p os.length ++ minsU ns ps os p os.length) := HA8
      generalize CL ++ kindsU ns ps os p (7 - 2) = M3 at HO HA9 hkl3
      clear hk2 hk7 hlt HA8 hcl
      go_wp2_with fail
      go_loopw [7, 12] (fun v i wr => ∃ i' : Nat, i' ≤ os.length ∧ i = .int .i64 (i' : Int) ∧ wr.ownsRow W.heap.size 47 4 v (M3 ++ spreadsU ns ps os p i').length (cells4 (M3 ++ spreadsU ns ps os p i')) ∧ Below W.heap.size W wr) (fun _ i _ => os.length - (intOf i).toNat)
      case atStart => exact ⟨0, by omega, rfl, by rw [show M3 ++ spreadsU ns ps os p 0 = M3 from List.append_nil _]; exact HO.out, HB.out⟩
      case round =>
        clear HO HB
        obtain ⟨i', hi', rfl, ho, hb⟩ := hrel
        have HO := Lib.hid ho
        have HB := Lib.hid hb
        clear ho hb
        obtain ⟨z0, z1, z2⟩ := HZ.out _ HB.out
        have hsl := spreadsU_len ns ps os p i'
        have hsl3 : (M3 ++ spreadsU ns ps os p i').length ≤ 11000 := by rw [List.length_append]; omega
        by_cases hlt : i' < os.length
        case neg =>
          obtain rfl : i' = os.length := by omega
          generalize M3 ++ spreadsU ns ps os p os.length = M4 at HO HA9 hsl3
          clear hi' hlt hkl3 hsl
          go_wp2_with fail
          go_loopw [7, 13] (fun v i wr => ∃ i' : Nat, i' ≤ os.length ∧ i = .int .i64 (i' : Int) ∧ wr.ownsRow W.heap.size 47 4 v (M4 ++ minsU ns ps os p i').length (cells4 (M4 ++ minsU ns ps os p i')) ∧ Below W.heap.size W wr) (fun _ i _ => os.length - (intOf i).toNat)
          case atStart => exact ⟨0, by omega, rfl, by rw [show M4 ++ minsU ns ps os p 0 = M4 from List.append_nil _]; exact HO.out, HB.out⟩
          case round =>
            clear HO HB z0 z1 z2
            obtain ⟨i', hi', rfl, ho, hb⟩ := hrel
            have HO := Lib.hid ho
            have HB := Lib.hid hb
            clear ho hb
            obtain ⟨z0, z1, z2⟩ := HZ.out _ HB.out
            have hml := minsU_len ns ps os p i'
            have hml3 : (M4 ++ minsU ns ps os p i').length ≤ 12000 := by rw [List.length_append]; omega
            by_cases hlt : i' < os.length
            case neg =>
              obtain rfl : i' = os.length := by omega
              go_wp2
              go_ret2
              rw [HA9.out]
              exact ⟨_, rfl, own_base HO.out HB0.out, HT.out _ HB.out⟩
            obtain ⟨o, ho⟩ : ∃ o, os[i']? = some o := ⟨os[i'], List.getElem?_eq_getElem hlt⟩
            have HOo := Lib.hid ho
            have Hd : Hid (M4 ++ minsU ns ps os p (i' + 1) = (M4 ++ minsU ns ps os p i') ++ [(8, (i' : Int), 0, max 0 (wrap64 (o.min - placedF ns ps os p (i' : Int))))]) := Lib.hid (by
              rw [minsU, ← List.append_assoc]
              congr 1
              unfold minR
              rw [HOo.out])
            have hPV : placedF ns ps os p (i' : Int) = ((offL p (membersF ps o.name)).length : Int) := by
              have hR : ownerB ns ps os p (i' : Int) = true := by
                unfold ownerB
                rw [decide_eq_true HEE.out, decide_eq_true (⟨by omega, by omega⟩ : 0 ≤ (i' : Int) ∧ (i' : Int) < (os.length : Int))]
                rfl
              obtain ⟨ko, xo, e1, hxo, _, _, hC, _⟩ := owned_is hR
              have e2 : ko = i' := by omega
              subst e2
              rw [HOo.out] at hxo
              cases hxo
              exact hC
            rw [hPV] at Hd
            have KM := Lib.hid (fun W' (hb : Below W.heap.size W W') => placedOf7_any A B C P ca cb cc cp ns ps os p i' o HOo.out HEE.out W' (HS.out W' hb) (HPp.out W' hb))
            generalize ((offL p (membersF ps o.name)).length : Int) = m at KM Hd
            obtain ⟨b, oo, hC, _, d0, d1, _⟩ := atO (HS.out _ HB.out).o ho
            subst hC
            have k0 : (0 : Int) ≤ (i' : Int) := by omega
            have k1 : (i' : Int) < (os.length : Int) := by omega
            generalize M4 ++ minsU ns ps os p i' = M at HO Hd hml3
            clear ho hPV d0
            have HB : Hid (Below W.heap.size W wr.drew) := Lib.hid HB.out.drew
            have HO : Hid (World.ownsRow wr.drew W.heap.size 47 4 u7 M.length (cells4 M)) := Lib.hid (show World.ownsRow _ _ _ _ _ _ _ from HO.out)
            have SF : Hid (∀ w', Below W.heap.size W w' → w'.cell? ⟨w.heap.size, 0, none⟩ = some (.slice A ns.length ca) ∧ w'.cell? ⟨w.heap.size, 1, none⟩ = some (.slice B ps.length cb) ∧ w'.cell? ⟨w.heap.size, 2, none⟩ = some (.slice (some ⟨b, oo, none⟩) os.length cc) ∧ w'.cell? ⟨b, oo + i' * 5 + 1, none⟩ = some (.int .i64 o.min)) := Lib.hid (fun w' hb => by
              obtain ⟨z0, z1, z2⟩ := HZ.out _ hb
              obtain ⟨b1, o1, e1, _, d0, d1, _⟩ := atO (HS.out _ hb).o HOo.out
              cases e1
              exact ⟨z0, z1, z2, d1⟩)
            go_upto_region 22 with fail
            clear z0 z1 z2 d1
            go_region_held3 (fun w' => w'.cell? ⟨w.heap.size, 0, none⟩ = some (.slice A ns.length ca) ∧ w'.cell? ⟨w.heap.size, 1, none⟩ = some (.slice B ps.length cb) ∧ w'.cell? ⟨w.heap.size, 2, none⟩ = some (.slice (some ⟨b, oo, none⟩) os.length cc) ∧ w'.cell? ⟨b, oo + i' * 5 + 1, none⟩ = some (.int .i64 o.min)) (first | exact SF.out _ HB.out | exact SF.out _ (HB.out.alloc HB.out.size _) | exact SF.out _ D4.out)
              (first
                | (go_at_call 77
                   refine (KM.out _ HB.out).mono ?_
                   rintro e w3 ⟨rfl, hb3⟩
                   have HO := Lib.hid (La.own_below HO.out hb3)
                   have HB := Lib.hid (HB.out.trans (hb3.mono HB.out.size))
                   clear hb3)
                | (refine step_append_own rfl (.tmp 79) (.tmp 94) 48 rfl W.heap.size 47 i0 (.agg #[.int .i64 0, .int .i64 0, .int .i64 0, .int .i64 0]) 4 32 Tryz.underlying48 hi0 hz0 hz1 hz2 rfl (by decide) u7 M.length (cells4 M) rfl (show World.ownsRow _ _ _ _ _ _ _ from HO.out.alloc _) ⟨_, 0, none⟩ 1 1 [.int .i64 8, .int .i64 (i' : Int), .int .i64 0, .int .i64 (max 0 (IntKind.i64.wrap (o.min - m)))] rfl rfl (cl4_cells _ _ _ _ _) (cl4_one _ _ _ _) (by unfold maxLen; omega) (by omega) (by have := HB.out.size; simp; omega) (fun v4 w4 hown4 hgrow4 => ?_)
                   have P4 := Lib.hid hown4
                   have D4 := Lib.hid ((HB.out.alloc HB.out.size (.cells #[.int .i64 8, .int .i64 (i' : Int), .int .i64 0, .int .i64 (max 0 (IntKind.i64.wrap (o.min - m)))] 47)).grown hgrow4 (by have := HB.out.size; simp; omega) (fun j hj => own_gem HO.out hj))
                   clear hown4 hgrow4))
            all_goals
              go_wp2_with fail
              go_roundw
              case rel =>
                refine ⟨i' + 1, by omega, by go_num, ?_, D4.out⟩
                rw [Hd.out, List.length_append, cells4_snoc]
                have e : IntKind.i64.wrap (o.min - m) = wrap64 (o.min - m) := IntWalk.i64_left _
                rw [← e]
                exact P4.out
              case measure => simp [intOf]; omega
        obtain ⟨o, ho⟩ : ∃ o, os[i']? = some o := ⟨os[i'], List.getElem?_eq_getElem hlt⟩
        have HOo := Lib.hid ho
        have Hd : Hid (spreadsU ns ps os p (i' + 1) = spreadsU ns ps os p i' ++ (if o.topo = [] then [] else [(7, (i' : Int), 0, skewO (spreadF ns ps os p (i' : Int)) o.skew)])) := Lib.hid (by
          rw [spreadsU]
          congr 1
          unfold spreadR
          rw [HOo.out])
        have KS := Lib.hid (fun W' (hb : Below W.heap.size W W') => skew_any A B C P ca cb cc cp ns ps os p i' o HOo.out HEE.out W' (HS.out W' hb) (HPp.out W' hb))
        generalize skewO (spreadF ns ps os p (i' : Int)) o.skew = sk at KS Hd
        obtain ⟨b, oo, hC, _, d0, d1, d2, d3, d4⟩ := atO (HS.out _ HB.out).o ho
        subst hC
        have k0 : (0 : Int) ≤ (i' : Int) := by omega
        have k1 : (i' : Int) < (os.length : Int) := by omega
        by_cases ht : o.topo = []
        case pos =>
          have hE2 : Hid (M3 ++ spreadsU ns ps os p (i' + 1) = M3 ++ spreadsU ns ps os p i') := Lib.hid (by rw [Hd.out, if_pos ht, List.append_nil])
          rw [ht] at d2
          clear ho Hd KS ht hsl d0 d1 d3 d4
          go_wp2_with fail
          go_roundw
          case rel => exact ⟨i' + 1, by omega, by go_num, by rw [hE2.out]; exact HO.out, HB.out⟩
          case measure => simp [intOf]; omega
        have hE2 : Hid (M3 ++ spreadsU ns ps os p (i' + 1) = (M3 ++ spreadsU ns ps os p i') ++ [(7, (i' : Int), 0, sk)]) := Lib.hid (by rw [Hd.out, if_neg ht, List.append_assoc])
        have htb : (o.topo == []) = false := by simpa using ht
        have htn : (o.topo != []) = true := by simp [ht]
        generalize M3 ++ spreadsU ns ps os p i' = M at HO hE2 hsl3
        clear ho Hd hsl d0 d1 d3 d4
        go_wp2_with fail
        refine (KS.out _ HB.out).mono ?_
        rintro e w3 ⟨rfl, hb3⟩
        have HO3 := Lib.hid (La.own_below HO.out hb3)
        have HB3 := Lib.hid (HB.out.trans (hb3.mono HB.out.size))
        clear hb3 KS HO HB z0 z1 z2 d2 htb htn ht
        go_wp2_with (at_builtin; refine wpList_append_own _ rfl _ _ 48 rfl W.heap.size 47 i0 (.agg #[.int .i64 0, .int .i64 0, .int .i64 0, .int .i64 0]) 4 32 Tryz.underlying48 hi0 hz0 hz1 hz2 rfl (by decide) _ _ _ rfl (show World.ownsRow _ _ _ _ _ _ _ from HO3.out.alloc _) ⟨w3.heap.size, 0, none⟩ 1 1 [.int .i64 7, .int .i64 (i' : Int), .int .i64 0, .int .i64 sk] rfl rfl ?c1s ?c2s ?c3s ?c4s ?c5s ?_)
        case c1s =>
          intro j u hj
          match j, hj with
          | 0, hj => simp at hj; subst hj; simp [Addr.add]
          | 1, hj => simp at hj; subst hj; simp [Addr.add]
          | 2, hj => simp at hj; subst hj; simp [Addr.add]
          | 3, hj => simp at hj; subst hj; simp [Addr.add]
        case c2s => first | rfl | (intro u hu; simp at hu; rcases hu with rfl | rfl | rfl | rfl <;> rfl)
        case c3s => unfold maxLen; omega
        case c4s => omega
        case c5s => have := HB3.out.size; simp; omega
        intro v4 w4 hown4 hgrow4 _
        have P4 := Lib.hid hown4
        have D4 := Lib.hid ((HB3.out.alloc HB3.out.size (.cells #[.int .i64 7, .int .i64 (i' : Int), .int .i64 0, .int .i64 sk] 47)).grown hgrow4 (by have := HB3.out.size; simp; omega) (fun j hj => own_gem HO3.out hj))
        clear hown4 hgrow4
        go_wp2_with fail
        go_roundw
        case rel =>
          refine ⟨i' + 1, by omega, by go_num, ?_, D4.out⟩
          rw [hE2.out, List.length_append, cells4_snoc]
          exact P4.out
        case measure => simp [intOf]; omega
    have Hk : Hid (CL ++ kindsU ns ps os p (k + 1 - 2) = (CL ++ kindsU ns ps os p (k - 2)) ++ podsU ns ps os p k p.length) := Lib.hid (by
      obtain ⟨j, rfl⟩ : ∃ j, k = j + 2 := ⟨k - 2, by omega⟩
      show CL ++ (kindsU ns ps os p j ++ podsU ns ps os p (j + 2) p.length) = _
      rw [← List.append_assoc]
      rfl)
    generalize CL ++ kindsU ns ps os p (k - 2) = M2 at HO Hk hkl3
    clear hcl HA8
    have e6 : (k : Int) ≤ 6 := by omega
    go_wp2_with fail
    go_loopw [7, 9] (fun v i wr => ∃ i' : Nat, i' ≤ p.length ∧ i = .int .i64 (i' : Int) ∧ wr.ownsRow W.heap.size 47 4 v (M2 ++ podsU ns ps os p k i').length (cells4 (M2 ++ podsU ns ps os p k i')) ∧ Below W.heap.size W wr) (fun _ i _ => p.length - (intOf i).toNat)
    case atStart => exact ⟨0, by omega, rfl, by rw [show M2 ++ podsU ns ps os p k 0 = M2 from List.append_nil _]; exact HO.out, HB.out⟩
    case round =>
      clear HO HB
      obtain ⟨i', hi', rfl, ho, hb⟩ := hrel
      have HO := Lib.hid ho
      have HB := Lib.hid hb
      clear ho hb
      obtain ⟨z0, z1, z2⟩ := HZ.out _ HB.out
      have hsl := podsU_len ns ps os p k i'
      have hsl3 : (M2 ++ podsU ns ps os p k i').length ≤ 11000 := by rw [List.length_append]; omega
      by_cases hlt2 : i' < p.length
      case neg =>
        obtain rfl : i' = p.length := by omega
        go_wp2_with fail
        go_roundw
        case rel => exact ⟨k + 1, by omega, by omega, by go_num, by rw [Hk.out]; exact HO.out, HB.out⟩
        case measure => simp [intOf]; omega
      have KO := Lib.hid (fun W' (hb : Below W.heap.size W W') => ofR_any A B C P ca cb cc cp ns ps os p k i' hk2 (by omega) HEE.out hlt2 W' (HS.out W' hb) (HPp.out W' hb))
      have Hd : Hid (M2 ++ podsU ns ps os p k (i' + 1) = (M2 ++ podsU ns ps os p k i') ++ (match ofU ns ps os p k i' with | some b => [((k : Int), (i' : Int), 0, (b : Int))] | none => [])) := Lib.hid (by
        rw [podsU, ← List.append_assoc]
        rfl)
      have k0 : (0 : Int) ≤ (i' : Int) := by omega
      have k1 : (i' : Int) < (p.length : Int) := by omega
      generalize M2 ++ podsU ns ps os p k i' = M at HO Hd hsl3
      generalize ofU ns ps os p k i' = R at KO Hd
      clear hsl
      go_wp2_with fail
      refine (KO.out _ HB.out).mono ?_
      rintro e w3 ⟨rfl, hb3⟩
      have HO3 := Lib.hid (La.own_below HO.out hb3)
      have HB3 := Lib.hid (HB.out.trans (hb3.mono HB.out.size))
      clear hb3 KO HO HB z0 z1 z2
      cases R with
      | none =>
        have hE2 : Hid (M2 ++ podsU ns ps os p k (i' + 1) = M) := Lib.hid (by rw [Hd.out]; simp)
        clear Hd
        go_wp2_with fail
        go_roundw
        case rel => exact ⟨i' + 1, by omega, by go_num, by rw [hE2.out]; exact HO3.out, HB3.out⟩
        case measure => simp [intOf]; omega
      | some b =>
        have hE2 : Hid (M2 ++ podsU ns ps os p k (i' + 1) = M ++ [((k : Int), (i' : Int), 0, (b : Int))]) := Hd
        clear Hd
        go_wp2_with (at_builtin; refine wpList_append_own _ rfl _ _ 48 rfl W.heap.size 47 i0 (.agg #[.int .i64 0, .int .i64 0, .int .i64 0, .int .i64 0]) 4 32 Tryz.underlying48 hi0 hz0 hz1 hz2 rfl (by decide) _ _ _ rfl (show World.ownsRow _ _ _ _ _ _ _ from HO3.out.alloc _) ⟨w3.heap.size, 0, none⟩ 1 1 [.int .i64 (k : Int), .int .i64 (i' : Int), .int .i64 0, .int .i64 (b : Int)] rfl rfl ?c1p ?c2p ?c3p ?c4p ?c5p ?_)
        case c1p =>
          intro j u hj
          match j, hj with
          | 0, hj => simp at hj; subst hj; simp [Addr.add]
          | 1, hj => simp at hj; subst hj; simp [Addr.add]
          | 2, hj => simp at hj; subst hj; simp [Addr.add]
          | 3, hj => simp at hj; subst hj; simp [Addr.add]
        case c2p => first | rfl | (intro u hu; simp at hu; rcases hu with rfl | rfl | rfl | rfl <;> rfl)
        case c3p => unfold maxLen; omega
        case c4p => omega
        case c5p => have := HB3.out.size; simp; omega
        intro v4 w4 hown4 hgrow4 _
        have P4 := Lib.hid hown4
        have D4 := Lib.hid ((HB3.out.alloc HB3.out.size (.cells #[.int .i64 (k : Int), .int .i64 (i' : Int), .int .i64 0, .int .i64 (b : Int)] 47)).grown hgrow4 (by have := HB3.out.size; simp; omega) (fun j hj => own_gem HO3.out hj))
        clear hown4 hgrow4
        go_wp2_with fail
        go_roundw
        case rel =>
          refine ⟨i' + 1, by omega, by go_num, ?_, D4.out⟩
          rw [hE2.out, List.length_append, cells4_snoc]
          exact P4.out
        case measure => simp [intOf]; omega
end Go.Proofs.YtpdaohkpgconkaaGreat

namespace Go.Proofs.YtpdaohkpgconkaaGreat
open Go.RowKit

set_option maxRecDepth 100000 in
set_option maxHeartbeats 8000000 in
theorem find9_any (A : Option Addr) (ca : Nat) (l : List ClT) (c : ClT) (w : World) (hl : l.length ≤ 1000) (ha : La.SlAt w A (cells4 l)) :
    Calls Tryz.prog 58 #[.slice A l.length ca, clV c] w fun e w' => e = .returned (.int .i64 ((findC l c.1 c.2.1 c.2.2.1).getD 0)) ∧ Below w.heap.size w w' := by
  have B0 : Hid (Below w.heap.size w (w.alloc (.cells #[.int .i64 c.1, .int .i64 c.2.1, .int .i64 c.2.2.1, .int .i64 c.2.2.2] 47))) := Lib.hid (below1 w _)
  have Q0 : Hid (Blk (w.alloc (.cells #[.int .i64 c.1, .int .i64 c.2.1, .int .i64 c.2.2.1, .int .i64 c.2.2.2] 47)) w.heap.size #[.int .i64 c.1, .int .i64 c.2.1, .int .i64 c.2.2.1, .int .i64 c.2.2.2] 47) := Lib.hid (Blk.new w _ _)
  have O1 := Lib.hid (La.SlAt.below ha B0.out)
  have EA : Hid (∀ (k : Nat) (y : ClT), l[k]? = some y → isC c.1 c.2.1 c.2.2.1 y = true → (∀ (j : Nat) (z : ClT), j < k → l[j]? = some z → isC c.1 c.2.1 c.2.2.1 z = false) → findC l c.1 c.2.1 c.2.2.1 = some y.2.2.2) := Lib.hid (fun k y h1 h2 h3 => findC_at h1 h2 h3)
  have EN : Hid ((∀ (j : Nat) (z : ClT), l[j]? = some z → isC c.1 c.2.1 c.2.2.1 z = false) → findC l c.1 c.2.1 c.2.2.1 = none) := Lib.hid (fun h => findC_no h)
  generalize findC l c.1 c.2.1 c.2.2.1 = R at EA EN ⊢
  clear ha
  go_enter Tryz.func58, Tryz.ntmps58
  go_upto_region 1 with fail
  try change Code.wp _ _ _ _ (w.alloc (.cells #[.int .i64 c.1, .int .i64 c.2.1, .int .i64 c.2.2.1, .int .i64 c.2.2.2] 47))
  generalize (w.alloc (.cells #[.int .i64 c.1, .int .i64 c.2.1, .int .i64 c.2.2.1, .int .i64 c.2.2.2] 47)) = W at B0 Q0 O1 ⊢
  go_wp2_with fail
  go_loopw [5] (fun i wr => ∃ k : Nat, k ≤ l.length ∧ i = .int .i64 k ∧ (∀ (j : Nat) (z : ClT), j < k → l[j]? = some z → isC c.1 c.2.1 c.2.2.1 z = false) ∧ Below W.heap.size W wr) (fun i _ => l.length - (intOf i).toNat)
  case atStart => exact ⟨0, by omega, rfl, fun j z h => by omega, Below.refl _ _⟩
  case round =>
    obtain ⟨k, hk, rfl, hn, hb⟩ := hrel
    have HN := Lib.hid hn
    have HB := Lib.hid hb
    clear hn hb
    by_cases hlt : k < l.length
    case neg =>
      obtain rfl : k = l.length := by omega
      have HE := Lib.hid (EN.out (fun j z hz => HN.out j z (List.getElem?_eq_some_iff.1 hz).1 hz))
      go_wp2
      go_ret
      rw [HE.out]
      exact ⟨rfl, B0.out.trans (HB.out.mono B0.out.size)⟩
    obtain ⟨y, hy⟩ : ∃ y, l[k]? = some y := ⟨l[k], List.getElem?_eq_getElem hlt⟩
    obtain ⟨g, o, hG, hbl, c0, c1, c2, c3⟩ := atC (La.SlAt.below O1.out HB.out) hy
    subst hG
    have q0 : wr.cell? ⟨w.heap.size, 0, none⟩ = some (.int .i64 c.1) := Blk.cell (Q0.out.below HB.out Q0.out.lt) 0
    have q1 : wr.cell? ⟨w.heap.size, 1, none⟩ = some (.int .i64 c.2.1) := Blk.cell (Q0.out.below HB.out Q0.out.lt) 1
    have q2 : wr.cell? ⟨w.heap.size, 2, none⟩ = some (.int .i64 c.2.2.1) := Blk.cell (Q0.out.below HB.out Q0.out.lt) 2
    have k0 : (0 : Int) ≤ (k : Int) := by omega
    have k1 : (k : Int) < (l.length : Int) := by omega
    have HY := Lib.hid hy
    have go : Hid (isC c.1 c.2.1 c.2.2.1 y = false → ∀ (j : Nat) (z : ClT), j < k + 1 → l[j]? = some z → isC c.1 c.2.1 c.2.2.1 z = false) := Lib.hid (fun h1 j z hj hz => by
      by_cases hjk : j = k
      · subst hjk
        rw [HY.out] at hz
        cases hz
        exact h1
      · exact HN.out j z (by omega) hz)
    clear hy
    go_upto_region 4 with fail
    by_cases h1 : y.1 = c.1
    case neg =>
      have h1b : (y.1 == c.1) = false := by simpa using h1
      have HF := Lib.hid (go.out (decide_eq_false (fun h => h1 h.1)))
      clear h1 go
      go_quiet (fail)
      go_wp2_with fail
      go_roundw
      case rel => exact ⟨k + 1, by omega, by go_num, HF.out, below_drewN HB.out _⟩
      case measure => simp [intOf]; omega
    have h1b : (y.1 == c.1) = true := by simpa using h1
    by_cases h2 : y.2.1 = c.2.1
    case neg =>
      have h2b : (y.2.1 == c.2.1) = false := by simpa using h2
      have HF := Lib.hid (go.out (decide_eq_false (fun h => h2 h.2.1)))
      clear h1 h2 go
      go_quiet (fail)
      go_wp2_with fail
      go_roundw
      case rel => exact ⟨k + 1, by omega, by go_num, HF.out, below_drewN HB.out _⟩
      case measure => simp [intOf]; omega
    have h2b : (y.2.1 == c.2.1) = true := by simpa using h2
    by_cases h3 : y.2.2.1 = c.2.2.1
    case neg =>
      have h3b : (y.2.2.1 == c.2.2.1) = false := by simpa using h3
      have HF := Lib.hid (go.out (decide_eq_false (fun h => h3 h.2.2)))
      clear h1 h2 h3 go
      go_quiet (fail)
      go_wp2_with fail
      go_roundw
      case rel => exact ⟨k + 1, by omega, by go_num, HF.out, below_drewN HB.out _⟩
      case measure => simp [intOf]; omega
    have h3b : (y.2.2.1 == c.2.2.1) = true := by simpa using h3
    have HF := Lib.hid (EA.out k y HY.out (decide_eq_true ⟨h1, h2, h3⟩) HN.out)
    clear h1 h2 h3 go
    go_quiet (fail)
    go_wp2
    go_ret
    rw [HF.out]
    exact ⟨rfl, B0.out.trans ((below_drewN HB.out _).mono B0.out.size)⟩
end Go.Proofs.YtpdaohkpgconkaaGreat
