/- An argument that is a cluster, opened: what stands in memory. No conditions of its own. A cluster of which the first 12 nodes, 30 pods, 12 owners are looked at. Condition: it lies in memory. What Bring answers: a number brought between 0 and another one, as the rest of the division is. Condition: that one is above 0. A placement that may be, made out of numbers: the contract of fitted. Condition: the cluster and the numbers lie in memory. Steps there and back, and the moves between two placements, taken one after another: numbers only. Conditions: the placements may be. What the nodes' pods ask for, added up, is what the pods that run ask for; what is counted on the nodes is what runs: numbers only. Conditions: each pod is on one of the nodes or waits. What is counted in the domains is no more than what is counted: numbers and keys only. Conditions: the pods are on nodes that there are. Which values nodes have for a key, as the document says it. Contracts, and what of it is the program's. Condition: the cluster lies in memory. All values that nodes have for a key, rising, as the document says it: a list into which each is put where it belongs, and that it is the keys of a map, sorted. Condition: the cluster lies in memory. Two rows added, as a machine adds: the contract of total. No conditions. What Counts, Spread and Placed tell of one owner: numbers only. Condition: the placement may be. What the pods of a node ask for, as the document says it: contracts. Condition: the cluster and the numbers lie in memory. Used, Counts and Placed as the document says them: contracts. Condition: the cluster and the numbers lie in memory. Counts and Placed as the document says them: contracts. Condition: the cluster and the numbers lie in memory. -/
import Derived.Test.YtfpbdfagcfdbbaaGreatC06
import Derived.Deep.Slices
import Derived.StillTailTactics
import Derived.Laws.AppendOwnNone

namespace Go.Proofs.YtfpbdfagcfdbbaaGreat
open Go.ChangeShapes Go.WideShapes Go.ChangeAt Go.RowKit Go.Deep

theorem kcStr : Tryz.prog.cellsOf 9 = 1 := by kernel_rfl
theorem kcInt : Tryz.prog.cellsOf 3 = 1 := by kernel_rfl
theorem kcBool : Tryz.prog.cellsOf 4 = 1 := by kernel_rfl
theorem kcVec : Tryz.prog.cellsOf 60 = 5 := by kernel_rfl
theorem kcLabs : Tryz.prog.cellsOf 58 = 1 := by kernel_rfl
theorem kcTers : Tryz.prog.cellsOf 65 = 1 := by kernel_rfl
theorem kcNear : Tryz.prog.cellsOf 67 = 2 := by kernel_rfl
theorem kcLab : Tryz.prog.cellsOf 57 = 2 := by kernel_rfl
theorem kcTer : Tryz.prog.cellsOf 64 = 3 := by kernel_rfl
theorem kcNode : Tryz.prog.cellsOf 62 = 10 := by kernel_rfl
theorem kcPod : Tryz.prog.cellsOf 69 = 15 := by kernel_rfl
theorem kcOwner : Tryz.prog.cellsOf 53 = 5 := by kernel_rfl
theorem kcNodes : Tryz.prog.cellsOf 22 = 1 := by kernel_rfl
theorem kcPods : Tryz.prog.cellsOf 23 = 1 := by kernel_rfl
theorem kcOwners : Tryz.prog.cellsOf 24 = 1 := by kernel_rfl
theorem kcSnap : Tryz.prog.cellsOf 26 = 3 := by kernel_rfl
theorem kmax {n : Nat} (h : n ≤ maxLen) : n ≤ 9223372036854775807 := by unfold maxLen at h; omega

/-- Where a cell of a list of rows stands. -/
theorem flat_at {T : Type} (f : T → List Value) (k : Nat) (hf : ∀ y, (f y).length = k) : ∀ (l : List T) (j : Nat) (y : Value), (l.flatMap f)[j]? = some y → ∃ i r x, l[i]? = some x ∧ r < k ∧ j = i * k + r ∧ (f x)[r]? = some y
  | [], j, y, h => by simp at h
  | x :: t, j, y, h => by
    rw [List.flatMap_cons] at h
    by_cases hj : j < k
    · rw [List.getElem?_append_left (by rw [hf]; exact hj)] at h
      exact ⟨0, j, x, rfl, hj, by omega, h⟩
    · rw [List.getElem?_append_right (by rw [hf]; omega), hf] at h
      obtain ⟨i, r, z, h1, h2, h3, h4⟩ := flat_at f k hf t (j - k) y h
      refine ⟨i + 1, r, z, by simpa using h1, h2, ?_, h4⟩
      rw [Nat.succ_mul]
      omega

/-- A slice of rows, opened. -/
theorem slice_cells {H : Type} {enc : TypeId × Value → H} {W : World} {held : Bool} {T : Type} (f : T → List Value) (k : Nat) (Good : T → Prop) {t e : TypeId} (ht : Tryz.prog.underlying t = some (.slice e)) (hk : Tryz.prog.cellsOf e = k) (hpos : 0 < k) (hf : ∀ y, (f y).length = k)
    (hel : ∀ n cs x, DataW.trod enc Tryz.prog W 0 (fun _ => true) held n e cs = some x → ∃ y : T, cs = f y ∧ Good y) {fuel : Nat} {cs : List Value} {x : DataW H × List MemPlace} (h : DataW.trod enc Tryz.prog W 0 (fun _ => true) held fuel t cs = some x) :
    ∃ (A : Option Addr) (cap : Nat) (l : List T), cs = [.slice A l.length cap] ∧ La.SlAt W A (l.flatMap f) ∧ l.length ≤ cap ∧ cap ≤ maxLen ∧ ∀ y ∈ l, Good y := by
  rcases open_slice ht h with ⟨rfl, _⟩ | ⟨a, len, cap, m, n, D, Pl, rfl, _, hl, hm, hmm, _, hx⟩
  · exact ⟨none, 0, [], rfl, fun j y hj => by simp at hj, by simp, by simp, fun x hx => by simp at hx⟩
  · simp only [if_true] at hmm
    subst hmm
    rw [hk] at hx
    rcases Nat.eq_zero_or_pos len with hz | hz
    · subst hz
      exact ⟨some a, m, [], rfl, fun j y hj => by simp at hj, by simp, hm, fun x hx => by simp at hx⟩
    have hne : Nonempty T := by
      obtain ⟨cs', h1, h2⟩ := hx 0 (by omega)
      obtain ⟨y, _⟩ := hel _ _ _ h2
      exact ⟨y⟩
    have hinh : Inhabited T := Classical.inhabited_of_nonempty hne
    obtain ⟨L, hL⟩ := choose_lt (α := T) (p := fun i y => (∀ r v, (f y)[r]? = some v → W.cell? ((a.add (i * k)).add r) = some v) ∧ Good y) (n := len) (fun i hi => by
      obtain ⟨cs', h1, h2⟩ := hx i (by omega)
      obtain ⟨y, e, hg⟩ := hel _ _ _ h2
      subst e
      obtain ⟨_, _, hc⟩ := World.cells?_some h1
      refine ⟨y, fun r v hv => ?_, hg⟩
      have hr : r < k := by
        have := (List.getElem?_eq_some_iff.1 hv).1
        rwa [hf] at this
      rw [hc r hr]
      exact hv)
    refine ⟨some a, m, (List.range len).map L, by simp, ?_, by simpa using hl, hm, ?_⟩
    · rcases Nat.eq_zero_or_pos len with h0 | hp
      · subst h0
        exact fun j y hj => by simp at hj
      · obtain ⟨b, off, spot⟩ := a
        have hspot : spot = none := by
          have h9 : 0 < (f (L 0)).length := by rw [hf]; exact hpos
          have := (hL 0 hp).1 0 _ (List.getElem?_eq_getElem h9)
          simpa [Addr.add] using World.cell?_spot this
        subst hspot
        intro j y hj
        obtain ⟨i, r, z, h1, h2, h3, h4⟩ := flat_at f k hf _ j y hj
        have hil : i < len := by
          have := (List.getElem?_eq_some_iff.1 h1).1
          simpa using this
        rw [List.getElem?_map, List.getElem?_range hil] at h1
        simp only [Option.map_some, Option.some.injEq] at h1
        subst h1
        have hc := (hL i hil).1 r y h4
        rw [WideShapes.add_plain, WideShapes.add_plain] at hc
        refine ⟨b, off, rfl, ?_⟩
        rw [h3, ← Nat.add_assoc]
        exact hc
    · intro y hy
      obtain ⟨i, hi, rfl⟩ := List.mem_map.1 hy
      exact (hL i (List.mem_range.1 hi)).2

section
variable {H : Type} {enc : TypeId × Value → H} {W : World} {held : Bool}

theorem str_one {n : Nat} {c : Value} {x : DataW H × List MemPlace} (h : DataW.trod enc Tryz.prog W 0 (fun _ => true) held n 9 [c] = some x) : ∃ s : List UInt8, c = strV s ∧ s.length ≤ maxLen := by
  obtain ⟨s, e, _, m⟩ := DataW.trod_string Tryz.underlying9 h
  simp only [List.cons.injEq, and_true] at e
  exact ⟨s.data.toList, e, m⟩
theorem int_one {n : Nat} {c : Value} {x : DataW H × List MemPlace} (h : DataW.trod enc Tryz.prog W 0 (fun _ => true) held n 3 [c] = some x) : ∃ k : Int, c = .int .i64 k := by
  obtain ⟨s, e, _, m⟩ := DataW.trod_int Tryz.underlying3 h
  simp only [List.cons.injEq, and_true] at e
  exact ⟨s, e⟩
theorem bool_one {n : Nat} {c : Value} {x : DataW H × List MemPlace} (h : DataW.trod enc Tryz.prog W 0 (fun _ => true) held n 4 [c] = some x) : ∃ k : Bool, c = .bool k := by
  obtain ⟨s, e, _⟩ := DataW.trod_bool Tryz.underlying4 h
  simp only [List.cons.injEq, and_true] at e
  exact ⟨s, e⟩
set_option maxRecDepth 100000 in
theorem vec_one {n : Nat} {c0 c1 c2 c3 c4 : Value} {x : DataW H × List MemPlace} (h : DataW.trod enc Tryz.prog W 0 (fun _ => true) held n 60 [c0, c1, c2, c3, c4] = some x) : ∃ r : Nat → Int, c0 = .int .i64 (r 0) ∧ c1 = .int .i64 (r 1) ∧ c2 = .int .i64 (r 2) ∧ c3 = .int .i64 (r 3) ∧ c4 = .int .i64 (r 4) := by
  obtain ⟨xs, m, _, _, hl, hxl, hf⟩ := DataW.trod_array Tryz.underlying60 h
  match xs, hxl with
  | [x0, x1, x2, x3, x4], _ =>
    have h0 := hf 0 (by omega)
    have h1 := hf 1 (by omega)
    have h2 := hf 2 (by omega)
    have h3 := hf 3 (by omega)
    have h4 := hf 4 (by omega)
    rw [kcInt] at h0 h1 h2 h3 h4
    obtain ⟨a0, e0⟩ := int_one (enc := enc) (W := W) (held := held) (n := m) (c := c0) (x := x0) h0
    obtain ⟨a1, e1⟩ := int_one (enc := enc) (W := W) (held := held) (n := m) (c := c1) (x := x1) h1
    obtain ⟨a2, e2⟩ := int_one (enc := enc) (W := W) (held := held) (n := m) (c := c2) (x := x2) h2
    obtain ⟨a3, e3⟩ := int_one (enc := enc) (W := W) (held := held) (n := m) (c := c3) (x := x3) h3
    obtain ⟨a4, e4⟩ := int_one (enc := enc) (W := W) (held := held) (n := m) (c := c4) (x := x4) h4
    exact ⟨fun k => match k with | 0 => a0 | 1 => a1 | 2 => a2 | 3 => a3 | _ => a4, e0, e1, e2, e3, e4⟩
set_option maxRecDepth 100000 in
theorem lab_row (n : Nat) (cs : List Value) (x : DataW H × List MemPlace) (h : DataW.trod enc Tryz.prog W 0 (fun _ => true) held n 57 cs = some x) : ∃ y : L2, cs = [strV y.1, strV y.2] ∧ (y.1.length ≤ 9223372036854775807 ∧ y.2.length ≤ 9223372036854775807) := by
  obtain ⟨xs, m, _, _, hl, hxl, hf⟩ := DataW.trod_struct Tryz.underlying57 h
  rw [kcLab] at hl
  match cs, hl, xs, hxl with
  | [c0, c1], _, [y0, y1], _ =>
    have h0 : DataW.trod enc Tryz.prog W 0 (fun _ => true) held m 9 ((([c0, c1] : List Value).drop 0).take (Tryz.prog.cellsOf 9)) = some y0 := hf 0 _ rfl
    have h1 : DataW.trod enc Tryz.prog W 0 (fun _ => true) held m 9 ((([c0, c1] : List Value).drop 1).take (Tryz.prog.cellsOf 9)) = some y1 := hf 1 _ rfl
    rw [kcStr] at h0 h1
    obtain ⟨s0, e0, m0⟩ := str_one (enc := enc) (W := W) (held := held) (n := m) (c := c0) (x := y0) h0
    obtain ⟨s1, e1, m1⟩ := str_one (enc := enc) (W := W) (held := held) (n := m) (c := c1) (x := y1) h1
    exact ⟨(s0, s1), by rw [e0, e1], kmax m0, kmax m1⟩
set_option maxRecDepth 100000 in
theorem ter_row (n : Nat) (cs : List Value) (x : DataW H × List MemPlace) (h : DataW.trod enc Tryz.prog W 0 (fun _ => true) held n 64 cs = some x) : ∃ y : T3, cs = [.int .i64 y.1, strV y.2.1, strV y.2.2] ∧ (y.2.1.length ≤ 9223372036854775807 ∧ y.2.2.length ≤ 9223372036854775807) := by
  obtain ⟨xs, m, _, _, hl, hxl, hf⟩ := DataW.trod_struct Tryz.underlying64 h
  rw [kcTer] at hl
  match cs, hl, xs, hxl with
  | [c0, c1, c2], _, [y0, y1, y2], _ =>
    have h0 : DataW.trod enc Tryz.prog W 0 (fun _ => true) held m 3 ((([c0, c1, c2] : List Value).drop 0).take (Tryz.prog.cellsOf 3)) = some y0 := hf 0 _ rfl
    have h1 : DataW.trod enc Tryz.prog W 0 (fun _ => true) held m 9 ((([c0, c1, c2] : List Value).drop 1).take (Tryz.prog.cellsOf 9)) = some y1 := hf 1 _ rfl
    have h2 : DataW.trod enc Tryz.prog W 0 (fun _ => true) held m 9 ((([c0, c1, c2] : List Value).drop 2).take (Tryz.prog.cellsOf 9)) = some y2 := hf 2 _ rfl
    rw [kcInt] at h0
    rw [kcStr] at h1 h2
    obtain ⟨k, e0⟩ := int_one (enc := enc) (W := W) (held := held) (n := m) (c := c0) (x := y0) h0
    obtain ⟨s1, e1, m1⟩ := str_one (enc := enc) (W := W) (held := held) (n := m) (c := c1) (x := y1) h1
    obtain ⟨s2, e2, m2⟩ := str_one (enc := enc) (W := W) (held := held) (n := m) (c := c2) (x := y2) h2
    exact ⟨(k, s1, s2), by rw [e0, e1, e2], kmax m1, kmax m2⟩
theorem labs_one {n : Nat} {c : Value} {x : DataW H × List MemPlace} (h : DataW.trod enc Tryz.prog W 0 (fun _ => true) held n 58 [c] = some x) : ∃ A cap l, c = .slice A (List.length l) cap ∧ ListL W A cap l := by
  obtain ⟨A, cap, l, e, hs, h1, h2, hg⟩ := slice_cells (T := L2) (fun y => [strV y.1, strV y.2]) 2 _ Tryz.underlying58 kcLab (by omega) (fun _ => rfl) (fun n cs x h => lab_row n cs x h) h
  simp only [List.cons.injEq, and_true] at e
  exact ⟨A, cap, l, e, h1, kmax h2, hs, hg⟩
theorem ters_one {n : Nat} {c : Value} {x : DataW H × List MemPlace} (h : DataW.trod enc Tryz.prog W 0 (fun _ => true) held n 65 [c] = some x) : ∃ A cap l, c = .slice A (List.length l) cap ∧ ListT W A cap l := by
  obtain ⟨A, cap, l, e, hs, h1, h2, hg⟩ := slice_cells (T := T3) (fun y => [.int .i64 y.1, strV y.2.1, strV y.2.2]) 3 _ Tryz.underlying65 kcTer (by omega) (fun _ => rfl) (fun n cs x h => ter_row n cs x h) h
  simp only [List.cons.injEq, and_true] at e
  exact ⟨A, cap, l, e, h1, kmax h2, hs, hg⟩
set_option maxRecDepth 100000 in
theorem near_one {n : Nat} {c0 c1 : Value} {x : DataW H × List MemPlace} (h : DataW.trod enc Tryz.prog W 0 (fun _ => true) held n 67 [c0, c1] = some x) : ∃ s A cap l, c0 = strV s ∧ s.length ≤ 9223372036854775807 ∧ c1 = .slice A (List.length l) cap ∧ ListT W A cap l := by
  obtain ⟨xs, m, _, _, hl, hxl, hf⟩ := DataW.trod_struct Tryz.underlying67 h
  match xs, hxl with
  | [y0, y1], _ =>
    have h0 : DataW.trod enc Tryz.prog W 0 (fun _ => true) held m 9 ((([c0, c1] : List Value).drop 0).take (Tryz.prog.cellsOf 9)) = some y0 := hf 0 _ rfl
    have h1 : DataW.trod enc Tryz.prog W 0 (fun _ => true) held m 65 ((([c0, c1] : List Value).drop 1).take (Tryz.prog.cellsOf 65)) = some y1 := hf 1 _ rfl
    rw [kcStr] at h0
    rw [kcTers] at h1
    obtain ⟨s, e0, m0⟩ := str_one (enc := enc) (W := W) (held := held) (n := m) (c := c0) (x := y0) h0
    obtain ⟨A, cap, l, e1, hL⟩ := ters_one (enc := enc) (W := W) (held := held) (n := m) (c := c1) (x := y1) h1
    exact ⟨s, A, cap, l, e0, kmax m0, e1, hL⟩
set_option maxRecDepth 100000 in
theorem node_row (n : Nat) (cs : List Value) (x : DataW H × List MemPlace) (h : DataW.trod enc Tryz.prog W 0 (fun _ => true) held n 62 cs = some x) : ∃ y : NodeD, cs = [strV y.name, .int .i64 (y.cap 0), .int .i64 (y.cap 1), .int .i64 (y.cap 2), .int .i64 (y.cap 3), .int .i64 (y.cap 4), .slice y.al y.labels.length y.cl, .slice y.at_ y.taints.length y.ct, .bool y.cordon, .bool y.lost] ∧ y.fit W := by
  obtain ⟨xs, m, _, _, hl, hxl, hf⟩ := DataW.trod_struct Tryz.underlying62 h
  rw [kcNode] at hl
  match cs, hl, xs, hxl with
  | [c0, c1, c2, c3, c4, c5, c6, c7, c8, c9], _, [y0, y1, y2, y3, y4, y5], _ =>
    have h0 : DataW.trod enc Tryz.prog W 0 (fun _ => true) held m 9 ((([c0, c1, c2, c3, c4, c5, c6, c7, c8, c9] : List Value).drop 0).take (Tryz.prog.cellsOf 9)) = some y0 := hf 0 _ rfl
    have h1 : DataW.trod enc Tryz.prog W 0 (fun _ => true) held m 60 ((([c0, c1, c2, c3, c4, c5, c6, c7, c8, c9] : List Value).drop 1).take (Tryz.prog.cellsOf 60)) = some y1 := hf 1 _ rfl
    have h2 : DataW.trod enc Tryz.prog W 0 (fun _ => true) held m 58 ((([c0, c1, c2, c3, c4, c5, c6, c7, c8, c9] : List Value).drop 6).take (Tryz.prog.cellsOf 58)) = some y2 := hf 2 _ rfl
    have h3 : DataW.trod enc Tryz.prog W 0 (fun _ => true) held m 58 ((([c0, c1, c2, c3, c4, c5, c6, c7, c8, c9] : List Value).drop 7).take (Tryz.prog.cellsOf 58)) = some y3 := hf 3 _ rfl
    have h4 : DataW.trod enc Tryz.prog W 0 (fun _ => true) held m 4 ((([c0, c1, c2, c3, c4, c5, c6, c7, c8, c9] : List Value).drop 8).take (Tryz.prog.cellsOf 4)) = some y4 := hf 4 _ rfl
    have h5 : DataW.trod enc Tryz.prog W 0 (fun _ => true) held m 4 ((([c0, c1, c2, c3, c4, c5, c6, c7, c8, c9] : List Value).drop 9).take (Tryz.prog.cellsOf 4)) = some y5 := hf 5 _ rfl
    rw [kcStr] at h0
    rw [kcVec] at h1
    rw [kcLabs] at h2 h3
    rw [kcBool] at h4 h5
    obtain ⟨s, e0, m0⟩ := str_one (enc := enc) (W := W) (held := held) (n := m) (c := c0) (x := y0) h0
    obtain ⟨r, e1, e2, e3, e4, e5⟩ := vec_one (enc := enc) (W := W) (held := held) (n := m) (c0 := c1) (c1 := c2) (c2 := c3) (c3 := c4) (c4 := c5) (x := y1) h1
    obtain ⟨A1, k1, l1, e6, hL1⟩ := labs_one (enc := enc) (W := W) (held := held) (n := m) (c := c6) (x := y2) h2
    obtain ⟨A2, k2, l2, e7, hL2⟩ := labs_one (enc := enc) (W := W) (held := held) (n := m) (c := c7) (x := y3) h3
    obtain ⟨b8, e8⟩ := bool_one (enc := enc) (W := W) (held := held) (n := m) (c := c8) (x := y4) h4
    obtain ⟨b9, e9⟩ := bool_one (enc := enc) (W := W) (held := held) (n := m) (c := c9) (x := y5) h5
    exact ⟨{ name := s, cap := r, labels := l1, taints := l2, cordon := b8, lost := b9, al := A1, cl := k1, at_ := A2, ct := k2 }, by rw [e0, e1, e2, e3, e4, e5, e6, e7, e8, e9], hL1, hL2, kmax m0⟩
set_option maxRecDepth 100000 in
theorem pod_row (n : Nat) (cs : List Value) (x : DataW H × List MemPlace) (h : DataW.trod enc Tryz.prog W 0 (fun _ => true) held n 69 cs = some x) : ∃ y : PodD, cs = [strV y.name, strV y.owner, .int .i64 (y.req 0), .int .i64 (y.req 1), .int .i64 (y.req 2), .int .i64 (y.req 3), .int .i64 (y.req 4), .slice y.al y.labels.length y.cl, .slice y.aw y.whr.length y.cw, .slice y.ab y.bears.length y.cb, strV y.wt, .slice y.awt y.wtm.length y.cwt, strV y.ap, .slice y.aap y.apm.length y.cap, strV y.on] ∧ y.fit W := by
  obtain ⟨xs, m, _, _, hl, hxl, hf⟩ := DataW.trod_struct Tryz.underlying69 h
  rw [kcPod] at hl
  match cs, hl, xs, hxl with
  | [c0, c1, c2, c3, c4, c5, c6, c7, c8, c9, c10, c11, c12, c13, c14], _, [y0, y1, y2, y3, y4, y5, y6, y7, y8], _ =>
    have h0 : DataW.trod enc Tryz.prog W 0 (fun _ => true) held m 9 ((([c0, c1, c2, c3, c4, c5, c6, c7, c8, c9, c10, c11, c12, c13, c14] : List Value).drop 0).take (Tryz.prog.cellsOf 9)) = some y0 := hf 0 _ rfl
    have h1 : DataW.trod enc Tryz.prog W 0 (fun _ => true) held m 9 ((([c0, c1, c2, c3, c4, c5, c6, c7, c8, c9, c10, c11, c12, c13, c14] : List Value).drop 1).take (Tryz.prog.cellsOf 9)) = some y1 := hf 1 _ rfl
    have h2 : DataW.trod enc Tryz.prog W 0 (fun _ => true) held m 60 ((([c0, c1, c2, c3, c4, c5, c6, c7, c8, c9, c10, c11, c12, c13, c14] : List Value).drop 2).take (Tryz.prog.cellsOf 60)) = some y2 := hf 2 _ rfl
    have h3 : DataW.trod enc Tryz.prog W 0 (fun _ => true) held m 58 ((([c0, c1, c2, c3, c4, c5, c6, c7, c8, c9, c10, c11, c12, c13, c14] : List Value).drop 7).take (Tryz.prog.cellsOf 58)) = some y3 := hf 3 _ rfl
    have h4 : DataW.trod enc Tryz.prog W 0 (fun _ => true) held m 65 ((([c0, c1, c2, c3, c4, c5, c6, c7, c8, c9, c10, c11, c12, c13, c14] : List Value).drop 8).take (Tryz.prog.cellsOf 65)) = some y4 := hf 4 _ rfl
    have h5 : DataW.trod enc Tryz.prog W 0 (fun _ => true) held m 58 ((([c0, c1, c2, c3, c4, c5, c6, c7, c8, c9, c10, c11, c12, c13, c14] : List Value).drop 9).take (Tryz.prog.cellsOf 58)) = some y5 := hf 5 _ rfl
    have h6 : DataW.trod enc Tryz.prog W 0 (fun _ => true) held m 67 ((([c0, c1, c2, c3, c4, c5, c6, c7, c8, c9, c10, c11, c12, c13, c14] : List Value).drop 10).take (Tryz.prog.cellsOf 67)) = some y6 := hf 6 _ rfl
    have h7 : DataW.trod enc Tryz.prog W 0 (fun _ => true) held m 67 ((([c0, c1, c2, c3, c4, c5, c6, c7, c8, c9, c10, c11, c12, c13, c14] : List Value).drop 12).take (Tryz.prog.cellsOf 67)) = some y7 := hf 7 _ rfl
    have h8 : DataW.trod enc Tryz.prog W 0 (fun _ => true) held m 9 ((([c0, c1, c2, c3, c4, c5, c6, c7, c8, c9, c10, c11, c12, c13, c14] : List Value).drop 14).take (Tryz.prog.cellsOf 9)) = some y8 := hf 8 _ rfl
    rw [kcStr] at h0 h1 h8
    rw [kcVec] at h2
    rw [kcLabs] at h3 h5
    rw [kcTers] at h4
    rw [kcNear] at h6 h7
    obtain ⟨s0, e0, m0⟩ := str_one (enc := enc) (W := W) (held := held) (n := m) (c := c0) (x := y0) h0
    obtain ⟨s1, e1, m1⟩ := str_one (enc := enc) (W := W) (held := held) (n := m) (c := c1) (x := y1) h1
    obtain ⟨r, e2, e3, e4, e5, e6⟩ := vec_one (enc := enc) (W := W) (held := held) (n := m) (c0 := c2) (c1 := c3) (c2 := c4) (c3 := c5) (c4 := c6) (x := y2) h2
    obtain ⟨A1, k1, l1, e7, hL1⟩ := labs_one (enc := enc) (W := W) (held := held) (n := m) (c := c7) (x := y3) h3
    obtain ⟨A2, k2, l2, e8, hL2⟩ := ters_one (enc := enc) (W := W) (held := held) (n := m) (c := c8) (x := y4) h4
    obtain ⟨A3, k3, l3, e9, hL3⟩ := labs_one (enc := enc) (W := W) (held := held) (n := m) (c := c9) (x := y5) h5
    obtain ⟨s4, A4, k4, l4, e10, m4, e11, hL4⟩ := near_one (enc := enc) (W := W) (held := held) (n := m) (c0 := c10) (c1 := c11) (x := y6) h6
    obtain ⟨s5, A5, k5, l5, e12, m5, e13, hL5⟩ := near_one (enc := enc) (W := W) (held := held) (n := m) (c0 := c12) (c1 := c13) (x := y7) h7
    obtain ⟨s6, e14, m6⟩ := str_one (enc := enc) (W := W) (held := held) (n := m) (c := c14) (x := y8) h8
    exact ⟨{ name := s0, owner := s1, req := r, labels := l1, whr := l2, bears := l3, wt := s4, wtm := l4, ap := s5, apm := l5, on := s6, al := A1, cl := k1, aw := A2, cw := k2, ab := A3, cb := k3, awt := A4, cwt := k4, aap := A5, cap := k5 }, by rw [e0, e1, e2, e3, e4, e5, e6, e7, e8, e9, e10, e11, e12, e13, e14], hL1, hL2, hL3, hL4, hL5, kmax m0, kmax m1, m4, m5, kmax m6⟩
set_option maxRecDepth 100000 in
theorem owner_row (n : Nat) (cs : List Value) (x : DataW H × List MemPlace) (h : DataW.trod enc Tryz.prog W 0 (fun _ => true) held n 53 cs = some x) : ∃ y : OwnD, cs = [strV y.name, .int .i64 y.min, strV y.topo, .int .i64 y.skew, .bool y.single] ∧ y.fit := by
  obtain ⟨xs, m, _, _, hl, hxl, hf⟩ := DataW.trod_struct Tryz.underlying53 h
  rw [kcOwner] at hl
  match cs, hl, xs, hxl with
  | [c0, c1, c2, c3, c4], _, [y0, y1, y2, y3, y4], _ =>
    have h0 : DataW.trod enc Tryz.prog W 0 (fun _ => true) held m 9 ((([c0, c1, c2, c3, c4] : List Value).drop 0).take (Tryz.prog.cellsOf 9)) = some y0 := hf 0 _ rfl
    have h1 : DataW.trod enc Tryz.prog W 0 (fun _ => true) held m 3 ((([c0, c1, c2, c3, c4] : List Value).drop 1).take (Tryz.prog.cellsOf 3)) = some y1 := hf 1 _ rfl
    have h2 : DataW.trod enc Tryz.prog W 0 (fun _ => true) held m 9 ((([c0, c1, c2, c3, c4] : List Value).drop 2).take (Tryz.prog.cellsOf 9)) = some y2 := hf 2 _ rfl
    have h3 : DataW.trod enc Tryz.prog W 0 (fun _ => true) held m 3 ((([c0, c1, c2, c3, c4] : List Value).drop 3).take (Tryz.prog.cellsOf 3)) = some y3 := hf 3 _ rfl
    have h4 : DataW.trod enc Tryz.prog W 0 (fun _ => true) held m 4 ((([c0, c1, c2, c3, c4] : List Value).drop 4).take (Tryz.prog.cellsOf 4)) = some y4 := hf 4 _ rfl
    rw [kcStr] at h0 h2
    rw [kcInt] at h1 h3
    rw [kcBool] at h4
    obtain ⟨s0, e0, m0⟩ := str_one (enc := enc) (W := W) (held := held) (n := m) (c := c0) (x := y0) h0
    obtain ⟨i1, e1⟩ := int_one (enc := enc) (W := W) (held := held) (n := m) (c := c1) (x := y1) h1
    obtain ⟨s2, e2, m2⟩ := str_one (enc := enc) (W := W) (held := held) (n := m) (c := c2) (x := y2) h2
    obtain ⟨i3, e3⟩ := int_one (enc := enc) (W := W) (held := held) (n := m) (c := c3) (x := y3) h3
    obtain ⟨b4, e4⟩ := bool_one (enc := enc) (W := W) (held := held) (n := m) (c := c4) (x := y4) h4
    exact ⟨{ name := s0, min := i1, topo := s2, skew := i3, single := b4 }, by rw [e0, e1, e2, e3, e4], kmax m0, kmax m2⟩
end

/-- A cluster of any length in memory. -/
structure SnapIn (w : World) (A B C : Option Addr) (ca cb cc : Nat) (ns : List NodeD) (ps : List PodD) (os : List OwnD) : Prop where
  n : NodesAt w A ns
  p : PodsAt w B ps
  o : La.SlAt w C (cellsO os)
  fo : ∀ x ∈ os, x.fit
  can : ns.length ≤ ca ∧ ca ≤ 9223372036854775807
  cap : ps.length ≤ cb ∧ cb ≤ 9223372036854775807
  cao : os.length ≤ cc ∧ cc ≤ 9223372036854775807

set_option maxRecDepth 100000 in
theorem open_snap {H : Type} {enc : TypeId × Value → H} {W : World} {r : Reach} {b0 : Nat} {held : Bool} {v : Value} {d : DataW H} {p : List MemPlace}
    (hv : Value.okWide Tryz.prog W r b0 26 v) (h : DataW.Trod enc Tryz.prog W 0 (fun _ => true) held 26 v d p) :
    ∃ A B C ca cb cc ns ps os, v = snapV A B C ca cb cc ns ps os ∧ SnapIn W A B C ca cb cc ns ps os := by
  simp only [Value.okWide, Tryz.underlying26] at hv
  obtain ⟨cs, rfl, _, _⟩ := hv
  obtain ⟨fuel, hf0⟩ := h
  obtain ⟨xs, m, _, _, hl, hxl, hf⟩ := DataW.trod_struct Tryz.underlying26 hf0
  rw [kcSnap] at hl
  obtain ⟨c0, c1, c2, rfl⟩ : ∃ c0 c1 c2, cs = #[c0, c1, c2] := by
    obtain ⟨l⟩ := cs
    match l, hl with
    | [c0, c1, c2], _ => exact ⟨c0, c1, c2, rfl⟩
  match xs, hxl with
  | [y0, y1, y2], _ =>
    have h0 : DataW.trod enc Tryz.prog W 0 (fun _ => true) held m 22 ((([c0, c1, c2] : List Value).drop 0).take (Tryz.prog.cellsOf 22)) = some y0 := hf 0 _ rfl
    have h1 : DataW.trod enc Tryz.prog W 0 (fun _ => true) held m 23 ((([c0, c1, c2] : List Value).drop 1).take (Tryz.prog.cellsOf 23)) = some y1 := hf 1 _ rfl
    have h2 : DataW.trod enc Tryz.prog W 0 (fun _ => true) held m 24 ((([c0, c1, c2] : List Value).drop 2).take (Tryz.prog.cellsOf 24)) = some y2 := hf 2 _ rfl
    rw [kcNodes] at h0
    rw [kcPods] at h1
    rw [kcOwners] at h2
    have g0 : DataW.trod enc Tryz.prog W 0 (fun _ => true) held m 22 [c0] = some y0 := h0
    have g1 : DataW.trod enc Tryz.prog W 0 (fun _ => true) held m 23 [c1] = some y1 := h1
    have g2 : DataW.trod enc Tryz.prog W 0 (fun _ => true) held m 24 [c2] = some y2 := h2
    obtain ⟨A, ca, ns, e0, hs0, l0, k0, f0⟩ := slice_cells (T := NodeD) _ 10 _ Tryz.underlying22 kcNode (by omega) (fun _ => rfl) (fun n cs x h => node_row n cs x h) g0
    obtain ⟨B, cb, ps, e1, hs1, l1, k1, f1⟩ := slice_cells (T := PodD) _ 15 _ Tryz.underlying23 kcPod (by omega) (fun _ => rfl) (fun n cs x h => pod_row n cs x h) g1
    obtain ⟨C, cc, os, e2, hs2, l2, k2, f2⟩ := slice_cells (T := OwnD) _ 5 _ Tryz.underlying24 kcOwner (by omega) (fun _ => rfl) (fun n cs x h => owner_row n cs x h) g2
    simp only [List.cons.injEq, and_true] at e0 e1 e2
    exact ⟨A, B, C, ca, cb, cc, ns, ps, os, by rw [e0, e1, e2], ⟨hs0, f0⟩, ⟨hs1, f1⟩, hs2, f2, ⟨l0, kmax k0⟩, ⟨l1, kmax k1⟩, ⟨l2, kmax k2⟩⟩
theorem flat_ints : ∀ l : List Int, l.flatMap (fun y => [Value.int .i64 y]) = intsC l
  | [] => rfl
  | x :: t => by
    rw [List.flatMap_cons, flat_ints t]
    rfl
set_option maxRecDepth 100000 in
theorem open_intsK {H : Type} {enc : TypeId × Value → H} {W : World} {r : Reach} {b0 : Nat} {held : Bool} {v : Value} {d : DataW H} {p : List MemPlace}
    (hv : Value.okWide Tryz.prog W r b0 27 v) (h : DataW.Trod enc Tryz.prog W 0 (fun _ => true) held 27 v d p) :
    ∃ A c l, v = .slice A (List.length l) c ∧ IntsAt W A c l := by
  obtain ⟨a0, len, cap, rfl⟩ := okWide_slice Tryz.underlying27 hv
  obtain ⟨fuel, hf⟩ := h
  have hf' : DataW.trod enc Tryz.prog W 0 (fun _ => true) held fuel 27 [.slice a0 len cap] = some _ := hf
  obtain ⟨A, c, l, e, hs, h1, h2, hg⟩ := slice_cells (T := Int) (fun y => [.int .i64 y]) 1 (fun _ => True) Tryz.underlying27 kcInt (by omega) (fun _ => rfl) (fun n cs x h => by
    obtain ⟨s, e, _, _⟩ := DataW.trod_int Tryz.underlying3 h
    exact ⟨s, e, trivial⟩) hf'
  simp only [List.cons.injEq, and_true] at e
  refine ⟨A, c, l, e, ?_, h1, kmax h2⟩
  have e2 : l.flatMap (fun y => [Value.int .i64 y]) = intsC l := flat_ints l
  rw [e2] at hs
  exact hs
end Go.Proofs.YtfpbdfagcfdbbaaGreat

namespace Go.Proofs.YtfpbdfagcfdbbaaGreat
open Go.RowKit

theorem flat_take {T : Type} (f : T → List Value) (l : List T) (n : Nat) {j : Nat} {y : Value} (h : ((l.take n).flatMap f)[j]? = some y) : (l.flatMap f)[j]? = some y := by
  have e : l.flatMap f = (l.take n).flatMap f ++ (l.drop n).flatMap f := by rw [← List.flatMap_append, List.take_append_drop]
  rw [e, List.getElem?_append_left (List.getElem?_eq_some_iff.1 h).1]
  exact h
theorem SnapIn.take {w : World} {A B C : Option Addr} {ca cb cc : Nat} {ns : List NodeD} {ps : List PodD} {os : List OwnD} (h : SnapIn w A B C ca cb cc ns ps os) : SnapAt w A B C ca cb cc (ns.take 12) (ps.take 30) (os.take 12) := by
  refine ⟨⟨fun j y hj => h.n.cells j y (flat_take _ ns 12 hj), fun x hx => h.n.fit x (List.mem_of_mem_take hx)⟩, ⟨fun j y hj => h.p.cells j y (flat_take _ ps 30 hj), fun x hx => h.p.fit x (List.mem_of_mem_take hx)⟩, fun j y hj => h.o j y (flat_take _ os 12 hj), fun x hx => h.fo x (List.mem_of_mem_take hx), ?_, ?_, ?_, ⟨?_, h.can.2⟩, ⟨?_, h.cap.2⟩, ⟨?_, h.cao.2⟩⟩
  · simp; omega
  · simp; omega
  · simp; omega
  · have := h.can.1; simp; omega
  · have := h.cap.1; simp; omega
  · have := h.cao.1; simp; omega

theorem snap_sizeK : (Tryz.prog.info? 26).map (·.size) = some 3 := by kernel_rfl
end Go.Proofs.YtfpbdfagcfdbbaaGreat

namespace Go.Proofs.YtfpbdfagcfdbbaaGreat.Qu
open Go.RowKit

theorem neg_lt_tmod (i : Int) {n : Int} (hn : 0 < n) : -n < i.tmod n := by
  have h := Int.tmod_lt_of_pos (-i) hn
  rw [Int.neg_tmod] at h
  omega
theorem emod_of_tmod (i n : Int) : i % n = i.tmod n % n := by
  conv => lhs; rw [← Int.mul_tdiv_add_tmod i n]
  rw [Int.mul_add_emod_self_left]
theorem emod_neg {i n : Int} (hn : 0 < n) (h : i.tmod n < 0) : i % n = i.tmod n + n := by
  have h1 : -n < i.tmod n := by
    have := neg_lt_tmod i hn
    omega
  rw [emod_of_tmod i n, ← Int.add_emod_right]
  exact Int.emod_eq_of_lt (by omega) (by omega)
theorem emod_pos {i n : Int} (hn : 0 < n) (h : ¬ i.tmod n < 0) : i % n = i.tmod n := by
  rw [emod_of_tmod i n]
  exact Int.emod_eq_of_lt (by omega) (Int.tmod_lt_of_pos i hn)

set_option maxHeartbeats 400000 in
theorem bring_any (i n : Int) (w : World) (hn : 0 < n) (hn' : n ≤ 4611686018427387904) :
    Calls Tryz.prog 50 #[.int .i64 i, .int .i64 n] w fun e w' => e = .returned (.int .i64 (i % n)) ∧ w = w' := by
  have hlt := Int.tmod_lt_of_pos i hn
  have hgt := neg_lt_tmod i hn
  have Hw : Hid (IntKind.i64.wrap (i.tmod n) = i.tmod n) := IntWalk.i64_in _ (by omega)
  by_cases h : i.tmod n < 0
  · have He := Lib.hid (emod_neg hn h)
    have Hw2 : Hid (IntKind.i64.wrap (i.tmod n + n) = i.tmod n + n) := IntWalk.i64_in _ (by omega)
    have hz : ¬ n = 0 := by omega
    go_enter Tryz.func50, Tryz.ntmps50
    go_wp2
    go_ret
    exact ⟨retI He.out.symm, rfl⟩
  · have He := Lib.hid (emod_pos hn h)
    have hz : ¬ n = 0 := by omega
    go_enter Tryz.func50, Tryz.ntmps50
    go_wp2
    go_ret
    exact ⟨retI He.out.symm, rfl⟩

end Go.Proofs.YtfpbdfagcfdbbaaGreat.Qu

namespace Go.Proofs.YtfpbdfagcfdbbaaGreat
open Go.RowKit

/-- The node that a number names. -/
def fitN (ns : List NodeD) (l : List Int) (k : Nat) : Int := match l[k]? with
  | some x => x % ((ns.length : Int) + 1) - 1
  | none => -1
/-- .. if pods may be there; else none. -/
def fit1 (ns : List NodeD) (l : List Int) (k : Nat) : Int := if tpB ns (fitN ns l k) then fitN ns l k else -1
def fitU (ns : List NodeD) (l : List Int) : Nat → List Int
  | 0 => []
  | k + 1 => fitU ns l k ++ [fit1 ns l k]
theorem fitU_len (ns : List NodeD) (l : List Int) : ∀ k, (fitU ns l k).length = k
  | 0 => rfl
  | k + 1 => by rw [fitU, List.length_append, fitU_len ns l k]; rfl
theorem fitN_in (ns : List NodeD) (l : List Int) (k : Nat) : fitN ns l k = -1 ∨ (0 ≤ fitN ns l k ∧ fitN ns l k < (ns.length : Int)) := by
  unfold fitN
  cases l[k]? with
  | none => exact .inl rfl
  | some x =>
    dsimp only
    have h1 := Int.emod_nonneg x (show (ns.length : Int) + 1 ≠ 0 by omega)
    have h2 := Int.emod_lt_of_pos x (show (0 : Int) < (ns.length : Int) + 1 by omega)
    omega
theorem fitU_ok (ns : List NodeD) (l : List Int) : ∀ k, ∀ x ∈ fitU ns l k, okB ns x = true
  | 0, x, h => by cases h
  | k + 1, x, h => by
    rw [fitU, List.mem_append] at h
    rcases h with h | h
    · exact fitU_ok ns l k x h
    · simp only [List.mem_singleton] at h
      subst h
      unfold fit1 okB
      split
      · rename_i ht
        rw [ht, Bool.or_true]
      · rfl

end Go.Proofs.YtfpbdfagcfdbbaaGreat

namespace Go.Proofs.YtfpbdfagcfdbbaaGreat
open Go.RowKit

theorem placeE_zero {ns : List NodeD} {ps : List PodD} {os : List OwnD} {p : List Int} (h : placeE ns ps os p = 0) : checkS ns ps os = 0 ∧ p.length = ps.length ∧ ∀ x ∈ p, okB ns x = true := by
  unfold placeE at h
  by_cases h0 : checkS ns ps os = 0
  · rw [if_pos h0] at h
    by_cases h1 : p.length = ps.length
    · rw [if_pos h1] at h
      by_cases h2 : p.all (okB ns) = true
      · exact ⟨h0, h1, List.all_eq_true.1 h2⟩
      · rw [if_neg h2] at h
        cases h
    · rw [if_neg h1] at h
      cases h
  · rw [if_neg h0] at h
    exact absurd h h0
theorem placeE_of {ns : List NodeD} {ps : List PodD} {os : List OwnD} {p : List Int} (h0 : checkS ns ps os = 0) (h1 : p.length = ps.length) (h2 : ∀ x ∈ p, okB ns x = true) : placeE ns ps os p = 0 := by
  unfold placeE
  rw [if_pos h0, if_pos h1, if_pos (List.all_eq_true.2 h2)]
theorem ok_none (ns : List NodeD) : okB ns (-1) = true := rfl
theorem placeE_set {ns : List NodeD} {ps : List PodD} {os : List OwnD} {p : List Int} (h : placeE ns ps os p = 0) (k : Nat) {x : Int} (hx : okB ns x = true) : placeE ns ps os (p.set k x) = 0 := by
  obtain ⟨h0, h1, h2⟩ := placeE_zero h
  refine placeE_of h0 (by rw [List.length_set, h1]) ?_
  intro y hy
  rcases List.mem_or_eq_of_mem_set hy with hy | rfl
  · exact h2 y hy
  · exact hx
theorem ok_tp {ns : List NodeD} {x : Int} (h : okB ns x = true) (hx : 0 ≤ x) : tpB ns x = true := by
  unfold okB at h
  rw [decide_eq_false (by omega), Bool.false_or] at h
  exact h
theorem ok_neg {ns : List NodeD} {x : Int} (h : okB ns x = true) (hx : ¬ 0 ≤ x) : x = -1 := by
  unfold okB tpB at h
  rw [decide_eq_false hx, Bool.false_and, Bool.or_false] at h
  exact of_decide_eq_true h
theorem tp_lost {ns : List NodeD} {x : Int} (h : tpB ns x = true) : lostB ns x.toNat = false := by
  unfold tpB at h
  unfold lostB
  cases hq : ns[x.toNat]? with
  | none => rfl
  | some y =>
    rw [hq] at h
    simp only [Bool.and_eq_true, Bool.not_eq_true'] at h
    exact h.2

/-- A pod that runs is evicted. -/
theorem evict_is {ns : List NodeD} {ps : List PodD} {os : List OwnD} {p : List Int} (h : placeE ns ps os p = 0) {k : Nat} {x : Int} (hk : p[k]? = some x) (hx : 0 ≤ x) : applyF ns ps os p 1 k 0 = (p.set k (-1), 0) := by
  have hl := (List.getElem?_eq_some_iff.1 hk).1
  unfold applyF evictF
  rw [if_pos h, if_pos rfl, if_pos (by omega), if_pos rfl, Int.toNat_natCast, hk, if_neg]
  intro e
  simp only [Option.some.injEq] at e
  omega
/-- A pod that waits is bound. -/
theorem bind_is {ns : List NodeD} {ps : List PodD} {os : List OwnD} {p : List Int} (h : placeE ns ps os p = 0) {k : Nat} (hk : p[k]? = some (-1)) {x : Int} (hx : tpB ns x = true) : applyF ns ps os p 2 k x = (p.set k x, 0) := by
  have hl := (List.getElem?_eq_some_iff.1 hk).1
  obtain ⟨n, rfl, hn⟩ := tpB_lt hx
  unfold applyF bindF
  rw [if_pos h, if_neg (by decide), if_pos rfl, if_pos (by omega), if_pos (by omega), Int.toNat_natCast, hk, if_pos rfl, tp_lost hx]
  rfl
/-- .. and back. -/
theorem back_is {p : List Int} {k : Nat} {x : Int} (hk : p[k]? = some x) : (p.set k (-1)).set k x = p := by
  rw [List.set_set]
  obtain ⟨hl, rfl⟩ := List.getElem?_eq_some_iff.1 hk
  exact List.set_getElem_self hl

/-- Between two placements: the first k of the second, the rest of the first. -/
def mixL (p q : List Int) (k : Nat) : List Int := q.take k ++ p.drop k
theorem mix_none (p q : List Int) : mixL p q 0 = p := by simp [mixL]
theorem mix_len {p q : List Int} (h : p.length = q.length) (k : Nat) : (mixL p q k).length = p.length := by
  simp [mixL]
  omega
theorem mix_all {p q : List Int} (h : p.length = q.length) : mixL p q p.length = q := by
  unfold mixL
  rw [List.drop_length, List.append_nil, h, List.take_length]
theorem mix_at {p q : List Int} (h : p.length = q.length) {k : Nat} (hk : k < p.length) : (mixL p q k)[k]? = some p[k] := by
  unfold mixL
  rw [List.getElem?_append_right (by rw [List.length_take]; omega), List.length_take, List.getElem?_drop]
  rw [show k + (k - min k q.length) = k by omega]
  exact List.getElem?_eq_getElem hk
theorem mix_step {p q : List Int} (h : p.length = q.length) {k : Nat} (hk : k < p.length) : (mixL p q k).set k (q[k]'(h ▸ hk)) = mixL p q (k + 1) := by
  have hq : k < q.length := h ▸ hk
  unfold mixL
  have e : (q.take k).length = k := by rw [List.length_take]; omega
  rw [List.set_append_right _ _ (by rw [e]; exact Nat.le_refl _), e, Nat.sub_self, List.drop_eq_getElem_cons hk, List.set_cons_zero, List.take_succ_eq_append_getElem hq, List.append_assoc]
  rfl
theorem mix_ok {ns : List NodeD} {ps : List PodD} {os : List OwnD} {p q : List Int} (hp : placeE ns ps os p = 0) (hq : placeE ns ps os q = 0) (k : Nat) : placeE ns ps os (mixL p q k) = 0 := by
  obtain ⟨h0, h1, h2⟩ := placeE_zero hp
  obtain ⟨_, g1, g2⟩ := placeE_zero hq
  refine placeE_of h0 (by rw [mix_len (h1.trans g1.symm), h1]) ?_
  intro x hx
  unfold mixL at hx
  rw [List.mem_append] at hx
  rcases hx with hx | hx
  · exact g2 x (List.mem_of_mem_take hx)
  · exact h2 x (List.mem_of_mem_drop hx)

/-- The next move from k on: where it stands, and that nothing between is unlike. -/
theorem move_next {p q : List Int} (h : p.length = q.length) : ∀ (d k : Nat), k + d = p.length → ∀ m, (movesU p q p.length)[(movesU p q k).length]? = some m → ∃ i, k ≤ i ∧ ∃ hi : i < p.length, m = ((i : Int), q[i]'(h ▸ hi)) ∧ p[i] ≠ q[i]'(h ▸ hi) ∧ mixL p q i = mixL p q k ∧ (movesU p q (i + 1)).length = (movesU p q k).length + 1 := by
  intro d
  induction d with
  | zero =>
    intro k hk m hm
    have : k = p.length := by omega
    subst this
    rw [List.getElem?_eq_none (Nat.le_refl _)] at hm
    cases hm
  | succ d ih =>
    intro k hk m hm
    have hkp : k < p.length := by omega
    have hkq : k < q.length := h ▸ hkp
    have gp : p.getD k 0 = p[k] := by rw [List.getD_eq_getElem?_getD, List.getElem?_eq_getElem hkp]; rfl
    have gq : q.getD k 0 = q[k] := by rw [List.getD_eq_getElem?_getD, List.getElem?_eq_getElem hkq]; rfl
    by_cases he : p[k] = q[k]
    · have e1 : movesU p q (k + 1) = movesU p q k := by
        rw [movesU, if_pos (by rw [gp, gq, he]), List.append_nil]
      have e2 : mixL p q (k + 1) = mixL p q k := by
        rw [← mix_step h hkp]
        have := mix_at h hkp
        rw [he] at this
        obtain ⟨hl, e⟩ := List.getElem?_eq_some_iff.1 this
        rw [← e]
        exact List.set_getElem_self hl
      obtain ⟨i, h1, hi, h2, h3, h4, h5⟩ := ih (k + 1) (by omega) m (by rw [e1]; exact hm)
      exact ⟨i, by omega, hi, h2, h3, by rw [h4, e2], by rw [h5, e1]⟩
    · have e1 : movesU p q (k + 1) = movesU p q k ++ [((k : Int), q[k])] := by
        rw [movesU, if_neg (by rw [gp, gq]; exact he), gq]
      have e3 : ∀ d', k + 1 + d' ≤ p.length → ∃ r, movesU p q (k + 1 + d') = movesU p q (k + 1) ++ r := by
        intro d'
        induction d' with
        | zero => intro _; exact ⟨[], by simp⟩
        | succ d' ih' =>
          intro hd
          obtain ⟨r, hr⟩ := ih' (by omega)
          exact ⟨r ++ _, by rw [show k + 1 + (d' + 1) = (k + 1 + d') + 1 by omega, movesU, hr, List.append_assoc]⟩
      obtain ⟨r, hr⟩ := e3 d (by omega)
      rw [show k + 1 + d = p.length by omega] at hr
      rw [hr, e1, List.append_assoc, List.getElem?_append_right (Nat.le_refl _), Nat.sub_self] at hm
      simp only [List.singleton_append, List.getElem?_cons_zero, Option.some.injEq] at hm
      exact ⟨k, Nat.le_refl _, hkp, hm.symm, he, rfl, by rw [e1, List.length_append]; rfl⟩
/-- Behind the last move there is nothing unlike any more. -/
theorem move_last {p q : List Int} (h : p.length = q.length) : ∀ (d k : Nat), k + d = p.length → (movesU p q k).length = (movesU p q p.length).length → mixL p q k = q := by
  intro d
  induction d with
  | zero =>
    intro k hk _
    have : k = p.length := by omega
    subst this
    exact mix_all h
  | succ d ih =>
    intro k hk hm
    have hkp : k < p.length := by omega
    have hkq : k < q.length := h ▸ hkp
    have gp : p.getD k 0 = p[k] := by rw [List.getD_eq_getElem?_getD, List.getElem?_eq_getElem hkp]; rfl
    have gq : q.getD k 0 = q[k] := by rw [List.getD_eq_getElem?_getD, List.getElem?_eq_getElem hkq]; rfl
    have mono : ∀ d' j, (movesU p q j).length ≤ (movesU p q (j + d')).length := by
      intro d'
      induction d' with
      | zero => intro j; exact Nat.le_refl _
      | succ d' ih' =>
        intro j
        have := ih' j
        rw [show j + (d' + 1) = (j + d') + 1 by omega, movesU, List.length_append]
        omega
    by_cases he : p[k] = q[k]
    · have e1 : movesU p q (k + 1) = movesU p q k := by
        rw [movesU, if_pos (by rw [gp, gq, he]), List.append_nil]
      have e2 : mixL p q (k + 1) = mixL p q k := by
        rw [← mix_step h hkp]
        have := mix_at h hkp
        rw [he] at this
        obtain ⟨hl, e⟩ := List.getElem?_eq_some_iff.1 this
        rw [← e]
        exact List.set_getElem_self hl
      rw [← e2]
      exact ih (k + 1) (by omega) (by rw [e1]; exact hm)
    · exfalso
      have e1 : movesU p q (k + 1) = movesU p q k ++ [((k : Int), q[k])] := by
        rw [movesU, if_neg (by rw [gp, gq]; exact he), gq]
      have := mono d (k + 1)
      rw [show k + 1 + d = p.length by omega, e1, List.length_append, ← hm] at this
      simp only [List.length_cons, List.length_nil] at this
      omega
/-- The next move from k on, all that a round asks of it. -/
theorem move_to {p q : List Int} (h : p.length = q.length) (k : Nat) (hk : k ≤ p.length) (m : Int × Int) (hm : (movesF p q)[(movesU p q k).length]? = some m) : ∃ (i : Nat) (a b : Int), i < p.length ∧ p[i]? = some a ∧ q[i]? = some b ∧ m = ((i : Int), b) ∧ a ≠ b ∧ (movesU p q (i + 1)).length = (movesU p q k).length + 1 ∧ (mixL p q k)[i]? = some a ∧ (mixL p q k).set i b = mixL p q (i + 1) := by
  have e : movesF p q = movesU p q p.length := by
    unfold movesF
    rw [← h, Nat.min_self]
  rw [e] at hm
  obtain ⟨i, _, hi, h2, h3, h4, h5⟩ := move_next h (p.length - k) k (by omega) m hm
  have hq : i < q.length := h ▸ hi
  exact ⟨i, p[i], q[i], hi, List.getElem?_eq_getElem hi, List.getElem?_eq_getElem hq, h2, h3, h5, by rw [← h4]; exact mix_at h hi, by rw [← h4]; exact mix_step h hi⟩
theorem move_end {p q : List Int} (h : p.length = q.length) (k : Nat) (hk : k ≤ p.length) (hm : (movesU p q k).length = (movesF p q).length) : mixL p q k = q := by
  have e : movesF p q = movesU p q p.length := by
    unfold movesF
    rw [← h, Nat.min_self]
  rw [e] at hm
  exact move_last h (p.length - k) k (by omega) hm
theorem cells2_at : ∀ (l : List (Int × Int)) (j : Nat) (m : Int × Int), l[j]? = some m → (cells2 l)[j * 2]? = some (.int .i64 m.1) ∧ (cells2 l)[j * 2 + 1]? = some (.int .i64 m.2)
  | [], j, m, h => by simp at h
  | x :: t, 0, m, h => by
    simp only [List.getElem?_cons_zero, Option.some.injEq] at h
    subst h
    exact ⟨rfl, rfl⟩
  | x :: t, j + 1, m, h => by
    obtain ⟨h1, h2⟩ := cells2_at t j m (by simpa using h)
    have e : cells2 (x :: t) = .int .i64 x.1 :: .int .i64 x.2 :: cells2 t := rfl
    rw [e, show (j + 1) * 2 = j * 2 + 1 + 1 by omega]
    exact ⟨h1, h2⟩
theorem atM {w : World} {A : Option Addr} {l : List (Int × Int)} (h : La.SlAt w A (cells2 l)) {k : Nat} {x : Int × Int} (hk : l[k]? = some x) :
    ∃ b o, A = some ⟨b, o, none⟩ ∧ b < w.heap.size ∧ w.cell? ⟨b, o + k * 2, none⟩ = some (.int .i64 x.1) ∧ w.cell? ⟨b, o + k * 2 + 1, none⟩ = some (.int .i64 x.2) := by
  obtain ⟨h1, h2⟩ := cells2_at l k x hk
  obtain ⟨b, o, hA, h0⟩ := h (k * 2) _ h1
  obtain ⟨b', o', hA', h3⟩ := h (k * 2 + 1) _ h2
  rw [hA] at hA'
  cases hA'
  exact ⟨b, o, hA, World.block_lt_of_cell? w _ h0, h0, h3⟩
end Go.Proofs.YtfpbdfagcfdbbaaGreat

namespace Go.Proofs.YtfpbdfagcfdbbaaGreat
open Go.RowKit

theorem wrap_step (s x : Int) : wrap64 (wrap64 s + x) = wrap64 (s + x) := by
  unfold wrap64
  omega
theorem wrap_two (s t : Int) : wrap64 (wrap64 s + wrap64 t) = wrap64 (s + t) := by
  unfold wrap64
  omega
/-- What a pod asks for. -/
def reqAt (ps : List PodD) (k y : Nat) : Int := match ps[y]? with
  | some x => x.req k
  | none => 0
def reqS (ps : List PodD) (k : Nat) (ys : List Nat) : Int := (ys.map (reqAt ps k)).sum
theorem addW_from (ps : List PodD) (k : Nat) : ∀ (ys : List Nat) (s : Int), ys.foldl (fun a y => wrap64 (a + (match ps[y]? with | some x => x.req k | none => 0))) (wrap64 s) = wrap64 (s + reqS ps k ys)
  | [], s => by simp [reqS]
  | y :: t, s => by
    rw [List.foldl_cons, wrap_step]
    have := addW_from ps k t (s + reqAt ps k y)
    unfold reqAt at this
    rw [this]
    unfold reqS
    rw [List.map_cons, List.sum_cons, ← Int.add_assoc]
    rfl
theorem addW_is (ps : List PodD) (k : Nat) (ys : List Nat) : addW ps ys k = wrap64 (reqS ps k ys) := by
  have := addW_from ps k ys 0
  rw [show wrap64 0 = 0 by unfold wrap64; omega, Int.zero_add] at this
  exact this
theorem reqS_append (ps : List PodD) (k : Nat) (a b : List Nat) : reqS ps k (a ++ b) = reqS ps k a + reqS ps k b := by
  unfold reqS
  rw [List.map_append, List.sum_append]

/-- What the pods of the first i nodes ask for, n pods looked at. -/
def usedG (ps : List PodD) (p : List Int) (k n : Nat) : Nat → Int
  | 0 => 0
  | i + 1 => usedG ps p k n i + reqS ps k (onU p i n)
/-- What those of the first n pods that run ask for. -/
def wantU (ps : List PodD) (p : List Int) (k : Nat) : Nat → Int
  | 0 => 0
  | n + 1 => wantU ps p k n + (match p[n]? with
    | some x => if 0 ≤ x then reqAt ps k n else 0
    | none => 0)
theorem usedG_zero (ps : List PodD) (p : List Int) (k : Nat) : ∀ i, usedG ps p k 0 i = 0
  | 0 => rfl
  | i + 1 => by
    rw [usedG, usedG_zero ps p k i]
    rfl
theorem usedG_step (ps : List PodD) (p : List Int) (k n : Nat) : ∀ i : Nat, usedG ps p k (n + 1) i = usedG ps p k n i + (match p[n]? with
    | some x => if 0 ≤ x ∧ x < (i : Int) then reqAt ps k n else 0
    | none => 0)
  | 0 => by
    cases h : p[n]? with
    | none => simp [usedG]
    | some x =>
      simp only [usedG]
      rw [if_neg (by omega)]
      rfl
  | i + 1 => by
    rw [usedG, usedG_step ps p k n i, usedG, onU, reqS_append]
    cases h : p[n]? with
    | none => simp [reqS]
    | some x =>
      simp only [Option.some.injEq]
      by_cases hx : x = (i : Int)
      · subst hx
        rw [if_pos rfl, if_neg (by omega), if_pos (by omega)]
        simp [reqS]
        omega
      · rw [if_neg hx]
        by_cases h0 : 0 ≤ x ∧ x < (i : Int)
        · rw [if_pos h0, if_pos (by omega)]
          simp [reqS]
          omega
        · rw [if_neg h0, if_neg (by omega)]
          simp [reqS]
theorem used_want (ps : List PodD) (p : List Int) (k m : Nat) (h : ∀ x ∈ p, x = -1 ∨ (0 ≤ x ∧ x < (m : Int))) : ∀ n, usedG ps p k n m = wantU ps p k n
  | 0 => usedG_zero ps p k m
  | n + 1 => by
    rw [usedG_step, used_want ps p k m h n, wantU]
    congr 1
    cases hn : p[n]? with
    | none => rfl
    | some x =>
      have := h x (List.mem_of_getElem? hn)
      by_cases h0 : 0 ≤ x
      · simp only [if_pos h0]
        rw [if_pos (by omega)]
      · simp only [if_neg h0]
        rw [if_neg (by omega)]

theorem sum_bump : ∀ (l : List Int) (i : Nat), i < l.length → (l.set i (l.getD i 0 + 1)).sum = l.sum + 1
  | [], i, h => by simp at h
  | x :: t, 0, _ => by
    simp
    omega
  | x :: t, i + 1, h => by
    have := sum_bump t i (by simpa using h)
    rw [List.set_cons_succ, List.sum_cons, List.sum_cons, List.getD_cons_succ, this]
    omega
/-- What is counted on the nodes is how many there are. -/
theorem cnt_sum (n : Nat) (p : List Int) (ys : List Nat) (h : ∀ y ∈ ys, ∃ x, p[y]? = some x ∧ 0 ≤ x ∧ x < (n : Int)) : (cntL n p ys).sum = (ys.length : Int) := by
  suffices g : ∀ (ys : List Nat) (l : List Int), l.length = n → (∀ y ∈ ys, ∃ x, p[y]? = some x ∧ 0 ≤ x ∧ x < (n : Int)) → (ys.foldl (fun l y => match p[y]? with | some x => l.set x.toNat (l.getD x.toNat 0 + 1) | none => l) l).sum = l.sum + (ys.length : Int) by
    refine (g ys (List.replicate n 0) (List.length_replicate ..) h).trans ?_
    simp
  intro ys
  induction ys with
  | nil => intro l _ _; simp
  | cons y t ih =>
    intro l hl hy
    obtain ⟨x, hx, h0, h1⟩ := hy y (by simp)
    rw [List.foldl_cons]
    simp only [hx]
    rw [ih _ (by rw [List.length_set, hl]) (fun z hz => hy z (by simp [hz])), sum_bump l x.toNat (by omega)]
    simp
    omega
end Go.Proofs.YtfpbdfagcfdbbaaGreat

namespace Go.Proofs.YtfpbdfagcfdbbaaGreat
open Go.RowKit Go.Shelf Go.Maps Go.Sort

theorem insert_perm (x : Lit × DataW Unit) : ∀ l : List (Lit × DataW Unit), (DataW.insert x l).Perm (x :: l)
  | [] => by simp [DataW.insert]
  | y :: r => by
    unfold DataW.insert
    split
    · exact List.Perm.refl _
    · exact ((insert_perm x r).cons y).trans (List.Perm.swap x y r)
/-- A map whose keys are texts, each once. -/
structure KeyedD (D : DataW Unit) : Prop where
  isMap : IsMap D
  texts : ∀ es, D = .map es → ∀ q ∈ es, ∃ x, q.1 = .string x
  once : (strKeys D).Nodup
theorem keys_filter (v : List UInt8) : ∀ es : List (Lit × DataW Unit), (∀ q ∈ es, ∃ x, q.1 = .string x) → (es.filter fun p => !p.1.sameKey (.string v)).map (fun p => strOf p.1) = (es.map fun p => strOf p.1).filter (· != v)
  | [], _ => rfl
  | q :: t, h => by
    obtain ⟨x, hx⟩ := h q (by simp)
    have ih := keys_filter v t (fun z hz => h z (by simp [hz]))
    rw [List.map_cons, hx]
    by_cases e : x = v
    · subst e
      rw [List.filter_cons_of_neg (by rw [hx]; simp [WideAt.sameKey_self (show WideAt.IsKeyLit (.string x) from trivial)]), List.filter_cons_of_neg (by simp [strOf]), ih]
    · have hn : (Lit.string x).sameKey (.string v) = false := by
        cases hc : (Lit.string x).sameKey (.string v) with
        | false => rfl
        | true => exact absurd (by simpa using WideAt.sameKey_eq hc) e
      rw [List.filter_cons_of_pos (by rw [hx, hn]; rfl), List.filter_cons_of_pos (by simpa [strOf] using e), List.map_cons, ih, hx]
theorem keys_put {D : DataW Unit} (h : KeyedD D) (v : List UInt8) (d : DataW Unit) : (strKeys (D.put (.string v) d)).Perm (v :: (strKeys D).filter (· != v)) := by
  obtain ⟨es, rfl⟩ := h.isMap
  show ((DataW.insert (.string v, d) (es.filter fun p => !p.1.sameKey (.string v))).map fun p => strOf p.1).Perm _
  refine ((insert_perm _ _).map _).trans ?_
  rw [List.map_cons, keys_filter v es (h.texts es rfl)]
  exact List.Perm.refl _
theorem KeyedD.put {D : DataW Unit} (h : KeyedD D) (v : List UInt8) (d : DataW Unit) : KeyedD (D.put (.string v) d) := by
  have hp := keys_put h v d
  obtain ⟨es, rfl⟩ := h.isMap
  refine ⟨⟨_, rfl⟩, ?_, ?_⟩
  · intro es' he q hq
    cases he
    have := (insert_perm (.string v, d) (es.filter fun p => !p.1.sameKey (.string v))).mem_iff.1 hq
    rcases List.mem_cons.1 this with rfl | hm
    · exact ⟨v, rfl⟩
    · exact h.texts es rfl q (List.mem_filter.1 hm).1
  · refine hp.nodup_iff.2 (List.nodup_cons.2 ⟨fun hm => ?_, h.once.filter _⟩)
    have := (List.mem_filter.1 hm).2
    simp at this
theorem keys_same {D : DataW Unit} (h : KeyedD D) {v : List UInt8} (hv : v ∈ strKeys D) (d : DataW Unit) : (strKeys (D.put (.string v) d)).Perm (strKeys D) := by
  refine (keys_put h v d).trans ?_
  rw [← h.once.erase_eq_filter]
  exact (List.perm_cons_erase hv).symm
theorem mem_put {D : DataW Unit} (h : KeyedD D) (v : List UInt8) (d : DataW Unit) (u : List UInt8) : u ∈ strKeys (D.put (.string v) d) ↔ u = v ∨ u ∈ strKeys D := by
  rw [(keys_put h v d).mem_iff, List.mem_cons, List.mem_filter]
  by_cases e : u = v <;> simp [e]

/-- The number at a text. -/
def valD (D : DataW Unit) (v : List UInt8) : Int := numD (D.atKey (.string v) (.lit (.int .i64 0)))
theorem val_put {D : DataW Unit} (h : KeyedD D) (v : List UInt8) (d : DataW Unit) (u : List UInt8) : valD (D.put (.string v) d) u = if u = v then numD d else valD D u := by
  unfold valD
  by_cases e : u = v
  · subst e
    rw [if_pos rfl, atKey_put_same h.isMap (show WideAt.IsKeyLit (.string u) from trivial)]
  · rw [if_neg e, atKey_put_other (by intro hc; cases hc; exact e rfl)]
def sumK (D : DataW Unit) : Int := ((strKeys D).map (valD D)).sum
theorem sum_perm {l l' : List Int} (h : l.Perm l') : l.sum = l'.sum := by
  induction h with
  | nil => rfl
  | cons x _ ih => rw [List.sum_cons, List.sum_cons, ih]
  | swap x y l => simp; omega
  | trans _ _ h1 h2 => rw [h1, h2]
theorem sum_turn {f g : List UInt8 → Int} {v : List UInt8} : ∀ {l : List (List UInt8)}, l.Nodup → (∀ u, u ≠ v → g u = f u) → (l.map g).sum = (l.map f).sum + (if v ∈ l then g v - f v else 0)
  | [], _, _ => by simp
  | u :: t, h, e => by
    obtain ⟨h1, h2⟩ := List.nodup_cons.1 h
    have ih := sum_turn h2 e
    rw [List.map_cons, List.map_cons, List.sum_cons, List.sum_cons, ih]
    by_cases hu : u = v
    · subst hu
      rw [if_neg h1, if_pos (by simp)]
      omega
    · rw [e u hu]
      by_cases hv : v ∈ t
      · rw [if_pos hv, if_pos (by simp [hv])]
        omega
      · rw [if_neg hv, if_neg (by simp [hv]; exact fun hc => hu hc.symm)]
        omega
theorem rowD_sum (D : DataW Unit) : (rowD D).sum = sumK D := by
  unfold rowD sortK sumK
  exact sum_perm ((List.mergeSort_perm _ _).map _)

theorem keyed_nil : KeyedD (.map []) := ⟨⟨[], rfl⟩, (by intro es h q hq; cases h; cases hq), List.nodup_nil⟩
theorem keyed_doms (ns : List NodeD) (key : List UInt8) : ∀ k, KeyedD (domsU ns key k) ∧ ∀ v, valD (domsU ns key k) v = 0
  | 0 => ⟨keyed_nil, fun _ => rfl⟩
  | k + 1 => by
    obtain ⟨h1, h2⟩ := keyed_doms ns key k
    rw [domsU]
    cases hd : domF ns (k : Int) key with
    | none => exact ⟨h1, h2⟩
    | some v =>
      refine ⟨h1.put v _, fun u => ?_⟩
      show valD ((domsU ns key k).put (.string v) (.lit (.int .i64 0))) u = 0
      rw [val_put h1]
      split
      · rfl
      · exact h2 u
theorem doms_has (ns : List NodeD) (key : List UInt8) (n : Nat) (v : List UInt8) (h : domF ns (n : Int) key = some v) : ∀ k, n < k → v ∈ strKeys (domsU ns key k)
  | 0, h' => absurd h' (by omega)
  | k + 1, h' => by
    rw [domsU]
    by_cases e : n = k
    · subst e
      rw [h]
      exact (mem_put (keyed_doms ns key n).1 v _ v).2 (.inl rfl)
    · have ih := doms_has ns key n v h k (by omega)
      cases hd : domF ns (k : Int) key with
      | none => exact ih
      | some u => exact (mem_put (keyed_doms ns key k).1 u _ v).2 (.inr ih)
theorem empty_has {ns : List NodeD} {key v : List UInt8} {x : Int} (h : domF ns x key = some v) : v ∈ strKeys (emptyD ns key) := by
  have h' := h
  unfold domF at h'
  by_cases ht : tpB ns x = true
  · obtain ⟨n, rfl, hn⟩ := tpB_lt ht
    exact doms_has ns key n v h ns.length hn
  · rw [if_neg ht] at h'
    cases h'

/-- A map of the domains in which c at most are counted. -/
structure SpreadAt (ns : List NodeD) (key : List UInt8) (D : DataW Unit) (c : Nat) : Prop where
  keyed : KeyedD D
  keys : (strKeys D).Perm (strKeys (emptyD ns key))
  vals : ∀ v, 0 ≤ valD D v ∧ valD D v ≤ (c : Int)
  sum : sumK D ≤ (c : Int)
theorem SpreadAt.mono {ns : List NodeD} {key : List UInt8} {D : DataW Unit} {c d : Nat} (h : SpreadAt ns key D c) (hd : c ≤ d) : SpreadAt ns key D d :=
  ⟨h.keyed, h.keys, fun v => by have := h.vals v; omega, by have := h.sum; omega⟩
theorem sum_zero : ∀ l : List (List UInt8), ∀ f : List UInt8 → Int, (∀ v, f v = 0) → (l.map f).sum = 0
  | [], _, _ => rfl
  | u :: t, f, h => by rw [List.map_cons, List.sum_cons, h u, sum_zero t f h]; rfl
theorem spread_zero (ns : List NodeD) (key : List UInt8) : SpreadAt ns key (emptyD ns key) 0 := by
  obtain ⟨h1, h2⟩ := keyed_doms ns key ns.length
  refine ⟨h1, List.Perm.refl _, fun v => ?_, ?_⟩
  · rw [show valD (emptyD ns key) v = 0 from h2 v]
    omega
  · rw [show sumK (emptyD ns key) = 0 from sum_zero _ _ h2]
    omega
theorem spread_bump {ns : List NodeD} {key v : List UInt8} {D : DataW Unit} {c : Nat} (h : SpreadAt ns key D c) (hc : c ≤ 1000) (hv : v ∈ strKeys (emptyD ns key)) : SpreadAt ns key (bumpD D v) (c + 1) := by
  have hm : v ∈ strKeys D := h.keys.mem_iff.2 hv
  have hw : wrap64 (valD D v + 1) = valD D v + 1 := IntWalk.wrap64_in _ (by have := h.vals v; omega)
  have e : bumpD D v = D.put (.string v) (.lit (.int .i64 (valD D v + 1))) := by
    rw [← hw]
    rfl
  have hval : ∀ u, valD (bumpD D v) u = if u = v then valD D v + 1 else valD D u := by
    intro u
    rw [e, val_put h.keyed]
    rfl
  have hk : (strKeys (bumpD D v)).Perm (strKeys D) := by
    rw [e]
    exact keys_same h.keyed hm _
  refine ⟨by rw [e]; exact h.keyed.put v _, hk.trans h.keys, fun u => ?_, ?_⟩
  · rw [hval]
    have h1 := h.vals v
    have h2 := h.vals u
    split <;> omega
  · have h1 : sumK (bumpD D v) = ((strKeys D).map (valD (bumpD D v))).sum := sum_perm (hk.map _)
    rw [h1, sum_turn (f := valD D) (v := v) h.keyed.once (fun u hu => by rw [hval, if_neg hu]), if_pos hm, hval, if_pos rfl]
    have := h.sum
    unfold sumK at this
    omega
theorem spread_from (ns : List NodeD) (key : List UInt8) (p : List Int) : ∀ (ys : List Nat) (D : DataW Unit) (c : Nat), SpreadAt ns key D c → c + ys.length ≤ 1000 → SpreadAt ns key (ys.foldl (spreadS ns key p) D) (c + ys.length)
  | [], D, c, h, _ => h
  | y :: t, D, c, h, hl => by
    rw [List.length_cons] at hl
    have hs : SpreadAt ns key (spreadS ns key p D y) (c + 1) := by
      unfold spreadS
      cases hy : p[y]? with
      | none => exact h.mono (by omega)
      | some x =>
        dsimp only
        cases hd : domF ns x key with
        | none => exact h.mono (by omega)
        | some v => exact spread_bump h (by omega) (empty_has hd)
    have := spread_from ns key p t _ (c + 1) hs (by omega)
    rw [List.foldl_cons, List.length_cons, show c + (t.length + 1) = c + 1 + t.length by omega]
    exact this
theorem spread_all (ns : List NodeD) (key : List UInt8) (p : List Int) (ys : List Nat) (h : ys.length ≤ 1000) : SpreadAt ns key (spreadD ns key p ys) ys.length := by
  have := spread_from ns key p ys _ 0 (spread_zero ns key) (by omega)
  rwa [Nat.zero_add] at this

/-- Of a list of numbers that are none below 0: what stands first is no more than the whole. -/
theorem take_sum : ∀ (l : List Int), (∀ x ∈ l, 0 ≤ x) → ∀ j, 0 ≤ (l.take j).sum ∧ (l.take j).sum ≤ l.sum
  | [], _, j => by simp
  | x :: t, h, 0 => by
    have h0 := h x (by simp)
    have := (take_sum t (fun y hy => h y (by simp [hy])) 0).2
    rw [List.take_zero] at this ⊢
    rw [List.sum_cons]
    simp only [List.sum_nil] at this ⊢
    omega
  | x :: t, h, j + 1 => by
    have h0 := h x (by simp)
    have := take_sum t (fun y hy => h y (by simp [hy])) j
    rw [List.take_succ_cons, List.sum_cons, List.sum_cons]
    omega
theorem cnt_pos (n : Nat) (p : List Int) (ys : List Nat) : ∀ x ∈ cntL n p ys, 0 ≤ x := by
  suffices g : ∀ (ys : List Nat) (l : List Int), (∀ x ∈ l, 0 ≤ x) → ∀ x ∈ (ys.foldl (fun l y => match p[y]? with | some x => l.set x.toNat (l.getD x.toNat 0 + 1) | none => l) l), 0 ≤ x by
    exact g ys (List.replicate n 0) (fun x hx => by rw [List.eq_of_mem_replicate hx]; exact Int.le_refl _)
  intro ys
  induction ys with
  | nil => intro l h; exact h
  | cons y t ih =>
    intro l h
    rw [List.foldl_cons]
    refine ih _ ?_
    cases hy : p[y]? with
    | none => exact h
    | some z =>
      intro x hx
      rcases List.mem_or_eq_of_mem_set hx with hx | rfl
      · exact h x hx
      · have : 0 ≤ l.getD z.toNat 0 := by
          rw [List.getD_eq_getElem?_getD]
          cases hq : l[z.toNat]? with
          | none => exact Int.le_refl _
          | some q => exact h q (List.mem_of_getElem? hq)
        omega
end Go.Proofs.YtfpbdfagcfdbbaaGreat

namespace Go.Proofs.YtfpbdfagcfdbbaaGreat
open Go.RowKit Go.Maps Go.Sort

/-- Which value a node has for a key. -/
def valK (x : NodeD) (key : List UInt8) : Option (List UInt8) := if x.lost then none else (x.labels.find? (fun y => decide (y.1 = key))).map (·.2)
theorem domF_at {ns : List NodeD} {n : Nat} {x : NodeD} (h : ns[n]? = some x) (key : List UInt8) : domF ns (n : Int) key = valK x key := by
  unfold domF tpB valK
  rw [Int.toNat_natCast, h, decide_eq_true (Int.natCast_nonneg n), Bool.true_and]
  show (if (!x.lost) = true then (x.labels.find? (fun y => decide (y.1 = key))).map (·.2) else none) = _
  cases x.lost <;> rfl
theorem find_at {l : List L2} {key : List UInt8} {k : Nat} {y : L2} (hk : l[k]? = some y) (hy : y.1 = key) (hn : ∀ (j : Nat) (z : L2), j < k → l[j]? = some z → z.1 ≠ key) : l.find? (fun y => decide (y.1 = key)) = some y := by
  induction l generalizing k with
  | nil => simp at hk
  | cons a t ih =>
    cases k with
    | zero =>
      simp only [List.getElem?_cons_zero, Option.some.injEq] at hk
      subst hk
      rw [List.find?_cons_of_pos (by simpa using hy)]
    | succ k =>
      rw [List.find?_cons_of_neg (by simpa using hn 0 a (by omega) rfl)]
      exact ih (k := k) (by simpa using hk) (fun j z hj hz => hn (j + 1) z (by omega) (by simpa using hz))
theorem find_none {l : List L2} {key : List UInt8} (hn : ∀ (j : Nat) (z : L2), l[j]? = some z → z.1 ≠ key) : l.find? (fun y => decide (y.1 = key)) = none := by
  rw [List.find?_eq_none]
  intro z hz
  obtain ⟨j, hj⟩ := List.mem_iff_getElem?.1 hz
  simpa using hn j z hj

set_option maxRecDepth 100000 in
set_option maxHeartbeats 2000000 in
theorem valueOf_any (x : NodeD) (key : List UInt8) (w : World) (hx : x.fit w) :
    Calls Tryz.prog 95 #[valN x, strV key] w fun e w' => e = .returned (.tuple #[strV ((valK x key).getD []), .bool (valK x key).isSome]) ∧ Below w.heap.size w w' := by
  have HX := Lib.hid hx
  have hle := hx.l.le
  have hmost := hx.l.most
  have B0 : Hid (Below w.heap.size w (w.alloc (.cells (cellsN [x]).toArray 62))) := Lib.hid (below1 w _)
  have Q0 : Hid (Blk (w.alloc (.cells (cellsN [x]).toArray 62)) w.heap.size (cellsN [x]).toArray 62) := Lib.hid (Blk.new w _ _)
  have E : Hid (valK x key = if x.lost then none else (x.labels.find? (fun y => decide (y.1 = key))).map (·.2)) := Lib.hid rfl
  generalize valK x key = R at E ⊢
  clear hx
  go_enter Tryz.func95, Tryz.ntmps95
  go_wp2_with fail
  change Code.wp _ _ _ _ (w.alloc (.cells (cellsN [x]).toArray 62))
  generalize (w.alloc (.cells (cellsN [x]).toArray 62)) = W at B0 Q0 ⊢
  go_loopw [6] (fun i wr => wr = W ∧ ∃ k : Nat, k ≤ x.labels.length ∧ i = .int .i64 k ∧ (x.lost = false → ∀ (j : Nat) (z : L2), j < k → x.labels[j]? = some z → z.1 ≠ key)) (fun i _ => x.labels.length - (intOf i).toNat)
  case atStart => exact ⟨rfl, 0, by omega, rfl, fun _ j z h => by omega⟩
  case round =>
    obtain ⟨rfl, k, hk, rfl, hn⟩ := hrel
    have HN := Lib.hid hn
    clear hn
    have q6 : wr.cell? ⟨w.heap.size, 6, none⟩ = some (.slice x.al x.labels.length x.cl) := Blk.cell Q0.out 6
    have q9 : wr.cell? ⟨w.heap.size, 9, none⟩ = some (.bool x.lost) := Blk.cell Q0.out 9
    by_cases hlt : k < x.labels.length
    · obtain ⟨y, hy⟩ : ∃ y, x.labels[k]? = some y := ⟨x.labels[k], List.getElem?_eq_getElem hlt⟩
      obtain ⟨b, o, hA, hbl, c0, c1⟩ := La.SlAt.lab (HX.out.below B0.out).l.cells hy
      have k0 : (0 : Int) ≤ (k : Int) := by omega
      have k1 : (k : Int) < (x.labels.length : Int) := by omega
      have HY := Lib.hid hy
      rw [hA] at q6
      clear hy
      have go : Hid ((x.lost = false → y.1 ≠ key) → (x.lost = false → ∀ (j : Nat) (z : L2), j < k + 1 → x.labels[j]? = some z → z.1 ≠ key)) := Lib.hid (fun h1 h2 j z hj hz => by
        by_cases hjk : j = k
        · subst hjk
          rw [HY.out] at hz
          cases hz
          exact h1 h2
        · exact HN.out h2 j z (by omega) hz)
      by_cases hq : y.1 = key
      · have hqb : (y.1 == key) = true := by simpa using hq
        cases hl : x.lost
        · have HE : Hid (R = some y.2) := Lib.hid (by
            rw [E.out, hl, find_at HY.out hq (HN.out hl)]
            rfl)
          rw [hl] at q9
          clear hq go
          go_wp2
          go_ret2
          rw [HE.out]
          exact ⟨rfl, B0.out⟩
        · have HL := Lib.hid hl
          rw [hl] at q9
          clear hq hl
          go_wp2_with fail
          go_roundw
          case rel => exact ⟨by first | rfl | trivial, k + 1, by omega, by go_num, by first | exact go.out (fun e => by rw [HL.out] at e; cases e) | (intro e; cases e)⟩
          case measure => simp [intOf]; omega
      · have hqb : (y.1 == key) = false := by simpa using hq
        have HQ := Lib.hid hq
        clear hq
        go_wp2_with fail
        go_roundw
        case rel => exact ⟨by first | rfl | trivial, k + 1, by omega, by go_num, go.out (fun _ => HQ.out)⟩
        case measure => simp [intOf]; omega
    · obtain rfl : k = x.labels.length := by omega
      have HE : Hid (R = none) := Lib.hid (by
        rw [E.out]
        cases hl : x.lost
        · rw [find_none (fun j z hz => HN.out hl j z (List.getElem?_eq_some_iff.1 hz).1 hz)]
          rfl
        · rfl)
      go_wp2
      go_ret2
      rw [HE.out]
      exact ⟨rfl, B0.out⟩

end Go.Proofs.YtfpbdfagcfdbbaaGreat

namespace Go.Proofs.YtfpbdfagcfdbbaaGreat
open Go.RowKit Go.Maps Go.Sort

theorem flat_take1 {l : List Value} {n j : Nat} {y : Value} (h : (l.take n)[j]? = some y) : l[j]? = some y := by
  rw [List.getElem?_take] at h
  split at h
  · exact h
  · cases h
/-- A text put where it belongs, unless it is there. -/
def insS (v : List UInt8) : List (List UInt8) → List (List UInt8)
  | [] => [v]
  | x :: t => if Op.bytesLess x v then x :: insS v t else if x = v then x :: t else v :: x :: t
theorem ins_at (v : List UInt8) : ∀ (l : List (List UInt8)) (k : Nat), k ≤ l.length → (∀ (j : Nat) (x : List UInt8), j < k → l[j]? = some x → Op.bytesLess x v = true) → (∀ x, l[k]? = some x → Op.bytesLess x v = false) →
    insS v l = if l[k]? = some v then l else l.take k ++ v :: l.drop k
  | [], k, hk, _, _ => by
    obtain rfl : k = 0 := by simpa using hk
    rfl
  | x :: t, 0, _, _, h2 => by
    have hx := h2 x rfl
    rw [insS, hx]
    simp only [Bool.false_eq_true, if_false, List.getElem?_cons_zero, Option.some.injEq, List.take_zero, List.drop_zero, List.nil_append]
  | x :: t, k + 1, hk, h1, h2 => by
    have hx := h1 0 x (by omega) rfl
    have ih := ins_at v t k (by simpa using hk) (fun j y hj hy => h1 (j + 1) y (by omega) (by simpa using hy)) (fun y hy => h2 y (by simpa using hy))
    rw [insS, hx, if_pos rfl, ih]
    simp only [List.getElem?_cons_succ, List.take_succ_cons, List.drop_succ_cons, List.cons_append]
    split <;> rfl
def domsR (ns : List NodeD) (key : List UInt8) : Nat → List (List UInt8)
  | 0 => []
  | k + 1 => match domF ns (k : Int) key with
    | some v => insS v (domsR ns key k)
    | none => domsR ns key k
theorem ins_mem (v u : List UInt8) : ∀ l, u ∈ insS v l ↔ u = v ∨ u ∈ l
  | [] => by simp [insS]
  | x :: t => by
    have ih := ins_mem v u t
    rw [insS]
    split
    · rw [List.mem_cons, ih, List.mem_cons]
      constructor
      · rintro (h | h | h)
        · exact .inr (.inl h)
        · exact .inl h
        · exact .inr (.inr h)
      · rintro (h | h | h)
        · exact .inr (.inl h)
        · exact .inl h
        · exact .inr (.inr h)
    · split
      · rename_i _ e
        subst e
        rw [List.mem_cons]
        constructor
        · exact .inr
        · rintro (h | h)
          · exact .inl h
          · exact h
      · rw [List.mem_cons]
theorem ins_len (v : List UInt8) : ∀ l, (insS v l).length ≤ l.length + 1
  | [] => by simp [insS]
  | x :: t => by
    have ih := ins_len v t
    rw [insS]
    split
    · simp only [List.length_cons]; omega
    · split <;> simp
theorem domsR_len (ns : List NodeD) (key : List UInt8) : ∀ k, (domsR ns key k).length ≤ k
  | 0 => Nat.le_refl _
  | k + 1 => by
    have ih := domsR_len ns key k
    rw [domsR]
    split
    · have := ins_len ‹_› (domsR ns key k)
      omega
    · omega
/-- One stands ahead of another. -/
def Ahead (a b : List UInt8) : Prop := a ≤ b ∧ a ≠ b
theorem less_ahead {a b : List UInt8} (h : Op.bytesLess a b = true) : Ahead a b := by
  rw [Proofs.bytesLess_eq, decide_eq_true_eq] at h
  exact ⟨List.le_of_lt h, fun e => List.lt_irrefl _ (e ▸ h)⟩
theorem less_not {a b : List UInt8} (h : Op.bytesLess a b = false) : b ≤ a := by
  rw [Proofs.bytesLess_eq, decide_eq_false_iff_not] at h
  exact List.not_lt.1 h
theorem Ahead.trans {a b c : List UInt8} (h : Ahead a b) (k : Ahead b c) : Ahead a c :=
  ⟨List.le_trans h.1 k.1, fun e => h.2 (List.le_antisymm h.1 (e ▸ k.1))⟩
theorem ins_rises (v : List UInt8) : ∀ l : List (List UInt8), l.Pairwise Ahead → (insS v l).Pairwise Ahead
  | [], _ => by simp [insS]
  | x :: t, h => by
    obtain ⟨h1, h2⟩ := List.pairwise_cons.1 h
    rw [insS]
    split
    · rename_i hl
      refine List.pairwise_cons.2 ⟨fun u hu => ?_, ins_rises v t h2⟩
      rcases (ins_mem v u t).1 hu with rfl | hm
      · exact less_ahead hl
      · exact h1 u hm
    · rename_i hl
      split
      · exact h
      · rename_i hne
        have hv : Ahead v x := ⟨less_not (by simpa using hl), fun e => hne e.symm⟩
        exact List.pairwise_cons.2 ⟨fun u hu => by
          rcases List.mem_cons.1 hu with rfl | hm
          · exact hv
          · exact hv.trans (h1 u hm), h⟩
theorem doms_same (ns : List NodeD) (key : List UInt8) : ∀ k, (domsR ns key k).Pairwise Ahead ∧ ∀ u, u ∈ domsR ns key k ↔ u ∈ strKeys (domsU ns key k)
  | 0 => ⟨List.Pairwise.nil, fun u => by
    show u ∈ [] ↔ u ∈ strKeys (.map [])
    simp [strKeys]⟩
  | k + 1 => by
    obtain ⟨h1, h2⟩ := doms_same ns key k
    rw [domsR, domsU]
    cases hd : domF ns (k : Int) key with
    | none => exact ⟨h1, h2⟩
    | some v =>
      refine ⟨ins_rises v _ h1, fun u => ?_⟩
      dsimp only
      rw [ins_mem, mem_put (keyed_doms ns key k).1, h2]
theorem doms_sort (ns : List NodeD) (key : List UInt8) (k : Nat) : sortK (domsU ns key k) = domsR ns key k := by
  obtain ⟨h1, h2⟩ := doms_same ns key k
  have hnd : (domsR ns key k).Nodup := h1.imp (fun h => h.2)
  have hp : (domsR ns key k).Perm (strKeys (domsU ns key k)) := (List.perm_ext_iff_of_nodup hnd (keyed_doms ns key k).1.once).2 h2
  have e := mergeSort_of_perm hp
  unfold sortK
  rw [← e]
  exact List.mergeSort_of_pairwise (h1.imp (fun h => decide_eq_true h.1))
theorem domsF_eq (ns : List NodeD) (ps : List PodD) (os : List OwnD) (key : List UInt8) : domsF ns ps os key = if checkS ns ps os = 0 then domsR ns key ns.length else [] := by
  unfold domsF emptyD
  rw [doms_sort]

set_option maxRecDepth 100000 in
set_option maxHeartbeats 8000000 in
theorem domains7_any (A B C : Option Addr) (ca cb cc : Nat) (ns : List NodeD) (ps : List PodD) (os : List OwnD) (key : List UInt8) (w : World) (h : SnapAt w A B C ca cb cc ns ps os) :
    Calls Tryz.prog 94 #[snapV A B C ca cb cc ns ps os, strV key] w fun e w' => ∃ v, e = .returned v ∧ w'.ownsRow w.heap.size 9 1 v (domsR ns key ns.length).length (strC (domsR ns key ns.length)) ∧ Below w.heap.size w w' := by
  have H := Lib.hid h
  have hln := h.ln
  have B0 : Hid (Below w.heap.size w (w.alloc (.cells (snapC A B C ca cb cc ns ps os) 26))) := Lib.hid (below1 w _)
  have S0 : Hid (Blk (w.alloc (.cells (snapC A B C ca cb cc ns ps os) 26)) w.heap.size (snapC A B C ca cb cc ns ps os) 26) := Lib.hid (Blk.new w _ _)
  obtain ⟨is, his, hzs0, hzs1, hzs2⟩ := info_parts str_infoD
  clear h
  go_enter Tryz.func94, Tryz.ntmps94
  go_wp2_with fail
  generalize (w.alloc (.cells (snapC A B C ca cb cc ns ps os) 26)) = W at B0 S0 ⊢
  go_loopw [6, 5] (fun i v wr => ∃ k : Nat, k ≤ ns.length ∧ i = .int .i64 k ∧ wr.ownsRow w.heap.size 9 1 v (domsR ns key k).length (strC (domsR ns key k)) ∧ Below w.heap.size w wr ∧ Blk wr w.heap.size (snapC A B C ca cb cc ns ps os) 26) (fun i _ _ => ns.length - (intOf i).toNat)
  case atStart => exact ⟨0, by omega, rfl, World.ownsRow_nil _ _ _ _, B0.out, S0.out⟩
  case round =>
    clear B0 S0
    obtain ⟨k, hk, rfl, hown, hbw, hsk⟩ := hrel
    have HO := Lib.hid hown
    have HB := Lib.hid hbw
    have HS := Lib.hid hsk
    clear hown hbw hsk
    have s0 : wr.cell? ⟨w.heap.size, 0, none⟩ = some (.slice A ns.length ca) := Blk.cell HS.out 0
    by_cases hlt : k < ns.length
    case neg =>
      obtain rfl : k = ns.length := by omega
      go_wp2
      go_ret
      exact ⟨_, rfl, HO.out, HB.out⟩
    obtain ⟨x, hx⟩ : ∃ x, ns[k]? = some x := ⟨ns[k], List.getElem?_eq_getElem hlt⟩
    have HX := Lib.hid hx
    have KV := Lib.hid (valueOf_any x key wr ((H.out.below HB.out).n.fit x (List.mem_of_getElem? hx)))
    obtain ⟨b, o, hA, hbl, c0, c1, c2, c3, c4, c5, c6, c7, c8, c9⟩ := atN (H.out.below HB.out).n.cells hx
    subst hA
    have Hd : Hid (domsR ns key (k + 1) = match valK x key with | some v => insS v (domsR ns key k) | none => domsR ns key k) := Lib.hid (by rw [domsR, domF_at HX.out])
    have k0 : (0 : Int) ≤ (k : Int) := by omega
    have k1 : (k : Int) < (ns.length : Int) := by omega
    have hDl := domsR_len ns key k
    clear hx
    generalize valK x key = V at KV Hd
    generalize domsR ns key k = D at HO Hd hDl
    go_wp2_with fail
    refine (KV.out).mono ?_
    rintro e w1 ⟨rfl, hb⟩
    have B1 := Lib.hid (HB.out.trans (hb.mono HB.out.size))
    have S1 := Lib.hid (HS.out.below hb HS.out.lt)
    have O1 := Lib.hid (La.own_below HO.out hb)
    clear hb KV HO HB HS s0 c0 c1 c2 c3 c4 c5 c6 c7 c8 c9
    obtain ⟨Q, cq, rfl, _⟩ := La.own_slice O1.out
    cases V with
    | none =>
      have HE : Hid (domsR ns key (k + 1) = D) := Hd
      go_wp2_with fail
      go_roundw
      case rel => exact ⟨k + 1, by omega, by go_num, by rw [HE.out]; exact O1.out, B1.out, S1.out⟩
      case measure => simp [intOf]; omega
    | some v =>
      have HE : Hid (domsR ns key (k + 1) = insS v D) := Hd
      clear Hd
      cases Q with
      | none =>
        obtain rfl : D = [] := by
          cases D with
          | nil => rfl
          | cons z t =>
            obtain ⟨b', o', hA, _⟩ := La.own_slat O1.out 0 (strV z) rfl
            cases hA
        obtain rfl : cq = 0 := by
          rcases O1.out.2 with ⟨hv, _⟩ | ⟨g, cap, cur, hv, _⟩
          · simp only [Value.slice.injEq] at hv
            exact hv.2.2
          · cases hv
        simp only [List.length_nil]
        go_wp2_with fail
        go_loopw [9] (fun i wq => w1 = wq ∧ i = .int .i64 0) (fun i _ => 0)
        case atStart => exact ⟨rfl, rfl⟩
        case round =>
          obtain ⟨rfl, rfl⟩ := hrel
          have e9 : ¬ (0 : Int) < 0 := by omega
          go_wp2_with (at_builtin; first | (refine wpList_append_own_none rfl _ _ 133 rfl w1.heap.size 9 is 1 Tryz.underlying133 his _ _ _ rfl (World.ownsRow_nil _ _ _ _) rfl ?_) | (refine wpList_append_own _ rfl _ _ 133 rfl w1.heap.size 9 is (.string ⟨#[]⟩) 1 16 Tryz.underlying133 his hzs0 hzs1 hzs2 rfl (by decide) _ _ _ rfl (World.ownsRow_nil _ _ _ _) ⟨w1.heap.size, 0, none⟩ 1 1 [strV v] rfl rfl ?d1_1 ?d2_1 ?d3_1 ?d4_1 ?d5_1 ?_))
          try (case d1_1 => (intro j u hj; match j, hj with | 0, hj => simp at hj; subst hj; first | (simp [Addr.add, go_sem]; done) | exact Blk.cell (Blk.new _ _ _) 0))
          try (case d2_1 => (first | rfl | (intro u hu; simp at hu; subst hu; rfl)))
          try (case d3_1 => (unfold maxLen; omega))
          try (case d4_1 => omega)
          try (case d5_1 => simp)
          intro v3 w3 hown3 hgrow3 _
          have P3 := Lib.hid hown3
          have D3 := Lib.hid (((Below.refl w1.heap.size w1).alloc (Nat.le_refl _) (.cells #[strV v] 9)).grown hgrow3 (by simp) (fun j hj => by cases hj))
          have B4 := Lib.hid (B1.out.trans (D3.out.mono B1.out.size))
          have S4 := Lib.hid (S1.out.below D3.out S1.out.lt)
          clear hown3 hgrow3
          go_wp2_with (at_builtin; refine wpList_append_own_none rfl _ _ 133 rfl w1.heap.size 9 is 1 Tryz.underlying133 his _ _ _ rfl P3.out rfl ?_)
          go_wp2_with fail
          go_roundw
          case rel =>
            refine ⟨k + 1, by omega, by go_num, ?_, B4.out, S4.out⟩
            rw [HE.out]
            have q := own_base P3.out B1.out.size
            exact q
          case measure => simp [intOf]; omega
      | some ad =>
        obtain ⟨g, hg⟩ : ∃ g, ad = ⟨g, 0, none⟩ := by
          rcases O1.out.2 with ⟨hv, _⟩ | ⟨g, cap, cur, hv, _⟩
          · cases hv
          · exact ⟨g, by simp only [Value.slice.injEq, Option.some.injEq] at hv; exact hv.1⟩
        subst hg
        have hcap := (capOwn O1.out).1
        have hcap2 := (capOwn O1.out).2
        go_wp2_with fail
        go_loopw [9] (fun i wq => w1 = wq ∧ ∃ m : Nat, m ≤ D.length ∧ i = .int .i64 m ∧ (∀ (j : Nat) (y : List UInt8), j < m → D[j]? = some y → Op.bytesLess y v = true)) (fun i _ => D.length - (intOf i).toNat)
        case atStart => exact ⟨rfl, 0, by omega, rfl, fun j y h => by omega⟩
        case round =>
          obtain ⟨rfl, m, hm, rfl, hn⟩ := hrel
          have HN := Lib.hid hn
          clear hn
          have m0 : (0 : Int) ≤ (m : Int) := by omega
          have m3 : (m : Int) ≤ (cq : Int) := by omega
          have m4 : (D.length : Int) ≤ (cq : Int) := by omega
          have m5 : (m : Int) ≤ (D.length : Int) := by omega
          have m6 : m ≤ cq := by omega
          have m7 : decide (m ≤ cq) = true := decide_eq_true m6
          have m8 : decide (m ≤ D.length) = true := decide_eq_true hm
          by_cases hml : m < D.length
          case neg =>
            have hmD : m = D.length := by omega
            have e1 : ¬ (m : Int) < (D.length : Int) := by omega
            have e2 : decide (m < D.length) = false := decide_eq_false hml
            have HE2 : Hid (domsR ns key (k + 1) = D.take m ++ v :: D.drop m) := Lib.hid (by
              rw [HE.out, ins_at v D m hm HN.out (fun z hz => by rw [List.getElem?_eq_none (by omega)] at hz; cases hz), List.getElem?_eq_none (by omega)]
              simp)
            have HmD := Lib.hid hmD
            clear hmD
            go_wp2_with (at_builtin; refine wpList_append_own _ rfl _ _ 133 rfl w1.heap.size 9 is (.string ⟨#[]⟩) 1 16 Tryz.underlying133 his hzs0 hzs1 hzs2 rfl (by decide) _ _ _ rfl (World.ownsRow_nil _ _ _ _) ⟨g, 0, none⟩ m cq (strC (D.take m)) rfl ?c0_2 ?c1_2 ?c2_2 ?c3_2 ?c4_2 ?c5_2 ?_)
            try (case c0_2 => (simp [strC]; omega))
            case c1_2 =>
              intro j u hj
              have hj' : (strC D)[j]? = some u := by first | exact flat_take1 hj | exact flat_take1 (by simpa [strC] using hj)
              obtain ⟨b', o', hA, hc⟩ := La.own_slat O1.out j u hj'
              cases hA
              first | exact hc | (rw [WideShapes.add_plain]; exact hc) | simpa using hc | (rw [WideShapes.add_plain]; simpa using hc)
            case c2_2 =>
              intro u hu
              obtain ⟨z, _, rfl⟩ := List.mem_map.1 (by first | exact List.mem_of_mem_take hu | exact List.mem_of_mem_take (by simpa [strC] using hu) : u ∈ List.map strV D)
              rfl
            try (case c3_2 => (unfold maxLen; omega))
            try (case c4_2 => omega)
            try (case c5_2 => exact Nat.le_refl _)
            intro v2 w2 hown2 hgrow2 _
            have P2 := Lib.hid hown2
            have D2 := Lib.hid ((Below.refl w1.heap.size w1).grown hgrow2 (Nat.le_refl _) (fun j hj => by cases hj))
            clear hown2 hgrow2
            go_wp2_with (at_builtin; refine wpList_append_own _ rfl _ _ 133 rfl w1.heap.size 9 is (.string ⟨#[]⟩) 1 16 Tryz.underlying133 his hzs0 hzs1 hzs2 rfl (by decide) _ _ _ rfl (P2.out.alloc _) ⟨w2.heap.size, 0, none⟩ 1 1 [strV v] rfl rfl ?d1_2 ?d2_2 ?d3_2 ?d4_2 ?d5_2 ?_)
            case d1_2 =>
              intro j u hj
              match j, hj with
              | 0, hj => simp at hj; subst hj; first | (simp [Addr.add, go_sem]; done) | exact Blk.cell (Blk.new _ _ _) 0
            case d2_2 => first | rfl | (intro u hu; simp at hu; subst hu; rfl)
            case d3_2 => unfold maxLen; omega
            case d4_2 => omega
            case d5_2 => have := D2.out.size; simp; omega
            intro v3 w3 hown3 hgrow3 _
            have P3 := Lib.hid hown3
            have D3 := Lib.hid ((D2.out.alloc D2.out.size (.cells #[strV v] 9)).grown hgrow3 (by have := D2.out.size; simp; omega) (fun j hj => own_gem P2.out hj))
            have Q3 := Lib.hid (La.own_slat (La.own_below O1.out D3.out))
            clear hown3 hgrow3 P2
            by_cases hmc : m = cq
            · have hmci : (m : Int) = (cq : Int) := by omega
              go_wp2_with (at_builtin; refine wpList_append_own _ rfl _ _ 133 rfl w1.heap.size 9 is (.string ⟨#[]⟩) 1 16 Tryz.underlying133 his hzs0 hzs1 hzs2 rfl (by decide) _ _ _ rfl P3.out ⟨g, 0, none⟩ 0 0 [] rfl ?f0_2 ?f1_2 ?f2_2 ?f3_2 ?f4_2 ?f5_2 ?_)
              try (case f0_2 => simp)
              case f1_2 => (intro j u hj; simp at hj)
              case f2_2 => (intro u hu; simp at hu)
              try (case f3_2 => (unfold maxLen; omega))
              try (case f4_2 => omega)
              try (case f5_2 => exact D3.out.size)
              intro v4 w4 hown4 hgrow4 _
              have P4 := Lib.hid hown4
              have D4 := Lib.hid (D3.out.grown hgrow4 D3.out.size (fun j hj => own_gem P3.out hj))
              have B4 := Lib.hid (B1.out.trans (D4.out.mono B1.out.size))
              have S4 := Lib.hid (S1.out.below D4.out S1.out.lt)
              clear hown4 hgrow4
              go_wp2_with fail
              go_roundw
              case rel =>
                refine ⟨k + 1, by omega, by go_num, ?_, B4.out, S4.out⟩
                rw [HE2.out]
                have q := own_base P4.out B1.out.size
                have e1 : (D.take m ++ v :: D.drop m).length = m + 1 := by have := HmD.out; simp; omega
                rw [e1]
                have e3 : D.drop m = [] := List.drop_eq_nil_of_le (by have := HmD.out; omega)
                rw [e3]
                first | exact q | simpa [strC] using q | simpa [strC, hmc] using q | (rw [hmc]; simpa [strC] using q)
              case measure => simp [intOf]; omega
            · have hmci : ¬ (m : Int) = (cq : Int) := by omega
              have hmcb : (m == cq) = false := by simpa using hmc
              go_wp2_with (at_builtin; refine wpList_append_own _ rfl _ _ 133 rfl w1.heap.size 9 is (.string ⟨#[]⟩) 1 16 Tryz.underlying133 his hzs0 hzs1 hzs2 rfl (by decide) _ _ _ rfl P3.out ⟨g, m, none⟩ (D.length - m) (cq - m) (strC (D.drop m)) rfl ?e0_2 ?e1_2 ?e2_2 ?e3_2 ?e4_2 ?e5_2 ?_)
              try (case e0_2 => simp [strC])
              case e1_2 =>
                intro j u hj
                have hj' : (strC D)[m + j]? = some u := by first | (rw [List.getElem?_drop] at hj; exact hj) | (rw [strC, List.map_drop, List.getElem?_drop] at hj; exact hj) | exact hj | (have q : ((strC D).drop m)[j]? = some u := (by simpa [strC] using hj); rwa [List.getElem?_drop] at q)
                obtain ⟨b', o', hA, hc⟩ := Q3.out (m + j) u hj'
                cases hA
                rw [Nat.zero_add] at hc
                first | exact hc | (rw [WideShapes.add_plain]; exact hc) | simpa using hc
              case e2_2 =>
                intro u hu
                obtain ⟨z, _, rfl⟩ := List.mem_map.1 (by first | exact List.mem_of_mem_drop hu | exact List.mem_of_mem_drop (by simpa [strC] using hu) : u ∈ List.map strV D)
                rfl
              try (case e3_2 => (unfold maxLen; omega))
              try (case e4_2 => omega)
              try (case e5_2 => exact D3.out.size)
              intro v4 w4 hown4 hgrow4 _
              have P4 := Lib.hid hown4
              have D4 := Lib.hid (D3.out.grown hgrow4 D3.out.size (fun j hj => own_gem P3.out hj))
              have B4 := Lib.hid (B1.out.trans (D4.out.mono B1.out.size))
              have S4 := Lib.hid (S1.out.below D4.out S1.out.lt)
              clear hown4 hgrow4
              go_wp2_with fail
              go_roundw
              case rel =>
                refine ⟨k + 1, by omega, by go_num, ?_, B4.out, S4.out⟩
                rw [HE2.out]
                have q := own_base P4.out B1.out.size
                have e1 : (D.take m ++ v :: D.drop m).length = m + 1 + (D.length - m) := by simp; omega
                rw [e1]
                first | exact q | simpa [strC] using q
              case measure => simp [intOf]; omega
          obtain ⟨y, hy⟩ : ∃ y, D[m]? = some y := ⟨D[m], List.getElem?_eq_getElem hml⟩
          obtain ⟨b2, o2, hA2, hbl2, hcy⟩ := strC_at (La.own_slat O1.out) hy
          cases hA2
          rw [Nat.zero_add] at hcy
          have m1 : (m : Int) < (D.length : Int) := by omega
          have m2 : decide (m < D.length) = true := decide_eq_true hml
          have HY := Lib.hid hy
          clear hy
          cases hl : Op.bytesLess y v
          case true =>
            have HL := Lib.hid hl
            go_wp2_with fail
            go_roundw
            case rel =>
              refine ⟨by first | rfl | trivial, m + 1, by omega, by go_num, fun j z hj hz => ?_⟩
              by_cases hjm : j = m
              · subst hjm
                rw [HY.out] at hz
                cases hz
                exact HL.out
              · exact HN.out j z (by omega) hz
            case measure => simp [intOf]; omega
          have HI : Hid (insS v D = if y = v then D else D.take m ++ v :: D.drop m) := Lib.hid (by
            rw [ins_at v D m (by omega) HN.out (fun z hz => by rw [HY.out] at hz; cases hz; exact hl), HY.out]
            simp only [Option.some.injEq])
          by_cases hyv : y = v
          · have hyb : (y == v) = true := by simpa using hyv
            have HE2 : Hid (domsR ns key (k + 1) = D) := Lib.hid (by rw [HE.out, HI.out, if_pos hyv])
            clear hyv
            go_wp2_with fail
            go_roundw
            case rel => exact ⟨k + 1, by omega, by go_num, by rw [HE2.out]; exact O1.out, B1.out, S1.out⟩
            case measure => simp [intOf]; omega
          have hyb : (y == v) = false := by simpa using hyv
          have HE2 : Hid (domsR ns key (k + 1) = D.take m ++ v :: D.drop m) := Lib.hid (by rw [HE.out, HI.out, if_neg hyv])
          clear hyv
          go_wp2_with (at_builtin; refine wpList_append_own _ rfl _ _ 133 rfl w1.heap.size 9 is (.string ⟨#[]⟩) 1 16 Tryz.underlying133 his hzs0 hzs1 hzs2 rfl (by decide) _ _ _ rfl (World.ownsRow_nil _ _ _ _) ⟨g, 0, none⟩ m cq (strC (D.take m)) rfl ?c0_3 ?c1_3 ?c2_3 ?c3_3 ?c4_3 ?c5_3 ?_)
          try (case c0_3 => (simp [strC]; omega))
          case c1_3 =>
            intro j u hj
            have hj' : (strC D)[j]? = some u := by first | exact flat_take1 hj | exact flat_take1 (by simpa [strC] using hj)
            obtain ⟨b', o', hA, hc⟩ := La.own_slat O1.out j u hj'
            cases hA
            first | exact hc | (rw [WideShapes.add_plain]; exact hc) | simpa using hc | (rw [WideShapes.add_plain]; simpa using hc)
          case c2_3 =>
            intro u hu
            obtain ⟨z, _, rfl⟩ := List.mem_map.1 (by first | exact List.mem_of_mem_take hu | exact List.mem_of_mem_take (by simpa [strC] using hu) : u ∈ List.map strV D)
            rfl
          try (case c3_3 => (unfold maxLen; omega))
          try (case c4_3 => omega)
          try (case c5_3 => exact Nat.le_refl _)
          intro v2 w2 hown2 hgrow2 _
          have P2 := Lib.hid hown2
          have D2 := Lib.hid ((Below.refl w1.heap.size w1).grown hgrow2 (Nat.le_refl _) (fun j hj => by cases hj))
          clear hown2 hgrow2
          go_wp2_with (at_builtin; refine wpList_append_own _ rfl _ _ 133 rfl w1.heap.size 9 is (.string ⟨#[]⟩) 1 16 Tryz.underlying133 his hzs0 hzs1 hzs2 rfl (by decide) _ _ _ rfl (P2.out.alloc _) ⟨w2.heap.size, 0, none⟩ 1 1 [strV v] rfl rfl ?d1_3 ?d2_3 ?d3_3 ?d4_3 ?d5_3 ?_)
          case d1_3 =>
            intro j u hj
            match j, hj with
            | 0, hj => simp at hj; subst hj; first | (simp [Addr.add, go_sem]; done) | exact Blk.cell (Blk.new _ _ _) 0
          case d2_3 => first | rfl | (intro u hu; simp at hu; subst hu; rfl)
          case d3_3 => unfold maxLen; omega
          case d4_3 => omega
          case d5_3 => have := D2.out.size; simp; omega
          intro v3 w3 hown3 hgrow3 _
          have P3 := Lib.hid hown3
          have D3 := Lib.hid ((D2.out.alloc D2.out.size (.cells #[strV v] 9)).grown hgrow3 (by have := D2.out.size; simp; omega) (fun j hj => own_gem P2.out hj))
          have Q3 := Lib.hid (La.own_slat (La.own_below O1.out D3.out))
          clear hown3 hgrow3 P2
          go_wp2_with (at_builtin; refine wpList_append_own _ rfl _ _ 133 rfl w1.heap.size 9 is (.string ⟨#[]⟩) 1 16 Tryz.underlying133 his hzs0 hzs1 hzs2 rfl (by decide) _ _ _ rfl P3.out ⟨g, m, none⟩ (D.length - m) (cq - m) (strC (D.drop m)) rfl ?e0_3 ?e1_3 ?e2_3 ?e3_3 ?e4_3 ?e5_3 ?_)
          try (case e0_3 => simp [strC])
          case e1_3 =>
            intro j u hj
            have hj' : (strC D)[m + j]? = some u := by first | (rw [List.getElem?_drop] at hj; exact hj) | (rw [strC, List.map_drop, List.getElem?_drop] at hj; exact hj) | exact hj | (have q : ((strC D).drop m)[j]? = some u := (by simpa [strC] using hj); rwa [List.getElem?_drop] at q)
            obtain ⟨b', o', hA, hc⟩ := Q3.out (m + j) u hj'
            cases hA
            rw [Nat.zero_add] at hc
            first | exact hc | (rw [WideShapes.add_plain]; exact hc) | simpa using hc
          case e2_3 =>
            intro u hu
            obtain ⟨z, _, rfl⟩ := List.mem_map.1 (by first | exact List.mem_of_mem_drop hu | exact List.mem_of_mem_drop (by simpa [strC] using hu) : u ∈ List.map strV D)
            rfl
          try (case e3_3 => (unfold maxLen; omega))
          try (case e4_3 => omega)
          try (case e5_3 => exact D3.out.size)
          intro v4 w4 hown4 hgrow4 _
          have P4 := Lib.hid hown4
          have D4 := Lib.hid (D3.out.grown hgrow4 D3.out.size (fun j hj => own_gem P3.out hj))
          have B4 := Lib.hid (B1.out.trans (D4.out.mono B1.out.size))
          have S4 := Lib.hid (S1.out.below D4.out S1.out.lt)
          clear hown4 hgrow4
          go_wp2_with fail
          go_roundw
          case rel =>
            refine ⟨k + 1, by omega, by go_num, ?_, B4.out, S4.out⟩
            rw [HE2.out]
            have q := own_base P4.out B1.out.size
            have e1 : (D.take m ++ v :: D.drop m).length = m + 1 + (D.length - m) := by simp; omega
            rw [e1]
            first | exact q | simpa [strC] using q
          case measure => simp [intOf]; omega

end Go.Proofs.YtfpbdfagcfdbbaaGreat

namespace Go.Proofs.YtfpbdfagcfdbbaaGreat
open Go.RowKit

end Go.Proofs.YtfpbdfagcfdbbaaGreat

namespace Go.Proofs.YtfpbdfagcfdbbaaGreat
open Go.RowKit Go.Shelf Go.Maps Go.Sort

theorem members_in (ps : List PodD) (name : List UInt8) : ∀ n, ∀ y ∈ membersU ps name n, 0 ≤ y ∧ y < (n : Int)
  | 0, y, h => by cases h
  | n + 1, y, h => by
    rw [membersU, List.mem_append] at h
    rcases h with h | h
    · have := members_in ps name n y h
      omega
    · cases hn : ps[n]? with
      | none => rw [hn] at h; cases h
      | some x =>
        rw [hn] at h
        dsimp only at h
        by_cases e : x.owner = name
        · rw [if_pos e] at h
          simp only [List.mem_singleton] at h
          omega
        · rw [if_neg e] at h
          cases h
theorem off_in {ns : List NodeD} {ps : List PodD} {os : List OwnD} {p : List Int} (hE : placeE ns ps os p = 0) (name : List UInt8) : ∀ y ∈ offL p (membersF ps name), ∃ x, p[y]? = some x ∧ 0 ≤ x ∧ x < (ns.length : Int) := by
  intro y hy
  unfold offL at hy
  obtain ⟨h1, h2⟩ := List.mem_filter.1 hy
  obtain ⟨z, hz, rfl⟩ := List.mem_map.1 h1
  have h3 := members_in ps name ps.length z hz
  have hl := placeE_len hE
  have hlt : z.toNat < p.length := by omega
  refine ⟨p[z.toNat], List.getElem?_eq_getElem hlt, ?_⟩
  have h4 : p[z.toNat] ≠ -1 := by
    intro e
    rw [List.getElem?_eq_getElem hlt, e] at h2
    simp at h2
  obtain ⟨n, hn, hn2⟩ := tpB_lt (placeE_on hE (List.getElem?_eq_getElem hlt) h4)
  omega

theorem sums_of {ns : List NodeD} {ps : List PodD} {os : List OwnD} {p : List Int} (hE : placeE ns ps os p = 0) (hl : ps.length ≤ 1000) {j : Nat} {x : OwnD} (hx : os[j]? = some x) :
    (countsF ns ps os p j).length = ns.length ∧ (spreadF ns ps os p j).length = (domsF ns ps os x.topo).length ∧ (countsF ns ps os p j).sum = placedF ns ps os p j ∧ placedF ns ps os p j ≤ 1000 ∧ (spreadF ns ps os p j).sum ≤ placedF ns ps os p j ∧ (∀ z ∈ countsF ns ps os p j, 0 ≤ z) ∧ ∀ z ∈ spreadF ns ps os p j, 0 ≤ z := by
  have hj := (List.getElem?_eq_some_iff.1 hx).1
  have hO : ownerB ns ps os p (j : Int) = true := by
    unfold ownerB
    rw [decide_eq_true hE, decide_eq_true (by omega)]
    rfl
  have hC : checkS ns ps os = 0 := (placeE_zero hE).1
  have e1 : ofF ps os p (j : Int) = offL p (membersF ps x.name) := by
    unfold ofF
    rw [Int.toNat_natCast, hx]
  have e2 : countsF ns ps os p (j : Int) = cntL ns.length p (offL p (membersF ps x.name)) := by
    unfold countsF
    rw [if_pos hO, e1]
  have e3 : placedF ns ps os p (j : Int) = ((offL p (membersF ps x.name)).length : Int) := by
    unfold placedF
    rw [if_pos hO, e1]
  have e4 : spreadF ns ps os p (j : Int) = rowD (spreadD ns x.topo p (offL p (membersF ps x.name))) := by
    unfold spreadF
    rw [if_pos hO, Int.toNat_natCast, hx]
  have e5 : domsF ns ps os x.topo = sortK (emptyD ns x.topo) := by
    unfold domsF
    rw [if_pos hC]
  have hle : (offL p (membersF ps x.name)).length ≤ 1000 := Nat.le_trans (offL_len _ _) (Nat.le_trans (membersU_len ps x.name ps.length) hl)
  have hS := spread_all ns x.topo p (offL p (membersF ps x.name)) hle
  have hin := off_in hE x.name
  rw [e2, e3, e4, e5]
  generalize offL p (membersF ps x.name) = ys at hle hS hin
  refine ⟨cntL_len _ _ _, ?_, cnt_sum _ _ _ hin, by omega, ?_, cnt_pos _ _ _, ?_⟩
  · unfold rowD
    rw [List.length_map]
    unfold sortK
    rw [List.length_mergeSort, List.length_mergeSort]
    exact hS.keys.length_eq
  · rw [rowD_sum]
    exact hS.sum
  · intro z hz
    unfold rowD at hz
    obtain ⟨v, _, rfl⟩ := List.mem_map.1 hz
    exact (hS.vals v).1
end Go.Proofs.YtfpbdfagcfdbbaaGreat

namespace Go.Proofs.YtfpbdfagcfdbbaaGreat
open Go.RowKit Go.Maps Go.Sort

theorem atP_req {w : World} {b o k : Nat} {x : PodD} (c2 : w.cell? ⟨b, o + k * 15 + 2, none⟩ = some (.int .i64 (x.req 0))) (c3 : w.cell? ⟨b, o + k * 15 + 3, none⟩ = some (.int .i64 (x.req 1))) (c4 : w.cell? ⟨b, o + k * 15 + 4, none⟩ = some (.int .i64 (x.req 2))) (c5 : w.cell? ⟨b, o + k * 15 + 5, none⟩ = some (.int .i64 (x.req 3))) (c6 : w.cell? ⟨b, o + k * 15 + 6, none⟩ = some (.int .i64 (x.req 4))) :
    ∀ j, j < 5 → w.cell? ⟨b, o + k * 15 + 2 + j, none⟩ = some (.int .i64 (x.req j)) := fun j hj => by
  match j, hj with
  | 0, _ => exact c2
  | 1, _ => exact c3
  | 2, _ => exact c4
  | 3, _ => exact c5
  | 4, _ => exact c6

set_option maxRecDepth 100000 in
set_option maxHeartbeats 4000000 in
theorem usedOf7_any (A B C P : Option Addr) (ca cb cc cp : Nat) (ns : List NodeD) (ps : List PodD) (os : List OwnD) (p : List Int) (node : Int) (w : World) (h : SnapAt w A B C ca cb cc ns ps os) (hp : IntsAt w P cp p) (hpl : p.length = ps.length) :
    Calls Tryz.prog 63 #[snapV A B C ca cb cc ns ps os, .slice P p.length cp, .int .i64 node] w fun e w' => e = .returned (rowV (addW ps (onU p node p.length))) ∧ Below w.heap.size w w' := by
  have hlp := h.lp
  have H := Lib.hid h
  have HP := Lib.hid hp
  have B0 : Hid (Below w.heap.size w (((w.alloc (.cells (snapC A B C ca cb cc ns ps os) 26)).alloc (.cells zer5 60)).alloc (.cells zer5 60))) := Lib.hid ((Qu.below2 w _ _).alloc (by simp; omega) _)
  have S0 : Hid (Blk (((w.alloc (.cells (snapC A B C ca cb cc ns ps os) 26)).alloc (.cells zer5 60)).alloc (.cells zer5 60)) w.heap.size (snapC A B C ca cb cc ns ps os) 26) := Lib.hid (Blk.alloc (Blk.alloc (Blk.new w _ _) _) _)
  have R0 : Hid (Blk (((w.alloc (.cells (snapC A B C ca cb cc ns ps os) 26)).alloc (.cells zer5 60)).alloc (.cells zer5 60)) (w.heap.size + 1) zer5 60) := Lib.hid (Blk.alloc (blk2 w _ _ _) _)
  have U0 : Hid (Qu.RowAt (((w.alloc (.cells (snapC A B C ca cb cc ns ps os) 26)).alloc (.cells zer5 60)).alloc (.cells zer5 60)) (w.heap.size + 1 + 1) (addW ps (onU p node 0))) := Lib.hid (blk3 w _ _ _ _)
  clear h hp
  go_enter Tryz.func63, Tryz.ntmps63
  go_wp2_with fail
  change Code.wp _ _ _ _ (((w.alloc (.cells (snapC A B C ca cb cc ns ps os) 26)).alloc (.cells zer5 60)).alloc (.cells zer5 60))
  generalize (((w.alloc (.cells (snapC A B C ca cb cc ns ps os) 26)).alloc (.cells zer5 60)).alloc (.cells zer5 60)) = W0 at B0 S0 R0 U0 ⊢
  go_loopw [8] (fun i wr => ∃ k : Nat, k ≤ p.length ∧ i = .int .i64 k ∧ Blk wr w.heap.size (snapC A B C ca cb cc ns ps os) 26 ∧ Blk wr (w.heap.size + 1) zer5 60 ∧ Qu.RowAt wr (w.heap.size + 1 + 1) (addW ps (onU p node k)) ∧ Below w.heap.size w wr) (fun i _ => p.length - (intOf i).toNat)
  case atStart => exact ⟨0, by omega, rfl, S0.out, R0.out, U0.out, B0.out⟩
  case round =>
    clear S0 R0 U0 B0
    obtain ⟨k, hk, rfl, hS, hR, hU, hB⟩ := hrel
    have HS := Lib.hid hS
    have HR := Lib.hid hR
    have HU := Lib.hid hU
    have HB := Lib.hid hB
    clear hS hR hU hB
    by_cases hlt : k < p.length
    case neg =>
      obtain rfl : k = p.length := by omega
      go_wp2_with (first | refine wpList_load_row rfl 60 (.tmp 7) rfl (w.heap.size + 1 + 1) rfl 60 _ (0, 0) _ HU.out Tryz.underlying60 rfl Qu.vec_size ?_ | refine wpList_store_row rfl 60 (.tmp 6) (.tmp 42) rfl (w.heap.size + 1) _ rfl rfl 60 _ HR.out Qu.vec_size (by kernel_rfl) (by kernel_rfl) ?_)
      refine bodyPost_row1 Tryz.results63 (w.heap.size + 1) _ _ _ _ ?d1 ?p1 (Blk.put HR.out #[.int .i64 (addW ps (onU p node p.length) 0), .int .i64 (addW ps (onU p node p.length) 1), .int .i64 (addW ps (onU p node p.length) 2), .int .i64 (addW ps (onU p node p.length) 3), .int .i64 (addW ps (onU p node p.length) 4)]) Tryz.underlying60 rfl Qu.vec_size ?_
      case d1 => rfl
      case p1 => rfl
      exact ⟨rfl, below_setRow HB.out (by omega) _⟩
    obtain ⟨x, hx⟩ : ∃ x, p[k]? = some x := ⟨p[k], List.getElem?_eq_getElem hlt⟩
    obtain ⟨bp, op, hAp, hbp, hcp⟩ := atI (HP.out.below HB.out).cells hx
    subst hAp
    obtain ⟨y, hy⟩ : ∃ y, ps[k]? = some y := ⟨ps[k]'(by omega), List.getElem?_eq_getElem _⟩
    obtain ⟨b, o, hA, hbl, c0, c1, c2, c3, c4, c5, c6, c7, c8, c9, c10, c11, c12, c13, c14⟩ := atP (H.out.below HB.out).p.cells hy
    subst hA
    have k0 : (0 : Int) ≤ (k : Int) := by omega
    have k1 : (k : Int) < (p.length : Int) := by omega
    have k2 : (k : Int) < (ps.length : Int) := by omega
    have HX := Lib.hid hx
    have HY := Lib.hid hy
    clear hx hy c0 c1 c2 c3 c4 c5 c6 c7 c8 c9 c10 c11 c12 c13 c14
    by_cases hxn : x = node
    case neg =>
      have hxb : (x == node) = false := by simpa using hxn
      have HE : Hid (onU p node (k + 1) = onU p node k) := Lib.hid (by
        rw [onU, HX.out, if_neg (by simpa using hxn), List.append_nil])
      go_wp2_with fail
      go_loopw [9] (fun i wq => wr = wq ∧ i = .int .i64 0) (fun i _ => 0)
      case atStart => exact ⟨rfl, rfl⟩
      case round =>
        obtain ⟨rfl, rfl⟩ := hrel
        go_wp2_with fail
        go_roundw
        case rel => exact ⟨k + 1, by omega, by go_num, HS.out, HR.out, by rw [HE.out]; exact HU.out, HB.out⟩
        case measure => simp [intOf]; omega
    case pos =>
      subst hxn
      have HE : Hid (onU p x (k + 1) = onU p x k ++ [k]) := Lib.hid (by
        rw [onU, HX.out, if_pos rfl])
      have HQ : Hid (∀ j, addW ps (onU p x (k + 1)) j = wrap64 (addW ps (onU p x k) j + y.req j)) := Lib.hid (fun j => by
        rw [HE.out, addW_snoc ps _ k y HY.out])
      generalize addW ps (onU p x k) = a at HU HQ
      have hxb : (x == x) = true := by simp
      go_wp2_with fail
      go_loopw [9] (fun i wq => ∃ j : Nat, j ≤ 5 ∧ i = .int .i64 j ∧ Blk wq w.heap.size (snapC A (some ⟨b, o, none⟩) C ca cb cc ns ps os) 26 ∧ Blk wq (w.heap.size + 1) zer5 60 ∧ Qu.RowAt wq (w.heap.size + 1 + 1) (addR a y.req j) ∧ Below w.heap.size w wq) (fun i _ => 5 - (intOf i).toNat)
      case atStart => exact ⟨0, by omega, rfl, HS.out, HR.out, by rw [addR_zero]; exact HU.out, HB.out⟩
      case round =>
        clear HS HR HU HB hcp
        rename_i wq _
        obtain ⟨j, hj, rfl, hS, hR, hU, hB⟩ := hrel
        have HS := Lib.hid hS
        have HR := Lib.hid hR
        have HU := Lib.hid hU
        have HB := Lib.hid hB
        clear hS hR hU hB
        by_cases hlj : j < 5
        case neg =>
          obtain rfl : j = 5 := by omega
          go_wp2_with fail
          go_roundw
          case rel =>
            refine ⟨k + 1, by omega, by go_num, HS.out, HR.out, RowAt_congr HU.out (fun q hq => ?_), HB.out⟩
            rw [HQ.out]
            unfold addR
            rw [if_pos hq]
          case measure => simp [intOf]; omega
        obtain ⟨bp', op', hAp', _, hcp⟩ := atI (HP.out.below HB.out).cells HX.out
        cases hAp'
        obtain ⟨b', o', hA', _, c0, c1, c2, c3, c4, c5, c6, _⟩ := atP (H.out.below HB.out).p.cells HY.out
        cases hA'
        have cr := atP_req c2 c3 c4 c5 c6 j hlj
        have cu := HU.out.cell hlj
        rw [addR_at] at cu
        have fu := HU.out.free j
        have s1 : wr.cell? ⟨w.heap.size, 1, none⟩ = some (.slice (some ⟨b, o, none⟩) ps.length cb) := Blk.cell HS.out 1
        have j0 : (0 : Int) ≤ (j : Int) := by omega
        have j1 : (j : Int) < 5 := by omega
        clear c0 c1 c2 c3 c4 c5 c6
        go_wp2_with fail
        go_region
        go_wp2_with fail
        go_roundw
        case rel => exact ⟨j + 1, by omega, by go_num, (show Blk wr.drew _ _ _ from HS.out).oth (by omega) _ _, (show Blk wr.drew _ _ _ from HR.out).oth (by omega) _ _, by rw [← addR_step]; exact (show Qu.RowAt wr.drew _ _ from HU.out).set hlj _, HB.out.drew.setCell (by simp; omega) _⟩
        case measure => simp [intOf]; omega
end Go.Proofs.YtfpbdfagcfdbbaaGreat

namespace Go.Proofs.YtfpbdfagcfdbbaaGreat
open Go.RowKit Go.Maps Go.Sort

theorem off_snoc (ps : List PodD) (p : List Int) (name : List UInt8) (k : Nat) (y : PodD) (x : Int) (hy : ps[k]? = some y) (hx : p[k]? = some x) : offL p (membersU ps name (k + 1)) = offL p (membersU ps name k) ++ (if y.owner = name ∧ x ≠ -1 then [k] else []) := by
  rw [membersU, hy]
  dsimp only
  unfold offL
  rw [List.map_append, List.filter_append]
  congr 1
  by_cases h1 : y.owner = name
  · by_cases h2 : x = -1
    · rw [if_pos h1, if_neg (fun h => h.2 h2)]
      simp [hx, h2]
    · rw [if_pos h1, if_pos ⟨h1, h2⟩]
      simp [hx, h2]
  · rw [if_neg h1, if_neg (fun h => h1 h.1)]
    rfl

set_option maxRecDepth 100000 in
set_option maxHeartbeats 4000000 in
theorem counts7_any (A B C P : Option Addr) (ca cb cc cp : Nat) (ns : List NodeD) (ps : List PodD) (os : List OwnD) (p : List Int) (ko : Nat) (xo : OwnD) (hxo : os[ko]? = some xo) (hE : placeE ns ps os p = 0) (w : World) (h : SnapAt w A B C ca cb cc ns ps os) (hp : IntsAt w P cp p) :
    Calls Tryz.prog 70 #[snapV A B C ca cb cc ns ps os, .slice P p.length cp, .int .i64 (ko : Int)] w fun e w' => ∃ v, e = .returned v ∧ w'.ownsRow w.heap.size 3 1 v ns.length (intsC (cntL ns.length p (offL p (membersF ps xo.name)))) ∧ Below w.heap.size w w' := by
  have hlp := h.lp
  have hln := h.ln
  have HPL := Lib.hid (placeE_len hE)
  have H := Lib.hid h
  have HP := Lib.hid hp
  have HXO := Lib.hid hxo
  have hko : ko < os.length := (List.getElem?_eq_some_iff.1 hxo).1
  have HON : Hid (∀ (k : Nat) (x : Int), p[k]? = some x → x ≠ -1 → ∃ q : Nat, x = (q : Int) ∧ q < ns.length) := Lib.hid (fun k x hk hx => tpB_lt (placeE_on hE hk hx))
  have B0 : Hid (Below w.heap.size w (w.alloc (.cells (snapC A B C ca cb cc ns ps os) 26))) := Lib.hid (below1 w _)
  have S0 : Hid (Blk (w.alloc (.cells (snapC A B C ca cb cc ns ps os) 26)) w.heap.size (snapC A B C ca cb cc ns ps os) 26) := Lib.hid (Blk.new w _ _)
  have HF : Hid (membersF ps xo.name = membersU ps xo.name p.length) := Lib.hid (by rw [HPL.out]; rfl)
  clear h hp hxo hE
  go_enter Tryz.func70, Tryz.ntmps70
  go_upto_region 1 with fail
  change Code.wp _ _ _ _ (w.alloc (.cells (snapC A B C ca cb cc ns ps os) 26))
  obtain ⟨W, hW⟩ : ∃ W, (w.alloc (.cells (snapC A B C ca cb cc ns ps os) 26)) = W := ⟨_, rfl⟩
  rw [hW] at B0 S0 ⊢
  clear hW
  have s0 : W.cell? ⟨w.heap.size, 0, none⟩ = some (.slice A ns.length ca) := Blk.cell S0.out 0
  have hmk := run_ints W ns.length (by omega)
  have O1 : Hid ((W.alloc (.cells (madeCells #[.int .i64 0] ns.length) 3)).ownsRow w.heap.size 3 1 (.slice (some ⟨W.heap.size, 0, none⟩) ns.length ns.length) ns.length (intsC (cntL ns.length p (offL p (membersU ps xo.name 0))))) := Lib.hid (own_made W ns.length w.heap.size (by omega) B0.out.size)
  have S1 := Lib.hid (Blk.alloc S0.out (.cells (madeCells #[.int .i64 0] ns.length) 3))
  have B1 := Lib.hid (B0.out.alloc B0.out.size (.cells (madeCells #[.int .i64 0] ns.length) 3))
  obtain ⟨G, hG⟩ : ∃ G, W.heap.size = G := ⟨_, rfl⟩
  have hwG : w.heap.size < G := by have := S0.out.lt; omega
  rw [hG] at O1
  go_wp2_with fail
  try rw [hG]
  generalize (W.alloc (.cells (madeCells #[.int .i64 0] ns.length) 3)) = W1 at O1 S1 B1 ⊢
  clear S0 B0 s0 hmk hG
  go_loopw [8] (fun i wr => ∃ k : Nat, k ≤ p.length ∧ i = .int .i64 k ∧ wr.ownsRow w.heap.size 3 1 (.slice (some ⟨G, 0, none⟩) ns.length ns.length) ns.length (intsC (cntL ns.length p (offL p (membersU ps xo.name k)))) ∧ Blk wr w.heap.size (snapC A B C ca cb cc ns ps os) 26 ∧ Below w.heap.size w wr) (fun i _ => p.length - (intOf i).toNat)
  case atStart => exact ⟨0, by omega, rfl, O1.out, S1.out, B1.out⟩
  case round =>
    clear O1 S1 B1
    obtain ⟨k, hk, rfl, hO, hS, hB⟩ := hrel
    have HO := Lib.hid hO
    have HS := Lib.hid hS
    have HB := Lib.hid hB
    clear hO hS hB
    by_cases hlt : k < p.length
    case neg =>
      obtain rfl : k = p.length := by omega
      go_wp2
      go_ret
      exact ⟨_, rfl, by rw [HF.out]; exact HO.out, HB.out⟩
    obtain ⟨x, hx⟩ : ∃ x, p[k]? = some x := ⟨p[k], List.getElem?_eq_getElem hlt⟩
    obtain ⟨bp, op, hAp, hbp, hcp⟩ := atI (HP.out.below HB.out).cells hx
    obtain ⟨y, hy⟩ : ∃ y, ps[k]? = some y := ⟨ps[k]'(by have := HPL.out; omega), List.getElem?_eq_getElem _⟩
    obtain ⟨b, o, hA, hbl, c0, c1, c2, c3, c4, c5, c6, c7, c8, c9, c10, c11, c12, c13, c14⟩ := atP (H.out.below HB.out).p.cells hy
    obtain ⟨bo, oo, hAo, hbo, d0, d1, d2, d3, d4⟩ := atO (H.out.below HB.out).o HXO.out
    have s1 : wr.cell? ⟨w.heap.size, 1, none⟩ = some (.slice B ps.length cb) := Blk.cell HS.out 1
    have s2 : wr.cell? ⟨w.heap.size, 2, none⟩ = some (.slice C os.length cc) := Blk.cell HS.out 2
    subst hA
    subst hAo
    subst hAp
    have Hd := Lib.hid (off_snoc ps p xo.name k y x hy hx)
    have k0 : (0 : Int) ≤ (k : Int) := by omega
    have k1 : (k : Int) < (p.length : Int) := by omega
    have k2 : (k : Int) < (ps.length : Int) := by have := HPL.out; omega
    have q0 : (0 : Int) ≤ (ko : Int) := by omega
    have q1 : (ko : Int) < (os.length : Int) := by omega
    have HX := Lib.hid hx
    clear hx hy c0 c2 c3 c4 c5 c6 c7 c8 c9 c10 c11 c12 c13 c14 d1 d2 d3 d4
    by_cases hxn : x = -1
    case pos =>
      subst hxn
      have HE : Hid (offL p (membersU ps xo.name (k + 1)) = offL p (membersU ps xo.name k)) := Lib.hid (by rw [Hd.out, if_neg (fun h => h.2 rfl), List.append_nil])
      have hneg : ¬ (0 : Int) ≤ -1 := by omega
      clear Hd
      go_wp2_with fail
      go_region
      go_wp2_with fail
      go_roundw
      case rel => exact ⟨k + 1, by omega, by go_num, by rw [HE.out]; exact HO.out, HS.out, HB.out.drew⟩
      case measure => simp [intOf]; omega
    obtain ⟨q, rfl, hq⟩ := HON.out k x HX.out hxn
    have q2 : (0 : Int) ≤ (q : Int) := by omega
    have q3 : (q : Int) < (ns.length : Int) := by omega
    by_cases hyo : y.owner = xo.name
    case neg =>
      have HE : Hid (offL p (membersU ps xo.name (k + 1)) = offL p (membersU ps xo.name k)) := Lib.hid (by rw [Hd.out, if_neg (fun h => hyo h.1), List.append_nil])
      have hyb : (y.owner == xo.name) = false := by simpa using hyo
      clear Hd
      go_wp2_with fail
      go_region
      go_wp2_with fail
      go_roundw
      case rel => exact ⟨k + 1, by omega, by go_num, by rw [HE.out]; exact HO.out, HS.out, HB.out.drew⟩
      case measure => simp [intOf]; omega
    have HE : Hid (offL p (membersU ps xo.name (k + 1)) = offL p (membersU ps xo.name k) ++ [k]) := Lib.hid (by rw [Hd.out, if_pos ⟨hyo, hxn⟩])
    have HE2 : Hid (cntL ns.length p (offL p (membersU ps xo.name (k + 1))) = (cntL ns.length p (offL p (membersU ps xo.name k))).set q ((cntL ns.length p (offL p (membersU ps xo.name k))).getD q 0 + 1)) := Lib.hid (by
      rw [HE.out, cntL_snoc _ _ _ _ _ HX.out, Int.toNat_natCast])
    have hyb : (y.owner == xo.name) = true := by simpa using hyo
    have hcl := cntL_len ns.length p (offL p (membersU ps xo.name k))
    have hle := cntL_le ns.length p (offL p (membersU ps xo.name k)) q
    have hol := Nat.le_trans (offL_len p (membersU ps xo.name k)) (membersU_len ps xo.name k)
    generalize cntL ns.length p (offL p (membersU ps xo.name k)) = L at HO HE2 hcl hle
    obtain ⟨c, hcc⟩ : ∃ c, L[q]? = some c := ⟨_, List.getElem?_eq_getElem (by omega)⟩
    obtain ⟨g', cur, hA', _, hgb, hgc⟩ := own_blk HO.out (k := q) (y := .int .i64 c) (by unfold intsC; rw [List.getElem?_map, hcc]; rfl)
    cases hA'
    rw [List.getD_eq_getElem?_getD, hcc] at hle
    simp only [Option.getD_some] at hle
    have g0 : wr.cell? ⟨G, q, none⟩ = some (.int .i64 c) := (Blk.cell hgb q).trans hgc
    have g1 : wr.frozen? ⟨G, q, none⟩ = false := Blk.free hgb q
    have hwr : wrap64 (c + 1) = c + 1 := IntWalk.wrap64_in _ (by have := HPL.out; omega)
    have hwi : IntKind.i64.wrap (c + 1) = c + 1 := (IntWalk.i64_left _).trans hwr
    have HCC := Lib.hid hcc
    clear Hd HE hle hcc hgb hgc hcl
    go_wp2_with fail
    go_region
    go_wp2_with fail
    go_roundw
    case rel =>
      refine ⟨k + 1, by omega, by go_num, ?_, (show Blk wr.drew _ _ _ from HS.out).oth (by omega) _ _, HB.out.drew.setCell (by simp; omega) _⟩
      rw [HE2.out, List.getD_eq_getElem?_getD, HCC.out]
      have h1 := own_put (show wr.drew.ownsRow _ _ _ _ _ _ from HO.out) q (.int .i64 (c + 1))
      rw [ints_set] at h1
      exact h1
    case measure => simp [intOf]; omega
end Go.Proofs.YtfpbdfagcfdbbaaGreat

namespace Go.Proofs.YtfpbdfagcfdbbaaGreat
open Go.RowKit Go.Maps Go.Sort

/-- What is told of an owner that is asked for. -/
theorem owned_is {ns : List NodeD} {ps : List PodD} {os : List OwnD} {p : List Int} {k : Int} (h : ownerB ns ps os p k = true) :
    ∃ (ko : Nat) (xo : OwnD), k = (ko : Int) ∧ os[ko]? = some xo ∧ placeE ns ps os p = 0 ∧ countsF ns ps os p k = cntL ns.length p (offL p (membersF ps xo.name)) ∧ placedF ns ps os p k = ((offL p (membersF ps xo.name)).length : Int) ∧ spreadF ns ps os p k = rowD (spreadD ns xo.topo p (offL p (membersF ps xo.name))) := by
  obtain ⟨h1, n, x, rfl, hx⟩ := ownerB_parts h
  have ho : ofF ps os p (n : Int) = offL p (membersF ps x.name) := by
    unfold ofF
    rw [Int.toNat_natCast, hx]
  refine ⟨n, x, rfl, hx, h1, ?_, ?_, ?_⟩
  · unfold countsF
    rw [if_pos h, ho]
  · unfold placedF
    rw [if_pos h, ho]
  · unfold spreadF
    rw [if_pos h, Int.toNat_natCast, hx]

set_option maxRecDepth 100000 in
set_option maxHeartbeats 2000000 in
theorem placedOf7_any (A B C P : Option Addr) (ca cb cc cp : Nat) (ns : List NodeD) (ps : List PodD) (os : List OwnD) (p : List Int) (ko : Nat) (xo : OwnD) (hxo : os[ko]? = some xo) (hE : placeE ns ps os p = 0) (w : World) (h : SnapAt w A B C ca cb cc ns ps os) (hp : IntsAt w P cp p) :
    Calls Tryz.prog 47 #[snapV A B C ca cb cc ns ps os, .slice P p.length cp, .int .i64 (ko : Int)] w fun e w' => e = .returned (.int .i64 ((offL p (membersF ps xo.name)).length : Int)) ∧ Below w.heap.size w w' := by
  have hln := h.ln
  have hol : (offL p (membersF ps xo.name)).length ≤ 1000 := Nat.le_trans (offL_len p _) (Nat.le_trans (membersU_len ps xo.name _) h.lp)
  have B0 : Hid (Below w.heap.size w (w.alloc (.cells (snapC A B C ca cb cc ns ps os) 26))) := Lib.hid (below1 w _)
  have S0 : Hid (Blk (w.alloc (.cells (snapC A B C ca cb cc ns ps os) 26)) w.heap.size (snapC A B C ca cb cc ns ps os) 26) := Lib.hid (Blk.new w _ _)
  have KC := Lib.hid (counts7_any A B C P ca cb cc cp ns ps os p ko xo hxo hE _ (h.below B0.out) (hp.below B0.out))
  have HL := Lib.hid (cntL_len ns.length p (offL p (membersF ps xo.name)))
  have HSum := Lib.hid (cnt_sum ns.length p (offL p (membersF ps xo.name)) (off_in hE xo.name))
  have HT := Lib.hid (take_sum _ (cnt_pos ns.length p (offL p (membersF ps xo.name))))
  clear h hp hE hxo
  generalize cntL ns.length p (offL p (membersF ps xo.name)) = L at KC HL HSum HT
  generalize (offL p (membersF ps xo.name)).length = M at HSum hol ⊢
  go_enter Tryz.func47, Tryz.ntmps47
  go_wp2_with fail
  refine (KC.out).mono ?_
  rintro e w1 ⟨v, rfl, ho, hb⟩
  obtain ⟨G, cg, rfl, _⟩ := La.own_slice ho
  have O1 := Lib.hid (La.own_slat ho)
  have B1 := Lib.hid (B0.out.trans (hb.mono B0.out.size))
  clear ho hb KC B0 S0
  go_wp2_with fail
  go_loopw [7, 9] (fun s i wr => w1 = wr ∧ ∃ j : Nat, j ≤ ns.length ∧ i = .int .i64 j ∧ s = .int .i64 (L.take j).sum) (fun _ i _ => ns.length - (intOf i).toNat)
  case atStart => exact ⟨rfl, 0, by omega, rfl, rfl⟩
  case round =>
    obtain ⟨rfl, j, hj, rfl, rfl⟩ := hrel
    by_cases hlt : j < ns.length
    case neg =>
      obtain rfl : j = ns.length := by omega
      have HF : Hid ((L.take ns.length).sum = (M : Int)) := Lib.hid (by rw [← HL.out, List.take_length, HSum.out])
      go_wp2
      go_ret
      rw [HF.out]
      exact ⟨rfl, B1.out⟩
    obtain ⟨c, hc⟩ : ∃ c, L[j]? = some c := ⟨L[j]'(by have := HL.out; omega), List.getElem?_eq_getElem _⟩
    obtain ⟨g, o, hG, hcell⟩ := O1.out j (.int .i64 c) (by unfold intsC; rw [List.getElem?_map, hc]; rfl)
    subst hG
    have hst : (L.take (j + 1)).sum = (L.take j).sum + c := by
      obtain ⟨hj', he⟩ := List.getElem?_eq_some_iff.1 hc
      rw [List.take_succ_eq_append_getElem hj', he, List.sum_append]
      simp
    have t1 := HT.out (j + 1)
    rw [HSum.out, hst] at t1
    have hwr : wrap64 ((L.take j).sum + c) = (L.take j).sum + c := IntWalk.wrap64_in _ (by omega)
    have hwi : IntKind.i64.wrap ((L.take j).sum + c) = (L.take j).sum + c := (IntWalk.i64_left _).trans hwr
    have HST := Lib.hid hst
    have j0 : (0 : Int) ≤ (j : Int) := by omega
    have j1 : (j : Int) < (ns.length : Int) := by omega
    clear hst t1 hc
    go_wp2_with fail
    go_roundw
    case rel => exact ⟨by first | rfl | trivial, j + 1, by omega, by go_num, by rw [HST.out]⟩
    case measure => simp [intOf]; omega

end Go.Proofs.YtfpbdfagcfdbbaaGreat
