/- What Bring answers: a number brought between 0 and another one, as the rest of the division is. Condition: that one is above 0. An argument that is a cluster, opened: what stands in memory. No conditions of its own. A cluster of which the first 12 nodes, 30 pods, 12 owners are looked at. Condition: it lies in memory. A placement that may be, made out of numbers: the contract of fitted. Condition: the cluster and the numbers lie in memory. Steps there and back, and the moves between two placements, taken one after another: numbers only. Conditions: the placements may be. There and back, and along the moves: true. Condition: the arguments lie in memory. What the nodes' pods ask for, added up, is what the pods that run ask for; what is counted on the nodes is what runs: numbers only. Conditions: each pod is on one of the nodes or waits. Two rows added, as a machine adds: the contract of total. No conditions. What is counted in the domains is no more than what is counted: numbers and keys only. Conditions: the pods are on nodes that there are. What Counts, Spread and Placed tell of one owner: numbers only. Condition: the placement may be. The sums of a placement: true. Condition: the arguments lie in memory. -/
import Derived.Test.YtfnigiiocapceaaGreatBase
import Derived.Test.YtfnigiiocapceaaGreatLiftL
import Derived.Test.YtfnigiiocapceaaGreatKNames
import Derived.Deep.Slices
import Derived.StillTailTactics

namespace Go.Proofs.YtfnigiiocapceaaGreat.Qu
open Go.RowKit

theorem neg_lt_tmod (i : Int) {n : Int} (hn : 0 < n) : -n < i.tmod n := by
  have h := Int.tmod_lt_of_pos (-i) hn
  rw [Int.neg_tmod] at h
  omega
theorem emod_of_tmod (i n : Int) : i % n = i.tmod n % n := by
  conv => lhs; rw [← Int.mul_tdiv_add_tmod i n]
  rw [Int.mul_add_emod_self_left]
theorem emod_neg {i n : Int} (hn : 0 < n) (h : i.tmod n < 0) : i % n = i.tmod n + n := by
  have h1 : -n < i.tmod n := by
    have := neg_lt_tmod i hn
    omega
  rw [emod_of_tmod i n, ← Int.add_emod_right]
  exact Int.emod_eq_of_lt (by omega) (by omega)
theorem emod_pos {i n : Int} (hn : 0 < n) (h : ¬ i.tmod n < 0) : i % n = i.tmod n := by
  rw [emod_of_tmod i n]
  exact Int.emod_eq_of_lt (by omega) (Int.tmod_lt_of_pos i hn)

set_option maxHeartbeats 400000 in
theorem bring_any (i n : Int) (w : World) (hn : 0 < n) (hn' : n ≤ 4611686018427387904) :
    Calls Tryz.prog 56 #[.int .i64 i, .int .i64 n] w fun e w' => e = .returned (.int .i64 (i % n)) ∧ w = w' := by
  have hlt := Int.tmod_lt_of_pos i hn
  have hgt := neg_lt_tmod i hn
  have Hw : Hid (IntKind.i64.wrap (i.tmod n) = i.tmod n) := IntWalk.i64_in _ (by omega)
  by_cases h : i.tmod n < 0
  · have He := Lib.hid (emod_neg hn h)
    have Hw2 : Hid (IntKind.i64.wrap (i.tmod n + n) = i.tmod n + n) := IntWalk.i64_in _ (by omega)
    have hz : ¬ n = 0 := by omega
    go_enter Tryz.func56, Tryz.ntmps56
    go_wp2
    go_ret
    exact ⟨retI He.out.symm, rfl⟩
  · have He := Lib.hid (emod_pos hn h)
    have hz : ¬ n = 0 := by omega
    go_enter Tryz.func56, Tryz.ntmps56
    go_wp2
    go_ret
    exact ⟨retI He.out.symm, rfl⟩

end Go.Proofs.YtfnigiiocapceaaGreat.Qu

namespace Go.Proofs.YtfnigiiocapceaaGreat
open Go.ChangeShapes Go.WideShapes Go.ChangeAt Go.RowKit Go.Deep

theorem kcStr : Tryz.prog.cellsOf 9 = 1 := by kernel_rfl
theorem kcInt : Tryz.prog.cellsOf 3 = 1 := by kernel_rfl
theorem kcBool : Tryz.prog.cellsOf 4 = 1 := by kernel_rfl
theorem kcVec : Tryz.prog.cellsOf 33 = 5 := by kernel_rfl
theorem kcLabs : Tryz.prog.cellsOf 57 = 1 := by kernel_rfl
theorem kcTers : Tryz.prog.cellsOf 58 = 1 := by kernel_rfl
theorem kcNear : Tryz.prog.cellsOf 60 = 2 := by kernel_rfl
theorem kcLab : Tryz.prog.cellsOf 91 = 2 := by kernel_rfl
theorem kcTer : Tryz.prog.cellsOf 158 = 3 := by kernel_rfl
theorem kcNode : Tryz.prog.cellsOf 73 = 10 := by kernel_rfl
theorem kcPod : Tryz.prog.cellsOf 62 = 15 := by kernel_rfl
theorem kcOwner : Tryz.prog.cellsOf 64 = 5 := by kernel_rfl
theorem kcNodes : Tryz.prog.cellsOf 22 = 1 := by kernel_rfl
theorem kcPods : Tryz.prog.cellsOf 23 = 1 := by kernel_rfl
theorem kcOwners : Tryz.prog.cellsOf 24 = 1 := by kernel_rfl
theorem kcSnap : Tryz.prog.cellsOf 26 = 3 := by kernel_rfl
theorem kmax {n : Nat} (h : n ≤ maxLen) : n ≤ 9223372036854775807 := by unfold maxLen at h; omega

/-- Where a cell of a list of rows stands. -/
theorem flat_at {T : Type} (f : T → List Value) (k : Nat) (hf : ∀ y, (f y).length = k) : ∀ (l : List T) (j : Nat) (y : Value), (l.flatMap f)[j]? = some y → ∃ i r x, l[i]? = some x ∧ r < k ∧ j = i * k + r ∧ (f x)[r]? = some y
  | [], j, y, h => by simp at h
  | x :: t, j, y, h => by
    rw [List.flatMap_cons] at h
    by_cases hj : j < k
    · rw [List.getElem?_append_left (by rw [hf]; exact hj)] at h
      exact ⟨0, j, x, rfl, hj, by omega, h⟩
    · rw [List.getElem?_append_right (by rw [hf]; omega), hf] at h
      obtain ⟨i, r, z, h1, h2, h3, h4⟩ := flat_at f k hf t (j - k) y h
      refine ⟨i + 1, r, z, by simpa using h1, h2, ?_, h4⟩
      rw [Nat.succ_mul]
      omega

/-- A slice of rows, opened. -/
theorem slice_cells {H : Type} {enc : TypeId × Value → H} {W : World} {held : Bool} {T : Type} (f : T → List Value) (k : Nat) (Good : T → Prop) {t e : TypeId} (ht : Tryz.prog.underlying t = some (.slice e)) (hk : Tryz.prog.cellsOf e = k) (hpos : 0 < k) (hf : ∀ y, (f y).length = k)
    (hel : ∀ n cs x, DataW.trod enc Tryz.prog W 0 (fun _ => true) held n e cs = some x → ∃ y : T, cs = f y ∧ Good y) {fuel : Nat} {cs : List Value} {x : DataW H × List MemPlace} (h : DataW.trod enc Tryz.prog W 0 (fun _ => true) held fuel t cs = some x) :
    ∃ (A : Option Addr) (cap : Nat) (l : List T), cs = [.slice A l.length cap] ∧ La.SlAt W A (l.flatMap f) ∧ l.length ≤ cap ∧ cap ≤ maxLen ∧ ∀ y ∈ l, Good y := by
  rcases open_slice ht h with ⟨rfl, _⟩ | ⟨a, len, cap, m, n, D, Pl, rfl, _, hl, hm, hmm, _, hx⟩
  · exact ⟨none, 0, [], rfl, fun j y hj => by simp at hj, by simp, by simp, fun x hx => by simp at hx⟩
  · simp only [if_true] at hmm
    subst hmm
    rw [hk] at hx
    rcases Nat.eq_zero_or_pos len with hz | hz
    · subst hz
      exact ⟨some a, m, [], rfl, fun j y hj => by simp at hj, by simp, hm, fun x hx => by simp at hx⟩
    have hne : Nonempty T := by
      obtain ⟨cs', h1, h2⟩ := hx 0 (by omega)
      obtain ⟨y, _⟩ := hel _ _ _ h2
      exact ⟨y⟩
    have hinh : Inhabited T := Classical.inhabited_of_nonempty hne
    obtain ⟨L, hL⟩ := choose_lt (α := T) (p := fun i y => (∀ r v, (f y)[r]? = some v → W.cell? ((a.add (i * k)).add r) = some v) ∧ Good y) (n := len) (fun i hi => by
      obtain ⟨cs', h1, h2⟩ := hx i (by omega)
      obtain ⟨y, e, hg⟩ := hel _ _ _ h2
      subst e
      obtain ⟨_, _, hc⟩ := World.cells?_some h1
      refine ⟨y, fun r v hv => ?_, hg⟩
      have hr : r < k := by
        have := (List.getElem?_eq_some_iff.1 hv).1
        rwa [hf] at this
      rw [hc r hr]
      exact hv)
    refine ⟨some a, m, (List.range len).map L, by simp, ?_, by simpa using hl, hm, ?_⟩
    · rcases Nat.eq_zero_or_pos len with h0 | hp
      · subst h0
        exact fun j y hj => by simp at hj
      · obtain ⟨b, off, spot⟩ := a
        have hspot : spot = none := by
          have h9 : 0 < (f (L 0)).length := by rw [hf]; exact hpos
          have := (hL 0 hp).1 0 _ (List.getElem?_eq_getElem h9)
          simpa [Addr.add] using World.cell?_spot this
        subst hspot
        intro j y hj
        obtain ⟨i, r, z, h1, h2, h3, h4⟩ := flat_at f k hf _ j y hj
        have hil : i < len := by
          have := (List.getElem?_eq_some_iff.1 h1).1
          simpa using this
        rw [List.getElem?_map, List.getElem?_range hil] at h1
        simp only [Option.map_some, Option.some.injEq] at h1
        subst h1
        have hc := (hL i hil).1 r y h4
        rw [WideShapes.add_plain, WideShapes.add_plain] at hc
        refine ⟨b, off, rfl, ?_⟩
        rw [h3, ← Nat.add_assoc]
        exact hc
    · intro y hy
      obtain ⟨i, hi, rfl⟩ := List.mem_map.1 hy
      exact (hL i (List.mem_range.1 hi)).2

section
variable {H : Type} {enc : TypeId × Value → H} {W : World} {held : Bool}

theorem str_one {n : Nat} {c : Value} {x : DataW H × List MemPlace} (h : DataW.trod enc Tryz.prog W 0 (fun _ => true) held n 9 [c] = some x) : ∃ s : List UInt8, c = strV s ∧ s.length ≤ maxLen := by
  obtain ⟨s, e, _, m⟩ := DataW.trod_string Tryz.underlying9 h
  simp only [List.cons.injEq, and_true] at e
  exact ⟨s.data.toList, e, m⟩
theorem int_one {n : Nat} {c : Value} {x : DataW H × List MemPlace} (h : DataW.trod enc Tryz.prog W 0 (fun _ => true) held n 3 [c] = some x) : ∃ k : Int, c = .int .i64 k := by
  obtain ⟨s, e, _, m⟩ := DataW.trod_int Tryz.underlying3 h
  simp only [List.cons.injEq, and_true] at e
  exact ⟨s, e⟩
theorem bool_one {n : Nat} {c : Value} {x : DataW H × List MemPlace} (h : DataW.trod enc Tryz.prog W 0 (fun _ => true) held n 4 [c] = some x) : ∃ k : Bool, c = .bool k := by
  obtain ⟨s, e, _⟩ := DataW.trod_bool Tryz.underlying4 h
  simp only [List.cons.injEq, and_true] at e
  exact ⟨s, e⟩
set_option maxRecDepth 100000 in
theorem vec_one {n : Nat} {c0 c1 c2 c3 c4 : Value} {x : DataW H × List MemPlace} (h : DataW.trod enc Tryz.prog W 0 (fun _ => true) held n 33 [c0, c1, c2, c3, c4] = some x) : ∃ r : Nat → Int, c0 = .int .i64 (r 0) ∧ c1 = .int .i64 (r 1) ∧ c2 = .int .i64 (r 2) ∧ c3 = .int .i64 (r 3) ∧ c4 = .int .i64 (r 4) := by
  obtain ⟨xs, m, _, _, hl, hxl, hf⟩ := DataW.trod_array Tryz.underlying33 h
  match xs, hxl with
  | [x0, x1, x2, x3, x4], _ =>
    have h0 := hf 0 (by omega)
    have h1 := hf 1 (by omega)
    have h2 := hf 2 (by omega)
    have h3 := hf 3 (by omega)
    have h4 := hf 4 (by omega)
    rw [kcInt] at h0 h1 h2 h3 h4
    obtain ⟨a0, e0⟩ := int_one (enc := enc) (W := W) (held := held) (n := m) (c := c0) (x := x0) h0
    obtain ⟨a1, e1⟩ := int_one (enc := enc) (W := W) (held := held) (n := m) (c := c1) (x := x1) h1
    obtain ⟨a2, e2⟩ := int_one (enc := enc) (W := W) (held := held) (n := m) (c := c2) (x := x2) h2
    obtain ⟨a3, e3⟩ := int_one (enc := enc) (W := W) (held := held) (n := m) (c := c3) (x := x3) h3
    obtain ⟨a4, e4⟩ := int_one (enc := enc) (W := W) (held := held) (n := m) (c := c4) (x := x4) h4
    exact ⟨fun k => match k with | 0 => a0 | 1 => a1 | 2 => a2 | 3 => a3 | _ => a4, e0, e1, e2, e3, e4⟩
set_option maxRecDepth 100000 in
theorem lab_row (n : Nat) (cs : List Value) (x : DataW H × List MemPlace) (h : DataW.trod enc Tryz.prog W 0 (fun _ => true) held n 91 cs = some x) : ∃ y : L2, cs = [strV y.1, strV y.2] ∧ (y.1.length ≤ 9223372036854775807 ∧ y.2.length ≤ 9223372036854775807) := by
  obtain ⟨xs, m, _, _, hl, hxl, hf⟩ := DataW.trod_struct Tryz.underlying91 h
  rw [kcLab] at hl
  match cs, hl, xs, hxl with
  | [c0, c1], _, [y0, y1], _ =>
    have h0 : DataW.trod enc Tryz.prog W 0 (fun _ => true) held m 9 ((([c0, c1] : List Value).drop 0).take (Tryz.prog.cellsOf 9)) = some y0 := hf 0 _ rfl
    have h1 : DataW.trod enc Tryz.prog W 0 (fun _ => true) held m 9 ((([c0, c1] : List Value).drop 1).take (Tryz.prog.cellsOf 9)) = some y1 := hf 1 _ rfl
    rw [kcStr] at h0 h1
    obtain ⟨s0, e0, m0⟩ := str_one (enc := enc) (W := W) (held := held) (n := m) (c := c0) (x := y0) h0
    obtain ⟨s1, e1, m1⟩ := str_one (enc := enc) (W := W) (held := held) (n := m) (c := c1) (x := y1) h1
    exact ⟨(s0, s1), by rw [e0, e1], kmax m0, kmax m1⟩
set_option maxRecDepth 100000 in
theorem ter_row (n : Nat) (cs : List Value) (x : DataW H × List MemPlace) (h : DataW.trod enc Tryz.prog W 0 (fun _ => true) held n 158 cs = some x) : ∃ y : T3, cs = [.int .i64 y.1, strV y.2.1, strV y.2.2] ∧ (y.2.1.length ≤ 9223372036854775807 ∧ y.2.2.length ≤ 9223372036854775807) := by
  obtain ⟨xs, m, _, _, hl, hxl, hf⟩ := DataW.trod_struct Tryz.underlying158 h
  rw [kcTer] at hl
  match cs, hl, xs, hxl with
  | [c0, c1, c2], _, [y0, y1, y2], _ =>
    have h0 : DataW.trod enc Tryz.prog W 0 (fun _ => true) held m 3 ((([c0, c1, c2] : List Value).drop 0).take (Tryz.prog.cellsOf 3)) = some y0 := hf 0 _ rfl
    have h1 : DataW.trod enc Tryz.prog W 0 (fun _ => true) held m 9 ((([c0, c1, c2] : List Value).drop 1).take (Tryz.prog.cellsOf 9)) = some y1 := hf 1 _ rfl
    have h2 : DataW.trod enc Tryz.prog W 0 (fun _ => true) held m 9 ((([c0, c1, c2] : List Value).drop 2).take (Tryz.prog.cellsOf 9)) = some y2 := hf 2 _ rfl
    rw [kcInt] at h0
    rw [kcStr] at h1 h2
    obtain ⟨k, e0⟩ := int_one (enc := enc) (W := W) (held := held) (n := m) (c := c0) (x := y0) h0
    obtain ⟨s1, e1, m1⟩ := str_one (enc := enc) (W := W) (held := held) (n := m) (c := c1) (x := y1) h1
    obtain ⟨s2, e2, m2⟩ := str_one (enc := enc) (W := W) (held := held) (n := m) (c := c2) (x := y2) h2
    exact ⟨(k, s1, s2), by rw [e0, e1, e2], kmax m1, kmax m2⟩
theorem labs_one {n : Nat} {c : Value} {x : DataW H × List MemPlace} (h : DataW.trod enc Tryz.prog W 0 (fun _ => true) held n 57 [c] = some x) : ∃ A cap l, c = .slice A (List.length l) cap ∧ ListL W A cap l := by
  obtain ⟨A, cap, l, e, hs, h1, h2, hg⟩ := slice_cells (T := L2) (fun y => [strV y.1, strV y.2]) 2 _ Tryz.underlying57 kcLab (by omega) (fun _ => rfl) (fun n cs x h => lab_row n cs x h) h
  simp only [List.cons.injEq, and_true] at e
  exact ⟨A, cap, l, e, h1, kmax h2, hs, hg⟩
theorem ters_one {n : Nat} {c : Value} {x : DataW H × List MemPlace} (h : DataW.trod enc Tryz.prog W 0 (fun _ => true) held n 58 [c] = some x) : ∃ A cap l, c = .slice A (List.length l) cap ∧ ListT W A cap l := by
  obtain ⟨A, cap, l, e, hs, h1, h2, hg⟩ := slice_cells (T := T3) (fun y => [.int .i64 y.1, strV y.2.1, strV y.2.2]) 3 _ Tryz.underlying58 kcTer (by omega) (fun _ => rfl) (fun n cs x h => ter_row n cs x h) h
  simp only [List.cons.injEq, and_true] at e
  exact ⟨A, cap, l, e, h1, kmax h2, hs, hg⟩
set_option maxRecDepth 100000 in
theorem near_one {n : Nat} {c0 c1 : Value} {x : DataW H × List MemPlace} (h : DataW.trod enc Tryz.prog W 0 (fun _ => true) held n 60 [c0, c1] = some x) : ∃ s A cap l, c0 = strV s ∧ s.length ≤ 9223372036854775807 ∧ c1 = .slice A (List.length l) cap ∧ ListT W A cap l := by
  obtain ⟨xs, m, _, _, hl, hxl, hf⟩ := DataW.trod_struct Tryz.underlying60 h
  match xs, hxl with
  | [y0, y1], _ =>
    have h0 : DataW.trod enc Tryz.prog W 0 (fun _ => true) held m 9 ((([c0, c1] : List Value).drop 0).take (Tryz.prog.cellsOf 9)) = some y0 := hf 0 _ rfl
    have h1 : DataW.trod enc Tryz.prog W 0 (fun _ => true) held m 58 ((([c0, c1] : List Value).drop 1).take (Tryz.prog.cellsOf 58)) = some y1 := hf 1 _ rfl
    rw [kcStr] at h0
    rw [kcTers] at h1
    obtain ⟨s, e0, m0⟩ := str_one (enc := enc) (W := W) (held := held) (n := m) (c := c0) (x := y0) h0
    obtain ⟨A, cap, l, e1, hL⟩ := ters_one (enc := enc) (W := W) (held := held) (n := m) (c := c1) (x := y1) h1
    exact ⟨s, A, cap, l, e0, kmax m0, e1, hL⟩
set_option maxRecDepth 100000 in
theorem node_row (n : Nat) (cs : List Value) (x : DataW H × List MemPlace) (h : DataW.trod enc Tryz.prog W 0 (fun _ => true) held n 73 cs = some x) : ∃ y : NodeD, cs = [strV y.name, .int .i64 (y.cap 0), .int .i64 (y.cap 1), .int .i64 (y.cap 2), .int .i64 (y.cap 3), .int .i64 (y.cap 4), .slice y.al y.labels.length y.cl, .slice y.at_ y.taints.length y.ct, .bool y.cordon, .bool y.lost] ∧ y.fit W := by
  obtain ⟨xs, m, _, _, hl, hxl, hf⟩ := DataW.trod_struct Tryz.underlying73 h
  rw [kcNode] at hl
  match cs, hl, xs, hxl with
  | [c0, c1, c2, c3, c4, c5, c6, c7, c8, c9], _, [y0, y1, y2, y3, y4, y5], _ =>
    have h0 : DataW.trod enc Tryz.prog W 0 (fun _ => true) held m 9 ((([c0, c1, c2, c3, c4, c5, c6, c7, c8, c9] : List Value).drop 0).take (Tryz.prog.cellsOf 9)) = some y0 := hf 0 _ rfl
    have h1 : DataW.trod enc Tryz.prog W 0 (fun _ => true) held m 33 ((([c0, c1, c2, c3, c4, c5, c6, c7, c8, c9] : List Value).drop 1).take (Tryz.prog.cellsOf 33)) = some y1 := hf 1 _ rfl
    have h2 : DataW.trod enc Tryz.prog W 0 (fun _ => true) held m 57 ((([c0, c1, c2, c3, c4, c5, c6, c7, c8, c9] : List Value).drop 6).take (Tryz.prog.cellsOf 57)) = some y2 := hf 2 _ rfl
    have h3 : DataW.trod enc Tryz.prog W 0 (fun _ => true) held m 57 ((([c0, c1, c2, c3, c4, c5, c6, c7, c8, c9] : List Value).drop 7).take (Tryz.prog.cellsOf 57)) = some y3 := hf 3 _ rfl
    have h4 : DataW.trod enc Tryz.prog W 0 (fun _ => true) held m 4 ((([c0, c1, c2, c3, c4, c5, c6, c7, c8, c9] : List Value).drop 8).take (Tryz.prog.cellsOf 4)) = some y4 := hf 4 _ rfl
    have h5 : DataW.trod enc Tryz.prog W 0 (fun _ => true) held m 4 ((([c0, c1, c2, c3, c4, c5, c6, c7, c8, c9] : List Value).drop 9).take (Tryz.prog.cellsOf 4)) = some y5 := hf 5 _ rfl
    rw [kcStr] at h0
    rw [kcVec] at h1
    rw [kcLabs] at h2 h3
    rw [kcBool] at h4 h5
    obtain ⟨s, e0, m0⟩ := str_one (enc := enc) (W := W) (held := held) (n := m) (c := c0) (x := y0) h0
    obtain ⟨r, e1, e2, e3, e4, e5⟩ := vec_one (enc := enc) (W := W) (held := held) (n := m) (c0 := c1) (c1 := c2) (c2 := c3) (c3 := c4) (c4 := c5) (x := y1) h1
    obtain ⟨A1, k1, l1, e6, hL1⟩ := labs_one (enc := enc) (W := W) (held := held) (n := m) (c := c6) (x := y2) h2
    obtain ⟨A2, k2, l2, e7, hL2⟩ := labs_one (enc := enc) (W := W) (held := held) (n := m) (c := c7) (x := y3) h3
    obtain ⟨b8, e8⟩ := bool_one (enc := enc) (W := W) (held := held) (n := m) (c := c8) (x := y4) h4
    obtain ⟨b9, e9⟩ := bool_one (enc := enc) (W := W) (held := held) (n := m) (c := c9) (x := y5) h5
    exact ⟨{ name := s, cap := r, labels := l1, taints := l2, cordon := b8, lost := b9, al := A1, cl := k1, at_ := A2, ct := k2 }, by rw [e0, e1, e2, e3, e4, e5, e6, e7, e8, e9], hL1, hL2, kmax m0⟩
set_option maxRecDepth 100000 in
theorem pod_row (n : Nat) (cs : List Value) (x : DataW H × List MemPlace) (h : DataW.trod enc Tryz.prog W 0 (fun _ => true) held n 62 cs = some x) : ∃ y : PodD, cs = [strV y.name, strV y.owner, .int .i64 (y.req 0), .int .i64 (y.req 1), .int .i64 (y.req 2), .int .i64 (y.req 3), .int .i64 (y.req 4), .slice y.al y.labels.length y.cl, .slice y.aw y.whr.length y.cw, .slice y.ab y.bears.length y.cb, strV y.wt, .slice y.awt y.wtm.length y.cwt, strV y.ap, .slice y.aap y.apm.length y.cap, strV y.on] ∧ y.fit W := by
  obtain ⟨xs, m, _, _, hl, hxl, hf⟩ := DataW.trod_struct Tryz.underlying62 h
  rw [kcPod] at hl
  match cs, hl, xs, hxl with
  | [c0, c1, c2, c3, c4, c5, c6, c7, c8, c9, c10, c11, c12, c13, c14], _, [y0, y1, y2, y3, y4, y5, y6, y7, y8], _ =>
    have h0 : DataW.trod enc Tryz.prog W 0 (fun _ => true) held m 9 ((([c0, c1, c2, c3, c4, c5, c6, c7, c8, c9, c10, c11, c12, c13, c14] : List Value).drop 0).take (Tryz.prog.cellsOf 9)) = some y0 := hf 0 _ rfl
    have h1 : DataW.trod enc Tryz.prog W 0 (fun _ => true) held m 9 ((([c0, c1, c2, c3, c4, c5, c6, c7, c8, c9, c10, c11, c12, c13, c14] : List Value).drop 1).take (Tryz.prog.cellsOf 9)) = some y1 := hf 1 _ rfl
    have h2 : DataW.trod enc Tryz.prog W 0 (fun _ => true) held m 33 ((([c0, c1, c2, c3, c4, c5, c6, c7, c8, c9, c10, c11, c12, c13, c14] : List Value).drop 2).take (Tryz.prog.cellsOf 33)) = some y2 := hf 2 _ rfl
    have h3 : DataW.trod enc Tryz.prog W 0 (fun _ => true) held m 57 ((([c0, c1, c2, c3, c4, c5, c6, c7, c8, c9, c10, c11, c12, c13, c14] : List Value).drop 7).take (Tryz.prog.cellsOf 57)) = some y3 := hf 3 _ rfl
    have h4 : DataW.trod enc Tryz.prog W 0 (fun _ => true) held m 58 ((([c0, c1, c2, c3, c4, c5, c6, c7, c8, c9, c10, c11, c12, c13, c14] : List Value).drop 8).take (Tryz.prog.cellsOf 58)) = some y4 := hf 4 _ rfl
    have h5 : DataW.trod enc Tryz.prog W 0 (fun _ => true) held m 57 ((([c0, c1, c2, c3, c4, c5, c6, c7, c8, c9, c10, c11, c12, c13, c14] : List Value).drop 9).take (Tryz.prog.cellsOf 57)) = some y5 := hf 5 _ rfl
    have h6 : DataW.trod enc Tryz.prog W 0 (fun _ => true) held m 60 ((([c0, c1, c2, c3, c4, c5, c6, c7, c8, c9, c10, c11, c12, c13, c14] : List Value).drop 10).take (Tryz.prog.cellsOf 60)) = some y6 := hf 6 _ rfl
    have h7 : DataW.trod enc Tryz.prog W 0 (fun _ => true) held m 60 ((([c0, c1, c2, c3, c4, c5, c6, c7, c8, c9, c10, c11, c12, c13, c14] : List Value).drop 12).take (Tryz.prog.cellsOf 60)) = some y7 := hf 7 _ rfl
    have h8 : DataW.trod enc Tryz.prog W 0 (fun _ => true) held m 9 ((([c0, c1, c2, c3, c4, c5, c6, c7, c8, c9, c10, c11, c12, c13, c14] : List Value).drop 14).take (Tryz.prog.cellsOf 9)) = some y8 := hf 8 _ rfl
    rw [kcStr] at h0 h1 h8
    rw [kcVec] at h2
    rw [kcLabs] at h3 h5
    rw [kcTers] at h4
    rw [kcNear] at h6 h7
    obtain ⟨s0, e0, m0⟩ := str_one (enc := enc) (W := W) (held := held) (n := m) (c := c0) (x := y0) h0
    obtain ⟨s1, e1, m1⟩ := str_one (enc := enc) (W := W) (held := held) (n := m) (c := c1) (x := y1) h1
    obtain ⟨r, e2, e3, e4, e5, e6⟩ := vec_one (enc := enc) (W := W) (held := held) (n := m) (c0 := c2) (c1 := c3) (c2 := c4) (c3 := c5) (c4 := c6) (x := y2) h2
    obtain ⟨A1, k1, l1, e7, hL1⟩ := labs_one (enc := enc) (W := W) (held := held) (n := m) (c := c7) (x := y3) h3
    obtain ⟨A2, k2, l2, e8, hL2⟩ := ters_one (enc := enc) (W := W) (held := held) (n := m) (c := c8) (x := y4) h4
    obtain ⟨A3, k3, l3, e9, hL3⟩ := labs_one (enc := enc) (W := W) (held := held) (n := m) (c := c9) (x := y5) h5
    obtain ⟨s4, A4, k4, l4, e10, m4, e11, hL4⟩ := near_one (enc := enc) (W := W) (held := held) (n := m) (c0 := c10) (c1 := c11) (x := y6) h6
    obtain ⟨s5, A5, k5, l5, e12, m5, e13, hL5⟩ := near_one (enc := enc) (W := W) (held := held) (n := m) (c0 := c12) (c1 := c13) (x := y7) h7
    obtain ⟨s6, e14, m6⟩ := str_one (enc := enc) (W := W) (held := held) (n := m) (c := c14) (x := y8) h8
    exact ⟨{ name := s0, owner := s1, req := r, labels := l1, whr := l2, bears := l3, wt := s4, wtm := l4, ap := s5, apm := l5, on := s6, al := A1, cl := k1, aw := A2, cw := k2, ab := A3, cb := k3, awt := A4, cwt := k4, aap := A5, cap := k5 }, by rw [e0, e1, e2, e3, e4, e5, e6, e7, e8, e9, e10, e11, e12, e13, e14], hL1, hL2, hL3, hL4, hL5, kmax m0, kmax m1, m4, m5, kmax m6⟩
set_option maxRecDepth 100000 in
theorem owner_row (n : Nat) (cs : List Value) (x : DataW H × List MemPlace) (h : DataW.trod enc Tryz.prog W 0 (fun _ => true) held n 64 cs = some x) : ∃ y : OwnD, cs = [strV y.name, .int .i64 y.min, strV y.topo, .int .i64 y.skew, .bool y.single] ∧ y.fit := by
  obtain ⟨xs, m, _, _, hl, hxl, hf⟩ := DataW.trod_struct Tryz.underlying64 h
  rw [kcOwner] at hl
  match cs, hl, xs, hxl with
  | [c0, c1, c2, c3, c4], _, [y0, y1, y2, y3, y4], _ =>
    have h0 : DataW.trod enc Tryz.prog W 0 (fun _ => true) held m 9 ((([c0, c1, c2, c3, c4] : List Value).drop 0).take (Tryz.prog.cellsOf 9)) = some y0 := hf 0 _ rfl
    have h1 : DataW.trod enc Tryz.prog W 0 (fun _ => true) held m 3 ((([c0, c1, c2, c3, c4] : List Value).drop 1).take (Tryz.prog.cellsOf 3)) = some y1 := hf 1 _ rfl
    have h2 : DataW.trod enc Tryz.prog W 0 (fun _ => true) held m 9 ((([c0, c1, c2, c3, c4] : List Value).drop 2).take (Tryz.prog.cellsOf 9)) = some y2 := hf 2 _ rfl
    have h3 : DataW.trod enc Tryz.prog W 0 (fun _ => true) held m 3 ((([c0, c1, c2, c3, c4] : List Value).drop 3).take (Tryz.prog.cellsOf 3)) = some y3 := hf 3 _ rfl
    have h4 : DataW.trod enc Tryz.prog W 0 (fun _ => true) held m 4 ((([c0, c1, c2, c3, c4] : List Value).drop 4).take (Tryz.prog.cellsOf 4)) = some y4 := hf 4 _ rfl
    rw [kcStr] at h0 h2
    rw [kcInt] at h1 h3
    rw [kcBool] at h4
    obtain ⟨s0, e0, m0⟩ := str_one (enc := enc) (W := W) (held := held) (n := m) (c := c0) (x := y0) h0
    obtain ⟨i1, e1⟩ := int_one (enc := enc) (W := W) (held := held) (n := m) (c := c1) (x := y1) h1
    obtain ⟨s2, e2, m2⟩ := str_one (enc := enc) (W := W) (held := held) (n := m) (c := c2) (x := y2) h2
    obtain ⟨i3, e3⟩ := int_one (enc := enc) (W := W) (held := held) (n := m) (c := c3) (x := y3) h3
    obtain ⟨b4, e4⟩ := bool_one (enc := enc) (W := W) (held := held) (n := m) (c := c4) (x := y4) h4
    exact ⟨{ name := s0, min := i1, topo := s2, skew := i3, single := b4 }, by rw [e0, e1, e2, e3, e4], kmax m0, kmax m2⟩
end

/-- A cluster of any length in memory. -/
structure SnapIn (w : World) (A B C : Option Addr) (ca cb cc : Nat) (ns : List NodeD) (ps : List PodD) (os : List OwnD) : Prop where
  n : NodesAt w A ns
  p : PodsAt w B ps
  o : La.SlAt w C (cellsO os)
  fo : ∀ x ∈ os, x.fit
  can : ns.length ≤ ca ∧ ca ≤ 9223372036854775807
  cap : ps.length ≤ cb ∧ cb ≤ 9223372036854775807
  cao : os.length ≤ cc ∧ cc ≤ 9223372036854775807

set_option maxRecDepth 100000 in
theorem open_snap {H : Type} {enc : TypeId × Value → H} {W : World} {r : Reach} {b0 : Nat} {held : Bool} {v : Value} {d : DataW H} {p : List MemPlace}
    (hv : Value.okWide Tryz.prog W r b0 26 v) (h : DataW.Trod enc Tryz.prog W 0 (fun _ => true) held 26 v d p) :
    ∃ A B C ca cb cc ns ps os, v = snapV A B C ca cb cc ns ps os ∧ SnapIn W A B C ca cb cc ns ps os := by
  simp only [Value.okWide, Tryz.underlying26] at hv
  obtain ⟨cs, rfl, _, _⟩ := hv
  obtain ⟨fuel, hf0⟩ := h
  obtain ⟨xs, m, _, _, hl, hxl, hf⟩ := DataW.trod_struct Tryz.underlying26 hf0
  rw [kcSnap] at hl
  obtain ⟨c0, c1, c2, rfl⟩ : ∃ c0 c1 c2, cs = #[c0, c1, c2] := by
    obtain ⟨l⟩ := cs
    match l, hl with
    | [c0, c1, c2], _ => exact ⟨c0, c1, c2, rfl⟩
  match xs, hxl with
  | [y0, y1, y2], _ =>
    have h0 : DataW.trod enc Tryz.prog W 0 (fun _ => true) held m 22 ((([c0, c1, c2] : List Value).drop 0).take (Tryz.prog.cellsOf 22)) = some y0 := hf 0 _ rfl
    have h1 : DataW.trod enc Tryz.prog W 0 (fun _ => true) held m 23 ((([c0, c1, c2] : List Value).drop 1).take (Tryz.prog.cellsOf 23)) = some y1 := hf 1 _ rfl
    have h2 : DataW.trod enc Tryz.prog W 0 (fun _ => true) held m 24 ((([c0, c1, c2] : List Value).drop 2).take (Tryz.prog.cellsOf 24)) = some y2 := hf 2 _ rfl
    rw [kcNodes] at h0
    rw [kcPods] at h1
    rw [kcOwners] at h2
    have g0 : DataW.trod enc Tryz.prog W 0 (fun _ => true) held m 22 [c0] = some y0 := h0
    have g1 : DataW.trod enc Tryz.prog W 0 (fun _ => true) held m 23 [c1] = some y1 := h1
    have g2 : DataW.trod enc Tryz.prog W 0 (fun _ => true) held m 24 [c2] = some y2 := h2
    obtain ⟨A, ca, ns, e0, hs0, l0, k0, f0⟩ := slice_cells (T := NodeD) _ 10 _ Tryz.underlying22 kcNode (by omega) (fun _ => rfl) (fun n cs x h => node_row n cs x h) g0
    obtain ⟨B, cb, ps, e1, hs1, l1, k1, f1⟩ := slice_cells (T := PodD) _ 15 _ Tryz.underlying23 kcPod (by omega) (fun _ => rfl) (fun n cs x h => pod_row n cs x h) g1
    obtain ⟨C, cc, os, e2, hs2, l2, k2, f2⟩ := slice_cells (T := OwnD) _ 5 _ Tryz.underlying24 kcOwner (by omega) (fun _ => rfl) (fun n cs x h => owner_row n cs x h) g2
    simp only [List.cons.injEq, and_true] at e0 e1 e2
    exact ⟨A, B, C, ca, cb, cc, ns, ps, os, by rw [e0, e1, e2], ⟨hs0, f0⟩, ⟨hs1, f1⟩, hs2, f2, ⟨l0, kmax k0⟩, ⟨l1, kmax k1⟩, ⟨l2, kmax k2⟩⟩
theorem flat_ints : ∀ l : List Int, l.flatMap (fun y => [Value.int .i64 y]) = intsC l
  | [] => rfl
  | x :: t => by
    rw [List.flatMap_cons, flat_ints t]
    rfl
set_option maxRecDepth 100000 in
theorem open_intsK {H : Type} {enc : TypeId × Value → H} {W : World} {r : Reach} {b0 : Nat} {held : Bool} {v : Value} {d : DataW H} {p : List MemPlace}
    (hv : Value.okWide Tryz.prog W r b0 27 v) (h : DataW.Trod enc Tryz.prog W 0 (fun _ => true) held 27 v d p) :
    ∃ A c l, v = .slice A (List.length l) c ∧ IntsAt W A c l := by
  obtain ⟨a0, len, cap, rfl⟩ := okWide_slice Tryz.underlying27 hv
  obtain ⟨fuel, hf⟩ := h
  have hf' : DataW.trod enc Tryz.prog W 0 (fun _ => true) held fuel 27 [.slice a0 len cap] = some _ := hf
  obtain ⟨A, c, l, e, hs, h1, h2, hg⟩ := slice_cells (T := Int) (fun y => [.int .i64 y]) 1 (fun _ => True) Tryz.underlying27 kcInt (by omega) (fun _ => rfl) (fun n cs x h => by
    obtain ⟨s, e, _, _⟩ := DataW.trod_int Tryz.underlying3 h
    exact ⟨s, e, trivial⟩) hf'
  simp only [List.cons.injEq, and_true] at e
  refine ⟨A, c, l, e, ?_, h1, kmax h2⟩
  have e2 : l.flatMap (fun y => [Value.int .i64 y]) = intsC l := flat_ints l
  rw [e2] at hs
  exact hs
end Go.Proofs.YtfnigiiocapceaaGreat

namespace Go.Proofs.YtfnigiiocapceaaGreat
open Go.RowKit

theorem flat_take {T : Type} (f : T → List Value) (l : List T) (n : Nat) {j : Nat} {y : Value} (h : ((l.take n).flatMap f)[j]? = some y) : (l.flatMap f)[j]? = some y := by
  have e : l.flatMap f = (l.take n).flatMap f ++ (l.drop n).flatMap f := by rw [← List.flatMap_append, List.take_append_drop]
  rw [e, List.getElem?_append_left (List.getElem?_eq_some_iff.1 h).1]
  exact h
theorem SnapIn.take {w : World} {A B C : Option Addr} {ca cb cc : Nat} {ns : List NodeD} {ps : List PodD} {os : List OwnD} (h : SnapIn w A B C ca cb cc ns ps os) : SnapAt w A B C ca cb cc (ns.take 12) (ps.take 30) (os.take 12) := by
  refine ⟨⟨fun j y hj => h.n.cells j y (flat_take _ ns 12 hj), fun x hx => h.n.fit x (List.mem_of_mem_take hx)⟩, ⟨fun j y hj => h.p.cells j y (flat_take _ ps 30 hj), fun x hx => h.p.fit x (List.mem_of_mem_take hx)⟩, fun j y hj => h.o j y (flat_take _ os 12 hj), fun x hx => h.fo x (List.mem_of_mem_take hx), ?_, ?_, ?_, ⟨?_, h.can.2⟩, ⟨?_, h.cap.2⟩, ⟨?_, h.cao.2⟩⟩
  · simp; omega
  · simp; omega
  · simp; omega
  · have := h.can.1; simp; omega
  · have := h.cap.1; simp; omega
  · have := h.cao.1; simp; omega

theorem snap_sizeK : (Tryz.prog.info? 26).map (·.size) = some 3 := by kernel_rfl
set_option maxRecDepth 100000 in
set_option maxHeartbeats 4000000 in
theorem cut_any (A B C : Option Addr) (ca cb cc : Nat) (ns : List NodeD) (ps : List PodD) (os : List OwnD) (w : World) (h : SnapIn w A B C ca cb cc ns ps os) :
    Calls Tryz.prog 9 #[snapV A B C ca cb cc ns ps os] w fun e w' => e = .returned (snapV A B C ca cb cc (ns.take 12) (ps.take 30) (os.take 12)) ∧ Below w.heap.size w w' := by
  have h0 := Nat.le_trans h.can.1 h.can.2
  have h1 := Nat.le_trans h.cap.1 h.cap.2
  have h2 := Nat.le_trans h.cao.1 h.cao.2
  have hc0 : min (ns.length : Int) 12 ≤ (ca : Int) := by have := h.can.1; omega
  have hc1 : min (ps.length : Int) 30 ≤ (cb : Int) := by have := h.cap.1; omega
  have hc2 : min (os.length : Int) 12 ≤ (cc : Int) := by have := h.cao.1; omega
  have hp0 : (0 : Int) ≤ min (ns.length : Int) 12 := by omega
  have hp1 : (0 : Int) ≤ min (ps.length : Int) 30 := by omega
  have hp2 : (0 : Int) ≤ min (os.length : Int) 12 := by omega
  have hl0 : Hid ((min (ns.length : Int) 12).toNat = (ns.take 12).length) := Lib.hid (by simp; omega)
  have hl1 : Hid ((min (ps.length : Int) 30).toNat = (ps.take 30).length) := Lib.hid (by simp; omega)
  have hl2 : Hid ((min (os.length : Int) 12).toNat = (os.take 12).length) := Lib.hid (by simp; omega)
  clear h
  go_enter Tryz.func9, Tryz.ntmps9
  go_wp2_with fail
  have S9 : Hid (Blk ((w.alloc (.cells (snapC A B C ca cb cc ns ps os) 26)).alloc (.cells #[.slice none 0 0, .slice none 0 0, .slice none 0 0] 26)) w.heap.size (snapC A B C ca cb cc ns ps os) 26) := Lib.hid (Blk.alloc (Blk.new w _ _) _)
  have R9 : Hid (Blk ((w.alloc (.cells (snapC A B C ca cb cc ns ps os) 26)).alloc (.cells #[.slice none 0 0, .slice none 0 0, .slice none 0 0] 26)) (w.heap.size + 1) #[.slice none 0 0, .slice none 0 0, .slice none 0 0] 26) := Lib.hid (blk2 w _ _ _)
  have B9 : Hid (Below w.heap.size w ((w.alloc (.cells (snapC A B C ca cb cc ns ps os) 26)).alloc (.cells #[.slice none 0 0, .slice none 0 0, .slice none 0 0] 26))) := Lib.hid (Qu.below2 w _ _)
  generalize ((w.alloc (.cells (snapC A B C ca cb cc ns ps os) 26)).alloc (.cells #[.slice none 0 0, .slice none 0 0, .slice none 0 0] 26)) = W at S9 R9 B9 ⊢
  obtain ⟨Rb, hRb⟩ : ∃ Rb, w.heap.size + 1 = Rb := ⟨_, rfl⟩
  rw [hRb] at R9 ⊢
  have HRb := Lib.hid hRb
  clear hRb
  have S0 : W.cell? ⟨w.heap.size, 0, none⟩ = some (.slice A ns.length ca) ∧ W.cell? ⟨w.heap.size, 1, none⟩ = some (.slice B ps.length cb) ∧ W.cell? ⟨w.heap.size, 2, none⟩ = some (.slice C os.length cc) := ⟨Blk.cell S9.out 0, Blk.cell S9.out 1, Blk.cell S9.out 2⟩
  have S1 : W.drew.cell? ⟨w.heap.size, 0, none⟩ = some (.slice A ns.length ca) ∧ W.drew.cell? ⟨w.heap.size, 1, none⟩ = some (.slice B ps.length cb) ∧ W.drew.cell? ⟨w.heap.size, 2, none⟩ = some (.slice C os.length cc) := S0
  have r0 : W.cell? ⟨Rb, 0, none⟩ = some (.slice none 0 0) := Blk.cell R9.out 0
  have r1 : W.cell? ⟨Rb, 1, none⟩ = some (.slice none 0 0) := Blk.cell R9.out 1
  have r2 : W.cell? ⟨Rb, 2, none⟩ = some (.slice none 0 0) := Blk.cell R9.out 2
  have f0 := Blk.free R9.out 0
  have f1 := Blk.free R9.out 1
  have f2 := Blk.free R9.out 2
  have hne : w.heap.size ≠ Rb := by have := HRb.out; omega
  have HS3 : Hid (Blk (((W.setCell ⟨Rb, 0, none⟩ (Value.slice A (min (ns.length : Int) 12).toNat ca)).setCell ⟨Rb, 1, none⟩ (Value.slice B (min (ps.length : Int) 30).toNat cb)).setCell ⟨Rb, 2, none⟩ (Value.slice C (min (os.length : Int) 12).toNat cc)) w.heap.size (snapC A B C ca cb cc ns ps os) 26) := Lib.hid (((S9.out.oth hne 0 _).oth hne 1 _).oth hne 2 _)
  have HR3 : Hid (Blk (((W.setCell ⟨Rb, 0, none⟩ (Value.slice A (min (ns.length : Int) 12).toNat ca)).setCell ⟨Rb, 1, none⟩ (Value.slice B (min (ps.length : Int) 30).toNat cb)).setCell ⟨Rb, 2, none⟩ (Value.slice C (min (os.length : Int) 12).toNat cc)) Rb #[Value.slice A (min (ns.length : Int) 12).toNat ca, Value.slice B (min (ps.length : Int) 30).toNat cb, Value.slice C (min (os.length : Int) 12).toNat cc] 26) := Lib.hid (((R9.out.set 0 _).set 1 _).set 2 _)
  have HB3 : Hid (Below w.heap.size w (((W.setCell ⟨Rb, 0, none⟩ (Value.slice A (min (ns.length : Int) 12).toNat ca)).setCell ⟨Rb, 1, none⟩ (Value.slice B (min (ps.length : Int) 30).toNat cb)).setCell ⟨Rb, 2, none⟩ (Value.slice C (min (os.length : Int) 12).toNat cc))) := Lib.hid (by
    have := HRb.out
    exact ((B9.out.setCell (p := ⟨Rb, 0, none⟩) (by show w.heap.size ≤ Rb; omega) _).setCell (p := ⟨Rb, 1, none⟩) (by show w.heap.size ≤ Rb; omega) _).setCell (p := ⟨Rb, 2, none⟩) (by show w.heap.size ≤ Rb; omega) _)
  have S3 : (((W.setCell ⟨Rb, 0, none⟩ (Value.slice A (min (ns.length : Int) 12).toNat ca)).setCell ⟨Rb, 1, none⟩ (Value.slice B (min (ps.length : Int) 30).toNat cb)).setCell ⟨Rb, 2, none⟩ (Value.slice C (min (os.length : Int) 12).toNat cc)).drew.cell? ⟨w.heap.size, 0, none⟩ = some (.slice A ns.length ca) ∧ (((W.setCell ⟨Rb, 0, none⟩ (Value.slice A (min (ns.length : Int) 12).toNat ca)).setCell ⟨Rb, 1, none⟩ (Value.slice B (min (ps.length : Int) 30).toNat cb)).setCell ⟨Rb, 2, none⟩ (Value.slice C (min (os.length : Int) 12).toNat cc)).drew.cell? ⟨w.heap.size, 1, none⟩ = some (.slice B ps.length cb) ∧ (((W.setCell ⟨Rb, 0, none⟩ (Value.slice A (min (ns.length : Int) 12).toNat ca)).setCell ⟨Rb, 1, none⟩ (Value.slice B (min (ps.length : Int) 30).toNat cb)).setCell ⟨Rb, 2, none⟩ (Value.slice C (min (os.length : Int) 12).toNat cc)).drew.cell? ⟨w.heap.size, 2, none⟩ = some (.slice C os.length cc) := ⟨Blk.cell HS3.out 0, Blk.cell HS3.out 1, Blk.cell HS3.out 2⟩
  go_region_held3 (fun w' => w'.cell? ⟨w.heap.size, 0, none⟩ = some (.slice A ns.length ca) ∧ w'.cell? ⟨w.heap.size, 1, none⟩ = some (.slice B ps.length cb) ∧ w'.cell? ⟨w.heap.size, 2, none⟩ = some (.slice C os.length cc))
    (first | (with_reducible exact S1) | (with_reducible exact S0) | (with_reducible exact S3) | go_keep)
    (skip)
  all_goals
    go_wp2_with fail
    rw [hl0.out, hl1.out, hl2.out] at HR3 HB3 ⊢
    refine bodyPost_row1 Tryz.results9 Rb _ _ _ _ (by rfl) (by rfl) (show Blk _ Rb _ _ from HR3.out) Tryz.underlying26 rfl snap_sizeK ?_
    exact ⟨rfl, HB3.out.drew⟩
end Go.Proofs.YtfnigiiocapceaaGreat

namespace Go.Proofs.YtfnigiiocapceaaGreat
open Go.RowKit

/-- The node that a number names. -/
def fitN (ns : List NodeD) (l : List Int) (k : Nat) : Int := match l[k]? with
  | some x => x % ((ns.length : Int) + 1) - 1
  | none => -1
/-- .. if pods may be there; else none. -/
def fit1 (ns : List NodeD) (l : List Int) (k : Nat) : Int := if tpB ns (fitN ns l k) then fitN ns l k else -1
def fitU (ns : List NodeD) (l : List Int) : Nat → List Int
  | 0 => []
  | k + 1 => fitU ns l k ++ [fit1 ns l k]
theorem fitU_len (ns : List NodeD) (l : List Int) : ∀ k, (fitU ns l k).length = k
  | 0 => rfl
  | k + 1 => by rw [fitU, List.length_append, fitU_len ns l k]; rfl
theorem fitN_in (ns : List NodeD) (l : List Int) (k : Nat) : fitN ns l k = -1 ∨ (0 ≤ fitN ns l k ∧ fitN ns l k < (ns.length : Int)) := by
  unfold fitN
  cases l[k]? with
  | none => exact .inl rfl
  | some x =>
    dsimp only
    have h1 := Int.emod_nonneg x (show (ns.length : Int) + 1 ≠ 0 by omega)
    have h2 := Int.emod_lt_of_pos x (show (0 : Int) < (ns.length : Int) + 1 by omega)
    omega
theorem fitU_ok (ns : List NodeD) (l : List Int) : ∀ k, ∀ x ∈ fitU ns l k, okB ns x = true
  | 0, x, h => by cases h
  | k + 1, x, h => by
    rw [fitU, List.mem_append] at h
    rcases h with h | h
    · exact fitU_ok ns l k x h
    · simp only [List.mem_singleton] at h
      subst h
      unfold fit1 okB
      split
      · rename_i ht
        rw [ht, Bool.or_true]
      · rfl

set_option maxRecDepth 100000 in
set_option maxHeartbeats 4000000 in
theorem fitted_any (A B C P : Option Addr) (ca cb cc cp : Nat) (ns : List NodeD) (ps : List PodD) (os : List OwnD) (l : List Int) (w : World) (h : SnapAt w A B C ca cb cc ns ps os) (hp : IntsAt w P cp l) :
    Calls Tryz.prog 33 #[snapV A B C ca cb cc ns ps os, .slice P l.length cp] w fun e w' => ∃ v, e = .returned v ∧ w'.ownsRow w.heap.size 3 1 v ps.length (intsC (fitU ns l ps.length)) ∧ Below w.heap.size w w' := by
  have H := Lib.hid h
  have HP := Lib.hid hp
  have hlp := h.lp
  have hln := h.ln
  have hll : l.length ≤ 9223372036854775807 := Nat.le_trans hp.le hp.most
  have B0 : Hid (Below w.heap.size w (w.alloc (.cells (snapC A B C ca cb cc ns ps os) 26))) := Lib.hid (below1 w _)
  have S0 : Hid (Blk (w.alloc (.cells (snapC A B C ca cb cc ns ps os) 26)) w.heap.size (snapC A B C ca cb cc ns ps os) 26) := Lib.hid (Blk.new w _ _)
  obtain ⟨i0, hi0, hz0, hz1, hz2⟩ := info_parts Qu.int_info
  clear h hp
  go_enter Tryz.func33, Tryz.ntmps33
  go_wp2_with fail
  go_loopw [6, 5] (fun i v wr => ∃ k : Nat, k ≤ ps.length ∧ i = .int .i64 k ∧ wr.ownsRow w.heap.size 3 1 v k (intsC (fitU ns l k)) ∧ Below w.heap.size w wr ∧ Blk wr w.heap.size (snapC A B C ca cb cc ns ps os) 26) (fun i _ _ => ps.length - (intOf i).toNat)
  case atStart => exact ⟨0, by omega, rfl, World.ownsRow_nil _ _ _ _, B0.out, S0.out⟩
  case round =>
    clear B0 S0
    obtain ⟨k, hk, rfl, ho, hb, hs⟩ := hrel
    have HO := Lib.hid ho
    have HB := Lib.hid hb
    have HS := Lib.hid hs
    clear ho hb hs
    have s0 : wr.cell? ⟨w.heap.size, 0, none⟩ = some (.slice A ns.length ca) := Blk.cell HS.out 0
    have s1 : wr.cell? ⟨w.heap.size, 1, none⟩ = some (.slice B ps.length cb) := Blk.cell HS.out 1
    by_cases hlt : k < ps.length
    · have E : Hid (fitU ns l (k + 1) = fitU ns l k ++ [fit1 ns l k]) := Lib.hid rfl
      have E1 : Hid (fit1 ns l k = if tpB ns (fitN ns l k) then fitN ns l k else -1) := Lib.hid rfl
      have EN := Lib.hid (fitN_in ns l k)
      have k0 : (0 : Int) ≤ (k : Int) := by omega
      have k1 : (k : Int) < (ps.length : Int) := by omega
      have hkm : Hid (k + 1 ≤ maxLen) := Lib.hid (by unfold maxLen; omega)
      have hkc : Hid ((k + 1) * 8 ≤ 140737488355328) := Lib.hid (by omega)
      go_upto_if 18 with fail
      go_cut [7] (fun v wc => v = .int .i64 (fitN ns l k) ∧ (wc = wr ∨ wc = wr.drew))
      case first =>
        by_cases hkl : k < l.length
        · obtain ⟨x, hx⟩ : ∃ x, l[k]? = some x := ⟨l[k], List.getElem?_eq_getElem hkl⟩
          have FX : Hid (fitN ns l k = x % ((ns.length : Int) + 1) - 1) := Lib.hid (by unfold fitN; rw [hx])
          obtain ⟨b, o, hA, hbl, c0⟩ := atI (HP.out.below (HB.out.mono (Nat.le_refl _))).cells hx
          subst hA
          have k2 : (k : Int) < (l.length : Int) := by omega
          have hw1 : Hid (IntKind.i64.wrap ((ns.length : Int) + 1) = (ns.length : Int) + 1) := Lib.hid (IntWalk.i64_in _ (by omega))
          have BR := Lib.hid (fun W => Qu.bring_any x ((ns.length : Int) + 1) W (by omega) (by omega))
          have S0 : wr.drew.cell? ⟨w.heap.size, 0, none⟩ = some (.slice (A) ns.length ca) := s0
          have C0 : wr.drew.cell? ⟨b, o + k, none⟩ = some (.int .i64 x) := c0
          have em0 := Int.emod_nonneg x (show (ns.length : Int) + 1 ≠ 0 by omega)
          have em1 := Int.emod_lt_of_pos x (show (0 : Int) < (ns.length : Int) + 1 by omega)
          have hw2 : Hid (IntKind.i64.wrap (x % ((ns.length : Int) + 1) - 1) = x % ((ns.length : Int) + 1) - 1) := Lib.hid (IntWalk.i64_in _ (by omega))
          go_upto_region 7 with fail
          go_region_held3 (fun w' => w'.cell? ⟨w.heap.size, 0, none⟩ = some (.slice A ns.length ca) ∧ w'.cell? ⟨b, o + k, none⟩ = some (.int .i64 x))
            (first | (with_reducible exact ⟨S0, C0⟩) | (with_reducible exact ⟨s0, c0⟩) | go_keep)
            ((go_at_call 56; (rw [hw1.out]); (with_reducible refine (BR.out _).mono ?_); rintro e w3 ⟨rfl, rfl⟩))
          all_goals
            go_wp2_with fail
            go_meet
            exact ⟨by rw [FX.out, hw2.out], .inr rfl⟩
        · have FX : Hid (fitN ns l k = -1) := Lib.hid (by unfold fitN; rw [List.getElem?_eq_none (by omega)])
          go_wp2_with fail
          go_meet
          exact ⟨by rw [FX.out], .inl rfl⟩
      case rest =>
        obtain ⟨rfl, hwc⟩ := hcut
        have HO1 : Hid (wc.ownsRow w.heap.size 3 1 u5 k (intsC (fitU ns l k))) := by
          rcases hwc with rfl | rfl
          · exact HO
          · exact Lib.hid (show World.ownsRow wr.drew _ _ _ _ _ _ from HO.out)
        have HB1 : Hid (Below w.heap.size w wc) := by
          rcases hwc with rfl | rfl
          · exact HB
          · exact Lib.hid HB.out.drew
        have HS1 : Hid (Blk wc w.heap.size (snapC A B C ca cb cc ns ps os) 26) := by
          rcases hwc with rfl | rfl
          · exact HS
          · exact Lib.hid (show Blk wr.drew _ _ _ from HS.out)
        have z0 : wc.cell? ⟨w.heap.size, 0, none⟩ = some (.slice A ns.length ca) := Blk.cell HS1.out 0
        clear HO HB HS s0 s1 hwc
        obtain ⟨N, hN⟩ : ∃ N, fitN ns l k = N := ⟨_, rfl⟩
        rw [hN] at E1 EN
        rw [hN]
        clear hN
        by_cases hn : 0 ≤ N ∧ N < (ns.length : Int)
        · obtain ⟨hn0, hn1⟩ := hn
          obtain ⟨n, rfl⟩ : ∃ n : Nat, N = (n : Int) := ⟨N.toNat, by omega⟩
          have hnl : n < ns.length := by omega
          obtain ⟨x, hx⟩ : ∃ x, ns[n]? = some x := ⟨ns[n], List.getElem?_eq_getElem hnl⟩
          obtain ⟨b, o, hA, hbl, c0, c1, c2, c3, c4, c5, c6, c7, c8, c9⟩ := atN (H.out.below HB1.out).n.cells hx
          subst hA
          have T : Hid (tpB ns (n : Int) = !x.lost) := Lib.hid (by unfold tpB; rw [Int.toNat_natCast, hx]; simp)
          clear hx c0 c1 c2 c3 c4 c5 c6 c7 c8
          obtain ⟨r, hr⟩ : ∃ r, x.lost = r := ⟨_, rfl⟩
          rw [hr] at c9 T
          clear hr
          cases r with
          | false =>
            have F : Hid (fit1 ns l k = (n : Int)) := Lib.hid (by rw [E1.out, T.out]; rfl)
            go_wp2_with (at_builtin; refine wpList_append_own _ rfl _ _ 27 rfl w.heap.size 3 i0 (.int .i64 0) 1 8 Tryz.underlying27 hi0 hz0 hz1 hz2 rfl (by decide) _ _ _ rfl (show World.ownsRow _ _ _ _ _ _ _ from HO1.out.alloc _) ⟨wc.heap.size, 0, none⟩ 1 1 [.int .i64 (n : Int)] rfl rfl ?c1 ?c2 ?c3 ?c4 ?c5 ?_)
            case c1 =>
              intro j u hj
              match j, hj with
              | 0, hj => simp at hj; subst hj; simp [Addr.add]
            case c2 => first | rfl | (intro u hu; simp at hu; subst hu; rfl)
            case c3 => have := hkm.out; omega
            case c4 => have := hkc.out; omega
            case c5 => have := HB1.out.size; simp; omega
            intro v' w2 hown' hgrow' _
            have hwz : w.heap.size < wc.heap.size := Blk.lt HS1.out
            have HO2 := Lib.hid hown'
            have HW2 := Lib.hid ((HB1.out.alloc HB1.out.size (.cells #[.int .i64 (n : Int)] 3)).grown hgrow' (by have := HB1.out.size; simp; omega) (fun j hj => own_gem HO1.out hj))
            have HS2 : Hid (Blk w2 w.heap.size (snapC (some ⟨b, o, none⟩) B C ca cb cc ns ps os) 26) := Lib.hid (Blk.kept (Blk.alloc HS1.out (.cells #[.int .i64 (n : Int)] 3)) hgrow' (fun e => by
              have he := e.symm
              rcases HO1.out.2 with ⟨hv, _⟩ | ⟨g, cap, cur, hv, hbg, hg, _⟩
              · rw [hv] at he; cases he
              · rw [hv] at he
                simp only [Value.ownBlock, Option.some.injEq] at he
                subst he
                have h1 := HS1.out
                unfold Blk at h1
                rw [hg] at h1
                cases h1))
            clear hown' hgrow'
            go_wp2
            go_roundw
            case rel =>
              refine ⟨k + 1, by omega, by go_num, ?_, HW2.out, HS2.out⟩
              rw [E.out, F.out]
              simpa [intsC] using HO2.out
            case measure => simp [intOf]; omega
          | true =>
            have F : Hid (fit1 ns l k = -1) := Lib.hid (by rw [E1.out, T.out]; rfl)
            go_wp2_with (at_builtin; refine wpList_append_own _ rfl _ _ 27 rfl w.heap.size 3 i0 (.int .i64 0) 1 8 Tryz.underlying27 hi0 hz0 hz1 hz2 rfl (by decide) _ _ _ rfl (show World.ownsRow _ _ _ _ _ _ _ from HO1.out.alloc _) ⟨wc.heap.size, 0, none⟩ 1 1 [.int .i64 (-1)] rfl rfl ?c1 ?c2 ?c3 ?c4 ?c5 ?_)
            case c1 =>
              intro j u hj
              match j, hj with
              | 0, hj => simp at hj; subst hj; simp [Addr.add]
            case c2 => first | rfl | (intro u hu; simp at hu; subst hu; rfl)
            case c3 => have := hkm.out; omega
            case c4 => have := hkc.out; omega
            case c5 => have := HB1.out.size; simp; omega
            intro v' w2 hown' hgrow' _
            have hwz : w.heap.size < wc.heap.size := Blk.lt HS1.out
            have HO2 := Lib.hid hown'
            have HW2 := Lib.hid ((HB1.out.alloc HB1.out.size (.cells #[.int .i64 (-1)] 3)).grown hgrow' (by have := HB1.out.size; simp; omega) (fun j hj => own_gem HO1.out hj))
            have HS2 : Hid (Blk w2 w.heap.size (snapC (some ⟨b, o, none⟩) B C ca cb cc ns ps os) 26) := Lib.hid (Blk.kept (Blk.alloc HS1.out (.cells #[.int .i64 (-1)] 3)) hgrow' (fun e => by
              have he := e.symm
              rcases HO1.out.2 with ⟨hv, _⟩ | ⟨g, cap, cur, hv, hbg, hg, _⟩
              · rw [hv] at he; cases he
              · rw [hv] at he
                simp only [Value.ownBlock, Option.some.injEq] at he
                subst he
                have h1 := HS1.out
                unfold Blk at h1
                rw [hg] at h1
                cases h1))
            clear hown' hgrow'
            go_wp2
            go_roundw
            case rel =>
              refine ⟨k + 1, by omega, by go_num, ?_, HW2.out, HS2.out⟩
              rw [E.out, F.out]
              simpa [intsC] using HO2.out
            case measure => simp [intOf]; omega
        · obtain rfl : N = -1 := by have := EN.out; omega
          have F : Hid (fit1 ns l k = -1) := Lib.hid (by rw [E1.out, ite_self])
          clear hn
          go_wp2_with (at_builtin; refine wpList_append_own _ rfl _ _ 27 rfl w.heap.size 3 i0 (.int .i64 0) 1 8 Tryz.underlying27 hi0 hz0 hz1 hz2 rfl (by decide) _ _ _ rfl (show World.ownsRow _ _ _ _ _ _ _ from HO1.out.alloc _) ⟨wc.heap.size, 0, none⟩ 1 1 [.int .i64 (-1)] rfl rfl ?c1 ?c2 ?c3 ?c4 ?c5 ?_)
          try case c1 =>
            intro j u hj
            match j, hj with
            | 0, hj => simp at hj; subst hj; simp [Addr.add]
          case c2 => first | rfl | (intro u hu; simp at hu; subst hu; rfl)
          case c3 => have := hkm.out; omega
          case c4 => have := hkc.out; omega
          case c5 => have := HB1.out.size; simp; omega
          intro v' w2 hown' hgrow' _
          have hwz : w.heap.size < wc.heap.size := Blk.lt HS1.out
          have HO2 := Lib.hid hown'
          have HW2 := Lib.hid ((HB1.out.alloc HB1.out.size (.cells #[.int .i64 (-1)] 3)).grown hgrow' (by have := HB1.out.size; simp; omega) (fun j hj => own_gem HO1.out hj))
          have HS2 : Hid (Blk w2 w.heap.size (snapC A B C ca cb cc ns ps os) 26) := Lib.hid (Blk.kept (Blk.alloc HS1.out (.cells #[.int .i64 (-1)] 3)) hgrow' (fun e => by
            have he := e.symm
            rcases HO1.out.2 with ⟨hv, _⟩ | ⟨g, cap, cur, hv, hbg, hg, _⟩
            · rw [hv] at he; cases he
            · rw [hv] at he
              simp only [Value.ownBlock, Option.some.injEq] at he
              subst he
              have h1 := HS1.out
              unfold Blk at h1
              rw [hg] at h1
              cases h1))
          clear hown' hgrow'
          go_wp2
          go_roundw
          case rel =>
            refine ⟨k + 1, by omega, by go_num, ?_, HW2.out, HS2.out⟩
            rw [E.out, F.out]
            simpa [intsC] using HO2.out
          case measure => simp [intOf]; omega
    · obtain rfl : k = ps.length := by omega
      go_wp2
      go_ret
      exact ⟨_, rfl, HO.out, HB.out⟩
end Go.Proofs.YtfnigiiocapceaaGreat

namespace Go.Proofs.YtfnigiiocapceaaGreat
open Go.RowKit

theorem placeE_zero {ns : List NodeD} {ps : List PodD} {os : List OwnD} {p : List Int} (h : placeE ns ps os p = 0) : checkS ns ps os = 0 ∧ p.length = ps.length ∧ ∀ x ∈ p, okB ns x = true := by
  unfold placeE at h
  by_cases h0 : checkS ns ps os = 0
  · rw [if_pos h0] at h
    by_cases h1 : p.length = ps.length
    · rw [if_pos h1] at h
      by_cases h2 : p.all (okB ns) = true
      · exact ⟨h0, h1, List.all_eq_true.1 h2⟩
      · rw [if_neg h2] at h
        cases h
    · rw [if_neg h1] at h
      cases h
  · rw [if_neg h0] at h
    exact absurd h h0
theorem placeE_of {ns : List NodeD} {ps : List PodD} {os : List OwnD} {p : List Int} (h0 : checkS ns ps os = 0) (h1 : p.length = ps.length) (h2 : ∀ x ∈ p, okB ns x = true) : placeE ns ps os p = 0 := by
  unfold placeE
  rw [if_pos h0, if_pos h1, if_pos (List.all_eq_true.2 h2)]
theorem ok_none (ns : List NodeD) : okB ns (-1) = true := rfl
theorem placeE_set {ns : List NodeD} {ps : List PodD} {os : List OwnD} {p : List Int} (h : placeE ns ps os p = 0) (k : Nat) {x : Int} (hx : okB ns x = true) : placeE ns ps os (p.set k x) = 0 := by
  obtain ⟨h0, h1, h2⟩ := placeE_zero h
  refine placeE_of h0 (by rw [List.length_set, h1]) ?_
  intro y hy
  rcases List.mem_or_eq_of_mem_set hy with hy | rfl
  · exact h2 y hy
  · exact hx
theorem ok_tp {ns : List NodeD} {x : Int} (h : okB ns x = true) (hx : 0 ≤ x) : tpB ns x = true := by
  unfold okB at h
  rw [decide_eq_false (by omega), Bool.false_or] at h
  exact h
theorem ok_neg {ns : List NodeD} {x : Int} (h : okB ns x = true) (hx : ¬ 0 ≤ x) : x = -1 := by
  unfold okB tpB at h
  rw [decide_eq_false hx, Bool.false_and, Bool.or_false] at h
  exact of_decide_eq_true h
theorem tp_lost {ns : List NodeD} {x : Int} (h : tpB ns x = true) : lostB ns x.toNat = false := by
  unfold tpB at h
  unfold lostB
  cases hq : ns[x.toNat]? with
  | none => rfl
  | some y =>
    rw [hq] at h
    simp only [Bool.and_eq_true, Bool.not_eq_true'] at h
    exact h.2

/-- A pod that runs is evicted. -/
theorem evict_is {ns : List NodeD} {ps : List PodD} {os : List OwnD} {p : List Int} (h : placeE ns ps os p = 0) {k : Nat} {x : Int} (hk : p[k]? = some x) (hx : 0 ≤ x) : applyF ns ps os p 1 k 0 = (p.set k (-1), 0) := by
  have hl := (List.getElem?_eq_some_iff.1 hk).1
  unfold applyF evictF
  rw [if_pos h, if_pos rfl, if_pos (by omega), if_pos rfl, Int.toNat_natCast, hk, if_neg]
  intro e
  simp only [Option.some.injEq] at e
  omega
/-- A pod that waits is bound. -/
theorem bind_is {ns : List NodeD} {ps : List PodD} {os : List OwnD} {p : List Int} (h : placeE ns ps os p = 0) {k : Nat} (hk : p[k]? = some (-1)) {x : Int} (hx : tpB ns x = true) : applyF ns ps os p 2 k x = (p.set k x, 0) := by
  have hl := (List.getElem?_eq_some_iff.1 hk).1
  obtain ⟨n, rfl, hn⟩ := tpB_lt hx
  unfold applyF bindF
  rw [if_pos h, if_neg (by decide), if_pos rfl, if_pos (by omega), if_pos (by omega), Int.toNat_natCast, hk, if_pos rfl, tp_lost hx]
  rfl
/-- .. and back. -/
theorem back_is {p : List Int} {k : Nat} {x : Int} (hk : p[k]? = some x) : (p.set k (-1)).set k x = p := by
  rw [List.set_set]
  obtain ⟨hl, rfl⟩ := List.getElem?_eq_some_iff.1 hk
  exact List.set_getElem_self hl

/-- Between two placements: the first k of the second, the rest of the first. -/
def mixL (p q : List Int) (k : Nat) : List Int := q.take k ++ p.drop k
theorem mix_none (p q : List Int) : mixL p q 0 = p := by simp [mixL]
theorem mix_len {p q : List Int} (h : p.length = q.length) (k : Nat) : (mixL p q k).length = p.length := by
  simp [mixL]
  omega
theorem mix_all {p q : List Int} (h : p.length = q.length) : mixL p q p.length = q := by
  unfold mixL
  rw [List.drop_length, List.append_nil, h, List.take_length]
theorem mix_at {p q : List Int} (h : p.length = q.length) {k : Nat} (hk : k < p.length) : (mixL p q k)[k]? = some p[k] := by
  unfold mixL
  rw [List.getElem?_append_right (by rw [List.length_take]; omega), List.length_take, List.getElem?_drop]
  rw [show k + (k - min k q.length) = k by omega]
  exact List.getElem?_eq_getElem hk
theorem mix_step {p q : List Int} (h : p.length = q.length) {k : Nat} (hk : k < p.length) : (mixL p q k).set k (q[k]'(h ▸ hk)) = mixL p q (k + 1) := by
  have hq : k < q.length := h ▸ hk
  unfold mixL
  have e : (q.take k).length = k := by rw [List.length_take]; omega
  rw [List.set_append_right _ _ (by rw [e]; exact Nat.le_refl _), e, Nat.sub_self, List.drop_eq_getElem_cons hk, List.set_cons_zero, List.take_succ_eq_append_getElem hq, List.append_assoc]
  rfl
theorem mix_ok {ns : List NodeD} {ps : List PodD} {os : List OwnD} {p q : List Int} (hp : placeE ns ps os p = 0) (hq : placeE ns ps os q = 0) (k : Nat) : placeE ns ps os (mixL p q k) = 0 := by
  obtain ⟨h0, h1, h2⟩ := placeE_zero hp
  obtain ⟨_, g1, g2⟩ := placeE_zero hq
  refine placeE_of h0 (by rw [mix_len (h1.trans g1.symm), h1]) ?_
  intro x hx
  unfold mixL at hx
  rw [List.mem_append] at hx
  rcases hx with hx | hx
  · exact g2 x (List.mem_of_mem_take hx)
  · exact h2 x (List.mem_of_mem_drop hx)

/-- The next move from k on: where it stands, and that nothing between is unlike. -/
theorem move_next {p q : List Int} (h : p.length = q.length) : ∀ (d k : Nat), k + d = p.length → ∀ m, (movesU p q p.length)[(movesU p q k).length]? = some m → ∃ i, k ≤ i ∧ ∃ hi : i < p.length, m = ((i : Int), q[i]'(h ▸ hi)) ∧ p[i] ≠ q[i]'(h ▸ hi) ∧ mixL p q i = mixL p q k ∧ (movesU p q (i + 1)).length = (movesU p q k).length + 1 := by
  intro d
  induction d with
  | zero =>
    intro k hk m hm
    have : k = p.length := by omega
    subst this
    rw [List.getElem?_eq_none (Nat.le_refl _)] at hm
    cases hm
  | succ d ih =>
    intro k hk m hm
    have hkp : k < p.length := by omega
    have hkq : k < q.length := h ▸ hkp
    have gp : p.getD k 0 = p[k] := by rw [List.getD_eq_getElem?_getD, List.getElem?_eq_getElem hkp]; rfl
    have gq : q.getD k 0 = q[k] := by rw [List.getD_eq_getElem?_getD, List.getElem?_eq_getElem hkq]; rfl
    by_cases he : p[k] = q[k]
    · have e1 : movesU p q (k + 1) = movesU p q k := by
        rw [movesU, if_pos (by rw [gp, gq, he]), List.append_nil]
      have e2 : mixL p q (k + 1) = mixL p q k := by
        rw [← mix_step h hkp]
        have := mix_at h hkp
        rw [he] at this
        obtain ⟨hl, e⟩ := List.getElem?_eq_some_iff.1 this
        rw [← e]
        exact List.set_getElem_self hl
      obtain ⟨i, h1, hi, h2, h3, h4, h5⟩ := ih (k + 1) (by omega) m (by rw [e1]; exact hm)
      exact ⟨i, by omega, hi, h2, h3, by rw [h4, e2], by rw [h5, e1]⟩
    · have e1 : movesU p q (k + 1) = movesU p q k ++ [((k : Int), q[k])] := by
        rw [movesU, if_neg (by rw [gp, gq]; exact he), gq]
      have e3 : ∀ d', k + 1 + d' ≤ p.length → ∃ r, movesU p q (k + 1 + d') = movesU p q (k + 1) ++ r := by
        intro d'
        induction d' with
        | zero => intro _; exact ⟨[], by simp⟩
        | succ d' ih' =>
          intro hd
          obtain ⟨r, hr⟩ := ih' (by omega)
          exact ⟨r ++ _, by rw [show k + 1 + (d' + 1) = (k + 1 + d') + 1 by omega, movesU, hr, List.append_assoc]⟩
      obtain ⟨r, hr⟩ := e3 d (by omega)
      rw [show k + 1 + d = p.length by omega] at hr
      rw [hr, e1, List.append_assoc, List.getElem?_append_right (Nat.le_refl _), Nat.sub_self] at hm
      simp only [List.singleton_append, List.getElem?_cons_zero, Option.some.injEq] at hm
      exact ⟨k, Nat.le_refl _, hkp, hm.symm, he, rfl, by rw [e1, List.length_append]; rfl⟩
/-- Behind the last move there is nothing unlike any more. -/
theorem move_last {p q : List Int} (h : p.length = q.length) : ∀ (d k : Nat), k + d = p.length → (movesU p q k).length = (movesU p q p.length).length → mixL p q k = q := by
  intro d
  induction d with
  | zero =>
    intro k hk _
    have : k = p.length := by omega
    subst this
    exact mix_all h
  | succ d ih =>
    intro k hk hm
    have hkp : k < p.length := by omega
    have hkq : k < q.length := h ▸ hkp
    have gp : p.getD k 0 = p[k] := by rw [List.getD_eq_getElem?_getD, List.getElem?_eq_getElem hkp]; rfl
    have gq : q.getD k 0 = q[k] := by rw [List.getD_eq_getElem?_getD, List.getElem?_eq_getElem hkq]; rfl
    have mono : ∀ d' j, (movesU p q j).length ≤ (movesU p q (j + d')).length := by
      intro d'
      induction d' with
      | zero => intro j; exact Nat.le_refl _
      | succ d' ih' =>
        intro j
        have := ih' j
        rw [show j + (d' + 1) = (j + d') + 1 by omega, movesU, List.length_append]
        omega
    by_cases he : p[k] = q[k]
    · have e1 : movesU p q (k + 1) = movesU p q k := by
        rw [movesU, if_pos (by rw [gp, gq, he]), List.append_nil]
      have e2 : mixL p q (k + 1) = mixL p q k := by
        rw [← mix_step h hkp]
        have := mix_at h hkp
        rw [he] at this
        obtain ⟨hl, e⟩ := List.getElem?_eq_some_iff.1 this
        rw [← e]
        exact List.set_getElem_self hl
      rw [← e2]
      exact ih (k + 1) (by omega) (by rw [e1]; exact hm)
    · exfalso
      have e1 : movesU p q (k + 1) = movesU p q k ++ [((k : Int), q[k])] := by
        rw [movesU, if_neg (by rw [gp, gq]; exact he), gq]
      have := mono d (k + 1)
      rw [show k + 1 + d = p.length by omega, e1, List.length_append, ← hm] at this
      simp only [List.length_cons, List.length_nil] at this
      omega
/-- The next move from k on, all that a round asks of it. -/
theorem move_to {p q : List Int} (h : p.length = q.length) (k : Nat) (hk : k ≤ p.length) (m : Int × Int) (hm : (movesF p q)[(movesU p q k).length]? = some m) : ∃ (i : Nat) (a b : Int), i < p.length ∧ p[i]? = some a ∧ q[i]? = some b ∧ m = ((i : Int), b) ∧ a ≠ b ∧ (movesU p q (i + 1)).length = (movesU p q k).length + 1 ∧ (mixL p q k)[i]? = some a ∧ (mixL p q k).set i b = mixL p q (i + 1) := by
  have e : movesF p q = movesU p q p.length := by
    unfold movesF
    rw [← h, Nat.min_self]
  rw [e] at hm
  obtain ⟨i, _, hi, h2, h3, h4, h5⟩ := move_next h (p.length - k) k (by omega) m hm
  have hq : i < q.length := h ▸ hi
  exact ⟨i, p[i], q[i], hi, List.getElem?_eq_getElem hi, List.getElem?_eq_getElem hq, h2, h3, h5, by rw [← h4]; exact mix_at h hi, by rw [← h4]; exact mix_step h hi⟩
theorem move_end {p q : List Int} (h : p.length = q.length) (k : Nat) (hk : k ≤ p.length) (hm : (movesU p q k).length = (movesF p q).length) : mixL p q k = q := by
  have e : movesF p q = movesU p q p.length := by
    unfold movesF
    rw [← h, Nat.min_self]
  rw [e] at hm
  exact move_last h (p.length - k) k (by omega) hm
theorem cells2_at : ∀ (l : List (Int × Int)) (j : Nat) (m : Int × Int), l[j]? = some m → (cells2 l)[j * 2]? = some (.int .i64 m.1) ∧ (cells2 l)[j * 2 + 1]? = some (.int .i64 m.2)
  | [], j, m, h => by simp at h
  | x :: t, 0, m, h => by
    simp only [List.getElem?_cons_zero, Option.some.injEq] at h
    subst h
    exact ⟨rfl, rfl⟩
  | x :: t, j + 1, m, h => by
    obtain ⟨h1, h2⟩ := cells2_at t j m (by simpa using h)
    have e : cells2 (x :: t) = .int .i64 x.1 :: .int .i64 x.2 :: cells2 t := rfl
    rw [e, show (j + 1) * 2 = j * 2 + 1 + 1 by omega]
    exact ⟨h1, h2⟩
theorem atM {w : World} {A : Option Addr} {l : List (Int × Int)} (h : La.SlAt w A (cells2 l)) {k : Nat} {x : Int × Int} (hk : l[k]? = some x) :
    ∃ b o, A = some ⟨b, o, none⟩ ∧ b < w.heap.size ∧ w.cell? ⟨b, o + k * 2, none⟩ = some (.int .i64 x.1) ∧ w.cell? ⟨b, o + k * 2 + 1, none⟩ = some (.int .i64 x.2) := by
  obtain ⟨h1, h2⟩ := cells2_at l k x hk
  obtain ⟨b, o, hA, h0⟩ := h (k * 2) _ h1
  obtain ⟨b', o', hA', h3⟩ := h (k * 2 + 1) _ h2
  rw [hA] at hA'
  cases hA'
  exact ⟨b, o, hA, World.block_lt_of_cell? w _ h0, h0, h3⟩
end Go.Proofs.YtfnigiiocapceaaGreat

namespace Go.Proofs.YtfnigiiocapceaaGreat
open Go.RowKit

theorem SnapIn.below {w w' : World} {A B C : Option Addr} {ca cb cc : Nat} {ns : List NodeD} {ps : List PodD} {os : List OwnD} (h : SnapIn w A B C ca cb cc ns ps os) (hb : Below w.heap.size w w') : SnapIn w' A B C ca cb cc ns ps os :=
  ⟨⟨h.n.cells.below hb, fun x hx => (h.n.fit x hx).below hb⟩, ⟨h.p.cells.below hb, fun x hx => (h.p.fit x hx).below hb⟩, h.o.below hb, h.fo, h.can, h.cap, h.cao⟩
/-- A row of numbers that a call answered, lying in memory. -/
abbrev Ints (w : World) (l : List Int) (e : Ending) (w' : World) : Prop := ∃ A c, e = .returned (.slice A l.length c) ∧ IntsAt w' A c l ∧ Below w.heap.size w w'
theorem fitted_ints (A B C P : Option Addr) (ca cb cc cp : Nat) (ns : List NodeD) (ps : List PodD) (os : List OwnD) (l : List Int) (w : World) (h : SnapAt w A B C ca cb cc ns ps os) (hp : IntsAt w P cp l) :
    Calls Tryz.prog 33 #[snapV A B C ca cb cc ns ps os, .slice P l.length cp] w fun e w' => Ints w (fitU ns l ps.length) e w' := by
  refine (fitted_any A B C P ca cb cc cp ns ps os l w h hp).mono ?_
  rintro e w' ⟨v, rfl, ho, hb⟩
  obtain ⟨g, c, rfl, _⟩ := La.own_slice ho
  have e := fitU_len ns l ps.length
  refine ⟨g, c, by rw [e], IntsAt.own (base := w.heap.size) (by rw [e]; exact ho), hb⟩
theorem apply_ints {A B C P : Option Addr} {ca cb cc cp : Nat} {ns : List NodeD} {ps : List PodD} {os : List OwnD} {p r : List Int} {kd pd nd : Int} (hF : applyF ns ps os p kd pd nd = (r, 0)) (w : World) (h : SnapAt w A B C ca cb cc ns ps os) (hp : IntsAt w P cp p) :
    Calls Tryz.prog 28 #[snapV A B C ca cb cc ns ps os, .slice P p.length cp, stepV kd pd nd] w fun e w' => ∃ A c, e = .returned (.tuple #[.slice A r.length c, .int .i64 0]) ∧ IntsAt w' A c r ∧ Below w.heap.size w w' := by
  refine (apply_any A B C P ca cb cc cp ns ps os p kd pd nd w h hp).mono ?_
  rw [hF]
  rintro e w' ⟨v, rfl, ho, hb⟩
  obtain ⟨g, c, rfl, _⟩ := La.own_slice ho
  exact ⟨g, c, rfl, IntsAt.own ho, hb⟩
theorem apply_len {A B C P : Option Addr} {ca cb cc cp N : Nat} {ns : List NodeD} {ps : List PodD} {os : List OwnD} {p r : List Int} {kd pd nd : Int} (hp1 : p.length = N) (hr : r.length = N) (hF : applyF ns ps os p kd pd nd = (r, 0)) (w : World) (h : SnapAt w A B C ca cb cc ns ps os) (hp : IntsAt w P cp p) :
    Calls Tryz.prog 28 #[snapV A B C ca cb cc ns ps os, .slice P N cp, stepV kd pd nd] w fun e w' => ∃ A c, e = .returned (.tuple #[.slice A N c, .int .i64 0]) ∧ IntsAt w' A c r ∧ Below w.heap.size w w' := by
  have := apply_ints hF w h hp
  rw [hr, hp1] at this
  exact this

set_option maxRecDepth 100000 in
set_option maxHeartbeats 4000000 in
theorem back_any (A B C P Q : Option Addr) (ca cb cc cp cq : Nat) (ns : List NodeD) (ps : List PodD) (os : List OwnD) (l m : List Int) (w : World) (h : SnapIn w A B C ca cb cc ns ps os) (hp : IntsAt w P cp l) (hq : IntsAt w Q cq m) :
    Calls Tryz.prog 7 #[snapV A B C ca cb cc ns ps os, .slice P l.length cp, .slice Q m.length cq] w fun e w' => e = .returned (.bool true) ∧ Below w.heap.size w w' := by
  have B0 : Hid (Below w.heap.size w (w.alloc (.cells (snapC A B C ca cb cc ns ps os) 26))) := Lib.hid (below1 w _)
  have S0 : Hid (Blk (w.alloc (.cells (snapC A B C ca cb cc ns ps os) 26)) w.heap.size (snapC A B C ca cb cc ns ps os) 26) := Lib.hid (Blk.new w _ _)
  have H := Lib.hid (h.take)
  have HP := Lib.hid hp
  have HQ := Lib.hid hq
  have KC := Lib.hid (cut_any A B C ca cb cc ns ps os (w.alloc (.cells (snapC A B C ca cb cc ns ps os) 26)) (h.below B0.out))
  generalize ns.take 12 = n1 at H KC
  generalize ps.take 30 = p1 at H KC
  generalize os.take 12 = o1 at H KC
  clear h hp hq
  go_enter Tryz.func7, Tryz.ntmps7
  go_wp2_with fail
  refine (KC.out).mono ?_
  rintro e w2 ⟨rfl, hb2⟩
  have S2 : Hid (Blk w2 w.heap.size (snapC A B C ca cb cc ns ps os) 26) := Lib.hid (S0.out.below hb2 S0.out.lt)
  have B2 : Hid (Below w.heap.size w w2) := Lib.hid (B0.out.trans (hb2.mono B0.out.size))
  clear hb2 S0 B0 KC
  have r0 : w2.cell? ⟨w.heap.size, 0, none⟩ = some (.slice A ns.length ca) := Blk.cell S2.out 0
  have r1 : w2.cell? ⟨w.heap.size, 1, none⟩ = some (.slice B ps.length cb) := Blk.cell S2.out 1
  have r2 : w2.cell? ⟨w.heap.size, 2, none⟩ = some (.slice C os.length cc) := Blk.cell S2.out 2
  have f0 := Blk.free S2.out 0
  have f1 := Blk.free S2.out 1
  have f2 := Blk.free S2.out 2
  have S3 : Hid (Blk (((w2.setCell ⟨w.heap.size, 0, none⟩ (.slice A n1.length ca)).setCell ⟨w.heap.size, 1, none⟩ (.slice B p1.length cb)).setCell ⟨w.heap.size, 2, none⟩ (.slice C o1.length cc)) w.heap.size (snapC A B C ca cb cc n1 p1 o1) 26) := Lib.hid (((S2.out.set 0 _).set 1 _).set 2 _)
  have B3 : Hid (Below w.heap.size w (((w2.setCell ⟨w.heap.size, 0, none⟩ (.slice A n1.length ca)).setCell ⟨w.heap.size, 1, none⟩ (.slice B p1.length cb)).setCell ⟨w.heap.size, 2, none⟩ (.slice C o1.length cc))) := Lib.hid (((B2.out.setCell (p := ⟨w.heap.size, 0, none⟩) (Nat.le_refl _) _).setCell (p := ⟨w.heap.size, 1, none⟩) (Nat.le_refl _) _).setCell (p := ⟨w.heap.size, 2, none⟩) (Nat.le_refl _) _)
  go_upto_region 2 with fail
  clear r0 r1 r2 f0 f1 f2
  generalize (((w2.setCell ⟨w.heap.size, 0, none⟩ (.slice A n1.length ca)).setCell ⟨w.heap.size, 1, none⟩ (.slice B p1.length cb)).setCell ⟨w.heap.size, 2, none⟩ (.slice C o1.length cc)) = W at S3 B3 ⊢
  clear S2 B2
  have HW := Lib.hid (fun W' (hb : Below W.heap.size W W') => (show W'.cell? ⟨w.heap.size, 0, none⟩ = some (.slice A n1.length ca) ∧ W'.cell? ⟨w.heap.size, 1, none⟩ = some (.slice B p1.length cb) ∧ W'.cell? ⟨w.heap.size, 2, none⟩ = some (.slice C o1.length cc) from ⟨Blk.cell (S3.out.below hb S3.out.lt) 0, Blk.cell (S3.out.below hb S3.out.lt) 1, Blk.cell (S3.out.below hb S3.out.lt) 2⟩))
  have HT := Lib.hid (fun W' (hb : Below W.heap.size W W') => B3.out.trans (hb.mono B3.out.size))
  have HS := Lib.hid (fun W' (hb : Below W.heap.size W W') => H.out.below (HT.out W' hb))
  have KF1 := Lib.hid (fun W' (hb : Below W.heap.size W W') => fitted_ints A B C P ca cb cc cp n1 p1 o1 l W' (HS.out W' hb) (HP.out.below (HT.out W' hb)))
  have KF2 := Lib.hid (fun W' (hb : Below W.heap.size W W') => fitted_ints A B C Q ca cb cc cq n1 p1 o1 m W' (HS.out W' hb) (HQ.out.below (HT.out W' hb)))
  have hfew := H.out.lp
  have EP := Lib.hid (And.intro (fitU_len n1 l p1.length) (fitU_ok n1 l p1.length))
  have EQ := Lib.hid (And.intro (fitU_len n1 m p1.length) (fitU_ok n1 m p1.length))
  generalize fitU n1 l p1.length = p at KF1 EP
  generalize fitU n1 m p1.length = q at KF2 EQ
  clear H HP HQ B3 S3
  have D0 : Hid (Below W.heap.size W W) := Lib.hid (Below.refl _ _)
  have D1 : Hid (Below W.heap.size W W.drew) := Lib.hid D0.out.drew
  have z0 := HW.out W D0.out
  have z1 := HW.out W.drew D1.out
  go_cut [7, 8] (fun v7 v8 wc => ∃ A1 c1 A2 c2, v7 = .slice A1 p.length c1 ∧ v8 = .slice A2 q.length c2 ∧ IntsAt wc A1 c1 p ∧ IntsAt wc A2 c2 q ∧ Below W.heap.size W wc)
  case first =>
    go_region_held3 (fun w' => w'.cell? ⟨w.heap.size, 0, none⟩ = some (.slice A n1.length ca) ∧ w'.cell? ⟨w.heap.size, 1, none⟩ = some (.slice B p1.length cb) ∧ w'.cell? ⟨w.heap.size, 2, none⟩ = some (.slice C o1.length cc))
      (first | (with_reducible exact z1) | (with_reducible exact z0) | (with_reducible exact z3) | (with_reducible exact z4) | go_keep)
      (first
        | (go_at_call 33; (with_reducible refine (KF1.out _ (by first | exact D1.out | exact D0.out)).mono ?_); rintro e w3 ⟨A1, c1, rfl, i1, hb3⟩; have D3 : Hid (Below W.heap.size W w3) := Lib.hid (D1.out.trans (hb3.mono (by first | exact D1.out.size | exact D0.out.size))); have I1 := Lib.hid i1; clear i1 hb3; have z3 := HW.out w3 D3.out)
        | (go_at_call 33; (with_reducible refine (KF2.out _ D3.out).mono ?_); rintro e w4 ⟨A2, c2, rfl, i2, hb4⟩; have D4 : Hid (Below W.heap.size W w4) := Lib.hid (D3.out.trans (hb4.mono D3.out.size)); have I3 := Lib.hid (I1.out.below hb4); have I4 := Lib.hid i2; clear i2 hb4; have z4 := HW.out w4 D4.out)
        | skip)
    all_goals
      go_wp2_with fail
      go_meet
      exact ⟨_, _, _, _, rfl, rfl, I3.out, I4.out, D4.out⟩
  case rest =>
    obtain ⟨A1, c1, A2, c2, rfl, rfl, i1, i2, hb⟩ := hcut
    have Dc := Lib.hid hb
    have I1 := Lib.hid i1
    have I2 := Lib.hid i2
    clear i1 i2 hb D0 D1 z0 z1 KF1 KF2
    have KP := Lib.hid (pcheck_any A B C A1 ca cb cc c1 n1 p1 o1 p wc (HS.out wc Dc.out) I1.out)
    have KW := Lib.hid works_any
    have z := HW.out wc Dc.out
    obtain ⟨z0, z1, z2⟩ := z
    by_cases hE : placeE n1 p1 o1 p = 0
    case neg =>
      generalize placeE n1 p1 o1 p = E at hE KP
      go_wp2_with fail
      refine (KP.out).mono ?_
      rintro e w5 ⟨rfl, hb5⟩
      have D5 := Lib.hid (HT.out w5 (Dc.out.trans (hb5.mono Dc.out.size)))
      go_wp2_with fail
      refine (KW.out _).mono ?_
      rintro e w6 ⟨rfl, hb6⟩
      have D6 := Lib.hid (D5.out.trans (hb6.mono D5.out.size))
      go_wp2
      go_ret
      exact ⟨rfl, D6.out⟩
    case pos =>
      have GP := Lib.hid hE
      have GQ : Hid (placeE n1 p1 o1 q = 0) := Lib.hid (placeE_of (placeE_zero hE).1 EQ.out.1 EQ.out.2)
      have LP : Hid (p.length = q.length) := Lib.hid (EP.out.1.trans EQ.out.1.symm)
      have hpl : p.length ≤ 1000 := by
        have := EP.out.1
        omega
      have HLQ : Hid (q.length ≤ 1000) := by
        have := LP.out
        exact Lib.hid (by omega)
      rw [hE] at KP
      clear hE
      go_wp2_with fail
      refine (KP.out).mono ?_
      rintro e w5 ⟨rfl, hb5⟩
      have D5 := Lib.hid (Dc.out.trans (hb5.mono Dc.out.size))
      have J1 := Lib.hid (I1.out.below hb5)
      have J2 := Lib.hid (I2.out.below hb5)
      clear hb5 KP I1 I2 z0 z1 z2
      go_wp2_with fail
      go_loopw [9] (fun i wr => ∃ k : Nat, k ≤ p.length ∧ i = .int .i64 k ∧ Below W.heap.size W wr ∧ IntsAt wr A1 c1 p ∧ IntsAt wr A2 c2 q) (fun i _ => p.length - (intOf i).toNat)
      case atStart => exact ⟨0, by omega, rfl, D5.out, J1.out, J2.out⟩
      case round =>
        clear D5 J1 J2
        obtain ⟨k, hk, rfl, hb, j1, j2⟩ := hrel
        have D6 := Lib.hid hb
        have J1 := Lib.hid j1
        have J2 := Lib.hid j2
        clear hb j1 j2
        by_cases hlt : k < p.length
        · obtain ⟨x, hx⟩ : ∃ x, p[k]? = some x := ⟨p[k], List.getElem?_eq_getElem hlt⟩
          have OX := Lib.hid (EP.out.2 x (List.mem_of_getElem? hx))
          have HX := Lib.hid hx
          have k0 : (0 : Int) ≤ (k : Int) := by omega
          have k1 : (k : Int) < (p.length : Int) := by omega
          by_cases h0 : 0 ≤ x
          · obtain ⟨a, ha⟩ : ∃ a, p.set k (-1) = a := ⟨_, rfl⟩
            have hal : a.length = p.length := by rw [← ha, List.length_set]
            have hak : a[k]? = some (-1) := by rw [← ha]; exact List.getElem?_set_self hlt
            have e1 : applyF n1 p1 o1 p 1 k 0 = (a, 0) := by rw [evict_is GP.out hx h0, ha]
            have e2 : applyF n1 p1 o1 a 2 k x = (p, 0) := by
              have g : placeE n1 p1 o1 a = 0 := by rw [← ha]; exact placeE_set GP.out k (ok_none _)
              rw [bind_is g hak (ok_tp OX.out h0), ← ha, back_is hx]
            have KA1 : Hid (Calls Tryz.prog 28 #[snapV A B C ca cb cc n1 p1 o1, .slice A1 p.length c1, stepV 1 k 0] wr fun e w' => ∃ A c, e = .returned (.tuple #[.slice A p.length c, .int .i64 0]) ∧ IntsAt w' A c a ∧ Below wr.heap.size wr w') := Lib.hid (by
              have := apply_ints e1 wr (HS.out wr D6.out) J1.out
              rwa [hal] at this)
            have KA2 : Hid (∀ W' A3 c3, Below W.heap.size W W' → IntsAt W' A3 c3 a → Calls Tryz.prog 28 #[snapV A B C ca cb cc n1 p1 o1, .slice A3 p.length c3, stepV 2 k x] W' fun e w' => ∃ A c, e = .returned (.tuple #[.slice A p.length c, .int .i64 0]) ∧ IntsAt w' A c p ∧ Below W'.heap.size W' w') := Lib.hid (fun W' A3 c3 hb hi => by
              have := apply_ints e2 W' (HS.out W' hb) hi
              rwa [hal] at this)
            have KE : Hid (∀ W' A4 c4, IntsAt W' A4 c4 p → IntsAt W' A1 c1 p → Calls Tryz.prog 15 #[.slice A4 p.length c4, .slice A1 p.length c1] W' fun e w' => e = .returned (.bool true) ∧ Below W'.heap.size W' w') := Lib.hid (fun W' A4 c4 i4 i1 => by
              have := eqInts_any A4 A1 c4 c1 p p W' hpl i4 i1
              rwa [decide_eq_true rfl] at this)
            have HAK := Lib.hid hak
            clear ha hal hak e1 e2 hx
            obtain ⟨b, o, hA, hbl, cx⟩ := atI J1.out.cells HX.out
            subst hA
            obtain ⟨z0, z1, z2⟩ := HW.out wr D6.out
            go_wp2_with fail
            refine (KA1.out).mono ?_
            rintro e w7 ⟨A3, c3, rfl, i3, hb7⟩
            have D7 := Lib.hid (D6.out.trans (hb7.mono D6.out.size))
            have K1 := Lib.hid (J1.out.below hb7)
            have K2 := Lib.hid (J2.out.below hb7)
            have K3 := Lib.hid i3
            have cx7 := (hb7.cell (p := ⟨b, o + k, none⟩) hbl).trans cx
            have y0 := And.intro (HW.out w7 D7.out) cx7
            have y1 : _ ∧ w7.drew.cell? ⟨b, o + k, none⟩ = some (.int .i64 x) := And.intro (HW.out w7.drew D7.out.drew) cx7
            have D8 := Lib.hid D7.out.drew
            have C7 := Lib.hid (And.intro cx7 (World.block_lt_of_cell? w7 _ cx7))
            clear i3 hb7 KA1 cx z0 z1 z2 cx7 hbl
            go_upto_region 10 with fail
            go_cut [12, 13] (fun v12 v13 wc => ∃ A4 c4, v12 = .slice A4 p.length c4 ∧ v13 = .int .i64 0 ∧ IntsAt wc A4 c4 p ∧ Below w7.heap.size w7 wc)
            case first =>
              go_region_held3 (fun w' => (w'.cell? ⟨w.heap.size, 0, none⟩ = some (.slice A n1.length ca) ∧ w'.cell? ⟨w.heap.size, 1, none⟩ = some (.slice B p1.length cb) ∧ w'.cell? ⟨w.heap.size, 2, none⟩ = some (.slice C o1.length cc)) ∧ w'.cell? ⟨b, o + k, none⟩ = some (.int .i64 x))
                (first | (with_reducible exact y1) | (with_reducible exact y0) | (with_reducible exact y8) | go_keep)
                (first
                  | (go_at_call 28; (with_reducible refine (KA2.out _ _ _ (by first | exact D8.out | exact D7.out) (by first | exact K3.out | exact (show IntsAt w7.drew _ _ _ from K3.out.below (Below.refl _ _).drew))).mono ?_); rintro e w8 ⟨A4, c4, rfl, i4, hb8⟩; have D9 : Hid (Below w7.heap.size w7 w8) := Lib.hid (by first | exact hb8 | exact (Below.drew (Below.refl _ _)).trans hb8); have I4 := Lib.hid i4; clear i4 hb8; have y8 := And.intro (HW.out w8 (D7.out.trans (D9.out.mono D7.out.size))) ((D9.out.cell (p := ⟨b, o + k, none⟩) C7.out.2).trans C7.out.1))
                  | skip)
              all_goals
                go_wp2_with fail
                go_meet
                exact ⟨_, _, rfl, rfl, I4.out, D9.out⟩
            case rest =>
              obtain ⟨A4, c4, rfl, rfl, i4, hb8⟩ := hcut
              have I4 := Lib.hid i4
              have D9 := Lib.hid (D7.out.trans (hb8.mono D7.out.size))
              have L1 := Lib.hid (K1.out.below hb8)
              have L2 := Lib.hid (K2.out.below hb8)
              have L3 := Lib.hid (K3.out.below hb8)
              clear i4 hb8 K1 K2 K3 y0 y1 D8 D7 C7 KA2 J1 J2 D6
              go_wp2_with fail
              refine (KE.out _ _ _ I4.out L1.out).mono ?_
              rintro e w9 ⟨rfl, hb9⟩
              have D10 := Lib.hid (D9.out.trans (hb9.mono D9.out.size))
              have M1 := Lib.hid (L1.out.below hb9)
              have M2 := Lib.hid (L2.out.below hb9)
              obtain ⟨b3, o3, hA3, hbl3, c30⟩ := atI (L3.out.below hb9).cells HAK.out
              subst hA3
              clear hb9 L1 L2 L3 I4 D9
              go_wp2
              go_roundw
              case rel => exact ⟨k + 1, by omega, by go_num, D10.out, M1.out, M2.out⟩
              case measure => simp [intOf]; omega
          · obtain rfl := ok_neg OX.out h0
            obtain ⟨b, o, hA, hbl, cx⟩ := atI J1.out.cells HX.out
            subst hA
            clear hx
            go_wp2
            go_roundw
            case rel => exact ⟨k + 1, by omega, by go_num, D6.out, J1.out, J2.out⟩
            case measure => simp [intOf]; omega
        · obtain rfl : k = p.length := by omega
          have KM := Lib.hid (moves_any A1 A2 c1 c2 p q wr hpl J1.out J2.out)
          have MN := Lib.hid (fun k hk m hm => move_to LP.out k hk m hm)
          have ML := Lib.hid (fun k hk hm => move_end LP.out k hk hm)
          have hML : (movesF p q).length ≤ 1000 := Nat.le_trans (movesU_len _ _ _) (Nat.le_trans (Nat.min_le_left _ _) hpl)
          generalize movesF p q = M at KM MN ML hML
          go_wp2_with fail
          refine (KM.out).mono ?_
          rintro e w7 ⟨v, rfl, ho, hb7⟩
          obtain ⟨Am, cm, rfl, _⟩ := La.own_slice ho
          have D7 := Lib.hid (D6.out.trans (hb7.mono D6.out.size))
          have K1 := Lib.hid (J1.out.below hb7)
          have K2 := Lib.hid (J2.out.below hb7)
          have KS := Lib.hid (La.own_slat ho)
          clear ho hb7 KM J1 J2 D6 hlt
          go_wp2_with fail
          go_loopw [15, 7] (fun i s wr => ∃ (k j : Nat) (A' : Option Addr) (c' : Nat), k ≤ p.length ∧ i = .int .i64 j ∧ s = .slice A' p.length c' ∧ (movesU p q k).length = j ∧ j ≤ M.length ∧ IntsAt wr A' c' (mixL p q k) ∧ IntsAt wr A2 c2 q ∧ La.SlAt wr Am (cells2 M) ∧ Below W.heap.size W wr) (fun i _ _ => M.length - (intOf i).toNat)
          case atStart => exact ⟨0, 0, A1, c1, by omega, rfl, rfl, rfl, by omega, by rw [mix_none]; exact K1.out, K2.out, KS.out, D7.out⟩
          case round =>
            obtain ⟨k, j, A', c', hk, rfl, rfl, hj, hjM, i1, i2, i3, hb⟩ := hrel
            have D8 := Lib.hid hb
            have HJ := Lib.hid hj
            have I1 := Lib.hid i1
            have I2 := Lib.hid i2
            have I3 := Lib.hid i3
            clear hb hj i1 i2 i3 K1 K2 KS D7
            by_cases hlt : j < M.length
            · obtain ⟨mv, hm⟩ : ∃ mv, M[j]? = some mv := ⟨M[j], List.getElem?_eq_getElem hlt⟩
              obtain ⟨i, x, y, hi, hpi, hqi, rfl, hne, hln, hsi, hset⟩ := MN.out k hk mv (by rw [HJ.out]; exact hm)
              have OX := Lib.hid (EP.out.2 x (List.mem_of_getElem? hpi))
              have OY := Lib.hid (EQ.out.2 y (List.mem_of_getElem? hqi))
              have GS : Hid (placeE n1 p1 o1 (mixL p q k) = 0) := Lib.hid (mix_ok GP.out GQ.out k)
              have hsl : (mixL p q k).length = p.length := mix_len LP.out k
              have hrl : (mixL p q (i + 1)).length = p.length := mix_len LP.out (i + 1)
              obtain ⟨b, o, hA, hbl, m0, m1⟩ := atM I3.out hm
              subst hA
              generalize mixL p q k = s at I1 GS hsl hsi hset
              have HL := Lib.hid hln
              have HNE := Lib.hid hne
              have HJM : Hid (j + 1 ≤ M.length) := Lib.hid hlt
              have HSI := Lib.hid hsi
              have j0 : (0 : Int) ≤ (j : Int) := by omega
              have j1 : (j : Int) < (M.length : Int) := by omega
              have i0 : (0 : Int) ≤ (i : Int) := by omega
              have i1 : (i : Int) < (p.length : Int) := by omega
              have B9 : Hid (Below wr.heap.size wr (wr.alloc (.cells #[.int .i64 (i : Int), .int .i64 y] 67))) := Lib.hid (below1 wr _)
              have S9 : Hid (Blk (wr.alloc (.cells #[.int .i64 (i : Int), .int .i64 y] 67)) wr.heap.size #[.int .i64 (i : Int), .int .i64 y] 67) := Lib.hid (Blk.new wr _ _)
              have e0 : x ≠ y := hne
              have E1 : Hid (0 ≤ x → applyF n1 p1 o1 s 1 i 0 = (s.set i (-1), 0)) := Lib.hid (fun h => evict_is GS.out HSI.out h)
              have E2 : Hid (0 ≤ y → applyF n1 p1 o1 (s.set i (-1)) 2 i y = (mixL p q (i + 1), 0)) := Lib.hid (fun h => by
                rw [bind_is (placeE_set GS.out i (ok_none _)) (List.getElem?_set_self (by omega)) (ok_tp OY.out h), List.set_set, hset])
              have E3 : Hid (x = -1 → 0 ≤ y → applyF n1 p1 o1 s 2 i y = (mixL p q (i + 1), 0)) := Lib.hid (fun h h' => by
                have := HSI.out
                rw [h] at this
                rw [bind_is GS.out this (ok_tp OY.out h'), hset])
              have E4 : Hid (y = -1 → s.set i (-1) = mixL p q (i + 1)) := Lib.hid (fun h => by rw [← hset, h])
              have NX := Lib.hid hsl
              have NR := Lib.hid hrl
              have NT : Hid ((s.set i (-1)).length = p.length) := Lib.hid (by rw [List.length_set, hsl])
              generalize hr : mixL p q (i + 1) = r at E2 E3 E4 NR hset hrl ⊢
              have HR := Lib.hid hr
              clear hr
              clear hm hpi hqi hne hln hsi hset hsl hrl e0
              go_upto_region 18 with fail
              have D9 := Lib.hid (D8.out.trans (B9.out.mono D8.out.size))
              have IS := Lib.hid (I1.out.below B9.out)
              have IQ := Lib.hid (I2.out.below B9.out)
              have IM := Lib.hid (I3.out.below B9.out)
              generalize (wr.alloc (.cells #[.int .i64 (i : Int), .int .i64 y] 67)) = W9 at B9 S9 D9 IS IQ IM ⊢
              have b0 : W9.cell? ⟨wr.heap.size, 0, none⟩ = some (.int .i64 (i : Int)) := Blk.cell S9.out 0
              have b1 : W9.cell? ⟨wr.heap.size, 1, none⟩ = some (.int .i64 y) := Blk.cell S9.out 1
              obtain ⟨bs, os9, hAs, hbs, cs⟩ := atI IS.out.cells HSI.out
              subst hAs
              obtain ⟨z0, z1, z2⟩ := HW.out W9 D9.out
              clear B9 I1 I2 I3 D8 m0 m1 hbl hbs
              by_cases hx : 0 ≤ x
              · have KA := Lib.hid (apply_len NX.out NT.out (E1.out hx) W9 (HS.out W9 D9.out) IS.out)
                go_wp2_with fail
                refine (KA.out).mono ?_
                rintro e v1 ⟨A5, c5, rfl, i5, hb⟩
                have D10 := Lib.hid (D9.out.trans (hb.mono D9.out.size))
                have S10 := Lib.hid (S9.out.below hb S9.out.lt)
                have IQ1 := Lib.hid (IQ.out.below hb)
                have IM1 := Lib.hid (IM.out.below hb)
                have I5 := Lib.hid i5
                clear KA i5 hb b0 b1 cs z0 z1 z2 D9 S9 IQ IM IS
                have b0 : v1.cell? ⟨wr.heap.size, 0, none⟩ = some (.int .i64 (i : Int)) := Blk.cell S10.out 0
                have b1 : v1.cell? ⟨wr.heap.size, 1, none⟩ = some (.int .i64 y) := Blk.cell S10.out 1
                by_cases hy : 0 ≤ y
                · have KB := Lib.hid (apply_len NT.out NR.out (E2.out hy) v1 (HS.out v1 D10.out) I5.out)
                  obtain ⟨z0, z1, z2⟩ := HW.out v1 D10.out
                  go_wp2_with fail
                  refine (KB.out).mono ?_
                  rintro e v2 ⟨A6, c6, rfl, i6, hb⟩
                  have D11 := Lib.hid (D10.out.trans (hb.mono D10.out.size))
                  have IQ2 := Lib.hid (IQ1.out.below hb)
                  have IM2 := Lib.hid (IM1.out.below hb)
                  have I6 := Lib.hid i6
                  clear KB i6 hb b0 b1 z0 z1 z2
                  go_wp2
                  go_roundw
                  case rel => exact ⟨i + 1, j + 1, _, _, by omega, by go_num, rfl, by rw [HL.out, HJ.out], HJM.out, (by rw [HR.out]; exact I6.out), IQ2.out, IM2.out, D11.out⟩
                  case measure => simp [intOf]; omega
                · have I6 : Hid (IntsAt v1 A5 c5 r) := Lib.hid (by rw [← E4.out (ok_neg OY.out hy)]; exact I5.out)
                  go_wp2
                  go_roundw
                  case rel => exact ⟨i + 1, j + 1, _, _, by omega, by go_num, rfl, by rw [HL.out, HJ.out], HJM.out, (by rw [HR.out]; exact I6.out), IQ1.out, IM1.out, D10.out⟩
                  case measure => simp [intOf]; omega
              · have hx1 := ok_neg OX.out hx
                have hy : 0 ≤ y := Classical.byContradiction fun hy => HNE.out (hx1.trans (ok_neg OY.out hy).symm)
                have KB := Lib.hid (apply_len NX.out NR.out (E3.out hx1 hy) W9 (HS.out W9 D9.out) IS.out)
                clear hx1
                go_wp2_with fail
                refine (KB.out).mono ?_
                rintro e v2 ⟨A6, c6, rfl, i6, hb⟩
                have D11 := Lib.hid (D9.out.trans (hb.mono D9.out.size))
                have IQ2 := Lib.hid (IQ.out.below hb)
                have IM2 := Lib.hid (IM.out.below hb)
                have I6 := Lib.hid i6
                clear KB i6 hb b0 b1 z0 z1 z2
                go_wp2
                go_roundw
                case rel => exact ⟨i + 1, j + 1, _, _, by omega, by go_num, rfl, by rw [HL.out, HJ.out], HJM.out, (by rw [HR.out]; exact I6.out), IQ2.out, IM2.out, D11.out⟩
                case measure => simp [intOf]; omega
            · obtain rfl : j = M.length := by omega
              have hq : mixL p q k = q := ML.out k hk HJ.out
              rw [hq] at I1
              have KE : Hid (Calls Tryz.prog 15 #[.slice A' p.length c', .slice A2 q.length c2] wr fun e w' => e = .returned (.bool true) ∧ Below wr.heap.size wr w') := Lib.hid (by
                have := eqInts_any A' A2 c' c2 q q wr HLQ.out I1.out I2.out
                rw [decide_eq_true rfl] at this
                rw [LP.out]
                exact this)
              clear hq
              go_wp2_with fail
              refine (KE.out).mono ?_
              rintro e w9 ⟨rfl, hb9⟩
              have D9 := Lib.hid (HT.out w9 (D8.out.trans (hb9.mono D8.out.size)))
              clear hb9
              go_wp2_with fail
              refine (KW.out _).mono ?_
              rintro e w10 ⟨rfl, hb10⟩
              have D10 := Lib.hid (D9.out.trans (hb10.mono D9.out.size))
              go_wp2
              go_ret
              exact ⟨rfl, D10.out⟩
end Go.Proofs.YtfnigiiocapceaaGreat

namespace Go.Proofs.YtfnigiiocapceaaGreat
open Go.RowKit

theorem wrap_step (s x : Int) : wrap64 (wrap64 s + x) = wrap64 (s + x) := by
  unfold wrap64
  omega
theorem wrap_two (s t : Int) : wrap64 (wrap64 s + wrap64 t) = wrap64 (s + t) := by
  unfold wrap64
  omega
/-- What a pod asks for. -/
def reqAt (ps : List PodD) (k y : Nat) : Int := match ps[y]? with
  | some x => x.req k
  | none => 0
def reqS (ps : List PodD) (k : Nat) (ys : List Nat) : Int := (ys.map (reqAt ps k)).sum
theorem addW_from (ps : List PodD) (k : Nat) : ∀ (ys : List Nat) (s : Int), ys.foldl (fun a y => wrap64 (a + (match ps[y]? with | some x => x.req k | none => 0))) (wrap64 s) = wrap64 (s + reqS ps k ys)
  | [], s => by simp [reqS]
  | y :: t, s => by
    rw [List.foldl_cons, wrap_step]
    have := addW_from ps k t (s + reqAt ps k y)
    unfold reqAt at this
    rw [this]
    unfold reqS
    rw [List.map_cons, List.sum_cons, ← Int.add_assoc]
    rfl
theorem addW_is (ps : List PodD) (k : Nat) (ys : List Nat) : addW ps ys k = wrap64 (reqS ps k ys) := by
  have := addW_from ps k ys 0
  rw [show wrap64 0 = 0 by unfold wrap64; omega, Int.zero_add] at this
  exact this
theorem reqS_append (ps : List PodD) (k : Nat) (a b : List Nat) : reqS ps k (a ++ b) = reqS ps k a + reqS ps k b := by
  unfold reqS
  rw [List.map_append, List.sum_append]

/-- What the pods of the first i nodes ask for, n pods looked at. -/
def usedG (ps : List PodD) (p : List Int) (k n : Nat) : Nat → Int
  | 0 => 0
  | i + 1 => usedG ps p k n i + reqS ps k (onU p i n)
/-- What those of the first n pods that run ask for. -/
def wantU (ps : List PodD) (p : List Int) (k : Nat) : Nat → Int
  | 0 => 0
  | n + 1 => wantU ps p k n + (match p[n]? with
    | some x => if 0 ≤ x then reqAt ps k n else 0
    | none => 0)
theorem usedG_zero (ps : List PodD) (p : List Int) (k : Nat) : ∀ i, usedG ps p k 0 i = 0
  | 0 => rfl
  | i + 1 => by
    rw [usedG, usedG_zero ps p k i]
    rfl
theorem usedG_step (ps : List PodD) (p : List Int) (k n : Nat) : ∀ i : Nat, usedG ps p k (n + 1) i = usedG ps p k n i + (match p[n]? with
    | some x => if 0 ≤ x ∧ x < (i : Int) then reqAt ps k n else 0
    | none => 0)
  | 0 => by
    cases h : p[n]? with
    | none => simp [usedG]
    | some x =>
      simp only [usedG]
      rw [if_neg (by omega)]
      rfl
  | i + 1 => by
    rw [usedG, usedG_step ps p k n i, usedG, onU, reqS_append]
    cases h : p[n]? with
    | none => simp [reqS]
    | some x =>
      simp only [Option.some.injEq]
      by_cases hx : x = (i : Int)
      · subst hx
        rw [if_pos rfl, if_neg (by omega), if_pos (by omega)]
        simp [reqS]
        omega
      · rw [if_neg hx]
        by_cases h0 : 0 ≤ x ∧ x < (i : Int)
        · rw [if_pos h0, if_pos (by omega)]
          simp [reqS]
          omega
        · rw [if_neg h0, if_neg (by omega)]
          simp [reqS]
theorem used_want (ps : List PodD) (p : List Int) (k m : Nat) (h : ∀ x ∈ p, x = -1 ∨ (0 ≤ x ∧ x < (m : Int))) : ∀ n, usedG ps p k n m = wantU ps p k n
  | 0 => usedG_zero ps p k m
  | n + 1 => by
    rw [usedG_step, used_want ps p k m h n, wantU]
    congr 1
    cases hn : p[n]? with
    | none => rfl
    | some x =>
      have := h x (List.mem_of_getElem? hn)
      by_cases h0 : 0 ≤ x
      · simp only [if_pos h0]
        rw [if_pos (by omega)]
      · simp only [if_neg h0]
        rw [if_neg (by omega)]

theorem sum_bump : ∀ (l : List Int) (i : Nat), i < l.length → (l.set i (l.getD i 0 + 1)).sum = l.sum + 1
  | [], i, h => by simp at h
  | x :: t, 0, _ => by
    simp
    omega
  | x :: t, i + 1, h => by
    have := sum_bump t i (by simpa using h)
    rw [List.set_cons_succ, List.sum_cons, List.sum_cons, List.getD_cons_succ, this]
    omega
/-- What is counted on the nodes is how many there are. -/
theorem cnt_sum (n : Nat) (p : List Int) (ys : List Nat) (h : ∀ y ∈ ys, ∃ x, p[y]? = some x ∧ 0 ≤ x ∧ x < (n : Int)) : (cntL n p ys).sum = (ys.length : Int) := by
  suffices g : ∀ (ys : List Nat) (l : List Int), l.length = n → (∀ y ∈ ys, ∃ x, p[y]? = some x ∧ 0 ≤ x ∧ x < (n : Int)) → (ys.foldl (fun l y => match p[y]? with | some x => l.set x.toNat (l.getD x.toNat 0 + 1) | none => l) l).sum = l.sum + (ys.length : Int) by
    refine (g ys (List.replicate n 0) (List.length_replicate ..) h).trans ?_
    simp
  intro ys
  induction ys with
  | nil => intro l _ _; simp
  | cons y t ih =>
    intro l hl hy
    obtain ⟨x, hx, h0, h1⟩ := hy y (by simp)
    rw [List.foldl_cons]
    simp only [hx]
    rw [ih _ (by rw [List.length_set, hl]) (fun z hz => hy z (by simp [hz])), sum_bump l x.toNat (by omega)]
    simp
    omega
end Go.Proofs.YtfnigiiocapceaaGreat

namespace Go.Proofs.YtfnigiiocapceaaGreat
open Go.RowKit

set_option maxRecDepth 100000 in
set_option maxHeartbeats 1000000 in
theorem total_any (x y : Nat → Int) (w : World) :
    Calls Tryz.prog 34 #[rowV x, rowV y] w fun e w' => e = .returned (rowV (addR x y 5)) ∧ Below w.heap.size w w' := by
  have hx0 : Qu.RowAt (((w.alloc (.cells #[.int .i64 (x 0), .int .i64 (x 1), .int .i64 (x 2), .int .i64 (x 3), .int .i64 (x 4)] 33)).alloc (.cells #[.int .i64 (y 0), .int .i64 (y 1), .int .i64 (y 2), .int .i64 (y 3), .int .i64 (y 4)] 33)).alloc (.cells zer5 33)) w.heap.size x := Blk.alloc (Blk.alloc (Blk.new w _ _) _) _
  have hy0 : Qu.RowAt (((w.alloc (.cells #[.int .i64 (x 0), .int .i64 (x 1), .int .i64 (x 2), .int .i64 (x 3), .int .i64 (x 4)] 33)).alloc (.cells #[.int .i64 (y 0), .int .i64 (y 1), .int .i64 (y 2), .int .i64 (y 3), .int .i64 (y 4)] 33)).alloc (.cells zer5 33)) (w.heap.size + 1) y := Blk.alloc (blk2 w _ _ _) _
  have hz0 : Blk (((w.alloc (.cells #[.int .i64 (x 0), .int .i64 (x 1), .int .i64 (x 2), .int .i64 (x 3), .int .i64 (x 4)] 33)).alloc (.cells #[.int .i64 (y 0), .int .i64 (y 1), .int .i64 (y 2), .int .i64 (y 3), .int .i64 (y 4)] 33)).alloc (.cells zer5 33)) (w.heap.size + 2) zer5 33 := blk3 w _ _ _ _
  have hb0 : Below w.heap.size w (((w.alloc (.cells #[.int .i64 (x 0), .int .i64 (x 1), .int .i64 (x 2), .int .i64 (x 3), .int .i64 (x 4)] 33)).alloc (.cells #[.int .i64 (y 0), .int .i64 (y 1), .int .i64 (y 2), .int .i64 (y 3), .int .i64 (y 4)] 33)).alloc (.cells zer5 33)) := (Qu.below2 w _ _).alloc (by simp; omega) _
  have X0 := Lib.hid hx0
  have Y0 := Lib.hid hy0
  have Z0 := Lib.hid hz0
  have B0 := Lib.hid hb0
  clear hx0 hy0 hz0 hb0
  go_enter Tryz.func34, Tryz.ntmps34
  go_wp2
  go_loopw [5] (fun i wr => ∃ k : Nat, k ≤ 5 ∧ i = .int .i64 k ∧ Qu.RowAt wr w.heap.size (addR x y k) ∧ Qu.RowAt wr (w.heap.size + 1) y ∧ Blk wr (w.heap.size + 2) zer5 33 ∧ Below w.heap.size w wr) (fun i _ => 5 - (intOf i).toNat)
  case atStart => exact ⟨0, by omega, rfl, by rw [addR_zero]; exact X0.out, Y0.out, Z0.out, B0.out⟩
  case round =>
    clear X0 Y0 Z0 B0
    obtain ⟨k, hk, rfl, hx, hy, hz, hb⟩ := hrel
    have Hx := Lib.hid hx
    have Hy := Lib.hid hy
    have Hz := Lib.hid hz
    have HB := Lib.hid hb
    clear hx hy hz hb
    by_cases hlt : k < 5
    · have cx := Hx.out.cell hlt
      rw [addR_at] at cx
      have cy := Hy.out.cell hlt
      have fx := Hx.out.free k
      go_wp2_with fail
      go_region
      go_wp2_with fail
      go_roundw
      case rel => exact ⟨k + 1, by omega, by go_num, by rw [← addR_step]; exact (show Qu.RowAt wr.drew _ _ from Hx.out).set hlt _, (show Qu.RowAt wr.drew _ _ from Hy.out).other _ _ (by simp), (show Blk wr.drew _ _ _ from Hz.out).oth (by omega) _ _, HB.out.drew.setCell (by simp) _⟩
      case measure => simp [intOf]; omega
    · obtain rfl : k = 5 := by omega
      go_wp2_with (first | refine wpList_load_row rfl 33 (.tmp 2) rfl w.heap.size rfl 33 _ (0, 0) _ Hx.out Tryz.underlying33 rfl Qu.vec_size ?_ | refine wpList_store_row rfl 33 (.tmp 4) (.tmp 19) rfl (w.heap.size + 2) _ rfl rfl 33 _ Hz.out Qu.vec_size (by kernel_rfl) (by kernel_rfl) ?_)
      refine bodyPost_row1 Tryz.results34 (w.heap.size + 2) _ _ _ _ ?d1 ?p1 (Hz.out.put #[.int .i64 (addR x y 5 0), .int .i64 (addR x y 5 1), .int .i64 (addR x y 5 2), .int .i64 (addR x y 5 3), .int .i64 (addR x y 5 4)]) Tryz.underlying33 rfl Qu.vec_size ?_
      case d1 => rfl
      case p1 => rfl
      exact ⟨rfl, below_setRow HB.out (by omega) _⟩
end Go.Proofs.YtfnigiiocapceaaGreat

namespace Go.Proofs.YtfnigiiocapceaaGreat
open Go.RowKit Go.Shelf Go.Maps Go.Sort

theorem insert_perm (x : Lit × DataW Unit) : ∀ l : List (Lit × DataW Unit), (DataW.insert x l).Perm (x :: l)
  | [] => by simp [DataW.insert]
  | y :: r => by
    unfold DataW.insert
    split
    · exact List.Perm.refl _
    · exact ((insert_perm x r).cons y).trans (List.Perm.swap x y r)
/-- A map whose keys are texts, each once. -/
structure KeyedD (D : DataW Unit) : Prop where
  isMap : IsMap D
  texts : ∀ es, D = .map es → ∀ q ∈ es, ∃ x, q.1 = .string x
  once : (strKeys D).Nodup
theorem keys_filter (v : List UInt8) : ∀ es : List (Lit × DataW Unit), (∀ q ∈ es, ∃ x, q.1 = .string x) → (es.filter fun p => !p.1.sameKey (.string v)).map (fun p => strOf p.1) = (es.map fun p => strOf p.1).filter (· != v)
  | [], _ => rfl
  | q :: t, h => by
    obtain ⟨x, hx⟩ := h q (by simp)
    have ih := keys_filter v t (fun z hz => h z (by simp [hz]))
    rw [List.map_cons, hx]
    by_cases e : x = v
    · subst e
      rw [List.filter_cons_of_neg (by rw [hx]; simp [WideAt.sameKey_self (show WideAt.IsKeyLit (.string x) from trivial)]), List.filter_cons_of_neg (by simp [strOf]), ih]
    · have hn : (Lit.string x).sameKey (.string v) = false := by
        cases hc : (Lit.string x).sameKey (.string v) with
        | false => rfl
        | true => exact absurd (by simpa using WideAt.sameKey_eq hc) e
      rw [List.filter_cons_of_pos (by rw [hx, hn]; rfl), List.filter_cons_of_pos (by simpa [strOf] using e), List.map_cons, ih, hx]
theorem keys_put {D : DataW Unit} (h : KeyedD D) (v : List UInt8) (d : DataW Unit) : (strKeys (D.put (.string v) d)).Perm (v :: (strKeys D).filter (· != v)) := by
  obtain ⟨es, rfl⟩ := h.isMap
  show ((DataW.insert (.string v, d) (es.filter fun p => !p.1.sameKey (.string v))).map fun p => strOf p.1).Perm _
  refine ((insert_perm _ _).map _).trans ?_
  rw [List.map_cons, keys_filter v es (h.texts es rfl)]
  exact List.Perm.refl _
theorem KeyedD.put {D : DataW Unit} (h : KeyedD D) (v : List UInt8) (d : DataW Unit) : KeyedD (D.put (.string v) d) := by
  have hp := keys_put h v d
  obtain ⟨es, rfl⟩ := h.isMap
  refine ⟨⟨_, rfl⟩, ?_, ?_⟩
  · intro es' he q hq
    cases he
    have := (insert_perm (.string v, d) (es.filter fun p => !p.1.sameKey (.string v))).mem_iff.1 hq
    rcases List.mem_cons.1 this with rfl | hm
    · exact ⟨v, rfl⟩
    · exact h.texts es rfl q (List.mem_filter.1 hm).1
  · refine hp.nodup_iff.2 (List.nodup_cons.2 ⟨fun hm => ?_, h.once.filter _⟩)
    have := (List.mem_filter.1 hm).2
    simp at this
theorem keys_same {D : DataW Unit} (h : KeyedD D) {v : List UInt8} (hv : v ∈ strKeys D) (d : DataW Unit) : (strKeys (D.put (.string v) d)).Perm (strKeys D) := by
  refine (keys_put h v d).trans ?_
  rw [← h.once.erase_eq_filter]
  exact (List.perm_cons_erase hv).symm
theorem mem_put {D : DataW Unit} (h : KeyedD D) (v : List UInt8) (d : DataW Unit) (u : List UInt8) : u ∈ strKeys (D.put (.string v) d) ↔ u = v ∨ u ∈ strKeys D := by
  rw [(keys_put h v d).mem_iff, List.mem_cons, List.mem_filter]
  by_cases e : u = v <;> simp [e]

/-- The number at a text. -/
def valD (D : DataW Unit) (v : List UInt8) : Int := numD (D.atKey (.string v) (.lit (.int .i64 0)))
theorem val_put {D : DataW Unit} (h : KeyedD D) (v : List UInt8) (d : DataW Unit) (u : List UInt8) : valD (D.put (.string v) d) u = if u = v then numD d else valD D u := by
  unfold valD
  by_cases e : u = v
  · subst e
    rw [if_pos rfl, atKey_put_same h.isMap (show WideAt.IsKeyLit (.string u) from trivial)]
  · rw [if_neg e, atKey_put_other (by intro hc; cases hc; exact e rfl)]
def sumK (D : DataW Unit) : Int := ((strKeys D).map (valD D)).sum
theorem sum_perm {l l' : List Int} (h : l.Perm l') : l.sum = l'.sum := by
  induction h with
  | nil => rfl
  | cons x _ ih => rw [List.sum_cons, List.sum_cons, ih]
  | swap x y l => simp; omega
  | trans _ _ h1 h2 => rw [h1, h2]
theorem sum_turn {f g : List UInt8 → Int} {v : List UInt8} : ∀ {l : List (List UInt8)}, l.Nodup → (∀ u, u ≠ v → g u = f u) → (l.map g).sum = (l.map f).sum + (if v ∈ l then g v - f v else 0)
  | [], _, _ => by simp
  | u :: t, h, e => by
    obtain ⟨h1, h2⟩ := List.nodup_cons.1 h
    have ih := sum_turn h2 e
    rw [List.map_cons, List.map_cons, List.sum_cons, List.sum_cons, ih]
    by_cases hu : u = v
    · subst hu
      rw [if_neg h1, if_pos (by simp)]
      omega
    · rw [e u hu]
      by_cases hv : v ∈ t
      · rw [if_pos hv, if_pos (by simp [hv])]
        omega
      · rw [if_neg hv, if_neg (by simp [hv]; exact fun hc => hu hc.symm)]
        omega
theorem rowD_sum (D : DataW Unit) : (rowD D).sum = sumK D := by
  unfold rowD sortK sumK
  exact sum_perm ((List.mergeSort_perm _ _).map _)

theorem keyed_nil : KeyedD (.map []) := ⟨⟨[], rfl⟩, (by intro es h q hq; cases h; cases hq), List.nodup_nil⟩
theorem keyed_doms (ns : List NodeD) (key : List UInt8) : ∀ k, KeyedD (domsU ns key k) ∧ ∀ v, valD (domsU ns key k) v = 0
  | 0 => ⟨keyed_nil, fun _ => rfl⟩
  | k + 1 => by
    obtain ⟨h1, h2⟩ := keyed_doms ns key k
    rw [domsU]
    cases hd : domF ns (k : Int) key with
    | none => exact ⟨h1, h2⟩
    | some v =>
      refine ⟨h1.put v _, fun u => ?_⟩
      show valD ((domsU ns key k).put (.string v) (.lit (.int .i64 0))) u = 0
      rw [val_put h1]
      split
      · rfl
      · exact h2 u
theorem doms_has (ns : List NodeD) (key : List UInt8) (n : Nat) (v : List UInt8) (h : domF ns (n : Int) key = some v) : ∀ k, n < k → v ∈ strKeys (domsU ns key k)
  | 0, h' => absurd h' (by omega)
  | k + 1, h' => by
    rw [domsU]
    by_cases e : n = k
    · subst e
      rw [h]
      exact (mem_put (keyed_doms ns key n).1 v _ v).2 (.inl rfl)
    · have ih := doms_has ns key n v h k (by omega)
      cases hd : domF ns (k : Int) key with
      | none => exact ih
      | some u => exact (mem_put (keyed_doms ns key k).1 u _ v).2 (.inr ih)
theorem empty_has {ns : List NodeD} {key v : List UInt8} {x : Int} (h : domF ns x key = some v) : v ∈ strKeys (emptyD ns key) := by
  have h' := h
  unfold domF at h'
  by_cases ht : tpB ns x = true
  · obtain ⟨n, rfl, hn⟩ := tpB_lt ht
    exact doms_has ns key n v h ns.length hn
  · rw [if_neg ht] at h'
    cases h'

/-- A map of the domains in which c at most are counted. -/
structure SpreadAt (ns : List NodeD) (key : List UInt8) (D : DataW Unit) (c : Nat) : Prop where
  keyed : KeyedD D
  keys : (strKeys D).Perm (strKeys (emptyD ns key))
  vals : ∀ v, 0 ≤ valD D v ∧ valD D v ≤ (c : Int)
  sum : sumK D ≤ (c : Int)
theorem SpreadAt.mono {ns : List NodeD} {key : List UInt8} {D : DataW Unit} {c d : Nat} (h : SpreadAt ns key D c) (hd : c ≤ d) : SpreadAt ns key D d :=
  ⟨h.keyed, h.keys, fun v => by have := h.vals v; omega, by have := h.sum; omega⟩
theorem sum_zero : ∀ l : List (List UInt8), ∀ f : List UInt8 → Int, (∀ v, f v = 0) → (l.map f).sum = 0
  | [], _, _ => rfl
  | u :: t, f, h => by rw [List.map_cons, List.sum_cons, h u, sum_zero t f h]; rfl
theorem spread_zero (ns : List NodeD) (key : List UInt8) : SpreadAt ns key (emptyD ns key) 0 := by
  obtain ⟨h1, h2⟩ := keyed_doms ns key ns.length
  refine ⟨h1, List.Perm.refl _, fun v => ?_, ?_⟩
  · rw [show valD (emptyD ns key) v = 0 from h2 v]
    omega
  · rw [show sumK (emptyD ns key) = 0 from sum_zero _ _ h2]
    omega
theorem spread_bump {ns : List NodeD} {key v : List UInt8} {D : DataW Unit} {c : Nat} (h : SpreadAt ns key D c) (hc : c ≤ 1000) (hv : v ∈ strKeys (emptyD ns key)) : SpreadAt ns key (bumpD D v) (c + 1) := by
  have hm : v ∈ strKeys D := h.keys.mem_iff.2 hv
  have hw : wrap64 (valD D v + 1) = valD D v + 1 := IntWalk.wrap64_in _ (by have := h.vals v; omega)
  have e : bumpD D v = D.put (.string v) (.lit (.int .i64 (valD D v + 1))) := by
    rw [← hw]
    rfl
  have hval : ∀ u, valD (bumpD D v) u = if u = v then valD D v + 1 else valD D u := by
    intro u
    rw [e, val_put h.keyed]
    rfl
  have hk : (strKeys (bumpD D v)).Perm (strKeys D) := by
    rw [e]
    exact keys_same h.keyed hm _
  refine ⟨by rw [e]; exact h.keyed.put v _, hk.trans h.keys, fun u => ?_, ?_⟩
  · rw [hval]
    have h1 := h.vals v
    have h2 := h.vals u
    split <;> omega
  · have h1 : sumK (bumpD D v) = ((strKeys D).map (valD (bumpD D v))).sum := sum_perm (hk.map _)
    rw [h1, sum_turn (f := valD D) (v := v) h.keyed.once (fun u hu => by rw [hval, if_neg hu]), if_pos hm, hval, if_pos rfl]
    have := h.sum
    unfold sumK at this
    omega
theorem spread_from (ns : List NodeD) (key : List UInt8) (p : List Int) : ∀ (ys : List Nat) (D : DataW Unit) (c : Nat), SpreadAt ns key D c → c + ys.length ≤ 1000 → SpreadAt ns key (ys.foldl (spreadS ns key p) D) (c + ys.length)
  | [], D, c, h, _ => h
  | y :: t, D, c, h, hl => by
    rw [List.length_cons] at hl
    have hs : SpreadAt ns key (spreadS ns key p D y) (c + 1) := by
      unfold spreadS
      cases hy : p[y]? with
      | none => exact h.mono (by omega)
      | some x =>
        dsimp only
        cases hd : domF ns x key with
        | none => exact h.mono (by omega)
        | some v => exact spread_bump h (by omega) (empty_has hd)
    have := spread_from ns key p t _ (c + 1) hs (by omega)
    rw [List.foldl_cons, List.length_cons, show c + (t.length + 1) = c + 1 + t.length by omega]
    exact this
theorem spread_all (ns : List NodeD) (key : List UInt8) (p : List Int) (ys : List Nat) (h : ys.length ≤ 1000) : SpreadAt ns key (spreadD ns key p ys) ys.length := by
  have := spread_from ns key p ys _ 0 (spread_zero ns key) (by omega)
  rwa [Nat.zero_add] at this

/-- Of a list of numbers that are none below 0: what stands first is no more than the whole. -/
theorem take_sum : ∀ (l : List Int), (∀ x ∈ l, 0 ≤ x) → ∀ j, 0 ≤ (l.take j).sum ∧ (l.take j).sum ≤ l.sum
  | [], _, j => by simp
  | x :: t, h, 0 => by
    have h0 := h x (by simp)
    have := (take_sum t (fun y hy => h y (by simp [hy])) 0).2
    rw [List.take_zero] at this ⊢
    rw [List.sum_cons]
    simp only [List.sum_nil] at this ⊢
    omega
  | x :: t, h, j + 1 => by
    have h0 := h x (by simp)
    have := take_sum t (fun y hy => h y (by simp [hy])) j
    rw [List.take_succ_cons, List.sum_cons, List.sum_cons]
    omega
theorem cnt_pos (n : Nat) (p : List Int) (ys : List Nat) : ∀ x ∈ cntL n p ys, 0 ≤ x := by
  suffices g : ∀ (ys : List Nat) (l : List Int), (∀ x ∈ l, 0 ≤ x) → ∀ x ∈ (ys.foldl (fun l y => match p[y]? with | some x => l.set x.toNat (l.getD x.toNat 0 + 1) | none => l) l), 0 ≤ x by
    exact g ys (List.replicate n 0) (fun x hx => by rw [List.eq_of_mem_replicate hx]; exact Int.le_refl _)
  intro ys
  induction ys with
  | nil => intro l h; exact h
  | cons y t ih =>
    intro l h
    rw [List.foldl_cons]
    refine ih _ ?_
    cases hy : p[y]? with
    | none => exact h
    | some z =>
      intro x hx
      rcases List.mem_or_eq_of_mem_set hx with hx | rfl
      · exact h x hx
      · have : 0 ≤ l.getD z.toNat 0 := by
          rw [List.getD_eq_getElem?_getD]
          cases hq : l[z.toNat]? with
          | none => exact Int.le_refl _
          | some q => exact h q (List.mem_of_getElem? hq)
        omega
end Go.Proofs.YtfnigiiocapceaaGreat

namespace Go.Proofs.YtfnigiiocapceaaGreat
open Go.RowKit Go.Shelf Go.Maps Go.Sort

theorem members_in (ps : List PodD) (name : List UInt8) : ∀ n, ∀ y ∈ membersU ps name n, 0 ≤ y ∧ y < (n : Int)
  | 0, y, h => by cases h
  | n + 1, y, h => by
    rw [membersU, List.mem_append] at h
    rcases h with h | h
    · have := members_in ps name n y h
      omega
    · cases hn : ps[n]? with
      | none => rw [hn] at h; cases h
      | some x =>
        rw [hn] at h
        dsimp only at h
        by_cases e : x.owner = name
        · rw [if_pos e] at h
          simp only [List.mem_singleton] at h
          omega
        · rw [if_neg e] at h
          cases h
theorem off_in {ns : List NodeD} {ps : List PodD} {os : List OwnD} {p : List Int} (hE : placeE ns ps os p = 0) (name : List UInt8) : ∀ y ∈ offL p (membersF ps name), ∃ x, p[y]? = some x ∧ 0 ≤ x ∧ x < (ns.length : Int) := by
  intro y hy
  unfold offL at hy
  obtain ⟨h1, h2⟩ := List.mem_filter.1 hy
  obtain ⟨z, hz, rfl⟩ := List.mem_map.1 h1
  have h3 := members_in ps name ps.length z hz
  have hl := placeE_len hE
  have hlt : z.toNat < p.length := by omega
  refine ⟨p[z.toNat], List.getElem?_eq_getElem hlt, ?_⟩
  have h4 : p[z.toNat] ≠ -1 := by
    intro e
    rw [List.getElem?_eq_getElem hlt, e] at h2
    simp at h2
  obtain ⟨n, hn, hn2⟩ := tpB_lt (placeE_on hE (List.getElem?_eq_getElem hlt) h4)
  omega

theorem sums_of {ns : List NodeD} {ps : List PodD} {os : List OwnD} {p : List Int} (hE : placeE ns ps os p = 0) (hl : ps.length ≤ 1000) {j : Nat} {x : OwnD} (hx : os[j]? = some x) :
    (countsF ns ps os p j).length = ns.length ∧ (spreadF ns ps os p j).length = (domsF ns ps os x.topo).length ∧ (countsF ns ps os p j).sum = placedF ns ps os p j ∧ placedF ns ps os p j ≤ 1000 ∧ (spreadF ns ps os p j).sum ≤ placedF ns ps os p j ∧ (∀ z ∈ countsF ns ps os p j, 0 ≤ z) ∧ ∀ z ∈ spreadF ns ps os p j, 0 ≤ z := by
  have hj := (List.getElem?_eq_some_iff.1 hx).1
  have hO : ownerB ns ps os p (j : Int) = true := by
    unfold ownerB
    rw [decide_eq_true hE, decide_eq_true (by omega)]
    rfl
  have hC : checkS ns ps os = 0 := (placeE_zero hE).1
  have e1 : ofF ps os p (j : Int) = offL p (membersF ps x.name) := by
    unfold ofF
    rw [Int.toNat_natCast, hx]
  have e2 : countsF ns ps os p (j : Int) = cntL ns.length p (offL p (membersF ps x.name)) := by
    unfold countsF
    rw [if_pos hO, e1]
  have e3 : placedF ns ps os p (j : Int) = ((offL p (membersF ps x.name)).length : Int) := by
    unfold placedF
    rw [if_pos hO, e1]
  have e4 : spreadF ns ps os p (j : Int) = rowD (spreadD ns x.topo p (offL p (membersF ps x.name))) := by
    unfold spreadF
    rw [if_pos hO, Int.toNat_natCast, hx]
  have e5 : domsF ns ps os x.topo = sortK (emptyD ns x.topo) := by
    unfold domsF
    rw [if_pos hC]
  have hle : (offL p (membersF ps x.name)).length ≤ 1000 := Nat.le_trans (offL_len _ _) (Nat.le_trans (membersU_len ps x.name ps.length) hl)
  have hS := spread_all ns x.topo p (offL p (membersF ps x.name)) hle
  have hin := off_in hE x.name
  rw [e2, e3, e4, e5]
  generalize offL p (membersF ps x.name) = ys at hle hS hin
  refine ⟨cntL_len _ _ _, ?_, cnt_sum _ _ _ hin, by omega, ?_, cnt_pos _ _ _, ?_⟩
  · unfold rowD
    rw [List.length_map]
    unfold sortK
    rw [List.length_mergeSort, List.length_mergeSort]
    exact hS.keys.length_eq
  · rw [rowD_sum]
    exact hS.sum
  · intro z hz
    unfold rowD at hz
    obtain ⟨v, _, rfl⟩ := List.mem_map.1 hz
    exact (hS.vals v).1
end Go.Proofs.YtfnigiiocapceaaGreat

namespace Go.Proofs.YtfnigiiocapceaaGreat
open Go.RowKit

set_option maxRecDepth 100000 in
set_option maxHeartbeats 4000000 in
theorem sums_any (A B C P : Option Addr) (ca cb cc cp : Nat) (ns : List NodeD) (ps : List PodD) (os : List OwnD) (l : List Int) (w : World) (h : SnapIn w A B C ca cb cc ns ps os) (hp : IntsAt w P cp l) :
    Calls Tryz.prog 6 #[snapV A B C ca cb cc ns ps os, .slice P l.length cp] w fun e w' => e = .returned (.bool true) ∧ Below w.heap.size w w' := by
  have B0 : Hid (Below w.heap.size w (w.alloc (.cells (snapC A B C ca cb cc ns ps os) 26))) := Lib.hid (below1 w _)
  have S0 : Hid (Blk (w.alloc (.cells (snapC A B C ca cb cc ns ps os) 26)) w.heap.size (snapC A B C ca cb cc ns ps os) 26) := Lib.hid (Blk.new w _ _)
  have H := Lib.hid (h.take)
  have HP := Lib.hid hp
  have KW := Lib.hid works_any
  have KC0 := Lib.hid (fun W' (hb : Below w.heap.size w W') => cut_any A B C ca cb cc ns ps os W' (h.below hb))
  generalize ns.take 12 = n1 at H KC0
  generalize ps.take 30 = p1 at H KC0
  generalize os.take 12 = o1 at H KC0
  clear h hp
  go_enter Tryz.func6, Tryz.ntmps6
  go_wp2_with fail
  refine (KW.out _).mono ?_
  rintro e w1 ⟨rfl, hb1⟩
  have S1 : Hid (Blk w1 w.heap.size (snapC A B C ca cb cc ns ps os) 26) := Lib.hid (S0.out.below hb1 S0.out.lt)
  have B1 : Hid (Below w.heap.size w w1) := Lib.hid (B0.out.trans (hb1.mono B0.out.size))
  have KC := Lib.hid (KC0.out w1 B1.out)
  clear hb1 S0 B0 KC0
  have q0 : w1.cell? ⟨w.heap.size, 0, none⟩ = some (.slice A ns.length ca) := Blk.cell S1.out 0
  have q1 : w1.cell? ⟨w.heap.size, 1, none⟩ = some (.slice B ps.length cb) := Blk.cell S1.out 1
  have q2 : w1.cell? ⟨w.heap.size, 2, none⟩ = some (.slice C os.length cc) := Blk.cell S1.out 2
  go_wp2_with fail
  refine (KC.out).mono ?_
  rintro e w2 ⟨rfl, hb2⟩
  have S2 : Hid (Blk w2 w.heap.size (snapC A B C ca cb cc ns ps os) 26) := Lib.hid (S1.out.below hb2 S1.out.lt)
  have B2 : Hid (Below w.heap.size w w2) := Lib.hid (B1.out.trans (hb2.mono B1.out.size))
  clear hb2 S1 B1 KC q0 q1 q2
  have r0 : w2.cell? ⟨w.heap.size, 0, none⟩ = some (.slice A ns.length ca) := Blk.cell S2.out 0
  have r1 : w2.cell? ⟨w.heap.size, 1, none⟩ = some (.slice B ps.length cb) := Blk.cell S2.out 1
  have r2 : w2.cell? ⟨w.heap.size, 2, none⟩ = some (.slice C os.length cc) := Blk.cell S2.out 2
  have f0 := Blk.free S2.out 0
  have f1 := Blk.free S2.out 1
  have f2 := Blk.free S2.out 2
  have S3 : Hid (Blk (((w2.setCell ⟨w.heap.size, 0, none⟩ (.slice A n1.length ca)).setCell ⟨w.heap.size, 1, none⟩ (.slice B p1.length cb)).setCell ⟨w.heap.size, 2, none⟩ (.slice C o1.length cc)) w.heap.size (snapC A B C ca cb cc n1 p1 o1) 26) := Lib.hid (((S2.out.set 0 _).set 1 _).set 2 _)
  have B3 : Hid (Below w.heap.size w (((w2.setCell ⟨w.heap.size, 0, none⟩ (.slice A n1.length ca)).setCell ⟨w.heap.size, 1, none⟩ (.slice B p1.length cb)).setCell ⟨w.heap.size, 2, none⟩ (.slice C o1.length cc))) := Lib.hid (((B2.out.setCell (p := ⟨w.heap.size, 0, none⟩) (Nat.le_refl _) _).setCell (p := ⟨w.heap.size, 1, none⟩) (Nat.le_refl _) _).setCell (p := ⟨w.heap.size, 2, none⟩) (Nat.le_refl _) _)
  go_upto_region 4 with fail
  clear r0 r1 r2 f0 f1 f2
  generalize (((w2.setCell ⟨w.heap.size, 0, none⟩ (.slice A n1.length ca)).setCell ⟨w.heap.size, 1, none⟩ (.slice B p1.length cb)).setCell ⟨w.heap.size, 2, none⟩ (.slice C o1.length cc)) = W at S3 B3 ⊢
  clear S2 B2
  have HW := Lib.hid (fun W' (hb : Below W.heap.size W W') => (show W'.cell? ⟨w.heap.size, 0, none⟩ = some (.slice A n1.length ca) ∧ W'.cell? ⟨w.heap.size, 1, none⟩ = some (.slice B p1.length cb) ∧ W'.cell? ⟨w.heap.size, 2, none⟩ = some (.slice C o1.length cc) from ⟨Blk.cell (S3.out.below hb S3.out.lt) 0, Blk.cell (S3.out.below hb S3.out.lt) 1, Blk.cell (S3.out.below hb S3.out.lt) 2⟩))
  have HT := Lib.hid (fun W' (hb : Below W.heap.size W W') => B3.out.trans (hb.mono B3.out.size))
  have HS := Lib.hid (fun W' (hb : Below W.heap.size W W') => H.out.below (HT.out W' hb))
  have KF1 := Lib.hid (fitted_ints A B C P ca cb cc cp n1 p1 o1 l W (HS.out W (Below.refl _ _)) (HP.out.below (HT.out W (Below.refl _ _))))
  have hfew := H.out.lp
  have hnf := H.out.ln
  have hof := H.out.lo
  have EP := Lib.hid (And.intro (fitU_len n1 l p1.length) (fitU_ok n1 l p1.length))
  generalize fitU n1 l p1.length = p at KF1 EP
  have HG : Hid (w.heap.size < W.heap.size) := Lib.hid S3.out.lt
  clear H HP B3 S3
  obtain ⟨z0, z1, z2⟩ := HW.out W (Below.refl _ _)
  go_wp2_with fail
  refine (KF1.out).mono ?_
  rintro e wc ⟨A1, c1, rfl, i1, hb⟩
  have Dc := Lib.hid hb
  have I1 := Lib.hid i1
  have KP := Lib.hid (pcheck_any A B C A1 ca cb cc c1 n1 p1 o1 p wc (HS.out wc Dc.out) I1.out)
  clear i1 hb KF1 z0 z1 z2
  obtain ⟨z0, z1, z2⟩ := HW.out wc Dc.out
  have hpl : p.length ≤ 1000 := by
    have := EP.out.1
    omega
  by_cases hE : placeE n1 p1 o1 p = 0
  case neg =>
    have KU := Lib.hid (fun W' (hb : Below W.heap.size W W') (hi : IntsAt W' A1 c1 p) => used_any A B C A1 ca cb cc c1 n1 p1 o1 p 0 W' (HS.out W' hb) hi)
    have eU : usedF n1 p1 o1 p 0 = fun _ => 0 := by
      funext k
      unfold usedF
      rw [if_neg (fun hc => hE hc.1)]
    have KN := Lib.hid (fun W' (hb : Below W.heap.size W W') (hi : IntsAt W' A1 c1 p) => counts_any A B C A1 ca cb cc c1 n1 p1 o1 p 0 W' (HS.out W' hb) hi)
    have eN : countsF n1 p1 o1 p 0 = [] := by
      unfold countsF ownerB
      rw [decide_eq_false hE, Bool.false_and, if_neg (by decide)]
    rw [eU] at KU
    rw [eN] at KN
    clear eU eN
    generalize placeE n1 p1 o1 p = E at hE KP
    go_wp2_with fail
    refine (KP.out).mono ?_
    rintro e w5 ⟨rfl, hb5⟩
    have D5 := Lib.hid (Dc.out.trans (hb5.mono Dc.out.size))
    have J1 := Lib.hid (I1.out.below hb5)
    clear hb5 KP I1 z0 z1 z2
    obtain ⟨z0, z1, z2⟩ := HW.out w5 D5.out
    go_wp2_with fail
    refine (KU.out _ D5.out J1.out).mono ?_
    rintro e w6 ⟨rfl, hb6⟩
    have D6 := Lib.hid (D5.out.trans (hb6.mono D5.out.size))
    have J2 := Lib.hid (J1.out.below hb6)
    clear hb6 J1 z0 z1 z2
    obtain ⟨z0, z1, z2⟩ := HW.out w6 D6.out
    have hvq := fun w => Qu.eq_row 0 0 0 0 0 w
    go_wp2_with fail
    refine (KN.out _ D6.out J2.out).mono ?_
    rintro e w7 ⟨v, rfl, ho, hb7⟩
    obtain ⟨An, cn, rfl, _⟩ := La.own_slice ho
    have D7 := Lib.hid (HT.out _ (D6.out.trans (hb7.mono D6.out.size)))
    clear ho hb7 hvq
    go_wp2
    go_ret
    exact ⟨rfl, D7.out⟩
  case pos =>
    have GP := Lib.hid hE
    have EL : Hid (p.length = p1.length) := Lib.hid EP.out.1
    rw [hE] at KP
    clear hE
    go_wp2_with fail
    refine (KP.out).mono ?_
    rintro e w5 ⟨rfl, hb5⟩
    have D5 := Lib.hid (Dc.out.trans (hb5.mono Dc.out.size))
    have J1 := Lib.hid (I1.out.below hb5)
    clear hb5 KP I1 z0 z1 z2 Dc
    have B6 : Hid (Below w5.heap.size w5 ((w5.alloc (.cells zer5 33)).alloc (.cells zer5 33))) := Lib.hid (Qu.below2 w5 _ _)
    have G6 : Hid (Qu.RowAt ((w5.alloc (.cells zer5 33)).alloc (.cells zer5 33)) w5.heap.size (fun _ => 0)) := Lib.hid (Blk.alloc (Blk.new w5 _ _) _)
    have N6 : Hid (Qu.RowAt ((w5.alloc (.cells zer5 33)).alloc (.cells zer5 33)) (w5.heap.size + 1) (fun _ => 0)) := Lib.hid (blk2 w5 _ _ _)
    have HD := Lib.hid (fun W' (hb : Below w5.heap.size w5 W') => D5.out.trans (hb.mono D5.out.size))
    have HI := Lib.hid (fun W' (hb : Below w5.heap.size w5 W') => J1.out.below hb)
    clear J1 D5
    go_wp2_with fail
    generalize ((w5.alloc (.cells zer5 33)).alloc (.cells zer5 33)) = W6 at G6 N6 B6 ⊢
    go_loopw [8] (fun i wr => ∃ k : Nat, k ≤ n1.length ∧ i = .int .i64 k ∧ Qu.RowAt wr w5.heap.size (fun j => wrap64 (usedG p1 p j p.length k)) ∧ Qu.RowAt wr (w5.heap.size + 1) (fun _ => 0) ∧ Below w5.heap.size w5 wr) (fun i _ => n1.length - (intOf i).toNat)
    case atStart => exact ⟨0, by omega, rfl, RowAt_congr G6.out (fun j _ => by unfold usedG wrap64; omega), N6.out, B6.out⟩
    case round =>
      clear G6 N6 B6
      obtain ⟨k, hk, rfl, g6, m6, hb⟩ := hrel
      have G6 := Lib.hid g6
      have N6 := Lib.hid m6
      have I6 := Lib.hid (HI.out wr hb)
      have D6 := Lib.hid (HD.out wr hb)
      have B6 := Lib.hid hb
      clear g6 m6 hb
      obtain ⟨z0, z1, z2⟩ := HW.out wr D6.out
      by_cases hlt : k < n1.length
      · have KU := Lib.hid (fun W' (hb : Below W.heap.size W W') (hi : IntsAt W' A1 c1 p) => used_any A B C A1 ca cb cc c1 n1 p1 o1 p (k : Int) W' (HS.out W' hb) hi)
        obtain ⟨f, hf⟩ : ∃ f : Nat → Int, (fun j => wrap64 (usedG p1 p j p.length k)) = f := ⟨_, rfl⟩
        obtain ⟨r, hr⟩ : ∃ r : Nat → Int, usedF n1 p1 o1 p (k : Int) = r := ⟨_, rfl⟩
        rw [hf] at G6
        rw [hr] at KU
        have EN : Hid (∀ j, j < 5 → addR f r 5 j = wrap64 (usedG p1 p j p.length (k + 1))) := Lib.hid (fun j hj => by
          unfold addR
          rw [if_pos hj, ← hf, ← hr]
          unfold usedF
          rw [if_pos ⟨GP.out, by omega, by omega⟩, addW_is]
          show wrap64 (wrap64 _ + wrap64 _) = _
          rw [wrap_two, usedG])
        clear hf hr
        have y0 := G6.out.cell (show 0 < 5 by omega)
        have y1 := G6.out.cell (show 1 < 5 by omega)
        have y2 := G6.out.cell (show 2 < 5 by omega)
        have y3 := G6.out.cell (show 3 < 5 by omega)
        have y4 := G6.out.cell (show 4 < 5 by omega)
        go_upto_region 11 with fail
        go_region_with (first
          | (go_at_call 13; refine (KU.out _ (by first | exact D6.out | exact D6.out.drew) (by first | exact I6.out | exact (show IntsAt wr.drew _ _ _ from I6.out.below (Below.refl _ _).drew))).mono ?_; rintro e w3 ⟨rfl, hb3⟩; have D7 : Hid (Below wr.heap.size wr w3) := Lib.hid (by first | exact hb3 | exact (Below.drew (Below.refl _ _)).trans hb3); clear hb3; have G7 := Lib.hid (G6.out.below D7.out G6.out.lt); have x0 := G7.out.cell (show 0 < 5 by omega); have x1 := G7.out.cell (show 1 < 5 by omega); have x2 := G7.out.cell (show 2 < 5 by omega); have x3 := G7.out.cell (show 3 < 5 by omega); have x4 := G7.out.cell (show 4 < 5 by omega))
          | (go_at_call 34; refine (total_any f r _).mono ?_; rintro e w4 ⟨rfl, hb4⟩; have D8 : Hid (Below wr.heap.size wr w4) := Lib.hid (D7.out.trans (hb4.mono D7.out.size)); clear hb4; have G8 := Lib.hid (G6.out.below D8.out G6.out.lt); have t0 := G8.out.cell (show 0 < 5 by omega); have t1 := G8.out.cell (show 1 < 5 by omega); have t2 := G8.out.cell (show 2 < 5 by omega); have t3 := G8.out.cell (show 3 < 5 by omega); have t4 := G8.out.cell (show 4 < 5 by omega); have fr0 := G8.out.free 0; have fr1 := G8.out.free 1; have fr2 := G8.out.free 2; have fr3 := G8.out.free 3; have fr4 := G8.out.free 4))
        all_goals
          go_wp2_with fail
          go_roundw
          case rel =>
            have N8 := N6.out.below D8.out N6.out.lt
            have B8 := B6.out.trans (D8.out.mono B6.out.size)
            refine ⟨k + 1, by omega, by go_num, RowAt_congr (((((G8.out.set (show 0 < 5 by omega) _).set (show 1 < 5 by omega) _).set (show 2 < 5 by omega) _).set (show 3 < 5 by omega) _).set (show 4 < 5 by omega) _) ?_, (((((N8.other _ _ (by simp)).other _ _ (by simp)).other _ _ (by simp)).other _ _ (by simp)).other _ _ (by simp)), (((((B8.setCell (p := ⟨w5.heap.size, 0, none⟩) (Nat.le_refl _) _).setCell (p := ⟨w5.heap.size, 1, none⟩) (Nat.le_refl _) _).setCell (p := ⟨w5.heap.size, 2, none⟩) (Nat.le_refl _) _).setCell (p := ⟨w5.heap.size, 3, none⟩) (Nat.le_refl _) _).setCell (p := ⟨w5.heap.size, 4, none⟩) (Nat.le_refl _) _)⟩
            intro j hj
            match j, hj with
            | 0, h => exact EN.out 0 h
            | 1, h => exact EN.out 1 h
            | 2, h => exact EN.out 2 h
            | 3, h => exact EN.out 3 h
            | 4, h => exact EN.out 4 h
          case measure => simp [intOf]; omega
      · obtain rfl : k = n1.length := by omega
        have EG : Hid (∀ j, usedG p1 p j p.length n1.length = wantU p1 p j p.length) := Lib.hid (fun j => used_want p1 p j n1.length (fun x hx => by
          have hok := EP.out.2 x hx
          by_cases h0 : 0 ≤ x
          · obtain ⟨n, hn, hn2⟩ := tpB_lt (ok_tp hok h0)
            omega
          · exact .inl (ok_neg hok h0)) p.length)
        clear I6 D6 hlt hk
        go_wp2_with fail
        clear z0 z1 z2
        go_loopw [9] (fun i wr => ∃ k : Nat, k ≤ p.length ∧ i = .int .i64 k ∧ Qu.RowAt wr w5.heap.size (fun j => wrap64 (usedG p1 p j p.length n1.length)) ∧ Qu.RowAt wr (w5.heap.size + 1) (fun j => wrap64 (wantU p1 p j k)) ∧ Below w5.heap.size w5 wr) (fun i _ => p.length - (intOf i).toNat)
        case atStart => exact ⟨0, by omega, rfl, G6.out, RowAt_congr N6.out (fun j _ => by unfold wantU wrap64; omega), B6.out⟩
        case round =>
          clear G6 N6 B6
          obtain ⟨k, hk, rfl, g6, m6, hb⟩ := hrel
          have G6 := Lib.hid g6
          have N6 := Lib.hid m6
          have I6 := Lib.hid (HI.out wr hb)
          have D6 := Lib.hid (HD.out wr hb)
          have B6 := Lib.hid hb
          clear g6 m6 hb
          obtain ⟨z0, z1, z2⟩ := HW.out wr D6.out
          by_cases hlt : k < p.length
          · obtain ⟨x, hx⟩ : ∃ x, p[k]? = some x := ⟨p[k], List.getElem?_eq_getElem hlt⟩
            have hkp : k < p1.length := by
              have := EL.out
              omega
            obtain ⟨y, hy⟩ : ∃ y, p1[k]? = some y := ⟨p1[k], List.getElem?_eq_getElem hkp⟩
            obtain ⟨bx, ox, hAx, hbx, cx⟩ := atI I6.out.cells hx
            subst hAx
            have k0 : (0 : Int) ≤ (k : Int) := by omega
            have k1 : (k : Int) < (p.length : Int) := by omega
            have k2 : (k : Int) < (p1.length : Int) := by omega
            by_cases h0 : 0 ≤ x
            · obtain ⟨b, o, hA, hb0, d0, d1, d2, d3, d4, d5, d6, d7, d8, d9, d10, d11, d12, d13, d14⟩ := atP (HS.out wr D6.out).p.cells hy
              subst hA
              obtain ⟨f, hf⟩ : ∃ f : Nat → Int, (fun j => wrap64 (wantU p1 p j k)) = f := ⟨_, rfl⟩
              rw [hf] at N6
              have EN : Hid (∀ j, j < 5 → addR f y.req 5 j = wrap64 (wantU p1 p j (k + 1))) := Lib.hid (fun j hj => by
                unfold addR
                rw [if_pos hj, ← hf]
                show wrap64 (wrap64 _ + _) = _
                rw [wrap_step, wantU, hx]
                simp only [if_pos h0]
                unfold reqAt
                rw [hy])
              clear hf hx hy d0 d1 d7 d8 d9 d10 d11 d12 d13 d14 hb0
              have y0 := N6.out.cell (show 0 < 5 by omega); have y1 := N6.out.cell (show 1 < 5 by omega); have y2 := N6.out.cell (show 2 < 5 by omega); have y3 := N6.out.cell (show 3 < 5 by omega); have y4 := N6.out.cell (show 4 < 5 by omega)
              go_upto_region 16 with fail

              go_region_with (go_at_call 34; refine (total_any f y.req _).mono ?_; rintro e w4 ⟨rfl, hb4⟩; have D8 : Hid (Below wr.heap.size wr w4) := Lib.hid (by first | exact hb4 | exact (Below.drew (Below.refl _ _)).trans hb4); clear hb4; have N8 := Lib.hid (N6.out.below D8.out N6.out.lt); have t0 := N8.out.cell (show 0 < 5 by omega); have t1 := N8.out.cell (show 1 < 5 by omega); have t2 := N8.out.cell (show 2 < 5 by omega); have t3 := N8.out.cell (show 3 < 5 by omega); have t4 := N8.out.cell (show 4 < 5 by omega); have fr0 := N8.out.free 0; have fr1 := N8.out.free 1; have fr2 := N8.out.free 2; have fr3 := N8.out.free 3; have fr4 := N8.out.free 4)
              all_goals
                go_wp2_with fail
                go_roundw
                case rel =>
                  have G8 := G6.out.below D8.out G6.out.lt
                  have B8 := B6.out.trans (D8.out.mono B6.out.size)
                  refine ⟨k + 1, by omega, by go_num, (((((G8.other _ _ (by simp)).other _ _ (by simp)).other _ _ (by simp)).other _ _ (by simp)).other _ _ (by simp)), RowAt_congr (((((N8.out.set (show 0 < 5 by omega) _).set (show 1 < 5 by omega) _).set (show 2 < 5 by omega) _).set (show 3 < 5 by omega) _).set (show 4 < 5 by omega) _) ?_, (((((B8.setCell (p := ⟨w5.heap.size + 1, 0, none⟩) (Nat.le_succ _) _).setCell (p := ⟨w5.heap.size + 1, 1, none⟩) (Nat.le_succ _) _).setCell (p := ⟨w5.heap.size + 1, 2, none⟩) (Nat.le_succ _) _).setCell (p := ⟨w5.heap.size + 1, 3, none⟩) (Nat.le_succ _) _).setCell (p := ⟨w5.heap.size + 1, 4, none⟩) (Nat.le_succ _) _)⟩
                  intro j hj
                  match j, hj with
                  | 0, h => exact EN.out 0 h
                  | 1, h => exact EN.out 1 h
                  | 2, h => exact EN.out 2 h
                  | 3, h => exact EN.out 3 h
                  | 4, h => exact EN.out 4 h
                case measure => simp [intOf]; omega
            · have EW : Hid (∀ j, wantU p1 p j (k + 1) = wantU p1 p j k) := Lib.hid (fun j => by rw [wantU, hx]; simp only [if_neg h0, Int.add_zero])
              clear hx hy
              go_wp2
              go_roundw
              case rel => exact ⟨k + 1, by omega, by go_num, G6.out, RowAt_congr N6.out (fun j _ => by rw [EW.out j]), B6.out⟩
              case measure => simp [intOf]; omega
          · obtain rfl : k = p.length := by omega
            obtain ⟨f, hf⟩ : ∃ f : Nat → Int, (fun j => wrap64 (wantU p1 p j p.length)) = f := ⟨_, rfl⟩
            have GF : Hid (Qu.RowAt wr w5.heap.size f) := Lib.hid (RowAt_congr G6.out (fun j _ => by rw [← hf, EG.out j]))
            rw [hf] at N6
            clear hf
            have x0 := GF.out.cell (show 0 < 5 by omega)
            have x1 := GF.out.cell (show 1 < 5 by omega)
            have x2 := GF.out.cell (show 2 < 5 by omega)
            have x3 := GF.out.cell (show 3 < 5 by omega)
            have x4 := GF.out.cell (show 4 < 5 by omega)
            have y0 := N6.out.cell (show 0 < 5 by omega)
            have y1 := N6.out.cell (show 1 < 5 by omega)
            have y2 := N6.out.cell (show 2 < 5 by omega)
            have y3 := N6.out.cell (show 3 < 5 by omega)
            have y4 := N6.out.cell (show 4 < 5 by omega)
            have hvq := fun w => Qu.eq_row (f 0) (f 1) (f 2) (f 3) (f 4) w
            go_wp2_with fail
            clear x0 x1 x2 x3 x4 y0 y1 y2 y3 y4 hvq N6 GF G6 EG hlt hk z0 z1 z2 I6 D6
            go_loopw [10] (fun i wr => ∃ k : Nat, k ≤ o1.length ∧ i = .int .i64 k ∧ Below w5.heap.size w5 wr) (fun i _ => o1.length - (intOf i).toNat)
            case atStart => exact ⟨0, by omega, rfl, B6.out⟩
            case round =>
              clear B6
              obtain ⟨k, hk, rfl, hb⟩ := hrel
              have I6 := Lib.hid (HI.out wr hb)
              have D6 := Lib.hid (HD.out wr hb)
              have B6 := Lib.hid hb
              clear hb
              obtain ⟨z0, z1, z2⟩ := HW.out wr D6.out
              by_cases hlt : k < o1.length
              · obtain ⟨x, hx⟩ : ∃ x, o1[k]? = some x := ⟨o1[k], List.getElem?_eq_getElem hlt⟩
                obtain ⟨q1, q2, q3, q4, q5, q6, q7⟩ := sums_of GP.out hfew hx
                have KN := Lib.hid (fun W' (hb : Below W.heap.size W W') (hi : IntsAt W' A1 c1 p) => counts_any A B C A1 ca cb cc c1 n1 p1 o1 p (k : Int) W' (HS.out W' hb) hi)
                have KS := Lib.hid (fun W' (hb : Below W.heap.size W W') (hi : IntsAt W' A1 c1 p) => spread_any A B C A1 ca cb cc c1 n1 p1 o1 p (k : Int) W' (HS.out W' hb) hi)
                have KL := Lib.hid (fun W' (hb : Below W.heap.size W W') (hi : IntsAt W' A1 c1 p) => placed_any A B C A1 ca cb cc c1 n1 p1 o1 p (k : Int) W' (HS.out W' hb) hi)
                have KD := Lib.hid (fun W' (hb : Below W.heap.size W W') => domains_any A B C ca cb cc n1 p1 o1 x.topo W' (HS.out W' hb))
                generalize countsF n1 p1 o1 p (k : Int) = cnt at KN q1 q3 q6
                generalize spreadF n1 p1 o1 p (k : Int) = spr at KS q2 q5 q7
                generalize placedF n1 p1 o1 p (k : Int) = pl at KL q3 q4 q5
                have hdl : spr.length = (domsF n1 p1 o1 x.topo).length := q2
                rw [q1] at KN
                rw [← hdl] at KD
                obtain ⟨d, hd⟩ : ∃ d, spr.length = d := ⟨_, rfl⟩
                rw [hd] at KS KD
                have QC := Lib.hid q1
                have QS := Lib.hid hd
                have QN := Lib.hid (And.intro q3 q6)
                have QM := Lib.hid (And.intro q5 q7)
                clear q1 q2 q3 q5 q6 q7 hdl hd
                have HX := Lib.hid hx
                have hk2 : (k : Int) < (o1.length : Int) := by omega
                have hk0 : (0 : Int) ≤ (k : Int) := by omega
                have D0 : Hid (Below wr.heap.size wr wr) := Lib.hid (Below.refl _ _)
                have D1 : Hid (Below wr.heap.size wr wr.drew) := Lib.hid D0.out.drew
                have HR := Lib.hid (fun W' (hb : Below wr.heap.size wr W') => D6.out.trans (hb.mono D6.out.size))
                have HJ := Lib.hid (fun W' (hb : Below wr.heap.size wr W') => I6.out.below hb)
                have w0 := And.intro z0 (And.intro z1 z2)
                have w1 := HW.out wr.drew D6.out.drew
                clear hx
                go_upto_region 23 with fail
                go_cut [13, 14] (fun v13 v14 wc => ∃ A3 c3 A4 c4, v13 = .slice A3 n1.length c3 ∧ v14 = .slice A4 d c4 ∧ IntsAt wc A3 c3 cnt ∧ IntsAt wc A4 c4 spr ∧ Below wr.heap.size wr wc)
                case first =>
                  go_region_held3 (fun w' => w'.cell? ⟨w.heap.size, 0, none⟩ = some (.slice A n1.length ca) ∧ w'.cell? ⟨w.heap.size, 1, none⟩ = some (.slice B p1.length cb) ∧ w'.cell? ⟨w.heap.size, 2, none⟩ = some (.slice C o1.length cc))
                    (first | (with_reducible exact w1) | (with_reducible exact w0) | (with_reducible exact z3) | (with_reducible exact z4) | go_keep)
                    (first
                      | (go_at_call 16; (with_reducible refine (KN.out _ (by first | exact HR.out _ D1.out | exact D6.out) (by first | exact HJ.out _ D1.out | exact I6.out)).mono ?_); rintro e w3 ⟨v3, rfl, ho3, hb3⟩; have D3 : Hid (Below wr.heap.size wr w3) := Lib.hid (D1.out.trans (hb3.mono (by first | exact D1.out.size | exact D0.out.size))); obtain ⟨A3, c3, rfl, _⟩ := La.own_slice ho3; have I3 : Hid (IntsAt w3 A3 c3 cnt) := Lib.hid (IntsAt.own (by rw [QC.out]; exact ho3)); clear ho3 hb3; have z3 := HW.out w3 (HR.out _ D3.out))
                      | (go_at_call 18; (with_reducible refine (KS.out _ (HR.out _ D3.out) (HJ.out _ D3.out)).mono ?_); rintro e w4 ⟨v4, rfl, ho4, hb4⟩; have D4 : Hid (Below wr.heap.size wr w4) := Lib.hid (D3.out.trans (hb4.mono D3.out.size)); obtain ⟨A4, c4, rfl, _⟩ := La.own_slice ho4; have I4 : Hid (IntsAt w4 A4 c4 spr) := Lib.hid (IntsAt.own (by rw [QS.out]; exact ho4)); have I5 := Lib.hid (I3.out.below hb4); clear ho4 hb4; have z4 := HW.out w4 (HR.out _ D4.out))
                      | skip)
                  all_goals
                    go_wp2_with fail
                    go_meet
                    exact ⟨_, _, _, _, rfl, rfl, I5.out, I4.out, D4.out⟩
                case rest =>
                  obtain ⟨A3, c3, A4, c4, rfl, rfl, i3, i4, hb⟩ := hcut
                  have I3 := Lib.hid i3
                  have I4 := Lib.hid i4
                  have Dc := Lib.hid hb
                  have HM : Hid (pl ≤ 1000 ∧ cnt.sum = pl ∧ spr.sum ≤ pl) := Lib.hid ⟨q4, QN.out.1, QM.out.1⟩
                  have hdm : d ≤ 9223372036854775807 := by
                    have h1 := I4.out.le
                    have h2 := I4.out.most
                    have h3 := QS.out
                    omega
                  clear i3 i4 hb D0 D1 w0 w1 z0 z1 z2 KN KS q4
                  go_wp2_with fail
                  go_loopw [11, 15] (fun s i w2 => ∃ m : Nat, m ≤ n1.length ∧ i = .int .i64 m ∧ s = .int .i64 ((cnt.take m).sum) ∧ Below wc.heap.size wc w2) (fun _ i _ => n1.length - (intOf i).toNat)
                  case atStart => refine ⟨0, by omega, rfl, ?_, ?_⟩ <;> first | exact Below.refl _ _ | trivial | simp
                  case round =>
                    obtain ⟨m, hm, rfl, rfl, hw⟩ := hrel
                    have HWm := Lib.hid hw
                    by_cases hmlt : m < n1.length
                    · obtain ⟨z, hz⟩ : ∃ z, cnt[m]? = some z := ⟨cnt[m]'(by have := QC.out; omega), List.getElem?_eq_getElem _⟩
                      obtain ⟨b3, o3, hA3, hb3, cz⟩ := atI (I3.out.below hw).cells hz
                      subst hA3
                      have m0 : (0 : Int) ≤ (m : Int) := by omega
                      have m1 : (m : Int) < (n1.length : Int) := by omega
                      have hT : (cnt.take (m + 1)).sum = (cnt.take m).sum + z := by
                        obtain ⟨hl, rfl⟩ := List.getElem?_eq_some_iff.1 hz
                        rw [List.take_succ_eq_append_getElem hl, List.sum_append]
                        simp
                      have t1 := take_sum cnt QN.out.2 (m + 1)
                      rw [hT] at t1
                      have HTT := Lib.hid hT
                      obtain ⟨T, hTe⟩ : ∃ T, (cnt.take m).sum = T := ⟨_, rfl⟩
                      rw [hTe] at t1 HTT
                      rw [hTe]
                      have t2 : T + z ≤ 1000 := by have := HM.out; omega
                      clear hTe hT hz hw
                      go_wp2
                      go_roundw
                      case rel => exact ⟨m + 1, by omega, by go_num, by rw [HTT.out], HWm.out⟩
                      case measure => simp [intOf]; omega
                    · obtain rfl : m = n1.length := by omega
                      clear hw
                      have hS : (cnt.take n1.length).sum = pl := by
                        rw [← QC.out, List.take_length]
                        exact HM.out.2.1
                      rw [hS]
                      clear hS hm hmlt
                      go_wp2_with fail
                      go_loopw [12, 16] (fun s i w2 => ∃ m : Nat, m ≤ d ∧ i = .int .i64 m ∧ s = .int .i64 ((spr.take m).sum) ∧ Below wc.heap.size wc w2) (fun _ i _ => d - (intOf i).toNat)
                      case atStart => refine ⟨0, by omega, rfl, ?_, ?_⟩ <;> first | exact HWm.out | trivial | simp
                      case round =>
                        obtain ⟨m, hm, rfl, rfl, hw⟩ := hrel
                        have HWm := Lib.hid hw
                        by_cases hmlt : m < d
                        · obtain ⟨z, hz⟩ : ∃ z, spr[m]? = some z := ⟨spr[m]'(by have := QS.out; omega), List.getElem?_eq_getElem _⟩
                          obtain ⟨b4, o4, hA4, hb4, cz⟩ := atI (I4.out.below hw).cells hz
                          subst hA4
                          have m0 : (0 : Int) ≤ (m : Int) := by omega
                          have m1 : (m : Int) < (d : Int) := by omega
                          have hT : (spr.take (m + 1)).sum = (spr.take m).sum + z := by
                            obtain ⟨hl, rfl⟩ := List.getElem?_eq_some_iff.1 hz
                            rw [List.take_succ_eq_append_getElem hl, List.sum_append]
                            simp
                          have t1 := take_sum spr QM.out.2 (m + 1)
                          rw [hT] at t1
                          have HTT := Lib.hid hT
                          obtain ⟨T, hTe⟩ : ∃ T, (spr.take m).sum = T := ⟨_, rfl⟩
                          rw [hTe] at t1 HTT
                          rw [hTe]
                          have t2 : T + z ≤ 1000 := by have := HM.out; omega
                          clear hTe hT hz hw
                          go_wp2
                          go_roundw
                          case rel => exact ⟨m + 1, by omega, by go_num, by rw [HTT.out], HWm.out⟩
                          case measure => simp [intOf]; omega
                        · obtain rfl : m = d := by omega
                          clear hw
                          have hS : (spr.take m).sum = spr.sum := by rw [← QS.out, List.take_length]
                          rw [hS]
                          have hgt : ¬ pl < spr.sum := by
                            have := HM.out.2.2
                            omega
                          generalize spr.sum = S at hgt HM ⊢
                          clear hS hm hmlt
                          have E0 := Lib.hid (HR.out _ (Dc.out.trans (HWm.out.mono Dc.out.size)))
                          have E1 := Lib.hid E0.out.drew
                          have P0 := Lib.hid (HJ.out _ (Dc.out.trans (HWm.out.mono Dc.out.size)))
                          obtain ⟨bo, oo, hAo, hbo, u0, u1, co, u3, u4⟩ := atO (HS.out _ E0.out).o HX.out
                          subst hAo
                          have FK := Lib.hid (fun W' (hb : Below wr.heap.size wr W') => (show (W'.cell? ⟨w.heap.size, 0, none⟩ = some (.slice A n1.length ca) ∧ W'.cell? ⟨w.heap.size, 1, none⟩ = some (.slice B p1.length cb) ∧ W'.cell? ⟨w.heap.size, 2, none⟩ = some (.slice (some ⟨bo, oo, none⟩) o1.length cc)) ∧ W'.cell? ⟨bo, oo + k * 5 + 2, none⟩ = some (strV x.topo) from ⟨HW.out W' (E0.out.trans (hb.mono E0.out.size)), (hb.cell (p := ⟨bo, oo + k * 5 + 2, none⟩) hbo).trans co⟩))
                          have s0 := FK.out wr (Below.refl _ _)
                          have s1 := FK.out wr.drew (Below.refl _ _).drew
                          clear u0 u1 co u3 u4 hbo
                          go_upto_region 32 with fail
                          go_cut [146] (fun v wd => v = .bool false ∧ Below wr.heap.size wr wd)
                          case first =>
                            go_region_held3 (fun w' => (w'.cell? ⟨w.heap.size, 0, none⟩ = some (.slice A n1.length ca) ∧ w'.cell? ⟨w.heap.size, 1, none⟩ = some (.slice B p1.length cb) ∧ w'.cell? ⟨w.heap.size, 2, none⟩ = some (.slice (some ⟨bo, oo, none⟩) o1.length cc)) ∧ w'.cell? ⟨bo, oo + k * 5 + 2, none⟩ = some (strV x.topo))
                              (first | (with_reducible exact s1) | (with_reducible exact s0) | (with_reducible exact s3) | (with_reducible exact s4) | go_keep)
                              (first
                                | (go_at_call 26; (with_reducible refine (KD.out _ (by first | exact E1.out | exact E0.out)).mono ?_); rintro e w3 ⟨v3, rfl, ho3, hb3⟩; have D3 : Hid (Below wr.heap.size wr w3) := Lib.hid (by first | exact hb3 | exact (Below.drew (Below.refl _ _)).trans hb3); obtain ⟨A5, c5, rfl, _⟩ := La.own_slice ho3; clear ho3 hb3; have s3 := FK.out w3 D3.out)
                                | (go_at_call 20; (with_reducible refine (KL.out _ (E0.out.trans (D3.out.mono E0.out.size)) (P0.out.below D3.out)).mono ?_); rintro e w4 ⟨rfl, hb4⟩; have D4 : Hid (Below wr.heap.size wr w4) := Lib.hid (D3.out.trans (hb4.mono D3.out.size)); clear hb4; have s4 := FK.out w4 D4.out)
                                | skip)
                            all_goals
                              go_wp2_with fail
                              go_meet
                              exact ⟨by simp [hgt], by first | exact D4.out | exact D4.out.drew⟩
                          case rest =>
                            obtain ⟨rfl, hb⟩ := hcut
                            have B9 := Lib.hid (B6.out.trans ((Dc.out.trans ((HWm.out.trans (hb.mono HWm.out.size)).mono Dc.out.size)).mono B6.out.size))
                            clear hb s0 s1
                            go_wp2
                            go_roundw
                            case rel => exact ⟨k + 1, by omega, by go_num, B9.out⟩
                            case measure => simp [intOf]; omega
              · obtain rfl : k = o1.length := by omega
                go_wp2
                go_ret
                exact ⟨rfl, HT.out _ D6.out⟩
end Go.Proofs.YtfnigiiocapceaaGreat
