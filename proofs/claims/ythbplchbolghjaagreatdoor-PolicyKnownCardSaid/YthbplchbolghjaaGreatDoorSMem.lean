/- Slices of words in memory; a word equals itself. No conditions. -/
import Derived.Test.YthbplchbolghjaaGreatDoorSScan
import Derived.Laws.StructEq
namespace Go.Proofs.YthbplchbolghjaaGreatDoor.Sc
open Go.RowKit

/-- A slice at A holds these cells. -/
def SlAt (w : World) (A : Option Addr) (xs : List Value) : Prop := ∀ j y, xs[j]? = some y → ∃ b o, A = some ⟨b, o, none⟩ ∧ w.cell? ⟨b, o + j, none⟩ = some y
theorem SlAt.below {w w' : World} {A : Option Addr} {xs : List Value} (h : SlAt w A xs) (hb : Below w.heap.size w w') : SlAt w' A xs := by
  intro j y hj
  obtain ⟨b, o, hA, hc⟩ := h j y hj
  exact ⟨b, o, hA, (hb.cell (World.block_lt_of_cell? w _ hc)).trans hc⟩
theorem SlAt.nil (w : World) (A : Option Addr) : SlAt w A [] := fun j y h => by simp at h
theorem own_cells {w : World} {base : Nat} {e : TypeId} {size : Nat} {v : Value} {n : Nat} {xs : List Value} (h : w.ownsRow base e size v n xs) (hn : 0 < n) :
    ∃ g cap, v = .slice (some ⟨g, 0, none⟩) n cap ∧ base ≤ g ∧ g < w.heap.size ∧ n ≤ cap ∧ cap ≤ maxLen ∧ ∀ j y, xs[j]? = some y → w.cell? ⟨g, j, none⟩ = some y := by
  rcases h.2 with ⟨rfl, h0⟩ | ⟨g, cap, cur, rfl, hb, hg, h1, h2, h3, h4⟩
  · omega
  · refine ⟨g, cap, rfl, hb, (Array.getElem?_eq_some_iff.1 hg).1, h1, h2, fun j y hj => ?_⟩
    rw [cell_of_row w g j _ _ _ hg]
    rw [← h4] at hj
    rw [List.getElem?_take] at hj
    split at hj
    · rwa [Array.getElem?_toList] at hj
    · cases hj
theorem own_slat {w : World} {base : Nat} {e : TypeId} {size : Nat} {A : Option Addr} {n c : Nat} {xs : List Value} (h : w.ownsRow base e size (.slice A n c) n xs) : SlAt w A xs := by
  rcases Nat.eq_zero_or_pos n with hn | hn
  · have : xs = [] := List.length_eq_zero_iff.1 (by rw [h.1, hn, Nat.zero_mul])
    rw [this]
    exact SlAt.nil _ _
  · obtain ⟨g, cap, hv, _, _, _, _, hc⟩ := own_cells h hn
    cases hv
    exact fun j y hj => ⟨g, 0, rfl, by rw [Nat.zero_add]; exact hc j y hj⟩
theorem own_cap {w : World} {base : Nat} {e : TypeId} {size : Nat} {A : Option Addr} {n c : Nat} {xs : List Value} (h : w.ownsRow base e size (.slice A n c) n xs) : n ≤ c ∧ c ≤ maxLen := by
  rcases h.2 with ⟨hv, h0⟩ | ⟨g, cap, cur, hv, hb, hg, h1, h2, h3, h4⟩
  · cases hv
    exact ⟨Nat.le_refl _, Nat.zero_le _⟩
  · cases hv
    exact ⟨h1, h2⟩
theorem own_below {w w' : World} {base : Nat} {e : TypeId} {size : Nat} {v : Value} {n : Nat} {xs : List Value} (h : w.ownsRow base e size v n xs) (hb : Below w.heap.size w w') : w'.ownsRow base e size v n xs := by
  obtain ⟨h1, h2⟩ := h
  refine ⟨h1, ?_⟩
  rcases h2 with h2 | ⟨g, cap, cur, hv, hg, hc, h3⟩
  · exact .inl h2
  · exact .inr ⟨g, cap, cur, hv, hg, by rw [hb.block g (Array.getElem?_eq_some_iff.1 hc).1, hc], h3⟩
theorem slat_new (w : World) (cs : List Value) (t : TypeId) : SlAt (w.alloc (.cells cs.toArray t)) (some ⟨w.heap.size, 0, none⟩) cs := by
  intro j y hj
  refine ⟨_, 0, rfl, ?_⟩
  rw [Nat.zero_add, Blk.cell (Blk.new w cs.toArray t) j]
  simpa using hj

abbrev W4 := Int × List UInt8 × Nat × Nat
/-- A word's value. -/
abbrev worV (x : W4) : Value := .agg #[.int .i64 x.1, strV x.2.1, .int .i64 (x.2.2.1 : Int), .int .i64 (x.2.2.2 : Int)]
theorem cellsW_at : ∀ (l : List W4) (k : Nat) (x : W4), l[k]? = some x → (cellsW l)[k * 4]? = some (.int .i64 x.1) ∧ (cellsW l)[k * 4 + 1]? = some (strV x.2.1) ∧ (cellsW l)[k * 4 + 2]? = some (.int .i64 (x.2.2.1 : Int)) ∧ (cellsW l)[k * 4 + 3]? = some (.int .i64 (x.2.2.2 : Int))
  | [], k, x, h => by simp at h
  | y :: t, 0, x, h => by
    simp at h
    subst h
    exact ⟨rfl, rfl, rfl, rfl⟩
  | y :: t, k + 1, x, h => by
    have := cellsW_at t k x (by simpa using h)
    have e : cellsW (y :: t) = .int .i64 y.1 :: strV y.2.1 :: .int .i64 (y.2.2.1 : Int) :: .int .i64 (y.2.2.2 : Int) :: cellsW t := rfl
    rw [e, show (k + 1) * 4 = k * 4 + 1 + 1 + 1 + 1 by omega]
    simpa using this
theorem SlAt.wor {w : World} {A : Option Addr} {l : List W4} (h : SlAt w A (cellsW l)) {k : Nat} {x : W4} (hk : l[k]? = some x) :
    ∃ b o, A = some ⟨b, o, none⟩ ∧ b < w.heap.size ∧ w.cell? ⟨b, o + k * 4, none⟩ = some (.int .i64 x.1) ∧ w.cell? ⟨b, o + k * 4 + 1, none⟩ = some (strV x.2.1) ∧ w.cell? ⟨b, o + k * 4 + 2, none⟩ = some (.int .i64 (x.2.2.1 : Int)) ∧ w.cell? ⟨b, o + k * 4 + 3, none⟩ = some (.int .i64 (x.2.2.2 : Int)) := by
  obtain ⟨h0, h1, h2, h3⟩ := cellsW_at l k x hk
  obtain ⟨b, o, hA, hc⟩ := h _ _ h0
  obtain ⟨b', o', hA', hc'⟩ := h _ _ h1
  rw [hA] at hA'
  cases hA'
  obtain ⟨b', o', hA', hc''⟩ := h _ _ h2
  rw [hA] at hA'
  cases hA'
  obtain ⟨b', o', hA', hc3⟩ := h _ _ h3
  rw [hA] at hA'
  cases hA'
  exact ⟨b, o, hA, World.block_lt_of_cell? w _ hc, hc, by rw [Nat.add_assoc]; exact hc', by rw [Nat.add_assoc]; exact hc'', by rw [Nat.add_assoc]; exact hc3⟩

theorem eq_string (n : Nat) (a : List UInt8) (w : World) : (Op.equalIn (n + 1) 9 (strV a) (strV a)).run Tryz.prog w = .ok true w := by
  rw [run_equalIn_string w n 9 _ _ Tryz.underlying9]
  simp
theorem eq_int1 (n : Nat) (a : Int) (w : World) : (Op.equalIn (n + 1) 3 (.int .i64 a) (.int .i64 a)).run Tryz.prog w = .ok true w := by
  rw [run_equalIn_int w n 3 .i64 .i64 a a Tryz.underlying3]
  simp
theorem wor_part0 (k a b : Int) (t : List UInt8) (w : World) : (part 3 #[.int .i64 k, strV t, .int .i64 a, .int .i64 b] 0).run Tryz.prog w = .ok (.int .i64 k) w := by kernel_rfl
theorem wor_part1 (k a b : Int) (t : List UInt8) (w : World) : (part 9 #[.int .i64 k, strV t, .int .i64 a, .int .i64 b] 1).run Tryz.prog w = .ok (strV t) w := by kernel_rfl
theorem wor_part2 (k a b : Int) (t : List UInt8) (w : World) : (part 3 #[.int .i64 k, strV t, .int .i64 a, .int .i64 b] 2).run Tryz.prog w = .ok (.int .i64 a) w := by kernel_rfl
theorem wor_part3 (k a b : Int) (t : List UInt8) (w : World) : (part 3 #[.int .i64 k, strV t, .int .i64 a, .int .i64 b] 3).run Tryz.prog w = .ok (.int .i64 b) w := by kernel_rfl
theorem wor_names : (Tryz.prog.fieldsOf 83).toList.map (fun f => (f.name, f.type, f.offset)) = [("Kind", 3, 0), ("Text", 9, 1), ("Line", 3, 2), ("Col", 3, 3)] := by kernel_rfl
theorem wor_fields : ∃ f0 f1 f2 f3 : Field, (Tryz.prog.fieldsOf 83).toList = [f0, f1, f2, f3] ∧ f0.name ≠ "_" ∧ f1.name ≠ "_" ∧ f2.name ≠ "_" ∧ f3.name ≠ "_" ∧ f0.type = 3 ∧ f1.type = 9 ∧ f2.type = 3 ∧ f3.type = 3 ∧ f0.offset = 0 ∧ f1.offset = 1 ∧ f2.offset = 2 ∧ f3.offset = 3 := by
  have h := wor_names
  generalize (Tryz.prog.fieldsOf 83).toList = fs at h
  rcases fs with _ | ⟨f0, _ | ⟨f1, _ | ⟨f2, _ | ⟨f3, _ | ⟨f4, fs⟩⟩⟩⟩⟩
  · exact absurd (congrArg List.length h) (by simp)
  · exact absurd (congrArg List.length h) (by simp)
  · exact absurd (congrArg List.length h) (by simp)
  · exact absurd (congrArg List.length h) (by simp)
  · simp only [List.map_cons, List.map_nil, List.cons.injEq, Prod.mk.injEq] at h
    obtain ⟨⟨a0, b0, c0⟩, ⟨a1, b1, c1⟩, ⟨a2, b2, c2⟩, ⟨a3, b3, c3⟩, _⟩ := h
    exact ⟨f0, f1, f2, f3, rfl, by rw [a0]; decide, by rw [a1]; decide, by rw [a2]; decide, by rw [a3]; decide, b0, b1, b2, b3, c0, c1, c2, c3⟩
  · exact absurd (congrArg List.length h) (by simp)
theorem eq_wor (x : W4) (w : World) : (Op.equalIn 10000 83 (worV x) (worV x)).run Tryz.prog w = .ok true w := by
  have h := run_equalIn_agg (P := Tryz.prog) w 9999 83 #[.int .i64 x.1, strV x.2.1, .int .i64 (x.2.2.1 : Int), .int .i64 (x.2.2.2 : Int)] #[.int .i64 x.1, strV x.2.1, .int .i64 (x.2.2.1 : Int), .int .i64 (x.2.2.2 : Int)] (by kernel_rfl) (by kernel_rfl)
  refine h.trans ?_
  obtain ⟨f0, f1, f2, f3, hf, n0, n1, n2, n3, t0, t1, t2, t3, o0, o1, o2, o3⟩ := wor_fields
  rw [hf]
  simp only [Op.eqFields, n0, n1, n2, n3, t0, t1, t2, t3, o0, o1, o2, o3, Sem.run_bind, Sem.run_ite, wor_part0, wor_part1, wor_part2, wor_part3, eq_string 9998, eq_int1 9998, Result.andThen_ok, if_true, ne_eq, not_false_eq_true, Bool.not_true, Bool.false_eq_true, if_false, Sem.run_pure]
theorem wor_guard : Tryz.prog.eqGuardType Tryz.prog.depth 83 = false := by kernel_rfl
end Go.Proofs.YthbplchbolghjaaGreatDoor.Sc
