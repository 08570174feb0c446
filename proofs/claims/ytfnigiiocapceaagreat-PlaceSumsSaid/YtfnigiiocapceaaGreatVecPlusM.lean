/- What Plus answers of a thousand rows at most: VecPlus with a greater bound. Condition: they lie in memory. -/
import Derived.Test.YtfnigiiocapceaaGreatVecPlus
namespace Go.Proofs.YtfnigiiocapceaaGreat.Qu
open Go.RowKit

/-- A slice of n noughts is made. -/
theorem run_numsM (w : World) (n : Nat) (hn : n ≤ 1000) : (Instr.makeSlice 27 (.int .i64 (n : Int)) (.int .i64 (n : Int))).run Tryz.prog w = .ok (.slice (some ⟨w.heap.size, 0, none⟩) n n) (w.alloc (.cells (madeCells #[.int .i64 0] n) 3)) := by
  cases hi : Tryz.prog.info? 3 with
  | none => have h := int_info; rw [hi] at h; cases h
  | some i =>
    have h := int_info
    rw [hi] at h
    simp only [Option.map_some, Option.some.injEq, Prod.mk.injEq] at h
    obtain ⟨h0, h1, h2⟩ := h
    have k := run_make (P := Tryz.prog) w 27 3 i (.int .i64 0) Tryz.underlying27 hi h0 .i64 .i64 n n (by omega) (by omega) (by rw [h2]; omega) (by omega)
    simpa [h1, Value.cells] using k

set_option maxRecDepth 100000 in
set_option maxHeartbeats 1000000 in
theorem column_anyM (A : Option Addr) (c : Nat) (l : List (Nat → Int)) (p : Nat) (w : World) (hl : l.length ≤ 1000) (hp : p < 5) (hr : RowsOf w A l) :
    Calls Tryz.prog 112 #[.slice A l.length c, .int .i64 (p : Int)] w fun e w' => e = .returned (.slice (some ⟨w.heap.size, 0, none⟩) l.length l.length) ∧ Below w.heap.size w w' ∧ RowOf w' (some ⟨w.heap.size, 0, none⟩) (colL l p) := by
  have Hr := Lib.hid hr
  clear hr
  have hmk := run_numsM w l.length hl
  go_enter Tryz.func112, Tryz.ntmps112
  go_wp2
  clear hmk
  go_loopw [13] (fun i wr => ∃ k : Nat, k ≤ l.length ∧ i = .int .i64 k ∧ NumsAt wr w.heap.size l.length (fun j => if j < k then (l.getD j (fun _ => 0)) p else 0) ∧ Below w.heap.size w wr) (fun i _ => l.length - (intOf i).toNat)
  case atStart => exact ⟨0, by omega, rfl, nums_new w l.length, (Below.refl _ _).alloc (Nat.le_refl _) _⟩
  case round =>
    obtain ⟨k, hk, rfl, hn, hb⟩ := hrel
    have Hn := Lib.hid hn
    have HB := Lib.hid hb
    clear hn hb
    by_cases hlt : k < l.length
    · obtain ⟨b, o, rfl, hbl, hc⟩ := Hr.out k l[k] (List.getElem?_eq_getElem hlt)
      have hc' : ∀ j, j < 5 → wr.cell? ⟨b, o + k * 5 + j, none⟩ = some (.int .i64 (l[k] j)) := fun j hj => (HB.out.cell (p := ⟨b, o + k * 5 + j, none⟩) hbl).trans (hc j hj)
      have c0 := hc' 0 (by omega)
      have c1 := hc' 1 (by omega)
      have c2 := hc' 2 (by omega)
      have c3 := hc' 3 (by omega)
      have c4 := hc' 4 (by omega)
      clear hc hc'
      simp only [Nat.add_zero] at c0
      have hv := cell_new l[k] p hp wr 33
      have hcn := (Hn.out.alloc (.cells #[.int .i64 (l[k] 0), .int .i64 (l[k] 1), .int .i64 (l[k] 2), .int .i64 (l[k] 3), .int .i64 (l[k] 4)] 33)).cell hlt
      have hfn := (Hn.out.alloc (.cells #[.int .i64 (l[k] 0), .int .i64 (l[k] 1), .int .i64 (l[k] 2), .int .i64 (l[k] 3), .int .i64 (l[k] 4)] 33)).free k
      go_wp2
      go_roundw
      case rel =>
        refine ⟨k + 1, by omega, by go_num, ?_, (HB.out.alloc HB.out.size _).setCell (by simp) _⟩
        have h := (Hn.out.alloc (.cells #[.int .i64 (l[k] 0), .int .i64 (l[k] 1), .int .i64 (l[k] 2), .int .i64 (l[k] 3), .int .i64 (l[k] 4)] 33)).set k (l[k] p)
        have e : (fun j => if j < k + 1 then (l.getD j (fun _ => 0)) p else 0) = upd (fun j => if j < k then (l.getD j (fun _ => 0)) p else 0) k (l[k] p) := by
          funext j
          unfold upd
          by_cases hj : j = k
          · subst hj
            simp [List.getD_eq_getElem?_getD, List.getElem?_eq_getElem hlt]
          · by_cases hj2 : j < k
            · simp [hj, hj2, show j < k + 1 by omega]
            · simp [hj, hj2, show ¬ j < k + 1 by omega]
        rw [e]
        exact h
      case measure => simp [intOf]; omega
    · go_wp2
      go_ret
      refine ⟨rfl, HB.out, fun j x hj => ?_⟩
      unfold colL at hj
      rw [List.getElem?_map] at hj
      cases hq : l[j]? with
      | none => rw [hq] at hj; cases hj
      | some y =>
        rw [hq] at hj
        simp only [Option.map_some, Option.some.injEq] at hj
        subst hj
        have hjl : j < l.length := (List.getElem?_eq_some_iff.1 hq).1
        refine ⟨w.heap.size, 0, rfl, ?_⟩
        have h := Hn.out.cell hjl
        simp only [show j < k by omega, if_true, List.getD_eq_getElem?_getD, hq, Option.getD_some] at h
        rw [Nat.zero_add]
        exact h


theorem add_toM (A : Option Addr) (n c : Nat) (l : List Int) (s e0 : Int) (w : World) (hn : l.length = n) (hl : n ≤ 1000) (hr : RowOf w A l) (h : addL l = (s, e0)) :
    Calls Tryz.prog 111 #[.slice A n c] w fun e w' => e = .returned (.tuple #[.int .i64 s, .int .i64 e0]) ∧ w = w' := by
  have k := add_any A c l w (by unfold maxLen; omega) hr
  rw [h, hn] at k
  exact k

set_option maxRecDepth 100000 in
set_option maxHeartbeats 400000 in
theorem plus_inM (A : Option Addr) (c : Nat) (l : List (Nat → Int)) (k q : Nat) (w : World) (hk : k < 5) (hl : l.length ≤ 1000) (hq : w.cell? ⟨q, 0, none⟩ = some (.slice A l.length c)) (hr : RowsOf w A l) :
    Calls Tryz.prog 110 #[.int .i64 (k : Int), .pointer (some ⟨q, 0, none⟩)] w fun e w' => e = .returned (.tuple #[.int .i64 (plusF l k).1, .int .i64 (plusF l k).2]) ∧ Below w.heap.size w w' := by
  have Hr := Lib.hid hr
  clear hr
  rcases ha : plusF l k with ⟨n, e0⟩
  have Ha := Lib.hid ha
  clear ha
  go_enter Tryz.func110, Tryz.ntmps110
  go_wp2_with fail
  refine (column_anyM A c l k _ hl hk Hr.out).mono ?_
  rintro e w1 ⟨rfl, hb, hrow⟩
  have HB := Lib.hid hb
  have Hrow := Lib.hid hrow
  clear hb hrow hq
  go_wp2_with fail
  refine (add_toM _ _ _ (colL l k) n e0 _ (col_len l k) hl Hrow.out Ha.out).mono ?_
  rintro e w2 ⟨rfl, rfl⟩
  go_wp2
  go_ret2
  exact ⟨rfl, HB.out⟩


set_option maxRecDepth 100000 in
set_option maxHeartbeats 400000 in
theorem plus_anyM (A : Option Addr) (c : Nat) (l : List (Nat → Int)) (w : World) (hl : l.length ≤ 1000) (hr : RowsOf w A l) :
    Calls Tryz.prog 88 #[.slice A l.length c] w fun e w' => e = .returned (.tuple #[.agg #[.int .i64 (eachR (plusF l) 0), .int .i64 (eachR (plusF l) 1), .int .i64 (eachR (plusF l) 2), .int .i64 (eachR (plusF l) 3), .int .i64 (eachR (plusF l) 4)], .int .i64 (firstE (plusF l) 5)]) ∧ Below w.heap.size w w' := by
  have Hr := Lib.hid hr
  clear hr
  have hmf := run_func
  go_enter Tryz.func88, Tryz.ntmps88
  go_wp2_with fail
  clear hmf
  have hb0 := below2 w (.cells #[.slice A l.length c] 94) (.cells #[.int .i64 0, .int .i64 0, .int .i64 0, .int .i64 0, .int .i64 0] 33)
  have hc : ((w.alloc (.cells #[.slice A l.length c] 94)).alloc (.cells #[.int .i64 0, .int .i64 0, .int .i64 0, .int .i64 0, .int .i64 0] 33)).cell? ⟨w.heap.size, 0, none⟩ = some (.slice A l.length c) := by simp [go_sem]
  have hz : RowAt ((w.alloc (.cells #[.slice A l.length c] 94)).alloc (.cells #[.int .i64 0, .int .i64 0, .int .i64 0, .int .i64 0, .int .i64 0] 33)) (w.heap.size + 1) (fun _ => 0) := heap_alloc2_new _ _ _
  have hrs : RowsOf ((w.alloc (.cells #[.slice A l.length c] 94)).alloc (.cells #[.int .i64 0, .int .i64 0, .int .i64 0, .int .i64 0, .int .i64 0] 33)) A l := Hr.out.below hb0 (Nat.le_refl _)
  refine (each1_any 110 _ (plusF l) _ Tryz.call110 ?_).mono ?_
  · intro k hk w' hb
    exact plus_inM A c l k _ w' hk hl ((hb.cell (p := ⟨w.heap.size, 0, none⟩) (Nat.lt_of_succ_lt hz.lt)).trans hc) (hrs.below hb (Nat.le_refl _))
  rintro e w1 ⟨rfl, hb⟩
  have Hz := Lib.hid (hz.below hb hz.lt)
  have HB := Lib.hid (hb0.trans (hb.mono hb0.size))
  clear hc hz hrs hb0 hb
  go_wp2_with (refine wpList_store_row rfl 33 (.tmp 2) (.tmp 6) rfl (w.heap.size + 1) _ rfl rfl 33 _ Hz.out vec_size (by kernel_rfl) (by kernel_rfl) ?_)
  refine bodyPost_row2 Tryz.results88 (w.heap.size + 1) _ _ _ _ (.int .i64 (firstE (plusF l) 5)) ?d1 ?p1 ?s1 (Hz.out.put (eachR (plusF l))) Tryz.underlying33 rfl vec_size ?_
  case d1 => rfl
  case p1 => rfl
  case s1 => rfl
  exact ⟨rfl, below_setRow HB.out (by omega) _⟩


end Go.Proofs.YtfnigiiocapceaaGreat.Qu
