/- What Plus, the program's and the document's, answers of every twelve rows at most. Condition: they lie in memory. -/
import Derived.Test.YtfnigiiocapceaaGreatVecCol
namespace Go.Proofs.YtfnigiiocapceaaGreat.Qu
open Go.RowKit

def plusF (l : List (Nat → Int)) : Nat → Int × Int := fun k => addL (colL l k)

theorem add_to (A : Option Addr) (n c : Nat) (l : List Int) (s e0 : Int) (w : World) (hn : l.length = n) (hl : n ≤ 12) (hr : RowOf w A l) (h : addL l = (s, e0)) :
    Calls Tryz.prog 111 #[.slice A n c] w fun e w' => e = .returned (.tuple #[.int .i64 s, .int .i64 e0]) ∧ w = w' := by
  have k := add_any A c l w (by unfold maxLen; omega) hr
  rw [h, hn] at k
  exact k
theorem radd_to (A : Option Addr) (n c : Nat) (l : List Int) (s e0 : Int) (w : World) (hn : l.length = n) (hl : n ≤ 12) (hr : RowOf w A l) (h : addL l = (s, e0)) :
    Calls Tryz.prog 94 #[.slice A n c] w fun e w' => e = .returned (.tuple #[.int .i64 s, .int .i64 e0]) ∧ w = w' := by
  have k := radd_any A c l w (by unfold maxLen; omega) hr
  rw [h, hn] at k
  exact k
theorem col_len (l : List (Nat → Int)) (p : Nat) : (colL l p).length = l.length := by unfold colL; simp

theorem col_snoc {l : List (Nat → Int)} {m : Nat} (h : m < l.length) (k : Nat) : colL (l.take (m + 1)) k = colL (l.take m) k ++ [l[m] k] := by
  unfold colL
  rw [List.take_succ_eq_append_getElem h, List.map_append]
  rfl

set_option maxRecDepth 100000 in
set_option maxHeartbeats 400000 in
theorem plus_in (A : Option Addr) (c : Nat) (l : List (Nat → Int)) (k q : Nat) (w : World) (hk : k < 5) (hl : l.length ≤ 12) (hq : w.cell? ⟨q, 0, none⟩ = some (.slice A l.length c)) (hr : RowsOf w A l) :
    Calls Tryz.prog 110 #[.int .i64 (k : Int), .pointer (some ⟨q, 0, none⟩)] w fun e w' => e = .returned (.tuple #[.int .i64 (plusF l k).1, .int .i64 (plusF l k).2]) ∧ Below w.heap.size w w' := by
  have Hr := Lib.hid hr
  clear hr
  rcases ha : plusF l k with ⟨n, e0⟩
  have Ha := Lib.hid ha
  clear ha
  go_enter Tryz.func110, Tryz.ntmps110
  go_wp2_with fail
  refine (column_any A c l k _ hl hk Hr.out).mono ?_
  rintro e w1 ⟨rfl, hb, hrow⟩
  have HB := Lib.hid hb
  have Hrow := Lib.hid hrow
  clear hb hrow hq
  go_wp2_with fail
  refine (add_to _ _ _ (colL l k) n e0 _ (col_len l k) hl Hrow.out Ha.out).mono ?_
  rintro e w2 ⟨rfl, rfl⟩
  go_wp2
  go_ret2
  exact ⟨rfl, HB.out⟩

set_option maxRecDepth 100000 in
set_option maxHeartbeats 400000 in
theorem plus_any (A : Option Addr) (c : Nat) (l : List (Nat → Int)) (w : World) (hl : l.length ≤ 12) (hr : RowsOf w A l) :
    Calls Tryz.prog 88 #[.slice A l.length c] w fun e w' => e = .returned (.tuple #[.agg #[.int .i64 (eachR (plusF l) 0), .int .i64 (eachR (plusF l) 1), .int .i64 (eachR (plusF l) 2), .int .i64 (eachR (plusF l) 3), .int .i64 (eachR (plusF l) 4)], .int .i64 (firstE (plusF l) 5)]) ∧ Below w.heap.size w w' := by
  have Hr := Lib.hid hr
  clear hr
  have hmf := run_func
  go_enter Tryz.func88, Tryz.ntmps88
  go_wp2_with fail
  clear hmf
  have hb0 := below2 w (.cells #[.slice A l.length c] 94) (.cells #[.int .i64 0, .int .i64 0, .int .i64 0, .int .i64 0, .int .i64 0] 33)
  have hc : ((w.alloc (.cells #[.slice A l.length c] 94)).alloc (.cells #[.int .i64 0, .int .i64 0, .int .i64 0, .int .i64 0, .int .i64 0] 33)).cell? ⟨w.heap.size, 0, none⟩ = some (.slice A l.length c) := by simp [go_sem]
  have hz : RowAt ((w.alloc (.cells #[.slice A l.length c] 94)).alloc (.cells #[.int .i64 0, .int .i64 0, .int .i64 0, .int .i64 0, .int .i64 0] 33)) (w.heap.size + 1) (fun _ => 0) := heap_alloc2_new _ _ _
  have hrs : RowsOf ((w.alloc (.cells #[.slice A l.length c] 94)).alloc (.cells #[.int .i64 0, .int .i64 0, .int .i64 0, .int .i64 0, .int .i64 0] 33)) A l := Hr.out.below hb0 (Nat.le_refl _)
  refine (each1_any 110 _ (plusF l) _ Tryz.call110 ?_).mono ?_
  · intro k hk w' hb
    exact plus_in A c l k _ w' hk hl ((hb.cell (p := ⟨w.heap.size, 0, none⟩) (Nat.lt_of_succ_lt hz.lt)).trans hc) (hrs.below hb (Nat.le_refl _))
  rintro e w1 ⟨rfl, hb⟩
  have Hz := Lib.hid (hz.below hb hz.lt)
  have HB := Lib.hid (hb0.trans (hb.mono hb0.size))
  clear hc hz hrs hb0 hb
  go_wp2_with (refine wpList_store_row rfl 33 (.tmp 2) (.tmp 6) rfl (w.heap.size + 1) _ rfl rfl 33 _ Hz.out vec_size (by kernel_rfl) (by kernel_rfl) ?_)
  refine bodyPost_row2 Tryz.results88 (w.heap.size + 1) _ _ _ _ (.int .i64 (firstE (plusF l) 5)) ?d1 ?p1 ?s1 (Hz.out.put (eachR (plusF l))) Tryz.underlying33 rfl vec_size ?_
  case d1 => rfl
  case p1 => rfl
  case s1 => rfl
  exact ⟨rfl, below_setRow HB.out (by omega) _⟩

theorem own_ge {w : World} {base : Nat} {e : TypeId} {v : Value} {n : Nat} {xs : List Value} (h : w.ownsRow base e 1 v n xs) {j : Nat} (hj : v.ownBlock = some j) : base ≤ j := (h.lt j hj).1

theorem own_row {w : World} {base : Nat} {v : Value} {n : Nat} {zs : List Int} (h : w.ownsRow base 3 1 v n (zs.map (Value.int .i64))) (hz : zs.length = n) : ∃ A c, v = .slice A n c ∧ RowOf w A zs := by
  rcases h.2 with ⟨rfl, h0⟩ | ⟨g, cap, cur, rfl, _⟩
  · obtain rfl : n = 0 := by
      have := h.1
      simp_all
    exact ⟨none, 0, rfl, by rw [List.length_eq_zero_iff.1 hz]; exact RowOf.nil _ _⟩
  · refine ⟨_, cap, rfl, fun k x hk => ⟨g, 0, rfl, ?_⟩⟩
    have hlt : k < zs.length := (List.getElem?_eq_some_iff.1 hk).1
    have := h.cells (g := g) rfl k (.int .i64 x) (by rw [List.getElem?_map, hk]; rfl)
    rw [WideShapes.add_plain] at this
    exact this

set_option maxRecDepth 100000 in
set_option maxHeartbeats 2000000 in
theorem rplus_any (A : Option Addr) (c : Nat) (l : List (Nat → Int)) (w : World) (hl : l.length ≤ 12) (hr : RowsOf w A l) :
    Calls Tryz.prog 64 #[.slice A l.length c] w fun e w' => e = .returned (.tuple #[.agg #[.int .i64 (eachR (plusF l) 0), .int .i64 (eachR (plusF l) 1), .int .i64 (eachR (plusF l) 2), .int .i64 (eachR (plusF l) 3), .int .i64 (eachR (plusF l) 4)], .int .i64 (firstE (plusF l) 5)]) ∧ Below w.heap.size w w' := by
  have Hr := Lib.hid hr
  clear hr
  obtain ⟨i0, hi0, hz0, hz1, hz2⟩ := info_parts int_info
  go_enter Tryz.func64, Tryz.ntmps64
  go_wp2
  go_loopw [5] (fun i wr => ∃ k : Nat, k ≤ 5 ∧ i = .int .i64 k ∧ (∀ j, j < k → (plusF l j).2 = 0) ∧ RowAt wr w.heap.size (fun _ => 0) ∧ RowAt wr (w.heap.size + 1) (part (plusF l) (fun _ => 0) k) ∧ Below w.heap.size w wr) (fun i _ => 5 - (intOf i).toNat)
  case atStart => exact ⟨0, by omega, rfl, by omega, heap_alloc2_old _ _ _, by rw [part_zero]; exact heap_alloc2_new _ _ _, below2 _ _ _⟩
  case round =>
    obtain ⟨k, hk, rfl, hall, hx, hy, hb⟩ := hrel
    have Hall := Lib.hid hall
    have Hx := Lib.hid hx
    have Hy := Lib.hid hy
    have HB := Lib.hid hb
    clear hall hx hy hb
    by_cases hlt : k < 5
    · have hd5 : decide ((k : Int) < 5) = true := by simp; omega
      go_wp2
      obtain ⟨wo, hwo⟩ : ∃ wo : World, wo = wr := ⟨_, rfl⟩
      have Hwo := Lib.hid hwo
      have HX : Hid (RowAt wo w.heap.size (fun _ => 0)) := by rw [hwo]; exact Hx.out
      have HY : Hid (RowAt wo (w.heap.size + 1) (part (plusF l) (fun _ => 0) k)) := by rw [hwo]; exact Hy.out
      have HBo : Hid (Below w.heap.size w wo) := by rw [hwo]; exact HB.out
      rw [← hwo]
      clear hwo Hwo Hx Hy HB
      go_loopw [6, 7] (fun row i w1 => ∃ m : Nat, m ≤ l.length ∧ i = .int .i64 m ∧ w1.ownsRow wo.heap.size 3 1 row m ((colL (l.take m) k).map (Value.int .i64)) ∧ Below wo.heap.size wo w1) (fun _ i _ => l.length - (intOf i).toNat)
      case atStart => exact ⟨0, by omega, rfl, ⟨by simp [colL], .inl ⟨rfl, rfl⟩⟩, Below.refl _ _⟩
      case round =>
        obtain ⟨m, hm, rfl, hown, hbw⟩ := hrel
        have Hown := Lib.hid hown
        have Hbw := Lib.hid hbw
        clear hown hbw
        have hwz := HBo.out.size
        have hwz2 := Hbw.out.size
        by_cases hlm : m < l.length
        · obtain ⟨b, o, rfl, hbl, hc⟩ := Hr.out m l[m] (List.getElem?_eq_getElem hlm)
          have hc1 : wr.cell? ⟨b, o + m * 5 + k, none⟩ = some (.int .i64 (l[m] k)) := ((Hbw.out.cell (p := ⟨b, o + m * 5 + k, none⟩) (Nat.lt_of_lt_of_le hbl hwz)).trans (HBo.out.cell (p := ⟨b, o + m * 5 + k, none⟩) hbl)).trans (hc k hlt)
          have Hsn := Lib.hid (col_snoc hlm k)
          clear hc
          go_wp2_with (at_builtin; refine wpList_append_own _ rfl _ _ 27 rfl wo.heap.size 3 i0 (.int .i64 0) 1 8 Tryz.underlying27 hi0 hz0 hz1 hz2 rfl (by decide) _ _ _ rfl (Hown.out.alloc _) ⟨wr.heap.size, 0, none⟩ 1 1 [.int .i64 (l[m] k)] rfl rfl ?c1 ?c2 ?c3 ?c4 ?c5 ?_)
          case c1 =>
            intro j u hj
            match j, hj with
            | 0, hj => simp at hj; subst hj; simp [Addr.add]
          case c2 => first | rfl | (intro u hu; simp at hu; subst hu; rfl)
          case c3 => unfold maxLen; omega
          case c4 => omega
          case c5 => simp; omega
          intro v' w2 hown' hgrow' _
          have Hown2 := Lib.hid hown'
          have Hbw2 := Lib.hid ((Hbw.out.alloc Hbw.out.size (.cells #[.int .i64 (l[m] k)] 3)).grown hgrow' (by simp; omega) (fun j hj => own_ge Hown.out hj))
          clear hown' hgrow'
          go_wp2
          go_roundw
          case rel => exact ⟨m + 1, by omega, by go_num, by rw [Hsn.out, List.map_append]; exact Hown2.out, Hbw2.out⟩
          case measure => simp [intOf]; omega
        · obtain rfl : m = l.length := by omega
          have Hall2 := Lib.hid (show l.take l.length = l from List.take_length)
          have hown2 := Hown.out
          rw [Hall2.out] at hown2
          obtain ⟨A2, c2, rfl, hrow⟩ := own_row hown2 (col_len l k)
          have Hrow := Lib.hid hrow
          clear hown2 hrow
          have Hx1 := Lib.hid (HX.out.below Hbw.out HX.out.lt)
          have Hy1 := Lib.hid (HY.out.below Hbw.out HY.out.lt)
          have HB1 := Lib.hid (HBo.out.trans (Hbw.out.mono HBo.out.size))
          rcases ha : plusF l k with ⟨n, e0⟩
          have Ha := Lib.hid ha
          clear ha
          go_wp2_with fail
          refine (radd_to _ _ _ (colL l k) n e0 _ (col_len l k) hl Hrow.out Ha.out).mono ?_
          rintro e w2 ⟨rfl, rfl⟩
          by_cases he : e0 = 0
          · have heb : (e0 != 0) = false := by simp [he]
            have He := Lib.hid he
            clear he
            have cy := Hy1.out.cell hlt
            have fy := Hy1.out.free k
            go_wp2
            go_roundw
            case rel => exact ⟨k + 1, by omega, by go_num, all_snoc Hall.out (by rw [Ha.out]; exact He.out), Hx1.out.other _ _ (by simp), by rw [part_succ (n := n) (by rw [Ha.out])]; exact Hy1.out.set hlt n, HB1.out.setCell (by simp) _⟩
            case measure => simp [intOf]; omega
          · have heb : (e0 != 0) = true := by simpa using he
            have He := Lib.hid he
            clear he
            go_wp2_with (refine wpList_store_row rfl 33 (.tmp 2) (.tmp 36) rfl w.heap.size #[.int .i64 0, .int .i64 0, .int .i64 0, .int .i64 0, .int .i64 0] rfl rfl 33 _ Hx1.out vec_size (by kernel_rfl) (by kernel_rfl) ?_)
            have h1 : (plusF l k).2 = e0 := by rw [Ha.out]
            have h2 : firstE (plusF l) 5 = e0 := by rw [firstE_at hlt Hall.out (by rw [h1]; exact He.out), h1]
            refine bodyPost_row2 Tryz.results64 w.heap.size _ _ _ _ (.int .i64 e0) ?d1 ?p1 ?s1 (Hx1.out.put (fun _ => 0)) Tryz.underlying33 rfl vec_size ?_
            case d1 => rfl
            case p1 => rfl
            case s1 => rfl
            exact ⟨endRow (x := fun _ => 0) (fun j _ => by unfold eachR; rw [if_pos (by rw [h2]; exact He.out)]) h2.symm, below_setRow HB1.out (Nat.le_refl _) _⟩
    · obtain rfl : k = 5 := by omega
      have H2 := Lib.hid (firstE_none Hall.out)
      go_wp2_with (first | refine wpList_load_row rfl 33 (.tmp 4) rfl (w.heap.size + 1) rfl 33 _ (0, 0) _ Hy.out Tryz.underlying33 rfl vec_size ?_ | refine wpList_store_row rfl 33 (.tmp 2) (.tmp 41) rfl w.heap.size _ rfl rfl 33 _ Hx.out vec_size (by kernel_rfl) (by kernel_rfl) ?_)
      refine bodyPost_row2 Tryz.results64 w.heap.size _ _ _ _ (.int .i64 0) ?d2 ?p2 ?s2 (Hx.out.put (part (plusF l) (fun _ => 0) 5)) Tryz.underlying33 rfl vec_size ?_
      case d2 => rfl
      case p2 => rfl
      case s2 => rfl
      exact ⟨endRow (x := part (plusF l) (fun _ => 0) 5) (fun j hj => by unfold eachR part; rw [if_pos hj, if_neg (by rw [H2.out]; simp)]) H2.out.symm, below_setRow HB.out (Nat.le_refl _) _⟩

end Go.Proofs.YtfnigiiocapceaaGreat.Qu
