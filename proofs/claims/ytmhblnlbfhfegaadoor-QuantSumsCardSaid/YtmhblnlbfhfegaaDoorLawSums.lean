/- Add, Sub and Mul are sums, differences and products, or an error, and a part's share is no less than that of a lesser one: the walk. Condition: the library's table of powers of ten lies as it was laid. -/
import Derived.Test.YtmhblnlbfhfegaaDoorLawReckons
import Derived.Test.YtmhblnlbfhfegaaDoorBring
import Derived.OwnWalk
import Derived.Maps.AppendAt
namespace Go.Proofs.YtmhblnlbfhfegaaDoor
open Go.RowKit

theorem info_int : (Tryd.prog.info? 3).map (fun i => (i.zero, i.size, i.bytes)) = some (some (.int .i64 0), 1, 8) := by kernel_rfl

/-- The numbers that the law adds. -/
def brought (l : List Int) (k : Nat) : List Int := (l.take k).map (· % 137438953472)

theorem brought_snoc {l : List Int} {k : Nat} {x : Int} (h : l[k]? = some x) : brought l (k + 1) = brought l k ++ [x % 137438953472] := by
  unfold brought
  rw [List.take_add_one, h]
  simp
theorem brought_nonneg (l : List Int) (k : Nat) : ∀ y ∈ brought l k, 0 ≤ y := by
  intro y hy
  unfold brought at hy
  rw [List.mem_map] at hy
  obtain ⟨z, _, rfl⟩ := hy
  omega
theorem brought_top (l : List Int) (k : Nat) : ∀ y ∈ brought l k, y ≤ top := by
  intro y hy
  unfold brought at hy
  rw [List.mem_map] at hy
  obtain ⟨z, _, rfl⟩ := hy
  unfold top
  omega
theorem brought_sum (l : List Int) (k : Nat) : (brought l k).sum ≤ 137438953472 * k := by
  induction k with
  | zero => simp [brought]
  | succ k ih =>
    by_cases hk : k < l.length
    · rw [brought_snoc (List.getElem?_eq_getElem hk)]
      simp only [List.sum_append, List.sum_cons, List.sum_nil]
      omega
    · have e : brought l (k + 1) = brought l k := by
        unfold brought
        rw [List.take_of_length_le (by omega), List.take_of_length_le (by omega)]
      rw [e]
      omega
theorem brought_len (l : List Int) (k : Nat) (h : k ≤ l.length) : (brought l k).length = k := by unfold brought; simp; omega

theorem add_brought (l : List Int) (k : Nat) : addL (brought l k) = if top < (brought l k).sum then (0, 10) else ((brought l k).sum, 0) := by
  have hc : checkL (brought l k) = 0 := by
    rcases chk_cases (brought l k) with ⟨⟨x, hx, h⟩, _⟩ | ⟨_, ⟨x, hx, h⟩, _⟩ | ⟨_, _, h⟩
    · have := brought_nonneg l k x hx; omega
    · have := brought_top l k x hx; omega
    · exact h
  unfold addL
  rw [hc, if_neg (by simp)]

theorem own_ge {w : World} {base : Nat} {e : TypeId} {v : Value} {n : Nat} {xs : List Value} (h : w.ownsRow base e 1 v n xs) {j : Nat} (hj : v.ownBlock = some j) : base ≤ j := (h.lt j hj).1

theorem own_row {w : World} {base : Nat} {v : Value} {n : Nat} {zs : List Int} (h : w.ownsRow base 3 1 v n (zs.map (Value.int .i64))) (hz : zs.length = n) : ∃ A c, v = .slice A n c ∧ RowOf w A zs := by
  rcases h.2 with ⟨rfl, h0⟩ | ⟨g, cap, cur, rfl, _⟩
  · obtain rfl : n = 0 := by
      have := h.1
      simp_all
    exact ⟨none, 0, rfl, by rw [List.length_eq_zero_iff.1 hz]; exact RowOf.nil _ _⟩
  · refine ⟨_, cap, rfl, fun k x hk => ⟨g, 0, rfl, ?_⟩⟩
    have hlt : k < zs.length := (List.getElem?_eq_some_iff.1 hk).1
    have := h.cells (g := g) rfl k (.int .i64 x) (by rw [List.getElem?_map, hk]; rfl)
    rw [WideShapes.add_plain] at this
    exact this

theorem sums_share (a b : Int) (ha0 : 0 ≤ a) (ha1 : a ≤ 1099511627777) (hb0 : 0 ≤ b) (hb1 : b ≤ 1099511627777) : shareL (a / 2) (b / 2 + 1) = (a / 2 * 1000 / (b / 2 + 1), 0) := by
  unfold shareL top
  rw [if_neg (by omega), if_neg (by omega), if_neg (by omega)]
theorem sums_share2 (a b : Int) (ha0 : 0 ≤ a) (ha1 : a ≤ 1099511627777) (hb0 : 0 ≤ b) (hb1 : b ≤ 1099511627777) : shareL (a / 2 + 1) (b / 2 + 1) = ((a / 2 + 1) * 1000 / (b / 2 + 1), 0) := by
  unfold shareL top
  rw [if_neg (by omega), if_neg (by omega), if_neg (by omega)]
theorem sums_le (a b : Int) (hb0 : 0 ≤ b) : a / 2 * 1000 / (b / 2 + 1) ≤ (a / 2 + 1) * 1000 / (b / 2 + 1) := Int.ediv_le_ediv (by omega) (by omega)
theorem sums_mul (a b : Int) (ha0 : 0 ≤ a) (ha2 : a ≤ 1099511627776) (hp : a * (b % 4096) ≤ 1099511627776) : mulL a (b % 4096) = (a * (b % 4096), 0) := by
  unfold mulL top
  rw [if_neg (by omega), if_neg (by omega)]
theorem sums_mul2 (a b : Int) (ha0 : 0 ≤ a) (ha2 : a ≤ 1099511627776) (hp : 1099511627776 < a * (b % 4096)) : mulL a (b % 4096) = (0, 10) := by
  unfold mulL top
  rw [if_neg (by omega), if_pos (by omega)]
theorem sums_mul3 (a b : Int) (ha2 : 1099511627776 < a) : mulL a (b % 4096) = (0, 10) := by
  unfold mulL top
  rw [if_neg (by omega), if_pos (by omega)]

set_option maxRecDepth 100000 in
set_option maxHeartbeats 4000000 in
theorem sums_any (A : Option Addr) (c : Nat) (l : List Int) (x y : Int) (w : World) (hl : l.length ≤ maxLen) (_hc : l.length ≤ c) (hr : RowOf w A l) (ht : Tab w)
    (_hx : -9223372036854775808 ≤ x) (_hx' : x ≤ 9223372036854775807) (_hy : -9223372036854775808 ≤ y) (_hy' : y ≤ 9223372036854775807) :
    Calls Tryd.prog 9 #[.slice A l.length c, .int .i64 x, .int .i64 y] w fun e w' => e = .returned (.bool true) ∧ Below w.heap.size w w' := by
  have HT := Lib.hid ht
  have Hr := Lib.hid hr
  clear ht hr
  unfold maxLen at hl
  obtain ⟨i0, hi0, hz0, hz1, hz2⟩ := info_parts info_int
  go_enter Tryd.func9, Tryd.ntmps9
  go_wp2_with fail
  refine (bring_any x _ _ (by omega) (by omega)).mono ?_
  rintro e w' ⟨rfl, rfl⟩
  go_wp2_with fail
  refine (bring_any y _ _ (by omega) (by omega)).mono ?_
  rintro e w' ⟨rfl, rfl⟩
  have ha0 : 0 ≤ x % 1099511627778 := by omega
  have ha1 : x % 1099511627778 ≤ 1099511627777 := by omega
  have hb0 : 0 ≤ y % 1099511627778 := by omega
  have hb1 : y % 1099511627778 ≤ 1099511627777 := by omega
  generalize x % 1099511627778 = a at *
  generalize y % 1099511627778 = b at *
  go_wp2
  go_loopw [7, 8, 9, 10] (fun n ok row i wr => ∃ k : Nat, k ≤ l.length ∧ k ≤ 20 ∧ i = .int .i64 k ∧ n = .int .i64 (brought l k).sum ∧ ok = .bool (decide ((brought l k).sum ≤ 1099511627776)) ∧ wr.ownsRow w.heap.size 3 1 row k ((brought l k).map (Value.int .i64)) ∧ Below w.heap.size w wr) (fun _ _ _ i _ => 20 - (intOf i).toNat)
  case atStart => exact ⟨0, by omega, by omega, rfl, rfl, rfl, ⟨by simp [brought], .inl ⟨rfl, rfl⟩⟩, Below.refl _ _⟩
  case round =>
    obtain ⟨k, hk, hk20, rfl, rfl, rfl, hown, hbw⟩ := hrel
    have Hown := Lib.hid hown
    have Hbw := Lib.hid hbw
    clear hown hbw
    have hs0 : 0 ≤ (brought l k).sum := sum_nonneg (brought_nonneg l k)
    have hs1 : (brought l k).sum ≤ 2748779069440 := by have := brought_sum l k; omega
    by_cases hlt : k < l.length ∧ k < 20
    · obtain ⟨hlt, hlt20⟩ := hlt
      have hsz := Hbw.out.size
      obtain ⟨g, o, rfl, hc0⟩ := Hr.out k l[k] (List.getElem?_eq_getElem hlt)
      have hg : g < w.heap.size := by
        rcases Nat.lt_or_ge g w.heap.size with h | h
        · exact h
        · simp [World.cell?, Array.getElem?_eq_none h] at hc0
      have hc1 : wr.cell? ⟨g, o + k, none⟩ = some (.int .i64 l[k]) := (Hbw.out.cell (p := ⟨g, o + k, none⟩) hg).trans hc0
      have Hsn := Lib.hid (brought_snoc (List.getElem?_eq_getElem hlt))
      have Hs : Hid ((brought l (k + 1)).sum = (brought l k).sum + l[k] % 137438953472) := by
        show (brought l (k + 1)).sum = _
        rw [Hsn.out]
        simp
      have hx0 : 0 ≤ l[k] % 137438953472 := by omega
      have hx1 : l[k] % 137438953472 < 137438953472 := by omega
      clear hc0
      by_cases hok : (brought l k).sum ≤ 1099511627776
      · by_cases hok2 : (brought l k).sum + l[k] % 137438953472 ≤ 1099511627776
        · go_wp2_with (first
            | (go_at_call 28; refine (bring_any _ _ _ (by omega) (by omega)).mono ?_; rintro e w1 ⟨rfl, rfl⟩)
            | (at_builtin; refine wpList_append_own _ rfl _ _ 32 rfl w.heap.size 3 i0 (.int .i64 0) 1 8 Tryd.underlying32 hi0 hz0 hz1 hz2 rfl (by decide) _ _ _ rfl (Hown.out.alloc _) ⟨wr.heap.size, 0, none⟩ 1 1 [.int .i64 (l[k] % 137438953472)] rfl rfl ?c1 ?c2 ?c3 ?c4 ?c5 ?_))
          case c1 =>
            intro j u hj
            match j, hj with
            | 0, hj => simp at hj; subst hj; simp [Addr.add]
          case c2 => first | rfl | (intro u hu; simp at hu; subst hu; rfl)
          case c3 => unfold maxLen; omega
          case c4 => omega
          case c5 => simp; omega
          intro v' w2 hown' hgrow' _
          have Hown2 := Lib.hid hown'
          have Hbw2 := Lib.hid ((Hbw.out.alloc Hbw.out.size (.cells #[.int .i64 (l[k] % 137438953472)] 3)).grown hgrow' (by simp; omega) (fun j hj => own_ge Hown.out hj))
          clear hown' hgrow'
          go_wp2
          go_roundw
          case rel => exact ⟨k + 1, by omega, by omega, by go_num, by rw [Hs.out], (by first | (rw [Hs.out]; done) | (rw [Hs.out]; simp; done) | (rw [Hs.out]; simp; omega)), by rw [Hsn.out, List.map_append]; exact Hown2.out, Hbw2.out⟩
          case measure => simp [intOf]; omega
        · go_wp2_with (first
            | (go_at_call 28; refine (bring_any _ _ _ (by omega) (by omega)).mono ?_; rintro e w1 ⟨rfl, rfl⟩)
            | (at_builtin; refine wpList_append_own _ rfl _ _ 32 rfl w.heap.size 3 i0 (.int .i64 0) 1 8 Tryd.underlying32 hi0 hz0 hz1 hz2 rfl (by decide) _ _ _ rfl (Hown.out.alloc _) ⟨wr.heap.size, 0, none⟩ 1 1 [.int .i64 (l[k] % 137438953472)] rfl rfl ?c1 ?c2 ?c3 ?c4 ?c5 ?_))
          case c1 =>
            intro j u hj
            match j, hj with
            | 0, hj => simp at hj; subst hj; simp [Addr.add]
          case c2 => first | rfl | (intro u hu; simp at hu; subst hu; rfl)
          case c3 => unfold maxLen; omega
          case c4 => omega
          case c5 => simp; omega
          intro v' w2 hown' hgrow' _
          have Hown2 := Lib.hid hown'
          have Hbw2 := Lib.hid ((Hbw.out.alloc Hbw.out.size (.cells #[.int .i64 (l[k] % 137438953472)] 3)).grown hgrow' (by simp; omega) (fun j hj => own_ge Hown.out hj))
          clear hown' hgrow'
          go_wp2
          go_roundw
          case rel => exact ⟨k + 1, by omega, by omega, by go_num, by rw [Hs.out], (by first | (rw [Hs.out]; done) | (rw [Hs.out]; simp; done) | (rw [Hs.out]; simp; omega)), by rw [Hsn.out, List.map_append]; exact Hown2.out, Hbw2.out⟩
          case measure => simp [intOf]; omega
      · go_wp2_with (first
          | (go_at_call 28; refine (bring_any _ _ _ (by omega) (by omega)).mono ?_; rintro e w1 ⟨rfl, rfl⟩)
          | (at_builtin; refine wpList_append_own _ rfl _ _ 32 rfl w.heap.size 3 i0 (.int .i64 0) 1 8 Tryd.underlying32 hi0 hz0 hz1 hz2 rfl (by decide) _ _ _ rfl (Hown.out.alloc _) ⟨wr.heap.size, 0, none⟩ 1 1 [.int .i64 (l[k] % 137438953472)] rfl rfl ?c1 ?c2 ?c3 ?c4 ?c5 ?_))
        case c1 =>
          intro j u hj
          match j, hj with
          | 0, hj => simp at hj; subst hj; simp [Addr.add]
        case c2 => first | rfl | (intro u hu; simp at hu; subst hu; rfl)
        case c3 => unfold maxLen; omega
        case c4 => omega
        case c5 => simp; omega
        intro v' w2 hown' hgrow' _
        have Hown2 := Lib.hid hown'
        have Hbw2 := Lib.hid ((Hbw.out.alloc Hbw.out.size (.cells #[.int .i64 (l[k] % 137438953472)] 3)).grown hgrow' (by simp; omega) (fun j hj => own_ge Hown.out hj))
        clear hown' hgrow'
        go_wp2
        go_roundw
        case rel => exact ⟨k + 1, by omega, by omega, by go_num, by rw [Hs.out], (by first | (rw [Hs.out]; done) | (rw [Hs.out]; simp; done) | (rw [Hs.out]; simp; omega)), by rw [Hsn.out, List.map_append]; exact Hown2.out, Hbw2.out⟩
        case measure => simp [intOf]; omega
    · have hlen := brought_len l k hk
      obtain ⟨R, rc, rfl, hrow⟩ := own_row Hown.out hlen
      have ka := add_any R rc (brought l k) wr (by unfold maxLen; omega) hrow
      rw [hlen] at ka
      have Ka := Lib.hid ka
      have Hadd := Lib.hid (add_brought l k)
      clear ka hrow hlen
      have hM0 : 0 ≤ max a b := by omega
      have hm0 : 0 ≤ min a b := by omega
      have hmM : min a b ≤ max a b := by omega
      have hM1 : max a b ≤ 1099511627777 := by omega
      have hxy := sums_le a b hb0
      have hp0 : 0 ≤ a * (b % 4096) := Int.mul_nonneg ha0 (by omega)
      have hp1 : a * (b % 4096) ≤ 1099511627777 * 4096 := Int.mul_le_mul ha1 (by omega) (by omega) (by omega)
      by_cases h1 : k < l.length
      · obtain rfl : k = 20 := by omega
        by_cases hok : (brought l 20).sum ≤ 1099511627776
        · have Hnot : Hid ((brought l 20).sum ≤ top) := hok
          go_wp2_with fail
          have ka := Ka.out
          rw [Hadd.out, if_neg (Int.not_lt.2 Hnot.out)] at ka
          refine ka.mono ?_
          rintro e w1 ⟨rfl, rfl⟩
          clear ka
          by_cases hM : max a b ≤ 1099511627776
          · have Hsub : Hid (subL (max a b) (min a b) = (max a b - min a b, 0)) := by
              show subL (max a b) (min a b) = _
              unfold subL top
              rw [if_neg (by omega), if_neg (by omega)]
            have ha2 : a ≤ 1099511627776 := by omega
            by_cases hp : a * (b % 4096) ≤ 1099511627776
            · have Hmul := Lib.hid (sums_mul a b ha0 ha2 hp)
              go_wp2_with fail
              refine (sub_to (max a b) (min a b) (max a b - min a b) 0 _ (by omega) (by omega) (by omega) (by omega) Hsub.out).mono ?_
              rintro e w1 ⟨rfl, hb⟩
              have HB1 := Lib.hid (Hbw.out.trans (hb.mono Hbw.out.size))
              clear hb
              go_wp2_with fail
              refine (mul_to a (b % 4096) (a * (b % 4096)) 0 _ (by omega) (by omega) (by omega) (by omega) Hmul.out).mono ?_
              rintro e w2 ⟨rfl, hb⟩
              have HB2 := Lib.hid (HB1.out.trans (hb.mono HB1.out.size))
              clear hb
              go_wp2_with fail
              refine (share_to (a / 2) (b / 2 + 1) _ 0 _ (by omega) (by omega) (by omega) (by omega) (sums_share a b ha0 ha1 hb0 hb1)).mono ?_
              rintro e w3 ⟨rfl, hb⟩
              have HB3 := Lib.hid (HB2.out.trans (hb.mono HB2.out.size))
              clear hb
              go_wp2_with fail
              refine (share_to (a / 2 + 1) (b / 2 + 1) _ 0 _ (by omega) (by omega) (by omega) (by omega) (sums_share2 a b ha0 ha1 hb0 hb1)).mono ?_
              rintro e w4 ⟨rfl, hb⟩
              have HB4 := Lib.hid (HB3.out.trans (hb.mono HB3.out.size))
              clear hb
              go_wp2_with fail
              refine (works_any _ (HT.out.below HB4.out)).mono ?_
              rintro e w5 ⟨rfl, hb⟩
              have HB5 := Lib.hid (HB4.out.trans (hb.mono HB4.out.size))
              clear hb
              go_wp2
              go_ret
              exact ⟨rfl, HB5.out⟩
            · have hp2 : 1099511627776 < a * (b % 4096) := by omega
              have Hmul := Lib.hid (sums_mul2 a b ha0 ha2 hp2)
              go_wp2_with fail
              refine (sub_to (max a b) (min a b) (max a b - min a b) 0 _ (by omega) (by omega) (by omega) (by omega) Hsub.out).mono ?_
              rintro e w1 ⟨rfl, hb⟩
              have HB1 := Lib.hid (Hbw.out.trans (hb.mono Hbw.out.size))
              clear hb
              go_wp2_with fail
              refine (mul_to a (b % 4096) 0 10 _ (by omega) (by omega) (by omega) (by omega) Hmul.out).mono ?_
              rintro e w2 ⟨rfl, hb⟩
              have HB2 := Lib.hid (HB1.out.trans (hb.mono HB1.out.size))
              clear hb
              go_wp2_with fail
              refine (share_to (a / 2) (b / 2 + 1) _ 0 _ (by omega) (by omega) (by omega) (by omega) (sums_share a b ha0 ha1 hb0 hb1)).mono ?_
              rintro e w3 ⟨rfl, hb⟩
              have HB3 := Lib.hid (HB2.out.trans (hb.mono HB2.out.size))
              clear hb
              go_wp2_with fail
              refine (share_to (a / 2 + 1) (b / 2 + 1) _ 0 _ (by omega) (by omega) (by omega) (by omega) (sums_share2 a b ha0 ha1 hb0 hb1)).mono ?_
              rintro e w4 ⟨rfl, hb⟩
              have HB4 := Lib.hid (HB3.out.trans (hb.mono HB3.out.size))
              clear hb
              go_wp2_with fail
              refine (works_any _ (HT.out.below HB4.out)).mono ?_
              rintro e w5 ⟨rfl, hb⟩
              have HB5 := Lib.hid (HB4.out.trans (hb.mono HB4.out.size))
              clear hb
              go_wp2
              go_ret
              exact ⟨rfl, HB5.out⟩
          · have Hsub : Hid (subL (max a b) (min a b) = (0, 10)) := by
              show subL (max a b) (min a b) = _
              unfold subL top
              rw [if_neg (by omega), if_pos (by omega)]
            by_cases ha2 : a ≤ 1099511627776
            · by_cases hp : a * (b % 4096) ≤ 1099511627776
              · have Hmul := Lib.hid (sums_mul a b ha0 ha2 hp)
                go_wp2_with fail
                refine (sub_to (max a b) (min a b) 0 10 _ (by omega) (by omega) (by omega) (by omega) Hsub.out).mono ?_
                rintro e w1 ⟨rfl, hb⟩
                have HB1 := Lib.hid (Hbw.out.trans (hb.mono Hbw.out.size))
                clear hb
                go_wp2_with fail
                refine (mul_to a (b % 4096) (a * (b % 4096)) 0 _ (by omega) (by omega) (by omega) (by omega) Hmul.out).mono ?_
                rintro e w2 ⟨rfl, hb⟩
                have HB2 := Lib.hid (HB1.out.trans (hb.mono HB1.out.size))
                clear hb
                go_wp2_with fail
                refine (share_to (a / 2) (b / 2 + 1) _ 0 _ (by omega) (by omega) (by omega) (by omega) (sums_share a b ha0 ha1 hb0 hb1)).mono ?_
                rintro e w3 ⟨rfl, hb⟩
                have HB3 := Lib.hid (HB2.out.trans (hb.mono HB2.out.size))
                clear hb
                go_wp2_with fail
                refine (share_to (a / 2 + 1) (b / 2 + 1) _ 0 _ (by omega) (by omega) (by omega) (by omega) (sums_share2 a b ha0 ha1 hb0 hb1)).mono ?_
                rintro e w4 ⟨rfl, hb⟩
                have HB4 := Lib.hid (HB3.out.trans (hb.mono HB3.out.size))
                clear hb
                go_wp2_with fail
                refine (works_any _ (HT.out.below HB4.out)).mono ?_
                rintro e w5 ⟨rfl, hb⟩
                have HB5 := Lib.hid (HB4.out.trans (hb.mono HB4.out.size))
                clear hb
                go_wp2
                go_ret
                exact ⟨rfl, HB5.out⟩
              · have hp2 : 1099511627776 < a * (b % 4096) := by omega
                have Hmul := Lib.hid (sums_mul2 a b ha0 ha2 hp2)
                go_wp2_with fail
                refine (sub_to (max a b) (min a b) 0 10 _ (by omega) (by omega) (by omega) (by omega) Hsub.out).mono ?_
                rintro e w1 ⟨rfl, hb⟩
                have HB1 := Lib.hid (Hbw.out.trans (hb.mono Hbw.out.size))
                clear hb
                go_wp2_with fail
                refine (mul_to a (b % 4096) 0 10 _ (by omega) (by omega) (by omega) (by omega) Hmul.out).mono ?_
                rintro e w2 ⟨rfl, hb⟩
                have HB2 := Lib.hid (HB1.out.trans (hb.mono HB1.out.size))
                clear hb
                go_wp2_with fail
                refine (share_to (a / 2) (b / 2 + 1) _ 0 _ (by omega) (by omega) (by omega) (by omega) (sums_share a b ha0 ha1 hb0 hb1)).mono ?_
                rintro e w3 ⟨rfl, hb⟩
                have HB3 := Lib.hid (HB2.out.trans (hb.mono HB2.out.size))
                clear hb
                go_wp2_with fail
                refine (share_to (a / 2 + 1) (b / 2 + 1) _ 0 _ (by omega) (by omega) (by omega) (by omega) (sums_share2 a b ha0 ha1 hb0 hb1)).mono ?_
                rintro e w4 ⟨rfl, hb⟩
                have HB4 := Lib.hid (HB3.out.trans (hb.mono HB3.out.size))
                clear hb
                go_wp2_with fail
                refine (works_any _ (HT.out.below HB4.out)).mono ?_
                rintro e w5 ⟨rfl, hb⟩
                have HB5 := Lib.hid (HB4.out.trans (hb.mono HB4.out.size))
                clear hb
                go_wp2
                go_ret
                exact ⟨rfl, HB5.out⟩
            · have Hmul := Lib.hid (sums_mul3 a b (by omega))
              go_wp2_with fail
              refine (sub_to (max a b) (min a b) 0 10 _ (by omega) (by omega) (by omega) (by omega) Hsub.out).mono ?_
              rintro e w1 ⟨rfl, hb⟩
              have HB1 := Lib.hid (Hbw.out.trans (hb.mono Hbw.out.size))
              clear hb
              go_wp2_with fail
              refine (mul_to a (b % 4096) 0 10 _ (by omega) (by omega) (by omega) (by omega) Hmul.out).mono ?_
              rintro e w2 ⟨rfl, hb⟩
              have HB2 := Lib.hid (HB1.out.trans (hb.mono HB1.out.size))
              clear hb
              go_wp2_with fail
              refine (share_to (a / 2) (b / 2 + 1) _ 0 _ (by omega) (by omega) (by omega) (by omega) (sums_share a b ha0 ha1 hb0 hb1)).mono ?_
              rintro e w3 ⟨rfl, hb⟩
              have HB3 := Lib.hid (HB2.out.trans (hb.mono HB2.out.size))
              clear hb
              go_wp2_with fail
              refine (share_to (a / 2 + 1) (b / 2 + 1) _ 0 _ (by omega) (by omega) (by omega) (by omega) (sums_share2 a b ha0 ha1 hb0 hb1)).mono ?_
              rintro e w4 ⟨rfl, hb⟩
              have HB4 := Lib.hid (HB3.out.trans (hb.mono HB3.out.size))
              clear hb
              go_wp2_with fail
              refine (works_any _ (HT.out.below HB4.out)).mono ?_
              rintro e w5 ⟨rfl, hb⟩
              have HB5 := Lib.hid (HB4.out.trans (hb.mono HB4.out.size))
              clear hb
              go_wp2
              go_ret
              exact ⟨rfl, HB5.out⟩
        · have Hnot : Hid (top < (brought l 20).sum) := by show top < _; unfold top; omega
          go_wp2_with fail
          have ka := Ka.out
          rw [Hadd.out, if_pos Hnot.out] at ka
          refine ka.mono ?_
          rintro e w1 ⟨rfl, rfl⟩
          clear ka
          by_cases hM : max a b ≤ 1099511627776
          · have Hsub : Hid (subL (max a b) (min a b) = (max a b - min a b, 0)) := by
              show subL (max a b) (min a b) = _
              unfold subL top
              rw [if_neg (by omega), if_neg (by omega)]
            have ha2 : a ≤ 1099511627776 := by omega
            by_cases hp : a * (b % 4096) ≤ 1099511627776
            · have Hmul := Lib.hid (sums_mul a b ha0 ha2 hp)
              go_wp2_with fail
              refine (sub_to (max a b) (min a b) (max a b - min a b) 0 _ (by omega) (by omega) (by omega) (by omega) Hsub.out).mono ?_
              rintro e w1 ⟨rfl, hb⟩
              have HB1 := Lib.hid (Hbw.out.trans (hb.mono Hbw.out.size))
              clear hb
              go_wp2_with fail
              refine (mul_to a (b % 4096) (a * (b % 4096)) 0 _ (by omega) (by omega) (by omega) (by omega) Hmul.out).mono ?_
              rintro e w2 ⟨rfl, hb⟩
              have HB2 := Lib.hid (HB1.out.trans (hb.mono HB1.out.size))
              clear hb
              go_wp2_with fail
              refine (share_to (a / 2) (b / 2 + 1) _ 0 _ (by omega) (by omega) (by omega) (by omega) (sums_share a b ha0 ha1 hb0 hb1)).mono ?_
              rintro e w3 ⟨rfl, hb⟩
              have HB3 := Lib.hid (HB2.out.trans (hb.mono HB2.out.size))
              clear hb
              go_wp2_with fail
              refine (share_to (a / 2 + 1) (b / 2 + 1) _ 0 _ (by omega) (by omega) (by omega) (by omega) (sums_share2 a b ha0 ha1 hb0 hb1)).mono ?_
              rintro e w4 ⟨rfl, hb⟩
              have HB4 := Lib.hid (HB3.out.trans (hb.mono HB3.out.size))
              clear hb
              go_wp2_with fail
              refine (works_any _ (HT.out.below HB4.out)).mono ?_
              rintro e w5 ⟨rfl, hb⟩
              have HB5 := Lib.hid (HB4.out.trans (hb.mono HB4.out.size))
              clear hb
              go_wp2
              go_ret
              exact ⟨rfl, HB5.out⟩
            · have hp2 : 1099511627776 < a * (b % 4096) := by omega
              have Hmul := Lib.hid (sums_mul2 a b ha0 ha2 hp2)
              go_wp2_with fail
              refine (sub_to (max a b) (min a b) (max a b - min a b) 0 _ (by omega) (by omega) (by omega) (by omega) Hsub.out).mono ?_
              rintro e w1 ⟨rfl, hb⟩
              have HB1 := Lib.hid (Hbw.out.trans (hb.mono Hbw.out.size))
              clear hb
              go_wp2_with fail
              refine (mul_to a (b % 4096) 0 10 _ (by omega) (by omega) (by omega) (by omega) Hmul.out).mono ?_
              rintro e w2 ⟨rfl, hb⟩
              have HB2 := Lib.hid (HB1.out.trans (hb.mono HB1.out.size))
              clear hb
              go_wp2_with fail
              refine (share_to (a / 2) (b / 2 + 1) _ 0 _ (by omega) (by omega) (by omega) (by omega) (sums_share a b ha0 ha1 hb0 hb1)).mono ?_
              rintro e w3 ⟨rfl, hb⟩
              have HB3 := Lib.hid (HB2.out.trans (hb.mono HB2.out.size))
              clear hb
              go_wp2_with fail
              refine (share_to (a / 2 + 1) (b / 2 + 1) _ 0 _ (by omega) (by omega) (by omega) (by omega) (sums_share2 a b ha0 ha1 hb0 hb1)).mono ?_
              rintro e w4 ⟨rfl, hb⟩
              have HB4 := Lib.hid (HB3.out.trans (hb.mono HB3.out.size))
              clear hb
              go_wp2_with fail
              refine (works_any _ (HT.out.below HB4.out)).mono ?_
              rintro e w5 ⟨rfl, hb⟩
              have HB5 := Lib.hid (HB4.out.trans (hb.mono HB4.out.size))
              clear hb
              go_wp2
              go_ret
              exact ⟨rfl, HB5.out⟩
          · have Hsub : Hid (subL (max a b) (min a b) = (0, 10)) := by
              show subL (max a b) (min a b) = _
              unfold subL top
              rw [if_neg (by omega), if_pos (by omega)]
            by_cases ha2 : a ≤ 1099511627776
            · by_cases hp : a * (b % 4096) ≤ 1099511627776
              · have Hmul := Lib.hid (sums_mul a b ha0 ha2 hp)
                go_wp2_with fail
                refine (sub_to (max a b) (min a b) 0 10 _ (by omega) (by omega) (by omega) (by omega) Hsub.out).mono ?_
                rintro e w1 ⟨rfl, hb⟩
                have HB1 := Lib.hid (Hbw.out.trans (hb.mono Hbw.out.size))
                clear hb
                go_wp2_with fail
                refine (mul_to a (b % 4096) (a * (b % 4096)) 0 _ (by omega) (by omega) (by omega) (by omega) Hmul.out).mono ?_
                rintro e w2 ⟨rfl, hb⟩
                have HB2 := Lib.hid (HB1.out.trans (hb.mono HB1.out.size))
                clear hb
                go_wp2_with fail
                refine (share_to (a / 2) (b / 2 + 1) _ 0 _ (by omega) (by omega) (by omega) (by omega) (sums_share a b ha0 ha1 hb0 hb1)).mono ?_
                rintro e w3 ⟨rfl, hb⟩
                have HB3 := Lib.hid (HB2.out.trans (hb.mono HB2.out.size))
                clear hb
                go_wp2_with fail
                refine (share_to (a / 2 + 1) (b / 2 + 1) _ 0 _ (by omega) (by omega) (by omega) (by omega) (sums_share2 a b ha0 ha1 hb0 hb1)).mono ?_
                rintro e w4 ⟨rfl, hb⟩
                have HB4 := Lib.hid (HB3.out.trans (hb.mono HB3.out.size))
                clear hb
                go_wp2_with fail
                refine (works_any _ (HT.out.below HB4.out)).mono ?_
                rintro e w5 ⟨rfl, hb⟩
                have HB5 := Lib.hid (HB4.out.trans (hb.mono HB4.out.size))
                clear hb
                go_wp2
                go_ret
                exact ⟨rfl, HB5.out⟩
              · have hp2 : 1099511627776 < a * (b % 4096) := by omega
                have Hmul := Lib.hid (sums_mul2 a b ha0 ha2 hp2)
                go_wp2_with fail
                refine (sub_to (max a b) (min a b) 0 10 _ (by omega) (by omega) (by omega) (by omega) Hsub.out).mono ?_
                rintro e w1 ⟨rfl, hb⟩
                have HB1 := Lib.hid (Hbw.out.trans (hb.mono Hbw.out.size))
                clear hb
                go_wp2_with fail
                refine (mul_to a (b % 4096) 0 10 _ (by omega) (by omega) (by omega) (by omega) Hmul.out).mono ?_
                rintro e w2 ⟨rfl, hb⟩
                have HB2 := Lib.hid (HB1.out.trans (hb.mono HB1.out.size))
                clear hb
                go_wp2_with fail
                refine (share_to (a / 2) (b / 2 + 1) _ 0 _ (by omega) (by omega) (by omega) (by omega) (sums_share a b ha0 ha1 hb0 hb1)).mono ?_
                rintro e w3 ⟨rfl, hb⟩
                have HB3 := Lib.hid (HB2.out.trans (hb.mono HB2.out.size))
                clear hb
                go_wp2_with fail
                refine (share_to (a / 2 + 1) (b / 2 + 1) _ 0 _ (by omega) (by omega) (by omega) (by omega) (sums_share2 a b ha0 ha1 hb0 hb1)).mono ?_
                rintro e w4 ⟨rfl, hb⟩
                have HB4 := Lib.hid (HB3.out.trans (hb.mono HB3.out.size))
                clear hb
                go_wp2_with fail
                refine (works_any _ (HT.out.below HB4.out)).mono ?_
                rintro e w5 ⟨rfl, hb⟩
                have HB5 := Lib.hid (HB4.out.trans (hb.mono HB4.out.size))
                clear hb
                go_wp2
                go_ret
                exact ⟨rfl, HB5.out⟩
            · have Hmul := Lib.hid (sums_mul3 a b (by omega))
              go_wp2_with fail
              refine (sub_to (max a b) (min a b) 0 10 _ (by omega) (by omega) (by omega) (by omega) Hsub.out).mono ?_
              rintro e w1 ⟨rfl, hb⟩
              have HB1 := Lib.hid (Hbw.out.trans (hb.mono Hbw.out.size))
              clear hb
              go_wp2_with fail
              refine (mul_to a (b % 4096) 0 10 _ (by omega) (by omega) (by omega) (by omega) Hmul.out).mono ?_
              rintro e w2 ⟨rfl, hb⟩
              have HB2 := Lib.hid (HB1.out.trans (hb.mono HB1.out.size))
              clear hb
              go_wp2_with fail
              refine (share_to (a / 2) (b / 2 + 1) _ 0 _ (by omega) (by omega) (by omega) (by omega) (sums_share a b ha0 ha1 hb0 hb1)).mono ?_
              rintro e w3 ⟨rfl, hb⟩
              have HB3 := Lib.hid (HB2.out.trans (hb.mono HB2.out.size))
              clear hb
              go_wp2_with fail
              refine (share_to (a / 2 + 1) (b / 2 + 1) _ 0 _ (by omega) (by omega) (by omega) (by omega) (sums_share2 a b ha0 ha1 hb0 hb1)).mono ?_
              rintro e w4 ⟨rfl, hb⟩
              have HB4 := Lib.hid (HB3.out.trans (hb.mono HB3.out.size))
              clear hb
              go_wp2_with fail
              refine (works_any _ (HT.out.below HB4.out)).mono ?_
              rintro e w5 ⟨rfl, hb⟩
              have HB5 := Lib.hid (HB4.out.trans (hb.mono HB4.out.size))
              clear hb
              go_wp2
              go_ret
              exact ⟨rfl, HB5.out⟩
      · by_cases hok : (brought l k).sum ≤ 1099511627776
        · have Hnot : Hid ((brought l k).sum ≤ top) := hok
          go_wp2_with fail
          have ka := Ka.out
          rw [Hadd.out, if_neg (Int.not_lt.2 Hnot.out)] at ka
          refine ka.mono ?_
          rintro e w1 ⟨rfl, rfl⟩
          clear ka
          by_cases hM : max a b ≤ 1099511627776
          · have Hsub : Hid (subL (max a b) (min a b) = (max a b - min a b, 0)) := by
              show subL (max a b) (min a b) = _
              unfold subL top
              rw [if_neg (by omega), if_neg (by omega)]
            have ha2 : a ≤ 1099511627776 := by omega
            by_cases hp : a * (b % 4096) ≤ 1099511627776
            · have Hmul := Lib.hid (sums_mul a b ha0 ha2 hp)
              go_wp2_with fail
              refine (sub_to (max a b) (min a b) (max a b - min a b) 0 _ (by omega) (by omega) (by omega) (by omega) Hsub.out).mono ?_
              rintro e w1 ⟨rfl, hb⟩
              have HB1 := Lib.hid (Hbw.out.trans (hb.mono Hbw.out.size))
              clear hb
              go_wp2_with fail
              refine (mul_to a (b % 4096) (a * (b % 4096)) 0 _ (by omega) (by omega) (by omega) (by omega) Hmul.out).mono ?_
              rintro e w2 ⟨rfl, hb⟩
              have HB2 := Lib.hid (HB1.out.trans (hb.mono HB1.out.size))
              clear hb
              go_wp2_with fail
              refine (share_to (a / 2) (b / 2 + 1) _ 0 _ (by omega) (by omega) (by omega) (by omega) (sums_share a b ha0 ha1 hb0 hb1)).mono ?_
              rintro e w3 ⟨rfl, hb⟩
              have HB3 := Lib.hid (HB2.out.trans (hb.mono HB2.out.size))
              clear hb
              go_wp2_with fail
              refine (share_to (a / 2 + 1) (b / 2 + 1) _ 0 _ (by omega) (by omega) (by omega) (by omega) (sums_share2 a b ha0 ha1 hb0 hb1)).mono ?_
              rintro e w4 ⟨rfl, hb⟩
              have HB4 := Lib.hid (HB3.out.trans (hb.mono HB3.out.size))
              clear hb
              go_wp2_with fail
              refine (works_any _ (HT.out.below HB4.out)).mono ?_
              rintro e w5 ⟨rfl, hb⟩
              have HB5 := Lib.hid (HB4.out.trans (hb.mono HB4.out.size))
              clear hb
              go_wp2
              go_ret
              exact ⟨rfl, HB5.out⟩
            · have hp2 : 1099511627776 < a * (b % 4096) := by omega
              have Hmul := Lib.hid (sums_mul2 a b ha0 ha2 hp2)
              go_wp2_with fail
              refine (sub_to (max a b) (min a b) (max a b - min a b) 0 _ (by omega) (by omega) (by omega) (by omega) Hsub.out).mono ?_
              rintro e w1 ⟨rfl, hb⟩
              have HB1 := Lib.hid (Hbw.out.trans (hb.mono Hbw.out.size))
              clear hb
              go_wp2_with fail
              refine (mul_to a (b % 4096) 0 10 _ (by omega) (by omega) (by omega) (by omega) Hmul.out).mono ?_
              rintro e w2 ⟨rfl, hb⟩
              have HB2 := Lib.hid (HB1.out.trans (hb.mono HB1.out.size))
              clear hb
              go_wp2_with fail
              refine (share_to (a / 2) (b / 2 + 1) _ 0 _ (by omega) (by omega) (by omega) (by omega) (sums_share a b ha0 ha1 hb0 hb1)).mono ?_
              rintro e w3 ⟨rfl, hb⟩
              have HB3 := Lib.hid (HB2.out.trans (hb.mono HB2.out.size))
              clear hb
              go_wp2_with fail
              refine (share_to (a / 2 + 1) (b / 2 + 1) _ 0 _ (by omega) (by omega) (by omega) (by omega) (sums_share2 a b ha0 ha1 hb0 hb1)).mono ?_
              rintro e w4 ⟨rfl, hb⟩
              have HB4 := Lib.hid (HB3.out.trans (hb.mono HB3.out.size))
              clear hb
              go_wp2_with fail
              refine (works_any _ (HT.out.below HB4.out)).mono ?_
              rintro e w5 ⟨rfl, hb⟩
              have HB5 := Lib.hid (HB4.out.trans (hb.mono HB4.out.size))
              clear hb
              go_wp2
              go_ret
              exact ⟨rfl, HB5.out⟩
          · have Hsub : Hid (subL (max a b) (min a b) = (0, 10)) := by
              show subL (max a b) (min a b) = _
              unfold subL top
              rw [if_neg (by omega), if_pos (by omega)]
            by_cases ha2 : a ≤ 1099511627776
            · by_cases hp : a * (b % 4096) ≤ 1099511627776
              · have Hmul := Lib.hid (sums_mul a b ha0 ha2 hp)
                go_wp2_with fail
                refine (sub_to (max a b) (min a b) 0 10 _ (by omega) (by omega) (by omega) (by omega) Hsub.out).mono ?_
                rintro e w1 ⟨rfl, hb⟩
                have HB1 := Lib.hid (Hbw.out.trans (hb.mono Hbw.out.size))
                clear hb
                go_wp2_with fail
                refine (mul_to a (b % 4096) (a * (b % 4096)) 0 _ (by omega) (by omega) (by omega) (by omega) Hmul.out).mono ?_
                rintro e w2 ⟨rfl, hb⟩
                have HB2 := Lib.hid (HB1.out.trans (hb.mono HB1.out.size))
                clear hb
                go_wp2_with fail
                refine (share_to (a / 2) (b / 2 + 1) _ 0 _ (by omega) (by omega) (by omega) (by omega) (sums_share a b ha0 ha1 hb0 hb1)).mono ?_
                rintro e w3 ⟨rfl, hb⟩
                have HB3 := Lib.hid (HB2.out.trans (hb.mono HB2.out.size))
                clear hb
                go_wp2_with fail
                refine (share_to (a / 2 + 1) (b / 2 + 1) _ 0 _ (by omega) (by omega) (by omega) (by omega) (sums_share2 a b ha0 ha1 hb0 hb1)).mono ?_
                rintro e w4 ⟨rfl, hb⟩
                have HB4 := Lib.hid (HB3.out.trans (hb.mono HB3.out.size))
                clear hb
                go_wp2_with fail
                refine (works_any _ (HT.out.below HB4.out)).mono ?_
                rintro e w5 ⟨rfl, hb⟩
                have HB5 := Lib.hid (HB4.out.trans (hb.mono HB4.out.size))
                clear hb
                go_wp2
                go_ret
                exact ⟨rfl, HB5.out⟩
              · have hp2 : 1099511627776 < a * (b % 4096) := by omega
                have Hmul := Lib.hid (sums_mul2 a b ha0 ha2 hp2)
                go_wp2_with fail
                refine (sub_to (max a b) (min a b) 0 10 _ (by omega) (by omega) (by omega) (by omega) Hsub.out).mono ?_
                rintro e w1 ⟨rfl, hb⟩
                have HB1 := Lib.hid (Hbw.out.trans (hb.mono Hbw.out.size))
                clear hb
                go_wp2_with fail
                refine (mul_to a (b % 4096) 0 10 _ (by omega) (by omega) (by omega) (by omega) Hmul.out).mono ?_
                rintro e w2 ⟨rfl, hb⟩
                have HB2 := Lib.hid (HB1.out.trans (hb.mono HB1.out.size))
                clear hb
                go_wp2_with fail
                refine (share_to (a / 2) (b / 2 + 1) _ 0 _ (by omega) (by omega) (by omega) (by omega) (sums_share a b ha0 ha1 hb0 hb1)).mono ?_
                rintro e w3 ⟨rfl, hb⟩
                have HB3 := Lib.hid (HB2.out.trans (hb.mono HB2.out.size))
                clear hb
                go_wp2_with fail
                refine (share_to (a / 2 + 1) (b / 2 + 1) _ 0 _ (by omega) (by omega) (by omega) (by omega) (sums_share2 a b ha0 ha1 hb0 hb1)).mono ?_
                rintro e w4 ⟨rfl, hb⟩
                have HB4 := Lib.hid (HB3.out.trans (hb.mono HB3.out.size))
                clear hb
                go_wp2_with fail
                refine (works_any _ (HT.out.below HB4.out)).mono ?_
                rintro e w5 ⟨rfl, hb⟩
                have HB5 := Lib.hid (HB4.out.trans (hb.mono HB4.out.size))
                clear hb
                go_wp2
                go_ret
                exact ⟨rfl, HB5.out⟩
            · have Hmul := Lib.hid (sums_mul3 a b (by omega))
              go_wp2_with fail
              refine (sub_to (max a b) (min a b) 0 10 _ (by omega) (by omega) (by omega) (by omega) Hsub.out).mono ?_
              rintro e w1 ⟨rfl, hb⟩
              have HB1 := Lib.hid (Hbw.out.trans (hb.mono Hbw.out.size))
              clear hb
              go_wp2_with fail
              refine (mul_to a (b % 4096) 0 10 _ (by omega) (by omega) (by omega) (by omega) Hmul.out).mono ?_
              rintro e w2 ⟨rfl, hb⟩
              have HB2 := Lib.hid (HB1.out.trans (hb.mono HB1.out.size))
              clear hb
              go_wp2_with fail
              refine (share_to (a / 2) (b / 2 + 1) _ 0 _ (by omega) (by omega) (by omega) (by omega) (sums_share a b ha0 ha1 hb0 hb1)).mono ?_
              rintro e w3 ⟨rfl, hb⟩
              have HB3 := Lib.hid (HB2.out.trans (hb.mono HB2.out.size))
              clear hb
              go_wp2_with fail
              refine (share_to (a / 2 + 1) (b / 2 + 1) _ 0 _ (by omega) (by omega) (by omega) (by omega) (sums_share2 a b ha0 ha1 hb0 hb1)).mono ?_
              rintro e w4 ⟨rfl, hb⟩
              have HB4 := Lib.hid (HB3.out.trans (hb.mono HB3.out.size))
              clear hb
              go_wp2_with fail
              refine (works_any _ (HT.out.below HB4.out)).mono ?_
              rintro e w5 ⟨rfl, hb⟩
              have HB5 := Lib.hid (HB4.out.trans (hb.mono HB4.out.size))
              clear hb
              go_wp2
              go_ret
              exact ⟨rfl, HB5.out⟩
        · have Hnot : Hid (top < (brought l k).sum) := by show top < _; unfold top; omega
          go_wp2_with fail
          have ka := Ka.out
          rw [Hadd.out, if_pos Hnot.out] at ka
          refine ka.mono ?_
          rintro e w1 ⟨rfl, rfl⟩
          clear ka
          by_cases hM : max a b ≤ 1099511627776
          · have Hsub : Hid (subL (max a b) (min a b) = (max a b - min a b, 0)) := by
              show subL (max a b) (min a b) = _
              unfold subL top
              rw [if_neg (by omega), if_neg (by omega)]
            have ha2 : a ≤ 1099511627776 := by omega
            by_cases hp : a * (b % 4096) ≤ 1099511627776
            · have Hmul := Lib.hid (sums_mul a b ha0 ha2 hp)
              go_wp2_with fail
              refine (sub_to (max a b) (min a b) (max a b - min a b) 0 _ (by omega) (by omega) (by omega) (by omega) Hsub.out).mono ?_
              rintro e w1 ⟨rfl, hb⟩
              have HB1 := Lib.hid (Hbw.out.trans (hb.mono Hbw.out.size))
              clear hb
              go_wp2_with fail
              refine (mul_to a (b % 4096) (a * (b % 4096)) 0 _ (by omega) (by omega) (by omega) (by omega) Hmul.out).mono ?_
              rintro e w2 ⟨rfl, hb⟩
              have HB2 := Lib.hid (HB1.out.trans (hb.mono HB1.out.size))
              clear hb
              go_wp2_with fail
              refine (share_to (a / 2) (b / 2 + 1) _ 0 _ (by omega) (by omega) (by omega) (by omega) (sums_share a b ha0 ha1 hb0 hb1)).mono ?_
              rintro e w3 ⟨rfl, hb⟩
              have HB3 := Lib.hid (HB2.out.trans (hb.mono HB2.out.size))
              clear hb
              go_wp2_with fail
              refine (share_to (a / 2 + 1) (b / 2 + 1) _ 0 _ (by omega) (by omega) (by omega) (by omega) (sums_share2 a b ha0 ha1 hb0 hb1)).mono ?_
              rintro e w4 ⟨rfl, hb⟩
              have HB4 := Lib.hid (HB3.out.trans (hb.mono HB3.out.size))
              clear hb
              go_wp2_with fail
              refine (works_any _ (HT.out.below HB4.out)).mono ?_
              rintro e w5 ⟨rfl, hb⟩
              have HB5 := Lib.hid (HB4.out.trans (hb.mono HB4.out.size))
              clear hb
              go_wp2
              go_ret
              exact ⟨rfl, HB5.out⟩
            · have hp2 : 1099511627776 < a * (b % 4096) := by omega
              have Hmul := Lib.hid (sums_mul2 a b ha0 ha2 hp2)
              go_wp2_with fail
              refine (sub_to (max a b) (min a b) (max a b - min a b) 0 _ (by omega) (by omega) (by omega) (by omega) Hsub.out).mono ?_
              rintro e w1 ⟨rfl, hb⟩
              have HB1 := Lib.hid (Hbw.out.trans (hb.mono Hbw.out.size))
              clear hb
              go_wp2_with fail
              refine (mul_to a (b % 4096) 0 10 _ (by omega) (by omega) (by omega) (by omega) Hmul.out).mono ?_
              rintro e w2 ⟨rfl, hb⟩
              have HB2 := Lib.hid (HB1.out.trans (hb.mono HB1.out.size))
              clear hb
              go_wp2_with fail
              refine (share_to (a / 2) (b / 2 + 1) _ 0 _ (by omega) (by omega) (by omega) (by omega) (sums_share a b ha0 ha1 hb0 hb1)).mono ?_
              rintro e w3 ⟨rfl, hb⟩
              have HB3 := Lib.hid (HB2.out.trans (hb.mono HB2.out.size))
              clear hb
              go_wp2_with fail
              refine (share_to (a / 2 + 1) (b / 2 + 1) _ 0 _ (by omega) (by omega) (by omega) (by omega) (sums_share2 a b ha0 ha1 hb0 hb1)).mono ?_
              rintro e w4 ⟨rfl, hb⟩
              have HB4 := Lib.hid (HB3.out.trans (hb.mono HB3.out.size))
              clear hb
              go_wp2_with fail
              refine (works_any _ (HT.out.below HB4.out)).mono ?_
              rintro e w5 ⟨rfl, hb⟩
              have HB5 := Lib.hid (HB4.out.trans (hb.mono HB4.out.size))
              clear hb
              go_wp2
              go_ret
              exact ⟨rfl, HB5.out⟩
          · have Hsub : Hid (subL (max a b) (min a b) = (0, 10)) := by
              show subL (max a b) (min a b) = _
              unfold subL top
              rw [if_neg (by omega), if_pos (by omega)]
            by_cases ha2 : a ≤ 1099511627776
            · by_cases hp : a * (b % 4096) ≤ 1099511627776
              · have Hmul := Lib.hid (sums_mul a b ha0 ha2 hp)
                go_wp2_with fail
                refine (sub_to (max a b) (min a b) 0 10 _ (by omega) (by omega) (by omega) (by omega) Hsub.out).mono ?_
                rintro e w1 ⟨rfl, hb⟩
                have HB1 := Lib.hid (Hbw.out.trans (hb.mono Hbw.out.size))
                clear hb
                go_wp2_with fail
                refine (mul_to a (b % 4096) (a * (b % 4096)) 0 _ (by omega) (by omega) (by omega) (by omega) Hmul.out).mono ?_
                rintro e w2 ⟨rfl, hb⟩
                have HB2 := Lib.hid (HB1.out.trans (hb.mono HB1.out.size))
                clear hb
                go_wp2_with fail
                refine (share_to (a / 2) (b / 2 + 1) _ 0 _ (by omega) (by omega) (by omega) (by omega) (sums_share a b ha0 ha1 hb0 hb1)).mono ?_
                rintro e w3 ⟨rfl, hb⟩
                have HB3 := Lib.hid (HB2.out.trans (hb.mono HB2.out.size))
                clear hb
                go_wp2_with fail
                refine (share_to (a / 2 + 1) (b / 2 + 1) _ 0 _ (by omega) (by omega) (by omega) (by omega) (sums_share2 a b ha0 ha1 hb0 hb1)).mono ?_
                rintro e w4 ⟨rfl, hb⟩
                have HB4 := Lib.hid (HB3.out.trans (hb.mono HB3.out.size))
                clear hb
                go_wp2_with fail
                refine (works_any _ (HT.out.below HB4.out)).mono ?_
                rintro e w5 ⟨rfl, hb⟩
                have HB5 := Lib.hid (HB4.out.trans (hb.mono HB4.out.size))
                clear hb
                go_wp2
                go_ret
                exact ⟨rfl, HB5.out⟩
              · have hp2 : 1099511627776 < a * (b % 4096) := by omega
                have Hmul := Lib.hid (sums_mul2 a b ha0 ha2 hp2)
                go_wp2_with fail
                refine (sub_to (max a b) (min a b) 0 10 _ (by omega) (by omega) (by omega) (by omega) Hsub.out).mono ?_
                rintro e w1 ⟨rfl, hb⟩
                have HB1 := Lib.hid (Hbw.out.trans (hb.mono Hbw.out.size))
                clear hb
                go_wp2_with fail
                refine (mul_to a (b % 4096) 0 10 _ (by omega) (by omega) (by omega) (by omega) Hmul.out).mono ?_
                rintro e w2 ⟨rfl, hb⟩
                have HB2 := Lib.hid (HB1.out.trans (hb.mono HB1.out.size))
                clear hb
                go_wp2_with fail
                refine (share_to (a / 2) (b / 2 + 1) _ 0 _ (by omega) (by omega) (by omega) (by omega) (sums_share a b ha0 ha1 hb0 hb1)).mono ?_
                rintro e w3 ⟨rfl, hb⟩
                have HB3 := Lib.hid (HB2.out.trans (hb.mono HB2.out.size))
                clear hb
                go_wp2_with fail
                refine (share_to (a / 2 + 1) (b / 2 + 1) _ 0 _ (by omega) (by omega) (by omega) (by omega) (sums_share2 a b ha0 ha1 hb0 hb1)).mono ?_
                rintro e w4 ⟨rfl, hb⟩
                have HB4 := Lib.hid (HB3.out.trans (hb.mono HB3.out.size))
                clear hb
                go_wp2_with fail
                refine (works_any _ (HT.out.below HB4.out)).mono ?_
                rintro e w5 ⟨rfl, hb⟩
                have HB5 := Lib.hid (HB4.out.trans (hb.mono HB4.out.size))
                clear hb
                go_wp2
                go_ret
                exact ⟨rfl, HB5.out⟩
            · have Hmul := Lib.hid (sums_mul3 a b (by omega))
              go_wp2_with fail
              refine (sub_to (max a b) (min a b) 0 10 _ (by omega) (by omega) (by omega) (by omega) Hsub.out).mono ?_
              rintro e w1 ⟨rfl, hb⟩
              have HB1 := Lib.hid (Hbw.out.trans (hb.mono Hbw.out.size))
              clear hb
              go_wp2_with fail
              refine (mul_to a (b % 4096) 0 10 _ (by omega) (by omega) (by omega) (by omega) Hmul.out).mono ?_
              rintro e w2 ⟨rfl, hb⟩
              have HB2 := Lib.hid (HB1.out.trans (hb.mono HB1.out.size))
              clear hb
              go_wp2_with fail
              refine (share_to (a / 2) (b / 2 + 1) _ 0 _ (by omega) (by omega) (by omega) (by omega) (sums_share a b ha0 ha1 hb0 hb1)).mono ?_
              rintro e w3 ⟨rfl, hb⟩
              have HB3 := Lib.hid (HB2.out.trans (hb.mono HB2.out.size))
              clear hb
              go_wp2_with fail
              refine (share_to (a / 2 + 1) (b / 2 + 1) _ 0 _ (by omega) (by omega) (by omega) (by omega) (sums_share2 a b ha0 ha1 hb0 hb1)).mono ?_
              rintro e w4 ⟨rfl, hb⟩
              have HB4 := Lib.hid (HB3.out.trans (hb.mono HB3.out.size))
              clear hb
              go_wp2_with fail
              refine (works_any _ (HT.out.below HB4.out)).mono ?_
              rintro e w5 ⟨rfl, hb⟩
              have HB5 := Lib.hid (HB4.out.trans (hb.mono HB4.out.size))
              clear hb
              go_wp2
              go_ret
              exact ⟨rfl, HB5.out⟩

end Go.Proofs.YtmhblnlbfhfegaaDoor
