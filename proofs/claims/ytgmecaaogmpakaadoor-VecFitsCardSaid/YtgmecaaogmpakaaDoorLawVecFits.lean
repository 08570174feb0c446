/- Rows that fit in others fit in what these fit in; Over is 0 just if a row fits; what is less by a row, and then more, is as it was: the walk. Conditions: the names of the places, and the library's table of powers of ten, lie as they were laid. -/
import Derived.Test.YtgmecaaogmpakaaDoorVecWorks
import Derived.Test.YtgmecaaogmpakaaDoorVecFitsM
import Derived.Test.YtgmecaaogmpakaaDoorFitsReg
import Derived.Test.YtgmecaaogmpakaaDoorFits9
import Derived.Deep.RegionHeld3
import Derived.Deep.RegionWith
import Derived.Deep.DeepCutAuto
namespace Go.Proofs.YtgmecaaogmpakaaDoor
open Go.RowKit

theorem cells5f {w : World} {b : Nat} {x : Nat → Int} (h : RowAt w b x) : w.cell? ⟨b, 0, none⟩ = some (.int .i64 (x 0)) ∧ w.cell? ⟨b, 1, none⟩ = some (.int .i64 (x 1)) ∧ w.cell? ⟨b, 2, none⟩ = some (.int .i64 (x 2)) ∧ w.cell? ⟨b, 3, none⟩ = some (.int .i64 (x 3)) ∧ w.cell? ⟨b, 4, none⟩ = some (.int .i64 (x 4)) :=
  ⟨h.cell (by omega), h.cell (by omega), h.cell (by omega), h.cell (by omega), h.cell (by omega)⟩
theorem cells15_new (w : World) (x y z : Nat → Int) (t : Nat) : Cells15 (w.alloc (.cells #[.int .i64 (x 0), .int .i64 (x 1), .int .i64 (x 2), .int .i64 (x 3), .int .i64 (x 4), .int .i64 (y 0), .int .i64 (y 1), .int .i64 (y 2), .int .i64 (y 3), .int .i64 (y 4), .int .i64 (z 0), .int .i64 (z 1), .int .i64 (z 2), .int .i64 (z 3), .int .i64 (z 4)] t)) w.heap.size x y z := by
  refine ⟨by rw [alloc_size]; omega, fun k hk => ?_⟩
  have hk : k = 0 ∨ k = 1 ∨ k = 2 ∨ k = 3 ∨ k = 4 := by omega
  rw [cell_of_row _ _ _ _ _ _ (heap_alloc_new _ _), cell_of_row _ _ _ _ _ _ (heap_alloc_new _ _), cell_of_row _ _ _ _ _ _ (heap_alloc_new _ _)]
  rcases hk with rfl | rfl | rfl | rfl | rfl <;> exact ⟨rfl, rfl, rfl⟩
theorem follows_mixed : Tryd.prog.follows .mixedOrders = true := by kernel_rfl
theorem over_to (x y : Nat → Int) (n : Int) (w : World) (h : overV x y 5 = n) :
    Calls Tryd.prog 20 #[.agg #[.int .i64 (x 0), .int .i64 (x 1), .int .i64 (x 2), .int .i64 (x 3), .int .i64 (x 4)], .agg #[.int .i64 (y 0), .int .i64 (y 1), .int .i64 (y 2), .int .i64 (y 3), .int .i64 (y 4)]] w fun e w' => e = .returned (.int .i64 n) ∧ Below w.heap.size w w' := by
  subst h
  exact over_any x y w

theorem rows_at (w : World) (x y : Nat → Int) (t b : Nat) (hb : w.heap.size = b) : RowsOf (w.alloc (.cells #[.int .i64 (x 0), .int .i64 (x 1), .int .i64 (x 2), .int .i64 (x 3), .int .i64 (x 4), .int .i64 (y 0), .int .i64 (y 1), .int .i64 (y 2), .int .i64 (y 3), .int .i64 (y 4)] t)) (some ⟨b, 0, none⟩) [x, y] := by
  subst hb
  exact rows_two w x y t

set_option maxRecDepth 100000 in
set_option maxHeartbeats 20000000 in
theorem vecFits_any (x y z : Nat → Int) (w : World) (hn : NamesAt w) (ht : Tab w) :
    Calls Tryd.prog 6 #[.agg #[.int .i64 (x 0), .int .i64 (x 1), .int .i64 (x 2), .int .i64 (x 3), .int .i64 (x 4), .int .i64 (y 0), .int .i64 (y 1), .int .i64 (y 2), .int .i64 (y 3), .int .i64 (y 4), .int .i64 (z 0), .int .i64 (z 1), .int .i64 (z 2), .int .i64 (z 3), .int .i64 (z 4)]] w fun e w' => e = .returned (.bool true) ∧ Below w.heap.size w w' := by
  have HN := Lib.hid hn
  have HT := Lib.hid ht
  clear hn ht
  go_enter Tryd.func6, Tryd.ntmps6
  go_wp2
  go_cut [3, 4, 5] (fun s3 s4 s5 wc => ∃ p q s : Nat, s3 = .pointer (some ⟨p, 0, none⟩) ∧ s4 = .pointer (some ⟨q, 0, none⟩) ∧ s5 = .pointer (some ⟨s, 0, none⟩) ∧ Three w wc p q s (madeV x) (madeV y) (madeV z) x y z)
  case first =>
    refine wp_region_any follows_mixed ?_
    refine fits_any3 w x y z _ _ (cells15_new w x y z _) ((below1 w _).drew) ?_
    intro v3 v4 v5 v19 v20 v21 v22 v23 v24 v25 v26 v27 p q s wc e3 e4 e5 ra rb rc pq ps qs hp hq hs hcs hbb
    subst e3 e4 e5
    dsimp only [frF]
    go_wp2_with fail
    go_meet
    exact ⟨p, q, s, rfl, rfl, rfl, ⟨ra, rb, rc, pq, ps, qs, hp, hq, hs, hcs, hbb, rng_made x, rng_made y, rng_made z⟩⟩
  case rest =>
    obtain ⟨p, q, s, rfl, rfl, rfl, h3⟩ := hcut
    have H3 := Lib.hid h3
    clear h3
    go_wp2
    go_loopw [6] (fun i wr => ∃ (k : Nat) (a b c : Nat → Int), k ≤ 5 ∧ i = .int .i64 k ∧ Three w wr p q s a b c x y z) (fun i _ => 5 - (intOf i).toNat)
    case atStart => exact ⟨0, _, _, _, by omega, rfl, H3.out⟩
    case round =>
      obtain ⟨k, a, b, c, hk, rfl, h3⟩ := hrel
      have HK := Lib.hid h3
      clear h3 H3
      by_cases hlt : k < 5
      · have cx := (HK.out.cs.2 k hlt).1
        have cy := (HK.out.cs.2 k hlt).2.1
        have ca := HK.out.ra.cell hlt
        have cb := HK.out.rb.cell hlt
        have cc := HK.out.rc.cell hlt
        have fb := HK.out.rb.free k
        have fc := HK.out.rc.free k
        obtain ⟨a0, a1⟩ := HK.out.ga k hlt
        obtain ⟨b0, b1⟩ := HK.out.gb k hlt
        obtain ⟨c0, c1⟩ := HK.out.gc k hlt
        go_wp2
        · go_region
          have HK2 := Lib.hid (HK.out.putB hlt (v := max (b k) (a k)) (by omega))
          have cy2 := (HK2.out.cs.2 k hlt).2.1
          have cb2 := HK2.out.rb.cell hlt
          have e2 : upd b k (max (b k) (a k)) k = max (b k) (a k) := by simp [upd]
          rw [e2] at cb2
          have cc2 := HK2.out.rc.cell hlt
          have fc2 := HK2.out.rc.free k
          clear e2 cx cy ca cb cc fb fc
          go_wp2
          · go_region
            go_wp2
            go_roundw
            case rel => exact ⟨k + 1, _, _, _, by omega, by go_num, (HK2.out.putC hlt (v := max (c k) (max (b k) (a k))) (by omega)).drew.drew⟩
            case measure => simp [intOf]; omega
          · go_roundw
            case rel => exact ⟨k + 1, _, _, _, by omega, by go_num, HK2.out.drew⟩
            case measure => simp [intOf]; omega
        · go_region
          go_wp2
          go_roundw
          case rel => exact ⟨k + 1, _, _, _, by omega, by go_num, (HK.out.putC hlt (v := max (c k) (b k)) (by omega)).drew⟩
          case measure => simp [intOf]; omega
        · go_roundw
          case rel => exact ⟨k + 1, a, b, c, by omega, by go_num, HK.out⟩
          case measure => simp [intOf]; omega
      · obtain rfl : k = 5 := by omega
        have F4 := Lib.hid (fits_self a)
        have hov := over_zero a b HK.out.ga HK.out.gb
        go_upto_region 9 with fail
        go_cut [91] (fun s91 wc => s91 = .bool false ∧ Three w wc p q s a b c x y z)
        case first =>
          refine wp_region_any follows_mixed ?_
          refine fits_any9 _ _ _ _ _ _ _ _ _ _ _ _ _ _ _ _ _ _ _ _ _ _ _ _ _ _ _ _ _ _ _ _ _ _ _ _ _ _ _ _ _ _ _ _ _ _ _ _ _ _ _ _ _ _ _ _ _ _ _ _ _ _ _ _ _ _ _ _ _ _ _ _ _ _ _ _ _ _ _ _ _ _ _ _ _ _ _ _ _ _ _ _ _ _ _ _ _ _ _ _ _ _ _ _ _ _ _ _ _ _ _ _ _ _ _ _ _ _ _ _ _ _ _ _ _ _ _ _ _ _ _ _ _ _ _ _ _ w p q s a b c x y z _ _ _ _ rfl rfl rfl rfl (by first | exact hov | simpa using hov) (fun h1 h2 => fits_trans h1 h2) _ _ HK.out.drew _ _ _ _ _ _ _ _ _ _ _ _ _ _ _ _ _ _ _ _ _ _ _ _ _ _ _ _ _ _ ?_
          intro u62 u63 u64 u65 u66 u67 u68 u69 u70 u71 u72 u73 u74 u75 u76 u77 u78 u79 u80 u81 u82 u83 u84 u85 u86 u87 u88 u89 u90 wc hc
          dsimp only [fr9]
          go_wp2_with fail
          go_meet
          exact ⟨rfl, hc⟩
        case rest =>
          obtain ⟨rfl, h3⟩ := hcut
          replace HK := Lib.hid h3
          clear h3 hov F4
          have ia : Ints a := HK.out.ga.ints (by omega)
          have ib : Ints b := HK.out.gb.ints (by omega)
          have hS := plus_row a b (fun k hk => by have h1 := HK.out.ga k hk; have h2 := HK.out.gb k hk; unfold top; omega)
          have hM := minus_row (fun k => a k + b k) a (fun k hk => by have h1 := HK.out.ga k hk; have h2 := HK.out.gb k hk; unfold top; omega)
          have hT := times_row a (fun k hk => by have h1 := HK.out.ga k hk; unfold top; omega)
          have hAA := plus_row a a (fun k hk => by have h1 := HK.out.ga k hk; unfold top; omega)
          have is : Ints (fun k => a k + b k) := fun k hk => by
            have h1 := HK.out.ga k hk
            have h2 := HK.out.gb k hk
            show _ ≤ a k + b k ∧ a k + b k ≤ _
            omega
          have KS := Lib.hid (fun (A : Option Addr) (c : Nat) (w : World) (h : RowsOf w A [a, b]) => plus_to A c a b (fun k => a k + b k) 0 w h hS.1 hS.2)
          have KM := Lib.hid (fun (w : World) => minus_to (fun k => a k + b k) a b 0 w is ia hM.1 (fun k hk => by rw [hM.2 k hk]; omega))
          have KT := Lib.hid (fun (w : World) => times_to a (fun k => a k + a k) 2 0 w ia (by omega) (by omega) hT.1 hT.2)
          have KAA := Lib.hid (fun (A : Option Addr) (c : Nat) (w : World) (h : RowsOf w A [a, a]) => plus_to A c a a (fun k => a k + a k) 0 w h hAA.1 hAA.2)
          have q1 := fun w => eq_row (b 0) (b 1) (b 2) (b 3) (b 4) w
          have q2 := fun w => eq_row (a 0 + a 0) (a 1 + a 1) (a 2 + a 2) (a 3 + a 3) (a 4 + a 4) w
          have hg := vec_guard
          cases h1 : fitsV a b with
          | true =>
            have hle := (fitsV_iff a b).1 h1
            have hD := minus_row b a (fun k hk => by have g1 := HK.out.ga k hk; have g2 := HK.out.gb k hk; have g3 := hle k hk; unfold top; omega)
            have hDA := plus_row (fun k => b k - a k) a (fun k hk => by have g1 := HK.out.ga k hk; have g2 := HK.out.gb k hk; have g3 := hle k hk; unfold top; omega)
            have KD := Lib.hid (fun (w : World) => minus_to b a (fun k => b k - a k) 0 w ib ia hD.1 hD.2)
            have KDA := Lib.hid (fun (A : Option Addr) (c : Nat) (w : World) (h : RowsOf w A [fun k => b k - a k, a]) => plus_to A c (fun k => b k - a k) a b 0 w h hDA.1 (fun k hk => by rw [hDA.2 k hk]; omega))
            have F1 := Lib.hid h1
            clear h1 hle hD hDA hS hM hT hAA ia ib is
            go_wp2_with (first | refine wpList_load_row rfl 24 (.tmp 3) rfl p rfl 24 _ (0, 0) _ HK.out.ra Tryd.underlying24 rfl vec_size ?_ | refine wpList_load_row rfl 24 (.tmp 4) rfl q rfl 24 _ (0, 0) _ HK.out.rb Tryd.underlying24 rfl vec_size ?_)
            refine (KD.out _).mono ?_
            rintro e w1 ⟨rfl, hb⟩
            replace HK := Lib.hid ((HK.out).below hb)
            clear hb
            replace HK := Lib.hid (HK.out.alloc (.cells #[.int .i64 (b 0 - a 0), .int .i64 (b 1 - a 1), .int .i64 (b 2 - a 2), .int .i64 (b 3 - a 3), .int .i64 (b 4 - a 4)] 24))
            have HD := Lib.hid (RowAt.new w1 (fun k => b k - a k))
            go_wp2_with (first | refine wpList_load_row rfl 24 (.tmp 3) rfl p rfl 24 _ (0, 0) _ HK.out.ra Tryd.underlying24 rfl vec_size ?_ | refine wpList_load_row rfl 24 (.tmp 4) rfl q rfl 24 _ (0, 0) _ HK.out.rb Tryd.underlying24 rfl vec_size ?_)
            refine (fits_to a b true _ F1.out).mono ?_
            rintro e w2 ⟨rfl, hb⟩
            replace HK := Lib.hid ((HK.out).below hb)
            replace HD := Lib.hid (RowAt.below (HD.out) hb (HD.out).lt)
            clear hb
            go_wp2_with (first | refine wpList_load_row rfl 24 (.tmp 3) rfl p rfl 24 _ (0, 0) _ HK.out.ra Tryd.underlying24 rfl vec_size ?_ | refine wpList_load_row rfl 24 (.tmp 4) rfl q rfl 24 _ (0, 0) _ HK.out.rb Tryd.underlying24 rfl vec_size ?_)
            refine (KS.out _ _ _ (rows_at w2 a b _ _ rfl)).mono ?_
            rintro e w3 ⟨rfl, hb⟩
            replace HK := Lib.hid ((HK.out.alloc (.cells #[.int .i64 (a 0), .int .i64 (a 1), .int .i64 (a 2), .int .i64 (a 3), .int .i64 (a 4), .int .i64 (b 0), .int .i64 (b 1), .int .i64 (b 2), .int .i64 (b 3), .int .i64 (b 4)] 24)).below hb)
            replace HD := Lib.hid (RowAt.below (HD.out.alloc (.cells #[.int .i64 (a 0), .int .i64 (a 1), .int .i64 (a 2), .int .i64 (a 3), .int .i64 (a 4), .int .i64 (b 0), .int .i64 (b 1), .int .i64 (b 2), .int .i64 (b 3), .int .i64 (b 4)] 24)) hb (HD.out.alloc (.cells #[.int .i64 (a 0), .int .i64 (a 1), .int .i64 (a 2), .int .i64 (a 3), .int .i64 (a 4), .int .i64 (b 0), .int .i64 (b 1), .int .i64 (b 2), .int .i64 (b 3), .int .i64 (b 4)] 24)).lt)
            clear hb
            replace HK := Lib.hid (HK.out.alloc (.cells #[.int .i64 (a 0 + b 0), .int .i64 (a 1 + b 1), .int .i64 (a 2 + b 2), .int .i64 (a 3 + b 3), .int .i64 (a 4 + b 4)] 24))
            replace HD := Lib.hid (RowAt.alloc HD.out (.cells #[.int .i64 (a 0 + b 0), .int .i64 (a 1 + b 1), .int .i64 (a 2 + b 2), .int .i64 (a 3 + b 3), .int .i64 (a 4 + b 4)] 24))
            have HS := Lib.hid (RowAt.new w3 (fun k => a k + b k))
            go_wp2_with (first | refine wpList_load_row rfl 24 (.tmp 9) rfl w3.heap.size rfl 24 _ (0, 0) _ HS.out Tryd.underlying24 rfl vec_size ?_ | refine wpList_load_row rfl 24 (.tmp 3) rfl p rfl 24 _ (0, 0) _ HK.out.ra Tryd.underlying24 rfl vec_size ?_)
            refine (KM.out _).mono ?_
            rintro e w4 ⟨rfl, hb⟩
            replace HK := Lib.hid ((HK.out).below hb)
            replace HD := Lib.hid (RowAt.below (HD.out) hb (HD.out).lt)
            replace HS := Lib.hid (RowAt.below (HS.out) hb (HS.out).lt)
            clear hb
            replace HK := Lib.hid (HK.out.alloc (.cells #[.int .i64 (b 0), .int .i64 (b 1), .int .i64 (b 2), .int .i64 (b 3), .int .i64 (b 4)] 24))
            replace HD := Lib.hid (RowAt.alloc HD.out (.cells #[.int .i64 (b 0), .int .i64 (b 1), .int .i64 (b 2), .int .i64 (b 3), .int .i64 (b 4)] 24))
            replace HS := Lib.hid (RowAt.alloc HS.out (.cells #[.int .i64 (b 0), .int .i64 (b 1), .int .i64 (b 2), .int .i64 (b 3), .int .i64 (b 4)] 24))
            have HM := Lib.hid (RowAt.new w4 b)
            obtain ⟨M0, M1, M2, M3, M4⟩ := cells5f HM.out
            obtain ⟨B0, B1, B2, B3, B4⟩ := cells5f HK.out.rb
            go_wp2_with (first | refine wpList_load_row rfl 24 (.tmp 7) rfl w1.heap.size rfl 24 _ (0, 0) _ HD.out Tryd.underlying24 rfl vec_size ?_ | refine wpList_load_row rfl 24 (.tmp 3) rfl p rfl 24 _ (0, 0) _ HK.out.ra Tryd.underlying24 rfl vec_size ?_)
            refine (KDA.out _ _ _ (rows_at (w4.alloc (.cells #[.int .i64 (b 0), .int .i64 (b 1), .int .i64 (b 2), .int .i64 (b 3), .int .i64 (b 4)] 24)) (fun k => b k - a k) a _ _ (alloc_size _ _))).mono ?_
            rintro e w5 ⟨rfl, hb⟩
            replace HK := Lib.hid ((HK.out.alloc (.cells #[.int .i64 (b 0 - a 0), .int .i64 (b 1 - a 1), .int .i64 (b 2 - a 2), .int .i64 (b 3 - a 3), .int .i64 (b 4 - a 4), .int .i64 (a 0), .int .i64 (a 1), .int .i64 (a 2), .int .i64 (a 3), .int .i64 (a 4)] 24)).below hb)
            replace HD := Lib.hid (RowAt.below (HD.out.alloc (.cells #[.int .i64 (b 0 - a 0), .int .i64 (b 1 - a 1), .int .i64 (b 2 - a 2), .int .i64 (b 3 - a 3), .int .i64 (b 4 - a 4), .int .i64 (a 0), .int .i64 (a 1), .int .i64 (a 2), .int .i64 (a 3), .int .i64 (a 4)] 24)) hb (HD.out.alloc (.cells #[.int .i64 (b 0 - a 0), .int .i64 (b 1 - a 1), .int .i64 (b 2 - a 2), .int .i64 (b 3 - a 3), .int .i64 (b 4 - a 4), .int .i64 (a 0), .int .i64 (a 1), .int .i64 (a 2), .int .i64 (a 3), .int .i64 (a 4)] 24)).lt)
            replace HS := Lib.hid (RowAt.below (HS.out.alloc (.cells #[.int .i64 (b 0 - a 0), .int .i64 (b 1 - a 1), .int .i64 (b 2 - a 2), .int .i64 (b 3 - a 3), .int .i64 (b 4 - a 4), .int .i64 (a 0), .int .i64 (a 1), .int .i64 (a 2), .int .i64 (a 3), .int .i64 (a 4)] 24)) hb (HS.out.alloc (.cells #[.int .i64 (b 0 - a 0), .int .i64 (b 1 - a 1), .int .i64 (b 2 - a 2), .int .i64 (b 3 - a 3), .int .i64 (b 4 - a 4), .int .i64 (a 0), .int .i64 (a 1), .int .i64 (a 2), .int .i64 (a 3), .int .i64 (a 4)] 24)).lt)
            replace HM := Lib.hid (RowAt.below (HM.out.alloc (.cells #[.int .i64 (b 0 - a 0), .int .i64 (b 1 - a 1), .int .i64 (b 2 - a 2), .int .i64 (b 3 - a 3), .int .i64 (b 4 - a 4), .int .i64 (a 0), .int .i64 (a 1), .int .i64 (a 2), .int .i64 (a 3), .int .i64 (a 4)] 24)) hb (HM.out.alloc (.cells #[.int .i64 (b 0 - a 0), .int .i64 (b 1 - a 1), .int .i64 (b 2 - a 2), .int .i64 (b 3 - a 3), .int .i64 (b 4 - a 4), .int .i64 (a 0), .int .i64 (a 1), .int .i64 (a 2), .int .i64 (a 3), .int .i64 (a 4)] 24)).lt)
            clear hb
            replace HK := Lib.hid (HK.out.alloc (.cells #[.int .i64 (b 0), .int .i64 (b 1), .int .i64 (b 2), .int .i64 (b 3), .int .i64 (b 4)] 24))
            replace HD := Lib.hid (RowAt.alloc HD.out (.cells #[.int .i64 (b 0), .int .i64 (b 1), .int .i64 (b 2), .int .i64 (b 3), .int .i64 (b 4)] 24))
            replace HS := Lib.hid (RowAt.alloc HS.out (.cells #[.int .i64 (b 0), .int .i64 (b 1), .int .i64 (b 2), .int .i64 (b 3), .int .i64 (b 4)] 24))
            replace HM := Lib.hid (RowAt.alloc HM.out (.cells #[.int .i64 (b 0), .int .i64 (b 1), .int .i64 (b 2), .int .i64 (b 3), .int .i64 (b 4)] 24))
            have HU := Lib.hid (RowAt.new w5 b)
            clear M0 M1 M2 M3 M4 B0 B1 B2 B3 B4
            obtain ⟨U0, U1, U2, U3, U4⟩ := cells5f HU.out
            obtain ⟨B0, B1, B2, B3, B4⟩ := cells5f HK.out.rb
            go_wp2_with (first | refine wpList_load_row rfl 24 (.tmp 3) rfl p rfl 24 _ (0, 0) _ HK.out.ra Tryd.underlying24 rfl vec_size ?_)
            refine (KT.out _).mono ?_
            rintro e w6 ⟨rfl, hb⟩
            replace HK := Lib.hid ((HK.out).below hb)
            replace HD := Lib.hid (RowAt.below (HD.out) hb (HD.out).lt)
            replace HS := Lib.hid (RowAt.below (HS.out) hb (HS.out).lt)
            replace HM := Lib.hid (RowAt.below (HM.out) hb (HM.out).lt)
            replace HU := Lib.hid (RowAt.below (HU.out) hb (HU.out).lt)
            clear hb
            replace HK := Lib.hid (HK.out.alloc (.cells #[.int .i64 (a 0 + a 0), .int .i64 (a 1 + a 1), .int .i64 (a 2 + a 2), .int .i64 (a 3 + a 3), .int .i64 (a 4 + a 4)] 24))
            replace HD := Lib.hid (RowAt.alloc HD.out (.cells #[.int .i64 (a 0 + a 0), .int .i64 (a 1 + a 1), .int .i64 (a 2 + a 2), .int .i64 (a 3 + a 3), .int .i64 (a 4 + a 4)] 24))
            replace HS := Lib.hid (RowAt.alloc HS.out (.cells #[.int .i64 (a 0 + a 0), .int .i64 (a 1 + a 1), .int .i64 (a 2 + a 2), .int .i64 (a 3 + a 3), .int .i64 (a 4 + a 4)] 24))
            replace HM := Lib.hid (RowAt.alloc HM.out (.cells #[.int .i64 (a 0 + a 0), .int .i64 (a 1 + a 1), .int .i64 (a 2 + a 2), .int .i64 (a 3 + a 3), .int .i64 (a 4 + a 4)] 24))
            replace HU := Lib.hid (RowAt.alloc HU.out (.cells #[.int .i64 (a 0 + a 0), .int .i64 (a 1 + a 1), .int .i64 (a 2 + a 2), .int .i64 (a 3 + a 3), .int .i64 (a 4 + a 4)] 24))
            have HV := Lib.hid (RowAt.new w6 (fun k => a k + a k))
            clear U0 U1 U2 U3 U4 B0 B1 B2 B3 B4
            go_wp2_with (first | refine wpList_load_row rfl 24 (.tmp 3) rfl p rfl 24 _ (0, 0) _ HK.out.ra Tryd.underlying24 rfl vec_size ?_)
            refine (KAA.out _ _ _ (rows_at (w6.alloc (.cells #[.int .i64 (a 0 + a 0), .int .i64 (a 1 + a 1), .int .i64 (a 2 + a 2), .int .i64 (a 3 + a 3), .int .i64 (a 4 + a 4)] 24)) a a _ _ (alloc_size _ _))).mono ?_
            rintro e w7 ⟨rfl, hb⟩
            replace HK := Lib.hid ((HK.out.alloc (.cells #[.int .i64 (a 0), .int .i64 (a 1), .int .i64 (a 2), .int .i64 (a 3), .int .i64 (a 4), .int .i64 (a 0), .int .i64 (a 1), .int .i64 (a 2), .int .i64 (a 3), .int .i64 (a 4)] 24)).below hb)
            replace HD := Lib.hid (RowAt.below (HD.out.alloc (.cells #[.int .i64 (a 0), .int .i64 (a 1), .int .i64 (a 2), .int .i64 (a 3), .int .i64 (a 4), .int .i64 (a 0), .int .i64 (a 1), .int .i64 (a 2), .int .i64 (a 3), .int .i64 (a 4)] 24)) hb (HD.out.alloc (.cells #[.int .i64 (a 0), .int .i64 (a 1), .int .i64 (a 2), .int .i64 (a 3), .int .i64 (a 4), .int .i64 (a 0), .int .i64 (a 1), .int .i64 (a 2), .int .i64 (a 3), .int .i64 (a 4)] 24)).lt)
            replace HS := Lib.hid (RowAt.below (HS.out.alloc (.cells #[.int .i64 (a 0), .int .i64 (a 1), .int .i64 (a 2), .int .i64 (a 3), .int .i64 (a 4), .int .i64 (a 0), .int .i64 (a 1), .int .i64 (a 2), .int .i64 (a 3), .int .i64 (a 4)] 24)) hb (HS.out.alloc (.cells #[.int .i64 (a 0), .int .i64 (a 1), .int .i64 (a 2), .int .i64 (a 3), .int .i64 (a 4), .int .i64 (a 0), .int .i64 (a 1), .int .i64 (a 2), .int .i64 (a 3), .int .i64 (a 4)] 24)).lt)
            replace HM := Lib.hid (RowAt.below (HM.out.alloc (.cells #[.int .i64 (a 0), .int .i64 (a 1), .int .i64 (a 2), .int .i64 (a 3), .int .i64 (a 4), .int .i64 (a 0), .int .i64 (a 1), .int .i64 (a 2), .int .i64 (a 3), .int .i64 (a 4)] 24)) hb (HM.out.alloc (.cells #[.int .i64 (a 0), .int .i64 (a 1), .int .i64 (a 2), .int .i64 (a 3), .int .i64 (a 4), .int .i64 (a 0), .int .i64 (a 1), .int .i64 (a 2), .int .i64 (a 3), .int .i64 (a 4)] 24)).lt)
            replace HU := Lib.hid (RowAt.below (HU.out.alloc (.cells #[.int .i64 (a 0), .int .i64 (a 1), .int .i64 (a 2), .int .i64 (a 3), .int .i64 (a 4), .int .i64 (a 0), .int .i64 (a 1), .int .i64 (a 2), .int .i64 (a 3), .int .i64 (a 4)] 24)) hb (HU.out.alloc (.cells #[.int .i64 (a 0), .int .i64 (a 1), .int .i64 (a 2), .int .i64 (a 3), .int .i64 (a 4), .int .i64 (a 0), .int .i64 (a 1), .int .i64 (a 2), .int .i64 (a 3), .int .i64 (a 4)] 24)).lt)
            replace HV := Lib.hid (RowAt.below (HV.out.alloc (.cells #[.int .i64 (a 0), .int .i64 (a 1), .int .i64 (a 2), .int .i64 (a 3), .int .i64 (a 4), .int .i64 (a 0), .int .i64 (a 1), .int .i64 (a 2), .int .i64 (a 3), .int .i64 (a 4)] 24)) hb (HV.out.alloc (.cells #[.int .i64 (a 0), .int .i64 (a 1), .int .i64 (a 2), .int .i64 (a 3), .int .i64 (a 4), .int .i64 (a 0), .int .i64 (a 1), .int .i64 (a 2), .int .i64 (a 3), .int .i64 (a 4)] 24)).lt)
            clear hb
            replace HK := Lib.hid (HK.out.alloc (.cells #[.int .i64 (a 0 + a 0), .int .i64 (a 1 + a 1), .int .i64 (a 2 + a 2), .int .i64 (a 3 + a 3), .int .i64 (a 4 + a 4)] 24))
            replace HD := Lib.hid (RowAt.alloc HD.out (.cells #[.int .i64 (a 0 + a 0), .int .i64 (a 1 + a 1), .int .i64 (a 2 + a 2), .int .i64 (a 3 + a 3), .int .i64 (a 4 + a 4)] 24))
            replace HS := Lib.hid (RowAt.alloc HS.out (.cells #[.int .i64 (a 0 + a 0), .int .i64 (a 1 + a 1), .int .i64 (a 2 + a 2), .int .i64 (a 3 + a 3), .int .i64 (a 4 + a 4)] 24))
            replace HM := Lib.hid (RowAt.alloc HM.out (.cells #[.int .i64 (a 0 + a 0), .int .i64 (a 1 + a 1), .int .i64 (a 2 + a 2), .int .i64 (a 3 + a 3), .int .i64 (a 4 + a 4)] 24))
            replace HU := Lib.hid (RowAt.alloc HU.out (.cells #[.int .i64 (a 0 + a 0), .int .i64 (a 1 + a 1), .int .i64 (a 2 + a 2), .int .i64 (a 3 + a 3), .int .i64 (a 4 + a 4)] 24))
            replace HV := Lib.hid (RowAt.alloc HV.out (.cells #[.int .i64 (a 0 + a 0), .int .i64 (a 1 + a 1), .int .i64 (a 2 + a 2), .int .i64 (a 3 + a 3), .int .i64 (a 4 + a 4)] 24))
            have HW := Lib.hid (RowAt.new w7 (fun k => a k + a k))
            obtain ⟨V0, V1, V2, V3, V4⟩ := cells5f HV.out
            obtain ⟨W0, W1, W2, W3, W4⟩ := cells5f HW.out
            go_wp2_with fail
            refine (worksV_any _ (HN.out.below HK.out.hb) (HT.out.below HK.out.hb)).mono ?_
            rintro e w8 ⟨rfl, hb⟩
            replace HK := Lib.hid ((HK.out).below hb)
            replace HD := Lib.hid (RowAt.below (HD.out) hb (HD.out).lt)
            replace HS := Lib.hid (RowAt.below (HS.out) hb (HS.out).lt)
            replace HM := Lib.hid (RowAt.below (HM.out) hb (HM.out).lt)
            replace HU := Lib.hid (RowAt.below (HU.out) hb (HU.out).lt)
            replace HV := Lib.hid (RowAt.below (HV.out) hb (HV.out).lt)
            replace HW := Lib.hid (RowAt.below (HW.out) hb (HW.out).lt)
            clear hb
            go_wp2
            go_ret
            exact ⟨rfl, HK.out.hb⟩
          | false =>
            obtain ⟨k0, hk0, hlt0⟩ := fits_not h1
            have he := minus_none b a hk0 hlt0
            obtain ⟨e0, he0⟩ : ∃ e0, firstE (minusF b a) 5 = e0 := ⟨_, rfl⟩
            rw [he0] at he
            have KD := Lib.hid (fun (w : World) => minus_to b a (fun _ => 0) e0 w ib ia he0 (fun k _ => by rw [eachR_err (by rw [he0]; exact he)]))
            have heb : (e0 == 0) = false := by simpa using he
            have F1 := Lib.hid h1
            clear h1 hS hM hT hAA ia ib is hlt0 hk0 he he0
            go_wp2_with (first | refine wpList_load_row rfl 24 (.tmp 3) rfl p rfl 24 _ (0, 0) _ HK.out.ra Tryd.underlying24 rfl vec_size ?_ | refine wpList_load_row rfl 24 (.tmp 4) rfl q rfl 24 _ (0, 0) _ HK.out.rb Tryd.underlying24 rfl vec_size ?_)
            refine (KD.out _).mono ?_
            rintro e w1 ⟨rfl, hb⟩
            replace HK := Lib.hid ((HK.out).below hb)
            clear hb
            replace HK := Lib.hid (HK.out.alloc (.cells #[.int .i64 0, .int .i64 0, .int .i64 0, .int .i64 0, .int .i64 0] 24))
            have HD := Lib.hid (RowAt.new w1 (fun _ => 0))
            go_wp2_with (first | refine wpList_load_row rfl 24 (.tmp 3) rfl p rfl 24 _ (0, 0) _ HK.out.ra Tryd.underlying24 rfl vec_size ?_ | refine wpList_load_row rfl 24 (.tmp 4) rfl q rfl 24 _ (0, 0) _ HK.out.rb Tryd.underlying24 rfl vec_size ?_)
            refine (fits_to a b false _ F1.out).mono ?_
            rintro e w2 ⟨rfl, hb⟩
            replace HK := Lib.hid ((HK.out).below hb)
            replace HD := Lib.hid (RowAt.below (HD.out) hb (HD.out).lt)
            clear hb
            go_wp2_with (first | refine wpList_load_row rfl 24 (.tmp 3) rfl p rfl 24 _ (0, 0) _ HK.out.ra Tryd.underlying24 rfl vec_size ?_ | refine wpList_load_row rfl 24 (.tmp 4) rfl q rfl 24 _ (0, 0) _ HK.out.rb Tryd.underlying24 rfl vec_size ?_)
            refine (KS.out _ _ _ (rows_at w2 a b _ _ rfl)).mono ?_
            rintro e w3 ⟨rfl, hb⟩
            replace HK := Lib.hid ((HK.out.alloc (.cells #[.int .i64 (a 0), .int .i64 (a 1), .int .i64 (a 2), .int .i64 (a 3), .int .i64 (a 4), .int .i64 (b 0), .int .i64 (b 1), .int .i64 (b 2), .int .i64 (b 3), .int .i64 (b 4)] 24)).below hb)
            replace HD := Lib.hid (RowAt.below (HD.out.alloc (.cells #[.int .i64 (a 0), .int .i64 (a 1), .int .i64 (a 2), .int .i64 (a 3), .int .i64 (a 4), .int .i64 (b 0), .int .i64 (b 1), .int .i64 (b 2), .int .i64 (b 3), .int .i64 (b 4)] 24)) hb (HD.out.alloc (.cells #[.int .i64 (a 0), .int .i64 (a 1), .int .i64 (a 2), .int .i64 (a 3), .int .i64 (a 4), .int .i64 (b 0), .int .i64 (b 1), .int .i64 (b 2), .int .i64 (b 3), .int .i64 (b 4)] 24)).lt)
            clear hb
            replace HK := Lib.hid (HK.out.alloc (.cells #[.int .i64 (a 0 + b 0), .int .i64 (a 1 + b 1), .int .i64 (a 2 + b 2), .int .i64 (a 3 + b 3), .int .i64 (a 4 + b 4)] 24))
            replace HD := Lib.hid (RowAt.alloc HD.out (.cells #[.int .i64 (a 0 + b 0), .int .i64 (a 1 + b 1), .int .i64 (a 2 + b 2), .int .i64 (a 3 + b 3), .int .i64 (a 4 + b 4)] 24))
            have HS := Lib.hid (RowAt.new w3 (fun k => a k + b k))
            go_wp2_with (first | refine wpList_load_row rfl 24 (.tmp 9) rfl w3.heap.size rfl 24 _ (0, 0) _ HS.out Tryd.underlying24 rfl vec_size ?_ | refine wpList_load_row rfl 24 (.tmp 3) rfl p rfl 24 _ (0, 0) _ HK.out.ra Tryd.underlying24 rfl vec_size ?_)
            refine (KM.out _).mono ?_
            rintro e w4 ⟨rfl, hb⟩
            replace HK := Lib.hid ((HK.out).below hb)
            replace HD := Lib.hid (RowAt.below (HD.out) hb (HD.out).lt)
            replace HS := Lib.hid (RowAt.below (HS.out) hb (HS.out).lt)
            clear hb
            replace HK := Lib.hid (HK.out.alloc (.cells #[.int .i64 (b 0), .int .i64 (b 1), .int .i64 (b 2), .int .i64 (b 3), .int .i64 (b 4)] 24))
            replace HD := Lib.hid (RowAt.alloc HD.out (.cells #[.int .i64 (b 0), .int .i64 (b 1), .int .i64 (b 2), .int .i64 (b 3), .int .i64 (b 4)] 24))
            replace HS := Lib.hid (RowAt.alloc HS.out (.cells #[.int .i64 (b 0), .int .i64 (b 1), .int .i64 (b 2), .int .i64 (b 3), .int .i64 (b 4)] 24))
            have HM := Lib.hid (RowAt.new w4 b)
            obtain ⟨M0, M1, M2, M3, M4⟩ := cells5f HM.out
            obtain ⟨B0, B1, B2, B3, B4⟩ := cells5f HK.out.rb
            go_wp2_with (first | refine wpList_load_row rfl 24 (.tmp 3) rfl p rfl 24 _ (0, 0) _ HK.out.ra Tryd.underlying24 rfl vec_size ?_)
            refine (KT.out _).mono ?_
            rintro e w5 ⟨rfl, hb⟩
            replace HK := Lib.hid ((HK.out).below hb)
            replace HD := Lib.hid (RowAt.below (HD.out) hb (HD.out).lt)
            replace HS := Lib.hid (RowAt.below (HS.out) hb (HS.out).lt)
            replace HM := Lib.hid (RowAt.below (HM.out) hb (HM.out).lt)
            clear hb
            replace HK := Lib.hid (HK.out.alloc (.cells #[.int .i64 (a 0 + a 0), .int .i64 (a 1 + a 1), .int .i64 (a 2 + a 2), .int .i64 (a 3 + a 3), .int .i64 (a 4 + a 4)] 24))
            replace HD := Lib.hid (RowAt.alloc HD.out (.cells #[.int .i64 (a 0 + a 0), .int .i64 (a 1 + a 1), .int .i64 (a 2 + a 2), .int .i64 (a 3 + a 3), .int .i64 (a 4 + a 4)] 24))
            replace HS := Lib.hid (RowAt.alloc HS.out (.cells #[.int .i64 (a 0 + a 0), .int .i64 (a 1 + a 1), .int .i64 (a 2 + a 2), .int .i64 (a 3 + a 3), .int .i64 (a 4 + a 4)] 24))
            replace HM := Lib.hid (RowAt.alloc HM.out (.cells #[.int .i64 (a 0 + a 0), .int .i64 (a 1 + a 1), .int .i64 (a 2 + a 2), .int .i64 (a 3 + a 3), .int .i64 (a 4 + a 4)] 24))
            have HV := Lib.hid (RowAt.new w5 (fun k => a k + a k))
            clear M0 M1 M2 M3 M4 B0 B1 B2 B3 B4
            go_wp2_with (first | refine wpList_load_row rfl 24 (.tmp 3) rfl p rfl 24 _ (0, 0) _ HK.out.ra Tryd.underlying24 rfl vec_size ?_)
            refine (KAA.out _ _ _ (rows_at (w5.alloc (.cells #[.int .i64 (a 0 + a 0), .int .i64 (a 1 + a 1), .int .i64 (a 2 + a 2), .int .i64 (a 3 + a 3), .int .i64 (a 4 + a 4)] 24)) a a _ _ (alloc_size _ _))).mono ?_
            rintro e w6 ⟨rfl, hb⟩
            replace HK := Lib.hid ((HK.out.alloc (.cells #[.int .i64 (a 0), .int .i64 (a 1), .int .i64 (a 2), .int .i64 (a 3), .int .i64 (a 4), .int .i64 (a 0), .int .i64 (a 1), .int .i64 (a 2), .int .i64 (a 3), .int .i64 (a 4)] 24)).below hb)
            replace HD := Lib.hid (RowAt.below (HD.out.alloc (.cells #[.int .i64 (a 0), .int .i64 (a 1), .int .i64 (a 2), .int .i64 (a 3), .int .i64 (a 4), .int .i64 (a 0), .int .i64 (a 1), .int .i64 (a 2), .int .i64 (a 3), .int .i64 (a 4)] 24)) hb (HD.out.alloc (.cells #[.int .i64 (a 0), .int .i64 (a 1), .int .i64 (a 2), .int .i64 (a 3), .int .i64 (a 4), .int .i64 (a 0), .int .i64 (a 1), .int .i64 (a 2), .int .i64 (a 3), .int .i64 (a 4)] 24)).lt)
            replace HS := Lib.hid (RowAt.below (HS.out.alloc (.cells #[.int .i64 (a 0), .int .i64 (a 1), .int .i64 (a 2), .int .i64 (a 3), .int .i64 (a 4), .int .i64 (a 0), .int .i64 (a 1), .int .i64 (a 2), .int .i64 (a 3), .int .i64 (a 4)] 24)) hb (HS.out.alloc (.cells #[.int .i64 (a 0), .int .i64 (a 1), .int .i64 (a 2), .int .i64 (a 3), .int .i64 (a 4), .int .i64 (a 0), .int .i64 (a 1), .int .i64 (a 2), .int .i64 (a 3), .int .i64 (a 4)] 24)).lt)
            replace HM := Lib.hid (RowAt.below (HM.out.alloc (.cells #[.int .i64 (a 0), .int .i64 (a 1), .int .i64 (a 2), .int .i64 (a 3), .int .i64 (a 4), .int .i64 (a 0), .int .i64 (a 1), .int .i64 (a 2), .int .i64 (a 3), .int .i64 (a 4)] 24)) hb (HM.out.alloc (.cells #[.int .i64 (a 0), .int .i64 (a 1), .int .i64 (a 2), .int .i64 (a 3), .int .i64 (a 4), .int .i64 (a 0), .int .i64 (a 1), .int .i64 (a 2), .int .i64 (a 3), .int .i64 (a 4)] 24)).lt)
            replace HV := Lib.hid (RowAt.below (HV.out.alloc (.cells #[.int .i64 (a 0), .int .i64 (a 1), .int .i64 (a 2), .int .i64 (a 3), .int .i64 (a 4), .int .i64 (a 0), .int .i64 (a 1), .int .i64 (a 2), .int .i64 (a 3), .int .i64 (a 4)] 24)) hb (HV.out.alloc (.cells #[.int .i64 (a 0), .int .i64 (a 1), .int .i64 (a 2), .int .i64 (a 3), .int .i64 (a 4), .int .i64 (a 0), .int .i64 (a 1), .int .i64 (a 2), .int .i64 (a 3), .int .i64 (a 4)] 24)).lt)
            clear hb
            replace HK := Lib.hid (HK.out.alloc (.cells #[.int .i64 (a 0 + a 0), .int .i64 (a 1 + a 1), .int .i64 (a 2 + a 2), .int .i64 (a 3 + a 3), .int .i64 (a 4 + a 4)] 24))
            replace HD := Lib.hid (RowAt.alloc HD.out (.cells #[.int .i64 (a 0 + a 0), .int .i64 (a 1 + a 1), .int .i64 (a 2 + a 2), .int .i64 (a 3 + a 3), .int .i64 (a 4 + a 4)] 24))
            replace HS := Lib.hid (RowAt.alloc HS.out (.cells #[.int .i64 (a 0 + a 0), .int .i64 (a 1 + a 1), .int .i64 (a 2 + a 2), .int .i64 (a 3 + a 3), .int .i64 (a 4 + a 4)] 24))
            replace HM := Lib.hid (RowAt.alloc HM.out (.cells #[.int .i64 (a 0 + a 0), .int .i64 (a 1 + a 1), .int .i64 (a 2 + a 2), .int .i64 (a 3 + a 3), .int .i64 (a 4 + a 4)] 24))
            replace HV := Lib.hid (RowAt.alloc HV.out (.cells #[.int .i64 (a 0 + a 0), .int .i64 (a 1 + a 1), .int .i64 (a 2 + a 2), .int .i64 (a 3 + a 3), .int .i64 (a 4 + a 4)] 24))
            have HW := Lib.hid (RowAt.new w6 (fun k => a k + a k))
            obtain ⟨V0, V1, V2, V3, V4⟩ := cells5f HV.out
            obtain ⟨W0, W1, W2, W3, W4⟩ := cells5f HW.out
            go_wp2_with fail
            refine (worksV_any _ (HN.out.below HK.out.hb) (HT.out.below HK.out.hb)).mono ?_
            rintro e w7 ⟨rfl, hb⟩
            replace HK := Lib.hid ((HK.out).below hb)
            replace HD := Lib.hid (RowAt.below (HD.out) hb (HD.out).lt)
            replace HS := Lib.hid (RowAt.below (HS.out) hb (HS.out).lt)
            replace HM := Lib.hid (RowAt.below (HM.out) hb (HM.out).lt)
            replace HV := Lib.hid (RowAt.below (HV.out) hb (HV.out).lt)
            replace HW := Lib.hid (RowAt.below (HW.out) hb (HW.out).lt)
            clear hb
            go_wp2
            go_ret
            exact ⟨rfl, HK.out.hb⟩

end Go.Proofs.YtgmecaaogmpakaaDoor
