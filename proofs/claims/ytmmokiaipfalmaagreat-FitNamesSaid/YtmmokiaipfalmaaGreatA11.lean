/- Sorting a row of pods by sizes, with a method's value: the heap sort. Condition: the row lies in memory, its numbers are below 24. Sorting a row of pods by sizes, with a method's value: the pivot. Condition: the row lies in memory, its numbers are below 24. Sorting a row of pods by sizes, with a method's value: the patterns. Condition: the row lies in memory, its numbers are below 24. Sorting a row of pods by sizes, with a method's value: the partial insertion sort. Condition: the row lies in memory, its numbers are below 24. -/
import Derived.Test.YtmmokiaipfalmaaGreatA10
import Derived.Sort.WalkB3
import Derived.Sort.LotD4
import Derived.Test.YtmmokiaipfalmaaGreatShelfSort
import Derived.Sort.Walk7
import Derived.Sort.LotD5
import Derived.Sort.WalkA6

namespace Go.Proofs.YtmmokiaipfalmaaGreat
open Go.RowKit Go.Maps

set_option maxRecDepth 1000000 in
set_option maxHeartbeats 16000000 in
theorem siftP (F : Nat → Int) (RV : Value) (hC : CmpOk RV F) (b n cap : Nat) (hn : n ≤ 24) (w : World) (lo hi fst : Nat) (d : Array Nat) (W : World) (hS : Srt w b n d W) (hlo : lo ≤ hi) (hf : fst + hi ≤ n) :
    Calls Tryz.prog 348 #[.slice (some ⟨b, 0, none⟩) n cap, .int .i64 (lo : Int), .int .i64 (hi : Int), .int .i64 (fst : Int), .func (.func 84) #[RV] #[]] W fun e w' => e = .returned (.tuple #[]) ∧ Srt w b n (Go.Sort.siftDown (ltP F) hi fst lo d) w' := by
  have mixed : (Tryz.prog).follows Departure.mixedOrders = true := by kernel_rfl
  have HC := Lib.hid hC
  have S0 := Lib.hid hS
  have hds0 := hS.z
  clear hC hS
  go_enter Tryz.func348, Tryz.ntmps348
  go_wp2_with fail
  go_loopw [10] (fun s10 wr => ∃ (root : Nat) (dk : Array Nat), s10 = .int .i64 (root : Int) ∧ root ≤ hi ∧ Srt w b n dk wr ∧ Hid (Go.Sort.siftDown (ltP F) hi fst root dk = Go.Sort.siftDown (ltP F) hi fst lo d)) (fun s10 _ => hi - (intOf s10).toNat)
  case atStart => exact ⟨lo, d, rfl, hlo, S0.out, Lib.hid rfl⟩
  case round =>
    clear S0
    obtain ⟨root, dk, rfl, hr, hs1, HE⟩ := hrel
    have S1 := Lib.hid hs1
    clear hs1
    by_cases h0 : hi ≤ 2 * root + 1
    · have h0z : (hi : Int) ≤ 2 * (root : Int) + 1 := by omega
      go_wp2
      go_end0
      refine ⟨rfl, ?_⟩
      rw [← HE.out, Go.Sort.sd_end (ltP F) dk h0]
      exact S1.out
    have h0z : ¬ ((hi : Int) ≤ 2 * (root : Int) + 1) := by omega
    have rch : IntKind.i64.wrap (2 * (root : Int) + 1 + 1) = 2 * (root : Int) + 1 + 1 := IntWalk.i64_in _ (by omega)
    by_cases h1 : 2 * root + 2 < hi
    case neg =>
      have h1z : ¬ (2 * (root : Int) + 1 + 1 < (hi : Int)) := by omega
      have h1d : decide (2 * (root : Int) + 1 + 1 < (hi : Int)) = false := decide_eq_false h1z
      go_wp2_with fail
      go_big_region_o
      have S2 : Hid (Srt w b n dk wr.drew) := Lib.hid S1.out.drew
      clear S1
      generalize wr.drew = w2 at S2 ⊢
      go_wp2_with fail
      cases hG : ltP F dk[fst + root]! dk[fst + (2 * root + 1)]! with
      | true =>
        have HG : Hid (Go.Sort.siftDown (ltP F) hi fst (2 * root + 1) (Go.Sort.swp dk (fst + root) (fst + (2 * root + 1))) = Go.Sort.siftDown (ltP F) hi fst lo d) := Lib.hid (by rw [← HE.out, Go.Sort.sd_left_go (ltP F) dk (by omega) (fun h => absurd h h1) hG])
        obtain ⟨iN4, hiN4⟩ : ∃ q, q = fst + root := ⟨_, rfl⟩
        have ei4 : ((fst : Int) + (root : Int)).toNat = iN4 := by omega
        have pi4 : (0 : Int) ≤ (fst : Int) + (root : Int) := by omega
        have bi4 : (fst : Int) + (root : Int) < (n : Int) := by omega
        have ri4 : IntKind.i64.wrap ((fst : Int) + (root : Int)) = (fst : Int) + (root : Int) := IntWalk.i64_in _ (by omega)
        obtain ⟨jN4, hjN4⟩ : ∃ q, q = fst + (2 * root + 1) := ⟨_, rfl⟩
        have ej4 : ((fst : Int) + (2 * (root : Int) + 1)).toNat = jN4 := by omega
        have pj4 : (0 : Int) ≤ (fst : Int) + (2 * (root : Int) + 1) := by omega
        have bj4 : (fst : Int) + (2 * (root : Int) + 1) < (n : Int) := by omega
        have rj4 : IntKind.i64.wrap ((fst : Int) + (2 * (root : Int) + 1)) = (fst : Int) + (2 * (root : Int) + 1) := IntWalk.i64_in _ (by omega)
        obtain ⟨x4, hx4⟩ : ∃ x, x = dk[fst + root]! := ⟨_, rfl⟩
        obtain ⟨y4, hy4⟩ : ∃ x, x = dk[fst + (2 * root + 1)]! := ⟨_, rfl⟩
        have la4 := S2.out.cl (fst + root) (by omega)
        have lb4 := S2.out.cl (fst + (2 * root + 1)) (by omega)
        rw [← hx4] at la4
        rw [← hy4] at lb4
        rw [← hiN4] at la4
        rw [← hjN4] at lb4
        have hc4 := Lib.hid (fun q os => HC.out x4 y4 (by rw [hx4]; exact S2.out.l _) (by rw [hy4]; exact S2.out.l _) (Go.Sort.grow (w2.drewN q) os))
        have hd4 : decide (cmpS F x4 y4 < 0) = true := by rw [hx4, hy4]; exact hG
        have hv4 : cmpS F x4 y4 < 0 := of_decide_eq_true hd4
        clear hx4 hy4 hiN4 hjN4
        go_wp2_with fail
        go_quiet_grown (first | (go_at_call 84; refine Go.Calls.grown_of (hc4.out _ _)))
        have S3 : Hid (Srt w b n dk (Go.Sort.grow (w2.drewN nq) osq)) := Lib.hid (S2.out.grown nq osq)
        clear la4 lb4 hc4 S2
        generalize Go.Sort.grow (w2.drewN nq) osq = w3 at S3 ⊢
        clear nq osq ei4 pi4 bi4 ri4 ej4 pj4 bj4 rj4 hd4 hv4
        obtain ⟨iN5, hiN5⟩ : ∃ q, q = fst + root := ⟨_, rfl⟩
        have ei5 : ((fst : Int) + (root : Int)).toNat = iN5 := by omega
        have pi5 : (0 : Int) ≤ (fst : Int) + (root : Int) := by omega
        have bi5 : (fst : Int) + (root : Int) < (n : Int) := by omega
        have ri5 : IntKind.i64.wrap ((fst : Int) + (root : Int)) = (fst : Int) + (root : Int) := IntWalk.i64_in _ (by omega)
        obtain ⟨jN5, hjN5⟩ : ∃ q, q = fst + (2 * root + 1) := ⟨_, rfl⟩
        have ej5 : ((fst : Int) + (2 * (root : Int) + 1)).toNat = jN5 := by omega
        have pj5 : (0 : Int) ≤ (fst : Int) + (2 * (root : Int) + 1) := by omega
        have bj5 : (fst : Int) + (2 * (root : Int) + 1) < (n : Int) := by omega
        have rj5 : IntKind.i64.wrap ((fst : Int) + (2 * (root : Int) + 1)) = (fst : Int) + (2 * (root : Int) + 1) := IntWalk.i64_in _ (by omega)
        obtain ⟨x5, hx5⟩ : ∃ x, x = dk[fst + root]! := ⟨_, rfl⟩
        obtain ⟨y5, hy5⟩ : ∃ x, x = dk[fst + (2 * root + 1)]! := ⟨_, rfl⟩
        have S4 : Hid (Srt w b n (Go.Sort.swp dk (fst + root) (fst + (2 * root + 1))) ((w3.setCell ⟨b, iN5, none⟩ (.int .i64 (y5 : Int))).setCell ⟨b, jN5, none⟩ (.int .i64 (x5 : Int))).drew) := Lib.hid (by rw [hiN5, hjN5, hx5, hy5]; exact S3.out.swap (i := fst + root) (j := fst + (2 * root + 1)) (by omega) (by omega))
        obtain ⟨ca5, fa5⟩ := S3.out.r.c (fst + root) (by omega)
        obtain ⟨cb5, fb5⟩ := S3.out.r.c (fst + (2 * root + 1)) (by omega)
        obtain ⟨u5, cc5⟩ := S3.out.c2 (fst + root) (fst + (2 * root + 1)) (by omega) (by omega) (.int .i64 (y5 : Int))
        rw [← hx5] at ca5
        rw [← hy5] at cb5
        rw [← hiN5] at ca5 fa5 cc5
        rw [← hjN5] at cb5 fb5 cc5
        clear S3 hx5 hy5 hiN5 hjN5
        go_wp2_with fail
        go_big_region_o
        clear ca5 cb5 cc5 fa5 fb5
        generalize ((w3.setCell ⟨b, iN5, none⟩ (.int .i64 (y5 : Int))).setCell ⟨b, jN5, none⟩ (.int .i64 (x5 : Int))).drew = w4 at S4 ⊢
        clear ei5 pi5 bi5 ri5 ej5 pj5 bj5 rj5
        go_wp2
        go_roundw
        case rel => exact ⟨2 * root + 1, Go.Sort.swp dk (fst + root) (fst + (2 * root + 1)), by go_num, by omega, S4.out, HG⟩
        case measure => simp [intOf]; omega
      | false =>
        have HG : Hid (dk = Go.Sort.siftDown (ltP F) hi fst lo d) := Lib.hid (by rw [← HE.out, Go.Sort.sd_left_stop (ltP F) dk (by omega) (fun h => absurd h h1) hG])
        obtain ⟨iN6, hiN6⟩ : ∃ q, q = fst + root := ⟨_, rfl⟩
        have ei6 : ((fst : Int) + (root : Int)).toNat = iN6 := by omega
        have pi6 : (0 : Int) ≤ (fst : Int) + (root : Int) := by omega
        have bi6 : (fst : Int) + (root : Int) < (n : Int) := by omega
        have ri6 : IntKind.i64.wrap ((fst : Int) + (root : Int)) = (fst : Int) + (root : Int) := IntWalk.i64_in _ (by omega)
        obtain ⟨jN6, hjN6⟩ : ∃ q, q = fst + (2 * root + 1) := ⟨_, rfl⟩
        have ej6 : ((fst : Int) + (2 * (root : Int) + 1)).toNat = jN6 := by omega
        have pj6 : (0 : Int) ≤ (fst : Int) + (2 * (root : Int) + 1) := by omega
        have bj6 : (fst : Int) + (2 * (root : Int) + 1) < (n : Int) := by omega
        have rj6 : IntKind.i64.wrap ((fst : Int) + (2 * (root : Int) + 1)) = (fst : Int) + (2 * (root : Int) + 1) := IntWalk.i64_in _ (by omega)
        obtain ⟨x6, hx6⟩ : ∃ x, x = dk[fst + root]! := ⟨_, rfl⟩
        obtain ⟨y6, hy6⟩ : ∃ x, x = dk[fst + (2 * root + 1)]! := ⟨_, rfl⟩
        have la6 := S2.out.cl (fst + root) (by omega)
        have lb6 := S2.out.cl (fst + (2 * root + 1)) (by omega)
        rw [← hx6] at la6
        rw [← hy6] at lb6
        rw [← hiN6] at la6
        rw [← hjN6] at lb6
        have hc6 := Lib.hid (fun q os => HC.out x6 y6 (by rw [hx6]; exact S2.out.l _) (by rw [hy6]; exact S2.out.l _) (Go.Sort.grow (w2.drewN q) os))
        have hd6 : decide (cmpS F x6 y6 < 0) = false := by rw [hx6, hy6]; exact hG
        have hv6 : ¬ cmpS F x6 y6 < 0 := of_decide_eq_false hd6
        clear hx6 hy6 hiN6 hjN6
        go_wp2_with fail
        go_quiet_grown (first | (go_at_call 84; refine Go.Calls.grown_of (hc6.out _ _)))
        have S3 : Hid (Srt w b n dk (Go.Sort.grow (w2.drewN nq) osq)) := Lib.hid (S2.out.grown nq osq)
        clear la6 lb6 hc6 S2
        generalize Go.Sort.grow (w2.drewN nq) osq = w3 at S3 ⊢
        clear nq osq ei6 pi6 bi6 ri6 ej6 pj6 bj6 rj6 hd6 hv6
        go_wp2
        (try simp only [Exit.inBlock, Exit.then])
        refine bodyPost_ret (results_none rfl _ _ _) rfl ?_
        refine ⟨rfl, ?_⟩
        rw [← HG.out]
        exact S3.out
    have h1z : 2 * (root : Int) + 1 + 1 < (hi : Int) := by omega
    have h1d : decide (2 * (root : Int) + 1 + 1 < (hi : Int)) = true := decide_eq_true h1z
    cases hL : ltP F dk[fst + (2 * root + 1)]! dk[fst + (2 * root + 2)]! with
    | true =>
      obtain ⟨iN7, hiN7⟩ : ∃ q, q = fst + (2 * root + 1) := ⟨_, rfl⟩
      have ei7 : ((fst : Int) + (2 * (root : Int) + 1)).toNat = iN7 := by omega
      have pi7 : (0 : Int) ≤ (fst : Int) + (2 * (root : Int) + 1) := by omega
      have bi7 : (fst : Int) + (2 * (root : Int) + 1) < (n : Int) := by omega
      have ri7 : IntKind.i64.wrap ((fst : Int) + (2 * (root : Int) + 1)) = (fst : Int) + (2 * (root : Int) + 1) := IntWalk.i64_in _ (by omega)
      obtain ⟨jN7, hjN7⟩ : ∃ q, q = fst + (2 * root + 2) := ⟨_, rfl⟩
      have ej7 : ((fst : Int) + (2 * (root : Int) + 1) + 1).toNat = jN7 := by omega
      have pj7 : (0 : Int) ≤ (fst : Int) + (2 * (root : Int) + 1) + 1 := by omega
      have bj7 : (fst : Int) + (2 * (root : Int) + 1) + 1 < (n : Int) := by omega
      have rj7 : IntKind.i64.wrap ((fst : Int) + (2 * (root : Int) + 1) + 1) = (fst : Int) + (2 * (root : Int) + 1) + 1 := IntWalk.i64_in _ (by omega)
      obtain ⟨x7, hx7⟩ : ∃ x, x = dk[fst + (2 * root + 1)]! := ⟨_, rfl⟩
      obtain ⟨y7, hy7⟩ : ∃ x, x = dk[fst + (2 * root + 2)]! := ⟨_, rfl⟩
      have la7 := S1.out.cl (fst + (2 * root + 1)) (by omega)
      have lb7 := S1.out.cl (fst + (2 * root + 2)) (by omega)
      rw [← hx7] at la7
      rw [← hy7] at lb7
      rw [← hiN7] at la7
      rw [← hjN7] at lb7
      have hc7 := Lib.hid (fun q os => HC.out x7 y7 (by rw [hx7]; exact S1.out.l _) (by rw [hy7]; exact S1.out.l _) (Go.Sort.grow (wr.drewN q) os))
      have hd7 : decide (cmpS F x7 y7 < 0) = true := by rw [hx7, hy7]; exact hL
      have hv7 : cmpS F x7 y7 < 0 := of_decide_eq_true hd7
      clear hx7 hy7 hiN7 hjN7
      go_wp2_with fail
      go_quiet_grown (first | (go_at_call 84; refine Go.Calls.grown_of (hc7.out _ _)))
      have S2 : Hid (Srt w b n dk (Go.Sort.grow (wr.drewN nq) osq)) := Lib.hid (S1.out.grown nq osq)
      clear la7 lb7 hc7 S1
      generalize Go.Sort.grow (wr.drewN nq) osq = w2 at S2 ⊢
      clear nq osq ei7 pi7 bi7 ri7 ej7 pj7 bj7 rj7 hd7 hv7
      go_wp2_with fail
      cases hG : ltP F dk[fst + root]! dk[fst + (2 * root + 2)]! with
      | true =>
        have HG : Hid (Go.Sort.siftDown (ltP F) hi fst (2 * root + 2) (Go.Sort.swp dk (fst + root) (fst + (2 * root + 2))) = Go.Sort.siftDown (ltP F) hi fst lo d) := Lib.hid (by rw [← HE.out, Go.Sort.sd_right_go (ltP F) dk h1 hL hG])
        obtain ⟨iN8, hiN8⟩ : ∃ q, q = fst + root := ⟨_, rfl⟩
        have ei8 : ((fst : Int) + (root : Int)).toNat = iN8 := by omega
        have pi8 : (0 : Int) ≤ (fst : Int) + (root : Int) := by omega
        have bi8 : (fst : Int) + (root : Int) < (n : Int) := by omega
        have ri8 : IntKind.i64.wrap ((fst : Int) + (root : Int)) = (fst : Int) + (root : Int) := IntWalk.i64_in _ (by omega)
        obtain ⟨jN8, hjN8⟩ : ∃ q, q = fst + (2 * root + 2) := ⟨_, rfl⟩
        have ej8 : ((fst : Int) + (2 * (root : Int) + 1 + 1)).toNat = jN8 := by omega
        have pj8 : (0 : Int) ≤ (fst : Int) + (2 * (root : Int) + 1 + 1) := by omega
        have bj8 : (fst : Int) + (2 * (root : Int) + 1 + 1) < (n : Int) := by omega
        have rj8 : IntKind.i64.wrap ((fst : Int) + (2 * (root : Int) + 1 + 1)) = (fst : Int) + (2 * (root : Int) + 1 + 1) := IntWalk.i64_in _ (by omega)
        obtain ⟨x8, hx8⟩ : ∃ x, x = dk[fst + root]! := ⟨_, rfl⟩
        obtain ⟨y8, hy8⟩ : ∃ x, x = dk[fst + (2 * root + 2)]! := ⟨_, rfl⟩
        have la8 := S2.out.cl (fst + root) (by omega)
        have lb8 := S2.out.cl (fst + (2 * root + 2)) (by omega)
        rw [← hx8] at la8
        rw [← hy8] at lb8
        rw [← hiN8] at la8
        rw [← hjN8] at lb8
        have hc8 := Lib.hid (fun q os => HC.out x8 y8 (by rw [hx8]; exact S2.out.l _) (by rw [hy8]; exact S2.out.l _) (Go.Sort.grow (w2.drewN q) os))
        have hd8 : decide (cmpS F x8 y8 < 0) = true := by rw [hx8, hy8]; exact hG
        have hv8 : cmpS F x8 y8 < 0 := of_decide_eq_true hd8
        clear hx8 hy8 hiN8 hjN8
        go_wp2_with fail
        go_quiet_grown (first | (go_at_call 84; refine Go.Calls.grown_of (hc8.out _ _)))
        have S3 : Hid (Srt w b n dk (Go.Sort.grow (w2.drewN nq) osq)) := Lib.hid (S2.out.grown nq osq)
        clear la8 lb8 hc8 S2
        generalize Go.Sort.grow (w2.drewN nq) osq = w3 at S3 ⊢
        clear nq osq ei8 pi8 bi8 ri8 ej8 pj8 bj8 rj8 hd8 hv8
        obtain ⟨iN9, hiN9⟩ : ∃ q, q = fst + root := ⟨_, rfl⟩
        have ei9 : ((fst : Int) + (root : Int)).toNat = iN9 := by omega
        have pi9 : (0 : Int) ≤ (fst : Int) + (root : Int) := by omega
        have bi9 : (fst : Int) + (root : Int) < (n : Int) := by omega
        have ri9 : IntKind.i64.wrap ((fst : Int) + (root : Int)) = (fst : Int) + (root : Int) := IntWalk.i64_in _ (by omega)
        obtain ⟨jN9, hjN9⟩ : ∃ q, q = fst + (2 * root + 2) := ⟨_, rfl⟩
        have ej9 : ((fst : Int) + (2 * (root : Int) + 1 + 1)).toNat = jN9 := by omega
        have pj9 : (0 : Int) ≤ (fst : Int) + (2 * (root : Int) + 1 + 1) := by omega
        have bj9 : (fst : Int) + (2 * (root : Int) + 1 + 1) < (n : Int) := by omega
        have rj9 : IntKind.i64.wrap ((fst : Int) + (2 * (root : Int) + 1 + 1)) = (fst : Int) + (2 * (root : Int) + 1 + 1) := IntWalk.i64_in _ (by omega)
        obtain ⟨x9, hx9⟩ : ∃ x, x = dk[fst + root]! := ⟨_, rfl⟩
        obtain ⟨y9, hy9⟩ : ∃ x, x = dk[fst + (2 * root + 2)]! := ⟨_, rfl⟩
        have S4 : Hid (Srt w b n (Go.Sort.swp dk (fst + root) (fst + (2 * root + 2))) ((w3.setCell ⟨b, iN9, none⟩ (.int .i64 (y9 : Int))).setCell ⟨b, jN9, none⟩ (.int .i64 (x9 : Int))).drew) := Lib.hid (by rw [hiN9, hjN9, hx9, hy9]; exact S3.out.swap (i := fst + root) (j := fst + (2 * root + 2)) (by omega) (by omega))
        obtain ⟨ca9, fa9⟩ := S3.out.r.c (fst + root) (by omega)
        obtain ⟨cb9, fb9⟩ := S3.out.r.c (fst + (2 * root + 2)) (by omega)
        obtain ⟨u9, cc9⟩ := S3.out.c2 (fst + root) (fst + (2 * root + 2)) (by omega) (by omega) (.int .i64 (y9 : Int))
        rw [← hx9] at ca9
        rw [← hy9] at cb9
        rw [← hiN9] at ca9 fa9 cc9
        rw [← hjN9] at cb9 fb9 cc9
        clear S3 hx9 hy9 hiN9 hjN9
        go_wp2_with fail
        go_big_region_o
        clear ca9 cb9 cc9 fa9 fb9
        generalize ((w3.setCell ⟨b, iN9, none⟩ (.int .i64 (y9 : Int))).setCell ⟨b, jN9, none⟩ (.int .i64 (x9 : Int))).drew = w4 at S4 ⊢
        clear ei9 pi9 bi9 ri9 ej9 pj9 bj9 rj9
        go_wp2
        go_roundw
        case rel => exact ⟨2 * root + 2, Go.Sort.swp dk (fst + root) (fst + (2 * root + 2)), by go_num, by omega, S4.out, HG⟩
        case measure => simp [intOf]; omega
      | false =>
        have HG : Hid (dk = Go.Sort.siftDown (ltP F) hi fst lo d) := Lib.hid (by rw [← HE.out, Go.Sort.sd_right_stop (ltP F) dk h1 hL hG])
        obtain ⟨iN10, hiN10⟩ : ∃ q, q = fst + root := ⟨_, rfl⟩
        have ei10 : ((fst : Int) + (root : Int)).toNat = iN10 := by omega
        have pi10 : (0 : Int) ≤ (fst : Int) + (root : Int) := by omega
        have bi10 : (fst : Int) + (root : Int) < (n : Int) := by omega
        have ri10 : IntKind.i64.wrap ((fst : Int) + (root : Int)) = (fst : Int) + (root : Int) := IntWalk.i64_in _ (by omega)
        obtain ⟨jN10, hjN10⟩ : ∃ q, q = fst + (2 * root + 2) := ⟨_, rfl⟩
        have ej10 : ((fst : Int) + (2 * (root : Int) + 1 + 1)).toNat = jN10 := by omega
        have pj10 : (0 : Int) ≤ (fst : Int) + (2 * (root : Int) + 1 + 1) := by omega
        have bj10 : (fst : Int) + (2 * (root : Int) + 1 + 1) < (n : Int) := by omega
        have rj10 : IntKind.i64.wrap ((fst : Int) + (2 * (root : Int) + 1 + 1)) = (fst : Int) + (2 * (root : Int) + 1 + 1) := IntWalk.i64_in _ (by omega)
        obtain ⟨x10, hx10⟩ : ∃ x, x = dk[fst + root]! := ⟨_, rfl⟩
        obtain ⟨y10, hy10⟩ : ∃ x, x = dk[fst + (2 * root + 2)]! := ⟨_, rfl⟩
        have la10 := S2.out.cl (fst + root) (by omega)
        have lb10 := S2.out.cl (fst + (2 * root + 2)) (by omega)
        rw [← hx10] at la10
        rw [← hy10] at lb10
        rw [← hiN10] at la10
        rw [← hjN10] at lb10
        have hc10 := Lib.hid (fun q os => HC.out x10 y10 (by rw [hx10]; exact S2.out.l _) (by rw [hy10]; exact S2.out.l _) (Go.Sort.grow (w2.drewN q) os))
        have hd10 : decide (cmpS F x10 y10 < 0) = false := by rw [hx10, hy10]; exact hG
        have hv10 : ¬ cmpS F x10 y10 < 0 := of_decide_eq_false hd10
        clear hx10 hy10 hiN10 hjN10
        go_wp2_with fail
        go_quiet_grown (first | (go_at_call 84; refine Go.Calls.grown_of (hc10.out _ _)))
        have S3 : Hid (Srt w b n dk (Go.Sort.grow (w2.drewN nq) osq)) := Lib.hid (S2.out.grown nq osq)
        clear la10 lb10 hc10 S2
        generalize Go.Sort.grow (w2.drewN nq) osq = w3 at S3 ⊢
        clear nq osq ei10 pi10 bi10 ri10 ej10 pj10 bj10 rj10 hd10 hv10
        go_wp2
        (try simp only [Exit.inBlock, Exit.then])
        refine bodyPost_ret (results_none rfl _ _ _) rfl ?_
        refine ⟨rfl, ?_⟩
        rw [← HG.out]
        exact S3.out
    | false =>
      obtain ⟨iN11, hiN11⟩ : ∃ q, q = fst + (2 * root + 1) := ⟨_, rfl⟩
      have ei11 : ((fst : Int) + (2 * (root : Int) + 1)).toNat = iN11 := by omega
      have pi11 : (0 : Int) ≤ (fst : Int) + (2 * (root : Int) + 1) := by omega
      have bi11 : (fst : Int) + (2 * (root : Int) + 1) < (n : Int) := by omega
      have ri11 : IntKind.i64.wrap ((fst : Int) + (2 * (root : Int) + 1)) = (fst : Int) + (2 * (root : Int) + 1) := IntWalk.i64_in _ (by omega)
      obtain ⟨jN11, hjN11⟩ : ∃ q, q = fst + (2 * root + 2) := ⟨_, rfl⟩
      have ej11 : ((fst : Int) + (2 * (root : Int) + 1) + 1).toNat = jN11 := by omega
      have pj11 : (0 : Int) ≤ (fst : Int) + (2 * (root : Int) + 1) + 1 := by omega
      have bj11 : (fst : Int) + (2 * (root : Int) + 1) + 1 < (n : Int) := by omega
      have rj11 : IntKind.i64.wrap ((fst : Int) + (2 * (root : Int) + 1) + 1) = (fst : Int) + (2 * (root : Int) + 1) + 1 := IntWalk.i64_in _ (by omega)
      obtain ⟨x11, hx11⟩ : ∃ x, x = dk[fst + (2 * root + 1)]! := ⟨_, rfl⟩
      obtain ⟨y11, hy11⟩ : ∃ x, x = dk[fst + (2 * root + 2)]! := ⟨_, rfl⟩
      have la11 := S1.out.cl (fst + (2 * root + 1)) (by omega)
      have lb11 := S1.out.cl (fst + (2 * root + 2)) (by omega)
      rw [← hx11] at la11
      rw [← hy11] at lb11
      rw [← hiN11] at la11
      rw [← hjN11] at lb11
      have hc11 := Lib.hid (fun q os => HC.out x11 y11 (by rw [hx11]; exact S1.out.l _) (by rw [hy11]; exact S1.out.l _) (Go.Sort.grow (wr.drewN q) os))
      have hd11 : decide (cmpS F x11 y11 < 0) = false := by rw [hx11, hy11]; exact hL
      have hv11 : ¬ cmpS F x11 y11 < 0 := of_decide_eq_false hd11
      clear hx11 hy11 hiN11 hjN11
      go_wp2_with fail
      go_quiet_grown (first | (go_at_call 84; refine Go.Calls.grown_of (hc11.out _ _)))
      have S2 : Hid (Srt w b n dk (Go.Sort.grow (wr.drewN nq) osq)) := Lib.hid (S1.out.grown nq osq)
      clear la11 lb11 hc11 S1
      generalize Go.Sort.grow (wr.drewN nq) osq = w2 at S2 ⊢
      clear nq osq ei11 pi11 bi11 ri11 ej11 pj11 bj11 rj11 hd11 hv11
      go_wp2_with fail
      cases hG : ltP F dk[fst + root]! dk[fst + (2 * root + 1)]! with
      | true =>
        have HG : Hid (Go.Sort.siftDown (ltP F) hi fst (2 * root + 1) (Go.Sort.swp dk (fst + root) (fst + (2 * root + 1))) = Go.Sort.siftDown (ltP F) hi fst lo d) := Lib.hid (by rw [← HE.out, Go.Sort.sd_left_go (ltP F) dk (by omega) (fun _ => hL) hG])
        obtain ⟨iN12, hiN12⟩ : ∃ q, q = fst + root := ⟨_, rfl⟩
        have ei12 : ((fst : Int) + (root : Int)).toNat = iN12 := by omega
        have pi12 : (0 : Int) ≤ (fst : Int) + (root : Int) := by omega
        have bi12 : (fst : Int) + (root : Int) < (n : Int) := by omega
        have ri12 : IntKind.i64.wrap ((fst : Int) + (root : Int)) = (fst : Int) + (root : Int) := IntWalk.i64_in _ (by omega)
        obtain ⟨jN12, hjN12⟩ : ∃ q, q = fst + (2 * root + 1) := ⟨_, rfl⟩
        have ej12 : ((fst : Int) + (2 * (root : Int) + 1)).toNat = jN12 := by omega
        have pj12 : (0 : Int) ≤ (fst : Int) + (2 * (root : Int) + 1) := by omega
        have bj12 : (fst : Int) + (2 * (root : Int) + 1) < (n : Int) := by omega
        have rj12 : IntKind.i64.wrap ((fst : Int) + (2 * (root : Int) + 1)) = (fst : Int) + (2 * (root : Int) + 1) := IntWalk.i64_in _ (by omega)
        obtain ⟨x12, hx12⟩ : ∃ x, x = dk[fst + root]! := ⟨_, rfl⟩
        obtain ⟨y12, hy12⟩ : ∃ x, x = dk[fst + (2 * root + 1)]! := ⟨_, rfl⟩
        have la12 := S2.out.cl (fst + root) (by omega)
        have lb12 := S2.out.cl (fst + (2 * root + 1)) (by omega)
        rw [← hx12] at la12
        rw [← hy12] at lb12
        rw [← hiN12] at la12
        rw [← hjN12] at lb12
        have hc12 := Lib.hid (fun q os => HC.out x12 y12 (by rw [hx12]; exact S2.out.l _) (by rw [hy12]; exact S2.out.l _) (Go.Sort.grow (w2.drewN q) os))
        have hd12 : decide (cmpS F x12 y12 < 0) = true := by rw [hx12, hy12]; exact hG
        have hv12 : cmpS F x12 y12 < 0 := of_decide_eq_true hd12
        clear hx12 hy12 hiN12 hjN12
        go_wp2_with fail
        go_quiet_grown (first | (go_at_call 84; refine Go.Calls.grown_of (hc12.out _ _)))
        have S3 : Hid (Srt w b n dk (Go.Sort.grow (w2.drewN nq) osq)) := Lib.hid (S2.out.grown nq osq)
        clear la12 lb12 hc12 S2
        generalize Go.Sort.grow (w2.drewN nq) osq = w3 at S3 ⊢
        clear nq osq ei12 pi12 bi12 ri12 ej12 pj12 bj12 rj12 hd12 hv12
        obtain ⟨iN13, hiN13⟩ : ∃ q, q = fst + root := ⟨_, rfl⟩
        have ei13 : ((fst : Int) + (root : Int)).toNat = iN13 := by omega
        have pi13 : (0 : Int) ≤ (fst : Int) + (root : Int) := by omega
        have bi13 : (fst : Int) + (root : Int) < (n : Int) := by omega
        have ri13 : IntKind.i64.wrap ((fst : Int) + (root : Int)) = (fst : Int) + (root : Int) := IntWalk.i64_in _ (by omega)
        obtain ⟨jN13, hjN13⟩ : ∃ q, q = fst + (2 * root + 1) := ⟨_, rfl⟩
        have ej13 : ((fst : Int) + (2 * (root : Int) + 1)).toNat = jN13 := by omega
        have pj13 : (0 : Int) ≤ (fst : Int) + (2 * (root : Int) + 1) := by omega
        have bj13 : (fst : Int) + (2 * (root : Int) + 1) < (n : Int) := by omega
        have rj13 : IntKind.i64.wrap ((fst : Int) + (2 * (root : Int) + 1)) = (fst : Int) + (2 * (root : Int) + 1) := IntWalk.i64_in _ (by omega)
        obtain ⟨x13, hx13⟩ : ∃ x, x = dk[fst + root]! := ⟨_, rfl⟩
        obtain ⟨y13, hy13⟩ : ∃ x, x = dk[fst + (2 * root + 1)]! := ⟨_, rfl⟩
        have S4 : Hid (Srt w b n (Go.Sort.swp dk (fst + root) (fst + (2 * root + 1))) ((w3.setCell ⟨b, iN13, none⟩ (.int .i64 (y13 : Int))).setCell ⟨b, jN13, none⟩ (.int .i64 (x13 : Int))).drew) := Lib.hid (by rw [hiN13, hjN13, hx13, hy13]; exact S3.out.swap (i := fst + root) (j := fst + (2 * root + 1)) (by omega) (by omega))
        obtain ⟨ca13, fa13⟩ := S3.out.r.c (fst + root) (by omega)
        obtain ⟨cb13, fb13⟩ := S3.out.r.c (fst + (2 * root + 1)) (by omega)
        obtain ⟨u13, cc13⟩ := S3.out.c2 (fst + root) (fst + (2 * root + 1)) (by omega) (by omega) (.int .i64 (y13 : Int))
        rw [← hx13] at ca13
        rw [← hy13] at cb13
        rw [← hiN13] at ca13 fa13 cc13
        rw [← hjN13] at cb13 fb13 cc13
        clear S3 hx13 hy13 hiN13 hjN13
        go_wp2_with fail
        go_big_region_o
        clear ca13 cb13 cc13 fa13 fb13
        generalize ((w3.setCell ⟨b, iN13, none⟩ (.int .i64 (y13 : Int))).setCell ⟨b, jN13, none⟩ (.int .i64 (x13 : Int))).drew = w4 at S4 ⊢
        clear ei13 pi13 bi13 ri13 ej13 pj13 bj13 rj13
        go_wp2
        go_roundw
        case rel => exact ⟨2 * root + 1, Go.Sort.swp dk (fst + root) (fst + (2 * root + 1)), by go_num, by omega, S4.out, HG⟩
        case measure => simp [intOf]; omega
      | false =>
        have HG : Hid (dk = Go.Sort.siftDown (ltP F) hi fst lo d) := Lib.hid (by rw [← HE.out, Go.Sort.sd_left_stop (ltP F) dk (by omega) (fun _ => hL) hG])
        obtain ⟨iN14, hiN14⟩ : ∃ q, q = fst + root := ⟨_, rfl⟩
        have ei14 : ((fst : Int) + (root : Int)).toNat = iN14 := by omega
        have pi14 : (0 : Int) ≤ (fst : Int) + (root : Int) := by omega
        have bi14 : (fst : Int) + (root : Int) < (n : Int) := by omega
        have ri14 : IntKind.i64.wrap ((fst : Int) + (root : Int)) = (fst : Int) + (root : Int) := IntWalk.i64_in _ (by omega)
        obtain ⟨jN14, hjN14⟩ : ∃ q, q = fst + (2 * root + 1) := ⟨_, rfl⟩
        have ej14 : ((fst : Int) + (2 * (root : Int) + 1)).toNat = jN14 := by omega
        have pj14 : (0 : Int) ≤ (fst : Int) + (2 * (root : Int) + 1) := by omega
        have bj14 : (fst : Int) + (2 * (root : Int) + 1) < (n : Int) := by omega
        have rj14 : IntKind.i64.wrap ((fst : Int) + (2 * (root : Int) + 1)) = (fst : Int) + (2 * (root : Int) + 1) := IntWalk.i64_in _ (by omega)
        obtain ⟨x14, hx14⟩ : ∃ x, x = dk[fst + root]! := ⟨_, rfl⟩
        obtain ⟨y14, hy14⟩ : ∃ x, x = dk[fst + (2 * root + 1)]! := ⟨_, rfl⟩
        have la14 := S2.out.cl (fst + root) (by omega)
        have lb14 := S2.out.cl (fst + (2 * root + 1)) (by omega)
        rw [← hx14] at la14
        rw [← hy14] at lb14
        rw [← hiN14] at la14
        rw [← hjN14] at lb14
        have hc14 := Lib.hid (fun q os => HC.out x14 y14 (by rw [hx14]; exact S2.out.l _) (by rw [hy14]; exact S2.out.l _) (Go.Sort.grow (w2.drewN q) os))
        have hd14 : decide (cmpS F x14 y14 < 0) = false := by rw [hx14, hy14]; exact hG
        have hv14 : ¬ cmpS F x14 y14 < 0 := of_decide_eq_false hd14
        clear hx14 hy14 hiN14 hjN14
        go_wp2_with fail
        go_quiet_grown (first | (go_at_call 84; refine Go.Calls.grown_of (hc14.out _ _)))
        have S3 : Hid (Srt w b n dk (Go.Sort.grow (w2.drewN nq) osq)) := Lib.hid (S2.out.grown nq osq)
        clear la14 lb14 hc14 S2
        generalize Go.Sort.grow (w2.drewN nq) osq = w3 at S3 ⊢
        clear nq osq ei14 pi14 bi14 ri14 ej14 pj14 bj14 rj14 hd14 hv14
        go_wp2
        (try simp only [Exit.inBlock, Exit.then])
        refine bodyPost_ret (results_none rfl _ _ _) rfl ?_
        refine ⟨rfl, ?_⟩
        rw [← HG.out]
        exact S3.out
set_option maxRecDepth 1000000 in
set_option maxHeartbeats 16000000 in
theorem heapP (F : Nat → Int) (RV : Value) (hC : CmpOk RV F) (b n cap : Nat) (hn : n ≤ 24) (w : World) (a z : Nat) (d : Array Nat) (W : World) (hS : Srt w b n d W) (haz : a ≤ z) (hz : z ≤ n) :
    Calls Tryz.prog 284 #[.slice (some ⟨b, 0, none⟩) n cap, .int .i64 (a : Int), .int .i64 (z : Int), .func (.func 84) #[RV] #[]] W fun e w' => e = .returned (.tuple #[]) ∧ Srt w b n (Go.Sort.heapSort (ltP F) d a z) w' := by
  have mixed : (Tryz.prog).follows Departure.mixedOrders = true := by kernel_rfl
  have HC := Lib.hid hC
  have S0 := Lib.hid hS
  have hds0 := hS.z
  clear hC hS
  have KS := Lib.hid (fun lo hi fst d' W' (hs : Srt w b n d' W') h1 h2 => siftP F RV HC.out b n cap hn w lo hi fst d' W' hs h1 h2)
  have ecast : ((z - a : Nat) : Int) = (z : Int) - (a : Int) := by omega
  go_enter Tryz.func284, Tryz.ntmps284
  go_wp2_with fail
  go_loopw [11] (fun s11 wr => ∃ (kx : Nat) (dk : Array Nat), s11 = .int .i64 ((kx : Int) - 1) ∧ kx ≤ (z - a - 1) / 2 + 1 ∧ Srt w b n dk wr ∧ Hid (Go.Sort.heapBuild (ltP F) (z - a) a kx dk = Go.Sort.heapBuild (ltP F) (z - a) a ((z - a - 1) / 2 + 1) d)) (fun s11 _ => (intOf s11 + 1).toNat)
  case atStart => exact ⟨(z - a - 1) / 2 + 1, d, by rw [half_start haz], Nat.le_refl _, S0.out, Lib.hid rfl⟩
  case round =>
    clear S0
    obtain ⟨kx, dk, rfl, hkk, hs1, HE⟩ := hrel
    have S1 := Lib.hid hs1
    clear hs1
    cases kx with
    | zero =>
      rw [show (((0 : Nat) : Int) - 1) = (-1 : Int) from rfl]
      have HB : Hid (dk = Go.Sort.heapBuild (ltP F) (z - a) a ((z - a - 1) / 2 + 1) d) := Lib.hid HE.out
      go_wp2
      go_loopw [12] (fun s12 wr2 => ∃ (ky : Nat) (dj : Array Nat), s12 = .int .i64 ((ky : Int) - 1) ∧ ky ≤ z - a ∧ Srt w b n dj wr2 ∧ Hid (Go.Sort.heapPop (ltP F) a ky dj = Go.Sort.heapPop (ltP F) a (z - a) dk)) (fun s12 _ => (intOf s12 + 1).toNat)
      case atStart => exact ⟨z - a, dk, by rw [ecast], Nat.le_refl _, S1.out, Lib.hid rfl⟩
      case round =>
        clear S1
        obtain ⟨ky, dj, rfl, hkk, hs1, HE2⟩ := hrel
        have S1 := Lib.hid hs1
        clear hs1
        cases ky with
        | zero =>
          have e : dj = Go.Sort.heapSort (ltP F) d a z := by rw [Go.Sort.heapSort, ← HB.out, ← HE2.out]; rfl
          have S2 : Hid (Srt w b n (Go.Sort.heapSort (ltP F) d a z) wr) := Lib.hid (by rw [← e]; exact S1.out)
          clear e S1
          go_wp2
          go_end0
          exact ⟨rfl, S2.out⟩
        | succ ky =>
          have eky : ((ky + 1 : Nat) : Int) - 1 = (ky : Int) := by omega
          rw [eky]
          clear eky
          have pi15 : (0 : Int) ≤ (a : Int) := by omega
          have bi15 : (a : Int) < (n : Int) := by omega
          obtain ⟨jN15, hjN15⟩ : ∃ q, q = a + ky := ⟨_, rfl⟩
          have ej15 : ((a : Int) + (ky : Int)).toNat = jN15 := by omega
          have pj15 : (0 : Int) ≤ (a : Int) + (ky : Int) := by omega
          have bj15 : (a : Int) + (ky : Int) < (n : Int) := by omega
          have rj15 : IntKind.i64.wrap ((a : Int) + (ky : Int)) = (a : Int) + (ky : Int) := IntWalk.i64_in _ (by omega)
          obtain ⟨x15, hx15⟩ : ∃ x, x = dj[a]! := ⟨_, rfl⟩
          obtain ⟨y15, hy15⟩ : ∃ x, x = dj[a + ky]! := ⟨_, rfl⟩
          have S2 : Hid (Srt w b n (Go.Sort.swp dj (a) (a + ky)) ((wr.setCell ⟨b, a, none⟩ (.int .i64 (y15 : Int))).setCell ⟨b, jN15, none⟩ (.int .i64 (x15 : Int))).drew) := Lib.hid (by rw [hjN15, hx15, hy15]; exact S1.out.swap (i := a) (j := a + ky) (by omega) (by omega))
          obtain ⟨ca15, fa15⟩ := S1.out.r.c (a) (by omega)
          obtain ⟨cb15, fb15⟩ := S1.out.r.c (a + ky) (by omega)
          obtain ⟨u15, cc15⟩ := S1.out.c2 (a) (a + ky) (by omega) (by omega) (.int .i64 (y15 : Int))
          rw [← hx15] at ca15
          rw [← hy15] at cb15
          rw [← hjN15] at cb15 fb15 cc15
          clear S1 hx15 hy15 hjN15
          go_wp2_with fail
          go_big_region_o
          clear ca15 cb15 cc15 fa15 fb15
          generalize ((wr.setCell ⟨b, a, none⟩ (.int .i64 (y15 : Int))).setCell ⟨b, jN15, none⟩ (.int .i64 (x15 : Int))).drew = w2 at S2 ⊢
          clear pi15 bi15 ej15 pj15 bj15 rj15
          have KC := Lib.hid (KS.out 0 ky a _ w2 S2.out (Nat.zero_le _) (by omega))
          go_wp2_with (go_at_call 348; refine (KC.out).mono ?_; rintro e w3 ⟨rfl, hs3⟩)
          have S3 := Lib.hid hs3
          clear hs3
          go_roundw
          case rel => exact ⟨ky, _, by go_num, by omega, S3.out, HE2⟩
          case measure => simp [intOf] <;> omega
    | succ kx =>
      have ekx : ((kx + 1 : Nat) : Int) - 1 = (kx : Int) := by omega
      have KC := Lib.hid (KS.out kx (z - a) a _ wr S1.out (by omega) (by omega))
      rw [ecast] at KC
      rw [ekx]
      clear ekx
      go_wp2_with (go_at_call 348; refine (KC.out).mono ?_; rintro e w3 ⟨rfl, hs3⟩)
      have S3 := Lib.hid hs3
      clear hs3
      go_roundw
      case rel => exact ⟨kx, _, by go_num, by omega, S3.out, HE⟩
      case measure => simp [intOf] <;> omega
end Go.Proofs.YtmmokiaipfalmaaGreat

namespace Go.Proofs.YtmmokiaipfalmaaGreat
open Go.RowKit Go.Maps

set_option maxRecDepth 1000000 in
set_option maxHeartbeats 16000000 in
theorem revP (F : Nat → Int) (RV : Value) (hC : CmpOk RV F) (b n cap : Nat) (hn : n ≤ 24) (w : World) (a z : Nat) (d : Array Nat) (W : World) (hS : Srt w b n d W) (haz : a ≤ z) (hz : z ≤ n) :
    Calls Tryz.prog 287 #[.slice (some ⟨b, 0, none⟩) n cap, .int .i64 (a : Int), .int .i64 (z : Int), .func (.func 84) #[RV] #[]] W fun e w' => e = .returned (.tuple #[]) ∧ Srt w b n (Go.Sort.reverseRange d a z) w' := by
  have mixed : (Tryz.prog).follows Departure.mixedOrders = true := by kernel_rfl
  have HC := Lib.hid hC
  have S0 := Lib.hid hS
  have hds0 := hS.z
  clear hC hS
  go_enter Tryz.func287, Tryz.ntmps287
  go_wp2_with fail
  go_loopw [8, 9] (fun s8 s9 wr => ∃ (i jn : Nat) (jz : Int) (dk : Array Nat), s8 = .int .i64 (i : Int) ∧ s9 = .int .i64 jz ∧ ((i : Int) < jz → jz = jn ∧ jn < n) ∧ (¬ (i : Int) < jz → ¬ i < jn) ∧ -1 ≤ jz ∧ jz ≤ 24 ∧ i ≤ 25 ∧ Srt w b n dk wr ∧ Hid (Go.Sort.reverseLoop i jn dk = Go.Sort.reverseLoop a (z - 1) d)) (fun s8 s9 _ => (intOf s9 - intOf s8 + 1).toNat)
  case atStart => exact ⟨a, z - 1, (z : Int) - 1, d, rfl, by go_num, fun h => ⟨by omega, by omega⟩, fun h => by omega, by omega, by omega, by omega, S0.out, Lib.hid rfl⟩
  case round =>
    clear S0
    obtain ⟨i, jn, jz, dk, rfl, rfl, h1, h2, hj1, hj2, hi2, hs1, HE⟩ := hrel
    have S1 := Lib.hid hs1
    clear hs1
    by_cases hlt : (i : Int) < jz
    case neg =>
      have hnot := h2 hlt
      have hd : decide ((i : Int) < jz) = false := decide_eq_false hlt
      have HR : Hid (dk = Go.Sort.reverseRange d a z) := Lib.hid (by
        have h := HE.out
        rw [Go.Sort.reverseLoop, if_neg hnot] at h
        rw [Go.Sort.reverseRange, ← h])
      clear h1 h2 hnot
      go_wp2
      go_end0
      refine ⟨rfl, ?_⟩
      rw [← HR.out]
      exact S1.out
    obtain ⟨rfl, hjn⟩ := h1 hlt
    have hd : decide ((i : Int) < (jn : Int)) = true := decide_eq_true hlt
    have hij : i < jn := by omega
    have hin : i < n := by omega
    have HG : Hid (Go.Sort.reverseLoop (i + 1) (jn - 1) (Go.Sort.swp dk i jn) = Go.Sort.reverseLoop a (z - 1) d) := Lib.hid (by
      have h := HE.out
      rw [Go.Sort.reverseLoop, if_pos hij] at h
      exact h)
    clear h1 h2 HE
    go_wp2_with fail
    have pi16 : (0 : Int) ≤ (i : Int) := by omega
    have bi16 : (i : Int) < (n : Int) := by omega
    have pj16 : (0 : Int) ≤ (jn : Int) := by omega
    have bj16 : (jn : Int) < (n : Int) := by omega
    obtain ⟨x16, hx16⟩ : ∃ x, x = dk[i]! := ⟨_, rfl⟩
    obtain ⟨y16, hy16⟩ : ∃ x, x = dk[jn]! := ⟨_, rfl⟩
    have S2 : Hid (Srt w b n (Go.Sort.swp dk (i) (jn)) ((wr.setCell ⟨b, i, none⟩ (.int .i64 (y16 : Int))).setCell ⟨b, jn, none⟩ (.int .i64 (x16 : Int))).drew) := Lib.hid (by rw [hx16, hy16]; exact S1.out.swap (i := i) (j := jn) (by omega) (by omega))
    obtain ⟨ca16, fa16⟩ := S1.out.r.c (i) (by omega)
    obtain ⟨cb16, fb16⟩ := S1.out.r.c (jn) (by omega)
    obtain ⟨u16, cc16⟩ := S1.out.c2 (i) (jn) (by omega) (by omega) (.int .i64 (y16 : Int))
    rw [← hx16] at ca16
    rw [← hy16] at cb16
    clear S1 hx16 hy16
    go_wp2_with fail
    go_big_region_o
    clear ca16 cb16 cc16 fa16 fb16
    generalize ((wr.setCell ⟨b, i, none⟩ (.int .i64 (y16 : Int))).setCell ⟨b, jn, none⟩ (.int .i64 (x16 : Int))).drew = w2 at S2 ⊢
    clear pi16 bi16 pj16 bj16
    go_wp2
    go_roundw
    case rel => exact ⟨i + 1, jn - 1, (jn : Int) - 1, Go.Sort.swp dk i jn, by go_num, by go_num, fun h => ⟨by omega, by omega⟩, fun h => by omega, by omega, by omega, by omega, S2.out, HG⟩
    case measure => simp [intOf]; omega
/-- A counter beside the row. -/
structure Cnt (w : World) (b n : Nat) (d : Array Nat) (c s : Nat) (W : World) : Prop where
  sr : Srt w b n d W
  v : W.cell? ⟨c, 0, none⟩ = some (.int .i64 (s : Int))
  f : W.frozen? ⟨c, 0, none⟩ = false
  ne : b < c
  lt : c < W.heap.size
theorem Cnt.grown {w W : World} {b n c s : Nat} {d : Array Nat} (h : Cnt w b n d c s W) (q : Nat) (os : Array Obj) : Cnt w b n d c s (Go.Sort.grow (W.drewN q) os) :=
  ⟨h.sr.grown q os, Go.cell_grown (a := ⟨c, 0, none⟩) h.lt h.v q os, (Go.Sort.frozen?_grow (W.drewN q) os ⟨c, 0, none⟩ h.lt).trans h.f, h.ne, by rw [Go.Sort.size_grow]; exact Nat.lt_of_lt_of_le h.lt (Nat.le_add_right _ _)⟩
theorem Srt.oth {w W : World} {b n c : Nat} {d : Array Nat} (h : Srt w b n d W) (hc : b < c) (v : Value) : Srt w b n d (W.setCell ⟨c, 0, none⟩ v) :=
  ⟨⟨by simpa using h.r.lt, fun i hi => ⟨(World.cell?_setCell_other _ _ _ _ (by intro e; cases e; omega)).trans (h.r.c i hi).1, by rw [World.frozen?_setCell]; exact (h.r.c i hi).2⟩⟩, h.w.setCell (p := ⟨c, 0, none⟩) (Nat.le_of_lt hc) _, h.z, h.l⟩
theorem Cnt.bump {w W : World} {b n c s : Nat} {d : Array Nat} (h : Cnt w b n d c s W) (t : Nat) : Cnt w b n d c t (W.setCell ⟨c, 0, none⟩ (.int .i64 (t : Int))) :=
  ⟨h.sr.oth h.ne _, World.cell?_setCell_same _ _ _ h.v, by rw [World.frozen?_setCell]; exact h.f, h.ne, by simpa using h.lt⟩
theorem Cnt.start {w W : World} {b n : Nat} {d : Array Nat} (h : Srt w b n d W) (t : TypeId) : Cnt w b n d W.heap.size 0 (W.alloc (.cells #[.int .i64 0] t)) := by
  have hB := Blk.new W #[.int .i64 0] t
  have h2 := h.grown 0 #[.cells #[.int .i64 0] t]
  rw [← Go.Sort.alloc_eq_grow] at h2
  exact ⟨h2, Blk.cell hB 0, Blk.free hB 0, h.r.lt, hB.lt⟩
set_option maxRecDepth 1000000 in
set_option maxHeartbeats 16000000 in
theorem order2P (F : Nat → Int) (RV : Value) (hC : CmpOk RV F) (b n cap : Nat) (hn : n ≤ 24) (w : World) (a z : Nat) (c s : Nat) (d : Array Nat) (W : World) (hS : Cnt w b n d c s W) (ha : a < n) (hz : z < n) (hs : s ≤ 100) :
    Calls Tryz.prog 373 #[.slice (some ⟨b, 0, none⟩) n cap, .int .i64 (a : Int), .int .i64 (z : Int), .pointer (some ⟨c, 0, none⟩), .func (.func 84) #[RV] #[]] W fun e w' => e = .returned (.tuple #[.int .i64 ((Go.Sort.order2 (ltP F) d a z s).1 : Int), .int .i64 ((Go.Sort.order2 (ltP F) d a z s).2.1 : Int)]) ∧ Cnt w b n d c (Go.Sort.order2 (ltP F) d a z s).2.2 w' := by
  have mixed : (Tryz.prog).follows Departure.mixedOrders = true := by kernel_rfl
  have HC := Lib.hid hC
  have C0 := Lib.hid hS
  have S0 := Lib.hid hS.sr
  have hds0 := hS.sr.z
  clear hC hS
  go_enter Tryz.func373, Tryz.ntmps373
  cases hlv : ltP F d[z]! d[a]! with
  | true =>
    have E2 : Hid (Go.Sort.order2 (ltP F) d a z s = (z, a, s + 1)) := Lib.hid (by unfold Go.Sort.order2; rw [hlv]; rfl)
    have pi17 : (0 : Int) ≤ (z : Int) := by omega
    have bi17 : (z : Int) < (n : Int) := by omega
    have pj17 : (0 : Int) ≤ (a : Int) := by omega
    have bj17 : (a : Int) < (n : Int) := by omega
    obtain ⟨x17, hx17⟩ : ∃ x, x = d[z]! := ⟨_, rfl⟩
    obtain ⟨y17, hy17⟩ : ∃ x, x = d[a]! := ⟨_, rfl⟩
    have la17 := S0.out.cl (z) (by omega)
    have lb17 := S0.out.cl (a) (by omega)
    rw [← hx17] at la17
    rw [← hy17] at lb17
    have hc17 := Lib.hid (fun q os => HC.out x17 y17 (by rw [hx17]; exact S0.out.l _) (by rw [hy17]; exact S0.out.l _) (Go.Sort.grow (W.drewN q) os))
    have hd17 : decide (cmpS F x17 y17 < 0) = true := by rw [hx17, hy17]; exact hlv
    have hv17 : cmpS F x17 y17 < 0 := of_decide_eq_true hd17
    clear hx17 hy17
    go_wp2_with fail
    go_quiet_grown (first | (go_at_call 84; refine Go.Calls.grown_of (hc17.out _ _)))
    have S2 : Hid (Srt w b n d (Go.Sort.grow (W.drewN nq) osq)) := Lib.hid (S0.out.grown nq osq)
    clear la17 lb17 hc17 S0
    have C2 : Hid (Cnt w b n d c s (Go.Sort.grow (W.drewN nq) osq)) := Lib.hid (C0.out.grown nq osq)
    clear C0
    generalize Go.Sort.grow (W.drewN nq) osq = w2 at S2 C2 ⊢
    clear nq osq pi17 bi17 pj17 bj17 hd17 hv17
    have cv := C2.out.v
    have cf := C2.out.f
    have C3 := Lib.hid (C2.out.bump (s + 1))
    clear C2 S2 hlv
    go_wp2
    go_ret2
    rw [E2.out]
    refine ⟨rfl, ?_⟩
    have h3 := C3.out
    rw [Int.natCast_add] at h3
    exact h3
  | false =>
    have E2 : Hid (Go.Sort.order2 (ltP F) d a z s = (a, z, s)) := Lib.hid (by unfold Go.Sort.order2; rw [hlv]; rfl)
    have pi18 : (0 : Int) ≤ (z : Int) := by omega
    have bi18 : (z : Int) < (n : Int) := by omega
    have pj18 : (0 : Int) ≤ (a : Int) := by omega
    have bj18 : (a : Int) < (n : Int) := by omega
    obtain ⟨x18, hx18⟩ : ∃ x, x = d[z]! := ⟨_, rfl⟩
    obtain ⟨y18, hy18⟩ : ∃ x, x = d[a]! := ⟨_, rfl⟩
    have la18 := S0.out.cl (z) (by omega)
    have lb18 := S0.out.cl (a) (by omega)
    rw [← hx18] at la18
    rw [← hy18] at lb18
    have hc18 := Lib.hid (fun q os => HC.out x18 y18 (by rw [hx18]; exact S0.out.l _) (by rw [hy18]; exact S0.out.l _) (Go.Sort.grow (W.drewN q) os))
    have hd18 : decide (cmpS F x18 y18 < 0) = false := by rw [hx18, hy18]; exact hlv
    have hv18 : ¬ cmpS F x18 y18 < 0 := of_decide_eq_false hd18
    clear hx18 hy18
    go_wp2_with fail
    go_quiet_grown (first | (go_at_call 84; refine Go.Calls.grown_of (hc18.out _ _)))
    have S2 : Hid (Srt w b n d (Go.Sort.grow (W.drewN nq) osq)) := Lib.hid (S0.out.grown nq osq)
    clear la18 lb18 hc18 S0
    have C2 : Hid (Cnt w b n d c s (Go.Sort.grow (W.drewN nq) osq)) := Lib.hid (C0.out.grown nq osq)
    clear C0
    generalize Go.Sort.grow (W.drewN nq) osq = w2 at S2 C2 ⊢
    clear nq osq pi18 bi18 pj18 bj18 hd18 hv18
    clear S2 hlv
    go_wp2
    go_ret2
    rw [E2.out]
    exact ⟨rfl, C2.out⟩
theorem order2_in (lt : Nat → Nat → Bool) (d : Array Nat) {a z n : Nat} (s : Nat) (ha : a < n) (hz : z < n) : (Go.Sort.order2 lt d a z s).1 < n ∧ (Go.Sort.order2 lt d a z s).2.1 < n ∧ (Go.Sort.order2 lt d a z s).2.2 ≤ s + 1 := by
  unfold Go.Sort.order2
  split <;> refine ⟨?_, ?_, ?_⟩ <;> dsimp only <;> omega
set_option maxRecDepth 1000000 in
set_option maxHeartbeats 16000000 in
theorem medianP (F : Nat → Int) (RV : Value) (hC : CmpOk RV F) (b n cap : Nat) (hn : n ≤ 24) (w : World) (a z y : Nat) (c s : Nat) (d : Array Nat) (W : World) (hS : Cnt w b n d c s W) (ha : a < n) (hz : z < n) (hy : y < n) (hs : s ≤ 90) :
    Calls Tryz.prog 350 #[.slice (some ⟨b, 0, none⟩) n cap, .int .i64 (a : Int), .int .i64 (z : Int), .int .i64 (y : Int), .pointer (some ⟨c, 0, none⟩), .func (.func 84) #[RV] #[]] W fun e w' => e = .returned (.int .i64 ((Go.Sort.median (ltP F) d a z y s).1 : Int)) ∧ Cnt w b n d c (Go.Sort.median (ltP F) d a z y s).2 w' := by
  have mixed : (Tryz.prog).follows Departure.mixedOrders = true := by kernel_rfl
  have HC := Lib.hid hC
  have C0 := Lib.hid hS
  have S0 := Lib.hid hS.sr
  have hds0 := hS.sr.z
  clear hC hS
  have KO := Lib.hid (fun a' z' s' W' (h : Cnt w b n d c s' W') h1 h2 h3 => order2P F RV HC.out b n cap hn w a' z' c s' d W' h h1 h2 h3)
  have EM : Hid (Go.Sort.median (ltP F) d a z y s = ((Go.Sort.order2 (ltP F) d (Go.Sort.order2 (ltP F) d a z s).1 (Go.Sort.order2 (ltP F) d (Go.Sort.order2 (ltP F) d a z s).2.1 y (Go.Sort.order2 (ltP F) d a z s).2.2).1 (Go.Sort.order2 (ltP F) d (Go.Sort.order2 (ltP F) d a z s).2.1 y (Go.Sort.order2 (ltP F) d a z s).2.2).2.2).2.1, (Go.Sort.order2 (ltP F) d (Go.Sort.order2 (ltP F) d a z s).1 (Go.Sort.order2 (ltP F) d (Go.Sort.order2 (ltP F) d a z s).2.1 y (Go.Sort.order2 (ltP F) d a z s).2.2).1 (Go.Sort.order2 (ltP F) d (Go.Sort.order2 (ltP F) d a z s).2.1 y (Go.Sort.order2 (ltP F) d a z s).2.2).2.2).2.2)) := Lib.hid rfl
  obtain ⟨l1, l2, l3⟩ := order2_in (ltP F) d s ha hz
  have K1 := Lib.hid (KO.out a z s W C0.out ha hz (by omega))
  rcases h1 : Go.Sort.order2 (ltP F) d a z s with ⟨a1, z1, s1⟩
  rw [h1] at EM K1 l1 l2 l3
  dsimp only at EM K1 l1 l2 l3
  obtain ⟨m1, m2, m3⟩ := order2_in (ltP F) d s1 l2 hy
  have K2 := Lib.hid (fun W' h => KO.out z1 y s1 W' h l2 hy (by omega))
  rcases h2 : Go.Sort.order2 (ltP F) d z1 y s1 with ⟨a2, z2, s2⟩
  rw [h2] at EM K2 m1 m2 m3
  dsimp only at EM K2 m1 m2 m3
  have K3 := Lib.hid (fun W' h => KO.out a1 a2 s2 W' h l1 m1 (by omega))
  rcases h3 : Go.Sort.order2 (ltP F) d a1 a2 s2 with ⟨a3, z3, s3⟩
  rw [h3] at EM K3
  dsimp only at EM K3
  clear h1 h2 h3 KO C0 S0 HC
  go_enter Tryz.func350, Tryz.ntmps350
  go_wp2_with fail
  refine (K1.out).mono ?_
  rintro e w1 ⟨rfl, hc⟩
  have KK := Lib.hid (K2.out w1 hc)
  clear hc K1 K2
  go_wp2_with fail
  refine (KK.out).mono ?_
  rintro e w2 ⟨rfl, hc⟩
  have KK := Lib.hid (K3.out w2 hc)
  clear hc K3
  go_wp2_with fail
  refine (KK.out).mono ?_
  rintro e w3 ⟨rfl, hc⟩
  have HCn := Lib.hid hc
  clear hc KK
  go_wp2
  go_ret
  rw [EM.out]
  exact ⟨rfl, HCn.out⟩
set_option maxRecDepth 1000000 in
set_option maxHeartbeats 16000000 in
theorem pivotP (F : Nat → Int) (RV : Value) (hC : CmpOk RV F) (b n cap : Nat) (hn : n ≤ 24) (w : World) (a z : Nat) (d : Array Nat) (W : World) (hS : Srt w b n d W) (haz : a < z) (hz : z ≤ n) (h8 : 8 ≤ z - a) :
    Calls Tryz.prog 286 #[.slice (some ⟨b, 0, none⟩) n cap, .int .i64 (a : Int), .int .i64 (z : Int), .func (.func 84) #[RV] #[]] W fun e w' => e = .returned (.tuple #[.int .i64 ((Go.Sort.choosePivot (ltP F) d a z).1 : Int), .int .i64 (Go.Sort.hintCode (Go.Sort.choosePivot (ltP F) d a z).2)]) ∧ Srt w b n d w' := by
  have mixed : (Tryz.prog).follows Departure.mixedOrders = true := by kernel_rfl
  have HC := Lib.hid hC
  have S0 := Lib.hid hS
  have hds0 := hS.z
  clear hC hS
  have C0 : Hid (Cnt w b n d W.heap.size 0 (W.alloc (.cells #[.int .i64 0] 3))) := Lib.hid (Cnt.start S0.out _)
  have KM := Lib.hid (fun x y v => medianP F RV HC.out b n cap hn w x y v W.heap.size 0 d _ C0.out)
  have EP : Hid (Go.Sort.choosePivot (ltP F) d a z = ((Go.Sort.median (ltP F) d (a + (z - a) / 4 * 1) (a + (z - a) / 4 * 2) (a + (z - a) / 4 * 3) 0).1, Go.Sort.hintOf (Go.Sort.median (ltP F) d (a + (z - a) / 4 * 1) (a + (z - a) / 4 * 2) (a + (z - a) / 4 * 3) 0).2)) := Lib.hid (by
    rw [Go.Sort.choosePivot_eq]
    unfold Go.Sort.rawPivot
    rw [if_pos h8, if_neg (by omega)])
  obtain ⟨I, hI⟩ : ∃ I : Nat, I = a + (z - a) / 4 * 1 := ⟨_, rfl⟩
  obtain ⟨J, hJ⟩ : ∃ J : Nat, J = a + (z - a) / 4 * 2 := ⟨_, rfl⟩
  obtain ⟨K, hK⟩ : ∃ K : Nat, K = a + (z - a) / 4 * 3 := ⟨_, rfl⟩
  rw [← hI, ← hJ, ← hK] at EP
  have eI : ((a : Int) + ((z : Int) - (a : Int)) / 4) = (I : Int) := by omega
  have eJ : ((a : Int) + ((z : Int) - (a : Int)) / 4 * 2) = (J : Int) := by omega
  have eK : ((a : Int) + ((z : Int) - (a : Int)) / 4 * 3) = (K : Int) := by omega
  have z8 : (8 : Int) ≤ (z : Int) - (a : Int) := by omega
  have z50 : ¬ (50 : Int) ≤ (z : Int) - (a : Int) := by omega
  have K1 := Lib.hid (KM.out I J K (by omega) (by omega) (by omega) (by omega))
  rcases hm : Go.Sort.median (ltP F) d I J K 0 with ⟨p, s⟩
  rw [hm] at EP K1
  dsimp only at EP K1
  clear hI hJ hK hm KM C0 S0 HC
  rw [EP.out]
  dsimp only
  obtain ⟨Hc, hHc⟩ : ∃ Hc : Int, Go.Sort.hintCode (Go.Sort.hintOf s) = Hc := ⟨_, rfl⟩
  have G1 : Hid (s = 0 → Hc = 1) := Lib.hid (fun h => by rw [← hHc, h]; rfl)
  have G2 : Hid (s = 12 → Hc = 2) := Lib.hid (fun h => by rw [← hHc, h]; rfl)
  have G3 : Hid (s ≠ 0 → s ≠ 12 → Hc = 0) := Lib.hid (fun h1 h2 => by rw [← hHc]; unfold Go.Sort.hintOf; rw [if_neg h1, if_neg h2]; rfl)
  rw [hHc]
  clear hHc EP
  go_enter Tryz.func286, Tryz.ntmps286
  go_wp2_with fail
  refine (K1.out).mono ?_
  rintro e w1 ⟨rfl, hc⟩
  have HCn := Lib.hid hc
  have cv := hc.v
  have cf := hc.f
  clear hc K1
  by_cases h0 : s = 0
  · have e1 := G1.out h0
    subst h0
    clear G1 G2 G3
    subst e1
    go_wp2
    go_ret2
    exact ⟨rfl, HCn.out.sr⟩
  by_cases h12 : s = 12
  · have e1 := G2.out h12
    subst h12
    clear G1 G2 G3
    subst e1
    go_wp2
    go_ret2
    exact ⟨rfl, HCn.out.sr⟩
  have e1 := G3.out h0 h12
  clear G1 G2 G3
  subst e1
  have n0 : ((s : Int) == 0) = false := by rw [beq_eq_false_iff_ne]; omega
  have n12 : ((s : Int) == 12) = false := by rw [beq_eq_false_iff_ne]; omega
  have m0 : ¬ (s : Int) = 0 := by omega
  have m12 : ¬ (s : Int) = 12 := by omega
  have k0 : decide (s = 0) = false := decide_eq_false h0
  have k12 : decide (s = 12) = false := decide_eq_false h12
  clear h0 h12
  go_wp2
  go_ret2
  exact ⟨rfl, HCn.out.sr⟩
end Go.Proofs.YtmmokiaipfalmaaGreat

namespace Go.Proofs.YtmmokiaipfalmaaGreat
open Go.RowKit Go.Maps

set_option maxRecDepth 1000000 in
set_option maxHeartbeats 16000000 in
theorem breakL (b n cap : Nat) (hn : n ≤ 24) (w : World) (RV : Value) (a L : Nat) (d : Array Nat) (W : World) (hS : Srt w b n d W) (hL : a + L ≤ n) (h8 : 8 ≤ L) :
    Calls Tryz.prog 285 #[.slice (some ⟨b, 0, none⟩) n cap, .int .i64 (a : Int), .int .i64 ((a + L : Nat) : Int), .func (.func 84) #[RV] #[]] W fun e w' => e = .returned (.tuple #[]) ∧ Srt w b n (Go.Sort.breakPatterns d a (a + L)) w' := by
  have mixed : (Tryz.prog).follows Departure.mixedOrders = true := by kernel_rfl
  have S0 := Lib.hid hS
  have hbw := hS.r.lt
  clear hS
  rw [Go.Proofs.breakPatterns_eq d a L h8]
  obtain ⟨M, hM⟩ : ∃ M : Nat, M = 1 <<< Go.Sort.bitsLen L := ⟨_, rfl⟩
  have hM1 : 1 ≤ M := by rw [hM, Nat.one_shiftLeft]; exact Nat.two_pow_pos _
  have hM2 : M ≤ 2 * L := by rw [hM, Nat.one_shiftLeft]; exact Go.Sort.two_pow_bitsLen_le (by omega)
  have KN : Hid (∀ w, Calls Tryz.prog 292 #[.int .i64 (L : Int)] w fun e w' => e = .returned (.int .u64 (M : Int)) ∧ w' = w) := Lib.hid (by rw [hM]; exact fun w => AnyF.nextPowerOfTwo Tryz.npow292 L (by omega) w)
  rw [← hM]
  have KX := Lib.hid (fun X hX W' hc hf => AnyF.xorshift_Next Tryz.xnext293 W.heap.size 0 X hX W' hc hf)
  clear hM
  have hLz : ((a + L : Nat) : Int) - (a : Int) = (L : Int) := by omega
  have hLz2 : ((a : Int) + (L : Int)) - (a : Int) = (L : Int) := by omega
  have h8z : (8 : Int) ≤ (L : Int) := by omega
  have hu : IntKind.u64.wrap (L : Int) = (L : Int) := by rw [IntKind.wrap_u64]; omega
  have S1 : Hid (Srt w b n d (W.alloc (.cells #[.int .u64 (L : Int)] 294))) := Lib.hid (by
    have h2 := S0.out.grown 0 #[.cells #[.int .u64 (L : Int)] 294]
    rw [← Go.Sort.alloc_eq_grow] at h2
    exact h2)
  have Q1 := Lib.hid (Blk.new W #[.int .u64 (L : Int)] 294)
  clear S0
  go_enter Tryz.func285, Tryz.ntmps285
  go_wp2_with (first | (go_at_call 292; refine (KN.out _).mono ?_; rintro e w' ⟨rfl, rfl⟩))
  try change Code.wp _ _ _ _ (W.alloc (.cells #[.int .u64 (L : Int)] 294))
  have G0 : Hid (∃ (t : Nat) (r : UInt64) (dk : Array Nat), Value.int .i64 ((a : Int) + (L : Int) / 4 * 2 - 1) = .int .i64 ((a : Int) + (L : Int) / 4 * 2 - 1 + (t : Int)) ∧ t ≤ 3 ∧ Srt w b n dk (W.alloc (.cells #[.int .u64 (L : Int)] 294)) ∧ (W.alloc (.cells #[.int .u64 (L : Int)] 294)).cell? ⟨W.heap.size, 0, none⟩ = some (.int .u64 (r.toNat : Int)) ∧ (W.alloc (.cells #[.int .u64 (L : Int)] 294)).frozen? ⟨W.heap.size, 0, none⟩ = false ∧ Hid (Go.Proofs.bpRest a L M (a + L / 4 * 2 - 1) (3 - t) t (r, dk) = Go.Proofs.bpRest a L M (a + L / 4 * 2 - 1) 3 0 (UInt64.ofNat L, d))) := Lib.hid ⟨0, UInt64.ofNat L, d, by simp, by omega, S1.out, by rw [show (UInt64.ofNat L).toNat = L from by simp; omega]; exact Blk.cell Q1.out 0, Blk.free Q1.out 0, Lib.hid rfl⟩
  clear S1 Q1
  generalize (W.alloc (.cells #[.int .u64 (L : Int)] 294)) = W1 at G0 ⊢
  obtain ⟨xb, hxb⟩ : ∃ xb, W.heap.size = xb := ⟨_, rfl⟩
  rw [hxb] at G0 KX hbw ⊢
  clear hxb
  go_loopw [11] (fun vi wr => ∃ (t : Nat) (r : UInt64) (dk : Array Nat), vi = .int .i64 ((a : Int) + (L : Int) / 4 * 2 - 1 + (t : Int)) ∧ t ≤ 3 ∧ Srt w b n dk wr ∧ wr.cell? ⟨xb, 0, none⟩ = some (.int .u64 (r.toNat : Int)) ∧ wr.frozen? ⟨xb, 0, none⟩ = false ∧ Hid (Go.Proofs.bpRest a L M (a + L / 4 * 2 - 1) (3 - t) t (r, dk) = Go.Proofs.bpRest a L M (a + L / 4 * 2 - 1) 3 0 (UInt64.ofNat L, d))) (fun vi _ => ((a : Int) + (L : Int) / 4 * 2 + 2 - intOf vi).toNat)
  case atStart => exact G0.out
  case round =>
    clear G0
    obtain ⟨t, r, dk, rfl, ht, hs1, cR, fR, HR⟩ := hrel
    have S1 := Lib.hid hs1
    clear hs1
    by_cases ht3 : t < 3
    case neg =>
      obtain rfl : t = 3 := by omega
      have hle : ¬ ((a : Int) + (L : Int) / 4 * 2 - 1 + ((3 : Nat) : Int) ≤ (a : Int) + (L : Int) / 4 * 2 + 1) := by omega
      have HF : Hid (dk = Go.Proofs.bpRest a L M (a + L / 4 * 2 - 1) 3 0 (UInt64.ofNat L, d)) := Lib.hid HR.out
      clear HR cR fR
      go_wp2
      go_end0
      refine ⟨rfl, ?_⟩
      rw [← HF.out]
      exact S1.out
    have hle : (a : Int) + (L : Int) / 4 * 2 - 1 + (t : Int) ≤ (a : Int) + (L : Int) / 4 * 2 + 1 := by omega
    have hled : decide ((a : Int) + (L : Int) / 4 * 2 - 1 + (t : Int) ≤ (a : Int) + (L : Int) / 4 * 2 + 1) = true := decide_eq_true hle
    obtain ⟨R0, hRr⟩ : ∃ R0 : Nat, R0 = r.toNat := ⟨_, rfl⟩
    have lR : R0 < 18446744073709551616 := by rw [hRr]; exact r.toNat_lt
    obtain ⟨R', hR'⟩ : ∃ R' : Nat, R' = Go.Sort.xorNextN R0 := ⟨_, rfl⟩
    have lR' : R' < 18446744073709551616 := by rw [hR']; exact Go.Sort.xorNextN_lt R0 lR
    obtain ⟨O, hO⟩ : ∃ O : Nat, O = R' &&& (M - 1) := ⟨_, rfl⟩
    have lO : O ≤ M - 1 := by rw [hO]; exact Nat.and_le_right
    have eAnd : bits .and .u64 (R' : Int) ((M : Int) - 1) = (O : Int) := by
      rw [show ((M : Int) - 1) = ((M - 1 : Nat) : Int) by omega, bits_and_u64_nat _ _ lR' (by omega), hO]
    rw [← hRr] at cR
    have KN1 : Hid (Calls Tryz.prog 293 #[.pointer (some ⟨xb, 0, none⟩)] wr fun e w' => e = .returned (.int .u64 (R' : Int)) ∧ w' = (wr.setCell ⟨xb, 0, none⟩ (.int .u64 (R' : Int))).drewN 3) := Lib.hid (by
      rw [hR']
      exact KX.out R0 lR wr cR fR)
    have HN : Hid (R' = (Go.Sort.xorNext r).toNat ∧ O = (Go.Sort.xorNext r).toNat &&& (M - 1)) := Lib.hid (by
      have e : R' = (Go.Sort.xorNext r).toNat := by rw [hR', hRr, Go.Sort.xorNext_toNat]
      exact ⟨e, by rw [hO, e]⟩)
    have HNE : Hid (b < xb) := Lib.hid hbw
    have S2 : Hid (Srt w b n dk ((wr.setCell ⟨xb, 0, none⟩ (.int .u64 (R' : Int))).drewN 3)) := Lib.hid ((S1.out.oth HNE.out _).grown 3 #[] |> fun h => by rw [Go.Sort.grow_empty] at h; exact h)
    have cR' : ((wr.setCell ⟨xb, 0, none⟩ (.int .u64 (R' : Int))).drewN 3).cell? ⟨xb, 0, none⟩ = some (.int .u64 (R' : Int)) := World.cell?_setCell_same _ _ _ cR
    have fR' : ((wr.setCell ⟨xb, 0, none⟩ (.int .u64 (R' : Int))).drewN 3).frozen? ⟨xb, 0, none⟩ = false := (World.frozen?_setCell _ _ _ _).trans fR
    clear hRr hR' hO lR S1 cR fR
    generalize (wr.setCell ⟨xb, 0, none⟩ (.int .u64 (R' : Int))).drewN 3 = w2 at KN1 S2 cR' fR'
    have HCR := Lib.hid cR'
    have HFR := Lib.hid fR'
    clear cR' fR'
    by_cases hLO : L ≤ O
    · skip
      have hLOz : (L : Int) ≤ (O : Int) := by omega
      have hLOd : decide ((L : Int) ≤ (O : Int)) = true := decide_eq_true hLOz
      have HG : Hid (Go.Proofs.bpRest a L M (a + L / 4 * 2 - 1) (3 - (t + 1)) (t + 1) (Go.Sort.xorNext r, Go.Sort.swp dk (a + L / 4 * 2 - 1 + t) (a + (O - L))) = Go.Proofs.bpRest a L M (a + L / 4 * 2 - 1) 3 0 (UInt64.ofNat L, d)) := Lib.hid (by
        rw [← HR.out, Go.Proofs.bp_step a L M _ t r dk ((O - L)) ht3 (by rw [← HN.out.2, if_pos (by omega)])])
      go_wp2_with (go_at_call 293; refine (KN1.out).mono ?_; rintro e w' ⟨rfl, hw'⟩; obtain rfl : w2 = w' := hw'.symm)
      obtain ⟨iN1, hiN1⟩ : ∃ q, q = a + L / 4 * 2 - 1 + t := ⟨_, rfl⟩
      have ei1 : ((a : Int) + (L : Int) / 4 * 2 - 1 + (t : Int)).toNat = iN1 := by omega
      have pi1 : (0 : Int) ≤ (a : Int) + (L : Int) / 4 * 2 - 1 + (t : Int) := by omega
      have bi1 : (a : Int) + (L : Int) / 4 * 2 - 1 + (t : Int) < (n : Int) := by omega
      have ri1 : IntKind.i64.wrap ((a : Int) + (L : Int) / 4 * 2 - 1 + (t : Int)) = (a : Int) + (L : Int) / 4 * 2 - 1 + (t : Int) := IntWalk.i64_in _ (by omega)
      obtain ⟨jN1, hjN1⟩ : ∃ q, q = a + (O - L) := ⟨_, rfl⟩
      have ej1 : ((a : Int) + ((O : Int) - (L : Int))).toNat = jN1 := by omega
      have pj1 : (0 : Int) ≤ (a : Int) + ((O : Int) - (L : Int)) := by omega
      have bj1 : (a : Int) + ((O : Int) - (L : Int)) < (n : Int) := by omega
      have rj1 : IntKind.i64.wrap ((a : Int) + ((O : Int) - (L : Int))) = (a : Int) + ((O : Int) - (L : Int)) := IntWalk.i64_in _ (by omega)
      obtain ⟨x1, hx1⟩ : ∃ x, x = dk[a + L / 4 * 2 - 1 + t]! := ⟨_, rfl⟩
      obtain ⟨y1, hy1⟩ : ∃ x, x = dk[a + (O - L)]! := ⟨_, rfl⟩
      have S3 : Hid (Srt w b n (Go.Sort.swp dk (a + L / 4 * 2 - 1 + t) (a + (O - L))) ((w2.setCell ⟨b, iN1, none⟩ (.int .i64 (y1 : Int))).setCell ⟨b, jN1, none⟩ (.int .i64 (x1 : Int))).drew) := Lib.hid (by rw [hiN1, hjN1, hx1, hy1]; exact S2.out.swap (i := a + L / 4 * 2 - 1 + t) (j := a + (O - L)) (by omega) (by omega))
      obtain ⟨ca1, fa1⟩ := S2.out.r.c (a + L / 4 * 2 - 1 + t) (by omega)
      obtain ⟨cb1, fb1⟩ := S2.out.r.c (a + (O - L)) (by omega)
      obtain ⟨u1, cc1⟩ := S2.out.c2 (a + L / 4 * 2 - 1 + t) (a + (O - L)) (by omega) (by omega) (.int .i64 (y1 : Int))
      rw [← hx1] at ca1
      rw [← hy1] at cb1
      rw [← hiN1] at ca1 fa1 cc1
      rw [← hjN1] at cb1 fb1 cc1
      clear S2 hx1 hy1 hiN1 hjN1
      go_wp2_with fail
      go_big_region_o
      clear ca1 cb1 cc1 fa1 fb1
      have c3 : ((w2.setCell ⟨b, iN1, none⟩ (.int .i64 (y1 : Int))).setCell ⟨b, jN1, none⟩ (.int .i64 (x1 : Int))).drew.cell? ⟨xb, 0, none⟩ = some (.int .u64 (R' : Int)) := (World.cell?_setCell_other _ _ _ _ (by intro e; cases e; have := HNE.out; omega)).trans ((World.cell?_setCell_other _ _ _ _ (by intro e; cases e; have := HNE.out; omega)).trans HCR.out)
      have f3 : ((w2.setCell ⟨b, iN1, none⟩ (.int .i64 (y1 : Int))).setCell ⟨b, jN1, none⟩ (.int .i64 (x1 : Int))).drew.frozen? ⟨xb, 0, none⟩ = false := (World.frozen?_setCell _ _ _ _).trans ((World.frozen?_setCell _ _ _ _).trans HFR.out)
      have C3 := Lib.hid c3
      have F3 := Lib.hid f3
      clear c3 f3
      generalize ((w2.setCell ⟨b, iN1, none⟩ (.int .i64 (y1 : Int))).setCell ⟨b, jN1, none⟩ (.int .i64 (x1 : Int))).drew = w3 at S3 C3 F3 ⊢
      clear ei1 pi1 bi1 ri1 ej1 pj1 bj1 rj1
      go_wp2
      go_roundw
      case rel => exact ⟨t + 1, Go.Sort.xorNext r, Go.Sort.swp dk (a + L / 4 * 2 - 1 + t) (a + (O - L)), by go_num, by omega, S3.out, by rw [← HN.out.1]; exact C3.out, F3.out, HG⟩
      case measure => simp [intOf] <;> omega
    · skip
      have hLOz : ¬ (L : Int) ≤ (O : Int) := by omega
      have hLOd : decide ((L : Int) ≤ (O : Int)) = false := decide_eq_false hLOz
      have HG : Hid (Go.Proofs.bpRest a L M (a + L / 4 * 2 - 1) (3 - (t + 1)) (t + 1) (Go.Sort.xorNext r, Go.Sort.swp dk (a + L / 4 * 2 - 1 + t) (a + O)) = Go.Proofs.bpRest a L M (a + L / 4 * 2 - 1) 3 0 (UInt64.ofNat L, d)) := Lib.hid (by
        rw [← HR.out, Go.Proofs.bp_step a L M _ t r dk (O) ht3 (by rw [← HN.out.2, if_neg (by omega)])])
      go_wp2_with (go_at_call 293; refine (KN1.out).mono ?_; rintro e w' ⟨rfl, hw'⟩; obtain rfl : w2 = w' := hw'.symm)
      obtain ⟨iN2, hiN2⟩ : ∃ q, q = a + L / 4 * 2 - 1 + t := ⟨_, rfl⟩
      have ei2 : ((a : Int) + (L : Int) / 4 * 2 - 1 + (t : Int)).toNat = iN2 := by omega
      have pi2 : (0 : Int) ≤ (a : Int) + (L : Int) / 4 * 2 - 1 + (t : Int) := by omega
      have bi2 : (a : Int) + (L : Int) / 4 * 2 - 1 + (t : Int) < (n : Int) := by omega
      have ri2 : IntKind.i64.wrap ((a : Int) + (L : Int) / 4 * 2 - 1 + (t : Int)) = (a : Int) + (L : Int) / 4 * 2 - 1 + (t : Int) := IntWalk.i64_in _ (by omega)
      obtain ⟨jN2, hjN2⟩ : ∃ q, q = a + O := ⟨_, rfl⟩
      have ej2 : ((a : Int) + (O : Int)).toNat = jN2 := by omega
      have pj2 : (0 : Int) ≤ (a : Int) + (O : Int) := by omega
      have bj2 : (a : Int) + (O : Int) < (n : Int) := by omega
      have rj2 : IntKind.i64.wrap ((a : Int) + (O : Int)) = (a : Int) + (O : Int) := IntWalk.i64_in _ (by omega)
      obtain ⟨x2, hx2⟩ : ∃ x, x = dk[a + L / 4 * 2 - 1 + t]! := ⟨_, rfl⟩
      obtain ⟨y2, hy2⟩ : ∃ x, x = dk[a + O]! := ⟨_, rfl⟩
      have S3 : Hid (Srt w b n (Go.Sort.swp dk (a + L / 4 * 2 - 1 + t) (a + O)) ((w2.setCell ⟨b, iN2, none⟩ (.int .i64 (y2 : Int))).setCell ⟨b, jN2, none⟩ (.int .i64 (x2 : Int))).drew) := Lib.hid (by rw [hiN2, hjN2, hx2, hy2]; exact S2.out.swap (i := a + L / 4 * 2 - 1 + t) (j := a + O) (by omega) (by omega))
      obtain ⟨ca2, fa2⟩ := S2.out.r.c (a + L / 4 * 2 - 1 + t) (by omega)
      obtain ⟨cb2, fb2⟩ := S2.out.r.c (a + O) (by omega)
      obtain ⟨u2, cc2⟩ := S2.out.c2 (a + L / 4 * 2 - 1 + t) (a + O) (by omega) (by omega) (.int .i64 (y2 : Int))
      rw [← hx2] at ca2
      rw [← hy2] at cb2
      rw [← hiN2] at ca2 fa2 cc2
      rw [← hjN2] at cb2 fb2 cc2
      clear S2 hx2 hy2 hiN2 hjN2
      go_wp2_with fail
      go_big_region_o
      clear ca2 cb2 cc2 fa2 fb2
      have c3 : ((w2.setCell ⟨b, iN2, none⟩ (.int .i64 (y2 : Int))).setCell ⟨b, jN2, none⟩ (.int .i64 (x2 : Int))).drew.cell? ⟨xb, 0, none⟩ = some (.int .u64 (R' : Int)) := (World.cell?_setCell_other _ _ _ _ (by intro e; cases e; have := HNE.out; omega)).trans ((World.cell?_setCell_other _ _ _ _ (by intro e; cases e; have := HNE.out; omega)).trans HCR.out)
      have f3 : ((w2.setCell ⟨b, iN2, none⟩ (.int .i64 (y2 : Int))).setCell ⟨b, jN2, none⟩ (.int .i64 (x2 : Int))).drew.frozen? ⟨xb, 0, none⟩ = false := (World.frozen?_setCell _ _ _ _).trans ((World.frozen?_setCell _ _ _ _).trans HFR.out)
      have C3 := Lib.hid c3
      have F3 := Lib.hid f3
      clear c3 f3
      generalize ((w2.setCell ⟨b, iN2, none⟩ (.int .i64 (y2 : Int))).setCell ⟨b, jN2, none⟩ (.int .i64 (x2 : Int))).drew = w3 at S3 C3 F3 ⊢
      clear ei2 pi2 bi2 ri2 ej2 pj2 bj2 rj2
      go_wp2
      go_roundw
      case rel => exact ⟨t + 1, Go.Sort.xorNext r, Go.Sort.swp dk (a + L / 4 * 2 - 1 + t) (a + O), by go_num, by omega, S3.out, by rw [← HN.out.1]; exact C3.out, F3.out, HG⟩
      case measure => simp [intOf] <;> omega
set_option maxRecDepth 1000000 in
set_option maxHeartbeats 4000000 in
theorem breakP (b n cap : Nat) (hn : n ≤ 24) (w : World) (RV : Value) (a z : Nat) (d : Array Nat) (W : World) (hS : Srt w b n d W) (haz : a ≤ z) (hz : z ≤ n) :
    Calls Tryz.prog 285 #[.slice (some ⟨b, 0, none⟩) n cap, .int .i64 (a : Int), .int .i64 (z : Int), .func (.func 84) #[RV] #[]] W fun e w' => e = .returned (.tuple #[]) ∧ Srt w b n (Go.Sort.breakPatterns d a z) w' := by
  obtain ⟨L, rfl⟩ : ∃ L, z = a + L := ⟨z - a, by omega⟩
  by_cases h8 : 8 ≤ L
  · exact breakL b n cap hn w RV a L d W hS hz h8
  have hv : Go.Sort.breakPatterns d a (a + L) = d := by
    unfold Go.Sort.breakPatterns
    simp only [Nat.add_sub_cancel_left]
    rw [if_neg h8]
  rw [hv]
  have S0 := Lib.hid hS
  have hLz : ((a + L : Nat) : Int) - (a : Int) = (L : Int) := by omega
  have hLz2 : ((a : Int) + (L : Int)) - (a : Int) = (L : Int) := by omega
  have h8z : ¬ (8 : Int) ≤ (L : Int) := by omega
  clear hS hv
  go_enter Tryz.func285, Tryz.ntmps285
  go_wp2
  go_end0
  exact ⟨rfl, S0.out⟩
end Go.Proofs.YtmmokiaipfalmaaGreat

namespace Go.Proofs.YtmmokiaipfalmaaGreat
open Go.RowKit Go.Maps

set_option maxRecDepth 1000000 in
set_option maxHeartbeats 16000000 in
theorem partialP (F : Nat → Int) (RV : Value) (hC : CmpOk RV F) (b n cap : Nat) (hn : n ≤ 24) (w : World) (a z : Nat) (d : Array Nat) (W : World) (hS : Srt w b n d W) (haz : a < z) (hz : z ≤ n) :
    Calls Tryz.prog 288 #[.slice (some ⟨b, 0, none⟩) n cap, .int .i64 (a : Int), .int .i64 (z : Int), .func (.func 84) #[RV] #[]] W fun e w' => e = .returned (.bool (Go.Sort.partialInsertionSort (ltP F) d a z).2) ∧ Srt w b n (Go.Sort.partialInsertionSort (ltP F) d a z).1 w' := by
  have mixed : (Tryz.prog).follows Departure.mixedOrders = true := by kernel_rfl
  have HC := Lib.hid hC
  have S0 := Lib.hid hS
  have hds0 := hS.z
  clear hC hS
  go_enter Tryz.func288, Tryz.ntmps288
  go_wp2_with fail
  go_loopw [9, 10] (fun vi vs wr => vi = .int .i64 ((a : Int) + 1) ∧ vs = .int .i64 0 ∧ Srt w b n d wr) (fun _ _ _ => 0)
  case atStart => exact ⟨by go_num, rfl, S0.out⟩
  case round =>
    clear S0
    obtain ⟨rfl, rfl, hs1⟩ := hrel
    have S1 := Lib.hid hs1
    clear hs1
    go_wp2_with fail
    go_loopw [9] (fun vi wr2 => ∃ (kx : Nat), vi = .int .i64 (kx : Int) ∧ a + 1 ≤ kx ∧ kx ≤ z ∧ Srt w b n d wr2 ∧ Hid (Go.Sort.scanSorted (ltP F) d z kx = Go.Sort.scanSorted (ltP F) d z (a + 1))) (fun vi _ => z - (intOf vi).toNat)
    case atStart => exact ⟨a + 1, by go_num, by omega, by omega, S1.out, Lib.hid rfl⟩
    case round =>
      clear S1
      obtain ⟨kx, rfl, hak, hkz, hs1, HSc⟩ := hrel
      have S1 := Lib.hid hs1
      clear hs1
      by_cases hlt : kx < z
      case neg =>
        obtain rfl : kx = z := by omega
        have HV : Hid (Go.Sort.partialInsertionSort (ltP F) d a kx = (d, true)) := Lib.hid (by
          unfold Go.Sort.partialInsertionSort
          exact Go.Proofs.pi_true (ltP F) a kx 0 (a + 1) d (by omega) (by rw [← HSc.out, Go.Proofs.scanSorted_stop (ltP F) d kx kx (Or.inl hlt)]))
        have t2 : ¬ ((kx : Int) < (kx : Int)) := by omega
        have t5 : decide ((kx : Int) < (kx : Int)) = false := decide_eq_false t2
        go_wp2_with fail
        go_big_region_o
        have S2 : Hid (Srt w b n d wr.drew) := Lib.hid S1.out.drew
        clear S1
        generalize wr.drew = w2 at S2 ⊢
        go_wp2
        go_ret
        rw [HV.out]
        exact ⟨rfl, S2.out⟩
      obtain ⟨q, hq⟩ : ∃ q, kx = q + 1 := ⟨kx - 1, by omega⟩
      have hw1 : IntKind.i64.wrap ((kx : Int) - 1) = (q : Int) := by rw [IntWalk.i64_in _ (by omega)]; omega
      have t3 : decide (kx < z) = true := decide_eq_true hlt
      have t4 : (kx : Int) < (z : Int) := by omega
      have t5 : decide ((kx : Int) < (z : Int)) = true := decide_eq_true t4
      have hq1 : kx - 1 = q := by omega
      have HQ1 := Lib.hid hq1
      have q0 : q < n := by omega
      have k0 : kx < n := by omega
      clear hq hq1
      cases hlv : ltP F d[kx]! d[q]! with
      | false =>
        have HG : Hid (Go.Sort.scanSorted (ltP F) d z (kx + 1) = Go.Sort.scanSorted (ltP F) d z (a + 1)) := Lib.hid (by
          rw [← HSc.out, Go.Proofs.scanSorted_go (ltP F) d z kx hlt (by rw [HQ1.out]; exact hlv)])
        clear HSc
        have pi19 : (0 : Int) ≤ (kx : Int) := by omega
        have bi19 : (kx : Int) < (n : Int) := by omega
        have pj19 : (0 : Int) ≤ (q : Int) := by omega
        have bj19 : (q : Int) < (n : Int) := by omega
        obtain ⟨x19, hx19⟩ : ∃ x, x = d[kx]! := ⟨_, rfl⟩
        obtain ⟨y19, hy19⟩ : ∃ x, x = d[q]! := ⟨_, rfl⟩
        have la19 := S1.out.cl (kx) (by omega)
        have lb19 := S1.out.cl (q) (by omega)
        rw [← hx19] at la19
        rw [← hy19] at lb19
        have hc19 := Lib.hid (fun q os => HC.out x19 y19 (by rw [hx19]; exact S1.out.l _) (by rw [hy19]; exact S1.out.l _) (Go.Sort.grow (wr.drewN q) os))
        have hd19 : decide (cmpS F x19 y19 < 0) = false := by rw [hx19, hy19]; exact hlv
        have hv19 : ¬ cmpS F x19 y19 < 0 := of_decide_eq_false hd19
        clear hx19 hy19
        go_wp2_with fail
        go_quiet_grown (first | (go_at_call 84; refine Go.Calls.grown_of (hc19.out _ _)))
        have S2 : Hid (Srt w b n d (Go.Sort.grow (wr.drewN nq) osq)) := Lib.hid (S1.out.grown nq osq)
        clear la19 lb19 hc19 S1
        generalize Go.Sort.grow (wr.drewN nq) osq = w2 at S2 ⊢
        clear nq osq pi19 bi19 pj19 bj19 hd19 hv19
        clear hlv
        go_wp2_with fail
        go_roundw
        case rel => exact ⟨kx + 1, by go_num, by omega, by omega, S2.out, HG⟩
        case measure => simp [intOf] <;> omega
      | true =>
        have HV : Hid (Go.Sort.partialInsertionSort (ltP F) d a z = (d, false)) := Lib.hid (by
          unfold Go.Sort.partialInsertionSort
          exact Go.Proofs.pi_short (ltP F) a z 0 (a + 1) d (by omega) (by rw [← HSc.out, Go.Proofs.scanSorted_stop (ltP F) d z kx (Or.inr (by rw [HQ1.out]; exact hlv))]; omega) (by omega))
        clear HSc
        have pi20 : (0 : Int) ≤ (kx : Int) := by omega
        have bi20 : (kx : Int) < (n : Int) := by omega
        have pj20 : (0 : Int) ≤ (q : Int) := by omega
        have bj20 : (q : Int) < (n : Int) := by omega
        obtain ⟨x20, hx20⟩ : ∃ x, x = d[kx]! := ⟨_, rfl⟩
        obtain ⟨y20, hy20⟩ : ∃ x, x = d[q]! := ⟨_, rfl⟩
        have la20 := S1.out.cl (kx) (by omega)
        have lb20 := S1.out.cl (q) (by omega)
        rw [← hx20] at la20
        rw [← hy20] at lb20
        have hc20 := Lib.hid (fun q os => HC.out x20 y20 (by rw [hx20]; exact S1.out.l _) (by rw [hy20]; exact S1.out.l _) (Go.Sort.grow (wr.drewN q) os))
        have hd20 : decide (cmpS F x20 y20 < 0) = true := by rw [hx20, hy20]; exact hlv
        have hv20 : cmpS F x20 y20 < 0 := of_decide_eq_true hd20
        clear hx20 hy20
        go_wp2_with fail
        go_quiet_grown (first | (go_at_call 84; refine Go.Calls.grown_of (hc20.out _ _)))
        have S2 : Hid (Srt w b n d (Go.Sort.grow (wr.drewN nq) osq)) := Lib.hid (S1.out.grown nq osq)
        clear la20 lb20 hc20 S1
        generalize Go.Sort.grow (wr.drewN nq) osq = w2 at S2 ⊢
        clear nq osq pi20 bi20 pj20 bj20 hd20 hv20
        clear hlv
        have e1 : ((kx : Int) == (z : Int)) = false := by rw [beq_eq_false_iff_ne]; omega
        have e2 : ¬ (kx : Int) = (z : Int) := by omega
        have e3 : decide (kx = z) = false := decide_eq_false (by omega)
        have e4 : (z : Int) - (a : Int) < 50 := by omega
        have e5 : decide ((z : Int) - (a : Int) < 50) = true := decide_eq_true e4
        go_wp2_with fail
        go_ret
        rw [HV.out]
        exact ⟨rfl, S2.out⟩
end Go.Proofs.YtmmokiaipfalmaaGreat
