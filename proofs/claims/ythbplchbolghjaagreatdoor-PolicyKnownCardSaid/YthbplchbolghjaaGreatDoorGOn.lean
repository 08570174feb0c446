/- What a policy looks for, as the next words. Condition: the words lie in memory. -/
import Derived.Test.YthbplchbolghjaaGreatDoorGNum
import Derived.Test.YthbplchbolghjaaGreatDoorSuffix
namespace Go.Proofs.YthbplchbolghjaaGreatDoor
open Go.RowKit

def bitsM : List (List UInt8 × Int) := [([100, 111, 117, 98, 108, 101, 115], 1), ([119, 105, 116, 104], 2), ([116, 97, 105, 110, 116, 115], 4), ([115, 112, 114, 101, 97, 100], 8), ([101, 109, 112, 116, 121], 16)]
def bitF (t : List UInt8) : Int := (Qu.look bitsM t).getD 0
set_option maxHeartbeats 400000 in
theorem bits_any (w : World) :
    Calls Tryz.prog 52 #[] w fun e w' => e = .returned (.map (some w.heap.size)) ∧ w' = Qu.lay w bitsM := by
  have h0 := Qu.run_make w
  have h1 := Qu.run_lay' w [] [100, 111, 117, 98, 108, 101, 115] 1 [([100, 111, 117, 98, 108, 101, 115], 1)] rfl rfl
  have h2 := Qu.run_lay' w [([100, 111, 117, 98, 108, 101, 115], 1)] [119, 105, 116, 104] 2 [([100, 111, 117, 98, 108, 101, 115], 1), ([119, 105, 116, 104], 2)] rfl rfl
  have h3 := Qu.run_lay' w [([100, 111, 117, 98, 108, 101, 115], 1), ([119, 105, 116, 104], 2)] [116, 97, 105, 110, 116, 115] 4 [([100, 111, 117, 98, 108, 101, 115], 1), ([119, 105, 116, 104], 2), ([116, 97, 105, 110, 116, 115], 4)] rfl rfl
  have h4 := Qu.run_lay' w [([100, 111, 117, 98, 108, 101, 115], 1), ([119, 105, 116, 104], 2), ([116, 97, 105, 110, 116, 115], 4)] [115, 112, 114, 101, 97, 100] 8 [([100, 111, 117, 98, 108, 101, 115], 1), ([119, 105, 116, 104], 2), ([116, 97, 105, 110, 116, 115], 4), ([115, 112, 114, 101, 97, 100], 8)] rfl rfl
  have h5 := Qu.run_lay' w [([100, 111, 117, 98, 108, 101, 115], 1), ([119, 105, 116, 104], 2), ([116, 97, 105, 110, 116, 115], 4), ([115, 112, 114, 101, 97, 100], 8)] [101, 109, 112, 116, 121] 16 bitsM rfl rfl
  go_enter Tryz.func52, Tryz.ntmps52
  go_wp2
  go_ret
  exact ⟨rfl, rfl⟩
theorem bit_one (t : List UInt8) : bitF t = 0 ∨ bitF t = 1 ∨ bitF t = 2 ∨ bitF t = 4 ∨ bitF t = 8 ∨ bitF t = 16 := by
  unfold bitF bitsM
  simp only [Qu.look]
  repeat' split
  all_goals simp
theorem or_all : ∀ a : Fin 32, ∀ j : Fin 5, (a : Nat) < 2 ^ (j : Nat) → IntKind.i64.wrap ((BitVec.ofInt 64 ((a : Nat) : Int) ||| BitVec.ofInt 64 ((2 ^ (j : Nat) : Nat) : Int)).toNat : Int) = ((a : Nat) : Int) + ((2 ^ (j : Nat) : Nat) : Int) ∧ (a : Nat) + 2 ^ (j : Nat) < 32 := by decide +kernel
theorem or_bit {a : Int} {t : List UInt8} (h0 : 0 ≤ a) (h1 : a < 32) (hlt : a < bitF t) : IntKind.i64.wrap ((BitVec.ofInt 64 a ||| BitVec.ofInt 64 (bitF t)).toNat : Int) = a + bitF t ∧ a + bitF t < 32 := by
  obtain ⟨n, rfl⟩ : ∃ n : Nat, a = (n : Int) := ⟨a.toNat, by omega⟩
  have hj : ∃ j : Fin 5, bitF t = ((2 ^ (j : Nat) : Nat) : Int) := by
    rcases bit_one t with h | h | h | h | h | h
    · omega
    · exact ⟨0, by rw [h]; rfl⟩
    · exact ⟨1, by rw [h]; rfl⟩
    · exact ⟨2, by rw [h]; rfl⟩
    · exact ⟨3, by rw [h]; rfl⟩
    · exact ⟨4, by rw [h]; rfl⟩
  obtain ⟨j, hj⟩ := hj
  rw [hj] at hlt ⊢
  have h := or_all ⟨n, by omega⟩ j (by simp only; omega)
  simp only at h
  exact ⟨h.1, by omega⟩
theorem bits_or {a b c : Int} (h : IntKind.i64.wrap ((BitVec.ofInt 64 a ||| BitVec.ofInt 64 b).toNat : Int) = c) : bits BinOp.or IntKind.i64 a b = c := h

def putOn (n : Int) (s : PR) : PR := { s with goal := { s.goal with on := n } }
/-- What a policy looks for, as the words to the line's end. -/
def onK : Nat → PR → Bool × PR
  | 0, s => (false, s)
  | f + 1, s => match takeP s 1 with
    | (none, s') => (false, s')
    | (some x, s') => if bitF x.2.1 ≤ s'.goal.on then (false, failP s' x 4) else
        if s'.at_ = s'.line.length then (true, putOn (s'.goal.on + bitF x.2.1) s') else onK f (putOn (s'.goal.on + bitF x.2.1) s')
def onP (s : PR) : Bool × PR := onK (s.line.length + 1) s
/-- The place of the next word, as memory has it. -/
def atOf (w : World) (g : Nat) : Nat := match w.cell? ⟨g, 1, none⟩ with
  | some (.int _ k) => k.toNat
  | _ => 0
theorem atOf_is {w : World} {g : Nat} {A1 : Option Addr} {c1 : Nat} {A2 : Option Addr} {c2 : Nat} {A3 : Option Addr} {c3 : Nat} {s : PR} (h : RdM w g A1 c1 A2 c2 A3 c3 s) : atOf w g = s.at_ := by
  have d1 : w.cell? ⟨g, 1, none⟩ = some (.int .i64 (s.at_ : Int)) := Blk.cell h.blk 1
  unfold atOf
  rw [d1]
  simp

set_option maxRecDepth 100000 in
set_option maxHeartbeats 2000000 in
theorem on_any (g : Nat) (A1 : Option Addr) (c1 : Nat) (A2 : Option Addr) (c2 : Nat) (A3 : Option Addr) (c3 : Nat) (s : PR) (w : World) (hm : RdM w g A1 c1 A2 c2 A3 c3 s) (h1 : 1 ≤ s.at_) (hon : 0 ≤ s.goal.on ∧ s.goal.on < 32) (hbig : ∀ x ∈ s.line, x.2.1.length ≤ 100000) :
    Calls Tryz.prog 65 #[.pointer (some ⟨g, 0, none⟩)] w fun e w' => e = .returned (.bool (onP s).1) ∧ RdM w' g A1 c1 A2 c2 A3 c3 (onP s).2 ∧ KeepR g w w' := by
  have KT := Lib.hid (fun s w hm h1 => gtake_any g A1 c1 A2 c2 A3 c3 s 1 w hm h1)
  have KF := Lib.hid (fun s x er w hm => gfail_any g A1 c1 A2 c2 A3 c3 s x er w hm)
  have KE := Lib.hid (fun s w hm => atEnd_any g A1 c1 A2 c2 A3 c3 s w hm)
  have hgl := Blk.lt hm.blk
  have hM0 : Hid (Qu.MapAt (Qu.lay w bitsM) w.heap.size bitsM) := Lib.hid (Qu.lay_at w bitsM)
  have hB0 : Hid (Below w.heap.size w (Qu.lay w bitsM)) := Lib.hid (Qu.lay_below w bitsM)
  have HM := Lib.hid (hm.below hB0.out)
  have Hbig := Lib.hid hbig
  obtain ⟨T, hT⟩ : ∃ T, onP s = T := ⟨_, rfl⟩
  have HT := Lib.hid hT
  rw [hT]
  clear hT hm hbig
  go_enter Tryz.func65, Tryz.ntmps65
  go_wp2_with fail
  refine (bits_any w).mono ?_
  rintro e w2 ⟨rfl, rfl⟩
  generalize Qu.lay w bitsM = W at hM0 hB0 HM ⊢
  go_wp2_with fail
  go_loopw [8] (fun _ wr => ∃ (f : Nat) (s' : PR), onK f s' = T ∧ s'.line = s.line ∧ 1 ≤ s'.at_ ∧ s.line.length < s'.at_ + f ∧ 0 ≤ s'.goal.on ∧ s'.goal.on < 32 ∧ RdM wr g A1 c1 A2 c2 A3 c3 s' ∧ KeepR g w wr ∧ Qu.MapAt wr w.heap.size bitsM) (fun _ wr => s.line.length - atOf wr g)
  case atStart => exact ⟨s.line.length + 1, s, HT.out, rfl, h1, by omega, hon.1, hon.2, HM.out, KeepR.of hB0.out, hM0.out⟩
  case round =>
    obtain ⟨f, s', hp, hln, h1', hf, ho0, ho1, hm', hk', hM'⟩ := hrel
    have hle' := hm'.le
    have hgr := Blk.lt hm'.blk
    have hML := Qu.MapAt.lt hM'
    obtain ⟨f, rfl⟩ : ∃ f', f = f' + 1 := ⟨f - 1, by rw [hln] at hle'; omega⟩
    have HP := Lib.hid hp
    have HM' := Lib.hid hm'
    have HK' := Lib.hid hk'
    have HX' := Lib.hid hM'
    have HA' := Lib.hid (atOf_is hm')
    have HLN := Lib.hid hln
    clear hp hm' hk' hM' h1 hon
    cases ht : takeP s' 1 with
    | mk ox s2 =>
    have KT1 := KT.out s' wr HM'.out h1'
    rw [ht] at KT1
    have HT1 := Lib.hid KT1
    have Ht := Lib.hid ht
    clear KT1 KT
    cases ox with
    | none =>
      have HE := Lib.hid (show T = (false, s2) by rw [← HP.out]; unfold onK; rw [Ht.out])
      clear ht
      go_wp2_with fail
      refine HT1.out.mono ?_
      rintro e w3 ⟨rfl, hm3, hk3⟩
      have M3 := Lib.hid hm3
      have K3 := Lib.hid (HK'.out.trans hk3)
      clear hm3 hk3
      go_wp2_with fail
      go_ret
      rw [HE.out]
      exact ⟨rfl, M3.out.below (below1 _ _), K3.out.fresh ((below1 _ _).mono K3.out.size)⟩
    | some x =>
      have ha := take_at ht
      have ha1 : s2.at_ = s'.at_ + 1 := ha.1
      have hxl := Hbig.out x (by rw [← HLN.out]; exact ha.2.2.2.2.1)
      have HL : Hid (s2.line = s'.line ∧ s2.goal = s'.goal) := Lib.hid ⟨ha.2.1, ha.2.2.2.1⟩
      have HG2 : Hid (s2.goal.on = s'.goal.on) := Lib.hid (by rw [ha.2.2.2.1])
      clear ha ht
      have hE : T = if bitF x.2.1 ≤ s2.goal.on then (false, failP s2 x 4) else
        if s2.at_ = s2.line.length then (true, putOn (s2.goal.on + bitF x.2.1) s2) else onK f (putOn (s2.goal.on + bitF x.2.1) s2) := by rw [← HP.out, onK, Ht.out]
      obtain ⟨kd, tx, ln, cl⟩ := x
      simp only at hE hxl
      have HOR := Lib.hid (fun hlt => or_bit (a := s2.goal.on) (t := tx) (by rw [HG2.out]; omega) (by rw [HG2.out]; omega) hlt)
      have HLK : Hid (∀ w M, Qu.MapAt w M bitsM → (Instr.lookup 91 (.map (some M)) (strV tx) false).run Tryz.prog w = .ok (.int .i64 (bitF tx)) w) := Lib.hid (fun w M h => Qu.run_look w M bitsM tx h)
      generalize bitF tx = bt at HOR HLK hE
      have HE := Lib.hid hE
      clear hE HP
      go_wp2_with fail
      refine HT1.out.mono ?_
      rintro e w3 ⟨rfl, hm3, hk3⟩
      have M3 := Lib.hid hm3
      have K3 := Lib.hid (HK'.out.trans hk3)
      have X3 := Lib.hid (show Qu.MapAt w3 w.heap.size bitsM from (hk3.block w.heap.size hML (by omega)).trans HX'.out)
      clear hm3 hk3 HT1
      go_upto_region 3 with fail
      have Q4 : Hid (Blk (w3.alloc (.cells #[.int .i64 kd, strV tx, .int .i64 (ln : Int), .int .i64 (cl : Int)] 83)) w3.heap.size #[.int .i64 kd, strV tx, .int .i64 (ln : Int), .int .i64 (cl : Int)] 83) := Lib.hid (Blk.new _ _ _)
      have M4 := Lib.hid (M3.out.below (below1 w3 (.cells #[.int .i64 kd, strV tx, .int .i64 (ln : Int), .int .i64 (cl : Int)] 83)))
      have K4 := Lib.hid (K3.out.fresh ((below1 w3 (.cells #[.int .i64 kd, strV tx, .int .i64 (ln : Int), .int .i64 (cl : Int)] 83)).mono K3.out.size))
      have X4 := Lib.hid (Qu.MapAt.alloc X3.out (.cells #[.int .i64 kd, strV tx, .int .i64 (ln : Int), .int .i64 (cl : Int)] 83))
      generalize (w3.alloc (.cells #[.int .i64 kd, strV tx, .int .i64 (ln : Int), .int .i64 (cl : Int)] 83)) = V at Q4 M4 K4 X4 ⊢
      clear M3 K3 X3
      have c0 : V.cell? ⟨w3.heap.size, 0, none⟩ = some (.int .i64 kd) := Blk.cell Q4.out 0
      have c1' : V.cell? ⟨w3.heap.size, 1, none⟩ = some (strV tx) := Blk.cell Q4.out 1
      have c2' : V.cell? ⟨w3.heap.size, 2, none⟩ = some (.int .i64 (ln : Int)) := Blk.cell Q4.out 2
      have c3' : V.cell? ⟨w3.heap.size, 3, none⟩ = some (.int .i64 (cl : Int)) := Blk.cell Q4.out 3
      have d7 : V.cell? ⟨g, 7, none⟩ = some (.int .i64 s2.goal.on) := Blk.cell M4.out.blk 7
      have f7 : V.frozen? ⟨g, 7, none⟩ = false := Blk.free M4.out.blk 7
      have hlk := HLK.out V w.heap.size X4.out
      by_cases hle : bt ≤ s2.goal.on
      · have HZ : Hid (T = (false, failP s2 (kd, tx, ln, cl) 4)) := Lib.hid (by rw [HE.out, if_pos hle])
        have KF1 := Lib.hid (KF.out s2 (kd, tx, ln, cl) 4 V M4.out)
        clear HE HOR KF KE
        go_wp2_with fail
        refine KF1.out.mono ?_
        rintro e w6 ⟨rfl, hm6, hk6⟩
        have M6 := Lib.hid hm6
        have K6 := Lib.hid (K4.out.trans hk6)
        clear hm6 hk6
        go_wp2_with fail
        go_ret
        rw [HZ.out]
        exact ⟨rfl, M6.out, K6.out⟩
      · have hE2 : T = if s2.at_ = s2.line.length then (true, putOn (s2.goal.on + bt) s2) else onK f (putOn (s2.goal.on + bt) s2) := by rw [HE.out, if_neg hle]
        obtain ⟨ho, ho2⟩ := HOR.out (by omega)
        have hrun := bits_or ho
        have M5 : Hid (RdM (V.setCell ⟨g, 7, none⟩ (.int .i64 (s2.goal.on + bt))) g A1 c1 A2 c2 A3 c3 (putOn (s2.goal.on + bt) s2)) := Lib.hid (M4.out.keep ((KeepR.refl g V).setCell 7 _) (Blk.set M4.out.blk 7 (.int .i64 (s2.goal.on + bt))) rfl rfl rfl M4.out.le)
        have K5 : Hid (KeepR g w (V.setCell ⟨g, 7, none⟩ (.int .i64 (s2.goal.on + bt)))) := Lib.hid (K4.out.setCell 7 _)
        have X5 : Hid (Qu.MapAt (V.setCell ⟨g, 7, none⟩ (.int .i64 (s2.goal.on + bt))) w.heap.size bitsM) := Lib.hid ((((KeepR.refl g V).setCell 7 _).block w.heap.size (Qu.MapAt.lt X4.out) (by omega)).trans X4.out)
        have HE2 := Lib.hid hE2
        have ho3 : 0 ≤ s2.goal.on + bt := by have := HG2.out; omega
        clear HE HOR KF ho hE2
        go_wp2_with fail
        refine (KE.out _ _ M5.out).mono ?_
        rintro e w6 ⟨rfl, hb⟩
        have M6 := Lib.hid (M5.out.below hb)
        have K6 := Lib.hid (K5.out.fresh (hb.mono K5.out.size))
        have X6 := Lib.hid (Qu.MapAt.below X5.out hb (Qu.MapAt.lt X5.out))
        clear hb KE M5 K5 X5
        have HD : Hid ((putOn (s2.goal.on + bt) s2).at_ = s2.at_ ∧ (putOn (s2.goal.on + bt) s2).line = s2.line) := Lib.hid ⟨rfl, rfl⟩
        rw [HD.out.1, HD.out.2]
        by_cases hq : s2.at_ = s2.line.length
        · rw [show decide (s2.at_ = s2.line.length) = true by simp [hq]]
          have HZ : Hid (T = (true, putOn (s2.goal.on + bt) s2)) := Lib.hid (by rw [HE2.out, if_pos hq])
          clear hq
          go_wp2
          go_ret
          rw [HZ.out]
          exact ⟨rfl, M6.out, K6.out⟩
        · rw [show decide (s2.at_ = s2.line.length) = false by simp [hq]]
          have HZ : Hid (T = onK f (putOn (s2.goal.on + bt) s2)) := Lib.hid (by rw [HE2.out, if_neg hq])
          have HQ := Lib.hid hq
          clear hq
          go_wp2
          go_roundw
          case rel => exact ⟨f, putOn (s2.goal.on + bt) s2, HZ.out.symm, by rw [HD.out.2, HL.out.1]; exact HLN.out, by rw [HD.out.1]; omega, by rw [HD.out.1]; omega, ho3, ho2, M6.out, K6.out, X6.out⟩
          case measure =>
            rw [atOf_is M6.out, HD.out.1, HA'.out]
            have h2 := HL.out.1
            have h3 := HLN.out
            have h4 := M6.out.le
            have h5 := HQ.out
            rw [HD.out.1, HD.out.2, h2] at h4
            rw [h2] at h5
            rw [h3] at h4 h5
            omega
end Go.Proofs.YthbplchbolghjaaGreatDoor
