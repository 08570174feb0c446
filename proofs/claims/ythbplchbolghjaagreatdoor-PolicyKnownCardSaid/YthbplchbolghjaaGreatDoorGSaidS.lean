/- What a line of shares has behind its first word. Condition: the variables hold what was laid. -/
import Derived.Test.YthbplchbolghjaaGreatDoorGSaid
namespace Go.Proofs.YthbplchbolghjaaGreatDoor
open Go.RowKit

def saidShares (a b : Int) : Said := (a != 0 || b != 0, [(Qu.pctL a).1, (Qu.pctL b).1])
theorem blk3 (w : World) (o p : Obj) (cs : Array Value) (t : TypeId) : Blk (((w.alloc o).alloc p).alloc (.cells cs t)) (w.heap.size + 2) cs t := by
  have h := heap_alloc_new ((w.alloc o).alloc p) (.cells cs t)
  rw [show ((w.alloc o).alloc p).heap.size = w.heap.size + 2 by simp] at h
  exact h
theorem blk2a (w : World) (o : Obj) (cs : Array Value) (t : TypeId) : Blk ((w.alloc o).alloc (.cells cs t)) (w.heap.size + 1) cs t := by
  have h := heap_alloc_new (w.alloc o) (.cells cs t)
  rw [show (w.alloc o).heap.size = w.heap.size + 1 by simp] at h
  exact h
set_option maxRecDepth 100000 in
set_option maxHeartbeats 4000000 in
theorem sharesSaid_any (a b : Int) (w : World) (he : Env w) :
    Calls Tryz.prog 23 #[.agg #[.int .i64 a, .int .i64 b]] w (SaidR w (saidShares a b)) := by
  have HE := Lib.hid he
  have KP := Lib.hid (fun n w ht => Qu.printPercent_any n w ht)
  obtain ⟨i0, hi0, hz0, hz1, hz2⟩ := info_parts gstr_info
  obtain ⟨S, hS⟩ : ∃ S, saidShares a b = S := ⟨_, rfl⟩
  have HS := Lib.hid (show S = (a != 0 || b != 0, [(Qu.pctL a).1, (Qu.pctL b).1]) from hS.symm)
  rw [hS]
  clear hS he
  obtain ⟨p0, hp0⟩ : ∃ p, Qu.pctL a = p := ⟨_, rfl⟩
  obtain ⟨p1, hp1⟩ : ∃ p, Qu.pctL b = p := ⟨_, rfl⟩
  have KP0 : Hid (∀ w, Qu.Tab w → Calls Tryz.prog 51 #[.int .i64 a] w fun e w' => e = .returned (.tuple #[strV p0.1, .int .i64 p0.2]) ∧ Below w.heap.size w w') := Lib.hid (fun w ht => by rw [← hp0]; exact KP.out a w ht)
  have KP1 : Hid (∀ w, Qu.Tab w → Calls Tryz.prog 51 #[.int .i64 b] w fun e w' => e = .returned (.tuple #[strV p1.1, .int .i64 p1.2]) ∧ Below w.heap.size w w') := Lib.hid (fun w ht => by rw [← hp1]; exact KP.out b w ht)
  have HS2 : Hid (S = (a != 0 || b != 0, [p0.1, p1.1])) := Lib.hid (by rw [← hp0, ← hp1]; exact HS.out)
  obtain ⟨p0, q0⟩ := p0
  obtain ⟨p1, q1⟩ := p1
  simp only at KP0 KP1 HS2
  clear hp0 hp1 HS KP
  have B0 : Hid (Below w.heap.size w (((w.alloc (.cells #[.int .i64 a, .int .i64 b] 22)).alloc (.cells #[.bool false, .slice none 0 0] 46)).alloc (.cells #[.bool false, .slice none 0 0] 46))) := Lib.hid (((below1 w _).alloc (by simp) _).alloc (by simp; omega) _)
  have QR : Hid (Blk (((w.alloc (.cells #[.int .i64 a, .int .i64 b] 22)).alloc (.cells #[.bool false, .slice none 0 0] 46)).alloc (.cells #[.bool false, .slice none 0 0] 46)) (w.heap.size + 1) #[.bool false, .slice none 0 0] 46) := Lib.hid (Blk.alloc (blk2a w _ _ _) _)
  have QS : Hid (Blk (((w.alloc (.cells #[.int .i64 a, .int .i64 b] 22)).alloc (.cells #[.bool false, .slice none 0 0] 46)).alloc (.cells #[.bool false, .slice none 0 0] 46)) (w.heap.size + 2) #[.bool false, .slice none 0 0] 46) := Lib.hid (blk3 w _ _ _ _)
  have hsz : (((w.alloc (.cells #[.int .i64 a, .int .i64 b] 22)).alloc (.cells #[.bool false, .slice none 0 0] 46)).alloc (.cells #[.bool false, .slice none 0 0] 46)).heap.size = w.heap.size + 3 := by simp
  have q0c : (((w.alloc (.cells #[.int .i64 a, .int .i64 b] 22)).alloc (.cells #[.bool false, .slice none 0 0] 46)).alloc (.cells #[.bool false, .slice none 0 0] 46)).cell? ⟨w.heap.size, 0, none⟩ = some (.int .i64 a) := Blk.cell (Blk.alloc (Blk.alloc (Blk.new w _ _) _) _) 0
  have q1c : (((w.alloc (.cells #[.int .i64 a, .int .i64 b] 22)).alloc (.cells #[.bool false, .slice none 0 0] 46)).alloc (.cells #[.bool false, .slice none 0 0] 46)).cell? ⟨w.heap.size, 1, none⟩ = some (.int .i64 b) := Blk.cell (Blk.alloc (Blk.alloc (Blk.new w _ _) _) _) 1
  go_enter Tryz.func23, Tryz.ntmps23
  go_upto_region 2 with fail
  generalize (((w.alloc (.cells #[.int .i64 a, .int .i64 b] 22)).alloc (.cells #[.bool false, .slice none 0 0] 46)).alloc (.cells #[.bool false, .slice none 0 0] 46)) = V at B0 QR QS hsz q0c q1c ⊢
  go_wp2_with fail
  go_loopw [9] (fun i wr => ∃ (k : Nat) (A : Option Addr) (c : Nat), k ≤ 2 ∧ i = .int .i64 k ∧ Blk wr (w.heap.size + 2) #[.bool (((a != 0) && decide (1 ≤ k)) || ((b != 0) && decide (2 ≤ k))), .slice A (([p0, p1].take k)).length c] 46 ∧ wr.ownsRow (w.heap.size + 3) 9 1 (.slice A (([p0, p1].take k)).length c) (([p0, p1].take k)).length (strC (([p0, p1].take k))) ∧ Below (w.heap.size + 2) V wr) (fun i _ => 2 - (intOf i).toNat)
  case atStart => exact ⟨0, none, 0, by omega, rfl, by simpa using QS.out, World.ownsRow_nil _ _ _ _, Below.refl _ _⟩
  case round =>
    obtain ⟨k, A, c, hk, rfl, hq, how, hbw⟩ := hrel
    have HQ := Lib.hid hq
    have HO := Lib.hid how
    have HB := Lib.hid hbw
    have HBW := Lib.hid (B0.out.trans (hbw.mono (by omega)))
    have hVw := hbw.size
    have Ew := Lib.hid (HE.out.below HBW.out)
    clear hq how hbw
    obtain rfl | rfl | rfl : k = 0 ∨ k = 1 ∨ k = 2 := by omega
    · have ix : ∀ w : World, (Instr.index 22 (.agg #[.int .i64 a, .int .i64 b]) (.int .i64 0)).run Tryz.prog w = .ok (.int .i64 a) w := fun _ => by kernel_rfl
      have c0 : wr.cell? ⟨w.heap.size + 2, 0, none⟩ = some (.bool false) := by simpa using Blk.cell HQ.out 0
      have HQ' : Hid (Blk wr (w.heap.size + 2) #[.bool false, .slice A 0 c] 46) := Lib.hid (by simpa using HQ.out)
      have HO' : Hid (wr.ownsRow (w.heap.size + 3) 9 1 (.slice A 0 c) 0 (strC ([]))) := Lib.hid HO.out
      clear HO HQ c0
      go_wp2_with fail
      refine (KP0.out _ Ew.out.tab).mono ?_
      rintro e w2 ⟨rfl, hb⟩
      have hl2 := Blk.lt HQ'.out
      have Q2 := Lib.hid (Blk.below HQ'.out hb hl2)
      have O2 := Lib.hid (Sc.own_below HO'.out hb)
      have B2 := Lib.hid (HB.out.trans (hb.mono (Nat.le_of_lt hl2)))
      have hV2 := B2.out.size
      clear hb KP0 KP1 HQ' HO' HB HE Ew HBW
      have c0 : w2.cell? ⟨w.heap.size + 2, 0, none⟩ = some (.bool false) := Blk.cell Q2.out 0
      have c1 : w2.cell? ⟨w.heap.size + 2, 1, none⟩ = some (.slice A 0 c) := Blk.cell Q2.out 1
      have h63 : 0 + 1 ≤ maxLen := by unfold maxLen; omega
      have h47 : (0 + 1) * 16 ≤ 140737488355328 := by omega
      have LAW := Lib.hid (fun (gg cap : Nat) (w4 : World) (hown' : w4.ownsRow (w.heap.size + 3) 9 1 (.slice (some ⟨gg, 0, none⟩) (0 + 1) cap) (0 + 1) (strC ([]) ++ [strV p0])) (hgrow' : (w2.alloc (.cells #[strV p0] 9)).grownBy w4 (Value.slice A 0 c).ownBlock) => (show Blk w4 (w.heap.size + 2) #[.bool false, .slice A 0 c] 46 ∧ Below (w.heap.size + 2) V w4 from ⟨Blk.kept (Blk.alloc Q2.out _) hgrow' (fun e => by have := own_block O2.out e.symm; omega), below_grown (B2.out.alloc (by omega) _) (by omega) hgrow' (fun q hq => by have := own_block O2.out hq; omega)⟩))
      go_wp2_with (at_builtin; refine wpList_append_lies _ rfl _ _ 23 rfl (w.heap.size + 3) 9 i0 (.string ⟨#[]⟩) 1 16 Tryz.underlying23 hi0 hz0 hz1 hz2 rfl (by decide) (.slice A 0 c) 0 (strC ([])) rfl (O2.out.alloc _) ⟨w2.heap.size, 0, none⟩ 1 1 [strV p0] rfl rfl (World.news_of_block (cs := #[strV p0]) (t := 9) (fr := (0, 0)) (heap_alloc_new w2 _)) (by simp [Value.oneCell']) (by omega) h63 h47 (by simp; omega) _ rfl ?_; intro gg cap w4 hown' hgrow' hat hlt4; have HO4 := Lib.hid hown'; have HL4 := Lib.hid (LAW.out gg cap w4 hown' hgrow'); have g0 : w4.cell? ⟨w.heap.size + 2, 0, none⟩ = some (.bool false) := Blk.cell HL4.out.1 0; have g1 : w4.cell? ⟨w.heap.size + 2, 1, none⟩ = some (.slice A 0 c) := Blk.cell HL4.out.1 1; have k0 : w4.frozen? ⟨w.heap.size + 2, 0, none⟩ = false := Blk.free HL4.out.1 0; have k1 : w4.frozen? ⟨w.heap.size + 2, 1, none⟩ = false := Blk.free HL4.out.1 1; clear hown' hgrow' hat hlt4; refine Hid.out ?_)
      refine Lib.hid ?_
      go_wp2_with fail
      go_roundw
      case rel =>
        refine ⟨1, some ⟨gg, 0, none⟩, cap, by omega, by go_num, ?_, by simpa [strC] using (((KeepR.refl (w.heap.size + 2) w4).setCell 1 (.slice (some ⟨gg, 0, none⟩) 1 cap)).setCell 0 (.bool (a != 0))).own HO4.out (by omega), (HL4.out.2.setCell (p := ⟨w.heap.size + 2, 1, none⟩) (Nat.le_refl _) _).setCell (p := ⟨w.heap.size + 2, 0, none⟩) (Nat.le_refl _) _⟩
        have hb := Blk.set (Blk.set HL4.out.1 1 (.slice (some ⟨gg, 0, none⟩) 1 cap)) 0 (.bool (a != 0))
        simpa  using hb
      case measure => simp [intOf]
    · have ix : ∀ w : World, (Instr.index 22 (.agg #[.int .i64 a, .int .i64 b]) (.int .i64 1)).run Tryz.prog w = .ok (.int .i64 b) w := fun _ => by kernel_rfl
      have c0 : wr.cell? ⟨w.heap.size + 2, 0, none⟩ = some (.bool (a != 0)) := by simpa using Blk.cell HQ.out 0
      have HQ' : Hid (Blk wr (w.heap.size + 2) #[.bool (a != 0), .slice A 1 c] 46) := Lib.hid (by simpa using HQ.out)
      have HO' : Hid (wr.ownsRow (w.heap.size + 3) 9 1 (.slice A 1 c) 1 (strC ([p0]))) := Lib.hid HO.out
      clear HO HQ c0
      go_wp2_with fail
      refine (KP1.out _ Ew.out.tab).mono ?_
      rintro e w2 ⟨rfl, hb⟩
      have hl2 := Blk.lt HQ'.out
      have Q2 := Lib.hid (Blk.below HQ'.out hb hl2)
      have O2 := Lib.hid (Sc.own_below HO'.out hb)
      have B2 := Lib.hid (HB.out.trans (hb.mono (Nat.le_of_lt hl2)))
      have hV2 := B2.out.size
      clear hb KP0 KP1 HQ' HO' HB HE Ew HBW
      have c0 : w2.cell? ⟨w.heap.size + 2, 0, none⟩ = some (.bool (a != 0)) := Blk.cell Q2.out 0
      have c1 : w2.cell? ⟨w.heap.size + 2, 1, none⟩ = some (.slice A 1 c) := Blk.cell Q2.out 1
      have h63 : 1 + 1 ≤ maxLen := by unfold maxLen; omega
      have h47 : (1 + 1) * 16 ≤ 140737488355328 := by omega
      have LAW := Lib.hid (fun (gg cap : Nat) (w4 : World) (hown' : w4.ownsRow (w.heap.size + 3) 9 1 (.slice (some ⟨gg, 0, none⟩) (1 + 1) cap) (1 + 1) (strC ([p0]) ++ [strV p1])) (hgrow' : (w2.alloc (.cells #[strV p1] 9)).grownBy w4 (Value.slice A 1 c).ownBlock) => (show Blk w4 (w.heap.size + 2) #[.bool (a != 0), .slice A 1 c] 46 ∧ Below (w.heap.size + 2) V w4 from ⟨Blk.kept (Blk.alloc Q2.out _) hgrow' (fun e => by have := own_block O2.out e.symm; omega), below_grown (B2.out.alloc (by omega) _) (by omega) hgrow' (fun q hq => by have := own_block O2.out hq; omega)⟩))
      go_wp2_with (at_builtin; refine wpList_append_lies _ rfl _ _ 23 rfl (w.heap.size + 3) 9 i0 (.string ⟨#[]⟩) 1 16 Tryz.underlying23 hi0 hz0 hz1 hz2 rfl (by decide) (.slice A 1 c) 1 (strC ([p0])) rfl (O2.out.alloc _) ⟨w2.heap.size, 0, none⟩ 1 1 [strV p1] rfl rfl (World.news_of_block (cs := #[strV p1]) (t := 9) (fr := (0, 0)) (heap_alloc_new w2 _)) (by simp [Value.oneCell']) (by omega) h63 h47 (by simp; omega) _ rfl ?_; intro gg cap w4 hown' hgrow' hat hlt4; have HO4 := Lib.hid hown'; have HL4 := Lib.hid (LAW.out gg cap w4 hown' hgrow'); have g0 : w4.cell? ⟨w.heap.size + 2, 0, none⟩ = some (.bool (a != 0)) := Blk.cell HL4.out.1 0; have g1 : w4.cell? ⟨w.heap.size + 2, 1, none⟩ = some (.slice A 1 c) := Blk.cell HL4.out.1 1; have k0 : w4.frozen? ⟨w.heap.size + 2, 0, none⟩ = false := Blk.free HL4.out.1 0; have k1 : w4.frozen? ⟨w.heap.size + 2, 1, none⟩ = false := Blk.free HL4.out.1 1; clear hown' hgrow' hat hlt4; refine Hid.out ?_)
      refine Lib.hid ?_
      have HK : Hid (∀ v : Bool, (a != 0 || v) = (a != 0 || v)) := Lib.hid (fun _ => rfl)
      cases ha : (a != 0) with
      | false =>
        rw [ha] at g0 HL4
        go_wp2_with fail
        go_roundw
        case rel =>
          refine ⟨2, some ⟨gg, 0, none⟩, cap, by omega, by go_num, ?_, by simpa [strC] using (((KeepR.refl (w.heap.size + 2) w4).setCell 1 (.slice (some ⟨gg, 0, none⟩) 2 cap)).setCell 0 (.bool (b != 0))).own HO4.out (by omega), (HL4.out.2.setCell (p := ⟨w.heap.size + 2, 1, none⟩) (Nat.le_refl _) _).setCell (p := ⟨w.heap.size + 2, 0, none⟩) (Nat.le_refl _) _⟩
          have hb := Blk.set (Blk.set HL4.out.1 1 (.slice (some ⟨gg, 0, none⟩) 2 cap)) 0 (.bool (b != 0))
          simpa [ha] using hb
        case measure => simp [intOf]
      | true =>
        rw [ha] at g0 HL4
        go_wp2_with fail
        go_roundw
        case rel =>
          refine ⟨2, some ⟨gg, 0, none⟩, cap, by omega, by go_num, ?_, by simpa [strC] using (((KeepR.refl (w.heap.size + 2) w4).setCell 1 (.slice (some ⟨gg, 0, none⟩) 2 cap)).setCell 0 (.bool (true))).own HO4.out (by omega), (HL4.out.2.setCell (p := ⟨w.heap.size + 2, 1, none⟩) (Nat.le_refl _) _).setCell (p := ⟨w.heap.size + 2, 0, none⟩) (Nat.le_refl _) _⟩
          have hb := Blk.set (Blk.set HL4.out.1 1 (.slice (some ⟨gg, 0, none⟩) 2 cap)) 0 (.bool (true))
          simpa [ha] using hb
        case measure => simp [intOf]
    · have QR2 := Lib.hid (Blk.below QR.out HB.out (by omega))
      have c0 : wr.cell? ⟨w.heap.size + 2, 0, none⟩ = some (.bool (a != 0 || b != 0)) := by simpa using Blk.cell HQ.out 0
      have c1 : wr.cell? ⟨w.heap.size + 2, 1, none⟩ = some (.slice A 2 c) := by simpa using Blk.cell HQ.out 1
      have z0 : wr.cell? ⟨w.heap.size + 1, 0, none⟩ = some (.bool false) := Blk.cell QR2.out 0
      have z1 : wr.cell? ⟨w.heap.size + 1, 1, none⟩ = some (.slice none 0 0) := Blk.cell QR2.out 1
      have f0 : wr.frozen? ⟨w.heap.size + 1, 0, none⟩ = false := Blk.free QR2.out 0
      have f1 : wr.frozen? ⟨w.heap.size + 1, 1, none⟩ = false := Blk.free QR2.out 1
      generalize (a != 0 || b != 0) = isB at c0 HS2
      clear KP0 KP1 HE Ew
      go_wp2_with fail
      refine bodyPost_row1 Tryz.results23 (w.heap.size + 1) _ _ _ _ ?d1 ?p1 (Blk.set (Blk.set QR2.out 0 (.bool isB)) 1 (.slice A 2 c)) Tryz.underlying46 rfl said_size ?_
      case d1 => rfl
      case p1 => rfl
      rw [HS2.out]
      refine ⟨A, c, rfl, ?_, (HBW.out.setCell (p := ⟨w.heap.size + 1, 0, none⟩) (Nat.le_succ _) _).setCell (p := ⟨w.heap.size + 1, 1, none⟩) (Nat.le_succ _) _⟩
      exact own_base ((((KeepR.refl (w.heap.size + 1) wr).setCell 0 (.bool isB)).setCell 1 (.slice A 2 c)).own HO.out (by omega)) (by omega)
end Go.Proofs.YthbplchbolghjaaGreatDoor
