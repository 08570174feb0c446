/- The names of nodes that are drained, as the next words. Condition: the words lie in memory. -/
import Derived.Test.YthbplchbolghjaaGreatDoorGOn
import Derived.Deep.AppendLies
namespace Go.Proofs.YthbplchbolghjaaGreatDoor
open Go.RowKit

/-- All below a block, and another one, is as it was. -/
structure KeepD (g R : Nat) (w w' : World) : Prop where
  os : w'.os = w.os
  tape : w'.tape = w.tape
  output : w'.output = w.output
  size : w.heap.size ≤ w'.heap.size
  block : ∀ b, b < w.heap.size → b < g ∨ b = R → w'.heap[b]? = w.heap[b]?
theorem KeepD.refl (g R : Nat) (w : World) : KeepD g R w w := ⟨rfl, rfl, rfl, Nat.le_refl _, fun _ _ _ => rfl⟩
theorem KeepD.trans {g R : Nat} {a b c : World} (h : KeepD g R a b) (k : KeepD g R b c) : KeepD g R a c :=
  ⟨k.os.trans h.os, k.tape.trans h.tape, k.output.trans h.output, Nat.le_trans h.size k.size, fun i hi hg => (k.block i (Nat.lt_of_lt_of_le hi h.size) hg).trans (h.block i hi hg)⟩
theorem KeepR.toD {g R : Nat} {w w' : World} (h : KeepR g w w') (hR : R ≠ g) : KeepD g R w w' := ⟨h.os, h.tape, h.output, h.size, fun b hb hg => h.block b hb (by omega)⟩
theorem KeepD.fresh {g R : Nat} {w a b : World} (h : KeepD g R w a) (k : Below w.heap.size a b) : KeepD g R w b := ⟨k.os.trans h.os, k.tape.trans h.tape, k.output.trans h.output, Nat.le_trans h.size k.size, fun i hi hg => (k.block i hi).trans (h.block i hi hg)⟩
theorem KeepD.below {g R B : Nat} {w w' : World} (h : KeepD g R w w') (hB : B ≤ g) (hg : g ≤ w.heap.size) : Below B w w' := ⟨h.os, h.tape, h.output, h.size, fun k hk => h.block k (by omega) (by omega)⟩
theorem own_block {w : World} {base : Nat} {e : TypeId} {size : Nat} {v : Value} {n : Nat} {xs : List Value} (h : w.ownsRow base e size v n xs) {q : Nat} (hq : v.ownBlock = some q) : base ≤ q := by
  rcases h.2 with ⟨rfl, _⟩ | ⟨g, cap, cur, rfl, hb, hg, _⟩
  · simp [Value.ownBlock] at hq
  · simp only [Value.ownBlock, Option.some.injEq] at hq
    omega
theorem own_row {A : Option Addr} {n c q : Nat} (hq : (Value.slice A n c).ownBlock = some q) {w : World} {base : Nat} {e : TypeId} {size m : Nat} {xs : List Value} (h : w.ownsRow base e size (.slice A n c) m xs) : A = some ⟨q, 0, none⟩ := by
  rcases h.2 with ⟨h1, _⟩ | ⟨g, cap, cur, h1, hb, hg, _⟩
  · cases h1
    simp [Value.ownBlock] at hq
  · cases h1
    simp only [Value.ownBlock, Option.some.injEq] at hq
    rw [hq]

def putName (x : List UInt8) (s : PR) : PR := { s with goal := { s.goal with drain := s.goal.drain ++ [x] } }
/-- The names, as the words to the line's end. -/
def drainK : Nat → PR → Bool × PR
  | 0, s => (false, s)
  | f + 1, s => match takeP s 1 with
    | (none, s') => (false, s')
    | (some x, s') => if La.nameB x.2.1 = false then (false, failP s' x 4) else
        if s'.at_ = s'.line.length then (true, putName x.2.1 s') else drainK f (putName x.2.1 s')
def drainP (s : PR) : Bool × PR := drainK (s.line.length + 1) s
theorem gstr_info : (Tryz.prog.info? 9).map (fun i => (i.zero, i.size, i.bytes)) = some (some (.string ⟨#[]⟩), 1, 16) := by kernel_rfl

theorem drain_step {V W1 w4 : World} {g R gg cap H : Nat} {A1 : Option Addr} {c1 : Nat} {A2 : Option Addr} {c2 : Nat} {A3 : Option Addr} {c3 : Nat} {s : PR} {tx : List UInt8} (hV : Below V.heap.size V W1) (hgrow : W1.grownBy w4 (Value.slice A3 s.goal.drain.length c3).ownBlock) (hm : RdM V g A1 c1 A2 c2 A3 c3 s)
    (hown : w4.ownsRow (g + 1) 9 1 (.slice (some ⟨gg, 0, none⟩) (s.goal.drain.length + 1) cap) (s.goal.drain.length + 1) (strC s.goal.drain ++ [strV tx])) (hat : (Value.slice A3 s.goal.drain.length c3).ownBlock = some gg ∨ gg = H) (hH : V.heap.size ≤ H) (hR : R ≠ g) (hRV : R < V.heap.size) (hn : ∀ b o, A3 = some ⟨b, o, none⟩ → b ≠ R) :
    RdM (w4.setCell ⟨g, 8, none⟩ (.slice (some ⟨gg, 0, none⟩) (s.goal.drain.length + 1) cap)) g A1 c1 A2 c2 (some ⟨gg, 0, none⟩) cap (putName tx s) ∧ gg ≠ R ∧ KeepD g R V (w4.setCell ⟨g, 8, none⟩ (.slice (some ⟨gg, 0, none⟩) (s.goal.drain.length + 1) cap)) := by
  have hne : some g ≠ (Value.slice A3 s.goal.drain.length c3).ownBlock := fun e => by have := own_block hm.own e.symm; omega
  have hneR : some R ≠ (Value.slice A3 s.goal.drain.length c3).ownBlock := fun e => hn R 0 (own_row e.symm hm.own) rfl
  have hgV := Blk.lt hm.blk
  have hblk : ∀ b, b < V.heap.size → b ≠ g → some b ≠ (Value.slice A3 s.goal.drain.length c3).ownBlock → (w4.setCell ⟨g, 8, none⟩ (.slice (some ⟨gg, 0, none⟩) (s.goal.drain.length + 1) cap)).heap[b]? = V.heap[b]? := by
    intro b hb hbg hbo
    rw [Below.heap_setCell w4 ⟨g, 8, none⟩ _ b hbg, hgrow.block b (Nat.lt_of_lt_of_le hb hV.size) hbo]
    exact hV.block b hb
  have hlow : ∀ b, b < g → some b ≠ (Value.slice A3 s.goal.drain.length c3).ownBlock := fun b hb e => by have := own_block hm.own e.symm; omega
  have B4 : Blk w4 g (cellsPR A1 c1 A2 c2 A3 c3 s) 77 := Blk.kept (Blk.below hm.blk hV hgV) hgrow hne
  have hcell : ∀ {p : Addr} {v : Value}, V.cell? p = some v → p.block < g → (w4.setCell ⟨g, 8, none⟩ (.slice (some ⟨gg, 0, none⟩) (s.goal.drain.length + 1) cap)).cell? p = some v := by
    intro p v hp hlt
    have hb := hblk p.block (by omega) (by omega) (hlow _ hlt)
    rw [← hp]
    unfold World.cell?
    rw [hb]
  have hgs := hgrow.size
  have hks := ((KeepR.refl g w4).setCell 8 (.slice (some ⟨gg, 0, none⟩) (s.goal.drain.length + 1) cap)).size
  refine ⟨⟨?_, fun j y hj => ?_, hm.ln, fun j y hj => ?_, hm.rn, ?_, hm.le, hm.lc, hm.rc⟩, ?_, ⟨?_, ?_, ?_, ?_, fun b hb hbg => ?_⟩⟩
  · have hb := Blk.set B4 8 (.slice (some ⟨gg, 0, none⟩) (s.goal.drain.length + 1) cap)
    have e : cellsPR A1 c1 A2 c2 (some ⟨gg, 0, none⟩) cap (putName tx s) = (cellsPR A1 c1 A2 c2 A3 c3 s).setIfInBounds 8 (.slice (some ⟨gg, 0, none⟩) (s.goal.drain.length + 1) cap) := by simp [cellsPR, putName]
    rw [e]
    exact hb
  · obtain ⟨b, o, hA, hc⟩ := hm.lw j y hj
    exact ⟨b, o, hA, hcell hc (hm.ln b o hA)⟩
  · obtain ⟨b, o, hA, hc⟩ := hm.rw j y hj
    exact ⟨b, o, hA, hcell hc (hm.rn b o hA)⟩
  · have h := ((KeepR.refl g w4).setCell 8 (.slice (some ⟨gg, 0, none⟩) (s.goal.drain.length + 1) cap)).own hown (Nat.lt_succ_self g)
    have e1 : (putName tx s).goal.drain.length = s.goal.drain.length + 1 := by simp [putName]
    have e2 : strC (putName tx s).goal.drain = strC s.goal.drain ++ [strV tx] := by simp [putName, strC]
    rw [e1, e2]
    exact h
  · rcases hat with h | h
    · exact hn gg 0 (own_row h hm.own)
    · omega
  · exact ((KeepR.refl g w4).setCell 8 _).os.trans (hgrow.os.trans hV.os)
  · exact ((KeepR.refl g w4).setCell 8 _).tape.trans (hgrow.tape.trans hV.tape)
  · exact ((KeepR.refl g w4).setCell 8 _).output.trans (hgrow.output.trans hV.output)
  · exact Nat.le_trans hV.size (Nat.le_trans hgs hks)
  · rcases hbg with h | rfl
    · exact hblk b hb (by omega) (hlow b h)
    · exact hblk b hb hR hneR

set_option maxRecDepth 100000 in
set_option maxHeartbeats 2000000 in
theorem gdrain_any (g R : Nat) (A1 : Option Addr) (c1 : Nat) (A2 : Option Addr) (c2 : Nat) (A3 : Option Addr) (c3 : Nat) (s : PR) (w : World) (hm : RdM w g A1 c1 A2 c2 A3 c3 s) (hR : R ≠ g) (hRl : R < w.heap.size) (hn : ∀ b o, A3 = some ⟨b, o, none⟩ → b ≠ R) (h1 : 1 ≤ s.at_) (hd : s.goal.drain.length ≤ 100000) (hll : s.line.length ≤ 100000) (hbig : ∀ x ∈ s.line, x.2.1.length ≤ 100000) :
    Calls Tryz.prog 66 #[.pointer (some ⟨g, 0, none⟩)] w fun e w' => e = .returned (.bool (drainP s).1) ∧ (∃ A3' c3', RdM w' g A1 c1 A2 c2 A3' c3' (drainP s).2 ∧ (∀ b o, A3' = some ⟨b, o, none⟩ → b ≠ R)) ∧ KeepD g R w w' := by
  have KT := Lib.hid (fun A3 c3 s w hm h1 => gtake_any g A1 c1 A2 c2 A3 c3 s 1 w hm h1)
  have KF := Lib.hid (fun A3 c3 s x er w hm => gfail_any g A1 c1 A2 c2 A3 c3 s x er w hm)
  have KE := Lib.hid (fun A3 c3 s w hm => atEnd_any g A1 c1 A2 c2 A3 c3 s w hm)
  have hgl := Blk.lt hm.blk
  have HM := Lib.hid hm
  have Hbig := Lib.hid hbig
  have HN := Lib.hid hn
  obtain ⟨i0, hi0, hz0, hz1, hz2⟩ := info_parts gstr_info
  obtain ⟨T, hT⟩ : ∃ T, drainP s = T := ⟨_, rfl⟩
  have HT := Lib.hid hT
  rw [hT]
  clear hT hm hbig hn
  go_enter Tryz.func66, Tryz.ntmps66
  go_wp2_with fail
  go_loopw [5] (fun _ wr => ∃ (f : Nat) (s' : PR) (A3 : Option Addr) (c3 : Nat), drainK f s' = T ∧ s'.line = s.line ∧ 1 ≤ s'.at_ ∧ s.line.length < s'.at_ + f ∧ s'.goal.drain.length + s.at_ = s.goal.drain.length + s'.at_ ∧ (∀ b o, A3 = some ⟨b, o, none⟩ → b ≠ R) ∧ RdM wr g A1 c1 A2 c2 A3 c3 s' ∧ KeepD g R w wr) (fun _ wr => s.line.length - atOf wr g)
  case atStart => exact ⟨s.line.length + 1, s, A3, c3, HT.out, rfl, h1, by omega, rfl, HN.out, HM.out, KeepD.refl _ _ _⟩
  case round =>
    clear HN HM
    obtain ⟨f, s', A3, c3, hp, hln, h1', hf, hdl, hn', hm', hk'⟩ := hrel
    have hle' := hm'.le
    have hgr := Blk.lt hm'.blk
    have hRr : R < wr.heap.size := Nat.lt_of_lt_of_le hRl hk'.size
    obtain ⟨f, rfl⟩ : ∃ f', f = f' + 1 := ⟨f - 1, by rw [hln] at hle'; omega⟩
    have HP := Lib.hid hp
    have HM' := Lib.hid hm'
    have HN' := Lib.hid hn'
    have HK' := Lib.hid hk'
    have HA' := Lib.hid (atOf_is hm')
    have HLN := Lib.hid hln
    clear hp hm' hk' hn' h1
    cases ht : takeP s' 1 with
    | mk ox s2 =>
    have KT1 := KT.out A3 c3 s' wr HM'.out h1'
    rw [ht] at KT1
    have HT1 := Lib.hid KT1
    have Ht := Lib.hid ht
    clear KT1 KT
    cases ox with
    | none =>
      have HE := Lib.hid (show T = (false, s2) by rw [← HP.out]; unfold drainK; rw [Ht.out])
      clear ht
      go_wp2_with fail
      refine HT1.out.mono ?_
      rintro e w3 ⟨rfl, hm3, hk3⟩
      have M3 := Lib.hid hm3
      have K3 := Lib.hid (HK'.out.trans (hk3.toD hR))
      clear hm3 hk3
      go_wp2_with fail
      go_ret
      rw [HE.out]
      exact ⟨rfl, ⟨A3, c3, M3.out.below (below1 _ _), HN'.out⟩, K3.out.fresh ((below1 _ _).mono K3.out.size)⟩
    | some x =>
      have ha := take_at ht
      have ha1 : s2.at_ = s'.at_ + 1 := ha.1
      have hxl := Hbig.out x (by rw [← HLN.out]; exact ha.2.2.2.2.1)
      have HL : Hid (s2.line = s'.line ∧ s2.goal = s'.goal) := Lib.hid ⟨ha.2.1, ha.2.2.2.1⟩
      clear ha ht
      have hE : T = if La.nameB x.2.1 = false then (false, failP s2 x 4) else
        if s2.at_ = s2.line.length then (true, putName x.2.1 s2) else drainK f (putName x.2.1 s2) := by rw [← HP.out, drainK, Ht.out]
      obtain ⟨kd, tx, ln, cl⟩ := x
      simp only at hE hxl
      have KN := Lib.hid (fun w => La.nameB_any tx w (by omega))
      generalize La.nameB tx = bt at KN hE
      have HE := Lib.hid hE
      clear hE HP
      go_wp2_with fail
      refine HT1.out.mono ?_
      rintro e w3 ⟨rfl, hm3, hk3⟩
      have M3 := Lib.hid hm3
      have K3 := Lib.hid (HK'.out.trans (hk3.toD hR))
      clear hm3 hk3 HT1
      go_wp2_with fail
      have Q4 : Hid (Blk (w3.alloc (.cells #[.int .i64 kd, strV tx, .int .i64 (ln : Int), .int .i64 (cl : Int)] 83)) w3.heap.size #[.int .i64 kd, strV tx, .int .i64 (ln : Int), .int .i64 (cl : Int)] 83) := Lib.hid (Blk.new _ _ _)
      have M4 := Lib.hid (M3.out.below (below1 w3 (.cells #[.int .i64 kd, strV tx, .int .i64 (ln : Int), .int .i64 (cl : Int)] 83)))
      have K4 := Lib.hid (K3.out.fresh ((below1 w3 (.cells #[.int .i64 kd, strV tx, .int .i64 (ln : Int), .int .i64 (cl : Int)] 83)).mono K3.out.size))
      refine (KN.out _).mono ?_
      rintro e V ⟨rfl, hb⟩
      have Q5 := Lib.hid (Blk.below Q4.out hb (Blk.lt Q4.out))
      have M5 := Lib.hid (M4.out.below hb)
      have K5 := Lib.hid (K4.out.fresh (hb.mono K4.out.size))
      clear hb KN Q4 M4 K4 M3 K3
      have c0 : V.cell? ⟨w3.heap.size, 0, none⟩ = some (.int .i64 kd) := Blk.cell Q5.out 0
      have c1' : V.cell? ⟨w3.heap.size, 1, none⟩ = some (strV tx) := Blk.cell Q5.out 1
      have c2' : V.cell? ⟨w3.heap.size, 2, none⟩ = some (.int .i64 (ln : Int)) := Blk.cell Q5.out 2
      have c3' : V.cell? ⟨w3.heap.size, 3, none⟩ = some (.int .i64 (cl : Int)) := Blk.cell Q5.out 3
      have d8 : V.cell? ⟨g, 8, none⟩ = some (.slice A3 s2.goal.drain.length c3) := Blk.cell M5.out.blk 8
      have f8 : V.frozen? ⟨g, 8, none⟩ = false := Blk.free M5.out.blk 8
      have hgV := Blk.lt M5.out.blk
      have hRV : R < V.heap.size := Nat.lt_of_lt_of_le hRl K5.out.size
      cases bt with
      | false =>
        have HZ : Hid (T = (false, failP s2 (kd, tx, ln, cl) 4)) := Lib.hid (by rw [HE.out, if_pos rfl])
        have KF1 := Lib.hid (KF.out A3 c3 s2 (kd, tx, ln, cl) 4 V M5.out)
        clear HE KF KE
        go_wp2_with fail
        refine KF1.out.mono ?_
        rintro e w6 ⟨rfl, hm6, hk6⟩
        have M6 := Lib.hid hm6
        have K6 := Lib.hid (K5.out.trans (hk6.toD hR))
        clear hm6 hk6
        go_wp2_with fail
        go_ret
        rw [HZ.out]
        exact ⟨rfl, ⟨A3, c3, M6.out, HN'.out⟩, K6.out⟩
      | true =>
        have hE2 : T = if s2.at_ = s2.line.length then (true, putName tx s2) else drainK f (putName tx s2) := by rw [HE.out, if_neg (by simp)]
        have HE2 := Lib.hid hE2
        have hdn : s2.goal.drain.length + s.at_ = s.goal.drain.length + s'.at_ := by rw [HL.out.2]; exact hdl
        have hls : s'.at_ ≤ 100000 := by rw [HLN.out] at hle'; omega
        have hk63 : s2.goal.drain.length + 1 ≤ maxLen := by unfold maxLen; omega
        have hk47 : (s2.goal.drain.length + 1) * 16 ≤ 140737488355328 := by omega
        have hne : some g ≠ (Value.slice A3 s2.goal.drain.length c3).ownBlock := fun e => by have := own_block M5.out.own e.symm; omega
        clear HE KF hE2
        go_wp2_with fail
        go_region_law (first | (refine step_append_lies _ (by rfl) _ _ _ (by rfl) (g + 1) 9 i0 (.string ⟨#[]⟩) 1 16 Tryz.underlying23 hi0 hz0 hz1 hz2 rfl (by decide) (.slice A3 s2.goal.drain.length c3) s2.goal.drain.length (strC s2.goal.drain) (by rfl) (World.ownsRow.alloc (show World.ownsRow V.drew _ _ _ _ _ _ from M5.out.own) _) ⟨V.heap.size, 0, none⟩ 1 1 [strV tx] (by rfl) (by rfl) (World.news_of_block (cs := #[strV tx]) (t := 9) (fr := (0, 0)) (heap_alloc_new V _)) (by simp [Value.oneCell']) (by omega) hk63 hk47 (by simp; omega) (V.heap.size + 1) (by simp) ?_; intro gg cap w4 hown' hgrow' hat hlt4; have P4 := Lib.hid (drain_step (by first | exact ((Below.refl _ V).alloc (Nat.le_refl _) _).drew | exact ((Below.refl _ V).drew.alloc (Nat.le_refl _) _) | exact ((Below.refl _ V).alloc (Nat.le_refl _) _)) hgrow' M5.out hown' hat (Nat.le_succ _) hR hRV HN'.out); have B4 := Lib.hid (show Blk w4 g _ _ from Blk.kept (Blk.below M5.out.blk (show Below V.heap.size V _ by first | exact ((Below.refl _ V).alloc (Nat.le_refl _) _).drew | exact ((Below.refl _ V).drew.alloc (Nat.le_refl _) _) | exact ((Below.refl _ V).alloc (Nat.le_refl _) _)) hgV) hgrow' hne); have g8 : w4.cell? ⟨g, 8, none⟩ = some (.slice A3 s2.goal.drain.length c3) := Blk.cell B4.out 8; have g8f : w4.frozen? ⟨g, 8, none⟩ = false := Blk.free B4.out 8; clear hown' hgrow' hat))
        all_goals
          change Exit.then _ _ _ _ (w4.setCell ⟨g, 8, none⟩ (.slice (some ⟨gg, 0, none⟩) (s2.goal.drain.length + 1) cap))
          generalize (w4.setCell ⟨g, 8, none⟩ (.slice (some ⟨gg, 0, none⟩) (s2.goal.drain.length + 1) cap)) = U at P4 ⊢
          have M6 := Lib.hid P4.out.1
          have N6 := Lib.hid P4.out.2.1
          have K6 := Lib.hid (K5.out.trans P4.out.2.2)
          clear P4 g8 g8f B4 hlt4
          go_wp2_with fail
          refine (KE.out _ _ _ _ M6.out).mono ?_
          rintro e w7 ⟨rfl, hb⟩
          have M7 := Lib.hid (M6.out.below hb)
          have K7 := Lib.hid (K6.out.fresh (hb.mono K6.out.size))
          clear hb M6 K6
          have HD : Hid ((putName tx s2).at_ = s2.at_ ∧ (putName tx s2).line = s2.line ∧ (putName tx s2).goal.drain.length = s2.goal.drain.length + 1) := Lib.hid ⟨rfl, rfl, by simp [putName]⟩
          rw [HD.out.1, HD.out.2.1]
          by_cases hq : s2.at_ = s2.line.length
          · rw [show decide (s2.at_ = s2.line.length) = true by simp [hq]]
            have HZ : Hid (T = (true, putName tx s2)) := Lib.hid (by rw [HE2.out, if_pos hq])
            clear hq
            go_wp2
            go_ret
            rw [HZ.out]
            exact ⟨rfl, ⟨_, _, M7.out, fun b o he => by cases he; exact N6.out⟩, K7.out⟩
          · rw [show decide (s2.at_ = s2.line.length) = false by simp [hq]]
            have HZ : Hid (T = drainK f (putName tx s2)) := Lib.hid (by rw [HE2.out, if_neg hq])
            have HQ := Lib.hid hq
            clear hq
            go_wp2
            go_roundw
            case rel => exact ⟨f, putName tx s2, _, _, HZ.out.symm, by rw [HD.out.2.1, HL.out.1]; exact HLN.out, by rw [HD.out.1]; omega, by rw [HD.out.1]; omega, by rw [HD.out.2.2, HD.out.1]; omega, fun b o he => by cases he; exact N6.out, M7.out, K7.out⟩
            case measure =>
              rw [atOf_is M7.out, HD.out.1, HA'.out]
              have h2 := HL.out.1
              have h3 := HLN.out
              have h4 := M7.out.le
              have h5 := HQ.out
              rw [HD.out.1, HD.out.2.1, h2] at h4
              rw [h2] at h5
              rw [h3] at h4 h5
              omega
end Go.Proofs.YthbplchbolghjaaGreatDoor
