/- What a line has behind its first word. Condition: the variables hold what was laid. -/
import Derived.Test.YthbplchbolghjaaGreatDoorGParse
namespace Go.Proofs.YthbplchbolghjaaGreatDoor
open Go.RowKit

theorem results_row1 {P : Program} {fn : Func} {p : Tmp} {ty : TypeId} (h : fn.results = #[.cell p ty]) (tmps : Array Value) (w : World) (g : Nat) (t : TypeId) (cs : Array Value) (fr : Nat × Nat) (d : TypeDesc)
    (hp : tmps.getD p undef = .pointer (some ⟨g, 0, none⟩)) (hg : w.heap[g]? = some (.cells cs t fr))
    (hu : P.underlying ty = some d) (hd : (match d with | .struct _ | .array _ _ => true | _ => false) = true) (hi : (P.info? ty).map (·.size) = some cs.size) :
    (results fn tmps).run P w = .ok (.agg cs) w := by
  have hp' : tmps[p]?.getD undef = .pointer (some ⟨g, 0, none⟩) := by simpa using hp
  simp [results, h, hp', asAddr, run_loadVar_row w g t ty cs fr d hg hu hd hi]
theorem bodyPost_row1 {P : Program} {fn : Func} {p : Tmp} {ty : TypeId} {R : Ending → World → Prop} {a : Act} {w : World} (h : fn.results = #[.cell p ty]) (g : Nat) (t : TypeId) (cs : Array Value) (fr : Nat × Nat) (d : TypeDesc)
    (hd0 : a.defers = []) (hp : a.tmps.getD p undef = .pointer (some ⟨g, 0, none⟩)) (hg : w.heap[g]? = some (.cells cs t fr))
    (hu : P.underlying ty = some d) (hd : (match d with | .struct _ | .array _ _ => true | _ => false) = true) (hi : (P.info? ty).map (·.size) = some cs.size)
    (hR : R (.returned (.agg cs)) w) : bodyPost P fn R .ret a w :=
  bodyPost_ret (results_row1 h a.tmps w g t cs fr d hp hg hu hd hi) hd0 hR
theorem said_size : (Tryz.prog.info? 46).map (·.size) = some 2 := by kernel_rfl
theorem own_blk {w : World} {base q : Nat} {cs : Array Value} {e : TypeId} (hb : Blk w q cs e) (hq : base ≤ q) (hs : cs.size ≤ maxLen) : w.ownsRow base e 1 (.slice (some ⟨q, 0, none⟩) cs.size cs.size) cs.size cs.toList := by
  refine ⟨by simp, .inr ⟨q, cs.size, cs, rfl, hq, hb, Nat.le_refl _, hs, by simp, ?_⟩⟩
  rw [List.take_of_length_le (by simp)]

/-- What a line says: whether it stands, and its words. -/
abbrev Said := Bool × List (List UInt8)
/-- A line's words, laid in new memory. -/
def SaidR (w : World) (x : Said) (e : Ending) (w' : World) : Prop :=
  ∃ A c, e = .returned (.agg #[.bool x.1, .slice A x.2.length c]) ∧ w'.ownsRow w.heap.size 9 1 (.slice A x.2.length c) x.2.length (strC x.2) ∧ Below w.heap.size w w'
def saidNum (n : Int) : Said := (n != 0, [Lib.itoa n])

set_option maxRecDepth 100000 in
set_option maxHeartbeats 1000000 in
theorem numberSaid_any (n : Int) (w : World) (h0 : -9223372036854775808 ≤ n) (h1 : n ≤ 9223372036854775807) (ht : Qu.Tab w) :
    Calls Tryz.prog 25 #[.int .i64 n] w (SaidR w (saidNum n)) := by
  have HT := Lib.hid ht
  have KI := Lib.hid (fun w ht => itoa_all n w h0 h1 ht)
  have B0 : Hid (Below w.heap.size w (w.alloc (.cells #[.bool false, .slice none 0 0] 46))) := Lib.hid (below1 w _)
  have Q0 : Hid (Blk (w.alloc (.cells #[.bool false, .slice none 0 0] 46)) w.heap.size #[.bool false, .slice none 0 0] 46) := Lib.hid (Blk.new w _ _)
  have T0 := Lib.hid (ht.below B0.out)
  have hl0 := Blk.lt Q0.out
  unfold saidNum
  generalize Lib.itoa n = it at KI ⊢
  clear ht
  go_enter Tryz.func25, Tryz.ntmps25
  go_upto_region 1 with fail
  generalize (w.alloc (.cells #[.bool false, .slice none 0 0] 46)) = W at B0 Q0 T0 hl0 ⊢
  go_wp2_with fail
  refine (KI.out _ T0.out).mono ?_
  rintro e w2 ⟨rfl, hb⟩
  have Q2 := Lib.hid (Blk.below Q0.out hb hl0)
  have B2 := Lib.hid (B0.out.trans (hb.mono (Nat.le_of_lt hl0)))
  clear hb KI Q0 B0 T0 HT
  have hl2 := Blk.lt Q2.out
  have R3 : Hid (Blk (w2.alloc (.cells #[strV it] 9)) w2.heap.size #[strV it] 9) := Lib.hid (Blk.new _ _ _)
  have Q3 : Hid (Blk (w2.alloc (.cells #[strV it] 9)) w.heap.size #[.bool false, .slice none 0 0] 46) := Lib.hid (Blk.alloc Q2.out _)
  have B3 : Hid (Below w.heap.size w (w2.alloc (.cells #[strV it] 9))) := Lib.hid (B2.out.alloc B2.out.size _)
  have z0 : w2.cell? ⟨w.heap.size, 0, none⟩ = some (.bool false) := Blk.cell Q2.out 0
  have z1 : w2.cell? ⟨w.heap.size, 1, none⟩ = some (.slice none 0 0) := Blk.cell Q2.out 1
  have f0 : w2.frozen? ⟨w.heap.size, 0, none⟩ = false := Blk.free Q2.out 0
  have f1 : w2.frozen? ⟨w.heap.size, 1, none⟩ = false := Blk.free Q2.out 1
  go_wp2_with fail
  refine bodyPost_row1 Tryz.results25 w.heap.size _ _ _ _ ?d1 ?p1 (Blk.alloc (Blk.set (Blk.set Q2.out 0 (.bool (n != 0))) 1 (.slice (some ⟨w2.heap.size, 0, none⟩) 1 1)) _) Tryz.underlying46 rfl said_size ?_
  case d1 => rfl
  case p1 => rfl
  have hR := Blk.new ((w2.setCell ⟨w.heap.size, 0, none⟩ (.bool (n != 0))).setCell ⟨w.heap.size, 1, none⟩ (.slice (some ⟨w2.heap.size, 0, none⟩) 1 1)) #[strV it] 9
  rw [show ((w2.setCell ⟨w.heap.size, 0, none⟩ (.bool (n != 0))).setCell ⟨w.heap.size, 1, none⟩ (.slice (some ⟨w2.heap.size, 0, none⟩) 1 1)).heap.size = w2.heap.size by simp] at hR
  refine ⟨some ⟨w2.heap.size, 0, none⟩, 1, rfl, own_blk hR B2.out.size (by show 1 ≤ maxLen; unfold maxLen; omega), ?_⟩
  exact (((B2.out.setCell (p := ⟨w.heap.size, 0, none⟩) (Nat.le_refl _) (.bool (n != 0))).setCell (p := ⟨w.heap.size, 1, none⟩) (Nat.le_refl _) (.slice (some ⟨w2.heap.size, 0, none⟩) 1 1))).alloc (by simp; exact B2.out.size) _

theorem below_grown {B : Nat} {W a b : World} {row : Option Nat} (h : Below B W a) (hB : B ≤ W.heap.size) (hg : a.grownBy b row) (hr : ∀ q, row = some q → B ≤ q) : Below B W b :=
  ⟨hg.os.trans h.os, hg.tape.trans h.tape, hg.output.trans h.output, Nat.le_trans h.size hg.size, fun k hk => (hg.block k (Nat.lt_of_lt_of_le (Nat.lt_of_lt_of_le hk hB) h.size) (fun e => by have := hr k e.symm; omega)).trans (h.block k hk)⟩

/-- Is a word's bit among these? -/
def andB (on : Int) (t : List UInt8) : Bool := bits BinOp.and IntKind.i64 on (bitF t) != 0
def saidLooks (on : Int) : Said := (on != 0, looksL.filter (andB on))
theorem looks_step (on : Int) (k : Nat) {x : List UInt8} (hx : looksL[k]? = some x) : (looksL.take (k + 1)).filter (andB on) = (looksL.take k).filter (andB on) ++ (if andB on x = true then [x] else []) := by
  rw [List.take_add_one, hx, List.filter_append]
  simp [List.filter_cons]
set_option maxRecDepth 100000 in
set_option maxHeartbeats 4000000 in
theorem looksSaid_any (on : Int) (w : World) (he : Env w) :
    Calls Tryz.prog 24 #[.int .i64 on] w (SaidR w (saidLooks on)) := by
  have HE := Lib.hid he
  obtain ⟨i0, hi0, hz0, hz1, hz2⟩ := info_parts gstr_info
  have B0 : Hid (Below w.heap.size w (w.alloc (.cells #[.bool false, .slice none 0 0] 46))) := Lib.hid (below1 w _)
  have Q0 : Hid (Blk (w.alloc (.cells #[.bool false, .slice none 0 0] 46)) w.heap.size #[.bool false, .slice none 0 0] 46) := Lib.hid (Blk.new w _ _)
  have hl0 := Blk.lt Q0.out
  have HX : Hid (∀ k, (looksL.take k).length ≤ 5) := Lib.hid (fun k => Nat.le_trans (List.length_take_le' _ _) (by decide))
  obtain ⟨S, hS⟩ : ∃ S, saidLooks on = S := ⟨_, rfl⟩
  have HS := Lib.hid (show S = (on != 0, looksL.filter (andB on)) from hS.symm)
  rw [hS]
  clear hS he
  go_enter Tryz.func24, Tryz.ntmps24
  go_upto_region 1 with fail
  generalize (w.alloc (.cells #[.bool false, .slice none 0 0] 46)) = W at B0 Q0 hl0 ⊢
  go_wp2_with fail
  refine (bits_any W).mono ?_
  rintro e w2 ⟨rfl, rfl⟩
  have X1 : Hid (Qu.MapAt (Qu.lay W bitsM) W.heap.size bitsM) := Lib.hid (Qu.lay_at W bitsM)
  have Y1 : Hid (Below W.heap.size W (Qu.lay W bitsM)) := Lib.hid (Qu.lay_below W bitsM)
  have B1 := Lib.hid (B0.out.trans (Y1.out.mono (Nat.le_of_lt hl0)))
  have Q1 := Lib.hid (Blk.below Q0.out Y1.out hl0)
  have E1 := Lib.hid (HE.out.below B1.out)
  generalize Qu.lay W bitsM = V at X1 Y1 B1 Q1 E1 ⊢
  have hV1 := Qu.MapAt.lt X1.out
  have hV2 := Blk.lt Q1.out
  have kc0 : V.cell? ⟨1, 0, none⟩ = some (strV [100, 111, 117, 98, 108, 101, 115]) := E1.out.looks 0 _ rfl
  have kc1 : V.cell? ⟨1, 1, none⟩ = some (strV [119, 105, 116, 104]) := E1.out.looks 1 _ rfl
  have kc2 : V.cell? ⟨1, 2, none⟩ = some (strV [116, 97, 105, 110, 116, 115]) := E1.out.looks 2 _ rfl
  have kc3 : V.cell? ⟨1, 3, none⟩ = some (strV [115, 112, 114, 101, 97, 100]) := E1.out.looks 3 _ rfl
  have kc4 : V.cell? ⟨1, 4, none⟩ = some (strV [101, 109, 112, 116, 121]) := E1.out.looks 4 _ rfl
  clear HE Q0 B0 Y1 E1
  go_wp2_with fail
  go_loopw [4, 9] (fun v i wr => ∃ (k : Nat) (A : Option Addr) (c : Nat), k ≤ 5 ∧ i = .int .i64 k ∧ v = .slice A ((looksL.take k).filter (andB on)).length c ∧ wr.ownsRow V.heap.size 9 1 (.slice A ((looksL.take k).filter (andB on)).length c) ((looksL.take k).filter (andB on)).length (strC ((looksL.take k).filter (andB on))) ∧ Below V.heap.size V wr) (fun _ i _ => 5 - (intOf i).toNat)
  case atStart => exact ⟨0, none, 0, by omega, rfl, rfl, World.ownsRow_nil _ _ _ _, Below.refl _ _⟩
  case round =>
    obtain ⟨k, A, c, hk, rfl, rfl, how, hbw⟩ := hrel
    have HO := Lib.hid how
    have HB := Lib.hid hbw
    have hVw := hbw.size
    clear how hbw kc0 kc1 kc2 kc3 kc4
    obtain rfl | rfl | rfl | rfl | rfl | rfl : k = 0 ∨ k = 1 ∨ k = 2 ∨ k = 3 ∨ k = 4 ∨ k = 5 := by omega
    · have ix : ∀ w : World, (Instr.index 93 (.agg #[strV [100, 111, 117, 98, 108, 101, 115], strV [119, 105, 116, 104], strV [116, 97, 105, 110, 116, 115], strV [115, 112, 114, 101, 97, 100], strV [101, 109, 112, 116, 121]]) (.int .i64 0)).run Tryz.prog w = .ok (strV [100, 111, 117, 98, 108, 101, 115]) w := fun _ => by kernel_rfl
      have HSt := Lib.hid (looks_step on 0 (x := [100, 111, 117, 98, 108, 101, 115]) rfl)
      have hlk : (Instr.lookup 91 (.map (some W.heap.size)) (strV [100, 111, 117, 98, 108, 101, 115]) false).run Tryz.prog wr = .ok (.int .i64 1) wr := Qu.run_look wr W.heap.size bitsM [100, 111, 117, 98, 108, 101, 115] (Qu.MapAt.below X1.out HB.out hV1)
      obtain ⟨F, hF⟩ : ∃ F, (looksL.take 0).filter (andB on) = F := ⟨_, rfl⟩
      have hFl : F.length ≤ 5 := by rw [← hF]; exact Nat.le_trans (List.length_filter_le _ _) (HX.out _)
      rw [hF] at HO HSt ⊢
      clear hF
      cases hq : bits BinOp.and IntKind.i64 on 1 != 0 with
      | false =>
        have HA : Hid (andB on [100, 111, 117, 98, 108, 101, 115] = false) := Lib.hid hq
        have hq2 : bits BinOp.and IntKind.i64 on 1 = 0 := by simpa using hq
        go_wp2_with fail
        go_roundw
        case rel =>
          have h2 : (looksL.take (0 + 1)).filter (andB on) = F := by rw [HSt.out, if_neg (by rw [HA.out]; simp), List.append_nil]
          exact ⟨1, A, c, by omega, by go_num, by rw [h2], by rw [h2]; exact HO.out, HB.out⟩
        case measure => simp [intOf]
      | true =>
        have HA : Hid (andB on [100, 111, 117, 98, 108, 101, 115] = true) := Lib.hid hq
        have hq2 : ¬ bits BinOp.and IntKind.i64 on 1 = 0 := by simpa using hq
        have h63 : F.length + 1 ≤ maxLen := by unfold maxLen; omega
        have h47 : (F.length + 1) * 16 ≤ 140737488355328 := by omega
        go_wp2_with (at_builtin; refine wpList_append_lies _ rfl _ _ 23 rfl V.heap.size 9 i0 (.string ⟨#[]⟩) 1 16 Tryz.underlying23 hi0 hz0 hz1 hz2 rfl (by decide) (.slice A F.length c) F.length (strC F) rfl (HO.out.alloc _) ⟨wr.heap.size, 0, none⟩ 1 1 [strV [100, 111, 117, 98, 108, 101, 115]] rfl rfl (World.news_of_block (cs := #[strV [100, 111, 117, 98, 108, 101, 115]]) (t := 9) (fr := (0, 0)) (heap_alloc_new wr _)) (by simp [Value.oneCell']) (by omega) h63 h47 (by simp; omega) _ rfl ?_; intro gg cap w4 hown' hgrow' hat hlt4; have HO4 := Lib.hid hown'; have HB4 := Lib.hid (below_grown (HB.out.alloc HB.out.size _) (Nat.le_refl _) hgrow' (fun q hq => own_block HO.out hq)); clear hown' hgrow' hat hlt4)
        go_roundw
        case rel =>
          have h2 : (looksL.take (0 + 1)).filter (andB on) = F ++ [[100, 111, 117, 98, 108, 101, 115]] := by rw [HSt.out, if_pos HA.out]
          have h3 : (F ++ [[100, 111, 117, 98, 108, 101, 115]]).length = F.length + 1 := by simp
          have h4 : strC (F ++ [[100, 111, 117, 98, 108, 101, 115]]) = strC F ++ [strV [100, 111, 117, 98, 108, 101, 115]] := by simp [strC]
          exact ⟨1, some ⟨gg, 0, none⟩, cap, by omega, by go_num, by rw [h2, h3], by rw [h2, h3, h4]; exact HO4.out, HB4.out⟩
        case measure => simp [intOf]
    · have ix : ∀ w : World, (Instr.index 93 (.agg #[strV [100, 111, 117, 98, 108, 101, 115], strV [119, 105, 116, 104], strV [116, 97, 105, 110, 116, 115], strV [115, 112, 114, 101, 97, 100], strV [101, 109, 112, 116, 121]]) (.int .i64 1)).run Tryz.prog w = .ok (strV [119, 105, 116, 104]) w := fun _ => by kernel_rfl
      have HSt := Lib.hid (looks_step on 1 (x := [119, 105, 116, 104]) rfl)
      have hlk : (Instr.lookup 91 (.map (some W.heap.size)) (strV [119, 105, 116, 104]) false).run Tryz.prog wr = .ok (.int .i64 2) wr := Qu.run_look wr W.heap.size bitsM [119, 105, 116, 104] (Qu.MapAt.below X1.out HB.out hV1)
      obtain ⟨F, hF⟩ : ∃ F, (looksL.take 1).filter (andB on) = F := ⟨_, rfl⟩
      have hFl : F.length ≤ 5 := by rw [← hF]; exact Nat.le_trans (List.length_filter_le _ _) (HX.out _)
      rw [hF] at HO HSt ⊢
      clear hF
      cases hq : bits BinOp.and IntKind.i64 on 2 != 0 with
      | false =>
        have HA : Hid (andB on [119, 105, 116, 104] = false) := Lib.hid hq
        have hq2 : bits BinOp.and IntKind.i64 on 2 = 0 := by simpa using hq
        go_wp2_with fail
        go_roundw
        case rel =>
          have h2 : (looksL.take (1 + 1)).filter (andB on) = F := by rw [HSt.out, if_neg (by rw [HA.out]; simp), List.append_nil]
          exact ⟨2, A, c, by omega, by go_num, by rw [h2], by rw [h2]; exact HO.out, HB.out⟩
        case measure => simp [intOf]
      | true =>
        have HA : Hid (andB on [119, 105, 116, 104] = true) := Lib.hid hq
        have hq2 : ¬ bits BinOp.and IntKind.i64 on 2 = 0 := by simpa using hq
        have h63 : F.length + 1 ≤ maxLen := by unfold maxLen; omega
        have h47 : (F.length + 1) * 16 ≤ 140737488355328 := by omega
        go_wp2_with (at_builtin; refine wpList_append_lies _ rfl _ _ 23 rfl V.heap.size 9 i0 (.string ⟨#[]⟩) 1 16 Tryz.underlying23 hi0 hz0 hz1 hz2 rfl (by decide) (.slice A F.length c) F.length (strC F) rfl (HO.out.alloc _) ⟨wr.heap.size, 0, none⟩ 1 1 [strV [119, 105, 116, 104]] rfl rfl (World.news_of_block (cs := #[strV [119, 105, 116, 104]]) (t := 9) (fr := (0, 0)) (heap_alloc_new wr _)) (by simp [Value.oneCell']) (by omega) h63 h47 (by simp; omega) _ rfl ?_; intro gg cap w4 hown' hgrow' hat hlt4; have HO4 := Lib.hid hown'; have HB4 := Lib.hid (below_grown (HB.out.alloc HB.out.size _) (Nat.le_refl _) hgrow' (fun q hq => own_block HO.out hq)); clear hown' hgrow' hat hlt4)
        go_roundw
        case rel =>
          have h2 : (looksL.take (1 + 1)).filter (andB on) = F ++ [[119, 105, 116, 104]] := by rw [HSt.out, if_pos HA.out]
          have h3 : (F ++ [[119, 105, 116, 104]]).length = F.length + 1 := by simp
          have h4 : strC (F ++ [[119, 105, 116, 104]]) = strC F ++ [strV [119, 105, 116, 104]] := by simp [strC]
          exact ⟨2, some ⟨gg, 0, none⟩, cap, by omega, by go_num, by rw [h2, h3], by rw [h2, h3, h4]; exact HO4.out, HB4.out⟩
        case measure => simp [intOf]
    · have ix : ∀ w : World, (Instr.index 93 (.agg #[strV [100, 111, 117, 98, 108, 101, 115], strV [119, 105, 116, 104], strV [116, 97, 105, 110, 116, 115], strV [115, 112, 114, 101, 97, 100], strV [101, 109, 112, 116, 121]]) (.int .i64 2)).run Tryz.prog w = .ok (strV [116, 97, 105, 110, 116, 115]) w := fun _ => by kernel_rfl
      have HSt := Lib.hid (looks_step on 2 (x := [116, 97, 105, 110, 116, 115]) rfl)
      have hlk : (Instr.lookup 91 (.map (some W.heap.size)) (strV [116, 97, 105, 110, 116, 115]) false).run Tryz.prog wr = .ok (.int .i64 4) wr := Qu.run_look wr W.heap.size bitsM [116, 97, 105, 110, 116, 115] (Qu.MapAt.below X1.out HB.out hV1)
      obtain ⟨F, hF⟩ : ∃ F, (looksL.take 2).filter (andB on) = F := ⟨_, rfl⟩
      have hFl : F.length ≤ 5 := by rw [← hF]; exact Nat.le_trans (List.length_filter_le _ _) (HX.out _)
      rw [hF] at HO HSt ⊢
      clear hF
      cases hq : bits BinOp.and IntKind.i64 on 4 != 0 with
      | false =>
        have HA : Hid (andB on [116, 97, 105, 110, 116, 115] = false) := Lib.hid hq
        have hq2 : bits BinOp.and IntKind.i64 on 4 = 0 := by simpa using hq
        go_wp2_with fail
        go_roundw
        case rel =>
          have h2 : (looksL.take (2 + 1)).filter (andB on) = F := by rw [HSt.out, if_neg (by rw [HA.out]; simp), List.append_nil]
          exact ⟨3, A, c, by omega, by go_num, by rw [h2], by rw [h2]; exact HO.out, HB.out⟩
        case measure => simp [intOf]
      | true =>
        have HA : Hid (andB on [116, 97, 105, 110, 116, 115] = true) := Lib.hid hq
        have hq2 : ¬ bits BinOp.and IntKind.i64 on 4 = 0 := by simpa using hq
        have h63 : F.length + 1 ≤ maxLen := by unfold maxLen; omega
        have h47 : (F.length + 1) * 16 ≤ 140737488355328 := by omega
        go_wp2_with (at_builtin; refine wpList_append_lies _ rfl _ _ 23 rfl V.heap.size 9 i0 (.string ⟨#[]⟩) 1 16 Tryz.underlying23 hi0 hz0 hz1 hz2 rfl (by decide) (.slice A F.length c) F.length (strC F) rfl (HO.out.alloc _) ⟨wr.heap.size, 0, none⟩ 1 1 [strV [116, 97, 105, 110, 116, 115]] rfl rfl (World.news_of_block (cs := #[strV [116, 97, 105, 110, 116, 115]]) (t := 9) (fr := (0, 0)) (heap_alloc_new wr _)) (by simp [Value.oneCell']) (by omega) h63 h47 (by simp; omega) _ rfl ?_; intro gg cap w4 hown' hgrow' hat hlt4; have HO4 := Lib.hid hown'; have HB4 := Lib.hid (below_grown (HB.out.alloc HB.out.size _) (Nat.le_refl _) hgrow' (fun q hq => own_block HO.out hq)); clear hown' hgrow' hat hlt4)
        go_roundw
        case rel =>
          have h2 : (looksL.take (2 + 1)).filter (andB on) = F ++ [[116, 97, 105, 110, 116, 115]] := by rw [HSt.out, if_pos HA.out]
          have h3 : (F ++ [[116, 97, 105, 110, 116, 115]]).length = F.length + 1 := by simp
          have h4 : strC (F ++ [[116, 97, 105, 110, 116, 115]]) = strC F ++ [strV [116, 97, 105, 110, 116, 115]] := by simp [strC]
          exact ⟨3, some ⟨gg, 0, none⟩, cap, by omega, by go_num, by rw [h2, h3], by rw [h2, h3, h4]; exact HO4.out, HB4.out⟩
        case measure => simp [intOf]
    · have ix : ∀ w : World, (Instr.index 93 (.agg #[strV [100, 111, 117, 98, 108, 101, 115], strV [119, 105, 116, 104], strV [116, 97, 105, 110, 116, 115], strV [115, 112, 114, 101, 97, 100], strV [101, 109, 112, 116, 121]]) (.int .i64 3)).run Tryz.prog w = .ok (strV [115, 112, 114, 101, 97, 100]) w := fun _ => by kernel_rfl
      have HSt := Lib.hid (looks_step on 3 (x := [115, 112, 114, 101, 97, 100]) rfl)
      have hlk : (Instr.lookup 91 (.map (some W.heap.size)) (strV [115, 112, 114, 101, 97, 100]) false).run Tryz.prog wr = .ok (.int .i64 8) wr := Qu.run_look wr W.heap.size bitsM [115, 112, 114, 101, 97, 100] (Qu.MapAt.below X1.out HB.out hV1)
      obtain ⟨F, hF⟩ : ∃ F, (looksL.take 3).filter (andB on) = F := ⟨_, rfl⟩
      have hFl : F.length ≤ 5 := by rw [← hF]; exact Nat.le_trans (List.length_filter_le _ _) (HX.out _)
      rw [hF] at HO HSt ⊢
      clear hF
      cases hq : bits BinOp.and IntKind.i64 on 8 != 0 with
      | false =>
        have HA : Hid (andB on [115, 112, 114, 101, 97, 100] = false) := Lib.hid hq
        have hq2 : bits BinOp.and IntKind.i64 on 8 = 0 := by simpa using hq
        go_wp2_with fail
        go_roundw
        case rel =>
          have h2 : (looksL.take (3 + 1)).filter (andB on) = F := by rw [HSt.out, if_neg (by rw [HA.out]; simp), List.append_nil]
          exact ⟨4, A, c, by omega, by go_num, by rw [h2], by rw [h2]; exact HO.out, HB.out⟩
        case measure => simp [intOf]
      | true =>
        have HA : Hid (andB on [115, 112, 114, 101, 97, 100] = true) := Lib.hid hq
        have hq2 : ¬ bits BinOp.and IntKind.i64 on 8 = 0 := by simpa using hq
        have h63 : F.length + 1 ≤ maxLen := by unfold maxLen; omega
        have h47 : (F.length + 1) * 16 ≤ 140737488355328 := by omega
        go_wp2_with (at_builtin; refine wpList_append_lies _ rfl _ _ 23 rfl V.heap.size 9 i0 (.string ⟨#[]⟩) 1 16 Tryz.underlying23 hi0 hz0 hz1 hz2 rfl (by decide) (.slice A F.length c) F.length (strC F) rfl (HO.out.alloc _) ⟨wr.heap.size, 0, none⟩ 1 1 [strV [115, 112, 114, 101, 97, 100]] rfl rfl (World.news_of_block (cs := #[strV [115, 112, 114, 101, 97, 100]]) (t := 9) (fr := (0, 0)) (heap_alloc_new wr _)) (by simp [Value.oneCell']) (by omega) h63 h47 (by simp; omega) _ rfl ?_; intro gg cap w4 hown' hgrow' hat hlt4; have HO4 := Lib.hid hown'; have HB4 := Lib.hid (below_grown (HB.out.alloc HB.out.size _) (Nat.le_refl _) hgrow' (fun q hq => own_block HO.out hq)); clear hown' hgrow' hat hlt4)
        go_roundw
        case rel =>
          have h2 : (looksL.take (3 + 1)).filter (andB on) = F ++ [[115, 112, 114, 101, 97, 100]] := by rw [HSt.out, if_pos HA.out]
          have h3 : (F ++ [[115, 112, 114, 101, 97, 100]]).length = F.length + 1 := by simp
          have h4 : strC (F ++ [[115, 112, 114, 101, 97, 100]]) = strC F ++ [strV [115, 112, 114, 101, 97, 100]] := by simp [strC]
          exact ⟨4, some ⟨gg, 0, none⟩, cap, by omega, by go_num, by rw [h2, h3], by rw [h2, h3, h4]; exact HO4.out, HB4.out⟩
        case measure => simp [intOf]
    · have ix : ∀ w : World, (Instr.index 93 (.agg #[strV [100, 111, 117, 98, 108, 101, 115], strV [119, 105, 116, 104], strV [116, 97, 105, 110, 116, 115], strV [115, 112, 114, 101, 97, 100], strV [101, 109, 112, 116, 121]]) (.int .i64 4)).run Tryz.prog w = .ok (strV [101, 109, 112, 116, 121]) w := fun _ => by kernel_rfl
      have HSt := Lib.hid (looks_step on 4 (x := [101, 109, 112, 116, 121]) rfl)
      have hlk : (Instr.lookup 91 (.map (some W.heap.size)) (strV [101, 109, 112, 116, 121]) false).run Tryz.prog wr = .ok (.int .i64 16) wr := Qu.run_look wr W.heap.size bitsM [101, 109, 112, 116, 121] (Qu.MapAt.below X1.out HB.out hV1)
      obtain ⟨F, hF⟩ : ∃ F, (looksL.take 4).filter (andB on) = F := ⟨_, rfl⟩
      have hFl : F.length ≤ 5 := by rw [← hF]; exact Nat.le_trans (List.length_filter_le _ _) (HX.out _)
      rw [hF] at HO HSt ⊢
      clear hF
      cases hq : bits BinOp.and IntKind.i64 on 16 != 0 with
      | false =>
        have HA : Hid (andB on [101, 109, 112, 116, 121] = false) := Lib.hid hq
        have hq2 : bits BinOp.and IntKind.i64 on 16 = 0 := by simpa using hq
        go_wp2_with fail
        go_roundw
        case rel =>
          have h2 : (looksL.take (4 + 1)).filter (andB on) = F := by rw [HSt.out, if_neg (by rw [HA.out]; simp), List.append_nil]
          exact ⟨5, A, c, by omega, by go_num, by rw [h2], by rw [h2]; exact HO.out, HB.out⟩
        case measure => simp [intOf]
      | true =>
        have HA : Hid (andB on [101, 109, 112, 116, 121] = true) := Lib.hid hq
        have hq2 : ¬ bits BinOp.and IntKind.i64 on 16 = 0 := by simpa using hq
        have h63 : F.length + 1 ≤ maxLen := by unfold maxLen; omega
        have h47 : (F.length + 1) * 16 ≤ 140737488355328 := by omega
        go_wp2_with (at_builtin; refine wpList_append_lies _ rfl _ _ 23 rfl V.heap.size 9 i0 (.string ⟨#[]⟩) 1 16 Tryz.underlying23 hi0 hz0 hz1 hz2 rfl (by decide) (.slice A F.length c) F.length (strC F) rfl (HO.out.alloc _) ⟨wr.heap.size, 0, none⟩ 1 1 [strV [101, 109, 112, 116, 121]] rfl rfl (World.news_of_block (cs := #[strV [101, 109, 112, 116, 121]]) (t := 9) (fr := (0, 0)) (heap_alloc_new wr _)) (by simp [Value.oneCell']) (by omega) h63 h47 (by simp; omega) _ rfl ?_; intro gg cap w4 hown' hgrow' hat hlt4; have HO4 := Lib.hid hown'; have HB4 := Lib.hid (below_grown (HB.out.alloc HB.out.size _) (Nat.le_refl _) hgrow' (fun q hq => own_block HO.out hq)); clear hown' hgrow' hat hlt4)
        go_roundw
        case rel =>
          have h2 : (looksL.take (4 + 1)).filter (andB on) = F ++ [[101, 109, 112, 116, 121]] := by rw [HSt.out, if_pos HA.out]
          have h3 : (F ++ [[101, 109, 112, 116, 121]]).length = F.length + 1 := by simp
          have h4 : strC (F ++ [[101, 109, 112, 116, 121]]) = strC F ++ [strV [101, 109, 112, 116, 121]] := by simp [strC]
          exact ⟨5, some ⟨gg, 0, none⟩, cap, by omega, by go_num, by rw [h2, h3], by rw [h2, h3, h4]; exact HO4.out, HB4.out⟩
        case measure => simp [intOf]
    · have HF : Hid (S = (on != 0, (looksL.take 5).filter (andB on))) := Lib.hid HS.out
      generalize (looksL.take 5).filter (andB on) = F at HO HF ⊢
      have Q2 := Lib.hid (Blk.below Q1.out HB.out hV2)
      have B2 := Lib.hid (B1.out.trans (HB.out.mono B1.out.size))
      have z0 : wr.cell? ⟨w.heap.size, 0, none⟩ = some (.bool false) := Blk.cell Q2.out 0
      have z1 : wr.cell? ⟨w.heap.size, 1, none⟩ = some (.slice none 0 0) := Blk.cell Q2.out 1
      have f0 : wr.frozen? ⟨w.heap.size, 0, none⟩ = false := Blk.free Q2.out 0
      have f1 : wr.frozen? ⟨w.heap.size, 1, none⟩ = false := Blk.free Q2.out 1
      clear HX HS X1
      go_wp2_with fail
      refine bodyPost_row1 Tryz.results24 w.heap.size _ _ _ _ ?d1 ?p1 (Blk.set (Blk.set Q2.out 0 (.bool (on != 0))) 1 (.slice A F.length c)) Tryz.underlying46 rfl said_size ?_
      case d1 => rfl
      case p1 => rfl
      rw [HF.out]
      refine ⟨A, c, rfl, ?_, (B2.out.setCell (p := ⟨w.heap.size, 0, none⟩) (Nat.le_refl _) _).setCell (p := ⟨w.heap.size, 1, none⟩) (Nat.le_refl _) _⟩
      exact own_base ((((KeepR.refl w.heap.size wr).setCell 0 (.bool (on != 0))).setCell 1 (.slice A F.length c)).own HO.out hV2) (Nat.le_of_lt hV2)
end Go.Proofs.YthbplchbolghjaaGreatDoor
