/- The document's Words answers as the program's. Condition: the tables of UTF-8 lie as they were laid. -/
import Derived.Test.YtdiighpmgfbmaaaDoorSRefE
namespace Go.Proofs.YtdiighpmgfbmaaaDoor
open Go.RowKit

theorem own_grownQ {w w' : World} {base : Nat} {e : TypeId} {size : Nat} {v : Value} {n : Nat} {xs : List Value} {row : Option Nat} (h : w.ownsRow base e size v n xs) (hg : w.grownBy w' row) (hne : v.ownBlock = none ∨ v.ownBlock ≠ row) : w'.ownsRow base e size v n xs := by
  obtain ⟨h1, h2⟩ := h
  refine ⟨h1, ?_⟩
  rcases h2 with h2 | ⟨g, cap, cur, rfl, hB, hc, h3⟩
  · exact .inl h2
  · refine .inr ⟨g, cap, cur, rfl, hB, ?_, h3⟩
    rw [hg.block g (Array.getElem?_eq_some_iff.1 hc).1 (by
      rcases hne with h | h
      · simp [Value.ownBlock] at h
      · simpa [Value.ownBlock] using h)]
    exact hc
theorem own_geQ {w : World} {base : Nat} {e : TypeId} {size : Nat} {v : Value} {n : Nat} {xs : List Value} (h : w.ownsRow base e size v n xs) (k : Nat) (hk : v.ownBlock = some k) : base ≤ k := by
  rcases h.2 with ⟨rfl, _⟩ | ⟨g, cap, cur, rfl, hg, _⟩
  · simp [Value.ownBlock] at hk
  · simp [Value.ownBlock] at hk
    omega

set_option maxRecDepth 100000 in
set_option maxHeartbeats 8000000 in
theorem rwords_any (l : List UInt8) (w : World) (hl : l.length ≤ 1000) (hT : Utab w) :
    Calls Tryd.prog 7 #[strV l] w (WordsR w (wordsF l)) := by
  have hi : ¬ (65536 : Int) < (l.length : Int) := by omega
  rw [words_road l (by omega)]
  obtain ⟨i0, hi0, hz0, hz1, hz2⟩ := info_parts info_W
  have HT := Lib.hid hT
  clear hT
  go_enter Tryd.func7, Tryd.ntmps7
  go_wp2_with fail
  go_loopw [7] (fun v wr => ∃ p s, s.mode = .btw ∧ p ≤ l.length ∧ s.line ≤ p + 1 ∧ s.col ≤ p + 1 ∧ s.words.length ≤ p ∧ RfAt wr w.heap.size l p s.line s.col ∧ wr.ownsRow w.heap.size 38 4 v s.words.length (cellsW s.words) ∧ Below w.heap.size w wr ∧ road l 0 rs0 = road l p s) (fun _ wr => l.length - (intOf ((wr.cell? ⟨w.heap.size, 1, none⟩).getD (.int .i64 0))).toNat)
  case atStart => exact ⟨0, rs0, rfl, Nat.zero_le _, by decide, by decide, by decide, Blk.new w _ _, World.ownsRow_nil _ _ _ _, below1 w _, rfl⟩
  case round =>
    obtain ⟨p, s, hm, hp, hln, hcl, hwl, hrf, hown, hbw, hro⟩ := hrel
    obtain ⟨A, cp, rfl, hcp, hcm⟩ := own_sliceS hown
    have hsz := Blk.lt hrf
    have C1 := Lib.hid (RfAt.c1 hrf)
    have KS := skip_any w.heap.size p l s wr hl hm ⟨Nat.le_refl _, hp, hln, hcl, rfl, rfl, rfl, rfl, rfl, rfl⟩ hrf (fun w' hg => HT.out.below (hbw.grown hg hbw.size (fun k hk => by cases hk; exact Nat.le_refl _)))
    have Hown := Lib.hid hown
    have Hbw := Lib.hid hbw
    have Hrf := Lib.hid hrf
    have Hro := Lib.hid hro
    have HM := Lib.hid hm
    replace KS := Lib.hid KS
    clear hown hbw hrf hro hm
    go_wp2_with fail
    refine KS.out.mono ?_
    rintro e w3 ⟨q, t, q1, q2, q3, q4, hr3, hg3, hq⟩
    have O3 := Lib.hid (own_grownQ Hown.out hg3 (.inr (own_notS Hown.out Hrf.out (by decide))))
    have B3 := Lib.hid (Hbw.out.grown hg3 Hbw.out.size (fun k hk => by cases hk; exact Nat.le_refl _))
    have R3 := Lib.hid hr3
    have hb3 := Blk.lt hr3
    clear hr3 hg3 KS
    rcases hq with ⟨rfl, hm3, hw3, hro3, h35, h32, h9, h10⟩ | ⟨rfl, hro3⟩
    · have KR := Lib.hid (rune_any w.heap.size l q t.line t.col w3 (by omega) R3.out (HT.out.below B3.out))
      have HW3 := Lib.hid hw3
      have HRo3 := Lib.hid hro3
      have HM3 := Lib.hid hm3
      clear hw3 hro3 hm3
      by_cases hql : q < l.length
      · obtain ⟨c, n, hd⟩ : ∃ c n, Utf8.decode ⟨l.toArray⟩ q = (c, n) := ⟨_, _, rfl⟩
        have hr1 : (runeF l q).1 = (c : Int) := by rw [rune_at l q hql, hd]
        rw [hr1] at h35 h32 h9 h10
        have KW := Lib.hid (fun w' (h : RfAt w' w.heap.size l q t.line t.col) (hT : ∀ w'', w'.grownBy w'' (some w.heap.size) → Utab w'') => word_any w.heap.size q c n l t w' hl HM3.out hql ⟨Nat.le_refl _, q2, q3, q4, rfl, rfl, rfl, rfl, rfl, rfl⟩ hd (by omega) (by omega) (by omega) (by omega) h hT)
        have hc0 : ¬ (c : Int) < 0 := by omega
        replace KR := KR.out
        rw [hr1] at KR
        replace KR := Lib.hid KR
        clear hd hr1 h35 h32 h9 h10
        go_wp2_with fail
        refine KR.out.mono ?_
        rintro e w4 ⟨rfl, hb4⟩
        have O4 := Lib.hid (own_below O3.out hb4)
        have B4 := Lib.hid (B3.out.trans (hb4.mono B3.out.size))
        have R4 := Lib.hid (Blk.below (show Blk w3 _ _ _ from R3.out) hb4 hb3)
        have hb4s := Blk.lt R4.out
        clear hb4 KR
        go_wp2_with fail
        refine (KW.out _ R4.out (fun w'' hg => HT.out.below (B4.out.grown hg B4.out.size (fun k hk => by cases hk; exact Nat.le_refl _)))).mono ?_
        rintro e w5 ⟨q', u, u1, u2, u3, u4, hr5, hg5, hu⟩
        have O5 := Lib.hid (own_grownQ O4.out hg5 (.inr (own_notS O4.out R4.out (by decide))))
        have B5 := Lib.hid (B4.out.grown hg5 B4.out.size (fun k hk => by cases hk; exact Nat.le_refl _))
        have R5 := Lib.hid hr5
        have hb5 := Blk.lt hr5
        clear hr5 hg5 KW
        rcases hu with ⟨k, x, x0, x1, rfl, x2, x3, x4⟩ | ⟨k, x, er, x1, rfl, x2⟩
        · have X2 := Lib.hid x2
          have X3 : Hid (u.words = s.words ++ [(k, x, t.line, t.col)]) := Lib.hid (by rw [x3, HW3.out])
          have X4 : Hid (road l 0 rs0 = road l q' u) := Lib.hid (by rw [Hro.out, HRo3.out]; exact x4)
          have HX0 := Lib.hid x0
          clear x2 x3 x4
          simp only
          have hx4 : u.words.length = s.words.length + 1 := by rw [X3.out]; simp
          go_wp2_with (at_builtin; refine wpList_append_own _ rfl _ _ 22 rfl w.heap.size 38 i0 (.agg #[.int .i64 0, .string ⟨#[]⟩, .int .i64 0, .int .i64 0]) 4 40 Tryd.underlying22 hi0 hz0 hz1 hz2 rfl (by decide) _ _ _ rfl ((O5.out.alloc _).alloc _) ⟨w5.heap.size + 1, 0, none⟩ 1 1 [.int .i64 k, strV x, .int .i64 (t.line : Int), .int .i64 (t.col : Int)] rfl rfl ?a1 ?b1 ?c1 ?d1 ?e1 ?_)
          case a1 =>
            intro j u hj
            match j, hj with
            | 0, hj => simp at hj; subst hj; first | (simp [Addr.add, go_sem]; done) | exact Blk.cell (Blk.new _ _ _) 0
            | 1, hj => simp at hj; subst hj; first | (simp [Addr.add, go_sem]; done) | exact Blk.cell (Blk.new _ _ _) 1
            | 2, hj => simp at hj; subst hj; first | (simp [Addr.add, go_sem]; done) | exact Blk.cell (Blk.new _ _ _) 2
            | 3, hj => simp at hj; subst hj; first | (simp [Addr.add, go_sem]; done) | exact Blk.cell (Blk.new _ _ _) 3
          case b1 => intro u hu; simp at hu; rcases hu with rfl | rfl | rfl | rfl <;> rfl
          case c1 => unfold maxLen; omega
          case d1 => omega
          case e1 => have := B5.out.size; simp at this ⊢; omega
          intro v' w6 hown' hgrow' _
          obtain ⟨A4, c4, rfl, _⟩ := own_sliceS hown'
          have B5'' := Lib.hid ((B5.out.alloc B5.out.size (.cells #[.int .i64 k, strV x, .int .i64 (t.line : Int), .int .i64 (t.col : Int)] 38)).alloc (by have := B5.out.size; simp; omega) (.cells #[.int .i64 k, strV x, .int .i64 (t.line : Int), .int .i64 (t.col : Int)] 38))
          have B6 := Lib.hid (B5''.out.grown hgrow' B5''.out.size (fun k hk => own_geQ O5.out k hk))
          have R6 := Lib.hid (Blk.kept (Blk.alloc (Blk.alloc (show Blk w5 _ _ _ from R5.out) _) _) hgrow' (Ne.symm (own_notS O5.out R5.out (by decide))))
          have O6 : Hid (w6.ownsRow w.heap.size 38 4 (.slice A4 (s.words.length + 1) c4) u.words.length (cellsW u.words)) := Lib.hid (by
            have e : (s.words ++ [(k, x, t.line, t.col)]).length = s.words.length + 1 := by simp
            rw [X3.out, cellsW_snoc, e]
            exact hown')
          have C6 := Lib.hid (RfAt.c1 (show RfAt w6 w.heap.size l q' u.line u.col from R6.out))
          clear hown' hgrow'
          go_wp2_with fail
          go_roundw
          case rel => exact ⟨q', u, X2.out, u2, u3, u4, by rw [hx4]; omega, R6.out, O6.out, B6.out, X4.out⟩
          case measure =>
            simp only [C1.out, C6.out, Option.getD_some, intOf]
            omega
        · have HR : Hid (road l 0 rs0 = ([], u.line, u.col, er)) := Lib.hid (by rw [Hro.out, HRo3.out]; exact x2)
          have heb : (er != 0) = true := by simpa using x1
          have X1 := Lib.hid x1
          have d2 : w5.cell? ⟨w.heap.size, 2, none⟩ = some (.int .i64 (u.line : Int)) := Blk.cell R5.out 2
          have d3 : w5.cell? ⟨w.heap.size, 3, none⟩ = some (.int .i64 (u.col : Int)) := Blk.cell R5.out 3
          clear x1 x2
          simp only
          go_wp2_with fail
          go_quiet (fail)
          go_wp2
          refine ret4 Tryd.results7 _ _ _ _ rfl rfl rfl rfl rfl ?_
          rw [HR.out]
          exact ⟨_, rfl, World.ownsRow_nil _ _ _ _, belowN (B5.out.alloc B5.out.size _) _⟩
      · have hr1 : (runeF l q).1 = -1 := by rw [rune_end l q hql]
        have HR : Hid (road l 0 rs0 = (s.words, 0, 0, 0)) := Lib.hid (by
          have e := road_fin l q t t hql q2 (step_blank t 10 HM3.out (.inr (.inr rfl)))
          rw [Hro.out, HRo3.out, e, HW3.out])
        replace KR := KR.out
        rw [hr1] at KR
        replace KR := Lib.hid KR
        clear hr1
        go_wp2_with fail
        refine KR.out.mono ?_
        rintro e w4 ⟨rfl, hb4⟩
        have O4 := Lib.hid (own_below O3.out hb4)
        have B4 := Lib.hid (B3.out.trans (hb4.mono B3.out.size))
        clear hb4 KR
        go_wp2
        refine ret4 Tryd.results7 _ _ _ _ rfl rfl rfl rfl rfl ?_
        rw [HR.out]
        exact ⟨_, rfl, O4.out, B4.out⟩
    · have HR : Hid (road l 0 rs0 = ([], t.line, t.col, 4)) := Lib.hid (by rw [Hro.out]; exact hro3)
      have d2 : w3.cell? ⟨w.heap.size, 2, none⟩ = some (.int .i64 (t.line : Int)) := Blk.cell R3.out 2
      have d3 : w3.cell? ⟨w.heap.size, 3, none⟩ = some (.int .i64 (t.col : Int)) := Blk.cell R3.out 3
      clear hro3
      go_wp2_with fail
      go_quiet (fail)
      go_wp2
      refine ret4 Tryd.results7 _ _ _ _ rfl rfl rfl rfl rfl ?_
      rw [HR.out]
      exact ⟨_, rfl, World.ownsRow_nil _ _ _ _, belowN B3.out _⟩
end Go.Proofs.YtdiighpmgfbmaaaDoor
