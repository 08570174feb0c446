/- What the law's spelt makes of numbers. Condition: the numbers lie in memory. -/
import Derived.Test.YtdakkjfhmidkeaaSSpell
import Derived.Deep.Onto
import Derived.Deep.AppendLies
import Derived.Deep.RegionHeld3
namespace Go.Proofs.Ytdakkjfhmidkeaa
open Go.RowKit

theorem neg_lt_tmod (i : Int) {n : Int} (hn : 0 < n) : -n < i.tmod n := by
  have h := Int.tmod_lt_of_pos (-i) hn
  rw [Int.neg_tmod] at h
  omega
theorem emod_of_tmod (i n : Int) : i % n = i.tmod n % n := by
  conv => lhs; rw [← Int.mul_tdiv_add_tmod i n]
  rw [Int.mul_add_emod_self_left]
theorem emod_neg {i n : Int} (hn : 0 < n) (h : i.tmod n < 0) : i % n = i.tmod n + n := by
  have h1 : -n < i.tmod n := by
    have := neg_lt_tmod i hn
    omega
  rw [emod_of_tmod i n, ← Int.add_emod_right]
  exact Int.emod_eq_of_lt (by omega) (by omega)
theorem emod_pos {i n : Int} (hn : 0 < n) (h : ¬ i.tmod n < 0) : i % n = i.tmod n := by
  rw [emod_of_tmod i n]
  exact Int.emod_eq_of_lt (by omega) (Int.tmod_lt_of_pos i hn)

set_option maxHeartbeats 400000 in
theorem bring_any (i n : Int) (w : World) (hn : 0 < n) (hn' : n ≤ 4611686018427387904) :
    Calls Try.prog 9 #[.int .i64 i, .int .i64 n] w fun e w' => e = .returned (.int .i64 (i % n)) ∧ w = w' := by
  have hlt := Int.tmod_lt_of_pos i hn
  have hgt := neg_lt_tmod i hn
  have Hw : Hid (IntKind.i64.wrap (i.tmod n) = i.tmod n) := IntWalk.i64_in _ (by omega)
  by_cases h : i.tmod n < 0
  · have He := Lib.hid (emod_neg hn h)
    have Hw2 : Hid (IntKind.i64.wrap (i.tmod n + n) = i.tmod n + n) := IntWalk.i64_in _ (by omega)
    have hz : ¬ n = 0 := by omega
    go_enter Try.func9, Try.ntmps9
    go_wp2
    go_ret
    exact ⟨retI He.out.symm, rfl⟩
  · have He := Lib.hid (emod_pos hn h)
    have hz : ¬ n = 0 := by omega
    go_enter Try.func9, Try.ntmps9
    go_wp2
    go_ret
    exact ⟨retI He.out.symm, rfl⟩

theorem run_joinS (P : Program) (w : World) (s t : List UInt8) (h : s.length + t.length ≤ 100000) : (Op.stringOp .add ⟨s.toArray⟩ ⟨t.toArray⟩).run P w = .ok (strV (s ++ t)) w := by
  have h2 : (⟨s.toArray⟩ : ByteArray).size + (⟨t.toArray⟩ : ByteArray).size ≤ 9223372036854775807 := by
    show s.toArray.size + t.toArray.size ≤ _
    simp
    omega
  have e : (⟨s.toArray⟩ : ByteArray) ++ (⟨t.toArray⟩ : ByteArray) = ⟨(s ++ t).toArray⟩ := by
    apply ByteArray.ext
    simp [ByteArray.data_append]
  rw [run_string_add_sum _ _ _ h2, e]

theorem tab_at {α : Type} (f : α → Value) (d : α) (L : List α) (k : Nat) (hk : k < L.length) : (L.map f).toArray[k]? = some (f (L.getD k d)) := by
  simp [List.getD, List.getElem?_eq_getElem hk]
def pieC : Array Value := (pieL.map strV).toArray
def txtC : Array Value := (txtL.map strV).toArray
def runC : Array Value := (runL.map fun n : Nat => Value.int .i64 (n : Int)).toArray
def kinC : Array Value := (kinL.map fun n : Int => Value.int .i64 n).toArray
/-- The four tables. -/
def TabS (w : World) (b : Nat) : Prop := Blk w b pieC 9 ∧ Blk w (b + 1) txtC 9 ∧ Blk w (b + 2) runC 3 ∧ Blk w (b + 3) kinC 3
theorem TabS.cells {w : World} {b : Nat} (h : TabS w b) {k : Nat} (hk : k < 15) : w.cell? ⟨b, k, none⟩ = some (strV (pieL.getD k [])) ∧ w.cell? ⟨b + 1, k, none⟩ = some (strV (txtL.getD k [])) ∧ w.cell? ⟨b + 2, k, none⟩ = some (.int .i64 ((runL.getD k 0 : Nat) : Int)) ∧ w.cell? ⟨b + 3, k, none⟩ = some (.int .i64 (kinL.getD k 0)) :=
  ⟨(h.1.cell k).trans (tab_at strV [] pieL k hk), (h.2.1.cell k).trans (tab_at strV [] txtL k hk), (h.2.2.1.cell k).trans (tab_at _ 0 runL k hk), (h.2.2.2.cell k).trans (tab_at _ 0 kinL k hk)⟩
theorem TabS.kept {w w' : World} {b : Nat} (h : TabS w b) {row : Option Nat} (hg : w.grownBy w' row) (hne : ∀ j, b ≤ j → j ≤ b + 3 → some j ≠ row) : TabS w' b :=
  ⟨h.1.kept hg (hne _ (by omega) (by omega)), h.2.1.kept hg (hne _ (by omega) (by omega)), h.2.2.1.kept hg (hne _ (by omega) (by omega)), h.2.2.2.kept hg (hne _ (by omega) (by omega))⟩
theorem TabS.alloc {w : World} {b : Nat} (h : TabS w b) (o : Obj) : TabS (w.alloc o) b := ⟨h.1.alloc o, h.2.1.alloc o, h.2.2.1.alloc o, h.2.2.2.alloc o⟩
theorem TabS.drew {w : World} {b : Nat} (h : TabS w b) : TabS w.drew b := ⟨h.1.drew, h.2.1.drew, h.2.2.1.drew, h.2.2.2.drew⟩
theorem TabS.new (w : World) : TabS ((((w.alloc (.cells pieC 9)).alloc (.cells txtC 9)).alloc (.cells runC 3)).alloc (.cells kinC 3)) w.heap.size := by
  refine ⟨(((Blk.new w _ _).alloc _).alloc _).alloc _, ?_, ?_, ?_⟩
  · have := ((Blk.new (w.alloc (.cells pieC 9)) txtC 9).alloc (.cells runC 3)).alloc (.cells kinC 3)
    simpa using this
  · have := (Blk.new ((w.alloc (.cells pieC 9)).alloc (.cells txtC 9)) runC 3).alloc (.cells kinC 3)
    simpa using this
  · have := Blk.new (((w.alloc (.cells pieC 9)).alloc (.cells txtC 9)).alloc (.cells runC 3)) kinC 3
    simpa using this

def cellsI (l : List Int) : List Value := l.map (Value.int .i64)

set_option maxRecDepth 100000 in
set_option maxHeartbeats 4000000 in
theorem spelt_any (A : Option Addr) (c : Nat) (l : List Int) (w : World) (hc : l.length ≤ c) (hcm : c ≤ maxLen) (hs : SlAt w A (cellsI l)) :
    Calls Try.prog 5 #[.slice A l.length c] w fun e w' => ∃ v, e = .returned (.tuple #[strV (spF (l.take 60)).1, v]) ∧ w'.ownsRow w.heap.size 31 4 v (spF (l.take 60)).2.1.length (cellsW (spF (l.take 60)).2.1) ∧ Below w.heap.size w w' := by
  have HS := Lib.hid hs
  unfold maxLen at hcm
  obtain ⟨R, hR⟩ : ∃ R, spF (l.take 60) = R := ⟨_, rfl⟩
  rw [hR]
  have HR := Lib.hid hR
  obtain ⟨i0, hi0, hz0, hz1, hz2⟩ := info_parts info_W
  clear hs hR
  go_enter Try.func5, Try.ntmps5
  go_wp2_with fail
  go_loopw [8, 9, 10, 11, 12] (fun t v ln cl i wr => ∃ k : Nat, k ≤ l.length ∧ k ≤ 60 ∧ i = .int .i64 k ∧ t = strV (spF (l.take k)).1 ∧ ln = .int .i64 ((spF (l.take k)).2.2.1 : Int) ∧ cl = .int .i64 ((spF (l.take k)).2.2.2 : Int) ∧ wr.ownsRow (w.heap.size + 4) 31 4 v (spF (l.take k)).2.1.length (cellsW (spF (l.take k)).2.1) ∧ TabS wr w.heap.size ∧ Below w.heap.size w wr ∧ w.heap.size + 4 ≤ wr.heap.size) (fun _ _ _ _ i _ => 60 - (intOf i).toNat)
  case atStart => exact ⟨0, by omega, by omega, rfl, rfl, rfl, rfl, World.ownsRow_nil _ _ _ _, TabS.new w, ((((Below.refl _ _).alloc (Nat.le_refl _) _).alloc (by simp) _).alloc (by simp; omega) _).alloc (by simp; omega) _, by simp⟩
  case round =>
    obtain ⟨k, hk, hk6, rfl, rfl, rfl, rfl, hown, htab, hbw, hsz⟩ := hrel
    obtain ⟨A2, c2, rfl, hcc, hcm2⟩ := own_sliceS hown
    have HB := Lib.hid hbw
    by_cases hlt : k < l.length ∧ k < 60
    · obtain ⟨hlt, h60⟩ := hlt
      obtain ⟨x, hxk⟩ : ∃ x, l[k]? = some x := ⟨l[k], List.getElem?_eq_getElem hlt⟩
      obtain ⟨b0, o0, hA, hx0⟩ := (HS.out.below HB.out) k (.int .i64 x) (by unfold cellsI; rw [List.getElem?_map, hxk]; rfl)
      subst hA
      have b0' : (0 : Int) ≤ x % 60 := Int.emod_nonneg _ (by decide)
      have b1' : x % 60 < 60 := Int.emod_lt_of_pos _ (by decide)
      obtain ⟨X, hX⟩ : ∃ X : Nat, x % 60 = X := ⟨(x % 60).toNat, by omega⟩
      have KB := Lib.hid (fun w => bring_any x 60 w (by decide) (by decide))
      rw [hX] at KB
      obtain ⟨kk, hkk⟩ : ∃ kk, X % 15 = kk := ⟨_, rfl⟩
      obtain ⟨q, hq⟩ : ∃ q, X / 15 = q := ⟨_, rfl⟩
      have hk15 : kk < 15 := by omega
      have hq4 : q < 4 := by omega
      have hX0 : (0 : Int) ≤ (X : Int) := by omega
      have hX1 : (X : Int) < 60 := by omega
      obtain ⟨s1, s2, s3, s4, _, _⟩ := sp_len (l.take k)
      have hlk : (l.take k).length = k := by rw [List.length_take]; omega
      rw [hlk] at s1 s2 s3 s4
      have hst : spF (l.take (k + 1)) = spStep (spF (l.take k)) x := by
        rw [List.take_add_one, hxk, Option.toList_some, spF_snoc]
      unfold spStep at hst
      rw [hX, Int.toNat_natCast, hkk, hq] at hst
      generalize hSp : spF (l.take k) = a at s1 s2 s3 s4 hst hown ⊢
      obtain ⟨t, ws, ln, cl⟩ := a
      simp only at s1 s2 s3 s4 hst hown ⊢
      have HSt := Lib.hid hst
      have Hown := Lib.hid hown
      obtain ⟨c0, c1, c2', c3⟩ := htab.cells hk15
      have p1 := pie_len kk
      have p2 := sep_len q
      have p3 : runL.getD kk 0 ≤ 6 := by
        have : ∀ k < 15, runL.getD k 0 ≤ 6 := by decide
        exact this _ hk15
      have hne : ∀ j, w.heap.size ≤ j → j ≤ w.heap.size + 3 → some j ≠ (Value.slice A2 ws.length c2).ownBlock := fun j h1 h2 e => by
        have := (hown.lt j e.symm).1
        omega
      have hne1 := hne (w.heap.size + 1) (by omega) (by omega)
      have hne3 := hne (w.heap.size + 3) (by omega) (by omega)
      have HNE := Lib.hid hne
      have HT := Lib.hid htab
      have hk63 : ws.length + 1 ≤ maxLen := by unfold maxLen; omega
      have hk47 : (ws.length + 1) * 40 ≤ 140737488355328 := by omega
      have hqi : (X : Int) / 15 = (q : Int) := by omega
      have hki : (X : Int) % 15 = (kk : Int) := by omega
      have kk0 : (0 : Int) ≤ (kk : Int) := by omega
      have kk1 : (kk : Int) < 15 := by omega
      have k0 : (0 : Int) ≤ (k : Int) := by omega
      have k1 : (k : Int) < (l.length : Int) := by omega
      have k6 : (k : Int) < 60 := by omega
      have hsz1 : w.heap.size + 1 < wr.heap.size := by omega
      have hsz3 : w.heap.size + 3 < wr.heap.size := by omega
      generalize hpp : pieL.getD kk [] = pp at c0 p1 HSt
      generalize htt : txtL.getD kk [] = tt at c1 HSt
      generalize hrr : runL.getD kk 0 = rr at c2' p3 HSt
      generalize hnn : kinL.getD kk 0 = nn at c3 HSt
      have HPP := Lib.hid hpp
      have HRR := Lib.hid hrr
      have HQI := Lib.hid hqi
      have HKI := Lib.hid hki
      clear hpp htt hrr hnn hst hown htab hne hX hxk hkk hq hSp hlk hbw b0' b1' s2 hqi hki
      go_wp2_with fail
      refine (KB.out _).mono ?_
      rintro e w1 ⟨rfl, rfl⟩
      have hki := HKI.out
      go_wp2_with fail
      go_region_held3 (fun w' => w'.cell? ⟨w.heap.size + 3, kk, none⟩ = some (.int .i64 nn) ∧ w'.cell? ⟨w.heap.size + 1, kk, none⟩ = some (strV tt))
        (first
          | exact ⟨c3, c1⟩
          | exact ⟨by assumption, by assumption⟩
          | go_keep
          | (go_split_ands
             refine ⟨?_, ?_⟩
             · (rw [hgrow'.cell_far _ (by simp; omega) hne3]; assumption)
             · (rw [hgrow'.cell_far _ (by simp; omega) hne1]; assumption)))
        ((refine step_append_lies _ (by rfl) _ _ _ (by rfl) (w.heap.size + 4) 31 i0 (.agg #[.int .i64 0, .string ⟨#[]⟩, .int .i64 0, .int .i64 0]) 4 40 Try.underlying24 hi0 hz0 hz1 hz2 rfl (by decide) (.slice A2 ws.length c2) ws.length (cellsW ws) (by rfl) ((Hown.out.alloc _).drew)
            ⟨wr.heap.size, 0, none⟩ 1 1 [.int .i64 nn, strV tt, .int .i64 (ln : Int), .int .i64 (cl : Int)] (by rfl) (by rfl) (World.news_of_block (cs := #[.int .i64 nn, strV tt, .int .i64 (ln : Int), .int .i64 (cl : Int)]) (t := 31) (fr := (0, 0)) (heap_alloc_new wr _)) (by simp [Value.oneCell'])
            (by omega) hk63 hk47 (by simp; omega) (wr.heap.size + 1) (by simp) ?_; intro gg cap w4 hown' hgrow' hat hlt4))
      have Own4 := Lib.hid hown'
      have HT4 := Lib.hid (TabS.kept (HT.out.alloc (.cells #[.int .i64 nn, strV tt, .int .i64 (ln : Int), .int .i64 (cl : Int)] 31)).drew hgrow' HNE.out)
      have B4 := Lib.hid (((belowN HB.out _).alloc HB.out.size (.cells #[.int .i64 nn, strV tt, .int .i64 (ln : Int), .int .i64 (cl : Int)] 31)).grown hgrow' (by have := HB.out.size; simp at this ⊢; omega) (fun k hk => by have := (Hown.out.lt k hk).1; omega))
      have hsz4 : w.heap.size + 4 ≤ w4.heap.size := by have := hgrow'.size; simp at this; omega
      obtain ⟨d0, d1, d2, d3⟩ := HT4.out.cells hk15
      rw [HPP.out] at d0
      rw [HRR.out] at d2
      obtain ⟨tp, htp⟩ : ∃ tp, t ++ pp = tp := ⟨_, rfl⟩
      have hj1 : ∀ w, (Op.stringOp .add ⟨t.toArray⟩ ⟨pp.toArray⟩).run Try.prog w = .ok (strV tp) w := fun w => by rw [← htp]; exact run_joinS _ w t pp (by omega)
      have htl : tp.length ≤ 2000 := by rw [← htp, List.length_append]; omega
      have HTP := Lib.hid htp
      rw [htp] at HSt
      clear hown' hgrow' hat hlt4 c0 c1 c2' c3 d1 d3 hne1 hne3 htp KB
      have hqs : q = 0 ∨ q = 1 ∨ q = 2 ∨ q = 3 := by omega
      rcases hqs with rfl | rfl | rfl | rfl
      · have hqi : (X : Int) / 15 = 0 := HQI.out
        have hj2 : ∀ w, (Op.stringOp .add ⟨tp.toArray⟩ ⟨#[32]⟩).run Try.prog w = .ok (strV (tp ++ [32])) w := fun w => run_joinS _ w tp [32] (by simp; omega)
        go_wp2
        go_roundw
        case rel =>
          refine ⟨k + 1, by omega, by omega, by go_num, ?_, ?_, ?_, ?_, HT4.out, B4.out, hsz4⟩
          · rw [HSt.out]
            rfl
          · rw [HSt.out]
            simp [nextL]
          · rw [HSt.out]
            simp [nextC]
          · rw [HSt.out]
            simpa [cellsW_snoc] using Own4.out
        case measure => simp [intOf]; omega
      · have hqi : (X : Int) / 15 = 1 := HQI.out
        have hj2 : ∀ w, (Op.stringOp .add ⟨tp.toArray⟩ ⟨#[9, 32, 32]⟩).run Try.prog w = .ok (strV (tp ++ [9, 32, 32])) w := fun w => run_joinS _ w tp [9, 32, 32] (by simp; omega)
        go_wp2
        go_roundw
        case rel =>
          refine ⟨k + 1, by omega, by omega, by go_num, ?_, ?_, ?_, ?_, HT4.out, B4.out, hsz4⟩
          · rw [HSt.out]
            rfl
          · rw [HSt.out]
            simp [nextL]
          · rw [HSt.out]
            simp [nextC]
          · rw [HSt.out]
            simpa [cellsW_snoc] using Own4.out
        case measure => simp [intOf]; omega
      · have hqi : (X : Int) / 15 = 2 := HQI.out
        have hj2 : ∀ w, (Op.stringOp .add ⟨tp.toArray⟩ ⟨#[10]⟩).run Try.prog w = .ok (strV (tp ++ [10])) w := fun w => run_joinS _ w tp [10] (by simp; omega)
        go_wp2
        go_roundw
        case rel =>
          refine ⟨k + 1, by omega, by omega, by go_num, ?_, ?_, ?_, ?_, HT4.out, B4.out, hsz4⟩
          · rw [HSt.out]
            rfl
          · rw [HSt.out]
            simp [nextL]
          · rw [HSt.out]
            simp [nextC]
          · rw [HSt.out]
            simpa [cellsW_snoc] using Own4.out
        case measure => simp [intOf]; omega
      · have hqi : (X : Int) / 15 = 3 := HQI.out
        have hj2 : ∀ w, (Op.stringOp .add ⟨tp.toArray⟩ ⟨#[32, 35, 32, 195, 169, 32, 34, 32, 123, 10, 10, 32]⟩).run Try.prog w = .ok (strV (tp ++ [32, 35, 32, 195, 169, 32, 34, 32, 123, 10, 10, 32])) w := fun w => run_joinS _ w tp [32, 35, 32, 195, 169, 32, 34, 32, 123, 10, 10, 32] (by simp; omega)
        go_wp2
        go_roundw
        case rel =>
          refine ⟨k + 1, by omega, by omega, by go_num, ?_, ?_, ?_, ?_, HT4.out, B4.out, hsz4⟩
          · rw [HSt.out]
            rfl
          · rw [HSt.out]
            simp [nextL]
          · rw [HSt.out]
            simp [nextC]
          · rw [HSt.out]
            simpa [cellsW_snoc] using Own4.out
        case measure => simp [intOf]; omega
    · have hE : spF (l.take k) = R := by
        rw [← HR.out]
        by_cases h : k < l.length
        · obtain rfl : k = 60 := by omega
          rfl
        · obtain rfl : k = l.length := by omega
          rw [List.take_length, List.take_of_length_le hk6]
      rw [hE] at hown
      rw [hE]
      have Hown := Lib.hid hown
      have nlt : decide (k < l.length) = false ∨ decide (k < l.length) = true ∧ ¬ (k : Int) < 60 := by
        by_cases h : k < l.length
        · exact .inr ⟨by simpa using h, by omega⟩
        · exact .inl (by simpa using h)
      clear hE hown htab hbw hlt
      have k0 : (0 : Int) ≤ (k : Int) := by omega
      rcases nlt with h1 | ⟨h1, h2⟩
      all_goals
        go_wp2
        go_ret2
        exact ⟨_, rfl, World.ownsRow.mono Hown.out (by omega), HB.out⟩
end Go.Proofs.Ytdakkjfhmidkeaa
