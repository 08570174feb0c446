/- What Words answers of a text, as a plain function. Condition: a text that can lie in memory. -/
import Derived.Test.YthbplchbolghjaaGreatDoorSWords
import Derived.Lib.RuneCount
namespace Go.Proofs.YthbplchbolghjaaGreatDoor.Sc
open Go.RowKit

theorem cut_eqS (l : List UInt8) (a : Nat) : (⟨l.toArray⟩ : ByteArray).extract a l.length = ⟨(l.drop a).toArray⟩ := by
  apply ByteArray.ext
  apply Array.toList_inj.1
  have := Lib.extract_data (⟨l.toArray⟩ : ByteArray) a l.length
  rw [this]
  show (l.drop a).take (l.length - a) = l.drop a
  rw [List.take_of_length_le (by simp)]
theorem decode_le4 (s : ByteArray) (i : Nat) : (Utf8.decode s i).2 ≤ 4 := by
  unfold Utf8.decode
  simp only
  repeat' split
  all_goals simp

def fffd : List UInt8 := [239, 191, 189]
def writB (l : List UInt8) (pos : Nat) : Bool := Lib.hasPrefix (l.drop pos) fffd
theorem run_fffd (w : World) : (convert 21 9 (.int .i32 65533)).run Tryz.prog w = .ok (strV fffd) w := by
  rw [run_convert_int_string w 21 9 .i32 65533 (by kernel_rfl) Tryz.underlying9]
  have e : Utf8.encode 65533 = (⟨fffd.toArray⟩ : ByteArray) := by decide +kernel
  rw [e]
set_option maxHeartbeats 400000 in
theorem written_any (l : List UInt8) (pos : Nat) (w : World) (hp : pos ≤ l.length) :
    Calls Tryz.prog 61 #[.string ((⟨l.toArray⟩ : ByteArray).extract pos l.length), .int .i32 65533] w fun e w' => e = .returned (.bool (writB l pos)) ∧ w = w' := by
  have K := Lib.hid (Tryz.strings_HasPrefix ⟨(l.drop pos).toArray⟩ ⟨fffd.toArray⟩ w)
  have hcv := fun w => run_fffd w
  rw [cut_eqS]
  go_enter Tryz.func61, Tryz.ntmps61
  go_wp2_with fail
  refine K.out.mono ?_
  rintro e w1 ⟨rfl, rfl⟩
  go_wp2
  go_ret
  exact ⟨rfl, rfl⟩

abbrev Res := List (Int × List UInt8 × Nat × Nat) × Nat × Nat × Int
/-- Rune by rune. -/
def scanF (l : List UInt8) : Nat → Nat → RS → Res
  | 0, _, _ => ([], 0, 0, 0)
  | f + 1, pos, s =>
    if pos < l.length then
      if (Utf8.decode ⟨l.toArray⟩ pos).1 = 65533 ∧ writB l pos = false then ([], s.line, s.col, 4) else
      if (readF s (Utf8.decode ⟨l.toArray⟩ pos).1).2 = 0 then scanF l f (pos + (Utf8.decode ⟨l.toArray⟩ pos).2) (readF s (Utf8.decode ⟨l.toArray⟩ pos).1).1
      else ([], (readF s (Utf8.decode ⟨l.toArray⟩ pos).1).1.line, (readF s (Utf8.decode ⟨l.toArray⟩ pos).1).1.col, (readF s (Utf8.decode ⟨l.toArray⟩ pos).1).2)
    else if (readF s 10).2 = 0 then ((readF s 10).1.words, 0, 0, 0) else ([], (readF s 10).1.line, (readF s 10).1.col, (readF s 10).2)
def rs0 : RS := ⟨.btw, 1, 1, [], 0, [], 0, 0, []⟩
def wordsF (l : List UInt8) : Res := if 65536 < l.length then ([], 0, 0, 5) else scanF l (l.length + 1) 0 rs0

theorem iterAt_far (w : World) (k : Nat) (s : ByteArray) (p i : Nat) (h : i ≠ k) : (w.iterAt k s p).heap[i]? = w.heap[i]? := by
  show (w.heap.setIfInBounds k _)[i]? = _
  rw [Array.getElem?_setIfInBounds_ne (Ne.symm h)]
theorem RdR.iterAt {w : World} {B b k : Nat} {s : RS} {t : ByteArray} {p : Nat} (h : RdR w B b s) (hk : w.heap[k]? = some (Obj.stringIter t p)) (p' : Nat) : RdR (w.iterAt k t p') B b s := by
  obtain ⟨vw, vt, hb, hw, ht, hB⟩ := h
  have key : ∀ {e : TypeId} {size : Nat} {v : Value} {n : Nat} {xs : List Value}, w.ownsRow B e size v n xs → (w.iterAt k t p').ownsRow B e size v n xs := by
    intro e size v n xs h
    obtain ⟨h1, h2⟩ := h
    refine ⟨h1, ?_⟩
    rcases h2 with h2 | ⟨g, cap, cur, hv, hg, hc, h3⟩
    · exact .inl h2
    · refine .inr ⟨g, cap, cur, hv, hg, ?_, h3⟩
      rw [iterAt_far w k t p' g (fun e => by subst e; rw [hk] at hc; cases hc)]
      exact hc
  refine ⟨vw, vt, ?_, key hw, key ht, hB⟩
  show (w.iterAt k t p').heap[b]? = _
  rw [iterAt_far w k t p' b (fun e => by subst e; unfold Blk at hb; rw [hk] at hb; cases hb)]
  exact hb

theorem ret4 {fn : Func} {a b c d : Tmp} (h : fn.results = #[.tmp a, .tmp b, .tmp c, .tmp d]) {R : Ending → World → Prop} {x : Act} {w : World} (va vb vc vd : Value) (hd : x.defers = []) (ha : x.tmps.getD a undef = va) (hb : x.tmps.getD b undef = vb) (hc : x.tmps.getD c undef = vc) (he : x.tmps.getD d undef = vd)
    (hR : R (.returned (.tuple #[va, vb, vc, vd])) w) : bodyPost Tryz.prog fn R .ret x w := by
  refine bodyPost_ret (v := .tuple #[va, vb, vc, vd]) ?_ hd hR
  have ha' : x.tmps[a]?.getD undef = va := by simpa using ha
  have hb' : x.tmps[b]?.getD undef = vb := by simpa using hb
  have hc' : x.tmps[c]?.getD undef = vc := by simpa using hc
  have he' : x.tmps[d]?.getD undef = vd := by simpa using he
  simp [results, h, ha', hb', hc', he']

/-- What Words leaves. -/
def WordsR (w : World) (x : Res) (e : Ending) (w' : World) : Prop :=
  ∃ v, e = .returned (.tuple #[v, .int .i64 (x.2.1 : Int), .int .i64 (x.2.2.1 : Int), .int .i64 x.2.2.2]) ∧ w'.ownsRow w.heap.size 83 4 v x.1.length (cellsW x.1) ∧ Below w.heap.size w w'

set_option maxRecDepth 100000 in
set_option maxHeartbeats 4000000 in
theorem words_any (l : List UInt8) (w : World) (hl : l.length ≤ 9223372036854775807) :
    Calls Tryz.prog 39 #[strV l] w (WordsR w (wordsF l)) := by
  rcases hV : wordsF l with ⟨res, x0, x1, x2⟩
  unfold wordsF at hV
  by_cases h5 : 65536 < l.length
  · rw [if_pos h5] at hV
    simp only [Prod.mk.injEq] at hV
    obtain ⟨rfl, rfl, rfl, rfl⟩ := hV
    have hi : (65536 : Int) < (l.length : Int) := by omega
    have H5 := Lib.hid h5
    clear h5
    go_enter Tryz.func39, Tryz.ntmps39
    go_wp2
    exact ret4 Tryz.results39 _ _ _ _ rfl rfl rfl rfl rfl ⟨_, rfl, World.ownsRow_nil _ _ _ _, Below.refl _ _⟩
  · rw [if_neg h5] at hV
    have hi : ¬ (65536 : Int) < (l.length : Int) := by omega
    have HV := Lib.hid hV
    clear hV
    go_enter Tryz.func39, Tryz.ntmps39
    go_wp2_with fail
    go_loopw [] (fun wr => ∃ (pos : Nat) (s : RS) (f : Nat), wr.heap[w.heap.size + 1]? = some (Obj.stringIter ⟨l.toArray⟩ pos) ∧ RdR wr w.heap.size w.heap.size s ∧ Below w.heap.size w wr ∧ pos ≤ l.length + 4 ∧ s.text.length ≤ 4 * pos ∧ s.words.length ≤ 2 * pos ∧ s.line ≤ pos + 1 ∧ s.col ≤ pos + 1 ∧ 1 ≤ f ∧ l.length < pos + f ∧ scanF l f pos s = (res, x0, x1, x2)) (fun wr => l.length - wr.iterPos (w.heap.size + 1))
    case atStart =>
      refine ⟨0, rs0, l.length + 1, ?_, ?_, ?_, by omega, by simp [rs0], by simp [rs0], by simp [rs0], by simp [rs0], by omega, by omega, HV.out⟩
      · have := World.iter_heap (w.alloc (.cells (cellsR 60 rs0 (.slice none 0 0) (.slice none 0 0)) 100)) ⟨l.toArray⟩ 0
        simpa [cellsR, rs0] using this
      · have hb : Blk ((w.alloc (.cells (cellsR 60 rs0 (.slice none 0 0) (.slice none 0 0)) 100)).alloc (Obj.stringIter ⟨l.toArray⟩ 0)) w.heap.size (cellsR (fid rs0.mode) rs0 (.slice none 0 0) (.slice none 0 0)) 100 := Blk.alloc (Blk.new w _ _) _
        exact ⟨_, _, hb, World.ownsRow_nil _ _ _ _, World.ownsRow_nil _ _ _ _, Nat.le_refl _⟩
      · exact ((Below.refl _ _).alloc (Nat.le_refl _) _).alloc (by simp) _
    case round =>
      obtain ⟨pos, s, f, hit, hrd, hbw, hpl, ht, hw, hln, hcl, hf1, hf, hF⟩ := hrel
      have hsz : w.heap.size + 1 < wr.heap.size := lt_iter hit
      obtain ⟨f, rfl⟩ : ∃ g, f = g + 1 := ⟨f - 1, by omega⟩
      have hBw := Lib.hid hbw
      have hRd := Lib.hid hrd
      rw [scanF] at hF
      clear hbw hrd
      by_cases hp : pos < l.length
      · rw [if_pos hp] at hF
        have hp' : pos < (⟨l.toArray⟩ : ByteArray).size := hp
        have hnx : ∀ ty, (Instr.next (.pointer (some ⟨w.heap.size + 1, 0, none⟩)) true ty).run Tryz.prog wr = _ := fun ty => Lib.run_next_any_at wr (w.heap.size + 1) ⟨l.toArray⟩ pos ty hit hp'
        have hd1 := decode_le ⟨l.toArray⟩ pos
        have hd2 := Lib.decode_width_pos ⟨l.toArray⟩ pos hp'
        have hd3 := decode_le4 ⟨l.toArray⟩ pos
        generalize hq : Utf8.decode ⟨l.toArray⟩ pos = q at hnx hd1 hd2 hd3 hF
        obtain ⟨c, wd⟩ := q
        simp only at hnx hd1 hd2 hd3 hF
        have hit1 := Lib.iterAt_heap wr (w.heap.size + 1) ⟨l.toArray⟩ pos (pos + wd) hit
        have Hb1 := Lib.hid (Lib.below_iterAt hBw.out (k := w.heap.size + 1) (by omega) ⟨l.toArray⟩ (pos + wd))
        have Hr1 := Lib.hid (hRd.out.iterAt hit (pos + wd))
        have Hit1 := Lib.hid hit1
        have Hit := Lib.hid hit
        have hW : Hid ((wr.iterAt (w.heap.size + 1) ⟨l.toArray⟩ (pos + wd)).heap.size = wr.heap.size) := by
          show (wr.heap.setIfInBounds _ _).size = _
          simp
        clear hq hit1 hit
        have hpi : (pos : Int) ≤ (l.length : Int) := by omega
        have hp0 : (0 : Int) ≤ (pos : Int) := by omega
        by_cases hbad : c = 65533 ∧ writB l pos = false
        · obtain ⟨hc, hwr⟩ := hbad
          rw [if_pos ⟨hc, hwr⟩] at hF
          simp only [Prod.mk.injEq] at hF
          obtain ⟨rfl, rfl, rfl, rfl⟩ := hF
          have KW := Lib.hid (fun w => written_any l pos w (Nat.le_of_lt hp))
          have q1 : ((c : Int) == 65533) = true := by simp; omega
          obtain ⟨vw, vt, st⟩ := Hr1.out.st
          have c1 := st.blk.cell 1
          have c2 := st.blk.cell 2
          simp only [cellsR] at c1 c2
          have KWc : Hid (∀ w, Calls Tryz.prog 61 #[.string ((⟨l.toArray⟩ : ByteArray).extract pos l.length), .int .i32 (c : Int)] w fun e w' => e = .returned (.bool false) ∧ w = w') := by
            have k := KW.out
            rw [hwr] at k
            subst hc
            exact k
          have Hc := Lib.hid hc
          clear st hd1 hc hwr KW
          go_wp2_with ((with_reducible refine (KWc.out _).mono ?_); rintro e w9 ⟨rfl, rfl⟩)
          go_quiet (fail)
          go_wp2
          exact ret4 Tryz.results39 _ _ _ _ rfl rfl rfl rfl rfl ⟨_, rfl, World.ownsRow_nil _ _ _ _, belowN Hb1.out _⟩
        · rw [if_neg hbad] at hF
          have KR := Lib.hid (read_any w.heap.size w.heap.size c s _ hd1 (by omega) (by omega) (by omega) (by omega) Hr1.out)
          obtain ⟨r1, r2, r3, r4⟩ := read_facts s c
          have hG : ((c : Int) == 65533) = false ∨ ((c : Int) == 65533) = true ∧ ∀ w, Calls Tryz.prog 61 #[.string ((⟨l.toArray⟩ : ByteArray).extract pos l.length), .int .i32 (c : Int)] w fun e w' => e = .returned (.bool true) ∧ w = w' := by
            by_cases hc : c = 65533
            · refine .inr ⟨by simp; omega, fun w => ?_⟩
              have hwr : writB l pos = true := by
                cases h : writB l pos
                · exact absurd ⟨hc, h⟩ hbad
                · rfl
              have k := written_any l pos w (Nat.le_of_lt hp)
              rw [hwr] at k
              subst hc
              exact k
            · exact .inl (by simp; omega)
          generalize hx : readF s c = x at hF KR r1 r2 r3 r4
          obtain ⟨t, e0⟩ := x
          simp only at hF r1 r2 r3 r4
          have HF := Lib.hid hF
          clear hF hx hbad
          rcases hG with q1 | ⟨q1, kw⟩
          all_goals
            try have KWc := Lib.hid kw
            try clear kw
            go_wp2_with ((with_reducible refine (KWc.out _).mono ?_); rintro e w9 ⟨rfl, rfl⟩)
            refine KR.out.mono ?_
            rintro e w1 ⟨rfl, hr, hk⟩
            have HB := Lib.hid (Hb1.out.trans hk.1)
            have HI := Lib.hid (hk.2 _ _ _ Hit1.out)
            have HR := Lib.hid hr
            obtain ⟨vw, vt, st⟩ := hr.st
            have c1 := st.blk.cell 1
            have c2 := st.blk.cell 2
            simp only [cellsR] at c1 c2
            simp only
            clear hr hk st KR hnx
            by_cases he : e0 = 0
            · subst he
              have hF := HF.out
              rw [if_pos rfl] at hF
              have HF2 := Lib.hid hF
              clear HF hF
              go_wp2
              go_roundw
              case rel => exact ⟨pos + wd, t, f, HI.out, HR.out, HB.out, by omega, by omega, by omega, by omega, by omega, by omega, by omega, HF2.out⟩
              case measure =>
                simp only [World.iterPos, HI.out, Hit.out]
                omega
            · have hF := HF.out
              rw [if_neg he] at hF
              simp only [Prod.mk.injEq] at hF
              obtain ⟨rfl, rfl, rfl, rfl⟩ := hF
              have heb : (e0 != 0) = true := by simpa using he
              have He := Lib.hid he
              clear he HF
              go_wp2
              go_quiet (fail)
              go_wp2
              exact ret4 Tryz.results39 _ _ _ _ rfl rfl rfl rfl rfl ⟨_, rfl, World.ownsRow_nil _ _ _ _, belowN HB.out _⟩
      · rw [if_neg hp] at hF
        have hnx : ∀ ty, (Instr.next (.pointer (some ⟨w.heap.size + 1, 0, none⟩)) true ty).run Tryz.prog wr = _ := fun ty => Lib.run_next_end_at wr (w.heap.size + 1) ⟨l.toArray⟩ pos ty hit hp
        have KR := Lib.hid (read_any w.heap.size w.heap.size 10 s wr (by omega) (by omega) (by omega) (by omega) (by omega) hRd.out)
        generalize hx : readF s 10 = x at hF KR
        obtain ⟨t, e0⟩ := x
        simp only at hF
        have HF := Lib.hid hF
        clear hF hx hit
        go_wp2_with fail
        refine KR.out.mono ?_
        rintro e w1 ⟨rfl, hr, hk⟩
        have HB := Lib.hid (hBw.out.trans hk.1)
        obtain ⟨vw, vt, st⟩ := hr.st
        have c1 := st.blk.cell 1
        have c2 := st.blk.cell 2
        have c3 := st.blk.cell 3
        simp only [cellsR] at c1 c2 c3
        have ST := Lib.hid st
        simp only
        clear hr hk st KR hnx
        by_cases he : e0 = 0
        · subst he
          have hF := HF.out
          rw [if_pos rfl] at hF
          simp only [Prod.mk.injEq] at hF
          obtain ⟨rfl, rfl, rfl, rfl⟩ := hF
          obtain ⟨A, cp, rfl, hcp, hcm⟩ := own_sliceS ST.out.ow
          clear HF
          go_wp2
          exact ret4 Tryz.results39 _ _ _ _ rfl rfl rfl rfl rfl ⟨_, rfl, ST.out.ow, HB.out⟩
        · have hF := HF.out
          rw [if_neg he] at hF
          simp only [Prod.mk.injEq] at hF
          obtain ⟨rfl, rfl, rfl, rfl⟩ := hF
          have heb : (e0 != 0) = true := by simpa using he
          have He := Lib.hid he
          clear he HF
          go_wp2
          go_quiet (fail)
          go_wp2
          exact ret4 Tryz.results39 _ _ _ _ rfl rfl rfl rfl rfl ⟨_, rfl, World.ownsRow_nil _ _ _ _, belowN HB.out _⟩
end Go.Proofs.YthbplchbolghjaaGreatDoor.Sc
