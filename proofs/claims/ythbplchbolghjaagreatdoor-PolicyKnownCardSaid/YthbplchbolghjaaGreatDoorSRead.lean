/- What the reader does with a rune: contracts. Conditions: the reader lies in memory, and is not too long. -/
import Derived.Test.YthbplchbolghjaaGreatDoorSBase
import Derived.Laws.EntriesVeiled
import Derived.Deep.Onto
import Derived.Deep.AppendLies
import Derived.Deep.RegionHeld3
namespace Go.Proofs.YthbplchbolghjaaGreatDoor.Sc
open Go.RowKit

theorem retB {a b : Bool} (h : a = b) : Ending.returned (.bool a) = .returned (.bool b) := by rw [h]
theorem retI {k : IntKind} {a b : Int} (h : a = b) : Ending.returned (.int k a) = .returned (.int k b) := by rw [h]
def smB (c : Nat) : Bool := decide (97 ≤ c ∧ c ≤ 122)
def cpB (c : Nat) : Bool := decide (65 ≤ c ∧ c ≤ 90)
def dgB (c : Nat) : Bool := decide (48 ≤ c ∧ c ≤ 57)
def sgB (c : Nat) : Bool := decide (c = 123 ∨ c = 125 ∨ c = 58 ∨ c = 59 ∨ c = 42)
def blB (c : Nat) : Bool := decide (c = 32 ∨ c = 9)
def ctB (c : Nat) : Bool := decide (c < 32)
theorem small_any (c : Nat) (w : World) : Calls Tryz.prog 94 #[.int .i32 (c : Int)] w fun e w' => e = .returned (.bool (smB c)) ∧ w = w' := by
  go_enter Tryz.func94, Tryz.ntmps94
  go_wp2
  all_goals
    go_ret
    refine ⟨retB ?_, rfl⟩
    unfold smB
    rw [Bool.eq_iff_iff]
    simp
    try omega
theorem capital_any (c : Nat) (w : World) : Calls Tryz.prog 125 #[.int .i32 (c : Int)] w fun e w' => e = .returned (.bool (cpB c)) ∧ w = w' := by
  go_enter Tryz.func125, Tryz.ntmps125
  go_wp2
  all_goals
    go_ret
    refine ⟨retB ?_, rfl⟩
    unfold cpB
    rw [Bool.eq_iff_iff]
    simp
    try omega
theorem digit_any (c : Nat) (w : World) : Calls Tryz.prog 96 #[.int .i32 (c : Int)] w fun e w' => e = .returned (.bool (dgB c)) ∧ w = w' := by
  go_enter Tryz.func96, Tryz.ntmps96
  go_wp2
  all_goals
    go_ret
    refine ⟨retB ?_, rfl⟩
    unfold dgB
    rw [Bool.eq_iff_iff]
    simp
    try omega
theorem blank_any (c : Nat) (w : World) : Calls Tryz.prog 87 #[.int .i32 (c : Int)] w fun e w' => e = .returned (.bool (blB c)) ∧ w = w' := by
  go_enter Tryz.func87, Tryz.ntmps87
  go_wp2
  all_goals
    go_ret
    refine ⟨retB ?_, rfl⟩
    unfold blB
    rw [Bool.eq_iff_iff]
    simp
    try omega
theorem control_any (c : Nat) (w : World) : Calls Tryz.prog 121 #[.int .i32 (c : Int)] w fun e w' => e = .returned (.bool (ctB c)) ∧ w = w' := by
  go_enter Tryz.func121, Tryz.ntmps121
  go_wp2
  all_goals
    go_ret
    refine ⟨retB ?_, rfl⟩
    unfold ctB
    rw [Bool.eq_iff_iff]
    simp
    try omega
theorem sign_any (c : Nat) (w : World) : Calls Tryz.prog 91 #[.int .i32 (c : Int)] w fun e w' => e = .returned (.bool (sgB c)) ∧ w = w' := by
  go_enter Tryz.func91, Tryz.ntmps91
  go_wp2
  all_goals
    go_ret
    refine ⟨retB ?_, rfl⟩
    unfold sgB
    rw [Bool.eq_iff_iff]
    simp at *
    omega

theorem eqb (c d : Nat) : ((c : Int) == (d : Int)) = decide (c = d) := by
  rw [Bool.eq_iff_iff]
  simp
  try omega

/-- The reader's cells, each. -/
theorem RdR.cells {w : World} {b g : Nat} {s : RS} {vw vt : Value} (h : Blk w b (cellsR g s vw vt) 100) :
    w.cell? ⟨b, 0, none⟩ = some (.func (Fn.func g) #[] #[]) ∧ w.cell? ⟨b, 1, none⟩ = some (.int .i64 (s.line : Int)) ∧ w.cell? ⟨b, 2, none⟩ = some (.int .i64 (s.col : Int)) ∧ w.cell? ⟨b, 3, none⟩ = some vw ∧ w.cell? ⟨b, 4, none⟩ = some (.int .i64 s.kind) ∧ w.cell? ⟨b, 5, none⟩ = some (strV s.wt) ∧ w.cell? ⟨b, 6, none⟩ = some (.int .i64 (s.wl : Int)) ∧ w.cell? ⟨b, 7, none⟩ = some (.int .i64 (s.wc : Int)) ∧ w.cell? ⟨b, 8, none⟩ = some vt :=
  ⟨h.cell 0, h.cell 1, h.cell 2, h.cell 3, h.cell 4, h.cell 5, h.cell 6, h.cell 7, h.cell 8⟩
theorem RdR.frees {w : World} {b g : Nat} {s : RS} {vw vt : Value} (h : Blk w b (cellsR g s vw vt) 100) :
    w.frozen? ⟨b, 0, none⟩ = false ∧ w.frozen? ⟨b, 1, none⟩ = false ∧ w.frozen? ⟨b, 2, none⟩ = false ∧ w.frozen? ⟨b, 3, none⟩ = false ∧ w.frozen? ⟨b, 4, none⟩ = false ∧ w.frozen? ⟨b, 5, none⟩ = false ∧ w.frozen? ⟨b, 6, none⟩ = false ∧ w.frozen? ⟨b, 7, none⟩ = false ∧ w.frozen? ⟨b, 8, none⟩ = false :=
  ⟨h.free 0, h.free 1, h.free 2, h.free 3, h.free 4, h.free 5, h.free 6, h.free 7, h.free 8⟩

/-- What a method without results leaves. -/
def LeftR (B b : Nat) (w : World) (s : RS) (e : Ending) (w' : World) : Prop := e = .returned (.tuple #[]) ∧ RdR w' B b s ∧ KeepI B w w'
/-- What a method that answers an error leaves. -/
def LeftE (B b : Nat) (w : World) (x : RS × Int) (e : Ending) (w' : World) : Prop := e = .returned (.int .i64 x.2) ∧ RdR w' B b x.1 ∧ KeepI B w w'

/-- The reader on the way, from a world w0 on. -/
structure St (w0 : World) (B b : Nat) (cs : Array Value) (vw : Value) (n : Nat) (xs : List Value) (vt : Value) (m : Nat) (ys : List Value) (w : World) : Prop where
  blk : Blk w b cs 100
  ow : w.ownsRow B 83 4 vw n xs
  ot : w.ownsRow B 5 1 vt m ys
  keep : KeepI B w0 w
  hB : B ≤ b
section
variable {w0 w : World} {B b n m : Nat} {cs : Array Value} {vw vt : Value} {xs ys : List Value}
theorem St.set (h : St w0 B b cs vw n xs vt m ys w) (i : Nat) (v : Value) : St w0 B b (cs.setIfInBounds i v) vw n xs vt m ys (w.setCell ⟨b, i, none⟩ v) :=
  ⟨h.blk.set i v, own_set h.ow h.blk (by decide) i v, own_set h.ot h.blk (by decide) i v, h.keep.set h.blk h.hB i v, h.hB⟩
theorem St.drew (h : St w0 B b cs vw n xs vt m ys w) : St w0 B b cs vw n xs vt m ys w.drew := ⟨h.blk, h.ow, h.ot, h.keep.drewN 1, h.hB⟩
theorem St.alloc (h : St w0 B b cs vw n xs vt m ys w) (o : Obj) : St w0 B b cs vw n xs vt m ys (w.alloc o) :=
  ⟨h.blk.alloc o, h.ow.alloc o, h.ot.alloc o, h.keep.alloc (Nat.le_trans h.hB (Nat.le_of_lt h.blk.lt)) o, h.hB⟩
theorem St.app {w' : World} {vt' : Value} {m' : Nat} {ys' : List Value} {o : Obj} (h : St w0 B b cs vw n xs vt m ys w) (hg : (w.alloc o).grownBy w' vt.ownBlock) (ho : w'.ownsRow B 5 1 vt' m' ys') : St w0 B b cs vw n xs vt' m' ys' w' :=
  ⟨(h.alloc o).blk.kept hg (Ne.symm (own_notS (h.alloc o).ot (h.alloc o).blk (by decide))), (h.alloc o).ow.kept hg (own_two (h.alloc o).ow (h.alloc o).ot (by decide)), ho, (h.alloc o).keep.grown (h.alloc o).ot (Nat.le_trans h.hB (Nat.le_of_lt (h.alloc o).blk.lt)) hg, h.hB⟩
theorem St.appW {w' : World} {vw' : Value} {n' : Nat} {xs' : List Value} (h : St w0 B b cs vw n xs vt m ys w) (hg : w.grownBy w' vw.ownBlock) (ho : w'.ownsRow B 83 4 vw' n' xs') : St w0 B b cs vw' n' xs' vt m ys w' :=
  ⟨h.blk.kept hg (Ne.symm (own_notS h.ow h.blk (by decide))), ho, h.ot.kept hg (own_two h.ot h.ow (by decide)), h.keep.grown h.ow (Nat.le_trans h.hB (Nat.le_of_lt h.blk.lt)) hg, h.hB⟩
theorem St.rd {s : RS} {g : Nat} (h : St w0 B b cs vw s.words.length (cellsW s.words) vt s.text.length (Lib.byteCells s.text) w) (hg : fid s.mode = g) (hc : cs = cellsR g s vw vt) : RdR w B b s := by
  subst hg hc
  exact ⟨vw, vt, h.blk, h.ow, h.ot, h.hB⟩
end
theorem RdR.st {w : World} {B b : Nat} {s : RS} (h : RdR w B b s) : ∃ vw vt, St w B b (cellsR (fid s.mode) s vw vt) vw s.words.length (cellsW s.words) vt s.text.length (Lib.byteCells s.text) w := by
  obtain ⟨vw, vt, hb, hw, ht, hB⟩ := h
  exact ⟨vw, vt, hb, hw, ht, KeepI.refl B w, hB⟩

def beginF (s : RS) (k : Int) (m : Mode) : RS := { s with kind := k, wt := [], wl := s.line, wc := s.col, text := [], mode := m }
def addF (s : RS) (c : Int) : RS := { s with text := s.text ++ Lib.encodeRune c }
def endF (s : RS) : RS := { s with wt := s.text, words := s.words ++ [(s.kind, s.text, s.wl, s.wc)], mode := .btw }

set_option maxHeartbeats 1000000 in
theorem begin_any (B b g : Nat) (k : Int) (m : Mode) (s : RS) (w : World) (hg : fid m = g) (h : RdR w B b s) :
    Calls Tryz.prog 89 #[.pointer (some ⟨b, 0, none⟩), .int .i64 k, .func (Fn.func g) #[] #[]] w (LeftR B b w (beginF s k m)) := by
  obtain ⟨vw, vt, hb, hw, ht, hB⟩ := h
  obtain ⟨c0, c1, c2, c3, c4, c5, c6, c7, c8⟩ := RdR.cells hb
  obtain ⟨f0, f1, f2, f3, f4, f5, f6, f7, f8⟩ := RdR.frees hb
  obtain ⟨A, c, rfl, hc1, hc2, hA0, hA1, ho⟩ := own_cut ht
  have HO := Lib.hid ho
  have HW := Lib.hid hw
  have HBk := Lib.hid hb
  clear ho hw hb ht
  have st0 : St w B b _ vw s.words.length (cellsW s.words) (.slice A 0 c) 0 [] w := ⟨HBk.out, HW.out, HO.out, KeepI.refl B w, hB⟩
  have st := Lib.hid ((((((st0.set 4 (.int .i64 k)).set 5 (.string ⟨#[]⟩)).set 6 (.int .i64 (s.line : Int))).set 7 (.int .i64 (s.col : Int))).drew))
  clear st0 HO HW HBk
  go_enter Tryz.func89, Tryz.ntmps89
  go_wp2_with fail
  go_cut [18] (fun _ wc => St w B b (cellsR (fid s.mode) { s with kind := k, wt := [], wl := s.line, wc := s.col } vw (.slice A s.text.length c)) vw s.words.length (cellsW s.words) (.slice A 0 c) 0 [] wc)
  case first =>
    go_region
    go_wp2_with fail
    go_meet
    simpa [cellsR] using st.out
  case rest =>
    clear st c0 c1 c2 c3 c4 c5 c6 c7 c8 f0 f1 f2 f3 f4 f5 f6 f7 f8
    have c8 := hcut.blk.cell 8
    have f8 := hcut.blk.free 8
    have c0 := hcut.blk.cell 0
    have f0 := hcut.blk.free 0
    simp only [cellsR] at c8 c0
    have st := Lib.hid ((hcut.set 8 (.slice A 0 c)).set 0 (.func (Fn.func g) #[] #[]))
    clear hcut
    rcases A with _ | a
    · obtain ⟨e1, rfl⟩ := hA0 rfl
      rw [e1] at c8
      clear e1 hA0 hA1 hc1 hc2
      go_wp2
      exact none_ret Tryz.results89 rfl ⟨rfl, St.rd (s := beginF s k m) (g := g) st.out hg (by simp [cellsR, beginF]), st.out.keep⟩
    · obtain ⟨g1, rfl⟩ := hA1 a rfl
      unfold maxLen at hc2
      clear hA0 hA1
      go_wp2
      exact none_ret Tryz.results89 rfl ⟨rfl, St.rd (s := beginF s k m) (g := g) st.out hg (by simp [cellsR, beginF]), st.out.keep⟩

theorem own_sliceS {w : World} {base : Nat} {e : TypeId} {size : Nat} {v : Value} {n : Nat} {xs : List Value} (h : w.ownsRow base e size v n xs) : ∃ A c, v = .slice A n c ∧ n ≤ c ∧ c ≤ maxLen := by
  obtain ⟨A, c, h1, h2, h3, _⟩ := own_cut h
  exact ⟨A, c, h1, h2, h3⟩
theorem enc_len (c : Int) : (Lib.encodeRune c).length ≤ 4 := by
  unfold Lib.encodeRune
  rw [List.length_map]
  exact (Lib.encodeRuneZ_length c).2

set_option maxHeartbeats 1000000 in
theorem add_any (B b : Nat) (c : Int) (s : RS) (w : World) (hc0 : -2147483648 ≤ c) (hc1 : c ≤ 2147483647) (hl : s.text.length ≤ 1000000) (h : RdR w B b s) :
    Calls Tryz.prog 92 #[.pointer (some ⟨b, 0, none⟩), .int .i32 c] w (LeftR B b w (addF s c)) := by
  obtain ⟨vw, vt, st⟩ := h.st
  obtain ⟨A, cp, rfl, hcp, hcm⟩ := own_sliceS st.ot
  have c8 := st.blk.cell 8
  simp only [cellsR] at c8
  have KA := Lib.hid (Tryz.utf8_AppendRune_plain B (.slice A s.text.length cp) s.text.length (Lib.byteCells s.text) c hc0 hc1 w st.ot (by omega) (Nat.le_trans st.hB (Nat.le_of_lt st.blk.lt)))
  have ST := Lib.hid st
  clear st h hc0 hc1
  go_enter Tryz.func92, Tryz.ntmps92
  go_wp2_with fail
  refine KA.out.mono ?_
  rintro e w1 ⟨v', rfl, ho, o, hg⟩
  have e1 : s.text.length + (Lib.runeCells c).length = (addF s c).text.length := by
    unfold addF
    rw [← Lib.byteCells_encodeRune, Lib.byteCells_length]
    simp
  have e2 : Lib.byteCells s.text ++ Lib.runeCells c = Lib.byteCells (addF s c).text := by
    unfold addF
    rw [← Lib.byteCells_encodeRune]
    simp [Lib.byteCells]
  rw [e1, e2] at ho
  clear e1 e2
  have st1 : St w B b _ _ _ _ v' _ _ w1 := ST.out.app hg ho
  obtain ⟨A1, cp1, rfl, hcp1, hcm1⟩ := own_sliceS ho
  have d8 := st1.blk.cell 8
  simp only [cellsR] at d8
  have g8 := st1.blk.free 8
  have st2 := Lib.hid (st1.set 8 (.slice A1 (addF s c).text.length cp1))
  clear st1 ho hg KA c8 hcp1 hcm1
  go_wp2
  refine none_ret Tryz.results92 rfl ⟨rfl, ?_, st2.out.keep⟩
  exact St.rd (s := addF s c) (g := fid s.mode) st2.out rfl (by simp [cellsR, addF])

theorem info_W : (Tryz.prog.info? 83).map (fun i => (i.zero, i.size, i.bytes)) = some (some (.agg #[.int .i64 0, .string ⟨#[]⟩, .int .i64 0, .int .i64 0]), 4, 40) := by kernel_rfl
set_option maxHeartbeats 1000000 in
theorem end_any (B b : Nat) (s : RS) (w : World) (hl : s.words.length ≤ 1000000) (h : RdR w B b s) :
    Calls Tryz.prog 93 #[.pointer (some ⟨b, 0, none⟩)] w (LeftR B b w (endF s)) := by
  obtain ⟨vw, vt, st⟩ := h.st
  obtain ⟨A, cp, rfl, hcp, hcm⟩ := own_sliceS st.ot
  obtain ⟨A2, cp2, rfl, hcp2, hcm2⟩ := own_sliceS st.ow
  have c5 := st.blk.cell 5
  have c8 := st.blk.cell 8
  have f5 := st.blk.free 5
  simp only [cellsR] at c5 c8
  have hcv := run_text st.ot
  obtain ⟨i0, hi0, hz0, hz1, hz2⟩ := info_parts info_W
  have st1 := Lib.hid (st.set 5 (strV s.text))
  clear st h
  go_enter Tryz.func93, Tryz.ntmps93
  go_upto_region 1 with fail
  generalize hw1 : w.setCell ⟨b, 5, none⟩ _ = w1 at st1 ⊢
  clear c5 c8 f5 hcv hw1
  go_cut [23] (fun _ wc => ∃ v', St w B b (cellsR (fid s.mode) { s with wt := s.text } v' (.slice A s.text.length cp)) v' (endF s).words.length (cellsW (endF s).words) (.slice A s.text.length cp) s.text.length (Lib.byteCells s.text) wc)
  case first =>
    have st2 := st1.out
    obtain ⟨c0, c1, c2, c3, c4, c5, c6, c7, c8⟩ : w1.cell? ⟨b, 0, none⟩ = some (.func (Fn.func (fid s.mode)) #[] #[]) ∧ w1.cell? ⟨b, 1, none⟩ = some (.int .i64 (s.line : Int)) ∧ w1.cell? ⟨b, 2, none⟩ = some (.int .i64 (s.col : Int)) ∧ w1.cell? ⟨b, 3, none⟩ = some (.slice A2 s.words.length cp2) ∧ w1.cell? ⟨b, 4, none⟩ = some (.int .i64 s.kind) ∧ w1.cell? ⟨b, 5, none⟩ = some (strV s.text) ∧ w1.cell? ⟨b, 6, none⟩ = some (.int .i64 (s.wl : Int)) ∧ w1.cell? ⟨b, 7, none⟩ = some (.int .i64 (s.wc : Int)) ∧ w1.cell? ⟨b, 8, none⟩ = some (.slice A s.text.length cp) :=
      ⟨st2.blk.cell 0, st2.blk.cell 1, st2.blk.cell 2, st2.blk.cell 3, st2.blk.cell 4, st2.blk.cell 5, st2.blk.cell 6, st2.blk.cell 7, st2.blk.cell 8⟩
    have f3 := st2.blk.free 3
    have hb1 : b < w1.heap.size := st2.blk.lt
    have hBb := st2.hB
    have hne : some b ≠ (Value.slice A2 s.words.length cp2).ownBlock := Ne.symm (own_notS st2.ow st2.blk (by decide))
    have hk63 : s.words.length + 1 ≤ maxLen := by unfold maxLen; omega
    have hk47 : (s.words.length + 1) * 40 ≤ 140737488355328 := by omega
    clear st2
    go_region_law (first | (refine step_append_lies _ (by rfl) _ _ _ (by rfl) B 83 i0 (.agg #[.int .i64 0, .string ⟨#[]⟩, .int .i64 0, .int .i64 0]) 4 40 Tryz.underlying70 hi0 hz0 hz1 hz2 rfl (by decide) (.slice A2 s.words.length cp2) s.words.length (cellsW s.words) (by rfl) (((st1.out.drew).alloc _).ow) ⟨w1.heap.size, 0, none⟩ 1 1 [.int .i64 s.kind, strV s.text, .int .i64 (s.wl : Int), .int .i64 (s.wc : Int)] (by rfl) (by rfl) (World.news_of_block (cs := #[.int .i64 s.kind, strV s.text, .int .i64 (s.wl : Int), .int .i64 (s.wc : Int)]) (t := 83) (fr := (0, 0)) (heap_alloc_new w1 _)) (by simp [Value.oneCell']) (by omega) hk63 hk47 (by simp; omega) (w1.heap.size + 1) (by simp) ?_; intro gg cap w4 hown' hgrow' hat hlt4; have st4 := St.appW (st1.out.drew.alloc _) hgrow' hown'; have q3 : w4.cell? ⟨b, 3, none⟩ = some (.slice A2 s.words.length cp2) := st4.blk.cell 3; have q3f := st4.blk.free 3; have ST4 := Lib.hid (st4.set 3 (.slice (some ⟨gg, 0, none⟩) (s.words.length + 1) cap)); clear st4 hown' hgrow' hat hlt4))
    all_goals
      go_wp2_with fail
      go_meet
      have h := ST4.out
      have e2 : cellsW s.words ++ [.int .i64 s.kind, strV s.text, .int .i64 (s.wl : Int), .int .i64 (s.wc : Int)] = cellsW (endF s).words := by
        unfold endF
        rw [cellsW_snoc]
      have e1 : s.words.length + 1 = (endF s).words.length := by simp [endF]
      rw [e2] at h
      exact ⟨_, by rw [← e1]; simpa [cellsR] using h⟩
  case rest =>
    obtain ⟨v', h⟩ := hcut
    have c0 := h.blk.cell 0
    have f0 := h.blk.free 0
    simp only [cellsR] at c0
    have st2 := Lib.hid (h.set 0 (.func (Fn.func 60) #[] #[]))
    clear h st1
    go_wp2
    exact none_ret Tryz.results93 rfl ⟨rfl, St.rd (s := endF s) (g := 60) st2.out rfl (by simp [cellsR, endF]), st2.out.keep⟩
end Go.Proofs.YthbplchbolghjaaGreatDoor.Sc
