/- What Parse answers of a text, as a plain function. Conditions: a text of 20000 bytes at most; the variables hold what was laid. -/
import Derived.Test.YthbplchbolghjaaGreatDoorGReadL
import Derived.Test.YthbplchbolghjaaGreatDoorGWordsM
import Derived.BigRegion
namespace Go.Proofs.YthbplchbolghjaaGreatDoor
open Go.RowKit

def pol0 : Pol := ⟨0, 0, 0, 0, 0, [], 0, 0, false⟩
def pr0 (l : List Sc.W4) : PR := ⟨[], 0, l, pol0, 0, 0, 0⟩
/-- Parse: a policy, a line, a column, an error. -/
def parseP (t : List UInt8) : Pol × Int × Int × Int :=
  let W := Sc.wordsF t
  if W.2.2.2 ≠ 0 then (pol0, (W.2.1 : Int), (W.2.2.1 : Int), W.2.2.2) else match readP (pr0 W.1) with
    | (false, z) => (pol0, z.wl, z.wc, z.we)
    | (true, z) => if checkG z.goal = 0 then (z.goal, 0, 0, 0) else (pol0, 0, 0, checkG z.goal)
theorem goal_size : (Tryz.prog.info? 25).map (·.size) = some 9 := by kernel_rfl
theorem results_row4 {P : Program} {fn : Func} {p s u t' : Tmp} {ty : TypeId} (h : fn.results = #[.cell p ty, .tmp s, .tmp u, .tmp t']) (tmps : Array Value) (w : World) (g : Nat) (t : TypeId) (cs : Array Value) (fr : Nat × Nat) (d : TypeDesc) (v v2 v3 : Value)
    (hp : tmps.getD p undef = .pointer (some ⟨g, 0, none⟩)) (hs : tmps.getD s undef = v) (hu2 : tmps.getD u undef = v2) (hu3 : tmps.getD t' undef = v3) (hg : w.heap[g]? = some (.cells cs t fr))
    (hu : P.underlying ty = some d) (hd : (match d with | .struct _ | .array _ _ => true | _ => false) = true) (hi : (P.info? ty).map (·.size) = some cs.size) :
    (results fn tmps).run P w = .ok (.tuple #[.agg cs, v, v2, v3]) w := by
  have hp' : tmps[p]?.getD undef = .pointer (some ⟨g, 0, none⟩) := by simpa using hp
  have hs' : tmps[s]?.getD undef = v := by simpa using hs
  have hu' : tmps[u]?.getD undef = v2 := by simpa using hu2
  have ht' : tmps[t']?.getD undef = v3 := by simpa using hu3
  simp [results, h, hp', hs', hu', ht', asAddr, run_loadVar_row w g t ty cs fr d hg hu hd hi]
theorem bodyPost_row4 {P : Program} {fn : Func} {p s u t' : Tmp} {ty : TypeId} {R : Ending → World → Prop} {a : Act} {w : World} (h : fn.results = #[.cell p ty, .tmp s, .tmp u, .tmp t']) (g : Nat) (t : TypeId) (cs : Array Value) (fr : Nat × Nat) (d : TypeDesc) (v v2 v3 : Value)
    (hd0 : a.defers = []) (hp : a.tmps.getD p undef = .pointer (some ⟨g, 0, none⟩)) (hs : a.tmps.getD s undef = v) (hu2 : a.tmps.getD u undef = v2) (hu3 : a.tmps.getD t' undef = v3) (hg : w.heap[g]? = some (.cells cs t fr))
    (hu : P.underlying ty = some d) (hd : (match d with | .struct _ | .array _ _ => true | _ => false) = true) (hi : (P.info? ty).map (·.size) = some cs.size)
    (hR : R (.returned (.tuple #[.agg cs, v, v2, v3])) w) : bodyPost P fn R .ret a w :=
  bodyPost_ret (results_row4 h a.tmps w g t cs fr d v v2 v3 hp hs hu2 hu3 hg hu hd hi) hd0 hR

/-- Nine cells are written. -/
abbrev set9 (W : World) (b : Nat) (v0 v1 v2 v3 v4 v5 v6 v7 v8 : Value) : World := ((((((((W.setCell ⟨b, 0, none⟩ v0).setCell ⟨b, 1, none⟩ v1).setCell ⟨b, 2, none⟩ v2).setCell ⟨b, 3, none⟩ v3).setCell ⟨b, 4, none⟩ v4).setCell ⟨b, 5, none⟩ v5).setCell ⟨b, 6, none⟩ v6).setCell ⟨b, 7, none⟩ v7).setCell ⟨b, 8, none⟩ v8
theorem blk9 {W : World} {b : Nat} {t : TypeId} {a0 a1 a2 a3 a4 a5 a6 a7 a8 : Value} (h : Blk W b #[a0, a1, a2, a3, a4, a5, a6, a7, a8] t) (v0 v1 v2 v3 v4 v5 v6 v7 v8 : Value) : Blk (set9 W b v0 v1 v2 v3 v4 v5 v6 v7 v8) b #[v0, v1, v2, v3, v4, v5, v6, v7, v8] t := by
  have s0 : Blk (W.setCell ⟨b, 0, none⟩ v0) b #[v0, a1, a2, a3, a4, a5, a6, a7, a8] t := Blk.set h 0 v0
  have s1 : Blk ((W.setCell ⟨b, 0, none⟩ v0).setCell ⟨b, 1, none⟩ v1) b #[v0, v1, a2, a3, a4, a5, a6, a7, a8] t := Blk.set s0 1 v1
  have s2 : Blk (((W.setCell ⟨b, 0, none⟩ v0).setCell ⟨b, 1, none⟩ v1).setCell ⟨b, 2, none⟩ v2) b #[v0, v1, v2, a3, a4, a5, a6, a7, a8] t := Blk.set s1 2 v2
  have s3 : Blk ((((W.setCell ⟨b, 0, none⟩ v0).setCell ⟨b, 1, none⟩ v1).setCell ⟨b, 2, none⟩ v2).setCell ⟨b, 3, none⟩ v3) b #[v0, v1, v2, v3, a4, a5, a6, a7, a8] t := Blk.set s2 3 v3
  have s4 : Blk (((((W.setCell ⟨b, 0, none⟩ v0).setCell ⟨b, 1, none⟩ v1).setCell ⟨b, 2, none⟩ v2).setCell ⟨b, 3, none⟩ v3).setCell ⟨b, 4, none⟩ v4) b #[v0, v1, v2, v3, v4, a5, a6, a7, a8] t := Blk.set s3 4 v4
  have s5 : Blk ((((((W.setCell ⟨b, 0, none⟩ v0).setCell ⟨b, 1, none⟩ v1).setCell ⟨b, 2, none⟩ v2).setCell ⟨b, 3, none⟩ v3).setCell ⟨b, 4, none⟩ v4).setCell ⟨b, 5, none⟩ v5) b #[v0, v1, v2, v3, v4, v5, a6, a7, a8] t := Blk.set s4 5 v5
  have s6 : Blk (((((((W.setCell ⟨b, 0, none⟩ v0).setCell ⟨b, 1, none⟩ v1).setCell ⟨b, 2, none⟩ v2).setCell ⟨b, 3, none⟩ v3).setCell ⟨b, 4, none⟩ v4).setCell ⟨b, 5, none⟩ v5).setCell ⟨b, 6, none⟩ v6) b #[v0, v1, v2, v3, v4, v5, v6, a7, a8] t := Blk.set s5 6 v6
  have s7 : Blk ((((((((W.setCell ⟨b, 0, none⟩ v0).setCell ⟨b, 1, none⟩ v1).setCell ⟨b, 2, none⟩ v2).setCell ⟨b, 3, none⟩ v3).setCell ⟨b, 4, none⟩ v4).setCell ⟨b, 5, none⟩ v5).setCell ⟨b, 6, none⟩ v6).setCell ⟨b, 7, none⟩ v7) b #[v0, v1, v2, v3, v4, v5, v6, v7, a8] t := Blk.set s6 7 v7
  have s8 : Blk (((((((((W.setCell ⟨b, 0, none⟩ v0).setCell ⟨b, 1, none⟩ v1).setCell ⟨b, 2, none⟩ v2).setCell ⟨b, 3, none⟩ v3).setCell ⟨b, 4, none⟩ v4).setCell ⟨b, 5, none⟩ v5).setCell ⟨b, 6, none⟩ v6).setCell ⟨b, 7, none⟩ v7).setCell ⟨b, 8, none⟩ v8) b #[v0, v1, v2, v3, v4, v5, v6, v7, v8] t := Blk.set s7 8 v8
  exact s8
theorem below9 {w W : World} {B b : Nat} (h : Below B w W) (hb : B ≤ b) (v0 v1 v2 v3 v4 v5 v6 v7 v8 : Value) : Below B w (set9 W b v0 v1 v2 v3 v4 v5 v6 v7 v8) := ((((((((h.setCell (p := ⟨b, 0, none⟩) hb v0).setCell (p := ⟨b, 1, none⟩) hb v1).setCell (p := ⟨b, 2, none⟩) hb v2).setCell (p := ⟨b, 3, none⟩) hb v3).setCell (p := ⟨b, 4, none⟩) hb v4).setCell (p := ⟨b, 5, none⟩) hb v5).setCell (p := ⟨b, 6, none⟩) hb v6).setCell (p := ⟨b, 7, none⟩) hb v7).setCell (p := ⟨b, 8, none⟩) hb v8

theorem keep9 (W : World) (b : Nat) (v0 v1 v2 v3 v4 v5 v6 v7 v8 : Value) : KeepR b W (set9 W b v0 v1 v2 v3 v4 v5 v6 v7 v8) := (((((((((KeepR.refl b W).setCell 0 v0).setCell 1 v1).setCell 2 v2).setCell 3 v3).setCell 4 v4).setCell 5 v5).setCell 6 v6).setCell 7 v7).setCell 8 v8

/-- No name is too long. -/
def DrB (s : PR) : Prop := ∀ y ∈ s.goal.drain, y.length ≤ 100000
theorem drb_same {s z : PR} (h : DrB s) (k : Same s z) : DrB z := by unfold DrB; rw [k.drain]; exact h
theorem drb_drain : ∀ (f : Nat) (s : PR), DrB s → (∀ x ∈ s.line, x.2.1.length ≤ 100000) → DrB (drainK f s).2
  | 0, s, h, hb => h
  | f + 1, s, h, hb => by
    have k := same_take s 1
    unfold drainK
    cases ht : takeP s 1 with
    | mk o s' =>
    rw [ht] at k
    cases o with
    | none => exact drb_same h k
    | some x =>
      have hx := hb x (take_at ht).2.2.2.2.1
      have h' := drb_same h k
      have hn : DrB (putName x.2.1 s') := by
        intro y hy
        rcases List.mem_append.1 (show y ∈ s'.goal.drain ++ [x.2.1] from hy) with h1 | h1
        · exact h' y h1
        · rw [List.mem_singleton] at h1
          rw [h1]
          exact hx
      simp only
      split
      · exact h'
      · split
        · exact hn
        · exact drb_drain f _ hn (by rw [show (putName x.2.1 s').line = s.line from k.line]; exact hb)
theorem drb_line (i : Nat) (s : PR) (h0 : 0 ≤ s.goal.on) (h1 : s.goal.on < 32) (h : DrB s) (hb : ∀ x ∈ s.line, x.2.1.length ≤ 100000) : DrB (lineP i s).2 := by
  unfold lineP
  split
  · exact drb_same h (same_shares same_putLow s 2)
  · exact drb_same h (same_shares same_putHigh s 2)
  · have k := on_keeps (s.line.length + 1) s h0 h1
    unfold DrB
    rw [show (onP s).2.goal.drain = s.goal.drain from k.2.2.1]
    exact h
  · exact drb_drain _ s h hb
  · exact drb_same h (same_num (put := putMoves) (fun n s => ⟨rfl, rfl, rfl, rfl⟩) s)
  · exact drb_same h (same_num (put := putTries) (fun n s => ⟨rfl, rfl, rfl, rfl⟩) s)
  · exact h
theorem step_inv {i : Nat} {s z : PR} (hv : Inv i s) (hd : DrB s) (h : stepP i s = (true, z)) : Inv (i + 1) z ∧ DrB z := by
  unfold stepP at h
  cases hb : beginP s (keysL.getD i []) with
  | mk b s2 =>
  rw [hb] at h
  have k := begin_inv hv hb
  have hd2 : DrB s2 := by
    unfold beginP at hb
    cases hx : s.rest[0]? with
    | none => rw [hx] at hb; cases hb; exact hd
    | some x =>
      rw [hx] at hb
      simp only at hb
      split at hb <;> (cases hb; exact hd)
  cases b with
  | false =>
    cases h
    exact ⟨k.1.next, hd2⟩
  | true =>
    simp only at h
    have i3 := line_inv k.1
    have d3 := drb_line i s2 k.1.on0 k.1.on1 hd2 (k.2 rfl).2.2
    cases hl : lineP i s2 with
    | mk b3 s3 =>
    rw [hl] at h i3 d3
    cases b3 with
    | false => cases h
    | true =>
      simp only at h
      have i4 := end_inv i3
      have d4 := drb_same d3 (same_end s3)
      rw [h] at i4 d4
      exact ⟨i4, d4⟩
theorem lines_inv {s z : PR} (hv : Inv 0 s) (hd : DrB s) : ∀ {k : Nat}, linesK s k = (true, z) → Inv k z ∧ DrB z
  | 0, h => by
    cases h
    exact ⟨hv, hd⟩
  | k + 1, h => by
    unfold linesK at h
    cases hk : linesK s k with
    | mk b y =>
    rw [hk] at h
    cases b with
    | false => cases h
    | true => exact step_inv (lines_inv hv hd hk).1 (lines_inv hv hd hk).2 h
theorem read_inv {s z : PR} (hv : Inv 0 s) (hd : DrB s) (h : readP s = (true, z)) : DrB z := by
  unfold readP at h
  cases hk : linesK s 7 with
  | mk b y =>
  rw [hk] at h
  cases b with
  | false => cases h
  | true =>
    simp only at h
    split at h
    · cases h
    · cases h
      exact (lines_inv hv hd hk).2

/-- What Parse leaves. -/
def ParseR (w : World) (x : Pol × Int × Int × Int) (e : Ending) (w' : World) : Prop :=
  ∃ A c, e = .returned (.tuple #[valG x.1 A c, .int .i64 x.2.1, .int .i64 x.2.2.1, .int .i64 x.2.2.2]) ∧ w'.ownsRow w.heap.size 9 1 (.slice A x.1.drain.length c) x.1.drain.length (strC x.1.drain) ∧ Below w.heap.size w w'
theorem own_base {w : World} {a b : Nat} {e : TypeId} {size : Nat} {v : Value} {n : Nat} {xs : List Value} (h : w.ownsRow b e size v n xs) (hab : a ≤ b) : w.ownsRow a e size v n xs := by
  obtain ⟨h1, h2⟩ := h
  refine ⟨h1, ?_⟩
  rcases h2 with h2 | ⟨q, cap, cur, hv, hq, h3⟩
  · exact .inl h2
  · exact .inr ⟨q, cap, cur, hv, Nat.le_trans hab hq, h3⟩

set_option maxRecDepth 100000 in
set_option maxHeartbeats 4000000 in
theorem parse_any (t : List UInt8) (w : World) (he : Env w) (ht : t.length ≤ 20000) :
    Calls Tryz.prog 16 #[strV t] w (ParseR w (parseP t)) := by
  have HE := Lib.hid he
  have KW := Lib.hid (fun w => Sc.words_any t w (by omega))
  have hfew := Lib.hid (words_few t ht)
  obtain ⟨T, hT⟩ : ∃ T, parseP t = T := ⟨_, rfl⟩
  have hT2 := hT
  unfold parseP at hT2
  rw [hT]
  clear hT he
  generalize Sc.wordsF t = W at KW hfew hT2
  obtain ⟨ws, wl, wc, we⟩ := W
  simp only at hT2
  have HT := Lib.hid hT2
  clear hT2
  have B0 : Hid (Below w.heap.size w (w.alloc (.cells #[.int .i64 0, .int .i64 0, .int .i64 0, .int .i64 0, .int .i64 0, .slice none 0 0, .int .i64 0, .int .i64 0, .bool false] 25))) := Lib.hid (below1 w _)
  have Q0 : Hid (Blk (w.alloc (.cells #[.int .i64 0, .int .i64 0, .int .i64 0, .int .i64 0, .int .i64 0, .slice none 0 0, .int .i64 0, .int .i64 0, .bool false] 25)) w.heap.size #[.int .i64 0, .int .i64 0, .int .i64 0, .int .i64 0, .int .i64 0, .slice none 0 0, .int .i64 0, .int .i64 0, .bool false] 25) := Lib.hid (Blk.new w _ _)
  go_enter Tryz.func16, Tryz.ntmps16
  go_upto_region 1 with fail
  generalize (w.alloc (.cells #[.int .i64 0, .int .i64 0, .int .i64 0, .int .i64 0, .int .i64 0, .slice none 0 0, .int .i64 0, .int .i64 0, .bool false] 25)) = W1 at B0 Q0 ⊢
  have hl1 := Blk.lt Q0.out
  go_wp2_with fail
  refine (KW.out _).mono ?_
  rintro e w2 ⟨vw, rfl, how, hb2⟩
  simp only at how
  obtain ⟨A2, c2, rfl, hc2⟩ := Sc.own_sliceS how
  have HO := Lib.hid how
  have Q2 := Lib.hid (Blk.below Q0.out hb2 hl1)
  have B2 := Lib.hid (B0.out.trans (hb2.mono (Nat.le_of_lt hl1)))
  have hW1 : W1.heap.size ≤ w2.heap.size := hb2.size
  clear how hb2 KW Q0 B0
  have hl2 := Blk.lt Q2.out
  have z0 : w2.cell? ⟨w.heap.size, 0, none⟩ = some (.int .i64 0) := Blk.cell Q2.out 0
  have z1 : w2.cell? ⟨w.heap.size, 1, none⟩ = some (.int .i64 0) := Blk.cell Q2.out 1
  have z2 : w2.cell? ⟨w.heap.size, 2, none⟩ = some (.int .i64 0) := Blk.cell Q2.out 2
  have z3 : w2.cell? ⟨w.heap.size, 3, none⟩ = some (.int .i64 0) := Blk.cell Q2.out 3
  have z4 : w2.cell? ⟨w.heap.size, 4, none⟩ = some (.int .i64 0) := Blk.cell Q2.out 4
  have z5 : w2.cell? ⟨w.heap.size, 5, none⟩ = some (.slice none 0 0) := Blk.cell Q2.out 5
  have z6 : w2.cell? ⟨w.heap.size, 6, none⟩ = some (.int .i64 0) := Blk.cell Q2.out 6
  have z7 : w2.cell? ⟨w.heap.size, 7, none⟩ = some (.int .i64 0) := Blk.cell Q2.out 7
  have z8 : w2.cell? ⟨w.heap.size, 8, none⟩ = some (.bool false) := Blk.cell Q2.out 8
  have zf : ∀ i : Nat, w2.frozen? ⟨w.heap.size, i, none⟩ = false := fun i => Blk.free Q2.out i
  have zf0 := zf 0
  have zf1 := zf 1
  have zf2 := zf 2
  have zf3 := zf 3
  have zf4 := zf 4
  have zf5 := zf 5
  have zf6 := zf 6
  have zf7 := zf 7
  have zf8 := zf 8
  clear zf
  by_cases h0 : we = 0
  · subst h0
    have HT2 : Hid (T = match readP (pr0 ws) with
      | (false, z) => (pol0, z.wl, z.wc, z.we)
      | (true, z) => if checkG z.goal = 0 then (z.goal, 0, 0, 0) else (pol0, 0, 0, checkG z.goal)) := Lib.hid (by rw [← HT.out]; simp)
    have hm0 : RdM (w2.alloc (.cells (cellsPR none 0 A2 c2 none 0 (pr0 ws)) 77)) w2.heap.size none 0 A2 c2 none 0 (pr0 ws) :=
      ⟨Blk.new w2 _ _, Sc.SlAt.nil _ _, fun b o h => (by cases h), (Sc.own_slat HO.out).below (below1 w2 _), fun b o h => own_lt HO.out h, World.ownsRow_nil _ _ _ _, Nat.le_refl _, ⟨Nat.le_refl _, by show 0 ≤ 9223372036854775807; omega⟩, hc2⟩
    have hv0 : Inv 0 (pr0 ws) := ⟨Int.le_refl 0, by show (0 : Int) < 32; omega, fun _ => rfl, hfew.out.1, hfew.out.2⟩
    have hd0 : DrB (pr0 ws) := fun y hy => by cases hy
    have B3 : Hid (Below w.heap.size w (w2.alloc (.cells (cellsPR none 0 A2 c2 none 0 (pr0 ws)) 77))) := Lib.hid (B2.out.alloc B2.out.size _)
    have Q3 : Hid (Blk (w2.alloc (.cells (cellsPR none 0 A2 c2 none 0 (pr0 ws)) 77)) w.heap.size _ _) := Lib.hid (Blk.alloc Q2.out _)
    have KR := Lib.hid (readLines_any w w2.heap.size none 0 A2 c2 none 0 (pr0 ws) _ HE.out B3.out B2.out.size hm0 hv0)
    have HRI := Lib.hid (fun z h => read_inv (z := z) hv0 hd0 h)
    have hg0 := Blk.lt hm0.blk
    clear HT hfew hm0 hv0 hd0
    generalize readP (pr0 ws) = RR at KR HT2 HRI
    obtain ⟨b, z⟩ := RR
    simp only at KR
    go_upto_region 5 with fail
    change Code.wp _ _ _ _ (w2.alloc (.cells (cellsPR none 0 A2 c2 none 0 (pr0 ws)) 77))
    generalize (w2.alloc (.cells (cellsPR none 0 A2 c2 none 0 (pr0 ws)) 77)) = w3 at B3 Q3 KR hg0 ⊢
    clear z0 z1 z2 z3 z4 z5 z6 z7 z8 zf0 zf1 zf2 zf3 zf4 zf5 zf6 zf7 zf8 HO
    generalize hg : w2.heap.size = g at KR hg0 ⊢
    have hwg : w.heap.size < g := by omega
    clear hg Q2 B2
    go_wp2_with fail
    refine KR.out.mono ?_
    rintro e w4 ⟨rfl, ⟨A1, c1, A2', c2', A3, c3, hm4⟩, hb4⟩
    have M4 := Lib.hid hm4
    have Q4 := Lib.hid (Blk.below Q3.out hb4 hwg)
    have B4 := Lib.hid (B3.out.trans (hb4.mono (Nat.le_of_lt hwg)))
    clear hm4 hb4 KR Q3 B3
    have hl4 := Blk.lt Q4.out
    have hg4 := Blk.lt M4.out.blk
    have n1 : ¬ w.heap.size = g := by omega
    have n2 : ¬ g = w.heap.size := by omega
    cases b with
    | false =>
      have HZ : Hid (T = (pol0, z.wl, z.wc, z.we)) := Lib.hid HT2.out
      have d12 : w4.cell? ⟨g, 12, none⟩ = some (.int .i64 z.wl) := Blk.cell M4.out.blk 12
      have d13 : w4.cell? ⟨g, 13, none⟩ = some (.int .i64 z.wc) := Blk.cell M4.out.blk 13
      have d14 : w4.cell? ⟨g, 14, none⟩ = some (.int .i64 z.we) := Blk.cell M4.out.blk 14
      have z0 : w4.cell? ⟨w.heap.size, 0, none⟩ = some (.int .i64 0) := Blk.cell Q4.out 0
      have zf0 : w4.frozen? ⟨w.heap.size, 0, none⟩ = false := Blk.free Q4.out 0
      have z1 : w4.cell? ⟨w.heap.size, 1, none⟩ = some (.int .i64 0) := Blk.cell Q4.out 1
      have zf1 : w4.frozen? ⟨w.heap.size, 1, none⟩ = false := Blk.free Q4.out 1
      have z2 : w4.cell? ⟨w.heap.size, 2, none⟩ = some (.int .i64 0) := Blk.cell Q4.out 2
      have zf2 : w4.frozen? ⟨w.heap.size, 2, none⟩ = false := Blk.free Q4.out 2
      have z3 : w4.cell? ⟨w.heap.size, 3, none⟩ = some (.int .i64 0) := Blk.cell Q4.out 3
      have zf3 : w4.frozen? ⟨w.heap.size, 3, none⟩ = false := Blk.free Q4.out 3
      have z4 : w4.cell? ⟨w.heap.size, 4, none⟩ = some (.int .i64 0) := Blk.cell Q4.out 4
      have zf4 : w4.frozen? ⟨w.heap.size, 4, none⟩ = false := Blk.free Q4.out 4
      have z5 : w4.cell? ⟨w.heap.size, 5, none⟩ = some (.slice none 0 0) := Blk.cell Q4.out 5
      have zf5 : w4.frozen? ⟨w.heap.size, 5, none⟩ = false := Blk.free Q4.out 5
      have z6 : w4.cell? ⟨w.heap.size, 6, none⟩ = some (.int .i64 0) := Blk.cell Q4.out 6
      have zf6 : w4.frozen? ⟨w.heap.size, 6, none⟩ = false := Blk.free Q4.out 6
      have z7 : w4.cell? ⟨w.heap.size, 7, none⟩ = some (.int .i64 0) := Blk.cell Q4.out 7
      have zf7 : w4.frozen? ⟨w.heap.size, 7, none⟩ = false := Blk.free Q4.out 7
      have z8 : w4.cell? ⟨w.heap.size, 8, none⟩ = some (.bool false) := Blk.cell Q4.out 8
      have zf8 : w4.frozen? ⟨w.heap.size, 8, none⟩ = false := Blk.free Q4.out 8
      clear HT2 HRI
      go_wp2_with fail
      go_region
      go_wp2_with fail
      refine bodyPost_row4 Tryz.results16 w.heap.size _ _ _ _ (.int .i64 z.wl) (.int .i64 z.wc) (.int .i64 z.we) ?d1 ?p1 ?s1 ?u1 ?t1 (Blk.drew (blk9 Q4.out (.int .i64 0) (.int .i64 0) (.int .i64 0) (.int .i64 0) (.int .i64 0) (.slice none 0 0) (.int .i64 0) (.int .i64 0) (.bool false))) Tryz.underlying25 rfl goal_size ?_
      case d1 => rfl
      case p1 => rfl
      case s1 => rfl
      case u1 => rfl
      case t1 => rfl
      rw [HZ.out]
      exact ⟨none, 0, rfl, World.ownsRow_nil _ _ _ _, (below9 B4.out (Nat.le_refl _) _ _ _ _ _ _ _ _ _).drew⟩
    | true =>
      have HT3 : Hid (T = if checkG z.goal = 0 then (z.goal, 0, 0, 0) else (pol0, 0, 0, checkG z.goal)) := Lib.hid HT2.out
      have HN := Lib.hid (HRI.out z rfl)
      have NA : Hid (NamesAt w4 A3 c3 z.goal.drain) := Lib.hid ⟨fun j y hj => Sc.own_slat M4.out.own j y hj, (Sc.own_cap M4.out.own).1, (Sc.own_cap M4.out.own).2, fun x hx => by have := HN.out x hx; omega⟩
      have KC := Lib.hid (gcheck_any z.goal A3 c3 w4 NA.out)
      have g3 : w4.cell? ⟨g, 3, none⟩ = some (.int .i64 z.goal.l0) := Blk.cell M4.out.blk 3
      have g4 : w4.cell? ⟨g, 4, none⟩ = some (.int .i64 z.goal.l1) := Blk.cell M4.out.blk 4
      have g5 : w4.cell? ⟨g, 5, none⟩ = some (.int .i64 z.goal.h0) := Blk.cell M4.out.blk 5
      have g6 : w4.cell? ⟨g, 6, none⟩ = some (.int .i64 z.goal.h1) := Blk.cell M4.out.blk 6
      have g7 : w4.cell? ⟨g, 7, none⟩ = some (.int .i64 z.goal.on) := Blk.cell M4.out.blk 7
      have g8 : w4.cell? ⟨g, 8, none⟩ = some (.slice A3 z.goal.drain.length c3) := Blk.cell M4.out.blk 8
      have g9 : w4.cell? ⟨g, 9, none⟩ = some (.int .i64 z.goal.mx) := Blk.cell M4.out.blk 9
      have g10 : w4.cell? ⟨g, 10, none⟩ = some (.int .i64 z.goal.tr) := Blk.cell M4.out.blk 10
      have g11 : w4.cell? ⟨g, 11, none⟩ = some (.bool z.goal.rb) := Blk.cell M4.out.blk 11
      clear HT2 HRI HN NA
      generalize checkG z.goal = cg at KC HT3
      go_wp2_with fail
      refine KC.out.mono ?_
      rintro e w5 ⟨rfl, hb5⟩
      have M5 := Lib.hid (M4.out.below hb5)
      have Q5 := Lib.hid (Blk.below Q4.out hb5 hl4)
      have B5 := Lib.hid (B4.out.trans (hb5.mono (Nat.le_of_lt hl4)))
      clear hb5 KC g3 g4 g5 g6 g7 g8 g9 g10 g11 M4 Q4 B4
      have z0 : w5.cell? ⟨w.heap.size, 0, none⟩ = some (.int .i64 0) := Blk.cell Q5.out 0
      have zf0 : w5.frozen? ⟨w.heap.size, 0, none⟩ = false := Blk.free Q5.out 0
      have z1 : w5.cell? ⟨w.heap.size, 1, none⟩ = some (.int .i64 0) := Blk.cell Q5.out 1
      have zf1 : w5.frozen? ⟨w.heap.size, 1, none⟩ = false := Blk.free Q5.out 1
      have z2 : w5.cell? ⟨w.heap.size, 2, none⟩ = some (.int .i64 0) := Blk.cell Q5.out 2
      have zf2 : w5.frozen? ⟨w.heap.size, 2, none⟩ = false := Blk.free Q5.out 2
      have z3 : w5.cell? ⟨w.heap.size, 3, none⟩ = some (.int .i64 0) := Blk.cell Q5.out 3
      have zf3 : w5.frozen? ⟨w.heap.size, 3, none⟩ = false := Blk.free Q5.out 3
      have z4 : w5.cell? ⟨w.heap.size, 4, none⟩ = some (.int .i64 0) := Blk.cell Q5.out 4
      have zf4 : w5.frozen? ⟨w.heap.size, 4, none⟩ = false := Blk.free Q5.out 4
      have z5 : w5.cell? ⟨w.heap.size, 5, none⟩ = some (.slice none 0 0) := Blk.cell Q5.out 5
      have zf5 : w5.frozen? ⟨w.heap.size, 5, none⟩ = false := Blk.free Q5.out 5
      have z6 : w5.cell? ⟨w.heap.size, 6, none⟩ = some (.int .i64 0) := Blk.cell Q5.out 6
      have zf6 : w5.frozen? ⟨w.heap.size, 6, none⟩ = false := Blk.free Q5.out 6
      have z7 : w5.cell? ⟨w.heap.size, 7, none⟩ = some (.int .i64 0) := Blk.cell Q5.out 7
      have zf7 : w5.frozen? ⟨w.heap.size, 7, none⟩ = false := Blk.free Q5.out 7
      have z8 : w5.cell? ⟨w.heap.size, 8, none⟩ = some (.bool false) := Blk.cell Q5.out 8
      have zf8 : w5.frozen? ⟨w.heap.size, 8, none⟩ = false := Blk.free Q5.out 8
      have g3 : w5.cell? ⟨g, 3, none⟩ = some (.int .i64 z.goal.l0) := Blk.cell M5.out.blk 3
      have g4 : w5.cell? ⟨g, 4, none⟩ = some (.int .i64 z.goal.l1) := Blk.cell M5.out.blk 4
      have g5 : w5.cell? ⟨g, 5, none⟩ = some (.int .i64 z.goal.h0) := Blk.cell M5.out.blk 5
      have g6 : w5.cell? ⟨g, 6, none⟩ = some (.int .i64 z.goal.h1) := Blk.cell M5.out.blk 6
      have g7 : w5.cell? ⟨g, 7, none⟩ = some (.int .i64 z.goal.on) := Blk.cell M5.out.blk 7
      have g8 : w5.cell? ⟨g, 8, none⟩ = some (.slice A3 z.goal.drain.length c3) := Blk.cell M5.out.blk 8
      have g9 : w5.cell? ⟨g, 9, none⟩ = some (.int .i64 z.goal.mx) := Blk.cell M5.out.blk 9
      have g10 : w5.cell? ⟨g, 10, none⟩ = some (.int .i64 z.goal.tr) := Blk.cell M5.out.blk 10
      have g11 : w5.cell? ⟨g, 11, none⟩ = some (.bool z.goal.rb) := Blk.cell M5.out.blk 11
      by_cases hz : cg = 0
      · subst hz
        have HZ : Hid (T = (z.goal, 0, 0, 0)) := Lib.hid (by rw [HT3.out]; simp)
        clear HT3
        go_wp2_with fail
        refine bodyPost_row4 Tryz.results16 w.heap.size _ _ _ _ (.int .i64 0) (.int .i64 0) (.int .i64 0) ?d1 ?p1 ?s1 ?u1 ?t1 (blk9 Q5.out (.int .i64 z.goal.l0) (.int .i64 z.goal.l1) (.int .i64 z.goal.h0) (.int .i64 z.goal.h1) (.int .i64 z.goal.on) (.slice A3 z.goal.drain.length c3) (.int .i64 z.goal.mx) (.int .i64 z.goal.tr) (.bool z.goal.rb)) Tryz.underlying25 rfl goal_size ?_
        case d1 => rfl
        case p1 => rfl
        case s1 => rfl
        case u1 => rfl
        case t1 => rfl
        rw [HZ.out]
        refine ⟨A3, c3, rfl, ?_, below9 B5.out (Nat.le_refl _) _ _ _ _ _ _ _ _ _⟩
        exact own_base ((keep9 w5 w.heap.size _ _ _ _ _ _ _ _ _).own M5.out.own (Nat.lt_succ_of_lt hwg)) (Nat.le_succ_of_le (Nat.le_of_lt hwg))
      · have HZ : Hid (T = (pol0, 0, 0, cg)) := Lib.hid (by rw [HT3.out, if_neg hz])
        have e1 : decide (cg = 0) = false := by simpa using hz
        have e2 : (cg == 0) = false := by simpa using hz
        clear HT3 hz g3 g4 g5 g6 g7 g8 g9 g10 g11
        go_wp2_with fail
        refine bodyPost_row4 Tryz.results16 w.heap.size _ _ _ _ (.int .i64 0) (.int .i64 0) (.int .i64 cg) ?d1 ?p1 ?s1 ?u1 ?t1 (blk9 Q5.out (.int .i64 0) (.int .i64 0) (.int .i64 0) (.int .i64 0) (.int .i64 0) (.slice none 0 0) (.int .i64 0) (.int .i64 0) (.bool false)) Tryz.underlying25 rfl goal_size ?_
        case d1 => rfl
        case p1 => rfl
        case s1 => rfl
        case u1 => rfl
        case t1 => rfl
        rw [HZ.out]
        exact ⟨none, 0, rfl, World.ownsRow_nil _ _ _ _, below9 B5.out (Nat.le_refl _) _ _ _ _ _ _ _ _ _⟩
  · have HZ : Hid (T = (pol0, (wl : Int), (wc : Int), we)) := Lib.hid (by rw [← HT.out, if_pos h0])
    have e1 : decide (we = 0) = false := by simpa using h0
    have e2 : (we == 0) = false := by simpa using h0
    clear HT hfew h0
    go_wp2_with fail
    refine bodyPost_row4 Tryz.results16 w.heap.size _ _ _ _ (.int .i64 (wl : Int)) (.int .i64 (wc : Int)) (.int .i64 we) ?d1 ?p1 ?s1 ?u1 ?t1 (blk9 Q2.out (.int .i64 0) (.int .i64 0) (.int .i64 0) (.int .i64 0) (.int .i64 0) (.slice none 0 0) (.int .i64 0) (.int .i64 0) (.bool false)) Tryz.underlying25 rfl goal_size ?_
    case d1 => rfl
    case p1 => rfl
    case s1 => rfl
    case u1 => rfl
    case t1 => rfl
    rw [HZ.out]
    exact ⟨none, 0, rfl, World.ownsRow_nil _ _ _ _, below9 B2.out (Nat.le_refl _) _ _ _ _ _ _ _ _ _⟩
end Go.Proofs.YthbplchbolghjaaGreatDoor
