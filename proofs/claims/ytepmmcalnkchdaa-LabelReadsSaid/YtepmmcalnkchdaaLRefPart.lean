/- What the document's reader of a part answers, as a plain function. Condition: a text that can lie in memory. -/
import Derived.Test.YtepmmcalnkchdaaLRefRun
import Derived.Test.YtepmmcalnkchdaaLTerm
namespace Go.Proofs.Ytepmmcalnkchdaa
open Go.RowKit

/-- A term that stands at a byte, where it ends; where it is wrong, and how. -/
def partF (lab star : Bool) (l : List UInt8) (a : Nat) : (Int × List UInt8 × List UInt8) × Nat × Int :=
  if signL l a 33 = true ∧ lab = false then ((4, (runF true l (a + 1)).1, []), (runF true l (a + 1)).2.1, (runF true l (a + 1)).2.2) else
  if (runF true l a).2.2 ≠ 0 then ((0, [], []), (runF true l a).2.1, (runF true l a).2.2) else
  let k := (runF true l a).1
  let b := (runF true l a).2.1
  let val (kd : Int) (z : Nat) : (Int × List UInt8 × List UInt8) × Nat × Int := if star = true ∧ signL l z 42 = true then ((kd, k, [42]), z + 1, 0) else ((kd, k, (runF false l z).1), (runF false l z).2.1, (runF false l z).2.2)
  if signL l b 33 = true ∧ lab = false then (if b + 1 = l.length then ((0, [], []), b + 1, 3) else if signL l (b + 1) 61 = false then ((0, [], []), b + 1, 4) else val 2 (b + 2)) else
  if signL l b 61 = true then val 1 (b + 1) else
  if lab = true ∧ b = l.length then ((0, [], []), b, 3) else if lab = true then ((0, [], []), b, 4) else ((3, k, []), b, 0)

/-- What the document's reader of a part leaves. -/
def PartTo (w : World) (x : (Int × List UInt8 × List UInt8) × Nat × Int) (e : Ending) (w' : World) : Prop := e = .returned (.tuple #[terV x.1, .int .i64 (x.2.1 : Int), .int .i64 x.2.2]) ∧ Below w.heap.size w w'

theorem results_row3 {P : Program} {fn : Func} {p s u : Tmp} {ty : TypeId} (h : fn.results = #[.cell p ty, .tmp s, .tmp u]) (tmps : Array Value) (w : World) (g : Nat) (t : TypeId) (cs : Array Value) (fr : Nat × Nat) (d : TypeDesc) (v v2 : Value)
    (hp : tmps.getD p undef = .pointer (some ⟨g, 0, none⟩)) (hs : tmps.getD s undef = v) (hu2 : tmps.getD u undef = v2) (hg : w.heap[g]? = some (.cells cs t fr))
    (hu : P.underlying ty = some d) (hd : (match d with | .struct _ | .array _ _ => true | _ => false) = true) (hi : (P.info? ty).map (·.size) = some cs.size) :
    (results fn tmps).run P w = .ok (.tuple #[.agg cs, v, v2]) w := by
  have hp' : tmps[p]?.getD undef = .pointer (some ⟨g, 0, none⟩) := by simpa using hp
  have hs' : tmps[s]?.getD undef = v := by simpa using hs
  have hu' : tmps[u]?.getD undef = v2 := by simpa using hu2
  simp [results, h, hp', hs', hu', asAddr, run_loadVar_row w g t ty cs fr d hg hu hd hi]
theorem bodyPost_row3 {P : Program} {fn : Func} {p s u : Tmp} {ty : TypeId} {R : Ending → World → Prop} {a : Act} {w : World} (h : fn.results = #[.cell p ty, .tmp s, .tmp u]) (g : Nat) (t : TypeId) (cs : Array Value) (fr : Nat × Nat) (d : TypeDesc) (v v2 : Value)
    (hd0 : a.defers = []) (hp : a.tmps.getD p undef = .pointer (some ⟨g, 0, none⟩)) (hs : a.tmps.getD s undef = v) (hu2 : a.tmps.getD u undef = v2) (hg : w.heap[g]? = some (.cells cs t fr))
    (hu : P.underlying ty = some d) (hd : (match d with | .struct _ | .array _ _ => true | _ => false) = true) (hi : (P.info? ty).map (·.size) = some cs.size)
    (hR : R (.returned (.tuple #[.agg cs, v, v2])) w) : bodyPost P fn R .ret a w :=
  bodyPost_ret (results_row3 h a.tmps w g t cs fr d v v2 hp hs hu2 hg hu hd hi) hd0 hR

theorem runF_le (nm : Bool) (l : List UInt8) (a : Nat) (ha : a ≤ l.length) : (runF nm l a).2.1 ≤ l.length := by
  have h := word_le (if nm = true then okName else okVal) l a ha
  unfold runF
  by_cases h1 : wordL (if nm = true then okName else okVal) l a = 0 ∧ a = l.length
  · rw [if_pos h1]; exact ha
  · rw [if_neg h1]
    by_cases h2 : wordL (if nm = true then okName else okVal) l a = 0 ∨ insAt l (a + wordL (if nm = true then okName else okVal) l a) = true
    · rw [if_pos h2]; exact h
    · rw [if_neg h2]; exact h

set_option maxRecDepth 100000 in
set_option maxHeartbeats 2000000 in
theorem part_lacks (star : Bool) (l : List UInt8) (a : Nat) (w : World) (hl : l.length ≤ 300) (ha : a ≤ l.length) (hs : signL l a 33 = true) (r : List UInt8 × Nat × Int) (hr : runF true l (a + 1) = r) :
    Calls Try.prog 67 #[strV l, .int .i64 (a : Int), .bool false, .bool star] w (PartTo w ((4, r.1, []), r.2.1, r.2.2)) := by
  have HB := Lib.hid (below1 w (.cells zt 43))
  have ha1 := sign_lt hs
  have S1 := Lib.hid (fun w => rsign_any l a 33 w hl (by omega))
  rw [hs] at S1
  have R1 := Lib.hid (fun w => run_any true l (a + 1) w hl ha1)
  rw [hr] at R1
  obtain ⟨rw, rb, re⟩ := r
  clear hs hr
  go_enter Try.func67, Try.ntmps67
  go_wp2_with fail
  refine (S1.out _).mono ?_
  rintro e w1 ⟨rfl, rfl⟩
  go_wp2_with fail
  refine (R1.out _).mono ?_
  rintro e w1 ⟨rfl, rfl⟩
  go_wp2
  refine bodyPost_row3 Try.results67 w.heap.size _ _ _ _ (.int .i64 (rb : Int)) (.int .i64 re) ?d1 ?p1 ?s1 ?u1 (Blk.new w _ _) Try.underlying43 rfl term_size ?_
  case d1 => rfl
  case p1 => rfl
  case s1 => rfl
  case u1 => rfl
  exact ⟨rfl, (below1 w _)⟩

set_option maxRecDepth 100000 in
set_option maxHeartbeats 2000000 in
theorem part_noname_false (star : Bool) (l : List UInt8) (a : Nat) (w : World) (hl : l.length ≤ 300) (ha : a ≤ l.length) (hs : signL l a 33 = false) (k : List UInt8) (b : Nat) (re : Int) (hr : runF true l a = (k, b, re)) (h0 : re ≠ 0) :
    Calls Try.prog 67 #[strV l, .int .i64 (a : Int), .bool false, .bool star] w (PartTo w ((0, [], []), b, re)) := by
  have HB := Lib.hid (below1 w (.cells zt 43))
  have S1 := Lib.hid (fun w => rsign_any l a 33 w hl (by omega))
  rw [hs] at S1
  have R1 := Lib.hid (fun w => run_any true l a w hl ha)
  rw [hr] at R1
  have hre : (re != 0) = true := by simpa using h0
  have H0 := Lib.hid h0
  clear hs hr h0
  go_enter Try.func67, Try.ntmps67
  go_wp2_with fail
  refine (S1.out _).mono ?_
  rintro e w1 ⟨rfl, rfl⟩
  go_wp2_with fail
  refine (R1.out _).mono ?_
  rintro e w1 ⟨rfl, rfl⟩
  go_wp2
  refine bodyPost_row3 Try.results67 w.heap.size _ _ _ _ (.int .i64 (b : Int)) (.int .i64 re) ?d1 ?p1 ?s1 ?u1 (Blk.new w _ _) Try.underlying43 rfl term_size ?_
  case d1 => rfl
  case p1 => rfl
  case s1 => rfl
  case u1 => rfl
  exact ⟨rfl, (below1 w _)⟩

set_option maxRecDepth 100000 in
set_option maxHeartbeats 2000000 in
theorem part_not_end (star : Bool) (l : List UInt8) (a : Nat) (w : World) (hl : l.length ≤ 300) (ha : a ≤ l.length) (hs : signL l a 33 = false) (k : List UInt8) (b : Nat) (hr : runF true l a = (k, b, 0)) (hb : b ≤ l.length) (h3 : signL l b 33 = true) (he : b + 1 = l.length) :
    Calls Try.prog 67 #[strV l, .int .i64 (a : Int), .bool false, .bool star] w (PartTo w ((0, [], []), b + 1, 3)) := by
  have HB := Lib.hid (below1 w (.cells zt 43))
  have S1 := Lib.hid (fun w => rsign_any l a 33 w hl (by omega))
  rw [hs] at S1
  have R1 := Lib.hid (fun w => run_any true l a w hl ha)
  rw [hr] at R1
  have S2 := Lib.hid (fun w => rsign_any l (b) 33 w hl (by omega))
  rw [h3] at S2
  have heb : ((b : Int) + 1 == (l.length : Int)) = true := by simp; omega
  have He := Lib.hid he
  clear hs hr h3 he
  go_enter Try.func67, Try.ntmps67
  go_wp2_with fail
  refine (S1.out _).mono ?_
  rintro e w1 ⟨rfl, rfl⟩
  go_wp2_with fail
  refine (R1.out _).mono ?_
  rintro e w1 ⟨rfl, rfl⟩
  go_wp2_with fail
  refine (S2.out _).mono ?_
  rintro e w1 ⟨rfl, rfl⟩
  go_wp2
  refine bodyPost_row3 Try.results67 w.heap.size _ _ _ _ (.int .i64 ((b : Int) + 1)) (.int .i64 3) ?d1 ?p1 ?s1 ?u1 (Blk.alloc (Blk.new w _ _) _) Try.underlying43 rfl term_size ?_
  case d1 => rfl
  case p1 => rfl
  case s1 => rfl
  case u1 => rfl
  exact ⟨rfl, (((Below.refl w.heap.size w).alloc (Nat.le_refl _) _).alloc (by simp) _)⟩

set_option maxRecDepth 100000 in
set_option maxHeartbeats 2000000 in
theorem part_not_form (star : Bool) (l : List UInt8) (a : Nat) (w : World) (hl : l.length ≤ 300) (ha : a ≤ l.length) (hs : signL l a 33 = false) (k : List UInt8) (b : Nat) (hr : runF true l a = (k, b, 0)) (hb : b ≤ l.length) (h3 : signL l b 33 = true) (he : b + 1 ≠ l.length) (h6 : signL l (b + 1) 61 = false) :
    Calls Try.prog 67 #[strV l, .int .i64 (a : Int), .bool false, .bool star] w (PartTo w ((0, [], []), b + 1, 4)) := by
  have HB := Lib.hid (below1 w (.cells zt 43))
  have S1 := Lib.hid (fun w => rsign_any l a 33 w hl (by omega))
  rw [hs] at S1
  have R1 := Lib.hid (fun w => run_any true l a w hl ha)
  rw [hr] at R1
  have S2 := Lib.hid (fun w => rsign_any l (b) 33 w hl (by omega))
  rw [h3] at S2
  have S3 := Lib.hid (fun w => rsign_any l (b + 1) 61 w hl (by omega))
  rw [h6] at S3
  have heb : ((b : Int) + 1 == (l.length : Int)) = false := by simp; omega
  have He := Lib.hid he
  clear hs hr h3 h6 he
  go_enter Try.func67, Try.ntmps67
  go_wp2_with fail
  refine (S1.out _).mono ?_
  rintro e w1 ⟨rfl, rfl⟩
  go_wp2_with fail
  refine (R1.out _).mono ?_
  rintro e w1 ⟨rfl, rfl⟩
  go_wp2_with fail
  refine (S2.out _).mono ?_
  rintro e w1 ⟨rfl, rfl⟩
  go_wp2_with fail
  refine (S3.out _).mono ?_
  rintro e w1 ⟨rfl, rfl⟩
  go_wp2
  refine bodyPost_row3 Try.results67 w.heap.size _ _ _ _ (.int .i64 ((b : Int) + 1)) (.int .i64 4) ?d1 ?p1 ?s1 ?u1 (Blk.alloc (Blk.new w _ _) _) Try.underlying43 rfl term_size ?_
  case d1 => rfl
  case p1 => rfl
  case s1 => rfl
  case u1 => rfl
  exact ⟨rfl, (((Below.refl w.heap.size w).alloc (Nat.le_refl _) _).alloc (by simp) _)⟩

set_option maxRecDepth 100000 in
set_option maxHeartbeats 2000000 in
theorem part_has (star : Bool) (l : List UInt8) (a : Nat) (w : World) (hl : l.length ≤ 300) (ha : a ≤ l.length) (hs : signL l a 33 = false) (k : List UInt8) (b : Nat) (hr : runF true l a = (k, b, 0)) (hb : b ≤ l.length) (h3 : signL l b 33 = false) (h6 : signL l b 61 = false) :
    Calls Try.prog 67 #[strV l, .int .i64 (a : Int), .bool false, .bool star] w (PartTo w ((3, k, []), b, 0)) := by
  have HB := Lib.hid (below1 w (.cells zt 43))
  have S1 := Lib.hid (fun w => rsign_any l a 33 w hl (by omega))
  rw [hs] at S1
  have R1 := Lib.hid (fun w => run_any true l a w hl ha)
  rw [hr] at R1
  have S2 := Lib.hid (fun w => rsign_any l (b) 33 w hl (by omega))
  rw [h3] at S2
  have S3 := Lib.hid (fun w => rsign_any l (b) 61 w hl (by omega))
  rw [h6] at S3
  clear hs hr h3 h6
  go_enter Try.func67, Try.ntmps67
  go_wp2_with fail
  refine (S1.out _).mono ?_
  rintro e w1 ⟨rfl, rfl⟩
  go_wp2_with fail
  refine (R1.out _).mono ?_
  rintro e w1 ⟨rfl, rfl⟩
  go_wp2_with fail
  refine (S2.out _).mono ?_
  rintro e w1 ⟨rfl, rfl⟩
  go_wp2_with fail
  refine (S3.out _).mono ?_
  rintro e w1 ⟨rfl, rfl⟩
  go_wp2
  refine bodyPost_row3 Try.results67 w.heap.size _ _ _ _ (.int .i64 (b : Int)) (.int .i64 0) ?d1 ?p1 ?s1 ?u1 (Blk.alloc (Blk.new w _ _) _) Try.underlying43 rfl term_size ?_
  case d1 => rfl
  case p1 => rfl
  case s1 => rfl
  case u1 => rfl
  exact ⟨rfl, (((Below.refl w.heap.size w).alloc (Nat.le_refl _) _).alloc (by simp) _)⟩

set_option maxRecDepth 100000 in
set_option maxHeartbeats 2000000 in
theorem part_not_any (l : List UInt8) (a : Nat) (w : World) (hl : l.length ≤ 300) (ha : a ≤ l.length) (hs : signL l a 33 = false) (k : List UInt8) (b : Nat) (hr : runF true l a = (k, b, 0)) (hb : b ≤ l.length) (h3 : signL l b 33 = true) (he : b + 1 ≠ l.length) (h6 : signL l (b + 1) 61 = true) (h4 : signL l (b + 2) 42 = true) :
    Calls Try.prog 67 #[strV l, .int .i64 (a : Int), .bool false, .bool true] w (PartTo w ((2, k, [42]), b + 2 + 1, 0)) := by
  have HB := Lib.hid (below1 w (.cells zt 43))
  have S1 := Lib.hid (fun w => rsign_any l a 33 w hl (by omega))
  rw [hs] at S1
  have R1 := Lib.hid (fun w => run_any true l a w hl ha)
  rw [hr] at R1
  have S2 := Lib.hid (fun w => rsign_any l (b) 33 w hl (by omega))
  rw [h3] at S2
  have S3 := Lib.hid (fun w => rsign_any l (b + 1) 61 w hl (by omega))
  rw [h6] at S3
  have heb : ((b : Int) + 1 == (l.length : Int)) = false := by simp; omega
  have hz : b + 2 ≤ l.length := sign_lt h6
  have He := Lib.hid he
  clear h3 h6 he
  have S4 := Lib.hid (fun w => rsign_any l (b + 2) 42 w hl (by omega))
  rw [h4] at S4
  clear hs hr h4
  go_enter Try.func67, Try.ntmps67
  go_wp2_with fail
  refine (S1.out _).mono ?_
  rintro e w1 ⟨rfl, rfl⟩
  go_wp2_with fail
  refine (R1.out _).mono ?_
  rintro e w1 ⟨rfl, rfl⟩
  go_wp2_with fail
  refine (S2.out _).mono ?_
  rintro e w1 ⟨rfl, rfl⟩
  go_wp2_with fail
  refine (S3.out _).mono ?_
  rintro e w1 ⟨rfl, rfl⟩
  go_wp2_with fail
  refine (S4.out _).mono ?_
  rintro e w1 ⟨rfl, rfl⟩
  go_wp2
  refine bodyPost_row3 Try.results67 w.heap.size _ _ _ _ (.int .i64 (((b + 2 + 1 : Nat)) : Int)) (.int .i64 0) ?d1 ?p1 ?s1 ?u1 (Blk.alloc (Blk.new w _ _) _) Try.underlying43 rfl term_size ?_
  case d1 => rfl
  case p1 => rfl
  case s1 => rfl
  case u1 => rfl
  exact ⟨rfl, (((Below.refl w.heap.size w).alloc (Nat.le_refl _) _).alloc (by simp) _)⟩

set_option maxRecDepth 100000 in
set_option maxHeartbeats 2000000 in
theorem part_not_star (l : List UInt8) (a : Nat) (w : World) (hl : l.length ≤ 300) (ha : a ≤ l.length) (hs : signL l a 33 = false) (k : List UInt8) (b : Nat) (hr : runF true l a = (k, b, 0)) (hb : b ≤ l.length) (h3 : signL l b 33 = true) (he : b + 1 ≠ l.length) (h6 : signL l (b + 1) 61 = true) (h4 : signL l (b + 2) 42 = false) (v : List UInt8 × Nat × Int) (hv : runF false l (b + 2) = v) :
    Calls Try.prog 67 #[strV l, .int .i64 (a : Int), .bool false, .bool true] w (PartTo w ((2, k, v.1), v.2.1, v.2.2)) := by
  have HB := Lib.hid (below1 w (.cells zt 43))
  have S1 := Lib.hid (fun w => rsign_any l a 33 w hl (by omega))
  rw [hs] at S1
  have R1 := Lib.hid (fun w => run_any true l a w hl ha)
  rw [hr] at R1
  have S2 := Lib.hid (fun w => rsign_any l (b) 33 w hl (by omega))
  rw [h3] at S2
  have S3 := Lib.hid (fun w => rsign_any l (b + 1) 61 w hl (by omega))
  rw [h6] at S3
  have heb : ((b : Int) + 1 == (l.length : Int)) = false := by simp; omega
  have hz : b + 2 ≤ l.length := sign_lt h6
  have He := Lib.hid he
  clear h3 h6 he
  have S4 := Lib.hid (fun w => rsign_any l (b + 2) 42 w hl (by omega))
  rw [h4] at S4
  have R2 := Lib.hid (fun w => run_any false l (b + 2) w hl hz)
  rw [hv] at R2
  obtain ⟨vw, vb, ve⟩ := v
  clear hs hr h4 hv
  go_enter Try.func67, Try.ntmps67
  go_wp2_with fail
  refine (S1.out _).mono ?_
  rintro e w1 ⟨rfl, rfl⟩
  go_wp2_with fail
  refine (R1.out _).mono ?_
  rintro e w1 ⟨rfl, rfl⟩
  go_wp2_with fail
  refine (S2.out _).mono ?_
  rintro e w1 ⟨rfl, rfl⟩
  go_wp2_with fail
  refine (S3.out _).mono ?_
  rintro e w1 ⟨rfl, rfl⟩
  go_wp2_with fail
  refine (S4.out _).mono ?_
  rintro e w1 ⟨rfl, rfl⟩
  go_wp2_with fail
  refine (R2.out _).mono ?_
  rintro e w1 ⟨rfl, rfl⟩
  go_wp2
  refine bodyPost_row3 Try.results67 w.heap.size _ _ _ _ (.int .i64 (vb : Int)) (.int .i64 ve) ?d1 ?p1 ?s1 ?u1 (Blk.alloc (Blk.new w _ _) _) Try.underlying43 rfl term_size ?_
  case d1 => rfl
  case p1 => rfl
  case s1 => rfl
  case u1 => rfl
  exact ⟨rfl, (((Below.refl w.heap.size w).alloc (Nat.le_refl _) _).alloc (by simp) _)⟩

set_option maxRecDepth 100000 in
set_option maxHeartbeats 2000000 in
theorem part_not_plain (l : List UInt8) (a : Nat) (w : World) (hl : l.length ≤ 300) (ha : a ≤ l.length) (hs : signL l a 33 = false) (k : List UInt8) (b : Nat) (hr : runF true l a = (k, b, 0)) (hb : b ≤ l.length) (h3 : signL l b 33 = true) (he : b + 1 ≠ l.length) (h6 : signL l (b + 1) 61 = true) (v : List UInt8 × Nat × Int) (hv : runF false l (b + 2) = v) :
    Calls Try.prog 67 #[strV l, .int .i64 (a : Int), .bool false, .bool false] w (PartTo w ((2, k, v.1), v.2.1, v.2.2)) := by
  have HB := Lib.hid (below1 w (.cells zt 43))
  have S1 := Lib.hid (fun w => rsign_any l a 33 w hl (by omega))
  rw [hs] at S1
  have R1 := Lib.hid (fun w => run_any true l a w hl ha)
  rw [hr] at R1
  have S2 := Lib.hid (fun w => rsign_any l (b) 33 w hl (by omega))
  rw [h3] at S2
  have S3 := Lib.hid (fun w => rsign_any l (b + 1) 61 w hl (by omega))
  rw [h6] at S3
  have heb : ((b : Int) + 1 == (l.length : Int)) = false := by simp; omega
  have hz : b + 2 ≤ l.length := sign_lt h6
  have He := Lib.hid he
  clear h3 h6 he
  have R2 := Lib.hid (fun w => run_any false l (b + 2) w hl hz)
  rw [hv] at R2
  obtain ⟨vw, vb, ve⟩ := v
  clear hs hr hv
  go_enter Try.func67, Try.ntmps67
  go_wp2_with fail
  refine (S1.out _).mono ?_
  rintro e w1 ⟨rfl, rfl⟩
  go_wp2_with fail
  refine (R1.out _).mono ?_
  rintro e w1 ⟨rfl, rfl⟩
  go_wp2_with fail
  refine (S2.out _).mono ?_
  rintro e w1 ⟨rfl, rfl⟩
  go_wp2_with fail
  refine (S3.out _).mono ?_
  rintro e w1 ⟨rfl, rfl⟩
  go_wp2_with fail
  refine (R2.out _).mono ?_
  rintro e w1 ⟨rfl, rfl⟩
  go_wp2
  refine bodyPost_row3 Try.results67 w.heap.size _ _ _ _ (.int .i64 (vb : Int)) (.int .i64 ve) ?d1 ?p1 ?s1 ?u1 (Blk.alloc (Blk.new w _ _) _) Try.underlying43 rfl term_size ?_
  case d1 => rfl
  case p1 => rfl
  case s1 => rfl
  case u1 => rfl
  exact ⟨rfl, (((Below.refl w.heap.size w).alloc (Nat.le_refl _) _).alloc (by simp) _)⟩

set_option maxRecDepth 100000 in
set_option maxHeartbeats 2000000 in
theorem part_is_any (l : List UInt8) (a : Nat) (w : World) (hl : l.length ≤ 300) (ha : a ≤ l.length) (hs : signL l a 33 = false) (k : List UInt8) (b : Nat) (hr : runF true l a = (k, b, 0)) (hb : b ≤ l.length) (h3 : signL l b 33 = false) (h6 : signL l b 61 = true) (h4 : signL l (b + 1) 42 = true) :
    Calls Try.prog 67 #[strV l, .int .i64 (a : Int), .bool false, .bool true] w (PartTo w ((1, k, [42]), b + 1 + 1, 0)) := by
  have HB := Lib.hid (below1 w (.cells zt 43))
  have S1 := Lib.hid (fun w => rsign_any l a 33 w hl (by omega))
  rw [hs] at S1
  have R1 := Lib.hid (fun w => run_any true l a w hl ha)
  rw [hr] at R1
  have S2 := Lib.hid (fun w => rsign_any l (b) 33 w hl (by omega))
  rw [h3] at S2
  have S3 := Lib.hid (fun w => rsign_any l (b) 61 w hl (by omega))
  rw [h6] at S3
  have hz : b + 1 ≤ l.length := sign_lt h6
  clear h3 h6
  have S4 := Lib.hid (fun w => rsign_any l (b + 1) 42 w hl (by omega))
  rw [h4] at S4
  clear hs hr h4
  go_enter Try.func67, Try.ntmps67
  go_wp2_with fail
  refine (S1.out _).mono ?_
  rintro e w1 ⟨rfl, rfl⟩
  go_wp2_with fail
  refine (R1.out _).mono ?_
  rintro e w1 ⟨rfl, rfl⟩
  go_wp2_with fail
  refine (S2.out _).mono ?_
  rintro e w1 ⟨rfl, rfl⟩
  go_wp2_with fail
  refine (S3.out _).mono ?_
  rintro e w1 ⟨rfl, rfl⟩
  go_wp2_with fail
  refine (S4.out _).mono ?_
  rintro e w1 ⟨rfl, rfl⟩
  go_wp2
  refine bodyPost_row3 Try.results67 w.heap.size _ _ _ _ (.int .i64 (((b + 1 + 1 : Nat)) : Int)) (.int .i64 0) ?d1 ?p1 ?s1 ?u1 (Blk.alloc (Blk.new w _ _) _) Try.underlying43 rfl term_size ?_
  case d1 => rfl
  case p1 => rfl
  case s1 => rfl
  case u1 => rfl
  exact ⟨rfl, (((Below.refl w.heap.size w).alloc (Nat.le_refl _) _).alloc (by simp) _)⟩

set_option maxRecDepth 100000 in
set_option maxHeartbeats 2000000 in
theorem part_is_star (l : List UInt8) (a : Nat) (w : World) (hl : l.length ≤ 300) (ha : a ≤ l.length) (hs : signL l a 33 = false) (k : List UInt8) (b : Nat) (hr : runF true l a = (k, b, 0)) (hb : b ≤ l.length) (h3 : signL l b 33 = false) (h6 : signL l b 61 = true) (h4 : signL l (b + 1) 42 = false) (v : List UInt8 × Nat × Int) (hv : runF false l (b + 1) = v) :
    Calls Try.prog 67 #[strV l, .int .i64 (a : Int), .bool false, .bool true] w (PartTo w ((1, k, v.1), v.2.1, v.2.2)) := by
  have HB := Lib.hid (below1 w (.cells zt 43))
  have S1 := Lib.hid (fun w => rsign_any l a 33 w hl (by omega))
  rw [hs] at S1
  have R1 := Lib.hid (fun w => run_any true l a w hl ha)
  rw [hr] at R1
  have S2 := Lib.hid (fun w => rsign_any l (b) 33 w hl (by omega))
  rw [h3] at S2
  have S3 := Lib.hid (fun w => rsign_any l (b) 61 w hl (by omega))
  rw [h6] at S3
  have hz : b + 1 ≤ l.length := sign_lt h6
  clear h3 h6
  have S4 := Lib.hid (fun w => rsign_any l (b + 1) 42 w hl (by omega))
  rw [h4] at S4
  have R2 := Lib.hid (fun w => run_any false l (b + 1) w hl hz)
  rw [hv] at R2
  obtain ⟨vw, vb, ve⟩ := v
  clear hs hr h4 hv
  go_enter Try.func67, Try.ntmps67
  go_wp2_with fail
  refine (S1.out _).mono ?_
  rintro e w1 ⟨rfl, rfl⟩
  go_wp2_with fail
  refine (R1.out _).mono ?_
  rintro e w1 ⟨rfl, rfl⟩
  go_wp2_with fail
  refine (S2.out _).mono ?_
  rintro e w1 ⟨rfl, rfl⟩
  go_wp2_with fail
  refine (S3.out _).mono ?_
  rintro e w1 ⟨rfl, rfl⟩
  go_wp2_with fail
  refine (S4.out _).mono ?_
  rintro e w1 ⟨rfl, rfl⟩
  go_wp2_with fail
  refine (R2.out _).mono ?_
  rintro e w1 ⟨rfl, rfl⟩
  go_wp2
  refine bodyPost_row3 Try.results67 w.heap.size _ _ _ _ (.int .i64 (vb : Int)) (.int .i64 ve) ?d1 ?p1 ?s1 ?u1 (Blk.alloc (Blk.new w _ _) _) Try.underlying43 rfl term_size ?_
  case d1 => rfl
  case p1 => rfl
  case s1 => rfl
  case u1 => rfl
  exact ⟨rfl, (((Below.refl w.heap.size w).alloc (Nat.le_refl _) _).alloc (by simp) _)⟩

set_option maxRecDepth 100000 in
set_option maxHeartbeats 2000000 in
theorem part_is_plain (l : List UInt8) (a : Nat) (w : World) (hl : l.length ≤ 300) (ha : a ≤ l.length) (hs : signL l a 33 = false) (k : List UInt8) (b : Nat) (hr : runF true l a = (k, b, 0)) (hb : b ≤ l.length) (h3 : signL l b 33 = false) (h6 : signL l b 61 = true) (v : List UInt8 × Nat × Int) (hv : runF false l (b + 1) = v) :
    Calls Try.prog 67 #[strV l, .int .i64 (a : Int), .bool false, .bool false] w (PartTo w ((1, k, v.1), v.2.1, v.2.2)) := by
  have HB := Lib.hid (below1 w (.cells zt 43))
  have S1 := Lib.hid (fun w => rsign_any l a 33 w hl (by omega))
  rw [hs] at S1
  have R1 := Lib.hid (fun w => run_any true l a w hl ha)
  rw [hr] at R1
  have S2 := Lib.hid (fun w => rsign_any l (b) 33 w hl (by omega))
  rw [h3] at S2
  have S3 := Lib.hid (fun w => rsign_any l (b) 61 w hl (by omega))
  rw [h6] at S3
  have hz : b + 1 ≤ l.length := sign_lt h6
  clear h3 h6
  have R2 := Lib.hid (fun w => run_any false l (b + 1) w hl hz)
  rw [hv] at R2
  obtain ⟨vw, vb, ve⟩ := v
  clear hs hr hv
  go_enter Try.func67, Try.ntmps67
  go_wp2_with fail
  refine (S1.out _).mono ?_
  rintro e w1 ⟨rfl, rfl⟩
  go_wp2_with fail
  refine (R1.out _).mono ?_
  rintro e w1 ⟨rfl, rfl⟩
  go_wp2_with fail
  refine (S2.out _).mono ?_
  rintro e w1 ⟨rfl, rfl⟩
  go_wp2_with fail
  refine (S3.out _).mono ?_
  rintro e w1 ⟨rfl, rfl⟩
  go_wp2_with fail
  refine (R2.out _).mono ?_
  rintro e w1 ⟨rfl, rfl⟩
  go_wp2
  refine bodyPost_row3 Try.results67 w.heap.size _ _ _ _ (.int .i64 (vb : Int)) (.int .i64 ve) ?d1 ?p1 ?s1 ?u1 (Blk.alloc (Blk.new w _ _) _) Try.underlying43 rfl term_size ?_
  case d1 => rfl
  case p1 => rfl
  case s1 => rfl
  case u1 => rfl
  exact ⟨rfl, (((Below.refl w.heap.size w).alloc (Nat.le_refl _) _).alloc (by simp) _)⟩

set_option maxRecDepth 100000 in
set_option maxHeartbeats 2000000 in
theorem part_noname_true_t (star : Bool) (l : List UInt8) (a : Nat) (w : World) (hl : l.length ≤ 300) (ha : a ≤ l.length) (hs : signL l a 33 = true) (k : List UInt8) (b : Nat) (re : Int) (hr : runF true l a = (k, b, re)) (h0 : re ≠ 0) :
    Calls Try.prog 67 #[strV l, .int .i64 (a : Int), .bool true, .bool star] w (PartTo w ((0, [], []), b, re)) := by
  have HB := Lib.hid (below1 w (.cells zt 43))
  have S1 := Lib.hid (fun w => rsign_any l a 33 w hl (by omega))
  rw [hs] at S1
  have R1 := Lib.hid (fun w => run_any true l a w hl ha)
  rw [hr] at R1
  have hre : (re != 0) = true := by simpa using h0
  have H0 := Lib.hid h0
  clear hs hr h0
  go_enter Try.func67, Try.ntmps67
  go_wp2_with fail
  refine (S1.out _).mono ?_
  rintro e w1 ⟨rfl, rfl⟩
  go_wp2_with fail
  refine (R1.out _).mono ?_
  rintro e w1 ⟨rfl, rfl⟩
  go_wp2
  refine bodyPost_row3 Try.results67 w.heap.size _ _ _ _ (.int .i64 (b : Int)) (.int .i64 re) ?d1 ?p1 ?s1 ?u1 (Blk.new w _ _) Try.underlying43 rfl term_size ?_
  case d1 => rfl
  case p1 => rfl
  case s1 => rfl
  case u1 => rfl
  exact ⟨rfl, (below1 w _)⟩

set_option maxRecDepth 100000 in
set_option maxHeartbeats 2000000 in
theorem part_noname_true_f (star : Bool) (l : List UInt8) (a : Nat) (w : World) (hl : l.length ≤ 300) (ha : a ≤ l.length) (hs : signL l a 33 = false) (k : List UInt8) (b : Nat) (re : Int) (hr : runF true l a = (k, b, re)) (h0 : re ≠ 0) :
    Calls Try.prog 67 #[strV l, .int .i64 (a : Int), .bool true, .bool star] w (PartTo w ((0, [], []), b, re)) := by
  have HB := Lib.hid (below1 w (.cells zt 43))
  have S1 := Lib.hid (fun w => rsign_any l a 33 w hl (by omega))
  rw [hs] at S1
  have R1 := Lib.hid (fun w => run_any true l a w hl ha)
  rw [hr] at R1
  have hre : (re != 0) = true := by simpa using h0
  have H0 := Lib.hid h0
  clear hs hr h0
  go_enter Try.func67, Try.ntmps67
  go_wp2_with fail
  refine (S1.out _).mono ?_
  rintro e w1 ⟨rfl, rfl⟩
  go_wp2_with fail
  refine (R1.out _).mono ?_
  rintro e w1 ⟨rfl, rfl⟩
  go_wp2
  refine bodyPost_row3 Try.results67 w.heap.size _ _ _ _ (.int .i64 (b : Int)) (.int .i64 re) ?d1 ?p1 ?s1 ?u1 (Blk.new w _ _) Try.underlying43 rfl term_size ?_
  case d1 => rfl
  case p1 => rfl
  case s1 => rfl
  case u1 => rfl
  exact ⟨rfl, (below1 w _)⟩

set_option maxRecDepth 100000 in
set_option maxHeartbeats 2000000 in
theorem part_lab_end_tt (star : Bool) (l : List UInt8) (a : Nat) (w : World) (hl : l.length ≤ 300) (ha : a ≤ l.length) (hs : signL l a 33 = true) (k : List UInt8) (b : Nat) (hr : runF true l a = (k, b, 0)) (hb : b ≤ l.length) (h3 : signL l b 33 = true) (h6 : signL l b 61 = false) (he : b = l.length) :
    Calls Try.prog 67 #[strV l, .int .i64 (a : Int), .bool true, .bool star] w (PartTo w ((0, [], []), b, 3)) := by
  have HB := Lib.hid (below1 w (.cells zt 43))
  have S1 := Lib.hid (fun w => rsign_any l a 33 w hl (by omega))
  rw [hs] at S1
  have R1 := Lib.hid (fun w => run_any true l a w hl ha)
  rw [hr] at R1
  have S2 := Lib.hid (fun w => rsign_any l (b) 33 w hl (by omega))
  rw [h3] at S2
  have S3 := Lib.hid (fun w => rsign_any l (b) 61 w hl (by omega))
  rw [h6] at S3
  have heb : ((b : Int) == (l.length : Int)) = true := by simp; omega
  have He := Lib.hid he
  clear hs hr h3 h6 he
  go_enter Try.func67, Try.ntmps67
  go_wp2_with fail
  refine (S1.out _).mono ?_
  rintro e w1 ⟨rfl, rfl⟩
  go_wp2_with fail
  refine (R1.out _).mono ?_
  rintro e w1 ⟨rfl, rfl⟩
  go_wp2_with fail
  refine (S2.out _).mono ?_
  rintro e w1 ⟨rfl, rfl⟩
  go_wp2_with fail
  refine (S3.out _).mono ?_
  rintro e w1 ⟨rfl, rfl⟩
  go_wp2
  refine bodyPost_row3 Try.results67 w.heap.size _ _ _ _ (.int .i64 (b : Int)) (.int .i64 3) ?d1 ?p1 ?s1 ?u1 (Blk.alloc (Blk.new w _ _) _) Try.underlying43 rfl term_size ?_
  case d1 => rfl
  case p1 => rfl
  case s1 => rfl
  case u1 => rfl
  exact ⟨rfl, (((Below.refl w.heap.size w).alloc (Nat.le_refl _) _).alloc (by simp) _)⟩

set_option maxRecDepth 100000 in
set_option maxHeartbeats 2000000 in
theorem part_lab_end_tf (star : Bool) (l : List UInt8) (a : Nat) (w : World) (hl : l.length ≤ 300) (ha : a ≤ l.length) (hs : signL l a 33 = true) (k : List UInt8) (b : Nat) (hr : runF true l a = (k, b, 0)) (hb : b ≤ l.length) (h3 : signL l b 33 = false) (h6 : signL l b 61 = false) (he : b = l.length) :
    Calls Try.prog 67 #[strV l, .int .i64 (a : Int), .bool true, .bool star] w (PartTo w ((0, [], []), b, 3)) := by
  have HB := Lib.hid (below1 w (.cells zt 43))
  have S1 := Lib.hid (fun w => rsign_any l a 33 w hl (by omega))
  rw [hs] at S1
  have R1 := Lib.hid (fun w => run_any true l a w hl ha)
  rw [hr] at R1
  have S2 := Lib.hid (fun w => rsign_any l (b) 33 w hl (by omega))
  rw [h3] at S2
  have S3 := Lib.hid (fun w => rsign_any l (b) 61 w hl (by omega))
  rw [h6] at S3
  have heb : ((b : Int) == (l.length : Int)) = true := by simp; omega
  have He := Lib.hid he
  clear hs hr h3 h6 he
  go_enter Try.func67, Try.ntmps67
  go_wp2_with fail
  refine (S1.out _).mono ?_
  rintro e w1 ⟨rfl, rfl⟩
  go_wp2_with fail
  refine (R1.out _).mono ?_
  rintro e w1 ⟨rfl, rfl⟩
  go_wp2_with fail
  refine (S2.out _).mono ?_
  rintro e w1 ⟨rfl, rfl⟩
  go_wp2_with fail
  refine (S3.out _).mono ?_
  rintro e w1 ⟨rfl, rfl⟩
  go_wp2
  refine bodyPost_row3 Try.results67 w.heap.size _ _ _ _ (.int .i64 (b : Int)) (.int .i64 3) ?d1 ?p1 ?s1 ?u1 (Blk.alloc (Blk.new w _ _) _) Try.underlying43 rfl term_size ?_
  case d1 => rfl
  case p1 => rfl
  case s1 => rfl
  case u1 => rfl
  exact ⟨rfl, (((Below.refl w.heap.size w).alloc (Nat.le_refl _) _).alloc (by simp) _)⟩

set_option maxRecDepth 100000 in
set_option maxHeartbeats 2000000 in
theorem part_lab_end_ft (star : Bool) (l : List UInt8) (a : Nat) (w : World) (hl : l.length ≤ 300) (ha : a ≤ l.length) (hs : signL l a 33 = false) (k : List UInt8) (b : Nat) (hr : runF true l a = (k, b, 0)) (hb : b ≤ l.length) (h3 : signL l b 33 = true) (h6 : signL l b 61 = false) (he : b = l.length) :
    Calls Try.prog 67 #[strV l, .int .i64 (a : Int), .bool true, .bool star] w (PartTo w ((0, [], []), b, 3)) := by
  have HB := Lib.hid (below1 w (.cells zt 43))
  have S1 := Lib.hid (fun w => rsign_any l a 33 w hl (by omega))
  rw [hs] at S1
  have R1 := Lib.hid (fun w => run_any true l a w hl ha)
  rw [hr] at R1
  have S2 := Lib.hid (fun w => rsign_any l (b) 33 w hl (by omega))
  rw [h3] at S2
  have S3 := Lib.hid (fun w => rsign_any l (b) 61 w hl (by omega))
  rw [h6] at S3
  have heb : ((b : Int) == (l.length : Int)) = true := by simp; omega
  have He := Lib.hid he
  clear hs hr h3 h6 he
  go_enter Try.func67, Try.ntmps67
  go_wp2_with fail
  refine (S1.out _).mono ?_
  rintro e w1 ⟨rfl, rfl⟩
  go_wp2_with fail
  refine (R1.out _).mono ?_
  rintro e w1 ⟨rfl, rfl⟩
  go_wp2_with fail
  refine (S2.out _).mono ?_
  rintro e w1 ⟨rfl, rfl⟩
  go_wp2_with fail
  refine (S3.out _).mono ?_
  rintro e w1 ⟨rfl, rfl⟩
  go_wp2
  refine bodyPost_row3 Try.results67 w.heap.size _ _ _ _ (.int .i64 (b : Int)) (.int .i64 3) ?d1 ?p1 ?s1 ?u1 (Blk.alloc (Blk.new w _ _) _) Try.underlying43 rfl term_size ?_
  case d1 => rfl
  case p1 => rfl
  case s1 => rfl
  case u1 => rfl
  exact ⟨rfl, (((Below.refl w.heap.size w).alloc (Nat.le_refl _) _).alloc (by simp) _)⟩

set_option maxRecDepth 100000 in
set_option maxHeartbeats 2000000 in
theorem part_lab_end_ff (star : Bool) (l : List UInt8) (a : Nat) (w : World) (hl : l.length ≤ 300) (ha : a ≤ l.length) (hs : signL l a 33 = false) (k : List UInt8) (b : Nat) (hr : runF true l a = (k, b, 0)) (hb : b ≤ l.length) (h3 : signL l b 33 = false) (h6 : signL l b 61 = false) (he : b = l.length) :
    Calls Try.prog 67 #[strV l, .int .i64 (a : Int), .bool true, .bool star] w (PartTo w ((0, [], []), b, 3)) := by
  have HB := Lib.hid (below1 w (.cells zt 43))
  have S1 := Lib.hid (fun w => rsign_any l a 33 w hl (by omega))
  rw [hs] at S1
  have R1 := Lib.hid (fun w => run_any true l a w hl ha)
  rw [hr] at R1
  have S2 := Lib.hid (fun w => rsign_any l (b) 33 w hl (by omega))
  rw [h3] at S2
  have S3 := Lib.hid (fun w => rsign_any l (b) 61 w hl (by omega))
  rw [h6] at S3
  have heb : ((b : Int) == (l.length : Int)) = true := by simp; omega
  have He := Lib.hid he
  clear hs hr h3 h6 he
  go_enter Try.func67, Try.ntmps67
  go_wp2_with fail
  refine (S1.out _).mono ?_
  rintro e w1 ⟨rfl, rfl⟩
  go_wp2_with fail
  refine (R1.out _).mono ?_
  rintro e w1 ⟨rfl, rfl⟩
  go_wp2_with fail
  refine (S2.out _).mono ?_
  rintro e w1 ⟨rfl, rfl⟩
  go_wp2_with fail
  refine (S3.out _).mono ?_
  rintro e w1 ⟨rfl, rfl⟩
  go_wp2
  refine bodyPost_row3 Try.results67 w.heap.size _ _ _ _ (.int .i64 (b : Int)) (.int .i64 3) ?d1 ?p1 ?s1 ?u1 (Blk.alloc (Blk.new w _ _) _) Try.underlying43 rfl term_size ?_
  case d1 => rfl
  case p1 => rfl
  case s1 => rfl
  case u1 => rfl
  exact ⟨rfl, (((Below.refl w.heap.size w).alloc (Nat.le_refl _) _).alloc (by simp) _)⟩

set_option maxRecDepth 100000 in
set_option maxHeartbeats 2000000 in
theorem part_lab_form_tt (star : Bool) (l : List UInt8) (a : Nat) (w : World) (hl : l.length ≤ 300) (ha : a ≤ l.length) (hs : signL l a 33 = true) (k : List UInt8) (b : Nat) (hr : runF true l a = (k, b, 0)) (hb : b ≤ l.length) (h3 : signL l b 33 = true) (h6 : signL l b 61 = false) (he : b ≠ l.length) :
    Calls Try.prog 67 #[strV l, .int .i64 (a : Int), .bool true, .bool star] w (PartTo w ((0, [], []), b, 4)) := by
  have HB := Lib.hid (below1 w (.cells zt 43))
  have S1 := Lib.hid (fun w => rsign_any l a 33 w hl (by omega))
  rw [hs] at S1
  have R1 := Lib.hid (fun w => run_any true l a w hl ha)
  rw [hr] at R1
  have S2 := Lib.hid (fun w => rsign_any l (b) 33 w hl (by omega))
  rw [h3] at S2
  have S3 := Lib.hid (fun w => rsign_any l (b) 61 w hl (by omega))
  rw [h6] at S3
  have heb : ((b : Int) == (l.length : Int)) = false := by simp; omega
  have He := Lib.hid he
  clear hs hr h3 h6 he
  go_enter Try.func67, Try.ntmps67
  go_wp2_with fail
  refine (S1.out _).mono ?_
  rintro e w1 ⟨rfl, rfl⟩
  go_wp2_with fail
  refine (R1.out _).mono ?_
  rintro e w1 ⟨rfl, rfl⟩
  go_wp2_with fail
  refine (S2.out _).mono ?_
  rintro e w1 ⟨rfl, rfl⟩
  go_wp2_with fail
  refine (S3.out _).mono ?_
  rintro e w1 ⟨rfl, rfl⟩
  go_wp2
  refine bodyPost_row3 Try.results67 w.heap.size _ _ _ _ (.int .i64 (b : Int)) (.int .i64 4) ?d1 ?p1 ?s1 ?u1 (Blk.alloc (Blk.new w _ _) _) Try.underlying43 rfl term_size ?_
  case d1 => rfl
  case p1 => rfl
  case s1 => rfl
  case u1 => rfl
  exact ⟨rfl, (((Below.refl w.heap.size w).alloc (Nat.le_refl _) _).alloc (by simp) _)⟩

set_option maxRecDepth 100000 in
set_option maxHeartbeats 2000000 in
theorem part_lab_form_tf (star : Bool) (l : List UInt8) (a : Nat) (w : World) (hl : l.length ≤ 300) (ha : a ≤ l.length) (hs : signL l a 33 = true) (k : List UInt8) (b : Nat) (hr : runF true l a = (k, b, 0)) (hb : b ≤ l.length) (h3 : signL l b 33 = false) (h6 : signL l b 61 = false) (he : b ≠ l.length) :
    Calls Try.prog 67 #[strV l, .int .i64 (a : Int), .bool true, .bool star] w (PartTo w ((0, [], []), b, 4)) := by
  have HB := Lib.hid (below1 w (.cells zt 43))
  have S1 := Lib.hid (fun w => rsign_any l a 33 w hl (by omega))
  rw [hs] at S1
  have R1 := Lib.hid (fun w => run_any true l a w hl ha)
  rw [hr] at R1
  have S2 := Lib.hid (fun w => rsign_any l (b) 33 w hl (by omega))
  rw [h3] at S2
  have S3 := Lib.hid (fun w => rsign_any l (b) 61 w hl (by omega))
  rw [h6] at S3
  have heb : ((b : Int) == (l.length : Int)) = false := by simp; omega
  have He := Lib.hid he
  clear hs hr h3 h6 he
  go_enter Try.func67, Try.ntmps67
  go_wp2_with fail
  refine (S1.out _).mono ?_
  rintro e w1 ⟨rfl, rfl⟩
  go_wp2_with fail
  refine (R1.out _).mono ?_
  rintro e w1 ⟨rfl, rfl⟩
  go_wp2_with fail
  refine (S2.out _).mono ?_
  rintro e w1 ⟨rfl, rfl⟩
  go_wp2_with fail
  refine (S3.out _).mono ?_
  rintro e w1 ⟨rfl, rfl⟩
  go_wp2
  refine bodyPost_row3 Try.results67 w.heap.size _ _ _ _ (.int .i64 (b : Int)) (.int .i64 4) ?d1 ?p1 ?s1 ?u1 (Blk.alloc (Blk.new w _ _) _) Try.underlying43 rfl term_size ?_
  case d1 => rfl
  case p1 => rfl
  case s1 => rfl
  case u1 => rfl
  exact ⟨rfl, (((Below.refl w.heap.size w).alloc (Nat.le_refl _) _).alloc (by simp) _)⟩

set_option maxRecDepth 100000 in
set_option maxHeartbeats 2000000 in
theorem part_lab_form_ft (star : Bool) (l : List UInt8) (a : Nat) (w : World) (hl : l.length ≤ 300) (ha : a ≤ l.length) (hs : signL l a 33 = false) (k : List UInt8) (b : Nat) (hr : runF true l a = (k, b, 0)) (hb : b ≤ l.length) (h3 : signL l b 33 = true) (h6 : signL l b 61 = false) (he : b ≠ l.length) :
    Calls Try.prog 67 #[strV l, .int .i64 (a : Int), .bool true, .bool star] w (PartTo w ((0, [], []), b, 4)) := by
  have HB := Lib.hid (below1 w (.cells zt 43))
  have S1 := Lib.hid (fun w => rsign_any l a 33 w hl (by omega))
  rw [hs] at S1
  have R1 := Lib.hid (fun w => run_any true l a w hl ha)
  rw [hr] at R1
  have S2 := Lib.hid (fun w => rsign_any l (b) 33 w hl (by omega))
  rw [h3] at S2
  have S3 := Lib.hid (fun w => rsign_any l (b) 61 w hl (by omega))
  rw [h6] at S3
  have heb : ((b : Int) == (l.length : Int)) = false := by simp; omega
  have He := Lib.hid he
  clear hs hr h3 h6 he
  go_enter Try.func67, Try.ntmps67
  go_wp2_with fail
  refine (S1.out _).mono ?_
  rintro e w1 ⟨rfl, rfl⟩
  go_wp2_with fail
  refine (R1.out _).mono ?_
  rintro e w1 ⟨rfl, rfl⟩
  go_wp2_with fail
  refine (S2.out _).mono ?_
  rintro e w1 ⟨rfl, rfl⟩
  go_wp2_with fail
  refine (S3.out _).mono ?_
  rintro e w1 ⟨rfl, rfl⟩
  go_wp2
  refine bodyPost_row3 Try.results67 w.heap.size _ _ _ _ (.int .i64 (b : Int)) (.int .i64 4) ?d1 ?p1 ?s1 ?u1 (Blk.alloc (Blk.new w _ _) _) Try.underlying43 rfl term_size ?_
  case d1 => rfl
  case p1 => rfl
  case s1 => rfl
  case u1 => rfl
  exact ⟨rfl, (((Below.refl w.heap.size w).alloc (Nat.le_refl _) _).alloc (by simp) _)⟩

set_option maxRecDepth 100000 in
set_option maxHeartbeats 2000000 in
theorem part_lab_form_ff (star : Bool) (l : List UInt8) (a : Nat) (w : World) (hl : l.length ≤ 300) (ha : a ≤ l.length) (hs : signL l a 33 = false) (k : List UInt8) (b : Nat) (hr : runF true l a = (k, b, 0)) (hb : b ≤ l.length) (h3 : signL l b 33 = false) (h6 : signL l b 61 = false) (he : b ≠ l.length) :
    Calls Try.prog 67 #[strV l, .int .i64 (a : Int), .bool true, .bool star] w (PartTo w ((0, [], []), b, 4)) := by
  have HB := Lib.hid (below1 w (.cells zt 43))
  have S1 := Lib.hid (fun w => rsign_any l a 33 w hl (by omega))
  rw [hs] at S1
  have R1 := Lib.hid (fun w => run_any true l a w hl ha)
  rw [hr] at R1
  have S2 := Lib.hid (fun w => rsign_any l (b) 33 w hl (by omega))
  rw [h3] at S2
  have S3 := Lib.hid (fun w => rsign_any l (b) 61 w hl (by omega))
  rw [h6] at S3
  have heb : ((b : Int) == (l.length : Int)) = false := by simp; omega
  have He := Lib.hid he
  clear hs hr h3 h6 he
  go_enter Try.func67, Try.ntmps67
  go_wp2_with fail
  refine (S1.out _).mono ?_
  rintro e w1 ⟨rfl, rfl⟩
  go_wp2_with fail
  refine (R1.out _).mono ?_
  rintro e w1 ⟨rfl, rfl⟩
  go_wp2_with fail
  refine (S2.out _).mono ?_
  rintro e w1 ⟨rfl, rfl⟩
  go_wp2_with fail
  refine (S3.out _).mono ?_
  rintro e w1 ⟨rfl, rfl⟩
  go_wp2
  refine bodyPost_row3 Try.results67 w.heap.size _ _ _ _ (.int .i64 (b : Int)) (.int .i64 4) ?d1 ?p1 ?s1 ?u1 (Blk.alloc (Blk.new w _ _) _) Try.underlying43 rfl term_size ?_
  case d1 => rfl
  case p1 => rfl
  case s1 => rfl
  case u1 => rfl
  exact ⟨rfl, (((Below.refl w.heap.size w).alloc (Nat.le_refl _) _).alloc (by simp) _)⟩

set_option maxRecDepth 100000 in
set_option maxHeartbeats 2000000 in
theorem part_lab_any_tt (l : List UInt8) (a : Nat) (w : World) (hl : l.length ≤ 300) (ha : a ≤ l.length) (hs : signL l a 33 = true) (k : List UInt8) (b : Nat) (hr : runF true l a = (k, b, 0)) (hb : b ≤ l.length) (h3 : signL l b 33 = true) (h6 : signL l b 61 = true) (h4 : signL l (b + 1) 42 = true) :
    Calls Try.prog 67 #[strV l, .int .i64 (a : Int), .bool true, .bool true] w (PartTo w ((1, k, [42]), b + 1 + 1, 0)) := by
  have HB := Lib.hid (below1 w (.cells zt 43))
  have S1 := Lib.hid (fun w => rsign_any l a 33 w hl (by omega))
  rw [hs] at S1
  have R1 := Lib.hid (fun w => run_any true l a w hl ha)
  rw [hr] at R1
  have S2 := Lib.hid (fun w => rsign_any l (b) 33 w hl (by omega))
  rw [h3] at S2
  have S3 := Lib.hid (fun w => rsign_any l (b) 61 w hl (by omega))
  rw [h6] at S3
  have hz : b + 1 ≤ l.length := sign_lt h6
  clear h3 h6
  have S4 := Lib.hid (fun w => rsign_any l (b + 1) 42 w hl (by omega))
  rw [h4] at S4
  clear hs hr h4
  go_enter Try.func67, Try.ntmps67
  go_wp2_with fail
  refine (S1.out _).mono ?_
  rintro e w1 ⟨rfl, rfl⟩
  go_wp2_with fail
  refine (R1.out _).mono ?_
  rintro e w1 ⟨rfl, rfl⟩
  go_wp2_with fail
  refine (S2.out _).mono ?_
  rintro e w1 ⟨rfl, rfl⟩
  go_wp2_with fail
  refine (S3.out _).mono ?_
  rintro e w1 ⟨rfl, rfl⟩
  go_wp2_with fail
  refine (S4.out _).mono ?_
  rintro e w1 ⟨rfl, rfl⟩
  go_wp2
  refine bodyPost_row3 Try.results67 w.heap.size _ _ _ _ (.int .i64 (((b + 1 + 1 : Nat)) : Int)) (.int .i64 0) ?d1 ?p1 ?s1 ?u1 (Blk.alloc (Blk.new w _ _) _) Try.underlying43 rfl term_size ?_
  case d1 => rfl
  case p1 => rfl
  case s1 => rfl
  case u1 => rfl
  exact ⟨rfl, (((Below.refl w.heap.size w).alloc (Nat.le_refl _) _).alloc (by simp) _)⟩

set_option maxRecDepth 100000 in
set_option maxHeartbeats 2000000 in
theorem part_lab_any_tf (l : List UInt8) (a : Nat) (w : World) (hl : l.length ≤ 300) (ha : a ≤ l.length) (hs : signL l a 33 = true) (k : List UInt8) (b : Nat) (hr : runF true l a = (k, b, 0)) (hb : b ≤ l.length) (h3 : signL l b 33 = false) (h6 : signL l b 61 = true) (h4 : signL l (b + 1) 42 = true) :
    Calls Try.prog 67 #[strV l, .int .i64 (a : Int), .bool true, .bool true] w (PartTo w ((1, k, [42]), b + 1 + 1, 0)) := by
  have HB := Lib.hid (below1 w (.cells zt 43))
  have S1 := Lib.hid (fun w => rsign_any l a 33 w hl (by omega))
  rw [hs] at S1
  have R1 := Lib.hid (fun w => run_any true l a w hl ha)
  rw [hr] at R1
  have S2 := Lib.hid (fun w => rsign_any l (b) 33 w hl (by omega))
  rw [h3] at S2
  have S3 := Lib.hid (fun w => rsign_any l (b) 61 w hl (by omega))
  rw [h6] at S3
  have hz : b + 1 ≤ l.length := sign_lt h6
  clear h3 h6
  have S4 := Lib.hid (fun w => rsign_any l (b + 1) 42 w hl (by omega))
  rw [h4] at S4
  clear hs hr h4
  go_enter Try.func67, Try.ntmps67
  go_wp2_with fail
  refine (S1.out _).mono ?_
  rintro e w1 ⟨rfl, rfl⟩
  go_wp2_with fail
  refine (R1.out _).mono ?_
  rintro e w1 ⟨rfl, rfl⟩
  go_wp2_with fail
  refine (S2.out _).mono ?_
  rintro e w1 ⟨rfl, rfl⟩
  go_wp2_with fail
  refine (S3.out _).mono ?_
  rintro e w1 ⟨rfl, rfl⟩
  go_wp2_with fail
  refine (S4.out _).mono ?_
  rintro e w1 ⟨rfl, rfl⟩
  go_wp2
  refine bodyPost_row3 Try.results67 w.heap.size _ _ _ _ (.int .i64 (((b + 1 + 1 : Nat)) : Int)) (.int .i64 0) ?d1 ?p1 ?s1 ?u1 (Blk.alloc (Blk.new w _ _) _) Try.underlying43 rfl term_size ?_
  case d1 => rfl
  case p1 => rfl
  case s1 => rfl
  case u1 => rfl
  exact ⟨rfl, (((Below.refl w.heap.size w).alloc (Nat.le_refl _) _).alloc (by simp) _)⟩

set_option maxRecDepth 100000 in
set_option maxHeartbeats 2000000 in
theorem part_lab_any_ft (l : List UInt8) (a : Nat) (w : World) (hl : l.length ≤ 300) (ha : a ≤ l.length) (hs : signL l a 33 = false) (k : List UInt8) (b : Nat) (hr : runF true l a = (k, b, 0)) (hb : b ≤ l.length) (h3 : signL l b 33 = true) (h6 : signL l b 61 = true) (h4 : signL l (b + 1) 42 = true) :
    Calls Try.prog 67 #[strV l, .int .i64 (a : Int), .bool true, .bool true] w (PartTo w ((1, k, [42]), b + 1 + 1, 0)) := by
  have HB := Lib.hid (below1 w (.cells zt 43))
  have S1 := Lib.hid (fun w => rsign_any l a 33 w hl (by omega))
  rw [hs] at S1
  have R1 := Lib.hid (fun w => run_any true l a w hl ha)
  rw [hr] at R1
  have S2 := Lib.hid (fun w => rsign_any l (b) 33 w hl (by omega))
  rw [h3] at S2
  have S3 := Lib.hid (fun w => rsign_any l (b) 61 w hl (by omega))
  rw [h6] at S3
  have hz : b + 1 ≤ l.length := sign_lt h6
  clear h3 h6
  have S4 := Lib.hid (fun w => rsign_any l (b + 1) 42 w hl (by omega))
  rw [h4] at S4
  clear hs hr h4
  go_enter Try.func67, Try.ntmps67
  go_wp2_with fail
  refine (S1.out _).mono ?_
  rintro e w1 ⟨rfl, rfl⟩
  go_wp2_with fail
  refine (R1.out _).mono ?_
  rintro e w1 ⟨rfl, rfl⟩
  go_wp2_with fail
  refine (S2.out _).mono ?_
  rintro e w1 ⟨rfl, rfl⟩
  go_wp2_with fail
  refine (S3.out _).mono ?_
  rintro e w1 ⟨rfl, rfl⟩
  go_wp2_with fail
  refine (S4.out _).mono ?_
  rintro e w1 ⟨rfl, rfl⟩
  go_wp2
  refine bodyPost_row3 Try.results67 w.heap.size _ _ _ _ (.int .i64 (((b + 1 + 1 : Nat)) : Int)) (.int .i64 0) ?d1 ?p1 ?s1 ?u1 (Blk.alloc (Blk.new w _ _) _) Try.underlying43 rfl term_size ?_
  case d1 => rfl
  case p1 => rfl
  case s1 => rfl
  case u1 => rfl
  exact ⟨rfl, (((Below.refl w.heap.size w).alloc (Nat.le_refl _) _).alloc (by simp) _)⟩

set_option maxRecDepth 100000 in
set_option maxHeartbeats 2000000 in
theorem part_lab_any_ff (l : List UInt8) (a : Nat) (w : World) (hl : l.length ≤ 300) (ha : a ≤ l.length) (hs : signL l a 33 = false) (k : List UInt8) (b : Nat) (hr : runF true l a = (k, b, 0)) (hb : b ≤ l.length) (h3 : signL l b 33 = false) (h6 : signL l b 61 = true) (h4 : signL l (b + 1) 42 = true) :
    Calls Try.prog 67 #[strV l, .int .i64 (a : Int), .bool true, .bool true] w (PartTo w ((1, k, [42]), b + 1 + 1, 0)) := by
  have HB := Lib.hid (below1 w (.cells zt 43))
  have S1 := Lib.hid (fun w => rsign_any l a 33 w hl (by omega))
  rw [hs] at S1
  have R1 := Lib.hid (fun w => run_any true l a w hl ha)
  rw [hr] at R1
  have S2 := Lib.hid (fun w => rsign_any l (b) 33 w hl (by omega))
  rw [h3] at S2
  have S3 := Lib.hid (fun w => rsign_any l (b) 61 w hl (by omega))
  rw [h6] at S3
  have hz : b + 1 ≤ l.length := sign_lt h6
  clear h3 h6
  have S4 := Lib.hid (fun w => rsign_any l (b + 1) 42 w hl (by omega))
  rw [h4] at S4
  clear hs hr h4
  go_enter Try.func67, Try.ntmps67
  go_wp2_with fail
  refine (S1.out _).mono ?_
  rintro e w1 ⟨rfl, rfl⟩
  go_wp2_with fail
  refine (R1.out _).mono ?_
  rintro e w1 ⟨rfl, rfl⟩
  go_wp2_with fail
  refine (S2.out _).mono ?_
  rintro e w1 ⟨rfl, rfl⟩
  go_wp2_with fail
  refine (S3.out _).mono ?_
  rintro e w1 ⟨rfl, rfl⟩
  go_wp2_with fail
  refine (S4.out _).mono ?_
  rintro e w1 ⟨rfl, rfl⟩
  go_wp2
  refine bodyPost_row3 Try.results67 w.heap.size _ _ _ _ (.int .i64 (((b + 1 + 1 : Nat)) : Int)) (.int .i64 0) ?d1 ?p1 ?s1 ?u1 (Blk.alloc (Blk.new w _ _) _) Try.underlying43 rfl term_size ?_
  case d1 => rfl
  case p1 => rfl
  case s1 => rfl
  case u1 => rfl
  exact ⟨rfl, (((Below.refl w.heap.size w).alloc (Nat.le_refl _) _).alloc (by simp) _)⟩

set_option maxRecDepth 100000 in
set_option maxHeartbeats 2000000 in
theorem part_lab_star_tt (l : List UInt8) (a : Nat) (w : World) (hl : l.length ≤ 300) (ha : a ≤ l.length) (hs : signL l a 33 = true) (k : List UInt8) (b : Nat) (hr : runF true l a = (k, b, 0)) (hb : b ≤ l.length) (h3 : signL l b 33 = true) (h6 : signL l b 61 = true) (h4 : signL l (b + 1) 42 = false) (v : List UInt8 × Nat × Int) (hv : runF false l (b + 1) = v) :
    Calls Try.prog 67 #[strV l, .int .i64 (a : Int), .bool true, .bool true] w (PartTo w ((1, k, v.1), v.2.1, v.2.2)) := by
  have HB := Lib.hid (below1 w (.cells zt 43))
  have S1 := Lib.hid (fun w => rsign_any l a 33 w hl (by omega))
  rw [hs] at S1
  have R1 := Lib.hid (fun w => run_any true l a w hl ha)
  rw [hr] at R1
  have S2 := Lib.hid (fun w => rsign_any l (b) 33 w hl (by omega))
  rw [h3] at S2
  have S3 := Lib.hid (fun w => rsign_any l (b) 61 w hl (by omega))
  rw [h6] at S3
  have hz : b + 1 ≤ l.length := sign_lt h6
  clear h3 h6
  have S4 := Lib.hid (fun w => rsign_any l (b + 1) 42 w hl (by omega))
  rw [h4] at S4
  have R2 := Lib.hid (fun w => run_any false l (b + 1) w hl hz)
  rw [hv] at R2
  obtain ⟨vw, vb, ve⟩ := v
  clear hs hr h4 hv
  go_enter Try.func67, Try.ntmps67
  go_wp2_with fail
  refine (S1.out _).mono ?_
  rintro e w1 ⟨rfl, rfl⟩
  go_wp2_with fail
  refine (R1.out _).mono ?_
  rintro e w1 ⟨rfl, rfl⟩
  go_wp2_with fail
  refine (S2.out _).mono ?_
  rintro e w1 ⟨rfl, rfl⟩
  go_wp2_with fail
  refine (S3.out _).mono ?_
  rintro e w1 ⟨rfl, rfl⟩
  go_wp2_with fail
  refine (S4.out _).mono ?_
  rintro e w1 ⟨rfl, rfl⟩
  go_wp2_with fail
  refine (R2.out _).mono ?_
  rintro e w1 ⟨rfl, rfl⟩
  go_wp2
  refine bodyPost_row3 Try.results67 w.heap.size _ _ _ _ (.int .i64 (vb : Int)) (.int .i64 ve) ?d1 ?p1 ?s1 ?u1 (Blk.alloc (Blk.new w _ _) _) Try.underlying43 rfl term_size ?_
  case d1 => rfl
  case p1 => rfl
  case s1 => rfl
  case u1 => rfl
  exact ⟨rfl, (((Below.refl w.heap.size w).alloc (Nat.le_refl _) _).alloc (by simp) _)⟩

set_option maxRecDepth 100000 in
set_option maxHeartbeats 2000000 in
theorem part_lab_star_tf (l : List UInt8) (a : Nat) (w : World) (hl : l.length ≤ 300) (ha : a ≤ l.length) (hs : signL l a 33 = true) (k : List UInt8) (b : Nat) (hr : runF true l a = (k, b, 0)) (hb : b ≤ l.length) (h3 : signL l b 33 = false) (h6 : signL l b 61 = true) (h4 : signL l (b + 1) 42 = false) (v : List UInt8 × Nat × Int) (hv : runF false l (b + 1) = v) :
    Calls Try.prog 67 #[strV l, .int .i64 (a : Int), .bool true, .bool true] w (PartTo w ((1, k, v.1), v.2.1, v.2.2)) := by
  have HB := Lib.hid (below1 w (.cells zt 43))
  have S1 := Lib.hid (fun w => rsign_any l a 33 w hl (by omega))
  rw [hs] at S1
  have R1 := Lib.hid (fun w => run_any true l a w hl ha)
  rw [hr] at R1
  have S2 := Lib.hid (fun w => rsign_any l (b) 33 w hl (by omega))
  rw [h3] at S2
  have S3 := Lib.hid (fun w => rsign_any l (b) 61 w hl (by omega))
  rw [h6] at S3
  have hz : b + 1 ≤ l.length := sign_lt h6
  clear h3 h6
  have S4 := Lib.hid (fun w => rsign_any l (b + 1) 42 w hl (by omega))
  rw [h4] at S4
  have R2 := Lib.hid (fun w => run_any false l (b + 1) w hl hz)
  rw [hv] at R2
  obtain ⟨vw, vb, ve⟩ := v
  clear hs hr h4 hv
  go_enter Try.func67, Try.ntmps67
  go_wp2_with fail
  refine (S1.out _).mono ?_
  rintro e w1 ⟨rfl, rfl⟩
  go_wp2_with fail
  refine (R1.out _).mono ?_
  rintro e w1 ⟨rfl, rfl⟩
  go_wp2_with fail
  refine (S2.out _).mono ?_
  rintro e w1 ⟨rfl, rfl⟩
  go_wp2_with fail
  refine (S3.out _).mono ?_
  rintro e w1 ⟨rfl, rfl⟩
  go_wp2_with fail
  refine (S4.out _).mono ?_
  rintro e w1 ⟨rfl, rfl⟩
  go_wp2_with fail
  refine (R2.out _).mono ?_
  rintro e w1 ⟨rfl, rfl⟩
  go_wp2
  refine bodyPost_row3 Try.results67 w.heap.size _ _ _ _ (.int .i64 (vb : Int)) (.int .i64 ve) ?d1 ?p1 ?s1 ?u1 (Blk.alloc (Blk.new w _ _) _) Try.underlying43 rfl term_size ?_
  case d1 => rfl
  case p1 => rfl
  case s1 => rfl
  case u1 => rfl
  exact ⟨rfl, (((Below.refl w.heap.size w).alloc (Nat.le_refl _) _).alloc (by simp) _)⟩

set_option maxRecDepth 100000 in
set_option maxHeartbeats 2000000 in
theorem part_lab_star_ft (l : List UInt8) (a : Nat) (w : World) (hl : l.length ≤ 300) (ha : a ≤ l.length) (hs : signL l a 33 = false) (k : List UInt8) (b : Nat) (hr : runF true l a = (k, b, 0)) (hb : b ≤ l.length) (h3 : signL l b 33 = true) (h6 : signL l b 61 = true) (h4 : signL l (b + 1) 42 = false) (v : List UInt8 × Nat × Int) (hv : runF false l (b + 1) = v) :
    Calls Try.prog 67 #[strV l, .int .i64 (a : Int), .bool true, .bool true] w (PartTo w ((1, k, v.1), v.2.1, v.2.2)) := by
  have HB := Lib.hid (below1 w (.cells zt 43))
  have S1 := Lib.hid (fun w => rsign_any l a 33 w hl (by omega))
  rw [hs] at S1
  have R1 := Lib.hid (fun w => run_any true l a w hl ha)
  rw [hr] at R1
  have S2 := Lib.hid (fun w => rsign_any l (b) 33 w hl (by omega))
  rw [h3] at S2
  have S3 := Lib.hid (fun w => rsign_any l (b) 61 w hl (by omega))
  rw [h6] at S3
  have hz : b + 1 ≤ l.length := sign_lt h6
  clear h3 h6
  have S4 := Lib.hid (fun w => rsign_any l (b + 1) 42 w hl (by omega))
  rw [h4] at S4
  have R2 := Lib.hid (fun w => run_any false l (b + 1) w hl hz)
  rw [hv] at R2
  obtain ⟨vw, vb, ve⟩ := v
  clear hs hr h4 hv
  go_enter Try.func67, Try.ntmps67
  go_wp2_with fail
  refine (S1.out _).mono ?_
  rintro e w1 ⟨rfl, rfl⟩
  go_wp2_with fail
  refine (R1.out _).mono ?_
  rintro e w1 ⟨rfl, rfl⟩
  go_wp2_with fail
  refine (S2.out _).mono ?_
  rintro e w1 ⟨rfl, rfl⟩
  go_wp2_with fail
  refine (S3.out _).mono ?_
  rintro e w1 ⟨rfl, rfl⟩
  go_wp2_with fail
  refine (S4.out _).mono ?_
  rintro e w1 ⟨rfl, rfl⟩
  go_wp2_with fail
  refine (R2.out _).mono ?_
  rintro e w1 ⟨rfl, rfl⟩
  go_wp2
  refine bodyPost_row3 Try.results67 w.heap.size _ _ _ _ (.int .i64 (vb : Int)) (.int .i64 ve) ?d1 ?p1 ?s1 ?u1 (Blk.alloc (Blk.new w _ _) _) Try.underlying43 rfl term_size ?_
  case d1 => rfl
  case p1 => rfl
  case s1 => rfl
  case u1 => rfl
  exact ⟨rfl, (((Below.refl w.heap.size w).alloc (Nat.le_refl _) _).alloc (by simp) _)⟩

set_option maxRecDepth 100000 in
set_option maxHeartbeats 2000000 in
theorem part_lab_star_ff (l : List UInt8) (a : Nat) (w : World) (hl : l.length ≤ 300) (ha : a ≤ l.length) (hs : signL l a 33 = false) (k : List UInt8) (b : Nat) (hr : runF true l a = (k, b, 0)) (hb : b ≤ l.length) (h3 : signL l b 33 = false) (h6 : signL l b 61 = true) (h4 : signL l (b + 1) 42 = false) (v : List UInt8 × Nat × Int) (hv : runF false l (b + 1) = v) :
    Calls Try.prog 67 #[strV l, .int .i64 (a : Int), .bool true, .bool true] w (PartTo w ((1, k, v.1), v.2.1, v.2.2)) := by
  have HB := Lib.hid (below1 w (.cells zt 43))
  have S1 := Lib.hid (fun w => rsign_any l a 33 w hl (by omega))
  rw [hs] at S1
  have R1 := Lib.hid (fun w => run_any true l a w hl ha)
  rw [hr] at R1
  have S2 := Lib.hid (fun w => rsign_any l (b) 33 w hl (by omega))
  rw [h3] at S2
  have S3 := Lib.hid (fun w => rsign_any l (b) 61 w hl (by omega))
  rw [h6] at S3
  have hz : b + 1 ≤ l.length := sign_lt h6
  clear h3 h6
  have S4 := Lib.hid (fun w => rsign_any l (b + 1) 42 w hl (by omega))
  rw [h4] at S4
  have R2 := Lib.hid (fun w => run_any false l (b + 1) w hl hz)
  rw [hv] at R2
  obtain ⟨vw, vb, ve⟩ := v
  clear hs hr h4 hv
  go_enter Try.func67, Try.ntmps67
  go_wp2_with fail
  refine (S1.out _).mono ?_
  rintro e w1 ⟨rfl, rfl⟩
  go_wp2_with fail
  refine (R1.out _).mono ?_
  rintro e w1 ⟨rfl, rfl⟩
  go_wp2_with fail
  refine (S2.out _).mono ?_
  rintro e w1 ⟨rfl, rfl⟩
  go_wp2_with fail
  refine (S3.out _).mono ?_
  rintro e w1 ⟨rfl, rfl⟩
  go_wp2_with fail
  refine (S4.out _).mono ?_
  rintro e w1 ⟨rfl, rfl⟩
  go_wp2_with fail
  refine (R2.out _).mono ?_
  rintro e w1 ⟨rfl, rfl⟩
  go_wp2
  refine bodyPost_row3 Try.results67 w.heap.size _ _ _ _ (.int .i64 (vb : Int)) (.int .i64 ve) ?d1 ?p1 ?s1 ?u1 (Blk.alloc (Blk.new w _ _) _) Try.underlying43 rfl term_size ?_
  case d1 => rfl
  case p1 => rfl
  case s1 => rfl
  case u1 => rfl
  exact ⟨rfl, (((Below.refl w.heap.size w).alloc (Nat.le_refl _) _).alloc (by simp) _)⟩

set_option maxRecDepth 100000 in
set_option maxHeartbeats 2000000 in
theorem part_lab_plain_tt (l : List UInt8) (a : Nat) (w : World) (hl : l.length ≤ 300) (ha : a ≤ l.length) (hs : signL l a 33 = true) (k : List UInt8) (b : Nat) (hr : runF true l a = (k, b, 0)) (hb : b ≤ l.length) (h3 : signL l b 33 = true) (h6 : signL l b 61 = true) (v : List UInt8 × Nat × Int) (hv : runF false l (b + 1) = v) :
    Calls Try.prog 67 #[strV l, .int .i64 (a : Int), .bool true, .bool false] w (PartTo w ((1, k, v.1), v.2.1, v.2.2)) := by
  have HB := Lib.hid (below1 w (.cells zt 43))
  have S1 := Lib.hid (fun w => rsign_any l a 33 w hl (by omega))
  rw [hs] at S1
  have R1 := Lib.hid (fun w => run_any true l a w hl ha)
  rw [hr] at R1
  have S2 := Lib.hid (fun w => rsign_any l (b) 33 w hl (by omega))
  rw [h3] at S2
  have S3 := Lib.hid (fun w => rsign_any l (b) 61 w hl (by omega))
  rw [h6] at S3
  have hz : b + 1 ≤ l.length := sign_lt h6
  clear h3 h6
  have R2 := Lib.hid (fun w => run_any false l (b + 1) w hl hz)
  rw [hv] at R2
  obtain ⟨vw, vb, ve⟩ := v
  clear hs hr hv
  go_enter Try.func67, Try.ntmps67
  go_wp2_with fail
  refine (S1.out _).mono ?_
  rintro e w1 ⟨rfl, rfl⟩
  go_wp2_with fail
  refine (R1.out _).mono ?_
  rintro e w1 ⟨rfl, rfl⟩
  go_wp2_with fail
  refine (S2.out _).mono ?_
  rintro e w1 ⟨rfl, rfl⟩
  go_wp2_with fail
  refine (S3.out _).mono ?_
  rintro e w1 ⟨rfl, rfl⟩
  go_wp2_with fail
  refine (R2.out _).mono ?_
  rintro e w1 ⟨rfl, rfl⟩
  go_wp2
  refine bodyPost_row3 Try.results67 w.heap.size _ _ _ _ (.int .i64 (vb : Int)) (.int .i64 ve) ?d1 ?p1 ?s1 ?u1 (Blk.alloc (Blk.new w _ _) _) Try.underlying43 rfl term_size ?_
  case d1 => rfl
  case p1 => rfl
  case s1 => rfl
  case u1 => rfl
  exact ⟨rfl, (((Below.refl w.heap.size w).alloc (Nat.le_refl _) _).alloc (by simp) _)⟩

set_option maxRecDepth 100000 in
set_option maxHeartbeats 2000000 in
theorem part_lab_plain_tf (l : List UInt8) (a : Nat) (w : World) (hl : l.length ≤ 300) (ha : a ≤ l.length) (hs : signL l a 33 = true) (k : List UInt8) (b : Nat) (hr : runF true l a = (k, b, 0)) (hb : b ≤ l.length) (h3 : signL l b 33 = false) (h6 : signL l b 61 = true) (v : List UInt8 × Nat × Int) (hv : runF false l (b + 1) = v) :
    Calls Try.prog 67 #[strV l, .int .i64 (a : Int), .bool true, .bool false] w (PartTo w ((1, k, v.1), v.2.1, v.2.2)) := by
  have HB := Lib.hid (below1 w (.cells zt 43))
  have S1 := Lib.hid (fun w => rsign_any l a 33 w hl (by omega))
  rw [hs] at S1
  have R1 := Lib.hid (fun w => run_any true l a w hl ha)
  rw [hr] at R1
  have S2 := Lib.hid (fun w => rsign_any l (b) 33 w hl (by omega))
  rw [h3] at S2
  have S3 := Lib.hid (fun w => rsign_any l (b) 61 w hl (by omega))
  rw [h6] at S3
  have hz : b + 1 ≤ l.length := sign_lt h6
  clear h3 h6
  have R2 := Lib.hid (fun w => run_any false l (b + 1) w hl hz)
  rw [hv] at R2
  obtain ⟨vw, vb, ve⟩ := v
  clear hs hr hv
  go_enter Try.func67, Try.ntmps67
  go_wp2_with fail
  refine (S1.out _).mono ?_
  rintro e w1 ⟨rfl, rfl⟩
  go_wp2_with fail
  refine (R1.out _).mono ?_
  rintro e w1 ⟨rfl, rfl⟩
  go_wp2_with fail
  refine (S2.out _).mono ?_
  rintro e w1 ⟨rfl, rfl⟩
  go_wp2_with fail
  refine (S3.out _).mono ?_
  rintro e w1 ⟨rfl, rfl⟩
  go_wp2_with fail
  refine (R2.out _).mono ?_
  rintro e w1 ⟨rfl, rfl⟩
  go_wp2
  refine bodyPost_row3 Try.results67 w.heap.size _ _ _ _ (.int .i64 (vb : Int)) (.int .i64 ve) ?d1 ?p1 ?s1 ?u1 (Blk.alloc (Blk.new w _ _) _) Try.underlying43 rfl term_size ?_
  case d1 => rfl
  case p1 => rfl
  case s1 => rfl
  case u1 => rfl
  exact ⟨rfl, (((Below.refl w.heap.size w).alloc (Nat.le_refl _) _).alloc (by simp) _)⟩

set_option maxRecDepth 100000 in
set_option maxHeartbeats 2000000 in
theorem part_lab_plain_ft (l : List UInt8) (a : Nat) (w : World) (hl : l.length ≤ 300) (ha : a ≤ l.length) (hs : signL l a 33 = false) (k : List UInt8) (b : Nat) (hr : runF true l a = (k, b, 0)) (hb : b ≤ l.length) (h3 : signL l b 33 = true) (h6 : signL l b 61 = true) (v : List UInt8 × Nat × Int) (hv : runF false l (b + 1) = v) :
    Calls Try.prog 67 #[strV l, .int .i64 (a : Int), .bool true, .bool false] w (PartTo w ((1, k, v.1), v.2.1, v.2.2)) := by
  have HB := Lib.hid (below1 w (.cells zt 43))
  have S1 := Lib.hid (fun w => rsign_any l a 33 w hl (by omega))
  rw [hs] at S1
  have R1 := Lib.hid (fun w => run_any true l a w hl ha)
  rw [hr] at R1
  have S2 := Lib.hid (fun w => rsign_any l (b) 33 w hl (by omega))
  rw [h3] at S2
  have S3 := Lib.hid (fun w => rsign_any l (b) 61 w hl (by omega))
  rw [h6] at S3
  have hz : b + 1 ≤ l.length := sign_lt h6
  clear h3 h6
  have R2 := Lib.hid (fun w => run_any false l (b + 1) w hl hz)
  rw [hv] at R2
  obtain ⟨vw, vb, ve⟩ := v
  clear hs hr hv
  go_enter Try.func67, Try.ntmps67
  go_wp2_with fail
  refine (S1.out _).mono ?_
  rintro e w1 ⟨rfl, rfl⟩
  go_wp2_with fail
  refine (R1.out _).mono ?_
  rintro e w1 ⟨rfl, rfl⟩
  go_wp2_with fail
  refine (S2.out _).mono ?_
  rintro e w1 ⟨rfl, rfl⟩
  go_wp2_with fail
  refine (S3.out _).mono ?_
  rintro e w1 ⟨rfl, rfl⟩
  go_wp2_with fail
  refine (R2.out _).mono ?_
  rintro e w1 ⟨rfl, rfl⟩
  go_wp2
  refine bodyPost_row3 Try.results67 w.heap.size _ _ _ _ (.int .i64 (vb : Int)) (.int .i64 ve) ?d1 ?p1 ?s1 ?u1 (Blk.alloc (Blk.new w _ _) _) Try.underlying43 rfl term_size ?_
  case d1 => rfl
  case p1 => rfl
  case s1 => rfl
  case u1 => rfl
  exact ⟨rfl, (((Below.refl w.heap.size w).alloc (Nat.le_refl _) _).alloc (by simp) _)⟩

set_option maxRecDepth 100000 in
set_option maxHeartbeats 2000000 in
theorem part_lab_plain_ff (l : List UInt8) (a : Nat) (w : World) (hl : l.length ≤ 300) (ha : a ≤ l.length) (hs : signL l a 33 = false) (k : List UInt8) (b : Nat) (hr : runF true l a = (k, b, 0)) (hb : b ≤ l.length) (h3 : signL l b 33 = false) (h6 : signL l b 61 = true) (v : List UInt8 × Nat × Int) (hv : runF false l (b + 1) = v) :
    Calls Try.prog 67 #[strV l, .int .i64 (a : Int), .bool true, .bool false] w (PartTo w ((1, k, v.1), v.2.1, v.2.2)) := by
  have HB := Lib.hid (below1 w (.cells zt 43))
  have S1 := Lib.hid (fun w => rsign_any l a 33 w hl (by omega))
  rw [hs] at S1
  have R1 := Lib.hid (fun w => run_any true l a w hl ha)
  rw [hr] at R1
  have S2 := Lib.hid (fun w => rsign_any l (b) 33 w hl (by omega))
  rw [h3] at S2
  have S3 := Lib.hid (fun w => rsign_any l (b) 61 w hl (by omega))
  rw [h6] at S3
  have hz : b + 1 ≤ l.length := sign_lt h6
  clear h3 h6
  have R2 := Lib.hid (fun w => run_any false l (b + 1) w hl hz)
  rw [hv] at R2
  obtain ⟨vw, vb, ve⟩ := v
  clear hs hr hv
  go_enter Try.func67, Try.ntmps67
  go_wp2_with fail
  refine (S1.out _).mono ?_
  rintro e w1 ⟨rfl, rfl⟩
  go_wp2_with fail
  refine (R1.out _).mono ?_
  rintro e w1 ⟨rfl, rfl⟩
  go_wp2_with fail
  refine (S2.out _).mono ?_
  rintro e w1 ⟨rfl, rfl⟩
  go_wp2_with fail
  refine (S3.out _).mono ?_
  rintro e w1 ⟨rfl, rfl⟩
  go_wp2_with fail
  refine (R2.out _).mono ?_
  rintro e w1 ⟨rfl, rfl⟩
  go_wp2
  refine bodyPost_row3 Try.results67 w.heap.size _ _ _ _ (.int .i64 (vb : Int)) (.int .i64 ve) ?d1 ?p1 ?s1 ?u1 (Blk.alloc (Blk.new w _ _) _) Try.underlying43 rfl term_size ?_
  case d1 => rfl
  case p1 => rfl
  case s1 => rfl
  case u1 => rfl
  exact ⟨rfl, (((Below.refl w.heap.size w).alloc (Nat.le_refl _) _).alloc (by simp) _)⟩

end Go.Proofs.Ytepmmcalnkchdaa
