/- What readPart answers of every text, place and name: as a plain function. Conditions: the names of the places lie as they were laid; the text is of a million bytes at most. -/
import Derived.Test.YtgmecaaogmpakaaDoorVecNames
import Derived.Test.YtgmecaaogmpakaaDoorVecEach
import Derived.Test.YtgmecaaogmpakaaDoorBackMath
import Derived.Test.YtgmecaaogmpakaaDoorIs
import Derived.Deep.RegionHeld3
namespace Go.Proofs.YtgmecaaogmpakaaDoor
open Go.RowKit

theorem placeF_cases (t : List UInt8) : ∀ f k, placeF t f k = -1 ∨ ∃ j, k ≤ j ∧ j < k + f ∧ placeF t f k = (j : Int) ∧ nameL j = t
  | 0, _ => .inl rfl
  | f + 1, k => by
    rw [placeF]
    by_cases h : nameL k = t
    · rw [if_pos h]
      exact .inr ⟨k, Nat.le_refl _, by omega, rfl, h⟩
    · rw [if_neg h]
      rcases placeF_cases t f (k + 1) with g | ⟨j, h1, h2, h3, h4⟩
      · exact .inl g
      · exact .inr ⟨j, by omega, by omega, h3, h4⟩
theorem placeL_cases (t : List UInt8) (k : Nat) (hk : k ≤ 5) : placeL t k = -1 ∨ ∃ j, k ≤ j ∧ j < 5 ∧ placeL t k = (j : Int) := by
  rcases placeF_cases t (5 - k) k with g | ⟨j, h1, h2, h3, _⟩
  · exact .inl g
  · exact .inr ⟨j, h1, by omega, h3⟩

/-- A part lies in this block. -/
def PartAt (w : World) (b : Nat) (p n z : Int) : Prop := w.heap[b]? = some (.cells #[.int .i64 p, .int .i64 n, .int .i64 z] 62 (0, 0))
theorem PartAt.lt {w : World} {b : Nat} {p n z : Int} (h : PartAt w b p n z) : b < w.heap.size := by
  unfold PartAt at h
  rcases Nat.lt_or_ge b w.heap.size with g | g
  · exact g
  · rw [Array.getElem?_eq_none g] at h; cases h
theorem PartAt.below {w w' : World} {b B : Nat} {p n z : Int} (h : PartAt w b p n z) (hb : Below B w w') (hB : b < B) : PartAt w' b p n z := by
  unfold PartAt at h ⊢
  rw [hb.block b hB, h]
theorem PartAt.put {w : World} {b : Nat} {p n z : Int} (h : PartAt w b p n z) (p' n' z' : Int) : PartAt (w.setRow b #[.int .i64 p', .int .i64 n', .int .i64 z']) b p' n' z' := setRow_heap w b _ _ _ _ h
theorem part_size : (Tryd.prog.info? 62).map (·.size) = some 3 := by kernel_rfl

theorem results_row3 {P : Program} {fn : Func} {p s u : Tmp} {ty : TypeId} (h : fn.results = #[.cell p ty, .tmp s, .tmp u]) (tmps : Array Value) (w : World) (g : Nat) (t : TypeId) (cs : Array Value) (fr : Nat × Nat) (d : TypeDesc) (v v2 : Value)
    (hp : tmps.getD p undef = .pointer (some ⟨g, 0, none⟩)) (hs : tmps.getD s undef = v) (hu2 : tmps.getD u undef = v2) (hg : w.heap[g]? = some (.cells cs t fr))
    (hu : P.underlying ty = some d) (hd : (match d with | .struct _ | .array _ _ => true | _ => false) = true) (hi : (P.info? ty).map (·.size) = some cs.size) :
    (results fn tmps).run P w = .ok (.tuple #[.agg cs, v, v2]) w := by
  have hp' : tmps[p]?.getD undef = .pointer (some ⟨g, 0, none⟩) := by simpa using hp
  have hs' : tmps[s]?.getD undef = v := by simpa using hs
  have hu' : tmps[u]?.getD undef = v2 := by simpa using hu2
  simp [results, h, hp', hs', hu', asAddr, run_loadVar_row w g t ty cs fr d hg hu hd hi]
theorem bodyPost_row3 {P : Program} {fn : Func} {p s u : Tmp} {ty : TypeId} {R : Ending → World → Prop} {a : Act} {w : World} (h : fn.results = #[.cell p ty, .tmp s, .tmp u]) (g : Nat) (t : TypeId) (cs : Array Value) (fr : Nat × Nat) (d : TypeDesc) (v v2 : Value)
    (hd0 : a.defers = []) (hp : a.tmps.getD p undef = .pointer (some ⟨g, 0, none⟩)) (hs : a.tmps.getD s undef = v) (hu2 : a.tmps.getD u undef = v2) (hg : w.heap[g]? = some (.cells cs t fr))
    (hu : P.underlying ty = some d) (hd : (match d with | .struct _ | .array _ _ => true | _ => false) = true) (hi : (P.info? ty).map (·.size) = some cs.size)
    (hR : R (.returned (.tuple #[.agg cs, v, v2])) w) : bodyPost P fn R .ret a w :=
  bodyPost_ret (results_row3 h a.tmps w g t cs fr d v v2 hp hs hu2 hg hu hd hi) hd0 hR

/-- Where a name goes up to, what it is, where its quantity goes up to, and what that says. -/
def nameAt (l : List UInt8) (a next : Nat) : Int := placeL ((l.drop a).take (upToL l a 61 - a)) next
def qtyAt (l : List UInt8) (b : Nat) (milli : Bool) : Int × Int × Int := parseL ⟨((l.drop b).take (upToL l b 44 - b)).toArray⟩ milli

theorem upTo_is (l : List UInt8) (a q : Nat) (i c : Int) (b : UInt8) (w : World) (hl : l.length ≤ 1000000) (ha : a ≤ l.length) (hi : i = (a : Int)) (hc : c = (b.toNat : Int)) (hq : upToL l a b = q) :
    Calls Tryd.prog 56 #[.string ⟨l.toArray⟩, .int .i64 i, .int .u8 c] w fun e w' => e = .returned (.int .i64 (q : Int)) ∧ w = w' := by
  subst hi hc hq
  exact upTo_any l a b w hl ha
theorem place_is (l : List UInt8) (a q next : Nat) (p : Int) (w : World) (hn : next ≤ 5) (ht : NamesAt w) (hp : placeL ((l.drop a).take (q - a)) next = p) :
    Calls Tryd.prog 57 #[.string ((⟨l.toArray⟩ : ByteArray).extract a q), .int .i64 (next : Int)] w fun e w' => e = .returned (.int .i64 p) ∧ w = w' := by
  subst hp
  rw [cut_bytes]
  exact place_any _ next w hn ht
theorem qty_is (l : List UInt8) (b z : Nat) (milli : Bool) (n x e0 : Int) (w : World) (h : parseL ⟨((l.drop b).take (z - b)).toArray⟩ milli = (n, x, e0)) :
    Calls Tryd.prog 58 #[.string ((⟨l.toArray⟩ : ByteArray).extract b z), .bool milli] w fun e w' => e = .returned (.tuple #[.int .i64 n, .int .i64 x, .int .i64 e0]) ∧ Below w.heap.size w w' := by
  rw [cut_bytes]
  exact parse_is _ milli w n x e0 h

theorem ways_in (a n next : Nat) (hn : ¬ (a = n ∧ next < 5)) : ((a : Int) == (n : Int)) = false ∨ (((a : Int) == (n : Int)) = true ∧ decide ((next : Int) < 5) = false) := by
  by_cases h : a = n
  · have h5 : ¬ next < 5 := fun g => hn ⟨h, g⟩
    refine .inr ⟨by simp [h], ?_⟩
    simp
    omega
  · refine .inl ?_
    simp
    omega

theorem part_new (w : World) : PartAt (w.alloc (.cells #[.int .i64 0, .int .i64 0, .int .i64 0] 62)) w.heap.size 0 0 0 := heap_alloc_new _ _

set_option maxRecDepth 100000 in
set_option maxHeartbeats 400000 in
theorem part_end (l : List UInt8) (a next : Nat) (w : World) (ha : a = l.length) (hn : next < 5) :
    Calls Tryd.prog 48 #[.string ⟨l.toArray⟩, .int .i64 (a : Int), .int .i64 (next : Int)] w fun e w' => e = .returned (.tuple #[.agg #[.int .i64 0, .int .i64 0, .int .i64 0], .int .i64 (a : Int), .int .i64 3]) ∧ Below w.heap.size w w' := by
  have h1 : ((a : Int) == (l.length : Int)) = true := by simp [ha]
  have h3 : decide ((next : Int) < 5) = true := by simp; omega
  have Ha := Lib.hid ha
  clear ha
  go_enter Tryd.func48, Tryd.ntmps48
  go_wp2
  refine bodyPost_row3 Tryd.results48 w.heap.size _ _ _ _ (.int .i64 (a : Int)) (.int .i64 3) ?d1 ?p1 ?s1 ?u1 (part_new w) Tryd.underlying62 rfl part_size ?_
  case d1 => rfl
  case p1 => rfl
  case s1 => rfl
  case u1 => rfl
  exact ⟨rfl, below1 _ _⟩

set_option maxRecDepth 100000 in
set_option maxHeartbeats 1000000 in
theorem part_form (l : List UInt8) (a next q : Nat) (w : World) (hl : l.length ≤ 1000000) (hnm : NamesAt w) (hal : a ≤ l.length) (hnx : next ≤ 5) (hn : ¬ (a = l.length ∧ next < 5)) (hq : upToL l a 61 = q) (hp : placeL ((l.drop a).take (q - a)) next = -1) :
    Calls Tryd.prog 48 #[.string ⟨l.toArray⟩, .int .i64 (a : Int), .int .i64 (next : Int)] w fun e w' => e = .returned (.tuple #[.agg #[.int .i64 0, .int .i64 0, .int .i64 0], .int .i64 (a : Int), .int .i64 4]) ∧ Below w.heap.size w w' := by
  have hq0 : a ≤ q := by rw [← hq]; exact upToL_ge l a 61
  have hq1 : q ≤ l.length := by rw [← hq]; exact upToL_le l a 61 hal
  have HN := Lib.hid hnm
  have Hp := Lib.hid hp
  have Hq := Lib.hid hq
  clear hnm hp hq
  have hcase := ways_in a l.length next hn
  clear hn
  rcases hcase with h1 | ⟨h1, h2⟩
  all_goals
    go_enter Tryd.func48, Tryd.ntmps48
    go_wp2_with fail
    refine (upTo_is l a q _ _ 61 _ hl hal rfl rfl Hq.out).mono ?_
    rintro e w1 ⟨rfl, rfl⟩
    go_wp2_with fail
    refine (place_is l a q next _ _ hnx (HN.out.below (below1 _ _)) Hp.out).mono ?_
    rintro e w1 ⟨rfl, rfl⟩
    go_wp2
    refine bodyPost_row3 Tryd.results48 w.heap.size _ _ _ _ (.int .i64 (a : Int)) (.int .i64 4) ?_ ?_ ?_ ?_ (part_new w) Tryd.underlying62 rfl part_size ?_
    rfl
    rfl
    rfl
    rfl
    exact ⟨rfl, below1 _ _⟩

set_option maxRecDepth 100000 in
set_option maxHeartbeats 1000000 in
theorem part_trunc (l : List UInt8) (a next q j : Nat) (w : World) (hl : l.length ≤ 1000000) (hnm : NamesAt w) (hal : a ≤ l.length) (hnx : next ≤ 5) (hn : ¬ (a = l.length ∧ next < 5)) (hq : upToL l a 61 = q) (hp : placeL ((l.drop a).take (q - a)) next = (j : Int)) (hql : q = l.length) :
    Calls Tryd.prog 48 #[.string ⟨l.toArray⟩, .int .i64 (a : Int), .int .i64 (next : Int)] w fun e w' => e = .returned (.tuple #[.agg #[.int .i64 0, .int .i64 0, .int .i64 0], .int .i64 (q : Int), .int .i64 3]) ∧ Below w.heap.size w w' := by
  have hq0 : a ≤ q := by rw [← hq]; exact upToL_ge l a 61
  have hq1 : q ≤ l.length := by rw [← hq]; exact upToL_le l a 61 hal
  have HN := Lib.hid hnm
  have Hp := Lib.hid hp
  have Hq := Lib.hid hq
  have hj : ((j : Int) == -1) = false := by simp
  have hqb : ((q : Int) == (l.length : Int)) = true := by simp [hql]
  have Hql := Lib.hid hql
  clear hnm hp hq hql
  have hcase := ways_in a l.length next hn
  clear hn
  rcases hcase with h1 | ⟨h1, h2⟩
  all_goals
    go_enter Tryd.func48, Tryd.ntmps48
    go_wp2_with fail
    refine (upTo_is l a q _ _ 61 _ hl hal rfl rfl Hq.out).mono ?_
    rintro e w1 ⟨rfl, rfl⟩
    go_wp2_with fail
    refine (place_is l a q next _ _ hnx (HN.out.below (below1 _ _)) Hp.out).mono ?_
    rintro e w1 ⟨rfl, rfl⟩
    go_wp2
    refine bodyPost_row3 Tryd.results48 w.heap.size _ _ _ _ (.int .i64 (q : Int)) (.int .i64 3) ?_ ?_ ?_ ?_ (part_new w) Tryd.underlying62 rfl part_size ?_
    rfl
    rfl
    rfl
    rfl
    exact ⟨rfl, below1 _ _⟩

set_option maxRecDepth 100000 in
set_option maxHeartbeats 1000000 in
theorem part_err (l : List UInt8) (a next q j z : Nat) (n x e0 : Int) (w : World) (hl : l.length ≤ 1000000) (hnm : NamesAt w) (hal : a ≤ l.length) (hnx : next ≤ 5) (hn : ¬ (a = l.length ∧ next < 5)) (hq : upToL l a 61 = q) (hp : placeL ((l.drop a).take (q - a)) next = (j : Int)) (hql : q < l.length) (hz : upToL l (q + 1) 44 = z) (hv : parseL ⟨((l.drop (q + 1)).take (z - (q + 1))).toArray⟩ (decide (j = 0)) = (n, x, e0)) (hx0 : 0 ≤ x) (hx1 : x ≤ (l.length : Int)) (he : e0 ≠ 0) :
    Calls Tryd.prog 48 #[.string ⟨l.toArray⟩, .int .i64 (a : Int), .int .i64 (next : Int)] w fun e w' => e = .returned (.tuple #[.agg #[.int .i64 0, .int .i64 0, .int .i64 0], .int .i64 ((q : Int) + 1 + x), .int .i64 e0]) ∧ Below w.heap.size w w' := by
  have hq0 : a ≤ q := by rw [← hq]; exact upToL_ge l a 61
  have hq1 : q ≤ l.length := by rw [← hq]; exact upToL_le l a 61 hal
  have HN := Lib.hid hnm
  have Hp := Lib.hid hp
  have Hq := Lib.hid hq
  have hj : ((j : Int) == -1) = false := by simp
  have hqb : ((q : Int) == (l.length : Int)) = false := by simp; omega
  have hz0 : q + 1 ≤ z := by rw [← hz]; exact upToL_ge l (q + 1) 44
  have hz1 : z ≤ l.length := by rw [← hz]; exact upToL_le l (q + 1) 44 hql
  have Hz := Lib.hid hz
  have Hv := Lib.hid hv
  have Hql := Lib.hid hql
  have heb : (e0 != 0) = true := by simpa using he
  have He := Lib.hid he
  clear hnm hp hq hz hv he
  have hcase := ways_in a l.length next hn
  clear hn
  rcases hcase with h1 | ⟨h1, h2⟩
  all_goals
    go_enter Tryd.func48, Tryd.ntmps48
    go_wp2_with fail
    refine (upTo_is l a q _ _ 61 _ hl hal rfl rfl Hq.out).mono ?_
    rintro e w1 ⟨rfl, rfl⟩
    go_wp2_with fail
    refine (place_is l a q next _ _ hnx (HN.out.below (below1 _ _)) Hp.out).mono ?_
    rintro e w1 ⟨rfl, rfl⟩
    go_wp2_with fail
    refine (upTo_is l (q + 1) z _ _ 44 _ hl Hql.out (by omega) rfl Hz.out).mono ?_
    rintro e w1 ⟨rfl, rfl⟩
    have s0 : (0 : Int) ≤ (q : Int) + 1 := by omega
    have s1 : (q : Int) + 1 ≤ (z : Int) := by omega
    have s2 : (z : Int) ≤ (l.length : Int) := by omega
    have s3 : ((q : Int) + 1).toNat = q + 1 := by omega
    go_wp2
    go_region_held3 (fun _ => True) (exact trivial)
      (first | (go_at_call 44; refine (milli_any j _).mono ?_; rintro e w2 ⟨rfl, rfl⟩) | (go_at_call 58; refine (qty_is l (q + 1) z _ n x e0 _ Hv.out).mono ?_; rintro e w2 ⟨rfl, hb2⟩; have HB2 := Lib.hid hb2; clear hb2))
    have Hpt := Lib.hid (PartAt.below (w := (w.alloc (.cells #[.int .i64 0, .int .i64 0, .int .i64 0] 62)).drew) (part_new w) HB2.out (part_new w).lt)
    have HB := Lib.hid (((below1 w (.cells #[.int .i64 0, .int .i64 0, .int .i64 0] 62)).drew).trans (HB2.out.mono (below1 w _).size))
    clear s0 s1 s2 s3
    go_wp2_with (refine wpList_store_row rfl 62 (.tmp 6) (.tmp 61) rfl w.heap.size #[.int .i64 0, .int .i64 0, .int .i64 0] rfl rfl 62 _ Hpt.out part_size (by kernel_rfl) (by kernel_rfl) ?_)
    refine bodyPost_row3 Tryd.results48 w.heap.size _ _ _ _ (.int .i64 ((q : Int) + 1 + x)) (.int .i64 e0) ?_ ?_ ?_ ?_ (Hpt.out.put 0 0 0) Tryd.underlying62 rfl part_size ?_
    rfl
    rfl
    rfl
    rfl
    exact ⟨rfl, below_setRow HB.out (Nat.le_refl _) _⟩

set_option maxRecDepth 100000 in
set_option maxHeartbeats 1000000 in
theorem part_zero_qty (l : List UInt8) (a next q j z : Nat) (x : Int) (w : World) (hl : l.length ≤ 1000000) (hnm : NamesAt w) (hal : a ≤ l.length) (hnx : next ≤ 5) (hn : ¬ (a = l.length ∧ next < 5)) (hq : upToL l a 61 = q) (hp : placeL ((l.drop a).take (q - a)) next = (j : Int)) (hql : q < l.length) (hz : upToL l (q + 1) 44 = z) (hv : parseL ⟨((l.drop (q + 1)).take (z - (q + 1))).toArray⟩ (decide (j = 0)) = (0, x, 0)) :
    Calls Tryd.prog 48 #[.string ⟨l.toArray⟩, .int .i64 (a : Int), .int .i64 (next : Int)] w fun e w' => e = .returned (.tuple #[.agg #[.int .i64 0, .int .i64 0, .int .i64 0], .int .i64 (a : Int), .int .i64 4]) ∧ Below w.heap.size w w' := by
  have hq0 : a ≤ q := by rw [← hq]; exact upToL_ge l a 61
  have hq1 : q ≤ l.length := by rw [← hq]; exact upToL_le l a 61 hal
  have HN := Lib.hid hnm
  have Hp := Lib.hid hp
  have Hq := Lib.hid hq
  have hj : ((j : Int) == -1) = false := by simp
  have hqb : ((q : Int) == (l.length : Int)) = false := by simp; omega
  have hz0 : q + 1 ≤ z := by rw [← hz]; exact upToL_ge l (q + 1) 44
  have hz1 : z ≤ l.length := by rw [← hz]; exact upToL_le l (q + 1) 44 hql
  have Hz := Lib.hid hz
  have Hv := Lib.hid hv
  have Hql := Lib.hid hql
  clear hnm hp hq hz hv
  have hcase := ways_in a l.length next hn
  clear hn
  rcases hcase with h1 | ⟨h1, h2⟩
  all_goals
    go_enter Tryd.func48, Tryd.ntmps48
    go_wp2_with fail
    refine (upTo_is l a q _ _ 61 _ hl hal rfl rfl Hq.out).mono ?_
    rintro e w1 ⟨rfl, rfl⟩
    go_wp2_with fail
    refine (place_is l a q next _ _ hnx (HN.out.below (below1 _ _)) Hp.out).mono ?_
    rintro e w1 ⟨rfl, rfl⟩
    go_wp2_with fail
    refine (upTo_is l (q + 1) z _ _ 44 _ hl Hql.out (by omega) rfl Hz.out).mono ?_
    rintro e w1 ⟨rfl, rfl⟩
    have s0 : (0 : Int) ≤ (q : Int) + 1 := by omega
    have s1 : (q : Int) + 1 ≤ (z : Int) := by omega
    have s2 : (z : Int) ≤ (l.length : Int) := by omega
    have s3 : ((q : Int) + 1).toNat = q + 1 := by omega
    go_wp2
    go_region_held3 (fun _ => True) (exact trivial)
      (first | (go_at_call 44; refine (milli_any j _).mono ?_; rintro e w2 ⟨rfl, rfl⟩) | (go_at_call 58; refine (qty_is l (q + 1) z _ 0 x 0 _ Hv.out).mono ?_; rintro e w2 ⟨rfl, hb2⟩; have HB2 := Lib.hid hb2; clear hb2))
    have Hpt := Lib.hid (PartAt.below (w := (w.alloc (.cells #[.int .i64 0, .int .i64 0, .int .i64 0] 62)).drew) (part_new w) HB2.out (part_new w).lt)
    have HB := Lib.hid (((below1 w (.cells #[.int .i64 0, .int .i64 0, .int .i64 0] 62)).drew).trans (HB2.out.mono (below1 w _).size))
    clear s0 s1 s2 s3
    go_wp2_with (refine wpList_store_row rfl 62 (.tmp 6) (.tmp 68) rfl w.heap.size #[.int .i64 0, .int .i64 0, .int .i64 0] rfl rfl 62 _ Hpt.out part_size (by kernel_rfl) (by kernel_rfl) ?_)
    refine bodyPost_row3 Tryd.results48 w.heap.size _ _ _ _ (.int .i64 (a : Int)) (.int .i64 4) ?_ ?_ ?_ ?_ (Hpt.out.put 0 0 0) Tryd.underlying62 rfl part_size ?_
    rfl
    rfl
    rfl
    rfl
    exact ⟨rfl, below_setRow HB.out (Nat.le_refl _) _⟩

set_option maxRecDepth 100000 in
set_option maxHeartbeats 1000000 in
theorem part_ok (l : List UInt8) (a next q j z : Nat) (n x : Int) (w : World) (hl : l.length ≤ 1000000) (hnm : NamesAt w) (hal : a ≤ l.length) (hnx : next ≤ 5) (hn : ¬ (a = l.length ∧ next < 5)) (hq : upToL l a 61 = q) (hp : placeL ((l.drop a).take (q - a)) next = (j : Int)) (hql : q < l.length) (hz : upToL l (q + 1) 44 = z) (hv : parseL ⟨((l.drop (q + 1)).take (z - (q + 1))).toArray⟩ (decide (j = 0)) = (n, x, 0)) (hn0 : n ≠ 0) :
    Calls Tryd.prog 48 #[.string ⟨l.toArray⟩, .int .i64 (a : Int), .int .i64 (next : Int)] w fun e w' => e = .returned (.tuple #[.agg #[.int .i64 (j : Int), .int .i64 n, .int .i64 (z : Int)], .int .i64 0, .int .i64 0]) ∧ Below w.heap.size w w' := by
  have hq0 : a ≤ q := by rw [← hq]; exact upToL_ge l a 61
  have hq1 : q ≤ l.length := by rw [← hq]; exact upToL_le l a 61 hal
  have HN := Lib.hid hnm
  have Hp := Lib.hid hp
  have Hq := Lib.hid hq
  have hj : ((j : Int) == -1) = false := by simp
  have hqb : ((q : Int) == (l.length : Int)) = false := by simp; omega
  have hz0 : q + 1 ≤ z := by rw [← hz]; exact upToL_ge l (q + 1) 44
  have hz1 : z ≤ l.length := by rw [← hz]; exact upToL_le l (q + 1) 44 hql
  have Hz := Lib.hid hz
  have Hv := Lib.hid hv
  have Hql := Lib.hid hql
  have hnb : (n == 0) = false := by simpa using hn0
  have Hn0 := Lib.hid hn0
  clear hnm hp hq hz hv hn0
  have hcase := ways_in a l.length next hn
  clear hn
  rcases hcase with h1 | ⟨h1, h2⟩
  all_goals
    go_enter Tryd.func48, Tryd.ntmps48
    go_wp2_with fail
    refine (upTo_is l a q _ _ 61 _ hl hal rfl rfl Hq.out).mono ?_
    rintro e w1 ⟨rfl, rfl⟩
    go_wp2_with fail
    refine (place_is l a q next _ _ hnx (HN.out.below (below1 _ _)) Hp.out).mono ?_
    rintro e w1 ⟨rfl, rfl⟩
    go_wp2_with fail
    refine (upTo_is l (q + 1) z _ _ 44 _ hl Hql.out (by omega) rfl Hz.out).mono ?_
    rintro e w1 ⟨rfl, rfl⟩
    have s0 : (0 : Int) ≤ (q : Int) + 1 := by omega
    have s1 : (q : Int) + 1 ≤ (z : Int) := by omega
    have s2 : (z : Int) ≤ (l.length : Int) := by omega
    have s3 : ((q : Int) + 1).toNat = q + 1 := by omega
    go_wp2
    go_region_held3 (fun _ => True) (exact trivial)
      (first | (go_at_call 44; refine (milli_any j _).mono ?_; rintro e w2 ⟨rfl, rfl⟩) | (go_at_call 58; refine (qty_is l (q + 1) z _ n x 0 _ Hv.out).mono ?_; rintro e w2 ⟨rfl, hb2⟩; have HB2 := Lib.hid hb2; clear hb2))
    have Hpt := Lib.hid (PartAt.below (w := (w.alloc (.cells #[.int .i64 0, .int .i64 0, .int .i64 0] 62)).drew) (part_new w) HB2.out (part_new w).lt)
    have HB := Lib.hid (((below1 w (.cells #[.int .i64 0, .int .i64 0, .int .i64 0] 62)).drew).trans (HB2.out.mono (below1 w _).size))
    clear s0 s1 s2 s3
    go_wp2_with (refine wpList_store_row rfl 62 (.tmp 6) (.tmp 73) rfl w.heap.size #[.int .i64 (j : Int), .int .i64 n, .int .i64 (z : Int)] rfl rfl 62 _ Hpt.out part_size (by kernel_rfl) (by kernel_rfl) ?_)
    refine bodyPost_row3 Tryd.results48 w.heap.size _ _ _ _ (.int .i64 0) (.int .i64 0) ?_ ?_ ?_ ?_ (Hpt.out.put (j : Int) n (z : Int)) Tryd.underlying62 rfl part_size ?_
    rfl
    rfl
    rfl
    rfl
    exact ⟨rfl, below_setRow HB.out (Nat.le_refl _) _⟩

end Go.Proofs.YtgmecaaogmpakaaDoor
