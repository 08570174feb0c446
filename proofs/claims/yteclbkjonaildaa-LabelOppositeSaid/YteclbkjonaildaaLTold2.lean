/- What the law makes of a pair: a term. No conditions. -/
import Derived.Test.YteclbkjonaildaaLTold
import Derived.Test.YteclbkjonaildaaLLabel
import Derived.Deep.RegionHeld3
import Derived.Deep.DeepCutAuto
namespace Go.Proofs.Yteclbkjonaildaa
open Go.RowKit

def termF (x : Int × Int × Int) : Int × List UInt8 × List UInt8 := (1 + x.2.2 % 4, smallF x.1, if 1 + x.2.2 % 4 = 1 ∨ 1 + x.2.2 % 4 = 2 then valueF x.2.1 else [])

theorem Blk.c3' {w : World} {b : Nat} {x y z : Value} {t : TypeId} (h : Blk w b #[x, y, z] t) : w.cell? ⟨b, 0, none⟩ = some x ∧ w.cell? ⟨b, 1, none⟩ = some y ∧ w.cell? ⟨b, 2, none⟩ = some z ∧ True := ⟨h.cell 0, h.cell 1, h.cell 2, trivial⟩
theorem Blk.set3n {w : World} {b : Nat} {x y z : Value} {t : TypeId} (h : Blk w b #[x, y, z] t) (u0 u1 u2 : Value) : Blk (((w.setCell ⟨b, 0, none⟩ u0).setCell ⟨b, 1, none⟩ u1).setCell ⟨b, 2, none⟩ u2) b #[u0, u1, u2] t := by
  have h1 := ((h.set 0 u0).set 1 u1).set 2 u2
  simpa using h1
theorem Blk.oth3n {w : World} {b : Nat} {cs : Array Value} {t : TypeId} (h : Blk w b cs t) {g : Nat} (hne : b ≠ g) (u0 u1 u2 : Value) : Blk (((w.setCell ⟨g, 0, none⟩ u0).setCell ⟨g, 1, none⟩ u1).setCell ⟨g, 2, none⟩ u2) b cs t := ((h.oth hne 0 u0).oth hne 1 u1).oth hne 2 u2
theorem below_set3 {B : Nat} {a w : World} (h : Below B a w) {g : Nat} (hg : B ≤ g) (u0 u1 u2 : Value) : Below B a (((w.setCell ⟨g, 0, none⟩ u0).setCell ⟨g, 1, none⟩ u1).setCell ⟨g, 2, none⟩ u2) := ((h.setCell hg _).setCell hg _).setCell hg _
theorem cell?_setCell_far (w : World) (p q : Addr) (x : Value) (h : p.block ≠ q.block) : (w.setCell p x).cell? q = w.cell? q := by
  apply World.cell?_of_block
  show (w.heap.modify p.block _)[q.block]? = w.heap[q.block]?
  rw [Array.getElem?_modify, if_neg h]

/-- A row is handed back. -/
theorem results_row1 {P : Program} {fn : Func} {p : Tmp} {ty : TypeId} (h : fn.results = #[.cell p ty]) (tmps : Array Value) (w : World) (g : Nat) (t : TypeId) (cs : Array Value) (fr : Nat × Nat) (d : TypeDesc)
    (hp : tmps.getD p undef = .pointer (some ⟨g, 0, none⟩)) (hg : w.heap[g]? = some (.cells cs t fr))
    (hu : P.underlying ty = some d) (hd : (match d with | .struct _ | .array _ _ => true | _ => false) = true) (hi : (P.info? ty).map (·.size) = some cs.size) :
    (results fn tmps).run P w = .ok (.agg cs) w := by
  have hp' : tmps[p]?.getD undef = .pointer (some ⟨g, 0, none⟩) := by simpa using hp
  simp [results, h, hp', asAddr, run_loadVar_row w g t ty cs fr d hg hu hd hi]
theorem bodyPost_row1 {P : Program} {fn : Func} {p : Tmp} {ty : TypeId} {R : Ending → World → Prop} {a : Act} {w : World} (h : fn.results = #[.cell p ty]) (g : Nat) (t : TypeId) (cs : Array Value) (fr : Nat × Nat) (d : TypeDesc)
    (hd0 : a.defers = []) (hp : a.tmps.getD p undef = .pointer (some ⟨g, 0, none⟩)) (hg : w.heap[g]? = some (.cells cs t fr))
    (hu : P.underlying ty = some d) (hd : (match d with | .struct _ | .array _ _ => true | _ => false) = true) (hi : (P.info? ty).map (·.size) = some cs.size)
    (hR : R (.returned (.agg cs)) w) : bodyPost P fn R .ret a w :=
  bodyPost_ret (results_row1 h a.tmps w g t cs fr d hp hg hu hd hi) hd0 hR

/-- What stands behind the composite. -/
def MadeT (w : World) (a b c : Int) (t : Int × List UInt8 × List UInt8) (s : Value) (wc : World) : Prop :=
  ∃ p : Nat, s = .pointer (some ⟨p, 0, none⟩) ∧ w.heap.size + 1 < p ∧ Blk wc p #[.int .i64 t.1, strV t.2.1, strV t.2.2] 43 ∧ Blk wc w.heap.size #[.int .i64 a, .int .i64 b, .int .i64 c] 46 ∧ Blk wc (w.heap.size + 1) #[.int .i64 0, .string ⟨#[]⟩, .string ⟨#[]⟩] 43 ∧ Below w.heap.size w wc

set_option maxHeartbeats 1000000 in
theorem termN_any (x : Int × Int × Int) (w : World) : Calls Try.prog 25 #[.agg #[.int .i64 x.1, .int .i64 x.2.1, .int .i64 x.2.2]] w fun e w' => e = .returned (.agg #[.int .i64 (termF x).1, strV (termF x).2.1, strV (termF x).2.2]) ∧ Below w.heap.size w w' := by
  obtain ⟨a, b, c⟩ := x
  have b0 : (0 : Int) ≤ c % 4 := Int.emod_nonneg _ (by decide)
  have b1 : c % 4 < 4 := Int.emod_lt_of_pos _ (by decide)
  have KB := Lib.hid (fun w => bring_any c 4 w (by decide) (by decide))
  have KS := Lib.hid (fun w => small_any a w)
  have KV := Lib.hid (fun w => valueN_any b w)
  obtain ⟨k, hk⟩ : ∃ k : Int, c % 4 = k := ⟨_, rfl⟩
  unfold termF
  simp only
  rw [hk] at b0 b1 KB ⊢
  have hw : IntKind.i64.wrap (1 + k) = 1 + k := IntWalk.i64_in _ (by omega)
  clear hk
  generalize hV : (if 1 + k = 1 ∨ 1 + k = 2 then valueF b else []) = V
  have HV := Lib.hid hV
  clear hV
  obtain ⟨W0, hW0⟩ : ∃ W0 : World, (w.alloc (.cells #[.int .i64 a, .int .i64 b, .int .i64 c] 46)).alloc (.cells #[.int .i64 0, .string ⟨#[]⟩, .string ⟨#[]⟩] 43) = W0 := ⟨_, rfl⟩
  have BX : Blk W0 w.heap.size #[.int .i64 a, .int .i64 b, .int .i64 c] 46 := by rw [← hW0]; exact Blk.alloc (Blk.new w _ _) _
  have BT : Blk W0 (w.heap.size + 1) #[.int .i64 0, .string ⟨#[]⟩, .string ⟨#[]⟩] 43 := by
    have := Blk.new (w.alloc (.cells #[.int .i64 a, .int .i64 b, .int .i64 c] 46)) #[.int .i64 0, .string ⟨#[]⟩, .string ⟨#[]⟩] 43
    rw [hW0] at this
    simpa using this
  have B0 : Hid (Below w.heap.size w W0) := Lib.hid (by rw [← hW0]; exact ((Below.refl _ _).alloc (Nat.le_refl _) _).alloc (by simp) _)
  obtain ⟨qx0, qx1, qx2, _⟩ := BX.c3'
  obtain ⟨qt0, qt1, qt2, _⟩ := BT.c3'
  have qf0 := BT.free 0
  have qf1 := BT.free 1
  have qf2 := BT.free 2
  have hxl := BX.lt
  have htl := BT.lt
  have HBX := Lib.hid BX
  have HBT := Lib.hid BT
  clear BX BT
  go_enter Try.func25, Try.ntmps25
  go_wp2_with fail
  clear hW0
  go_cut [3] (fun s3 wc => MadeT w a b c (1 + k, smallF a, []) s3 wc)
  case first =>
    have hn0 := World.new_ne W0 ⟨w.heap.size, 0, none⟩ qx0
    have hn2 := World.new_ne W0 ⟨w.heap.size, 2, none⟩ qx2
    go_region_held3 (fun w' => w'.cell? ⟨w.heap.size, 0, none⟩ = some (.int .i64 a) ∧ w'.cell? ⟨w.heap.size, 2, none⟩ = some (.int .i64 c)) (first | exact ⟨qx0, qx2⟩ | exact ⟨by assumption, by assumption⟩ | go_keep | (refine ⟨?_, ?_⟩ <;> (rw [cell?_setCell_far _ _ _ _ (by simpa using hn0), cell?_setCell_far _ _ _ _ (by simpa using hn0), cell?_setCell_far _ _ _ _ (by simpa using hn0)]; assumption)))
      (first
        | ((with_reducible refine (KB.out _).mono ?_); rintro e w3 ⟨rfl, rfl⟩)
        | ((with_reducible refine (KS.out _).mono ?_); rintro e w3 ⟨rfl, hb3⟩; have px0 := (hb3.cell (p := ⟨w.heap.size, 0, none⟩) (by simp; omega)).trans (by first | exact qx0 | assumption | (go_split_ands; assumption)); have px2 := (hb3.cell (p := ⟨w.heap.size, 2, none⟩) (by simp; omega)).trans (by first | exact qx2 | assumption | (go_split_ands; assumption)); (try (have pt0 := (hb3.cell (p := ⟨W0.heap.size, 0, none⟩) (by simp)).trans (Blk.cell (Blk.new W0 #[.int .i64 0, .string ⟨#[]⟩, .string ⟨#[]⟩] 43) 0))); (try (have pf0 := (hb3.frozen (p := ⟨W0.heap.size, 0, none⟩) (by simp)).trans (Blk.free (Blk.new W0 #[.int .i64 0, .string ⟨#[]⟩, .string ⟨#[]⟩] 43) 0))); (try (have pt1 := (hb3.cell (p := ⟨W0.heap.size, 1, none⟩) (by simp)).trans (Blk.cell (Blk.new W0 #[.int .i64 0, .string ⟨#[]⟩, .string ⟨#[]⟩] 43) 1))); (try (have pf1 := (hb3.frozen (p := ⟨W0.heap.size, 1, none⟩) (by simp)).trans (Blk.free (Blk.new W0 #[.int .i64 0, .string ⟨#[]⟩, .string ⟨#[]⟩] 43) 1))); (try (have pt2 := (hb3.cell (p := ⟨W0.heap.size, 2, none⟩) (by simp)).trans (Blk.cell (Blk.new W0 #[.int .i64 0, .string ⟨#[]⟩, .string ⟨#[]⟩] 43) 2))); (try (have pf2 := (hb3.frozen (p := ⟨W0.heap.size, 2, none⟩) (by simp)).trans (Blk.free (Blk.new W0 #[.int .i64 0, .string ⟨#[]⟩, .string ⟨#[]⟩] 43) 2))); have HB3 := Lib.hid hb3; clear hb3))
    all_goals
      go_wp2_with fail
      go_meet
      first
        | (have hb := ((Below.refl W0.heap.size W0).drew).trans HB3.out
           have hz := hb.size
           exact ⟨_, rfl, by omega, Blk.new _ _ _, (HBX.out.below hb hxl).alloc _, (HBT.out.below hb htl).alloc _, (B0.out.trans (hb.mono (by omega))).alloc (by omega) _⟩)
        | (have hb0 := ((Below.refl (W0.alloc (.cells #[.int .i64 0, .string ⟨#[]⟩, .string ⟨#[]⟩] 43)).heap.size (W0.alloc (.cells #[.int .i64 0, .string ⟨#[]⟩, .string ⟨#[]⟩] 43))).drew).trans HB3.out
           have hn : Blk _ W0.heap.size #[.int .i64 0, .string ⟨#[]⟩, .string ⟨#[]⟩] 43 := (Blk.new W0 _ _).below hb0 (by simp)
           have hbx := (HBX.out.alloc (.cells #[.int .i64 0, .string ⟨#[]⟩, .string ⟨#[]⟩] 43)).below hb0 (by simp; omega)
           have hbt := (HBT.out.alloc (.cells #[.int .i64 0, .string ⟨#[]⟩, .string ⟨#[]⟩] 43)).below hb0 (by simp; omega)
           have hbb := (B0.out.alloc B0.out.size (.cells #[.int .i64 0, .string ⟨#[]⟩, .string ⟨#[]⟩] 43)).trans (hb0.mono (by simp; omega))
           exact ⟨_, rfl, by omega, hn.set3n _ _ _, hbx.oth3n (by omega) _ _ _, hbt.oth3n (by omega) _ _ _, below_set3 hbb (by omega) _ _ _⟩)
  case rest =>
    obtain ⟨p, rfl, hp, hT, hX, hZ, hB⟩ := hcut
    obtain ⟨t0, t1, t2, _⟩ := hT.c3'
    have x1 := hX.cell 1
    obtain ⟨z0, z1, z2, _⟩ := hZ.c3'
    have HT := Lib.hid hT
    have HX := Lib.hid hX
    have HZ := Lib.hid hZ
    have HB := Lib.hid hB
    have tl := hT.lt
    have zl := hZ.lt
    have zf0 := hZ.free 0
    have zf1 := hZ.free 1
    have zf2 := hZ.free 2
    have tf2 := hT.free 2
    simp only at t0 t1 t2 x1
    clear hT hX hZ hB qx0 qx1 qx2 qt0 qt1 qt2 qf0 qf1 qf2 hxl htl HBX HBT B0 KB KS
    by_cases h : 1 + k = 1 ∨ 1 + k = 2
    · obtain rfl : valueF b = V := by
        have := HV.out
        rwa [if_pos h] at this
      have hn : ∀ w1 : World, Below wc.heap.size wc w1 → MadeT w a b c (1 + k, smallF a, valueF b) (.pointer (some ⟨p, 0, none⟩)) (w1.setCell ⟨p, 2, none⟩ (strV (valueF b))) := by
        intro w1 h1
        have a1 := ((HT.out.below h1 tl).set 2 (strV (valueF b)))
        have a2 : Below w.heap.size w w1 := HB.out.trans (h1.mono HB.out.size)
        have a3 : Below w.heap.size w (w1.setCell ⟨p, 2, none⟩ (strV (valueF b))) := a2.setCell (show w.heap.size ≤ p by omega) _
        exact ⟨p, rfl, hp, by simpa using a1, (HX.out.below h1 (by omega)).oth (by omega) _ _, (HZ.out.below h1 (by omega)).oth (by omega) _ _, a3⟩
      have HN := Lib.hid hn
      clear hn
      have g1 : ((1 + k : Int) == 1) = true ∨ ((1 + k : Int) == 1) = false ∧ ((1 + k : Int) == 2) = true := by
        rcases h with h | h
        · exact .inl (by simpa using h)
        · exact .inr ⟨by simp; omega, by simpa using h⟩
      have H := Lib.hid h
      clear h
      rcases g1 with e1 | ⟨e1, e2⟩
      all_goals
        go_wp2_with fail
        refine (KV.out _).mono ?_
        rintro e w1 ⟨rfl, hb⟩
        have y0 := hb.cell (p := ⟨p, 0, none⟩) tl
        have y1 := hb.cell (p := ⟨p, 1, none⟩) tl
        have y2 := hb.cell (p := ⟨p, 2, none⟩) tl
        have f2 := hb.frozen (p := ⟨p, 2, none⟩) tl
        have v0 := hb.cell (p := ⟨w.heap.size + 1, 0, none⟩) zl
        have v1 := hb.cell (p := ⟨w.heap.size + 1, 1, none⟩) zl
        have v2 := hb.cell (p := ⟨w.heap.size + 1, 2, none⟩) zl
        have g0 := hb.frozen (p := ⟨w.heap.size + 1, 0, none⟩) zl
        have g1 := hb.frozen (p := ⟨w.heap.size + 1, 1, none⟩) zl
        have g2 := hb.frozen (p := ⟨w.heap.size + 1, 2, none⟩) zl
        have HM := Lib.hid (HN.out w1 hb)
        rw [t0] at y0
        rw [t1] at y1
        rw [t2] at y2
        rw [tf2] at f2
        rw [z0] at v0
        rw [z1] at v1
        rw [z2] at v2
        rw [zf0] at g0
        rw [zf1] at g1
        rw [zf2] at g2
        have HB1 := Lib.hid hb
        clear hb
        have hpn : p ≠ w.heap.size + 1 := by omega
        have hpm : w.heap.size + 1 ≠ p := by omega
        go_wp2
        obtain ⟨p', hp', hp2, hT, hX, hZ, hB⟩ := HM.out
        cases hp'
        refine bodyPost_row1 Try.results25 (w.heap.size + 1) _ _ _ _ ?d1 ?p1 (hZ.set3n (.int .i64 (1 + k)) (strV (smallF a)) (strV (valueF b))) Try.underlying43 rfl term_size ?_
        case d1 => rfl
        case p1 => rfl
        exact ⟨rfl, below_set3 hB (by omega) _ _ _⟩
    · obtain rfl : [] = V := by
        have := HV.out
        rwa [if_neg h] at this
      have e1 : ((1 + k : Int) == 1) = false := by simp; omega
      have e2 : ((1 + k : Int) == 2) = false := by simp; omega
      have H := Lib.hid h
      clear h
      go_wp2
      refine bodyPost_row1 Try.results25 (w.heap.size + 1) _ _ _ _ ?d2 ?p2 (HZ.out.set3n (.int .i64 (1 + k)) (strV (smallF a)) (strV [])) Try.underlying43 rfl term_size ?_
      case d2 => rfl
      case p2 => rfl
      exact ⟨rfl, below_set3 HB.out (by omega) _ _ _⟩
end Go.Proofs.Yteclbkjonaildaa
