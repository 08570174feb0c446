/- What the document's checks of labels, of what is borne, and of terms answer. Condition: the list lies in memory. May a node, an owner, a Near be, each by itself, as the document says it? Contracts. Condition: its lists lie in memory. Where a node, an owner of a name stands; may a pod be in its cluster, as the document says it? Contracts. Condition: the cluster lies in memory. Do names rise, and which are a cluster's, as the document says it? Contracts. Condition: the cluster lies in memory. What the document's Plus answers of a thousand rows at most. Condition: they lie in memory. May a cluster be, and its sums, as the document says it: the contracts of shaped and Check. Condition: the cluster lies in memory. May a cluster be, and its sums, as the document says it: the contract of Check. Condition: the cluster lies in memory. -/
import Derived.Test.YtfpbdfagcfdbbaaGreatC04
import Derived.Deep.RegionHeld3
import Derived.Deep.DeepCutAuto

namespace Go.Proofs.YtfpbdfagcfdbbaaGreat
open Go.RowKit

theorem valR_eq (s : List UInt8) : La.valR s = La.valueB s := by
  rw [Bool.eq_iff_iff]
  have h := La.span_iff La.okVal s 0 (by omega)
  rw [Nat.zero_add] at h
  unfold La.valR La.valueB
  simp only [Bool.and_eq_true, decide_eq_true_eq, List.all_eq_true]
  rw [h]
  constructor
  · rintro ⟨ha, h1, hl⟩
    refine ⟨fun e => by subst e; simp at h1, hl, fun j b hj => ?_⟩
    exact ha b (List.mem_of_getElem? hj)
  · rintro ⟨hn, hl, ha⟩
    refine ⟨fun b hb => ?_, ?_, hl⟩
    · obtain ⟨j, hj⟩ := List.mem_iff_getElem?.1 hb
      exact ha j b hj
    · cases s with
      | nil => exact absurd rfl hn
      | cons c t => simp
theorem value3_any (s : List UInt8) (w : World) (hl : s.length ≤ 9223372036854775807) :
    Calls Tryz.prog 187 #[strV s] w fun e w' => e = .returned (.bool (La.valueB s)) ∧ w = w' := by
  rw [← valR_eq]
  exact La.rvalue_any s w hl

/-- The rows' two orders, and what each may be. -/
def mbS (star : Bool) : L2 → Bool := if star then La.borB else La.labB
def riS (star : Bool) : L2 → L2 → Bool := if star then La.pairR else La.keyR
theorem rises3_any (star : Bool) (a b : L2) (w : World) :
    Calls Tryz.prog 201 #[La.labV a, La.labV b, .bool star] w fun e w' => e = .returned (.bool (riS star a b)) ∧ Below w.heap.size w w' := by
  cases star
  all_goals
    go_enter Tryz.func201, Tryz.ntmps201
    go_wp2
    all_goals
      go_ret
      refine ⟨La.retB ?_, ((Below.refl _ _).alloc (Nat.le_refl _) _).alloc (by simp) _⟩
      simp_all [riS, La.pairR, La.keyR]

set_option maxRecDepth 100000 in
set_option maxHeartbeats 4000000 in
theorem row3_any (star : Bool) (A : Option Addr) (c : Nat) (l : List L2) (w : World) (h : ListL w A c l) :
    Calls Tryz.prog 189 #[.slice A l.length c, .bool star] w fun e w' => e = .returned (.int .i64 (La.chkA (mbS star) (riS star) l)) ∧ Below w.heap.size w w' := by
  have HS := Lib.hid h.cells
  have Hbig := Lib.hid h.big
  have hle := h.le
  have hmost := h.most
  obtain ⟨R, hR⟩ : ∃ R, La.chkA (mbS star) (riS star) l = R := ⟨_, rfl⟩
  rw [hR]
  have HR := Lib.hid hR
  clear hR h
  by_cases h6 : 6 < l.length
  · have E : Hid (R = 2) := Lib.hid (by rw [← HR.out]; unfold La.chkA; rw [if_pos (.inl h6)])
    have h6i : (6 : Int) < (l.length : Int) := by omega
    go_enter Tryz.func189, Tryz.ntmps189
    go_wp2
    go_ret
    exact ⟨La.retI E.out.symm, Below.refl _ _⟩
  · have h6i : ¬ (6 : Int) < (l.length : Int) := by omega
    have E : Hid (R = if La.chkK (mbS star) (riS star) l l.length = false then 2 else 0) := Lib.hid (by
      rw [← HR.out]
      unfold La.chkA
      by_cases hq : La.chkK (mbS star) (riS star) l l.length = false
      · rw [if_pos (.inr hq), if_pos hq]
      · rw [if_neg (fun h => h.elim h6 hq), if_neg hq])
    clear HR
    go_enter Tryz.func189, Tryz.ntmps189
    go_wp2_with fail
    go_loopw [5] (fun i wr => ∃ k : Nat, k ≤ l.length ∧ i = .int .i64 k ∧ La.chkK (mbS star) (riS star) l k = true ∧ Below w.heap.size w wr) (fun i _ => l.length - (intOf i).toNat)
    case atStart => exact ⟨0, by omega, rfl, rfl, Below.refl _ _⟩
    case round =>
      obtain ⟨k, hk, rfl, hp, hbw⟩ := hrel
      have Hp := Lib.hid hp
      have HB := Lib.hid hbw
      clear hp hbw
      by_cases hlt : k < l.length
      · obtain ⟨x, hxk⟩ : ∃ x, l[k]? = some x := ⟨l[k], List.getElem?_eq_getElem hlt⟩
        obtain ⟨b, o, hA, hb0, hx0, hx1⟩ := La.SlAt.lab (HS.out.below HB.out) hxk
        subst hA
        have Hstep : Hid (La.chkK (mbS star) (riS star) l (k + 1) = La.okAt (mbS star) (riS star) l k x) := Lib.hid (by rw [La.chkK, Hp.out, hxk]; rfl)
        have hbx := Hbig.out x (List.mem_of_getElem? hxk)
        have KN := Lib.hid (fun w => La.rname_any x.1 w hbx.1)
        have KV := Lib.hid (fun w => value3_any x.2 w hbx.2)
        have k0 : (0 : Int) ≤ (k : Int) := by omega
        have k1 : (k : Int) < (l.length : Int) := by omega
        have Hxk := Lib.hid hxk
        clear hxk hbx
        go_upto_region 6 with fail
        go_cut [42] (fun v wc => v = .bool (!(mbS star x)) ∧ wc = wr)
        case first =>
          cases hn : La.nameB x.1
          · have HE : Hid (mbS star x = false) := Lib.hid (by cases star <;> simp [mbS, La.labB, La.borB, hn])
            rw [hn] at KN
            clear hn
            go_wp2_with fail
            refine (KN.out _).mono ?_
            rintro e w1 ⟨rfl, rfl⟩
            go_wp2
            go_meet
            exact ⟨by rw [HE.out]; rfl, rfl⟩
          · rw [hn] at KN
            cases hv : La.valueB x.2
            · rw [hv] at KV
              cases star
              · have HE : Hid (mbS false x = false) := Lib.hid (by simp [mbS, La.labB, hn, hv])
                clear hn hv
                go_wp2_with fail
                refine (KN.out _).mono ?_
                rintro e w1 ⟨rfl, rfl⟩
                go_wp2_with fail
                refine (KV.out _).mono ?_
                rintro e w1 ⟨rfl, rfl⟩
                go_wp2
                go_meet
                exact ⟨by rw [HE.out]; rfl, rfl⟩
              · by_cases hs : x.2 = [42]
                · have HE : Hid (mbS true x = true) := Lib.hid (by simp [mbS, La.borB, hn, hs])
                  have hsb : (x.2 == [42]) = true := by simpa using hs
                  clear hn hv hs
                  go_wp2_with fail
                  refine (KN.out _).mono ?_
                  rintro e w1 ⟨rfl, rfl⟩
                  go_wp2_with fail
                  refine (KV.out _).mono ?_
                  rintro e w1 ⟨rfl, rfl⟩
                  go_wp2
                  go_meet
                  exact ⟨by rw [HE.out]; rfl, rfl⟩
                · have HE : Hid (mbS true x = false) := Lib.hid (by simp [mbS, La.borB, hn, hv, hs])
                  have hsb : (x.2 == [42]) = false := by simpa using hs
                  clear hn hv hs
                  go_wp2_with fail
                  refine (KN.out _).mono ?_
                  rintro e w1 ⟨rfl, rfl⟩
                  go_wp2_with fail
                  refine (KV.out _).mono ?_
                  rintro e w1 ⟨rfl, rfl⟩
                  go_wp2
                  go_meet
                  exact ⟨by rw [HE.out]; rfl, rfl⟩
            · have HE : Hid (mbS star x = true) := Lib.hid (by cases star <;> simp [mbS, La.labB, La.borB, hn, hv])
              rw [hv] at KV
              clear hn hv
              go_wp2_with fail
              refine (KN.out _).mono ?_
              rintro e w1 ⟨rfl, rfl⟩
              go_wp2_with fail
              refine (KV.out _).mono ?_
              rintro e w1 ⟨rfl, rfl⟩
              go_wp2
              go_meet
              exact ⟨by rw [HE.out]; rfl, rfl⟩
        case rest =>
          rename_i wc
          obtain ⟨rfl, rfl⟩ := hcut
          clear KN KV
          cases hm : mbS star x
          · have HE : Hid (R = 2) := Lib.hid (by
              rw [E.out, if_pos]
              exact La.chkK_false (k := k + 1) (by rw [Hstep.out]; exact La.okAt_no hm) (by omega))
            clear hm E
            go_wp2
            go_ret
            exact ⟨La.retI HE.out.symm, HB.out⟩
          · by_cases hz : k = 0
            · subst hz
              have hok := Lib.hid (La.okAt_zero (mb := mbS star) (ri := riS star) (l := l) (k := 0) hm rfl)
              clear hm
              go_wp2_with fail
              go_quiet (fail)
              go_wp2
              go_roundw
              case rel => exact ⟨1, by omega, by go_num, by rw [Hstep.out, hok.out], belowN HB.out _⟩
              case measure => simp [intOf]; omega
            · obtain ⟨y, hy⟩ : ∃ y, l[k - 1]? = some y := ⟨l[k - 1]'(by omega), List.getElem?_eq_getElem (by omega)⟩
              obtain ⟨b', o', hA', _, hy0, hy1⟩ := La.SlAt.lab (HS.out.below HB.out) hy
              simp only [Option.some.injEq, Addr.mk.injEq] at hA'
              obtain ⟨rfl, rfl, _⟩ := hA'
              have hok := Lib.hid (La.okAt_pos (mb := mbS star) (ri := riS star) (l := l) (k := k) hm hz hy)
              have hk1 : 1 ≤ k := by omega
              have n1 : (1 : Int) ≤ (k : Int) := by omega
              have n2 : (0 : Int) < (k : Int) := by omega
              have n9 : decide (0 < k) = true := decide_eq_true (by omega)
              have n10 : 0 < k := by omega
              have n3 : ((k : Int) - 1).toNat = k - 1 := by omega
              have n5 : (0 : Int) ≤ (k : Int) - 1 := by omega
              have n6 : (k : Int) - 1 < (l.length : Int) := by omega
              have n7 : ((k : Int) - 1 < 0) = False := by simp; omega
              have n8 : decide ((k : Int) - 1 < (l.length : Int)) = true := by simp; omega
              have n4 : IntKind.i64.wrap ((k : Int) - 1) = (k : Int) - 1 := IntWalk.i64_in _ (by omega)
              have KR := Lib.hid (fun w => rises3_any star y x w)
              have Hb0 := Lib.hid hb0
              clear hm hz hy
              cases hr : riS star y x
              · rw [hr] at KR
                have HE : Hid (R = 2) := Lib.hid (by
                  rw [E.out, if_pos]
                  exact La.chkK_false (k := k + 1) (by rw [Hstep.out, hok.out, hr]) (by omega))
                clear hr E
                go_wp2_with fail
                go_region_held3 (fun w' => w'.cell? ⟨b, o + (k - 1) * 2, none⟩ = some (strV y.1) ∧ w'.cell? ⟨b, o + (k - 1) * 2 + 1, none⟩ = some (strV y.2) ∧ w'.cell? ⟨b, o + k * 2, none⟩ = some (strV x.1) ∧ w'.cell? ⟨b, o + k * 2 + 1, none⟩ = some (strV x.2)) (first | exact ⟨hy0, hy1, hx0, hx1⟩ | exact ⟨py0, py1, px0, px1⟩)
                  (first | ((with_reducible refine (KR.out _).mono ?_); rintro e w3 ⟨rfl, hb3⟩; have py0 := (hb3.cell (p := ⟨b, o + (k - 1) * 2, none⟩) Hb0.out).trans hy0; have py1 := (hb3.cell (p := ⟨b, o + (k - 1) * 2 + 1, none⟩) Hb0.out).trans hy1; have px0 := (hb3.cell (p := ⟨b, o + k * 2, none⟩) Hb0.out).trans hx0; have px1 := (hb3.cell (p := ⟨b, o + k * 2 + 1, none⟩) Hb0.out).trans hx1; have HB3 := Lib.hid hb3; clear hb3))
                go_wp2
                go_ret
                exact ⟨La.retI HE.out.symm, La.below_of HB.out HB3.out⟩
              · rw [hr] at KR
                have HE := Lib.hid hr
                clear hr
                go_wp2_with fail
                go_region_held3 (fun w' => w'.cell? ⟨b, o + (k - 1) * 2, none⟩ = some (strV y.1) ∧ w'.cell? ⟨b, o + (k - 1) * 2 + 1, none⟩ = some (strV y.2) ∧ w'.cell? ⟨b, o + k * 2, none⟩ = some (strV x.1) ∧ w'.cell? ⟨b, o + k * 2 + 1, none⟩ = some (strV x.2)) (first | exact ⟨hy0, hy1, hx0, hx1⟩ | exact ⟨py0, py1, px0, px1⟩)
                  (first | ((with_reducible refine (KR.out _).mono ?_); rintro e w3 ⟨rfl, hb3⟩; have py0 := (hb3.cell (p := ⟨b, o + (k - 1) * 2, none⟩) Hb0.out).trans hy0; have py1 := (hb3.cell (p := ⟨b, o + (k - 1) * 2 + 1, none⟩) Hb0.out).trans hy1; have px0 := (hb3.cell (p := ⟨b, o + k * 2, none⟩) Hb0.out).trans hx0; have px1 := (hb3.cell (p := ⟨b, o + k * 2 + 1, none⟩) Hb0.out).trans hx1; have HB3 := Lib.hid hb3; clear hb3))
                go_wp2
                go_roundw
                case rel => exact ⟨k + 1, by omega, by go_num, by rw [Hstep.out, hok.out, HE.out], La.below_of HB.out HB3.out⟩
                case measure => simp [intOf]; omega
      · obtain rfl : k = l.length := by omega
        have HE : Hid (R = 0) := Lib.hid (by rw [E.out, if_neg]; rw [Hp.out]; decide)
        go_wp2
        go_ret
        exact ⟨La.retI HE.out.symm, HB.out⟩
set_option maxHeartbeats 400000 in
theorem check3_any (A : Option Addr) (c : Nat) (l : List L2) (w : World) (h : ListL w A c l) :
    Calls Tryz.prog 156 #[.slice A l.length c] w fun e w' => e = .returned (.int .i64 (La.chkA La.labB La.keyR l)) ∧ Below w.heap.size w w' := by
  have K := Lib.hid (row3_any false A c l w h)
  rw [show mbS false = La.labB from rfl, show riS false = La.keyR from rfl] at K
  clear h
  go_enter Tryz.func156, Tryz.ntmps156
  go_wp2_with fail
  refine K.out.mono ?_
  rintro e w1 ⟨rfl, hb⟩
  have HB := Lib.hid hb
  clear hb K
  go_wp2
  go_ret
  exact ⟨rfl, HB.out⟩
set_option maxHeartbeats 400000 in
theorem checkBears3_any (A : Option Addr) (c : Nat) (l : List L2) (w : World) (h : ListL w A c l) :
    Calls Tryz.prog 160 #[.slice A l.length c] w fun e w' => e = .returned (.int .i64 (La.chkA La.borB La.pairR l)) ∧ Below w.heap.size w w' := by
  have K := Lib.hid (row3_any true A c l w h)
  rw [show mbS true = La.borB from rfl, show riS true = La.pairR from rfl] at K
  clear h
  go_enter Tryz.func160, Tryz.ntmps160
  go_wp2_with fail
  refine K.out.mono ?_
  rintro e w1 ⟨rfl, hb⟩
  have HB := Lib.hid hb
  clear hb K
  go_wp2
  go_ret
  exact ⟨rfl, HB.out⟩

theorem name3_any (s : List UInt8) (w : World) (hl : s.length ≤ 9223372036854775807) :
    Calls Tryz.prog 154 #[strV s] w fun e w' => e = .returned (.bool (La.nameB s)) ∧ Below w.heap.size w w' :=
  (La.rname_any s w hl).mono (by rintro e w' ⟨rfl, rfl⟩; exact ⟨rfl, Below.refl _ _⟩)
theorem valued_any (k : Int) (w : World) :
    Calls Tryz.prog 190 #[.int .i64 k] w fun e w' => e = .returned (.bool (decide (k = 1 ∨ k = 2))) ∧ w = w' := by
  by_cases h1 : k = 1
  · subst h1
    go_enter Tryz.func190, Tryz.ntmps190
    go_wp2
    go_ret
    exact ⟨rfl, rfl⟩
  · have h1b : (k == 1) = false := by simpa using h1
    have e : decide (k = 1 ∨ k = 2) = decide (k = 2) := by simp [h1]
    rw [e]
    clear e
    go_enter Tryz.func190, Tryz.ntmps190
    go_wp2
    go_ret
    refine ⟨La.retB ?_, rfl⟩
    rw [Bool.eq_iff_iff]
    simp
theorem okAt_ter (l : List T3) (k : Nat) (x : T3) : La.okAt La.terB La.anyR l k x = La.terB x := by
  unfold La.okAt La.anyR
  cases l[k - 1]? <;> simp

set_option maxRecDepth 100000 in
set_option maxHeartbeats 4000000 in
theorem terms3_any (A : Option Addr) (c : Nat) (l : List T3) (w : World) (h : ListT w A c l) :
    Calls Tryz.prog 159 #[.slice A l.length c] w fun e w' => e = .returned (.int .i64 (La.chkA La.terB La.anyR l)) ∧ Below w.heap.size w w' := by
  have HS := Lib.hid h.cells
  have Hbig := Lib.hid h.big
  have hle := h.le
  have hmost := h.most
  obtain ⟨R, hR⟩ : ∃ R, La.chkA La.terB La.anyR l = R := ⟨_, rfl⟩
  rw [hR]
  have HR := Lib.hid hR
  clear hR h
  by_cases h6 : 6 < l.length
  · have E : Hid (R = 2) := Lib.hid (by rw [← HR.out]; unfold La.chkA; rw [if_pos (.inl h6)])
    have h6i : (6 : Int) < (l.length : Int) := by omega
    go_enter Tryz.func159, Tryz.ntmps159
    go_wp2
    go_ret
    exact ⟨La.retI E.out.symm, Below.refl _ _⟩
  · have h6i : ¬ (6 : Int) < (l.length : Int) := by omega
    have E : Hid (R = if La.chkK La.terB La.anyR l l.length = false then 2 else 0) := Lib.hid (by
      rw [← HR.out]
      unfold La.chkA
      by_cases hq : La.chkK La.terB La.anyR l l.length = false
      · rw [if_pos (.inr hq), if_pos hq]
      · rw [if_neg (fun h => h.elim h6 hq), if_neg hq])
    clear HR
    go_enter Tryz.func159, Tryz.ntmps159
    go_wp2_with fail
    go_loopw [3] (fun i wr => ∃ k : Nat, k ≤ l.length ∧ i = .int .i64 k ∧ La.chkK La.terB La.anyR l k = true ∧ Below w.heap.size w wr) (fun i _ => l.length - (intOf i).toNat)
    case atStart => exact ⟨0, by omega, rfl, rfl, Below.refl _ _⟩
    case round =>
      obtain ⟨k, hk, rfl, hp, hbw⟩ := hrel
      have Hp := Lib.hid hp
      have HB := Lib.hid hbw
      clear hp hbw
      by_cases hlt : k < l.length
      · obtain ⟨x, hxk⟩ : ∃ x, l[k]? = some x := ⟨l[k], List.getElem?_eq_getElem hlt⟩
        obtain ⟨b, o, hA, hb0, hx0, hx1, hx2⟩ := La.SlAt.ter (HS.out.below HB.out) hxk
        subst hA
        have Hstep : Hid (La.chkK La.terB La.anyR l (k + 1) = La.terB x) := Lib.hid (by rw [La.chkK, Hp.out, hxk]; simp only [okAt_ter, Bool.true_and])
        have hbx := Hbig.out x (List.mem_of_getElem? hxk)
        have KN := Lib.hid (fun w => La.rname_any x.2.1 w hbx.1)
        have KV := Lib.hid (fun w => value3_any x.2.2 w hbx.2)
        have KD := Lib.hid (fun w => valued_any x.1 w)
        have k0 : (0 : Int) ≤ (k : Int) := by omega
        have k1 : (k : Int) < (l.length : Int) := by omega
        have Hxk := Lib.hid hxk
        have B2 := Lib.hid (HB.out.alloc HB.out.size (.cells #[.int .i64 x.1, strV x.2.1, strV x.2.2] 64))
        have P2 : Hid (Blk (wr.alloc (.cells #[.int .i64 x.1, strV x.2.1, strV x.2.2] 64)) wr.heap.size #[.int .i64 x.1, strV x.2.1, strV x.2.2] 64) := Lib.hid (Blk.new wr _ _)
        clear hxk hbx
        go_upto_region 7 with fail
        change Code.wp _ _ _ _ (wr.alloc (.cells #[.int .i64 x.1, strV x.2.1, strV x.2.2] 64))
        generalize (wr.alloc (.cells #[.int .i64 x.1, strV x.2.1, strV x.2.2] 64)) = W at B2 P2 ⊢
        go_cut [53] (fun v wc => v = .bool (!(La.terB x)) ∧ wc = W)
        case first =>
          clear hx0 hx1 hx2
          have p0 : W.cell? ⟨wr.heap.size, 0, none⟩ = some (.int .i64 x.1) := Blk.cell P2.out 0
          have p1 : W.cell? ⟨wr.heap.size, 1, none⟩ = some (strV x.2.1) := Blk.cell P2.out 1
          have p2 : W.cell? ⟨wr.heap.size, 2, none⟩ = some (strV x.2.2) := Blk.cell P2.out 2
          obtain ⟨t, a, v⟩ := x
          dsimp only at KN KV KD p0 p1 p2 ⊢
          by_cases t1 : t < 1
          · have HE : Hid (La.terB (t, a, v) = false) := Lib.hid (by unfold La.terB; rw [if_neg (by dsimp only; omega), if_neg (by dsimp only; omega)])
            go_wp2
            go_meet
            exact ⟨by rw [HE.out]; rfl, rfl⟩
          by_cases t4 : 4 < t
          · have HE : Hid (La.terB (t, a, v) = false) := Lib.hid (by unfold La.terB; rw [if_neg (by dsimp only; omega), if_neg (by dsimp only; omega)])
            go_wp2
            go_meet
            exact ⟨by rw [HE.out]; rfl, rfl⟩
          cases hn : La.nameB a
          · have HE : Hid (La.terB (t, a, v) = false) := Lib.hid (by unfold La.terB; rw [hn]; simp)
            rw [hn] at KN
            clear hn
            go_wp2_with fail
            refine (KN.out _).mono ?_
            rintro e w1 ⟨rfl, rfl⟩
            go_wp2
            go_meet
            exact ⟨by rw [HE.out]; rfl, rfl⟩
          rw [hn] at KN
          by_cases t2 : t = 1 ∨ t = 2
          · rw [decide_eq_true t2] at KD
            cases hv : La.valueB v
            · have HE : Hid (La.terB (t, a, v) = false) := Lib.hid (by unfold La.terB; rw [if_pos t2, hn, hv]; rfl)
              rw [hv] at KV
              clear hn hv t2
              go_wp2_with fail
              refine (KN.out _).mono ?_
              rintro e w1 ⟨rfl, rfl⟩
              go_wp2_with fail
              refine (KD.out _).mono ?_
              rintro e w1 ⟨rfl, rfl⟩
              go_wp2_with fail
              refine (KV.out _).mono ?_
              rintro e w1 ⟨rfl, rfl⟩
              go_wp2
              go_meet
              exact ⟨by rw [HE.out]; rfl, rfl⟩
            · have HE : Hid (La.terB (t, a, v) = true) := Lib.hid (by unfold La.terB; rw [if_pos t2, hn, hv]; rfl)
              rw [hv] at KV
              clear hn hv t2
              go_wp2_with fail
              refine (KN.out _).mono ?_
              rintro e w1 ⟨rfl, rfl⟩
              go_wp2_with fail
              refine (KD.out _).mono ?_
              rintro e w1 ⟨rfl, rfl⟩
              go_wp2_with fail
              refine (KV.out _).mono ?_
              rintro e w1 ⟨rfl, rfl⟩
              go_wp2_with fail
              refine (KD.out _).mono ?_
              rintro e w1 ⟨rfl, rfl⟩
              go_wp2
              go_meet
              exact ⟨by rw [HE.out]; rfl, rfl⟩
          · rw [decide_eq_false t2] at KD
            have HE : Hid (La.terB (t, a, v) = decide (v = [])) := Lib.hid (by unfold La.terB; rw [if_neg t2, if_pos (by dsimp only; omega), hn]; rfl)
            clear hn t2
            by_cases hs : v = []
            · subst hs
              go_wp2_with fail
              refine (KN.out _).mono ?_
              rintro e w1 ⟨rfl, rfl⟩
              go_wp2_with fail
              refine (KD.out _).mono ?_
              rintro e w1 ⟨rfl, rfl⟩
              go_wp2_with fail
              refine (KD.out _).mono ?_
              rintro e w1 ⟨rfl, rfl⟩
              go_wp2
              go_meet
              exact ⟨by rw [HE.out]; rfl, rfl⟩
            · have h1 : v.isEmpty = false := by simpa using hs
              have h2 : (v == []) = false := by simpa using hs
              have h3 : (v != []) = true := by simpa using hs
              rw [decide_eq_false hs] at HE
              clear hs
              go_wp2_with fail
              refine (KN.out _).mono ?_
              rintro e w1 ⟨rfl, rfl⟩
              go_wp2_with fail
              refine (KD.out _).mono ?_
              rintro e w1 ⟨rfl, rfl⟩
              go_wp2_with fail
              refine (KD.out _).mono ?_
              rintro e w1 ⟨rfl, rfl⟩
              go_wp2
              go_meet
              exact ⟨by rw [HE.out]; rfl, rfl⟩
        case rest =>
          rename_i wc
          obtain ⟨rfl, rfl⟩ := hcut
          clear KN KV KD hx0 hx1 hx2
          cases hm : La.terB x
          · have HE : Hid (R = 2) := Lib.hid (by
              rw [E.out, if_pos]
              exact La.chkK_false (k := k + 1) (by rw [Hstep.out, hm]) (by omega))
            clear hm E
            go_wp2
            go_ret
            exact ⟨La.retI HE.out.symm, B2.out⟩
          · have hok := Lib.hid hm
            clear hm
            go_wp2_with fail
            go_roundw
            case rel => exact ⟨k + 1, by omega, by go_num, by rw [Hstep.out, hok.out], B2.out⟩
            case measure => simp [intOf]; omega
      · obtain rfl : k = l.length := by omega
        have HE : Hid (R = 0) := Lib.hid (by rw [E.out, if_neg]; rw [Hp.out]; decide)
        go_wp2
        go_ret
        exact ⟨La.retI HE.out.symm, HB.out⟩
end Go.Proofs.YtfpbdfagcfdbbaaGreat

namespace Go.Proofs.YtfpbdfagcfdbbaaGreat
open Go.RowKit

set_option maxHeartbeats 1000000 in
theorem node3_any (x : NodeD) (w : World) (hx : x.fit w) :
    Calls Tryz.prog 124 #[valN x] w fun e w' => e = .returned (.bool (nodeB x)) ∧ Below w.heap.size w w' := by
  have KV := Lib.hid (fun w => Qu.rvcheck_any x.cap w)
  have HX := Lib.hid hx
  have K1 : Hid (∀ w', Below w.heap.size w w' → Calls Tryz.prog 156 #[.slice x.al x.labels.length x.cl] w' fun e w'' => e = .returned (.int .i64 (La.chkA La.labB La.keyR x.labels)) ∧ Below w'.heap.size w' w'') := Lib.hid (fun w' hb => by
    have h := hx.l.below hb
    exact check3_any x.al x.cl x.labels w' h)
  have K2 : Hid (∀ w', Below w.heap.size w w' → Calls Tryz.prog 156 #[.slice x.at_ x.taints.length x.ct] w' fun e w'' => e = .returned (.int .i64 (La.chkA La.labB La.keyR x.taints)) ∧ Below w'.heap.size w' w'') := Lib.hid (fun w' hb => by
    have h := hx.t.below hb
    exact check3_any x.at_ x.ct x.taints w' h)
  have B0 : Hid (Below w.heap.size w (w.alloc (.cells (cellsN [x]).toArray 62))) := Lib.hid (below1 w _)
  have Q0 : Hid (Blk (w.alloc (.cells (cellsN [x]).toArray 62)) w.heap.size (cellsN [x]).toArray 62) := Lib.hid (Blk.new w _ _)
  have hlt0 : w.heap.size < (w.alloc (.cells (cellsN [x]).toArray 62)).heap.size := Blk.lt Q0.out
  have E : Hid (nodeB x = ((Qu.chkV x.cap == 0) && (La.chkA La.labB La.keyR x.labels == 0) && (La.chkA La.labB La.keyR x.taints == 0))) := Lib.hid rfl
  generalize nodeB x = R at E ⊢
  generalize Qu.chkV x.cap = v1 at KV E
  generalize La.chkA La.labB La.keyR x.labels = v2 at K1 E
  generalize La.chkA La.labB La.keyR x.taints = v3 at K2 E
  clear hx
  go_enter Tryz.func124, Tryz.ntmps124
  go_wp2_with fail
  refine (KV.out _).mono ?_
  rintro e w2 ⟨rfl, hb⟩
  have Q2 := Lib.hid (Q0.out.below hb hlt0)
  have B2 := Lib.hid (B0.out.trans (hb.mono (Nat.le_of_lt hlt0)))
  clear hb KV
  have hl2 := Blk.lt Q2.out
  have c6 : w2.cell? ⟨w.heap.size, 6, none⟩ = some (.slice x.al x.labels.length x.cl) := Blk.cell Q2.out 6
  cases h1 : (v1 == 0)
  · have HE : Hid (R = false) := Lib.hid (by rw [E.out, h1]; rfl)
    have h1' : (v1 != 0) = true := by simpa using h1
    go_wp2
    go_ret
    exact ⟨La.retB HE.out.symm, B2.out⟩
  · have h1' : (v1 != 0) = false := by simpa using h1
    go_wp2_with fail
    refine (K1.out _ B2.out).mono ?_
    rintro e w3 ⟨rfl, hb⟩
    have Q3 := Lib.hid (Q2.out.below hb hl2)
    have B3 := Lib.hid (B2.out.trans (hb.mono (Nat.le_of_lt hl2)))
    clear hb K1 c6
    have hl3 := Blk.lt Q3.out
    have c7 : w3.cell? ⟨w.heap.size, 7, none⟩ = some (.slice x.at_ x.taints.length x.ct) := Blk.cell Q3.out 7
    cases h2 : (v2 == 0)
    · have HE : Hid (R = false) := Lib.hid (by rw [E.out, h1, h2]; rfl)
      have h2' : (v2 != 0) = true := by simpa using h2
      go_wp2
      go_ret
      exact ⟨La.retB HE.out.symm, B3.out⟩
    · have h2' : (v2 != 0) = false := by simpa using h2
      go_wp2_with fail
      refine (K2.out _ B3.out).mono ?_
      rintro e w4 ⟨rfl, hb⟩
      have B4 := Lib.hid (B3.out.trans (hb.mono (Nat.le_of_lt hl3)))
      clear hb K2 c7
      have HE : Hid (R = (v3 == 0)) := Lib.hid (by rw [E.out, h1, h2]; rfl)
      clear h1 h1' h2 h2'
      go_wp2
      go_ret
      exact ⟨La.retB HE.out.symm, B4.out⟩

set_option maxHeartbeats 1000000 in
theorem near3_any (topo : List UInt8) (l : List T3) (a : Option Addr) (c : Nat) (w : World) (h : ListT w a c l) (ht : topo.length ≤ 9223372036854775807) :
    Calls Tryz.prog 161 #[valNear topo l a c] w fun e w' => e = .returned (.bool (nearB topo l)) ∧ Below w.heap.size w w' := by
  have KN := Lib.hid (fun w => name3_any topo w ht)
  have K1 : Hid (∀ w', Below w.heap.size w w' → Calls Tryz.prog 159 #[.slice a l.length c] w' fun e w'' => e = .returned (.int .i64 (La.chkA La.terB La.anyR l)) ∧ Below w'.heap.size w' w'') := Lib.hid (fun w' hb => by
    have h := h.below hb
    exact terms3_any a c l w' h)
  have B0 : Hid (Below w.heap.size w (w.alloc (.cells #[strV topo, .slice a l.length c] 67))) := Lib.hid (below1 w _)
  have Q0 : Hid (Blk (w.alloc (.cells #[strV topo, .slice a l.length c] 67)) w.heap.size #[strV topo, .slice a l.length c] 67) := Lib.hid (Blk.new w _ _)
  have hlt0 : w.heap.size < (w.alloc (.cells #[strV topo, .slice a l.length c] 67)).heap.size := Blk.lt Q0.out
  have E : Hid (nearB topo l = (if topo = [] then decide (l.length = 0) else La.nameB topo && (La.chkA La.terB La.anyR l == 0))) := Lib.hid rfl
  generalize nearB topo l = R at E ⊢
  generalize La.chkA La.terB La.anyR l = v1 at K1 E
  generalize La.nameB topo = v0 at KN E
  clear h
  by_cases htp : topo = []
  · subst htp
    have HE : Hid (R = decide (l.length = 0)) := Lib.hid (by rw [E.out, if_pos rfl])
    clear KN K1 E
    go_enter Tryz.func161, Tryz.ntmps161
    go_wp2
    go_ret
    refine ⟨La.retB ?_, B0.out⟩
    rw [HE.out, Bool.eq_iff_iff]
    simp
  · have HE : Hid (R = (v0 && (v1 == 0))) := Lib.hid (by rw [E.out, if_neg htp])
    have h1 : topo.isEmpty = false := by simpa using htp
    have h2 : (!topo.isEmpty) = true := by simpa using htp
    have HT := Lib.hid htp
    clear htp E
    go_enter Tryz.func161, Tryz.ntmps161
    go_wp2_with fail
    refine (KN.out _).mono ?_
    rintro e w2 ⟨rfl, hb⟩
    have Q2 := Lib.hid (Q0.out.below hb hlt0)
    have B2 := Lib.hid (B0.out.trans (hb.mono (Nat.le_of_lt hlt0)))
    clear hb KN
    have c1 : w2.cell? ⟨w.heap.size, 1, none⟩ = some (.slice a l.length c) := Blk.cell Q2.out 1
    have hl2 := Blk.lt Q2.out
    cases v0
    · go_wp2
      go_ret
      exact ⟨La.retB (by rw [HE.out]; rfl), B2.out⟩
    · go_wp2_with fail
      refine (K1.out _ B2.out).mono ?_
      rintro e w3 ⟨rfl, hb⟩
      have B3 := Lib.hid (B2.out.trans (hb.mono (Nat.le_of_lt hl2)))
      clear hb K1 c1
      go_wp2
      go_ret
      exact ⟨La.retB (by rw [HE.out]; rfl), B3.out⟩

set_option maxHeartbeats 1000000 in
theorem owner3_any (x : OwnD) (w : World) (hx : x.fit) :
    Calls Tryz.prog 126 #[valO x] w fun e w' => e = .returned (.bool (ownB x)) ∧ Below w.heap.size w w' := by
  have KN := Lib.hid (fun w => name3_any x.topo w hx.t)
  have B0 : Hid (Below w.heap.size w (w.alloc (.cells (cellsO [x]).toArray 53))) := Lib.hid (below1 w _)
  have Q0 : Hid (Blk (w.alloc (.cells (cellsO [x]).toArray 53)) w.heap.size (cellsO [x]).toArray 53) := Lib.hid (Blk.new w _ _)
  have hlt0 : w.heap.size < (w.alloc (.cells (cellsO [x]).toArray 53)).heap.size := Blk.lt Q0.out
  obtain ⟨nm, mn, tp, sk, sg⟩ := x
  have E : Hid (ownB ⟨nm, mn, tp, sk, sg⟩ = (if mn < 0 ∨ 24 < mn then false else if tp = [] then decide (sk = 0) else La.nameB tp && decide (1 ≤ sk ∧ sk ≤ 24))) := Lib.hid rfl
  generalize ownB ⟨nm, mn, tp, sk, sg⟩ = R at E ⊢
  simp only at KN
  generalize La.nameB tp = v0 at KN E
  clear hx
  by_cases h1 : mn < 0
  · have HE : Hid (R = false) := Lib.hid (by rw [E.out, if_pos (.inl h1)])
    clear E KN
    go_enter Tryz.func126, Tryz.ntmps126
    go_wp2
    go_ret
    exact ⟨La.retB HE.out.symm, B0.out⟩
  by_cases h2 : 24 < mn
  · have HE : Hid (R = false) := Lib.hid (by rw [E.out, if_pos (.inr h2)])
    clear E KN
    go_enter Tryz.func126, Tryz.ntmps126
    go_wp2
    go_ret
    exact ⟨La.retB HE.out.symm, B0.out⟩
  by_cases htp : tp = []
  · subst htp
    have HE : Hid (R = decide (sk = 0)) := Lib.hid (by rw [E.out, if_neg (by omega), if_pos rfl])
    clear E KN
    go_enter Tryz.func126, Tryz.ntmps126
    go_wp2
    go_ret
    refine ⟨La.retB ?_, B0.out⟩
    rw [HE.out, Bool.eq_iff_iff]
    simp
  · have HE : Hid (R = (v0 && decide (1 ≤ sk ∧ sk ≤ 24))) := Lib.hid (by rw [E.out, if_neg (by omega), if_neg htp])
    have h3 : tp.isEmpty = false := by simpa using htp
    have h4 : (!tp.isEmpty) = true := by simpa using htp
    have HT := Lib.hid htp
    clear htp E
    go_enter Tryz.func126, Tryz.ntmps126
    go_wp2_with fail
    refine (KN.out _).mono ?_
    rintro e w2 ⟨rfl, hb⟩
    have Q2 := Lib.hid (Q0.out.below hb hlt0)
    have B2 := Lib.hid (B0.out.trans (hb.mono (Nat.le_of_lt hlt0)))
    clear hb KN
    have c3 : w2.cell? ⟨w.heap.size, 3, none⟩ = some (.int .i64 sk) := Blk.cell Q2.out 3
    cases v0
    · go_wp2
      go_ret
      exact ⟨La.retB (by rw [HE.out]; rfl), B2.out⟩
    · go_wp2
      all_goals
        go_ret
        refine ⟨La.retB ?_, B2.out⟩
        rw [HE.out, Bool.eq_iff_iff]
        simp
        try omega
end Go.Proofs.YtfpbdfagcfdbbaaGreat

namespace Go.Proofs.YtfpbdfagcfdbbaaGreat
open Go.RowKit

theorem idx_lt (name : List UInt8) : ∀ l : List (List UInt8), idxF name l < (l.length : Int)
  | [] => by simp [idxF]
  | x :: t => by
    have := idx_lt name t
    rw [idxF]
    simp only [List.length_cons]
    split
    · omega
    · split <;> omega

set_option maxRecDepth 100000 in
set_option maxHeartbeats 2000000 in
theorem idxO3_any (A B C : Option Addr) (ca cb cc : Nat) (ns : List NodeD) (ps : List PodD) (os : List OwnD) (name : List UInt8) (w : World) (h : SnapAt w A B C ca cb cc ns ps os) :
    Calls Tryz.prog 157 #[snapV A B C ca cb cc ns ps os, strV name] w fun e w' => e = .returned (.int .i64 (idxF name (os.map (·.name)))) ∧ Below w.heap.size w w' := by
  have H := Lib.hid h
  have hln := h.lo
  have B0 : Hid (Below w.heap.size w (w.alloc (.cells (snapC A B C ca cb cc ns ps os) 26))) := Lib.hid (below1 w _)
  have S0 : Hid (Blk (w.alloc (.cells (snapC A B C ca cb cc ns ps os) 26)) w.heap.size (snapC A B C ca cb cc ns ps os) 26) := Lib.hid (Blk.new w _ _)
  obtain ⟨R, hR⟩ : ∃ R, idxF name (os.map (·.name)) = R := ⟨_, rfl⟩
  rw [hR]
  have HR := Lib.hid hR
  clear h hR
  go_enter Tryz.func157, Tryz.ntmps157
  go_wp2_with fail
  generalize (w.alloc (.cells (snapC A B C ca cb cc ns ps os) 26)) = W at B0 S0 ⊢
  go_loopw [5] (fun i wr => wr = W ∧ ∃ k : Nat, k ≤ os.length ∧ i = .int .i64 k ∧ (∀ j x, j < k → (os.map (·.name))[j]? = some x → x ≠ name)) (fun i _ => os.length - (intOf i).toNat)
  case atStart => exact ⟨rfl, 0, by omega, rfl, fun j x h => by omega⟩
  case round =>
    obtain ⟨rfl, k, hk, rfl, hn⟩ := hrel
    have HN := Lib.hid hn
    clear hn
    have s2 : wr.cell? ⟨w.heap.size, 2, none⟩ = some (.slice C os.length cc) := Blk.cell S0.out 2
    by_cases hlt : k < os.length
    · obtain ⟨x, hx⟩ : ∃ x, os[k]? = some x := ⟨os[k], List.getElem?_eq_getElem hlt⟩
      obtain ⟨b, o, hA, hbl, c0, d1, d2, d3, d4⟩ := atO (H.out.below B0.out).o hx
      subst hA
      clear d1 d2 d3 d4
      have HX : Hid ((os.map (·.name))[k]? = some x.name) := Lib.hid (by rw [List.getElem?_map, hx]; rfl)
      have k0 : (0 : Int) ≤ (k : Int) := by omega
      have k1 : (k : Int) < (os.length : Int) := by omega
      clear hx
      by_cases hq : x.name = name
      · have hqb : (x.name == name) = true := by simpa using hq
        have HE : Hid (R = (k : Int)) := Lib.hid (by rw [← HR.out]; exact idx_hit name _ k (hq ▸ HX.out) HN.out)
        clear hq HR
        go_wp2
        go_ret
        exact ⟨La.retI HE.out.symm, B0.out⟩
      · have hqb : (x.name == name) = false := by simpa using hq
        have HQ := Lib.hid hq
        clear hq
        go_wp2_with fail
        go_roundw
        case rel =>
          refine ⟨by first | rfl | trivial, k + 1, by omega, by go_num, fun j y hj hy => ?_⟩
          by_cases hjk : j = k
          · subst hjk
            rw [HX.out] at hy
            cases hy
            exact HQ.out
          · exact HN.out j y (by omega) hy
        case measure => simp [intOf]; omega
    · obtain rfl : k = os.length := by omega
      have HE : Hid (R = -1) := Lib.hid (by
        rw [← HR.out]
        refine idx_miss name _ (fun j x hx => HN.out j x ?_ hx)
        have := (List.getElem?_eq_some_iff.1 hx).1
        simpa using this)
      go_wp2
      go_ret
      exact ⟨La.retI HE.out.symm, B0.out⟩

set_option maxRecDepth 100000 in
set_option maxHeartbeats 2000000 in
theorem idxN3_any (A B C : Option Addr) (ca cb cc : Nat) (ns : List NodeD) (ps : List PodD) (os : List OwnD) (name : List UInt8) (w : World) (h : SnapAt w A B C ca cb cc ns ps os) :
    Calls Tryz.prog 158 #[snapV A B C ca cb cc ns ps os, strV name] w fun e w' => e = .returned (.int .i64 (idxF name (ns.map (·.name)))) ∧ Below w.heap.size w w' := by
  have H := Lib.hid h
  have hln := h.ln
  have B0 : Hid (Below w.heap.size w (w.alloc (.cells (snapC A B C ca cb cc ns ps os) 26))) := Lib.hid (below1 w _)
  have S0 : Hid (Blk (w.alloc (.cells (snapC A B C ca cb cc ns ps os) 26)) w.heap.size (snapC A B C ca cb cc ns ps os) 26) := Lib.hid (Blk.new w _ _)
  obtain ⟨R, hR⟩ : ∃ R, idxF name (ns.map (·.name)) = R := ⟨_, rfl⟩
  rw [hR]
  have HR := Lib.hid hR
  clear h hR
  go_enter Tryz.func158, Tryz.ntmps158
  go_wp2_with fail
  generalize (w.alloc (.cells (snapC A B C ca cb cc ns ps os) 26)) = W at B0 S0 ⊢
  go_loopw [5] (fun i wr => wr = W ∧ ∃ k : Nat, k ≤ ns.length ∧ i = .int .i64 k ∧ (∀ j x, j < k → (ns.map (·.name))[j]? = some x → x ≠ name)) (fun i _ => ns.length - (intOf i).toNat)
  case atStart => exact ⟨rfl, 0, by omega, rfl, fun j x h => by omega⟩
  case round =>
    obtain ⟨rfl, k, hk, rfl, hn⟩ := hrel
    have HN := Lib.hid hn
    clear hn
    have s0 : wr.cell? ⟨w.heap.size, 0, none⟩ = some (.slice A ns.length ca) := Blk.cell S0.out 0
    by_cases hlt : k < ns.length
    · obtain ⟨x, hx⟩ : ∃ x, ns[k]? = some x := ⟨ns[k], List.getElem?_eq_getElem hlt⟩
      obtain ⟨b, o, hA, hbl, c0, d1, d2, d3, d4, d5, d6, d7, d8, d9⟩ := atN (H.out.below B0.out).n.cells hx
      subst hA
      clear d1 d2 d3 d4 d5 d6 d7 d8 d9
      have HX : Hid ((ns.map (·.name))[k]? = some x.name) := Lib.hid (by rw [List.getElem?_map, hx]; rfl)
      have k0 : (0 : Int) ≤ (k : Int) := by omega
      have k1 : (k : Int) < (ns.length : Int) := by omega
      clear hx
      by_cases hq : x.name = name
      · have hqb : (x.name == name) = true := by simpa using hq
        have HE : Hid (R = (k : Int)) := Lib.hid (by rw [← HR.out]; exact idx_hit name _ k (hq ▸ HX.out) HN.out)
        clear hq HR
        go_wp2
        go_ret
        exact ⟨La.retI HE.out.symm, B0.out⟩
      · have hqb : (x.name == name) = false := by simpa using hq
        have HQ := Lib.hid hq
        clear hq
        go_wp2_with fail
        go_roundw
        case rel =>
          refine ⟨by first | rfl | trivial, k + 1, by omega, by go_num, fun j y hj hy => ?_⟩
          by_cases hjk : j = k
          · subst hjk
            rw [HX.out] at hy
            cases hy
            exact HQ.out
          · exact HN.out j y (by omega) hy
        case measure => simp [intOf]; omega
    · obtain rfl : k = ns.length := by omega
      have HE : Hid (R = -1) := Lib.hid (by
        rw [← HR.out]
        refine idx_miss name _ (fun j x hx => HN.out j x ?_ hx)
        have := (List.getElem?_eq_some_iff.1 hx).1
        simpa using this)
      go_wp2
      go_ret
      exact ⟨La.retI HE.out.symm, B0.out⟩

set_option maxRecDepth 100000 in
set_option maxHeartbeats 4000000 in
theorem pod3_any (A B C : Option Addr) (ca cb cc : Nat) (ns : List NodeD) (ps : List PodD) (os : List OwnD) (x : PodD) (w : World) (h : SnapAt w A B C ca cb cc ns ps os) (hx : x.fit w) :
    Calls Tryz.prog 125 #[snapV A B C ca cb cc ns ps os, valP x] w fun e w' => e = .returned (.bool (podB x && knownB ns os x)) ∧ Below w.heap.size w w' := by
  have KV := Lib.hid (fun w => Qu.rvcheck_any x.req w)
  have K1 : Hid (∀ w', Below w.heap.size w w' → Calls Tryz.prog 156 #[.slice x.al x.labels.length x.cl] w' fun e w'' => e = .returned (.int .i64 (La.chkA La.labB La.keyR x.labels)) ∧ Below w'.heap.size w' w'') := Lib.hid (fun w' hb => by
    have h := hx.l.below hb
    exact check3_any x.al x.cl x.labels w' h)
  have K2 : Hid (∀ w', Below w.heap.size w w' → Calls Tryz.prog 159 #[.slice x.aw x.whr.length x.cw] w' fun e w'' => e = .returned (.int .i64 (La.chkA La.terB La.anyR x.whr)) ∧ Below w'.heap.size w' w'') := Lib.hid (fun w' hb => by
    have h := hx.wh.below hb
    exact terms3_any x.aw x.cw x.whr w' h)
  have K3 : Hid (∀ w', Below w.heap.size w w' → Calls Tryz.prog 160 #[.slice x.ab x.bears.length x.cb] w' fun e w'' => e = .returned (.int .i64 (La.chkA La.borB La.pairR x.bears)) ∧ Below w'.heap.size w' w'') := Lib.hid (fun w' hb => by
    have h := hx.b.below hb
    exact checkBears3_any x.ab x.cb x.bears w' h)
  have K4 : Hid (∀ w', Below w.heap.size w w' → Calls Tryz.prog 161 #[valNear x.wt x.wtm x.awt x.cwt] w' fun e w'' => e = .returned (.bool (nearB x.wt x.wtm)) ∧ Below w'.heap.size w' w'') := Lib.hid (fun w' hb => near3_any x.wt x.wtm x.awt x.cwt w' (hx.wt.below hb) hx.n.2.2.1)
  have K5 : Hid (∀ w', Below w.heap.size w w' → Calls Tryz.prog 161 #[valNear x.ap x.apm x.aap x.cap] w' fun e w'' => e = .returned (.bool (nearB x.ap x.apm)) ∧ Below w'.heap.size w' w'') := Lib.hid (fun w' hb => near3_any x.ap x.apm x.aap x.cap w' (hx.ap.below hb) hx.n.2.2.2.1)
  have E : Hid (podB x = ((Qu.chkV x.req == 0) && (La.chkA La.labB La.keyR x.labels == 0) && (La.chkA La.terB La.anyR x.whr == 0) && (La.chkA La.borB La.pairR x.bears == 0) && nearB x.wt x.wtm && nearB x.ap x.apm)) := Lib.hid rfl
  generalize podB x = R at E ⊢
  generalize Qu.chkV x.req = v1 at KV E
  generalize La.chkA La.labB La.keyR x.labels = v2 at K1 E
  generalize La.chkA La.terB La.anyR x.whr = v3 at K2 E
  generalize La.chkA La.borB La.pairR x.bears = v4 at K3 E
  generalize nearB x.wt x.wtm = v5 at K4 E
  generalize nearB x.ap x.apm = v6 at K5 E
  have KO := Lib.hid (fun w' (hb : Below w.heap.size w w') => idxO3_any A B C ca cb cc ns ps os x.owner w' (h.below hb))
  have KN := Lib.hid (fun w' (hb : Below w.heap.size w w') => idxN3_any A B C ca cb cc ns ps os x.on w' (h.below hb))
  have HNs := Lib.hid (fun w' (hb : Below w.heap.size w w') => (h.below hb).n.cells)
  have B0 : Hid (Below w.heap.size w ((w.alloc (.cells (snapC A B C ca cb cc ns ps os) 26)).alloc (.cells (cellsP [x]).toArray 69))) := Lib.hid (Qu.below2 w _ _)
  have Q0 : Hid (Blk ((w.alloc (.cells (snapC A B C ca cb cc ns ps os) 26)).alloc (.cells (cellsP [x]).toArray 69)) (w.heap.size + 1) (cellsP [x]).toArray 69) := Lib.hid (blk2 w _ _ _)
  have S0 : Hid (Blk ((w.alloc (.cells (snapC A B C ca cb cc ns ps os) 26)).alloc (.cells (cellsP [x]).toArray 69)) w.heap.size (snapC A B C ca cb cc ns ps os) 26) := Lib.hid (Blk.alloc (Blk.new w _ _) _)
  have EK : Hid (knownB ns os x = ((decide (x.owner = []) || !(idxF x.owner (os.map (·.name)) == -1)) && (decide (x.on = []) || tpB ns (idxF x.on (ns.map (·.name)))))) := Lib.hid rfl
  generalize knownB ns os x = KB at EK ⊢
  have r1 := idx_range x.owner (os.map (·.name))
  have r2 := idx_lt x.on (ns.map (·.name))
  have hln := h.ln
  rw [List.length_map] at r1 r2
  generalize hiO : idxF x.owner (os.map (·.name)) = iO at KO EK r1
  generalize hiN : idxF x.on (ns.map (·.name)) = iN at KN EK r2
  clear hx h hiO hiN
  go_enter Tryz.func125, Tryz.ntmps125
  go_upto_region 1 with fail
  change Code.wp _ _ _ _ ((w.alloc (.cells (snapC A B C ca cb cc ns ps os) 26)).alloc (.cells (cellsP [x]).toArray 69))
  generalize ((w.alloc (.cells (snapC A B C ca cb cc ns ps os) 26)).alloc (.cells (cellsP [x]).toArray 69)) = W at B0 Q0 S0 ⊢
  go_cut [15] (fun v wc => v = .bool (!(decide (x.owner = []) || !(iO == -1))) ∧ Below w.heap.size w wc ∧ Blk wc (w.heap.size + 1) (cellsP [x]).toArray 69 ∧ Blk wc w.heap.size (snapC A B C ca cb cc ns ps os) 26)
  case first =>
    have p1 : W.cell? ⟨w.heap.size + 1, 1, none⟩ = some (strV x.owner) := Blk.cell Q0.out 1
    have s0 : W.cell? ⟨w.heap.size, 0, none⟩ = some (.slice A ns.length ca) := Blk.cell S0.out 0
    have s1 : W.cell? ⟨w.heap.size, 1, none⟩ = some (.slice B ps.length cb) := Blk.cell S0.out 1
    have s2 : W.cell? ⟨w.heap.size, 2, none⟩ = some (.slice C os.length cc) := Blk.cell S0.out 2
    by_cases ho : x.owner = []
    · have HE : Hid ((!(decide (x.owner = []) || !(iO == -1))) = false) := Lib.hid (by rw [decide_eq_true ho]; rfl)
      have e1 : x.owner.isEmpty = true := by simpa using ho
      have e2 : (x.owner == []) = true := by simpa using ho
      have e3 : (x.owner != []) = false := by simpa using ho
      clear ho
      go_wp2_with fail
      go_meet
      exact ⟨by rw [HE.out], B0.out, Q0.out, S0.out⟩
    · have HE : Hid ((!(decide (x.owner = []) || !(iO == -1))) = decide (iO < 0)) := Lib.hid (by
        rw [decide_eq_false ho, Bool.false_or, Bool.not_not, Bool.eq_iff_iff]
        simp
        omega)
      have e1 : x.owner.isEmpty = false := by simpa using ho
      have e2 : (x.owner == []) = false := by simpa using ho
      have e3 : (x.owner != []) = true := by simpa using ho
      clear ho
      go_wp2_with fail
      refine (KO.out _ B0.out).mono ?_
      rintro e w1 ⟨rfl, hb⟩
      have B1 := Lib.hid (B0.out.trans (hb.mono B0.out.size))
      have Q1 := Lib.hid (Q0.out.below hb Q0.out.lt)
      have S1 := Lib.hid (S0.out.below hb S0.out.lt)
      clear hb
      go_wp2_with fail
      go_meet
      exact ⟨by rw [HE.out], B1.out, Q1.out, S1.out⟩
  case rest =>
    rename_i wc
    obtain ⟨rfl, hB, hQ, hS⟩ := hcut
    have B1 := Lib.hid hB
    have Q1 := Lib.hid hQ
    have S1 := Lib.hid hS
    clear hB hQ hS B0 Q0 S0 KO
    cases hko : (decide (x.owner = []) || !(iO == -1))
    · have HE : Hid ((R && KB) = false) := Lib.hid (by rw [EK.out, hko, Bool.false_and, Bool.and_false])
      clear hko
      go_wp2_with fail
      go_ret
      exact ⟨La.retB HE.out.symm, B1.out⟩
    have EK2 : Hid (KB = (decide (x.on = []) || tpB ns iN)) := Lib.hid (by rw [EK.out, hko, Bool.true_and])
    clear hko EK
    have p14 : wc.cell? ⟨w.heap.size + 1, 14, none⟩ = some (strV x.on) := Blk.cell Q1.out 14
    go_upto_if 18 with fail
    go_cut [18] (fun _ wd => (R && KB) = R ∧ Below w.heap.size w wd ∧ Blk wd (w.heap.size + 1) (cellsP [x]).toArray 69)
    case first =>
      have s0 : wc.cell? ⟨w.heap.size, 0, none⟩ = some (.slice A ns.length ca) := Blk.cell S1.out 0
      have s1 : wc.cell? ⟨w.heap.size, 1, none⟩ = some (.slice B ps.length cb) := Blk.cell S1.out 1
      have s2 : wc.cell? ⟨w.heap.size, 2, none⟩ = some (.slice C os.length cc) := Blk.cell S1.out 2
      by_cases ho : x.on = []
      · have HE : Hid ((R && KB) = R) := Lib.hid (by rw [EK2.out, decide_eq_true ho, Bool.true_or, Bool.and_true])
        have e1 : x.on.isEmpty = true := by simpa using ho
        have e2 : (x.on == []) = true := by simpa using ho
        have e3 : (x.on != []) = false := by simpa using ho
        clear ho
        rw [e1]
        go_wp2_with fail
        go_meet
        exact ⟨HE.out, B1.out, Q1.out⟩
      · have EK3 : Hid (KB = tpB ns iN) := Lib.hid (by rw [EK2.out, decide_eq_false ho, Bool.false_or])
        have e1 : x.on.isEmpty = false := by simpa using ho
        have e2 : (x.on == []) = false := by simpa using ho
        have e3 : (x.on != []) = true := by simpa using ho
        clear ho
        rw [e1]
        go_wp2_with fail
        refine (KN.out _ B1.out).mono ?_
        rintro e w1 ⟨rfl, hb⟩
        have B2 := Lib.hid (B1.out.trans (hb.mono B1.out.size))
        have Q2 := Lib.hid (Q1.out.below hb Q1.out.lt)
        have S2 := Lib.hid (S1.out.below hb S1.out.lt)
        clear hb p14 s0 s1 s2
        have s0 : w1.cell? ⟨w.heap.size, 0, none⟩ = some (.slice A ns.length ca) := Blk.cell S2.out 0
        by_cases hneg : iN < 0
        · have HE : Hid ((R && KB) = false) := Lib.hid (by
            rw [EK3.out]
            unfold tpB
            rw [decide_eq_false (by omega), Bool.false_and, Bool.and_false])
          go_wp2_with fail
          go_ret
          exact ⟨La.retB HE.out.symm, B2.out⟩
        · obtain ⟨n, rfl⟩ : ∃ n : Nat, iN = (n : Int) := ⟨iN.toNat, by omega⟩
          have hnl : n < ns.length := by omega
          obtain ⟨y, hy⟩ : ∃ y, ns[n]? = some y := ⟨ns[n], List.getElem?_eq_getElem hnl⟩
          obtain ⟨b, o, hA, hbl, c0, c1, c2, c3, c4, c5, c6, c7, c8, c9⟩ := atN (HNs.out w1 B2.out) hy
          subst hA
          have EK4 : Hid (KB = !y.lost) := Lib.hid (by rw [EK3.out]; unfold tpB; rw [Int.toNat_natCast, hy, decide_eq_true (by omega)]; rfl)
          have n0 : (0 : Int) ≤ (n : Int) := by omega
          have n1 : (n : Int) < (ns.length : Int) := by omega
          clear hy c0 c1 c2 c3 c4 c5 c6 c7 c8 KN HNs
          cases hyl : y.lost
          · have HE : Hid ((R && KB) = R) := Lib.hid (by rw [EK4.out, hyl]; simp)
            rw [hyl] at c9
            go_wp2_with fail
            go_meet
            exact ⟨HE.out, B2.out, Q2.out⟩
          · have HE : Hid ((R && KB) = false) := Lib.hid (by rw [EK4.out, hyl]; simp)
            rw [hyl] at c9
            go_wp2_with fail
            go_ret
            exact ⟨La.retB HE.out.symm, B2.out⟩
    case rest =>
      obtain ⟨hRK, hB, hQ⟩ := hcut
      have HRK := Lib.hid hRK
      have hlt0 := Blk.lt hQ
      have B0 := Lib.hid hB
      have Q0 := Lib.hid hQ
      clear hB hQ B1 Q1 S1 hRK KN
      have p2 : wc.cell? ⟨w.heap.size + 1, 2, none⟩ = some (.int .i64 (x.req 0)) := Blk.cell Q0.out 2
      have p3 : wc.cell? ⟨w.heap.size + 1, 3, none⟩ = some (.int .i64 (x.req 1)) := Blk.cell Q0.out 3
      have p4 : wc.cell? ⟨w.heap.size + 1, 4, none⟩ = some (.int .i64 (x.req 2)) := Blk.cell Q0.out 4
      have p5 : wc.cell? ⟨w.heap.size + 1, 5, none⟩ = some (.int .i64 (x.req 3)) := Blk.cell Q0.out 5
      have p6 : wc.cell? ⟨w.heap.size + 1, 6, none⟩ = some (.int .i64 (x.req 4)) := Blk.cell Q0.out 6
      go_wp2_with fail
      refine (KV.out _).mono ?_
      rintro e w2 ⟨rfl, hb⟩
      have Q2 := Lib.hid (Q0.out.below hb hlt0)
      have B2 := Lib.hid (B0.out.trans (hb.mono B0.out.size))
      clear hb KV
      have hl2 := Blk.lt Q2.out
      have c7 : w2.cell? ⟨w.heap.size + 1, 7, none⟩ = some (.slice x.al x.labels.length x.cl) := Blk.cell Q2.out 7
      cases h1 : (v1 == 0)
      · have HE : Hid (R = false) := Lib.hid (by rw [E.out, h1]; rfl)
        have h1' : (v1 != 0) = true := by simpa using h1
        go_wp2
        go_ret
        exact ⟨La.retB (HRK.out.trans HE.out).symm, B2.out⟩
      have h1' : (v1 != 0) = false := by simpa using h1
      go_wp2_with fail
      refine (K1.out _ B2.out).mono ?_
      rintro e w3 ⟨rfl, hb⟩
      have Q3 := Lib.hid (Q2.out.below hb hl2)
      have B3 := Lib.hid (B2.out.trans (hb.mono B2.out.size))
      clear hb K1 c7 Q2
      have hl3 := Blk.lt Q3.out
      have c8 : w3.cell? ⟨w.heap.size + 1, 8, none⟩ = some (.slice x.aw x.whr.length x.cw) := Blk.cell Q3.out 8
      cases h2 : (v2 == 0)
      · have HE : Hid (R = false) := Lib.hid (by rw [E.out, h1, h2]; rfl)
        have h2' : (v2 != 0) = true := by simpa using h2
        go_wp2
        go_ret
        exact ⟨La.retB (HRK.out.trans HE.out).symm, B3.out⟩
      have h2' : (v2 != 0) = false := by simpa using h2
      go_wp2_with fail
      refine (K2.out _ B3.out).mono ?_
      rintro e w4 ⟨rfl, hb⟩
      have Q4 := Lib.hid (Q3.out.below hb hl3)
      have B4 := Lib.hid (B3.out.trans (hb.mono B3.out.size))
      clear hb K2 c8 Q3
      have hl4 := Blk.lt Q4.out
      have c9 : w4.cell? ⟨w.heap.size + 1, 9, none⟩ = some (.slice x.ab x.bears.length x.cb) := Blk.cell Q4.out 9
      cases h3 : (v3 == 0)
      · have HE : Hid (R = false) := Lib.hid (by rw [E.out, h1, h2, h3]; rfl)
        have h3' : (v3 != 0) = true := by simpa using h3
        go_wp2
        go_ret
        exact ⟨La.retB (HRK.out.trans HE.out).symm, B4.out⟩
      have h3' : (v3 != 0) = false := by simpa using h3
      go_wp2_with fail
      refine (K3.out _ B4.out).mono ?_
      rintro e w5 ⟨rfl, hb⟩
      have Q5 := Lib.hid (Q4.out.below hb hl4)
      have B5 := Lib.hid (B4.out.trans (hb.mono B4.out.size))
      clear hb K3 c9 Q4
      have hl5 := Blk.lt Q5.out
      have c10 : w5.cell? ⟨w.heap.size + 1, 10, none⟩ = some (strV x.wt) := Blk.cell Q5.out 10
      have c11 : w5.cell? ⟨w.heap.size + 1, 11, none⟩ = some (.slice x.awt x.wtm.length x.cwt) := Blk.cell Q5.out 11
      cases h4 : (v4 == 0)
      · have HE : Hid (R = false) := Lib.hid (by rw [E.out, h1, h2, h3, h4]; rfl)
        have h4' : (v4 != 0) = true := by simpa using h4
        go_wp2
        go_ret
        exact ⟨La.retB (HRK.out.trans HE.out).symm, B5.out⟩
      have h4' : (v4 != 0) = false := by simpa using h4
      go_wp2_with fail
      refine (K4.out _ B5.out).mono ?_
      rintro e w6 ⟨rfl, hb⟩
      have Q6 := Lib.hid (Q5.out.below hb hl5)
      have B6 := Lib.hid (B5.out.trans (hb.mono B5.out.size))
      clear hb K4 c10 c11 Q5
      have hl6 := Blk.lt Q6.out
      have c12 : w6.cell? ⟨w.heap.size + 1, 12, none⟩ = some (strV x.ap) := Blk.cell Q6.out 12
      have c13 : w6.cell? ⟨w.heap.size + 1, 13, none⟩ = some (.slice x.aap x.apm.length x.cap) := Blk.cell Q6.out 13
      have HE0 : Hid (R = (v5 && v6)) := Lib.hid (by rw [E.out, h1, h2, h3, h4]; simp)
      clear h1 h2 h3 h4 h1' h2' h3' h4' E
      cases v5
      · have HE : Hid (R = false) := Lib.hid (by rw [HE0.out]; rfl)
        go_wp2
        go_ret
        exact ⟨La.retB (HRK.out.trans HE.out).symm, B6.out⟩
      · go_wp2_with fail
        refine (K5.out _ B6.out).mono ?_
        rintro e w7 ⟨rfl, hb⟩
        have B7 := Lib.hid (B6.out.trans (hb.mono B6.out.size))
        clear hb K5 c12 c13
        have HE : Hid (R = v6) := Lib.hid (by rw [HE0.out]; rfl)
        go_wp2
        go_ret
        exact ⟨La.retB (HRK.out.trans HE.out).symm, B7.out⟩
end Go.Proofs.YtfpbdfagcfdbbaaGreat

namespace Go.Proofs.YtfpbdfagcfdbbaaGreat
open Go.RowKit

theorem ltS_lessD : ∀ (y x : List UInt8), ltS y x = Op.bytesLess y x
  | [], [] => rfl
  | [], _ :: _ => rfl
  | _ :: _, [] => rfl
  | a :: s, b :: t => by
    have ih := ltS_lessD s t
    unfold ltS at ih ⊢
    rw [Op.bytesLess, Op.bytesLess, ← ih, List.cons_beq_cons]
    rcases Nat.lt_trichotomy a.toNat b.toNat with h | h | h
    · have h1 : a < b := UInt8.lt_iff_toNat_lt.2 h
      have h2 : ¬ b < a := fun hh => by have := UInt8.lt_iff_toNat_lt.1 hh; omega
      have h3 : ¬ b = a := fun hh => by subst hh; omega
      simp [h1, h2, h3]
    · have h1 : a = b := UInt8.toNat_inj.1 h
      subst h1
      have h2 : ¬ a < a := fun hh => by have := UInt8.lt_iff_toNat_lt.1 hh; omega
      simp [h2]
    · have h1 : b < a := UInt8.lt_iff_toNat_lt.2 h
      have h2 : ¬ a < b := fun hh => by have := UInt8.lt_iff_toNat_lt.1 hh; omega
      have h3 : ¬ a = b := fun hh => by subst hh; omega
      simp [h1, h2, h3]
theorem str_infoD : (Tryz.prog.info? 9).map (fun i => (i.zero, i.size, i.bytes)) = some (some (.string ⟨#[]⟩), 1, 16) := by kernel_rfl
set_option maxRecDepth 100000 in
set_option maxHeartbeats 2000000 in
theorem rise3_any (A : Option Addr) (c : Nat) (l : List (List UInt8)) (w : World) (hl : l.length ≤ 1000) (hs : La.SlAt w A (strC l)) (hbig : ∀ x ∈ l, x.length ≤ 9223372036854775807) :
    Calls Tryz.prog 123 #[.slice A l.length c] w fun e w' => e = .returned (.bool (namesB l)) ∧ Below w.heap.size w w' := by
  have HS := Lib.hid hs
  have Hbig := Lib.hid hbig
  clear hs hbig
  obtain ⟨R, hR⟩ : ∃ R, namesB l = R := ⟨_, rfl⟩
  rw [hR]
  have HR := Lib.hid hR
  clear hR
  go_enter Tryz.func123, Tryz.ntmps123
  go_wp2
  go_loopw [3] (fun i wr => ∃ k : Nat, k ≤ l.length ∧ i = .int .i64 k ∧ La.chkK La.nameB ltS l k = true ∧ Below w.heap.size w wr) (fun i _ => l.length - (intOf i).toNat)
  case atStart => exact ⟨0, by omega, rfl, rfl, Below.refl _ _⟩
  case round =>
    obtain ⟨k, hk, rfl, hp, hbw⟩ := hrel
    have Hp := Lib.hid hp
    have HB := Lib.hid hbw
    clear hp hbw
    by_cases hlt : k < l.length
    · obtain ⟨x, hxk⟩ : ∃ x, l[k]? = some x := ⟨l[k], List.getElem?_eq_getElem hlt⟩
      obtain ⟨b, o, hA, hb0, hx⟩ := strC_at (HS.out.below HB.out) hxk
      subst hA
      have Hstep : Hid (La.chkK La.nameB ltS l (k + 1) = La.okAt La.nameB ltS l k x) := Lib.hid (by rw [La.chkK, Hp.out, hxk]; rfl)
      have KN := Lib.hid (fun w' => (La.rname_any x w' (Hbig.out x (List.mem_of_getElem? hxk))).mono (fun e w'' h => (⟨h.1, h.2.symm⟩ : e = .returned (.bool (La.nameB x)) ∧ w'' = w')))
      have k0 : (0 : Int) ≤ (k : Int) := by omega
      have k1 : (k : Int) < (l.length : Int) := by omega
      have Hxk := Lib.hid hxk
      clear hxk
      cases hnb : La.nameB x
      · have HNo := Lib.hid (show R = false from by
          rw [← HR.out]
          exact La.chkK_false (k := k + 1) (by rw [Hstep.out]; exact La.okAt_no hnb) (by omega))
        rw [hnb] at KN
        go_wp2_with fail
        go_quiet ((go_at_call 154; exact Calls.quiet_of_same (KN.out _)))
        go_wp2
        go_ret
        exact ⟨La.retB HNo.out.symm, belowN HB.out _⟩
      · by_cases hz : k = 0
        · subst hz
          rw [Nat.add_zero] at hx
          have HO := Lib.hid (La.okAt_zero (mb := La.nameB) (ri := ltS) (l := l) (k := 0) hnb rfl)
          rw [hnb] at KN
          clear hnb
          go_wp2_with fail
          go_quiet ((go_at_call 154; exact Calls.quiet_of_same (KN.out _)))
          go_wp2
          go_roundw
          case rel => exact ⟨1, by omega, by go_num, by rw [Hstep.out, HO.out], belowN HB.out _⟩
          case measure => simp [intOf]; omega
        · obtain ⟨y, hy⟩ : ∃ y, l[k - 1]? = some y := ⟨l[k - 1]'(by omega), List.getElem?_eq_getElem (by omega)⟩
          obtain ⟨b', o', hA', _, hyc⟩ := strC_at (HS.out.below HB.out) hy
          simp only [Option.some.injEq, Addr.mk.injEq] at hA'
          obtain ⟨rfl, rfl, _⟩ := hA'
          have HO := Lib.hid (La.okAt_pos (mb := La.nameB) (ri := ltS) (l := l) (k := k) hnb hz hy)
          have n1 : (1 : Int) ≤ (k : Int) := by omega
          have n2 : (0 : Int) < (k : Int) := by omega
          have n3 : ((k : Int) - 1).toNat = k - 1 := by omega
          have n5 : (0 : Int) ≤ (k : Int) - 1 := by omega
          have n6 : (k : Int) - 1 < (l.length : Int) := by omega
          have n7 : ((k : Int) - 1 < 0) = False := by simp; omega
          have n8 : decide ((k : Int) - 1 < (l.length : Int)) = true := by simp; omega
          have n9 : decide (0 < k) = true := decide_eq_true (by omega)
          have n10 : 0 < k := by omega
          have n4 : IntKind.i64.wrap ((k : Int) - 1) = (k : Int) - 1 := IntWalk.i64_in _ (by omega)
          rw [hnb] at KN
          clear hnb hz hy
          have HN0 := Lib.hid (show ltS y x = false → R = false from fun hls => by
            rw [← HR.out]
            exact La.chkK_false (k := k + 1) (by rw [Hstep.out, HO.out, hls]) (by omega))
          cases h1 : Op.bytesLess y x
          · have HNo := Lib.hid (HN0.out (by rw [ltS_lessD, h1]))
            have h2 : (Op.bytesLess x y || x == y) = true := by
              have := ltS_lessD y x
              rw [h1] at this
              unfold ltS at this
              rwa [Bool.not_eq_false'] at this
            go_wp2_with fail
            go_quiet ((go_at_call 154; exact Calls.quiet_of_same (KN.out _)))
            go_wp2
            all_goals
              go_ret
              exact ⟨La.retB HNo.out.symm, belowN HB.out _⟩
          · have HL : Hid (ltS y x = true) := Lib.hid (by rw [ltS_lessD, h1])
            have h2 : (Op.bytesLess x y || x == y) = false := by
              have := ltS_lessD y x
              rw [h1] at this
              unfold ltS at this
              simpa using this
            have h3 : Op.bytesLess x y = false := by
              rw [Bool.or_eq_false_iff] at h2
              exact h2.1
            have h4 : (x == y) = false := by
              rw [Bool.or_eq_false_iff] at h2
              exact h2.2
            have h5 : (y == x) = false := by rw [beq_eq_false_iff_ne] at h4 ⊢; exact fun e => h4 e.symm
            go_wp2_with fail
            go_quiet ((go_at_call 154; exact Calls.quiet_of_same (KN.out _)))
            go_wp2
            go_roundw
            case rel => exact ⟨k + 1, by omega, by go_num, by rw [Hstep.out, HO.out, HL.out], belowN HB.out _⟩
            case measure => simp [intOf]; omega
    · obtain rfl : k = l.length := by omega
      have HY := Lib.hid (show R = true from by rw [← HR.out]; exact Hp.out)
      go_wp2
      go_ret
      exact ⟨La.retB HY.out.symm, HB.out⟩

/-- Texts that a slice lays. -/
def StrsAt (w : World) (A : Option Addr) (l : List (List UInt8)) : Prop := La.SlAt w A (strC l)
set_option maxRecDepth 100000 in
set_option maxHeartbeats 4000000 in
theorem names3_any (A B C : Option Addr) (ca cb cc : Nat) (ns : List NodeD) (ps : List PodD) (os : List OwnD) (w : World) (h : SnapAt w A B C ca cb cc ns ps os) :
    Calls Tryz.prog 122 #[snapV A B C ca cb cc ns ps os] w fun e w' => ∃ A1 c1 A2 c2 A3 c3, e = .returned (.tuple #[.slice A1 ns.length c1, .slice A2 ps.length c2, .slice A3 os.length c3]) ∧ StrsAt w' A1 (ns.map (·.name)) ∧ StrsAt w' A2 (ps.map (·.name)) ∧ StrsAt w' A3 (os.map (·.name)) ∧ Below w.heap.size w w' := by
  have H := Lib.hid h
  have hln := h.ln
  have hlp := h.lp
  have hlo := h.lo
  have B0 : Hid (Below w.heap.size w (w.alloc (.cells (snapC A B C ca cb cc ns ps os) 26))) := Lib.hid (below1 w _)
  have S0 : Hid (Blk (w.alloc (.cells (snapC A B C ca cb cc ns ps os) 26)) w.heap.size (snapC A B C ca cb cc ns ps os) 26) := Lib.hid (Blk.new w _ _)
  obtain ⟨is, his, hzs0, hzs1, hzs2⟩ := info_parts str_infoD
  clear h
  go_enter Tryz.func122, Tryz.ntmps122
  go_wp2_with fail
  generalize (w.alloc (.cells (snapC A B C ca cb cc ns ps os) 26)) = W at B0 S0 ⊢
  go_loopw [8, 5] (fun i v wr => ∃ k : Nat, k ≤ ns.length ∧ i = .int .i64 k ∧ wr.ownsRow W.heap.size 9 1 v k (strC ((ns.take k).map (·.name))) ∧ Below W.heap.size W wr) (fun i _ _ => ns.length - (intOf i).toNat)
  case atStart => exact ⟨0, by omega, rfl, by simpa [strC] using World.ownsRow_nil W W.heap.size 9 1, Below.refl _ _⟩
  case round =>
    obtain ⟨k, hk, rfl, hown, hbw⟩ := hrel
    have HO := Lib.hid hown
    have HW := Lib.hid hbw
    have HT := Lib.hid (B0.out.trans (hbw.mono B0.out.size))
    have HS := Lib.hid (S0.out.below hbw S0.out.lt)
    clear hown hbw
    have s0 : wr.cell? ⟨w.heap.size, 0, none⟩ = some (.slice A ns.length ca) := Blk.cell HS.out 0
    by_cases hlt : k < ns.length
    · obtain ⟨x, hx⟩ : ∃ x, ns[k]? = some x := ⟨ns[k], List.getElem?_eq_getElem hlt⟩
      obtain ⟨b, o, hA, hbl, c0, c1, c2, c3, c4, c5, c6, c7, c8, c9⟩ := atN (H.out.below HT.out).n.cells hx
      subst hA
      clear c1 c2 c3 c4 c5 c6 c7 c8 c9
      have Hsn : Hid (ns.take (k + 1) = ns.take k ++ [x]) := Lib.hid (by rw [List.take_add_one, hx]; rfl)
      have k0 : (0 : Int) ≤ (k : Int) := by omega
      have k1 : (k : Int) < (ns.length : Int) := by omega
      have hsz := HW.out.size
      clear hx
      go_wp2_with (at_builtin; refine wpList_append_own _ rfl _ _ 133 rfl W.heap.size 9 is (.string ⟨#[]⟩) 1 16 Tryz.underlying133 his hzs0 hzs1 hzs2 rfl (by decide) _ _ _ rfl (HO.out.alloc _) ⟨wr.heap.size, 0, none⟩ 1 1 [strV x.name] rfl rfl ?c1 ?c2 ?c3 ?c4 ?c5 ?_)
      case c1 =>
        intro j u hj
        match j, hj with
        | 0, hj => simp at hj; subst hj; first | (simp [Addr.add, go_sem]; done) | exact Blk.cell (Blk.new _ _ _) 0
      case c2 => first | rfl | (intro u hu; simp at hu; rcases hu with rfl <;> rfl) | (intro u hu; simp at hu; subst hu; rfl)
      case c3 => unfold maxLen; omega
      case c4 => omega
      case c5 => simp; omega
      intro v' w2 hown' hgrow' _
      have Hown2 := Lib.hid hown'
      have Hbw2 := Lib.hid ((HW.out.alloc HW.out.size (.cells #[strV x.name] 9)).grown hgrow' (by simp; omega) (fun j hj => La.own_ge' HO.out hj))
      clear hown' hgrow'
      go_wp2
      go_roundw
      case rel => exact ⟨k + 1, by omega, by go_num, by rw [Hsn.out, List.map_append]; simpa [strC] using Hown2.out, Hbw2.out⟩
      case measure => simp [intOf]; omega
    · obtain rfl : k = ns.length := by omega
      obtain ⟨A1, c1, rfl, _⟩ := La.own_slice HO.out
      have O1 : Hid (StrsAt wr (A1) (ns.map (·.name))) := Lib.hid (by have q := La.own_slat HO.out; rwa [List.take_length] at q)
      have B1 := HT
      have S1 := HS
      clear HO HW HT HS hlt hk
      obtain ⟨W1, hW1⟩ : ∃ W1 : World, W1 = wr := ⟨_, rfl⟩
      rw [← hW1] at O1 B1 S1 s0 ⊢
      clear hW1
      have s1 : W1.cell? ⟨w.heap.size, 1, none⟩ = some (.slice B ps.length cb) := Blk.cell S1.out 1
      go_wp2_with fail
      clear s0 s1
      go_loopw [9, 6] (fun i v wr => ∃ k : Nat, k ≤ ps.length ∧ i = .int .i64 k ∧ wr.ownsRow W1.heap.size 9 1 v k (strC ((ps.take k).map (·.name))) ∧ Below W1.heap.size W1 wr) (fun i _ _ => ps.length - (intOf i).toNat)
      case atStart => exact ⟨0, by omega, rfl, by simpa [strC] using World.ownsRow_nil W1 W1.heap.size 9 1, Below.refl _ _⟩
      case round =>
        obtain ⟨k, hk, rfl, hown, hbw⟩ := hrel
        have HO := Lib.hid hown
        have HW := Lib.hid hbw
        have HT := Lib.hid (B1.out.trans (hbw.mono B1.out.size))
        have HS := Lib.hid (S1.out.below hbw S1.out.lt)
        clear hown hbw
        have s1 : wr.cell? ⟨w.heap.size, 1, none⟩ = some (.slice B ps.length cb) := Blk.cell HS.out 1
        by_cases hlt : k < ps.length
        · obtain ⟨x, hx⟩ : ∃ x, ps[k]? = some x := ⟨ps[k], List.getElem?_eq_getElem hlt⟩
          obtain ⟨b, o, hA, hbl, c0, c1, c2, c3, c4, c5, c6, c7, c8, c9, c10, c11, c12, c13, c14⟩ := atP (H.out.below HT.out).p.cells hx
          subst hA
          clear c1 c2 c3 c4 c5 c6 c7 c8 c9 c10 c11 c12 c13 c14
          have Hsn : Hid (ps.take (k + 1) = ps.take k ++ [x]) := Lib.hid (by rw [List.take_add_one, hx]; rfl)
          have k0 : (0 : Int) ≤ (k : Int) := by omega
          have k1 : (k : Int) < (ps.length : Int) := by omega
          have hsz := HW.out.size
          clear hx
          go_wp2_with (at_builtin; refine wpList_append_own _ rfl _ _ 133 rfl W1.heap.size 9 is (.string ⟨#[]⟩) 1 16 Tryz.underlying133 his hzs0 hzs1 hzs2 rfl (by decide) _ _ _ rfl (HO.out.alloc _) ⟨wr.heap.size, 0, none⟩ 1 1 [strV x.name] rfl rfl ?c1 ?c2 ?c3 ?c4 ?c5 ?_)
          case c1 =>
            intro j u hj
            match j, hj with
            | 0, hj => simp at hj; subst hj; first | (simp [Addr.add, go_sem]; done) | exact Blk.cell (Blk.new _ _ _) 0
          case c2 => first | rfl | (intro u hu; simp at hu; rcases hu with rfl <;> rfl) | (intro u hu; simp at hu; subst hu; rfl)
          case c3 => unfold maxLen; omega
          case c4 => omega
          case c5 => simp; omega
          intro v' w2 hown' hgrow' _
          have Hown2 := Lib.hid hown'
          have Hbw2 := Lib.hid ((HW.out.alloc HW.out.size (.cells #[strV x.name] 9)).grown hgrow' (by simp; omega) (fun j hj => La.own_ge' HO.out hj))
          clear hown' hgrow'
          go_wp2
          go_roundw
          case rel => exact ⟨k + 1, by omega, by go_num, by rw [Hsn.out, List.map_append]; simpa [strC] using Hown2.out, Hbw2.out⟩
          case measure => simp [intOf]; omega
        · obtain rfl : k = ps.length := by omega
          obtain ⟨A2, c2, rfl, _⟩ := La.own_slice HO.out
          have O2 : Hid (StrsAt wr (A2) (ps.map (·.name))) := Lib.hid (by have q := La.own_slat HO.out; rwa [List.take_length] at q)
          have HWk := HW
          have B2 := HT
          have S2 := HS
          clear HO HW HT HS hlt hk
          have O12 := Lib.hid (show StrsAt wr A1 (ns.map (·.name)) from La.SlAt.below O1.out HWk.out)
          obtain ⟨W2, hW2⟩ : ∃ W2 : World, W2 = wr := ⟨_, rfl⟩
          rw [← hW2] at O12 O2 B2 S2 s1 ⊢
          clear hW2
          go_wp2_with fail
          clear s1
          go_loopw [10, 7] (fun i v wr => ∃ k : Nat, k ≤ os.length ∧ i = .int .i64 k ∧ wr.ownsRow W2.heap.size 9 1 v k (strC ((os.take k).map (·.name))) ∧ Below W2.heap.size W2 wr) (fun i _ _ => os.length - (intOf i).toNat)
          case atStart => exact ⟨0, by omega, rfl, by simpa [strC] using World.ownsRow_nil W2 W2.heap.size 9 1, Below.refl _ _⟩
          case round =>
            obtain ⟨k, hk, rfl, hown, hbw⟩ := hrel
            have HO := Lib.hid hown
            have HW := Lib.hid hbw
            have HT := Lib.hid (B2.out.trans (hbw.mono B2.out.size))
            have HS := Lib.hid (S2.out.below hbw S2.out.lt)
            clear hown hbw
            have s2 : wr.cell? ⟨w.heap.size, 2, none⟩ = some (.slice C os.length cc) := Blk.cell HS.out 2
            by_cases hlt : k < os.length
            · obtain ⟨x, hx⟩ : ∃ x, os[k]? = some x := ⟨os[k], List.getElem?_eq_getElem hlt⟩
              obtain ⟨b, o, hA, hbl, c0, c1, c2, c3, c4⟩ := atO (H.out.below HT.out).o hx
              subst hA
              clear c1 c2 c3 c4
              have Hsn : Hid (os.take (k + 1) = os.take k ++ [x]) := Lib.hid (by rw [List.take_add_one, hx]; rfl)
              have k0 : (0 : Int) ≤ (k : Int) := by omega
              have k1 : (k : Int) < (os.length : Int) := by omega
              have hsz := HW.out.size
              clear hx
              go_wp2_with (at_builtin; refine wpList_append_own _ rfl _ _ 133 rfl W2.heap.size 9 is (.string ⟨#[]⟩) 1 16 Tryz.underlying133 his hzs0 hzs1 hzs2 rfl (by decide) _ _ _ rfl (HO.out.alloc _) ⟨wr.heap.size, 0, none⟩ 1 1 [strV x.name] rfl rfl ?c1 ?c2 ?c3 ?c4 ?c5 ?_)
              case c1 =>
                intro j u hj
                match j, hj with
                | 0, hj => simp at hj; subst hj; first | (simp [Addr.add, go_sem]; done) | exact Blk.cell (Blk.new _ _ _) 0
              case c2 => first | rfl | (intro u hu; simp at hu; rcases hu with rfl <;> rfl) | (intro u hu; simp at hu; subst hu; rfl)
              case c3 => unfold maxLen; omega
              case c4 => omega
              case c5 => simp; omega
              intro v' w2 hown' hgrow' _
              have Hown2 := Lib.hid hown'
              have Hbw2 := Lib.hid ((HW.out.alloc HW.out.size (.cells #[strV x.name] 9)).grown hgrow' (by simp; omega) (fun j hj => La.own_ge' HO.out hj))
              clear hown' hgrow'
              go_wp2
              go_roundw
              case rel => exact ⟨k + 1, by omega, by go_num, by rw [Hsn.out, List.map_append]; simpa [strC] using Hown2.out, Hbw2.out⟩
              case measure => simp [intOf]; omega
            · obtain rfl : k = os.length := by omega
              obtain ⟨A3, c3, rfl, _⟩ := La.own_slice HO.out
              have O3 : Hid (StrsAt wr (A3) (os.map (·.name))) := Lib.hid (by have q := La.own_slat HO.out; rwa [List.take_length] at q)
              have HWk := HW
              have B3 := HT
              have S3 := HS
              clear HO HW HT HS hlt hk
              have O13 := Lib.hid (show StrsAt wr A1 (ns.map (·.name)) from La.SlAt.below O12.out HWk.out)
              have O23 := Lib.hid (show StrsAt wr A2 (ps.map (·.name)) from La.SlAt.below O2.out HWk.out)
              go_wp2
              go_ret3
              exact ⟨A1, c1, A2, c2, A3, c3, rfl, O13.out, O23.out, O3.out, B3.out⟩
end Go.Proofs.YtfpbdfagcfdbbaaGreat

namespace Go.Proofs.YtfpbdfagcfdbbaaGreat.Qu
open Go.RowKit

theorem radd_toM (A : Option Addr) (n c : Nat) (l : List Int) (s e0 : Int) (w : World) (hn : l.length = n) (hl : n ≤ 1000) (hr : RowOf w A l) (h : addL l = (s, e0)) :
    Calls Tryz.prog 127 #[.slice A n c] w fun e w' => e = .returned (.tuple #[.int .i64 s, .int .i64 e0]) ∧ w = w' := by
  have k := radd_any A c l w (by unfold maxLen; omega) hr
  rw [h, hn] at k
  exact k
set_option maxRecDepth 100000 in
set_option maxHeartbeats 2000000 in
theorem rplus_anyM (A : Option Addr) (c : Nat) (l : List (Nat → Int)) (w : World) (hl : l.length ≤ 1000) (hr : RowsOf w A l) :
    Calls Tryz.prog 90 #[.slice A l.length c] w fun e w' => e = .returned (.tuple #[.agg #[.int .i64 (eachR (plusF l) 0), .int .i64 (eachR (plusF l) 1), .int .i64 (eachR (plusF l) 2), .int .i64 (eachR (plusF l) 3), .int .i64 (eachR (plusF l) 4)], .int .i64 (firstE (plusF l) 5)]) ∧ Below w.heap.size w w' := by
  have Hr := Lib.hid hr
  clear hr
  obtain ⟨i0, hi0, hz0, hz1, hz2⟩ := info_parts int_info
  go_enter Tryz.func90, Tryz.ntmps90
  go_wp2
  go_loopw [5] (fun i wr => ∃ k : Nat, k ≤ 5 ∧ i = .int .i64 k ∧ (∀ j, j < k → (plusF l j).2 = 0) ∧ RowAt wr w.heap.size (fun _ => 0) ∧ RowAt wr (w.heap.size + 1) (part (plusF l) (fun _ => 0) k) ∧ Below w.heap.size w wr) (fun i _ => 5 - (intOf i).toNat)
  case atStart => exact ⟨0, by omega, rfl, by omega, heap_alloc2_old _ _ _, by rw [part_zero]; exact heap_alloc2_new _ _ _, below2 _ _ _⟩
  case round =>
    obtain ⟨k, hk, rfl, hall, hx, hy, hb⟩ := hrel
    have Hall := Lib.hid hall
    have Hx := Lib.hid hx
    have Hy := Lib.hid hy
    have HB := Lib.hid hb
    clear hall hx hy hb
    by_cases hlt : k < 5
    · have hd5 : decide ((k : Int) < 5) = true := by simp; omega
      go_wp2
      obtain ⟨wo, hwo⟩ : ∃ wo : World, wo = wr := ⟨_, rfl⟩
      have Hwo := Lib.hid hwo
      have HX : Hid (RowAt wo w.heap.size (fun _ => 0)) := by rw [hwo]; exact Hx.out
      have HY : Hid (RowAt wo (w.heap.size + 1) (part (plusF l) (fun _ => 0) k)) := by rw [hwo]; exact Hy.out
      have HBo : Hid (Below w.heap.size w wo) := by rw [hwo]; exact HB.out
      rw [← hwo]
      clear hwo Hwo Hx Hy HB
      go_loopw [6, 7] (fun row i w1 => ∃ m : Nat, m ≤ l.length ∧ i = .int .i64 m ∧ w1.ownsRow wo.heap.size 3 1 row m ((colL (l.take m) k).map (Value.int .i64)) ∧ Below wo.heap.size wo w1) (fun _ i _ => l.length - (intOf i).toNat)
      case atStart => exact ⟨0, by omega, rfl, ⟨by simp [colL], .inl ⟨rfl, rfl⟩⟩, Below.refl _ _⟩
      case round =>
        obtain ⟨m, hm, rfl, hown, hbw⟩ := hrel
        have Hown := Lib.hid hown
        have Hbw := Lib.hid hbw
        clear hown hbw
        have hwz := HBo.out.size
        have hwz2 := Hbw.out.size
        by_cases hlm : m < l.length
        · obtain ⟨b, o, rfl, hbl, hc⟩ := Hr.out m l[m] (List.getElem?_eq_getElem hlm)
          have hc1 : wr.cell? ⟨b, o + m * 5 + k, none⟩ = some (.int .i64 (l[m] k)) := ((Hbw.out.cell (p := ⟨b, o + m * 5 + k, none⟩) (Nat.lt_of_lt_of_le hbl hwz)).trans (HBo.out.cell (p := ⟨b, o + m * 5 + k, none⟩) hbl)).trans (hc k hlt)
          have Hsn := Lib.hid (col_snoc hlm k)
          clear hc
          go_wp2_with (at_builtin; refine wpList_append_own _ rfl _ _ 27 rfl wo.heap.size 3 i0 (.int .i64 0) 1 8 Tryz.underlying27 hi0 hz0 hz1 hz2 rfl (by decide) _ _ _ rfl (Hown.out.alloc _) ⟨wr.heap.size, 0, none⟩ 1 1 [.int .i64 (l[m] k)] rfl rfl ?c1 ?c2 ?c3 ?c4 ?c5 ?_)
          case c1 =>
            intro j u hj
            match j, hj with
            | 0, hj => simp at hj; subst hj; simp [Addr.add]
          case c2 => first | rfl | (intro u hu; simp at hu; subst hu; rfl)
          case c3 => unfold maxLen; omega
          case c4 => omega
          case c5 => simp; omega
          intro v' w2 hown' hgrow' _
          have Hown2 := Lib.hid hown'
          have Hbw2 := Lib.hid ((Hbw.out.alloc Hbw.out.size (.cells #[.int .i64 (l[m] k)] 3)).grown hgrow' (by simp; omega) (fun j hj => own_ge Hown.out hj))
          clear hown' hgrow'
          go_wp2
          go_roundw
          case rel => exact ⟨m + 1, by omega, by go_num, by rw [Hsn.out, List.map_append]; exact Hown2.out, Hbw2.out⟩
          case measure => simp [intOf]; omega
        · obtain rfl : m = l.length := by omega
          have Hall2 := Lib.hid (show l.take l.length = l from List.take_length)
          have hown2 := Hown.out
          rw [Hall2.out] at hown2
          obtain ⟨A2, c2, rfl, hrow⟩ := own_row hown2 (col_len l k)
          have Hrow := Lib.hid hrow
          clear hown2 hrow
          have Hx1 := Lib.hid (HX.out.below Hbw.out HX.out.lt)
          have Hy1 := Lib.hid (HY.out.below Hbw.out HY.out.lt)
          have HB1 := Lib.hid (HBo.out.trans (Hbw.out.mono HBo.out.size))
          rcases ha : plusF l k with ⟨n, e0⟩
          have Ha := Lib.hid ha
          clear ha
          go_wp2_with fail
          refine (radd_toM _ _ _ (colL l k) n e0 _ (col_len l k) hl Hrow.out Ha.out).mono ?_
          rintro e w2 ⟨rfl, rfl⟩
          by_cases he : e0 = 0
          · have heb : (e0 != 0) = false := by simp [he]
            have He := Lib.hid he
            clear he
            have cy := Hy1.out.cell hlt
            have fy := Hy1.out.free k
            go_wp2
            go_roundw
            case rel => exact ⟨k + 1, by omega, by go_num, all_snoc Hall.out (by rw [Ha.out]; exact He.out), Hx1.out.other _ _ (by simp), by rw [part_succ (n := n) (by rw [Ha.out])]; exact Hy1.out.set hlt n, HB1.out.setCell (by simp) _⟩
            case measure => simp [intOf]; omega
          · have heb : (e0 != 0) = true := by simpa using he
            have He := Lib.hid he
            clear he
            go_wp2_with (refine wpList_store_row rfl 60 (.tmp 2) (.tmp 36) rfl w.heap.size #[.int .i64 0, .int .i64 0, .int .i64 0, .int .i64 0, .int .i64 0] rfl rfl 60 _ Hx1.out vec_size (by kernel_rfl) (by kernel_rfl) ?_)
            have h1 : (plusF l k).2 = e0 := by rw [Ha.out]
            have h2 : firstE (plusF l) 5 = e0 := by rw [firstE_at hlt Hall.out (by rw [h1]; exact He.out), h1]
            refine bodyPost_row2 Tryz.results90 w.heap.size _ _ _ _ (.int .i64 e0) ?d1 ?p1 ?s1 (Hx1.out.put (fun _ => 0)) Tryz.underlying60 rfl vec_size ?_
            case d1 => rfl
            case p1 => rfl
            case s1 => rfl
            exact ⟨endRow (x := fun _ => 0) (fun j _ => by unfold eachR; rw [if_pos (by rw [h2]; exact He.out)]) h2.symm, below_setRow HB1.out (Nat.le_refl _) _⟩
    · obtain rfl : k = 5 := by omega
      have H2 := Lib.hid (firstE_none Hall.out)
      go_wp2_with (first | refine wpList_load_row rfl 60 (.tmp 4) rfl (w.heap.size + 1) rfl 60 _ (0, 0) _ Hy.out Tryz.underlying60 rfl vec_size ?_ | refine wpList_store_row rfl 60 (.tmp 2) (.tmp 41) rfl w.heap.size _ rfl rfl 60 _ Hx.out vec_size (by kernel_rfl) (by kernel_rfl) ?_)
      refine bodyPost_row2 Tryz.results90 w.heap.size _ _ _ _ (.int .i64 0) ?d2 ?p2 ?s2 (Hx.out.put (part (plusF l) (fun _ => 0) 5)) Tryz.underlying60 rfl vec_size ?_
      case d2 => rfl
      case p2 => rfl
      case s2 => rfl
      exact ⟨endRow (x := part (plusF l) (fun _ => 0) 5) (fun j hj => by unfold eachR part; rw [if_pos hj, if_neg (by rw [H2.out]; simp)]) H2.out.symm, below_setRow HB.out (Nat.le_refl _) _⟩

end Go.Proofs.YtfpbdfagcfdbbaaGreat.Qu

namespace Go.Proofs.YtfpbdfagcfdbbaaGreat
open Go.RowKit

theorem all_take {α : Type} {p : α → Bool} {l : List α} (h : ∀ j x, j < l.length → l[j]? = some x → p x = true) : l.all p = true := by
  rw [List.all_eq_true]
  intro x hx
  obtain ⟨j, hj⟩ := List.mem_iff_getElem?.1 hx
  exact h j x (List.getElem?_eq_some_iff.1 hj).1 hj
theorem all_not {α : Type} {p : α → Bool} {l : List α} {k : Nat} {x : α} (hk : l[k]? = some x) (hx : p x = false) : l.all p = false := by
  rw [List.all_eq_false]
  exact ⟨x, List.mem_of_getElem? hk, by simp [hx]⟩

set_option maxRecDepth 100000 in
set_option maxHeartbeats 8000000 in
theorem shaped_any (A B C : Option Addr) (ca cb cc : Nat) (ns : List NodeD) (ps : List PodD) (os : List OwnD) (w : World) (h : SnapAt w A B C ca cb cc ns ps os) :
    Calls Tryz.prog 89 #[snapV A B C ca cb cc ns ps os] w fun e w' => e = .returned (.bool (clusB ns ps os)) ∧ Below w.heap.size w w' := by
  have H := Lib.hid h
  have B0 : Hid (Below w.heap.size w (w.alloc (.cells (snapC A B C ca cb cc ns ps os) 26))) := Lib.hid (below1 w _)
  have S0 : Hid (Blk (w.alloc (.cells (snapC A B C ca cb cc ns ps os) 26)) w.heap.size (snapC A B C ca cb cc ns ps os) 26) := Lib.hid (Blk.new w _ _)
  have E : Hid (clusB ns ps os = (decide ((ns.length : Int) ≤ 8) && decide ((ps.length : Int) ≤ 24) && decide ((os.length : Int) ≤ 8) && namesB (ns.map (·.name)) && namesB (ps.map (·.name)) && namesB (os.map (·.name)) && ns.all nodeB && ps.all (fun x => podB x && knownB ns os x) && os.all ownB)) := Lib.hid rfl
  have KN := Lib.hid (fun w' (hb : Below w.heap.size w w') => names3_any A B C ca cb cc ns ps os w' (h.below hb))
  have hln := h.ln
  have hlp := h.lp
  have hlo := h.lo
  generalize clusB ns ps os = R at E ⊢
  clear h
  go_enter Tryz.func89, Tryz.ntmps89
  go_upto_region 1 with fail
  generalize (w.alloc (.cells (snapC A B C ca cb cc ns ps os) 26)) = W at B0 S0 ⊢
  have s0 : W.cell? ⟨w.heap.size, 0, none⟩ = some (.slice A ns.length ca) := Blk.cell S0.out 0
  have s1 : W.cell? ⟨w.heap.size, 1, none⟩ = some (.slice B ps.length cb) := Blk.cell S0.out 1
  have s2 : W.cell? ⟨w.heap.size, 2, none⟩ = some (.slice C os.length cc) := Blk.cell S0.out 2
  by_cases qn : (ns.length : Int) ≤ 8
  case neg =>
    have HE : Hid (R = false) := Lib.hid (by rw [E.out, decide_eq_false qn]; simp)
    have q1 : (8 : Int) < (ns.length : Int) := by omega
    go_wp2
    go_ret
    exact ⟨La.retB HE.out.symm, B0.out⟩
  by_cases qp : (ps.length : Int) ≤ 24
  case neg =>
    have HE : Hid (R = false) := Lib.hid (by rw [E.out, decide_eq_false qp]; simp)
    have q1 : (24 : Int) < (ps.length : Int) := by omega
    go_wp2
    go_ret
    exact ⟨La.retB HE.out.symm, B0.out⟩
  by_cases qo : (os.length : Int) ≤ 8
  case neg =>
    have HE : Hid (R = false) := Lib.hid (by rw [E.out, decide_eq_false qo]; simp)
    have q1 : (8 : Int) < (os.length : Int) := by omega
    go_wp2
    go_ret
    exact ⟨La.retB HE.out.symm, B0.out⟩
  have E1 : Hid (R = (namesB (ns.map (·.name)) && namesB (ps.map (·.name)) && namesB (os.map (·.name)) && ns.all nodeB && ps.all (fun x => podB x && knownB ns os x) && os.all ownB)) := Lib.hid (by rw [E.out, decide_eq_true qn, decide_eq_true qp, decide_eq_true qo]; simp)
  clear E
  go_wp2_with fail
  refine (KN.out _ B0.out).mono ?_
  rintro e w1 ⟨A1, c1, A2, c2, A3, c3, rfl, o1, o2, o3, hb⟩
  have B1 := Lib.hid (B0.out.trans (hb.mono B0.out.size))
  have S1 := Lib.hid (S0.out.below hb S0.out.lt)
  have R1 := Lib.hid (fun w' (hb : Below w1.heap.size w1 w') => by
    have q := rise3_any A1 c1 (ns.map (·.name)) w' (by simpa using H.out.ln) (La.SlAt.below (show La.SlAt w1 A1 (strC (ns.map (·.name))) from o1) hb) (fun y hy => by obtain ⟨x, hx, rfl⟩ := List.mem_map.1 hy; exact (H.out.n.fit x hx).n)
    rwa [List.length_map] at q)
  have R2 := Lib.hid (fun w' (hb : Below w1.heap.size w1 w') => by
    have q := rise3_any A2 c2 (ps.map (·.name)) w' (by simpa using H.out.lp) (La.SlAt.below (show La.SlAt w1 A2 (strC (ps.map (·.name))) from o2) hb) (fun y hy => by obtain ⟨x, hx, rfl⟩ := List.mem_map.1 hy; exact (H.out.p.fit x hx).n.1)
    rwa [List.length_map] at q)
  have R3 := Lib.hid (fun w' (hb : Below w1.heap.size w1 w') => by
    have q := rise3_any A3 c3 (os.map (·.name)) w' (by simpa using H.out.lo) (La.SlAt.below (show La.SlAt w1 A3 (strC (os.map (·.name))) from o3) hb) (fun y hy => by obtain ⟨x, hx, rfl⟩ := List.mem_map.1 hy; exact (H.out.fo x hx).n)
    rwa [List.length_map] at q)
  clear hb o1 o2 o3 s0 s1 s2 B0 S0 KN
  have EA : Hid (∀ u1 u2 u3, R = (namesB (ns.map (·.name)) && namesB (ps.map (·.name)) && namesB (os.map (·.name)) && ns.all nodeB && ps.all (fun x => podB x && knownB ns os x) && os.all ownB) ∧ u1 = u1 ∧ u2 = u2 ∧ (u3 : Nat) = u3) := Lib.hid (fun (_ _ : Nat) _ => ⟨E1.out, rfl, rfl, rfl⟩)
  clear EA
  obtain ⟨u1, hu1⟩ : ∃ u, namesB (ns.map (·.name)) = u := ⟨_, rfl⟩
  obtain ⟨u2, hu2⟩ : ∃ u, namesB (ps.map (·.name)) = u := ⟨_, rfl⟩
  obtain ⟨u3, hu3⟩ : ∃ u, namesB (os.map (·.name)) = u := ⟨_, rfl⟩
  rw [hu1] at E1 R1
  rw [hu2] at E1 R2
  rw [hu3] at E1 R3
  clear hu1 hu2 hu3
  go_wp2_with fail
  refine (R1.out _ (Below.refl _ _)).mono ?_
  rintro e w2 ⟨rfl, hb2⟩
  have D2 := Lib.hid hb2
  clear hb2
  cases u1
  · have HE : Hid (R = false) := Lib.hid (by rw [E1.out]; simp)
    have B2 := Lib.hid (B1.out.trans (D2.out.mono B1.out.size))
    go_wp2
    go_ret
    exact ⟨La.retB HE.out.symm, B2.out⟩
  go_wp2_with fail
  refine (R2.out _ D2.out).mono ?_
  rintro e w3 ⟨rfl, hb3⟩
  have D3 := Lib.hid (D2.out.trans (hb3.mono D2.out.size))
  clear hb3
  cases u2
  · have HE : Hid (R = false) := Lib.hid (by rw [E1.out]; simp)
    have B2 := Lib.hid (B1.out.trans (D3.out.mono B1.out.size))
    go_wp2
    go_ret
    exact ⟨La.retB HE.out.symm, B2.out⟩
  go_wp2_with fail
  refine (R3.out _ D3.out).mono ?_
  rintro e w4 ⟨rfl, hb4⟩
  have D4 := Lib.hid (D3.out.trans (hb4.mono D3.out.size))
  clear hb4
  have B4 := Lib.hid (B1.out.trans (D4.out.mono B1.out.size))
  have S4 := Lib.hid (S1.out.below D4.out S1.out.lt)
  cases u3
  · have HE : Hid (R = false) := Lib.hid (by rw [E1.out]; simp)
    go_wp2
    go_ret
    exact ⟨La.retB HE.out.symm, B4.out⟩
  have E2 : Hid (R = (ns.all nodeB && ps.all (fun x => podB x && knownB ns os x) && os.all ownB)) := Lib.hid (by rw [E1.out]; simp)
  clear E1 R1 R2 R3 D2 D3 D4 B1 S1
  go_wp2_with fail
  go_loopw [6] (fun i wr => ∃ k : Nat, k ≤ ns.length ∧ i = .int .i64 k ∧ (∀ j x, j < k → ns[j]? = some x → nodeB x = true) ∧ Below w.heap.size w wr ∧ Blk wr w.heap.size (snapC A B C ca cb cc ns ps os) 26) (fun i _ => ns.length - (intOf i).toNat)
  case atStart => exact ⟨0, by omega, rfl, fun j x h => by omega, B4.out, S4.out⟩
  case round =>
    clear B4 S4
    obtain ⟨k, hk, rfl, hall, hbw, hsk⟩ := hrel
    have HA := Lib.hid hall
    have HB := Lib.hid hbw
    have HS := Lib.hid hsk
    clear hall hbw hsk
    have s0 : wr.cell? ⟨w.heap.size, 0, none⟩ = some (.slice A ns.length ca) := Blk.cell HS.out 0
    have s1 : wr.cell? ⟨w.heap.size, 1, none⟩ = some (.slice B ps.length cb) := Blk.cell HS.out 1
    have s2 : wr.cell? ⟨w.heap.size, 2, none⟩ = some (.slice C os.length cc) := Blk.cell HS.out 2
    by_cases hlt : k < ns.length
    · obtain ⟨x, hx⟩ : ∃ x, ns[k]? = some x := ⟨ns[k], List.getElem?_eq_getElem hlt⟩
      obtain ⟨b, o, hA, hbl, c0, c1, c2, c3, c4, c5, c6, c7, c8, c9⟩ := atN (H.out.below HB.out).n.cells hx
      subst hA
      have KC := Lib.hid (node3_any x wr ((H.out.below HB.out).n.fit x (List.mem_of_getElem? hx)))
      have HX := Lib.hid hx
      have k0 : (0 : Int) ≤ (k : Int) := by omega
      have k1 : (k : Int) < (ns.length : Int) := by omega
      obtain ⟨r, hr⟩ : ∃ r, nodeB x = r := ⟨_, rfl⟩
      rw [hr] at KC
      have Hr := Lib.hid hr
      clear hx hr
      go_wp2_with fail
      refine (KC.out).mono ?_
      rintro e w3 ⟨rfl, hb3⟩
      have B5 := Lib.hid (HB.out.trans (hb3.mono HB.out.size))
      have S5 := Lib.hid (HS.out.below hb3 HS.out.lt)
      clear hb3
      cases r
      · have HE : Hid (R = false) := Lib.hid (by rw [E2.out, all_not (p := nodeB) HX.out Hr.out]; try simp)
        go_wp2
        go_ret
        exact ⟨La.retB HE.out.symm, B5.out⟩
      · go_wp2_with fail
        go_roundw
        case rel =>
          refine ⟨k + 1, by omega, by go_num, fun j y hj hy => ?_, B5.out, S5.out⟩
          by_cases hjk : j = k
          · subst hjk
            rw [HX.out] at hy
            cases hy
            exact Hr.out
          · exact HA.out j y (by omega) hy
        case measure => simp [intOf]; omega
    · obtain rfl : k = ns.length := by omega
      have HL : Hid (ns.all nodeB = true) := Lib.hid (all_take HA.out)
      have E3 : Hid (R = (ps.all (fun x => podB x && knownB ns os x) && os.all ownB)) := Lib.hid (by rw [E2.out, HL.out, Bool.true_and])
      clear E2 HL HA
      go_wp2_with fail
      clear s0 s1 s2
      go_loopw [7] (fun i wr => ∃ k : Nat, k ≤ ps.length ∧ i = .int .i64 k ∧ (∀ j x, j < k → ps[j]? = some x → (fun x => podB x && knownB ns os x) x = true) ∧ Below w.heap.size w wr ∧ Blk wr w.heap.size (snapC A B C ca cb cc ns ps os) 26) (fun i _ => ps.length - (intOf i).toNat)
      case atStart => exact ⟨0, by omega, rfl, fun j x h => by omega, HB.out, HS.out⟩
      case round =>
        clear HB HS
        obtain ⟨k, hk, rfl, hall, hbw, hsk⟩ := hrel
        have HA := Lib.hid hall
        have HB := Lib.hid hbw
        have HS := Lib.hid hsk
        clear hall hbw hsk
        have s0 : wr.cell? ⟨w.heap.size, 0, none⟩ = some (.slice A ns.length ca) := Blk.cell HS.out 0
        have s1 : wr.cell? ⟨w.heap.size, 1, none⟩ = some (.slice B ps.length cb) := Blk.cell HS.out 1
        have s2 : wr.cell? ⟨w.heap.size, 2, none⟩ = some (.slice C os.length cc) := Blk.cell HS.out 2
        by_cases hlt : k < ps.length
        · obtain ⟨x, hx⟩ : ∃ x, ps[k]? = some x := ⟨ps[k], List.getElem?_eq_getElem hlt⟩
          obtain ⟨b, o, hA, hbl, c0, c1, c2, c3, c4, c5, c6, c7, c8, c9, c10, c11, c12, c13, c14⟩ := atP (H.out.below HB.out).p.cells hx
          subst hA
          have KC := Lib.hid (fun w' (hb : Below w.heap.size w w') => pod3_any A (some ⟨b, o, none⟩) C ca cb cc ns ps os x w' (H.out.below hb) ((H.out.below hb).p.fit x (List.mem_of_getElem? hx)))
          have HX := Lib.hid hx
          have k0 : (0 : Int) ≤ (k : Int) := by omega
          have k1 : (k : Int) < (ps.length : Int) := by omega
          obtain ⟨r, hr⟩ : ∃ r, (fun x => podB x && knownB ns os x) x = r := ⟨_, rfl⟩
          have hr' : (podB x && knownB ns os x) = r := hr
          rw [hr'] at KC
          have Hr := Lib.hid hr
          clear hx hr hr'
          have hw0 := Blk.lt HS.out
          have Hbl := Lib.hid hbl
          have Hw0 := Lib.hid hw0
          have BD := Lib.hid (HB.out.drew)
          have KD := Lib.hid (KC.out _ BD.out)
          clear hbl hw0 BD
          go_wp2_with fail
          go_region_held3 (fun w' => w'.cell? ⟨w.heap.size, 0, none⟩ = some (.slice A ns.length ca) ∧ w'.cell? ⟨w.heap.size, 1, none⟩ = some (.slice (some ⟨b, o, none⟩) ps.length cb) ∧ w'.cell? ⟨w.heap.size, 2, none⟩ = some (.slice C os.length cc) ∧ w'.cell? ⟨b, o + k * 15, none⟩ = some (strV x.name) ∧ w'.cell? ⟨b, o + k * 15 + 1, none⟩ = some (strV x.owner) ∧ w'.cell? ⟨b, o + k * 15 + 2, none⟩ = some (.int .i64 (x.req 0)) ∧ w'.cell? ⟨b, o + k * 15 + 3, none⟩ = some (.int .i64 (x.req 1)) ∧ w'.cell? ⟨b, o + k * 15 + 4, none⟩ = some (.int .i64 (x.req 2)) ∧ w'.cell? ⟨b, o + k * 15 + 5, none⟩ = some (.int .i64 (x.req 3)) ∧ w'.cell? ⟨b, o + k * 15 + 6, none⟩ = some (.int .i64 (x.req 4)) ∧ w'.cell? ⟨b, o + k * 15 + 7, none⟩ = some (.slice x.al x.labels.length x.cl) ∧ w'.cell? ⟨b, o + k * 15 + 8, none⟩ = some (.slice x.aw x.whr.length x.cw) ∧ w'.cell? ⟨b, o + k * 15 + 9, none⟩ = some (.slice x.ab x.bears.length x.cb) ∧ w'.cell? ⟨b, o + k * 15 + 10, none⟩ = some (strV x.wt) ∧ w'.cell? ⟨b, o + k * 15 + 11, none⟩ = some (.slice x.awt x.wtm.length x.cwt) ∧ w'.cell? ⟨b, o + k * 15 + 12, none⟩ = some (strV x.ap) ∧ w'.cell? ⟨b, o + k * 15 + 13, none⟩ = some (.slice x.aap x.apm.length x.cap) ∧ w'.cell? ⟨b, o + k * 15 + 14, none⟩ = some (strV x.on)) (first | exact ⟨s0, s1, s2, c0, c1, c2, c3, c4, c5, c6, c7, c8, c9, c10, c11, c12, c13, c14⟩ | exact ⟨ps0, ps1, ps2, pc0, pc1, pc2, pc3, pc4, pc5, pc6, pc7, pc8, pc9, pc10, pc11, pc12, pc13, pc14⟩)
            (first | ((with_reducible refine (KD.out).mono ?_); rintro e w3 ⟨rfl, hb3⟩; have ps0 := (hb3.cell (p := ⟨w.heap.size, 0, none⟩) (Hw0.out)).trans s0; have ps1 := (hb3.cell (p := ⟨w.heap.size, 1, none⟩) (Hw0.out)).trans s1; have ps2 := (hb3.cell (p := ⟨w.heap.size, 2, none⟩) (Hw0.out)).trans s2; have pc0 := (hb3.cell (p := ⟨b, o + k * 15, none⟩) (Hbl.out)).trans c0; have pc1 := (hb3.cell (p := ⟨b, o + k * 15 + 1, none⟩) (Hbl.out)).trans c1; have pc2 := (hb3.cell (p := ⟨b, o + k * 15 + 2, none⟩) (Hbl.out)).trans c2; have pc3 := (hb3.cell (p := ⟨b, o + k * 15 + 3, none⟩) (Hbl.out)).trans c3; have pc4 := (hb3.cell (p := ⟨b, o + k * 15 + 4, none⟩) (Hbl.out)).trans c4; have pc5 := (hb3.cell (p := ⟨b, o + k * 15 + 5, none⟩) (Hbl.out)).trans c5; have pc6 := (hb3.cell (p := ⟨b, o + k * 15 + 6, none⟩) (Hbl.out)).trans c6; have pc7 := (hb3.cell (p := ⟨b, o + k * 15 + 7, none⟩) (Hbl.out)).trans c7; have pc8 := (hb3.cell (p := ⟨b, o + k * 15 + 8, none⟩) (Hbl.out)).trans c8; have pc9 := (hb3.cell (p := ⟨b, o + k * 15 + 9, none⟩) (Hbl.out)).trans c9; have pc10 := (hb3.cell (p := ⟨b, o + k * 15 + 10, none⟩) (Hbl.out)).trans c10; have pc11 := (hb3.cell (p := ⟨b, o + k * 15 + 11, none⟩) (Hbl.out)).trans c11; have pc12 := (hb3.cell (p := ⟨b, o + k * 15 + 12, none⟩) (Hbl.out)).trans c12; have pc13 := (hb3.cell (p := ⟨b, o + k * 15 + 13, none⟩) (Hbl.out)).trans c13; have pc14 := (hb3.cell (p := ⟨b, o + k * 15 + 14, none⟩) (Hbl.out)).trans c14; have HB3 := Lib.hid hb3; clear hb3))
          have B5 := Lib.hid (La.below_of HB.out HB3.out)
          have S5 := Lib.hid (La.blk_of HS.out HB3.out)
          cases r
          · have HE : Hid (R = false) := Lib.hid (by rw [E3.out, all_not (p := (fun x => podB x && knownB ns os x)) HX.out Hr.out]; try simp)
            go_wp2
            go_ret
            exact ⟨La.retB HE.out.symm, B5.out⟩
          · go_wp2_with fail
            go_roundw
            case rel =>
              refine ⟨k + 1, by omega, by go_num, fun j y hj hy => ?_, B5.out, S5.out⟩
              by_cases hjk : j = k
              · subst hjk
                rw [HX.out] at hy
                cases hy
                exact Hr.out
              · exact HA.out j y (by omega) hy
            case measure => simp [intOf]; omega
        · obtain rfl : k = ps.length := by omega
          have HL : Hid (ps.all (fun x => podB x && knownB ns os x) = true) := Lib.hid (all_take HA.out)
          have E4 : Hid (R = os.all ownB) := Lib.hid (by rw [E3.out, HL.out, Bool.true_and])
          clear E3 HL HA
          go_wp2_with fail
          clear s0 s1 s2
          go_loopw [8] (fun i wr => ∃ k : Nat, k ≤ os.length ∧ i = .int .i64 k ∧ (∀ j x, j < k → os[j]? = some x → ownB x = true) ∧ Below w.heap.size w wr ∧ Blk wr w.heap.size (snapC A B C ca cb cc ns ps os) 26) (fun i _ => os.length - (intOf i).toNat)
          case atStart => exact ⟨0, by omega, rfl, fun j x h => by omega, HB.out, HS.out⟩
          case round =>
            clear HB HS
            obtain ⟨k, hk, rfl, hall, hbw, hsk⟩ := hrel
            have HA := Lib.hid hall
            have HB := Lib.hid hbw
            have HS := Lib.hid hsk
            clear hall hbw hsk
            have s0 : wr.cell? ⟨w.heap.size, 0, none⟩ = some (.slice A ns.length ca) := Blk.cell HS.out 0
            have s1 : wr.cell? ⟨w.heap.size, 1, none⟩ = some (.slice B ps.length cb) := Blk.cell HS.out 1
            have s2 : wr.cell? ⟨w.heap.size, 2, none⟩ = some (.slice C os.length cc) := Blk.cell HS.out 2
            by_cases hlt : k < os.length
            · obtain ⟨x, hx⟩ : ∃ x, os[k]? = some x := ⟨os[k], List.getElem?_eq_getElem hlt⟩
              obtain ⟨b, o, hA, hbl, c0, c1, c2, c3, c4⟩ := atO (H.out.below HB.out).o hx
              subst hA
              have KC := Lib.hid (owner3_any x wr (H.out.fo x (List.mem_of_getElem? hx)))
              have HX := Lib.hid hx
              have k0 : (0 : Int) ≤ (k : Int) := by omega
              have k1 : (k : Int) < (os.length : Int) := by omega
              obtain ⟨r, hr⟩ : ∃ r, ownB x = r := ⟨_, rfl⟩
              rw [hr] at KC
              have Hr := Lib.hid hr
              clear hx hr
              go_wp2_with fail
              refine (KC.out).mono ?_
              rintro e w3 ⟨rfl, hb3⟩
              have B5 := Lib.hid (HB.out.trans (hb3.mono HB.out.size))
              have S5 := Lib.hid (HS.out.below hb3 HS.out.lt)
              clear hb3
              cases r
              · have HE : Hid (R = false) := Lib.hid (by rw [E4.out, all_not (p := ownB) HX.out Hr.out]; try simp)
                go_wp2
                go_ret
                exact ⟨La.retB HE.out.symm, B5.out⟩
              · go_wp2_with fail
                go_roundw
                case rel =>
                  refine ⟨k + 1, by omega, by go_num, fun j y hj hy => ?_, B5.out, S5.out⟩
                  by_cases hjk : j = k
                  · subst hjk
                    rw [HX.out] at hy
                    cases hy
                    exact Hr.out
                  · exact HA.out j y (by omega) hy
                case measure => simp [intOf]; omega
            · obtain rfl : k = os.length := by omega
              have HL : Hid (os.all ownB = true) := Lib.hid (all_take HA.out)
              have HE : Hid (R = true) := Lib.hid (by rw [E4.out, HL.out])
              go_wp2
              go_ret
              exact ⟨La.retB HE.out.symm, HB.out⟩
end Go.Proofs.YtfpbdfagcfdbbaaGreat

namespace Go.Proofs.YtfpbdfagcfdbbaaGreat
open Go.RowKit

set_option maxRecDepth 100000 in
set_option maxHeartbeats 8000000 in
theorem check5_any (A B C : Option Addr) (ca cb cc : Nat) (ns : List NodeD) (ps : List PodD) (os : List OwnD) (w : World) (h : SnapAt w A B C ca cb cc ns ps os) :
    Calls Tryz.prog 62 #[snapV A B C ca cb cc ns ps os] w fun e w' => e = .returned (.int .i64 (checkS ns ps os)) ∧ Below w.heap.size w w' := by
  have H := Lib.hid h
  have B0 : Hid (Below w.heap.size w (w.alloc (.cells (snapC A B C ca cb cc ns ps os) 26))) := Lib.hid (below1 w _)
  have S0 : Hid (Blk (w.alloc (.cells (snapC A B C ca cb cc ns ps os) 26)) w.heap.size (snapC A B C ca cb cc ns ps os) 26) := Lib.hid (Blk.new w _ _)
  have E : Hid (checkS ns ps os = if clusB ns ps os then (if decide (Qu.firstE (Qu.plusF (ns.map (·.cap))) 5 = 0) && decide (Qu.firstE (Qu.plusF (ps.map (·.req))) 5 = 0) then 0 else 10) else 50) := Lib.hid rfl
  have KS := Lib.hid (shaped_any A B C ca cb cc ns ps os _ (h.below B0.out))
  have hln := h.ln
  have hlp := h.lp
  obtain ⟨iv, hiv, hzv0, hzv1, hzv2⟩ := info_parts vec_info
  generalize checkS ns ps os = R at E ⊢
  generalize clusB ns ps os = v0 at KS E
  clear h
  go_enter Tryz.func62, Tryz.ntmps62
  go_wp2_with fail
  refine (KS.out).mono ?_
  rintro e W ⟨rfl, hb⟩
  have S1 := Lib.hid (S0.out.below hb S0.out.lt)
  have B1 := Lib.hid (B0.out.trans (hb.mono B0.out.size))
  clear hb KS S0 B0
  cases v0
  · have HE : Hid (R = 50) := Lib.hid (by rw [E.out]; rfl)
    go_wp2
    go_ret
    exact ⟨La.retI HE.out.symm, B1.out⟩
  go_wp2_with fail
  go_loopw [5, 3] (fun i v wr => ∃ k : Nat, k ≤ ns.length ∧ i = .int .i64 k ∧ wr.ownsRow W.heap.size 60 5 v k ((ns.take k).flatMap fun x => rowC x.cap) ∧ Below W.heap.size W wr) (fun i _ _ => ns.length - (intOf i).toNat)
  case atStart => exact ⟨0, by omega, rfl, by simpa [strC] using World.ownsRow_nil W W.heap.size 60 5, Below.refl _ _⟩
  case round =>
    obtain ⟨k, hk, rfl, hown, hbw⟩ := hrel
    have HO := Lib.hid hown
    have HW := Lib.hid hbw
    have HT := Lib.hid (B1.out.trans (hbw.mono B1.out.size))
    have HS := Lib.hid (S1.out.below hbw S1.out.lt)
    clear hown hbw
    have s0 : wr.cell? ⟨w.heap.size, 0, none⟩ = some (.slice A ns.length ca) := Blk.cell HS.out 0
    by_cases hlt : k < ns.length
    · obtain ⟨x, hx⟩ : ∃ x, ns[k]? = some x := ⟨ns[k], List.getElem?_eq_getElem hlt⟩
      obtain ⟨b, o, hA, hbl, c0, c1, c2, c3, c4, c5, c6, c7, c8, c9⟩ := atN (H.out.below HT.out).n.cells hx
      subst hA
      clear c0 c6 c7 c8 c9
      have Hsn : Hid (ns.take (k + 1) = ns.take k ++ [x]) := Lib.hid (by rw [List.take_add_one, hx]; rfl)
      have k0 : (0 : Int) ≤ (k : Int) := by omega
      have k1 : (k : Int) < (ns.length : Int) := by omega
      have hsz := HW.out.size
      clear hx
      go_wp2_with (at_builtin; refine wpList_append_own _ rfl _ _ 114 rfl W.heap.size 60 iv (.agg #[.int .i64 0, .int .i64 0, .int .i64 0, .int .i64 0, .int .i64 0]) 5 40 Tryz.underlying114 hiv hzv0 hzv1 hzv2 rfl (by decide) _ _ _ rfl (HO.out.alloc _) ⟨wr.heap.size, 0, none⟩ 1 1 [.int .i64 (x.cap 0), .int .i64 (x.cap 1), .int .i64 (x.cap 2), .int .i64 (x.cap 3), .int .i64 (x.cap 4)] rfl rfl ?c1 ?c2 ?c3 ?c4 ?c5 ?_)
      case c1 =>
        intro j u hj
        match j, hj with
        | 0, hj => simp at hj; subst hj; first | (simp [Addr.add, go_sem]; done) | exact Blk.cell (Blk.new _ _ _) 0
        | 1, hj => simp at hj; subst hj; first | (simp [Addr.add, go_sem]; done) | exact Blk.cell (Blk.new _ _ _) 1
        | 2, hj => simp at hj; subst hj; first | (simp [Addr.add, go_sem]; done) | exact Blk.cell (Blk.new _ _ _) 2
        | 3, hj => simp at hj; subst hj; first | (simp [Addr.add, go_sem]; done) | exact Blk.cell (Blk.new _ _ _) 3
        | 4, hj => simp at hj; subst hj; first | (simp [Addr.add, go_sem]; done) | exact Blk.cell (Blk.new _ _ _) 4
      case c2 => first | rfl | (intro u hu; simp at hu; rcases hu with rfl | rfl | rfl | rfl | rfl <;> rfl) | (intro u hu; simp at hu; subst hu; rfl)
      case c3 => unfold maxLen; omega
      case c4 => omega
      case c5 => simp; omega
      intro v' w2 hown' hgrow' _
      have Hown2 := Lib.hid hown'
      have Hbw2 := Lib.hid ((HW.out.alloc HW.out.size (.cells #[.int .i64 (x.cap 0), .int .i64 (x.cap 1), .int .i64 (x.cap 2), .int .i64 (x.cap 3), .int .i64 (x.cap 4)] 60)).grown hgrow' (by simp; omega) (fun j hj => La.own_ge' HO.out hj))
      clear hown' hgrow'
      go_wp2
      go_roundw
      case rel => exact ⟨k + 1, by omega, by go_num, by rw [Hsn.out, List.flatMap_append]; simpa using Hown2.out, Hbw2.out⟩
      case measure => simp [intOf]; omega
    · obtain rfl : k = ns.length := by omega
      obtain ⟨A1, c1, rfl, _⟩ := La.own_slice HO.out
      have R1 := Lib.hid (show Qu.RowsOf wr A1 (ns.map (·.cap)) from rowsOf (·.cap) ns (by have q := HO.out; rwa [List.take_length] at q))
      have B2 := HT
      have S2 := HS
      clear HO HW HT HS hlt hk
      obtain ⟨W1, hW1⟩ : ∃ W1 : World, W1 = wr := ⟨_, rfl⟩
      rw [← hW1] at R1 B2 S2 s0 ⊢
      clear hW1
      have s1 : W1.cell? ⟨w.heap.size, 1, none⟩ = some (.slice B ps.length cb) := Blk.cell S2.out 1
      go_wp2_with fail
      clear s0 s1
      go_loopw [6, 4] (fun i v wr => ∃ k : Nat, k ≤ ps.length ∧ i = .int .i64 k ∧ wr.ownsRow W1.heap.size 60 5 v k ((ps.take k).flatMap fun x => rowC x.req) ∧ Below W1.heap.size W1 wr) (fun i _ _ => ps.length - (intOf i).toNat)
      case atStart => exact ⟨0, by omega, rfl, by simpa [strC] using World.ownsRow_nil W1 W1.heap.size 60 5, Below.refl _ _⟩
      case round =>
        obtain ⟨k, hk, rfl, hown, hbw⟩ := hrel
        have HO := Lib.hid hown
        have HW := Lib.hid hbw
        have HT := Lib.hid (B2.out.trans (hbw.mono B2.out.size))
        have HS := Lib.hid (S2.out.below hbw S2.out.lt)
        clear hown hbw
        have s1 : wr.cell? ⟨w.heap.size, 1, none⟩ = some (.slice B ps.length cb) := Blk.cell HS.out 1
        by_cases hlt : k < ps.length
        · obtain ⟨x, hx⟩ : ∃ x, ps[k]? = some x := ⟨ps[k], List.getElem?_eq_getElem hlt⟩
          obtain ⟨b, o, hA, hbl, c0, c1, c2, c3, c4, c5, c6, c7, c8, c9, c10, c11, c12, c13, c14⟩ := atP (H.out.below HT.out).p.cells hx
          subst hA
          clear c0 c1 c7 c8 c9 c10 c11 c12 c13 c14
          have Hsn : Hid (ps.take (k + 1) = ps.take k ++ [x]) := Lib.hid (by rw [List.take_add_one, hx]; rfl)
          have k0 : (0 : Int) ≤ (k : Int) := by omega
          have k1 : (k : Int) < (ps.length : Int) := by omega
          have hsz := HW.out.size
          clear hx
          go_wp2_with (at_builtin; refine wpList_append_own _ rfl _ _ 114 rfl W1.heap.size 60 iv (.agg #[.int .i64 0, .int .i64 0, .int .i64 0, .int .i64 0, .int .i64 0]) 5 40 Tryz.underlying114 hiv hzv0 hzv1 hzv2 rfl (by decide) _ _ _ rfl (HO.out.alloc _) ⟨wr.heap.size, 0, none⟩ 1 1 [.int .i64 (x.req 0), .int .i64 (x.req 1), .int .i64 (x.req 2), .int .i64 (x.req 3), .int .i64 (x.req 4)] rfl rfl ?c1 ?c2 ?c3 ?c4 ?c5 ?_)
          case c1 =>
            intro j u hj
            match j, hj with
            | 0, hj => simp at hj; subst hj; first | (simp [Addr.add, go_sem]; done) | exact Blk.cell (Blk.new _ _ _) 0
            | 1, hj => simp at hj; subst hj; first | (simp [Addr.add, go_sem]; done) | exact Blk.cell (Blk.new _ _ _) 1
            | 2, hj => simp at hj; subst hj; first | (simp [Addr.add, go_sem]; done) | exact Blk.cell (Blk.new _ _ _) 2
            | 3, hj => simp at hj; subst hj; first | (simp [Addr.add, go_sem]; done) | exact Blk.cell (Blk.new _ _ _) 3
            | 4, hj => simp at hj; subst hj; first | (simp [Addr.add, go_sem]; done) | exact Blk.cell (Blk.new _ _ _) 4
          case c2 => first | rfl | (intro u hu; simp at hu; rcases hu with rfl | rfl | rfl | rfl | rfl <;> rfl) | (intro u hu; simp at hu; subst hu; rfl)
          case c3 => unfold maxLen; omega
          case c4 => omega
          case c5 => simp; omega
          intro v' w2 hown' hgrow' _
          have Hown2 := Lib.hid hown'
          have Hbw2 := Lib.hid ((HW.out.alloc HW.out.size (.cells #[.int .i64 (x.req 0), .int .i64 (x.req 1), .int .i64 (x.req 2), .int .i64 (x.req 3), .int .i64 (x.req 4)] 60)).grown hgrow' (by simp; omega) (fun j hj => La.own_ge' HO.out hj))
          clear hown' hgrow'
          go_wp2
          go_roundw
          case rel => exact ⟨k + 1, by omega, by go_num, by rw [Hsn.out, List.flatMap_append]; simpa using Hown2.out, Hbw2.out⟩
          case measure => simp [intOf]; omega
        · obtain rfl : k = ps.length := by omega
          obtain ⟨A2, c2, rfl, _⟩ := La.own_slice HO.out
          have R2 := Lib.hid (show Qu.RowsOf wr A2 (ps.map (·.req)) from rowsOf (·.req) ps (by have q := HO.out; rwa [List.take_length] at q))
          have K1 := Lib.hid (by
            have q := Qu.rplus_anyM A1 c1 (ns.map (·.cap)) wr (by simpa using hln) (R1.out.below HW.out (Nat.le_refl _))
            rwa [List.length_map] at q)
          have K2 := Lib.hid (fun w' (hb : Below wr.heap.size wr w') => by
            have q := Qu.rplus_anyM A2 c2 (ps.map (·.req)) w' (by simpa using hlp) (R2.out.below hb (Nat.le_refl _))
            rwa [List.length_map] at q)
          have HTk := HT
          clear HO HW HT HS hlt hk R1 R2 B2 S2
          generalize Qu.firstE (Qu.plusF (ns.map (·.cap))) 5 = e1 at K1 E
          generalize Qu.firstE (Qu.plusF (ps.map (·.req))) 5 = e2 at K2 E
          generalize Qu.eachR (Qu.plusF (ns.map (·.cap))) = r1 at K1
          generalize Qu.eachR (Qu.plusF (ps.map (·.req))) = r2 at K2
          go_wp2_with fail
          refine (K1.out).mono ?_
          rintro e w3 ⟨rfl, hb3⟩
          have D3 := Lib.hid (hb3.alloc hb3.size (.cells #[.int .i64 (r1 0), .int .i64 (r1 1), .int .i64 (r1 2), .int .i64 (r1 3), .int .i64 (r1 4)] 60))
          clear hb3 K1 s1
          go_wp2_with fail
          refine (K2.out _ D3.out).mono ?_
          rintro e w4 ⟨rfl, hb4⟩
          have D4 := Lib.hid ((D3.out.trans (hb4.mono D3.out.size)).alloc (D3.out.trans (hb4.mono D3.out.size)).size (.cells #[.int .i64 (r2 0), .int .i64 (r2 1), .int .i64 (r2 2), .int .i64 (r2 3), .int .i64 (r2 4)] 60))
          have B4 := Lib.hid (HTk.out.trans (D4.out.mono HTk.out.size))
          clear hb4 K2 D3 D4
          by_cases h1 : e1 = 0
          · by_cases h2 : e2 = 0
            · have HE : Hid (R = 0) := Lib.hid (by rw [E.out, h1, h2]; rfl)
              subst h1
              subst h2
              go_wp2
              go_ret
              exact ⟨La.retI HE.out.symm, B4.out⟩
            · have HE : Hid (R = 10) := Lib.hid (by rw [E.out, decide_eq_false h2]; simp)
              subst h1
              have hb2 : (e2 != 0) = true := by simpa using h2
              go_wp2
              go_ret
              exact ⟨La.retI HE.out.symm, B4.out⟩
          · have HE : Hid (R = 10) := Lib.hid (by rw [E.out, decide_eq_false h1]; simp)
            have hb1 : (e1 != 0) = true := by simpa using h1
            go_wp2
            go_ret
            exact ⟨La.retI HE.out.symm, B4.out⟩
end Go.Proofs.YtfpbdfagcfdbbaaGreat
