/- A small row of nodes is sorted by what is left on them: the library's insertion sort with a method's value. Condition: the row lies in memory, each node once. A small row of nodes is sorted by what is left on them: the library's sort with a method's value, fit's own sorted. Condition: the row lies in memory, each node once; eight at most. A small row of pods is sorted by their sizes: the library's sort with a method's value, fit's own sorted. Condition: the row lies in memory, each pod once; twelve at most. The clauses of a placement stand in order, each once; none is broken by less than nothing; how many are about pods. In numbers only. A map of how much clauses are broken, its keys what they are about: what is found in it, how many are in it, what they are together. In numbers and data only. All that clauses may be about: subjects. A contract. Condition: the cluster and the numbers lie in memory. The rules of the kinds: a map of eight functions. Contracts of its maker and of its look-up. No conditions. The clause of a kind about a subject: by. Contracts: where the rule has no function for such, and where it has. Condition: what the function answers. The program's rule for ClauseWhere: notWhere. A contract. Condition: the cluster and the numbers lie in memory, the placement may be, the pod does not wait. The program's rule for ClauseTaint: notBorne. A contract. Condition: the cluster and the numbers lie in memory, the placement may be, the pod does not wait. -/
import Derived.Test.YtmmokiaipfalmaaGreatA06
import Derived.Sort.WalkA
import Derived.Sort.WalkB2
import Derived.Sort.WalkB12
import Derived.Maps.OwnSet
import Derived.Maps.OwnOps
import Derived.Maps.RangeWalk
import Derived.DeepKeys4
import Derived.WalkArith
import Derived.Carry
import Derived.MapViews
import Derived.StillTailTactics
import Derived.Handy
import Derived.Deep.RegionHeld3

namespace Go.Proofs.YtmmokiaipfalmaaGreat
open Go.RowKit Go.Maps

/-- A row of n numbers lies in block b. -/
structure RowB (w : World) (b n : Nat) (L : Nat → Nat) : Prop where
  lt : b < w.heap.size
  c : ∀ i, i < n → w.cell? ⟨b, i, none⟩ = some (.int .i64 (L i : Int)) ∧ w.frozen? ⟨b, i, none⟩ = false
theorem RowB.below {w w' : World} {b n : Nat} {L : Nat → Nat} (h : RowB w b n L) (hb : Below w.heap.size w w') : RowB w' b n L :=
  ⟨Nat.lt_of_lt_of_le h.lt hb.size, fun i hi => ⟨(hb.cell (p := ⟨b, i, none⟩) h.lt).trans (h.c i hi).1, (hb.frozen (p := ⟨b, i, none⟩) h.lt).trans (h.c i hi).2⟩⟩
/-- Two numbers change places. -/
def swN (L : Nat → Nat) (j : Nat) : Nat → Nat := fun k => if k = j + 1 then L j else if k = j then L (j + 1) else L k
theorem RowB.set {w : World} {b n k : Nat} {L : Nat → Nat} (h : RowB w b n L) (hk : k < n) (v : Nat) : RowB (w.setCell ⟨b, k, none⟩ (.int .i64 (v : Int))) b n (fun i => if i = k then v else L i) := by
  refine ⟨by simpa using h.lt, fun i hi => ⟨?_, by rw [World.frozen?_setCell]; exact (h.c i hi).2⟩⟩
  by_cases hik : i = k
  · subst hik
    rw [if_pos rfl]
    exact World.cell?_setCell_same _ _ _ (h.c i hi).1
  · rw [if_neg hik, World.cell?_setCell_other _ _ _ _ (by intro e; cases e; exact hik rfl)]
    exact (h.c i hi).1
theorem RowB.swap {w : World} {b n j : Nat} {L : Nat → Nat} (h : RowB w b n L) (hj : j + 1 < n) : RowB ((w.setCell ⟨b, j + 1, none⟩ (.int .i64 (L j : Int))).setCell ⟨b, j, none⟩ (.int .i64 (L (j + 1) : Int))) b n (swN L j) := by
  have h1 := (h.set hj (L j)).set (k := j) (by omega) (L (j + 1))
  have e : swN L j = fun i => if i = j then L (j + 1) else if i = j + 1 then L j else L i := by
    funext i
    unfold swN
    by_cases h1 : i = j + 1
    · rw [if_pos h1, if_neg (by omega), if_pos h1]
    · rw [if_neg h1, if_neg h1]
  rw [e]
  exact h1
/-- Which of two nodes is ahead. -/
theorem cmpL_lt (F : Nat → Int) (x y : Nat) : cmpL F x y < 0 ↔ F x < F y ∨ (F x = F y ∧ x < y) := by
  unfold cmpL Lib.compareInt
  split <;> split <;> (try split) <;> omega
theorem cmpL_trans {F : Nat → Int} {x y z : Nat} (h1 : cmpL F x y < 0) (h2 : cmpL F y z < 0) : cmpL F x z < 0 := by
  rw [cmpL_lt] at *
  omega
theorem cmpL_total {F : Nat → Int} {x y : Nat} (h : ¬ cmpL F x y < 0) (hne : x ≠ y) : cmpL F y x < 0 := by
  rw [cmpL_lt] at *
  omega
theorem swN_perm (M : Nat → Nat) (q n : Nat) (h : q + 1 < n) : ((List.range n).map (swN M q)).Perm ((List.range n).map M) := by
  obtain ⟨m, rfl⟩ : ∃ m, n = q + (2 + m) := ⟨n - q - 2, by omega⟩
  rw [List.range_add, List.range_add]
  simp only [List.map_append, List.map_map]
  have e1 : (List.range q).map (swN M q) = (List.range q).map M := by
    apply List.map_congr_left
    intro a ha
    have := List.mem_range.1 ha
    unfold swN
    rw [if_neg (by omega), if_neg (by omega)]
  have e2 : (List.range m).map (swN M q ∘ (fun x => q + x) ∘ fun x => 2 + x) = (List.range m).map (M ∘ (fun x => q + x) ∘ fun x => 2 + x) := by
    apply List.map_congr_left
    intro a _
    simp only [Function.comp]
    unfold swN
    rw [if_neg (by omega), if_neg (by omega)]
  rw [e1, e2]
  refine List.Perm.append_left _ (List.Perm.append_right _ ?_)
  have r2 : List.range 2 = [0, 1] := rfl
  rw [r2]
  have s0 : swN M q (q + 0) = M (q + 1) := by
    unfold swN
    rw [if_neg (by omega), if_pos (by omega)]
  have s1 : swN M q (q + 1) = M q := by
    unfold swN
    rw [if_pos rfl]
  simp only [List.map_cons, List.map_nil, Function.comp, s0, s1]
  exact List.Perm.swap _ _ _
/-- All pairs up to k stand in order, but those whose later one is j. -/
def ordN (F : Nat → Int) (M : Nat → Nat) (k j : Nat) : Prop := ∀ a c, a < c → c ≤ k → c ≠ j → cmpL F (M a) (M c) < 0
theorem ordN_step {F : Nat → Int} {M : Nat → Nat} {k q : Nat} (h : ordN F M k (q + 1)) (hq : q + 1 ≤ k) (hlt : cmpL F (M (q + 1)) (M q) < 0) : ordN F (swN M q) k q := by
  intro a c hac hck hcq
  unfold swN
  by_cases c1 : c = q + 1
  · subst c1
    rw [if_pos rfl]
    by_cases a1 : a = q
    · subst a1
      rw [if_neg (by omega), if_pos rfl]
      exact hlt
    · rw [if_neg (by omega), if_neg a1]
      exact h a q (by omega) (by omega) (by omega)
  · rw [if_neg c1, if_neg hcq]
    by_cases a1 : a = q + 1
    · subst a1
      rw [if_pos rfl]
      exact h q c (by omega) hck c1
    · rw [if_neg a1]
      by_cases a2 : a = q
      · subst a2
        rw [if_pos rfl]
        exact h (a + 1) c (by omega) hck c1
      · rw [if_neg a2]
        exact h a c hac hck c1
theorem ordN_stop {F : Nat → Int} {M : Nat → Nat} {k q : Nat} (h : ordN F M k (q + 1)) (hq : q + 1 ≤ k) (hlt : ¬ cmpL F (M (q + 1)) (M q) < 0) (hne : M (q + 1) ≠ M q) : ∀ a c, a < c → c ≤ k → cmpL F (M a) (M c) < 0 := by
  intro a c hac hck
  by_cases c1 : c = q + 1
  · subst c1
    have h1 := cmpL_total hlt hne
    by_cases a1 : a = q
    · rw [a1]
      exact h1
    · exact cmpL_trans (h a q (by omega) (by omega) (by omega)) h1
  · exact h a c hac hck c1
/-- Each once. -/
def onceN (M : Nat → Nat) (n : Nat) : Prop := ∀ a c, a < c → c < n → M a ≠ M c
theorem onceN_perm {L M : Nat → Nat} {n : Nat} (h : ((List.range n).map M).Perm ((List.range n).map L)) (hL : onceN L n) : onceN M n := by
  have h1 : ((List.range n).map L).Nodup := by
    rw [List.Nodup, List.pairwise_map]
    refine (List.pairwise_lt_range).imp_of_mem ?_
    intro a c _ hc hac
    exact hL a c hac (List.mem_range.1 hc)
  have h2 := h.symm.nodup h1
  intro a c hac hc
  rw [List.Nodup, List.pairwise_map, List.pairwise_iff_getElem] at h2
  have := h2 a c (by simpa using Nat.lt_trans hac hc) (by simpa using hc) hac
  simpa using this
theorem small_perm {L M : Nat → Nat} {n B : Nat} (h : ((List.range n).map M).Perm ((List.range n).map L)) (hL : ∀ k, k < n → L k < B) : ∀ k, k < n → M k < B := by
  intro k hk
  have h1 : M k ∈ (List.range n).map M := List.mem_map.2 ⟨k, List.mem_range.2 hk, rfl⟩
  obtain ⟨i, hi, e⟩ := List.mem_map.1 (h.mem_iff.1 h1)
  rw [← e]
  exact hL i (List.mem_range.1 hi)
set_option maxRecDepth 100000 in
set_option maxHeartbeats 16000000 in
theorem insL_any (F : Nat → Int) (b n cap : Nat) (L0 : Nat → Nat) (w : World) (hn : n ≤ 8) (h : RowB w b n L0) (hL : ∀ k, k < n → L0 k < 8) (h1 : onceN L0 n) :
    Calls Tryz.prog 283 #[.slice (some ⟨b, 0, none⟩) n cap, .int .i64 0, .int .i64 (n : Int), .func (.func 75) #[row_lefts F] #[]] w fun e w' => e = .returned (.tuple #[]) ∧ (∃ L, RowB w' b n L ∧ (∀ a c, a < c → c < n → cmpL F (L a) (L c) < 0) ∧ ((List.range n).map L).Perm ((List.range n).map L0)) ∧ Below b w w' := by
  have mixed : (Tryz.prog).follows Departure.mixedOrders = true := by kernel_rfl
  have KC := Lib.hid (fun i j hi hj W' => lefts_cmp F i j hi hj W')
  have H := Lib.hid h
  have HO : Hid (∀ M, ((List.range n).map M).Perm ((List.range n).map L0) → onceN M n ∧ ∀ k, k < n → M k < 8) := Lib.hid (fun M hp => ⟨onceN_perm hp h1, small_perm hp hL⟩)
  clear h hL h1
  go_enter Tryz.func283, Tryz.ntmps283
  go_wp2_with fail
  go_loopw [8] (fun i wr => ∃ (k : Nat) (L : Nat → Nat), 1 ≤ k ∧ k ≤ 9 ∧ i = .int .i64 (k : Int) ∧ RowB wr b n L ∧ (∀ a c, a < c → c < k → cmpL F (L a) (L c) < 0) ∧ ((List.range n).map L).Perm ((List.range n).map L0) ∧ Below b w wr) (fun i _ => 9 - (intOf i).toNat)
  case atStart => exact ⟨1, L0, by omega, by omega, rfl, H.out, fun a c h1 h2 => absurd h1 (by omega), List.Perm.refl _, Below.refl _ _⟩
  case round =>
    obtain ⟨k, L, hk1, hk9, rfl, hr, hl, hpm, hb⟩ := hrel
    have HR := Lib.hid hr
    have HL2 := Lib.hid hl
    have HP := Lib.hid hpm
    have HB := Lib.hid hb
    clear hr hl hb hpm H
    by_cases hkn : k < n
    case neg =>
      have t : decide (k < n) = false := decide_eq_false hkn
      have t2 : ¬ ((k : Int) < (n : Int)) := by omega
      go_wp2_with fail
      go_end0
      exact ⟨rfl, ⟨L, HR.out, fun a c h1 h2 => HL2.out a c h1 (by omega), HP.out⟩, HB.out⟩
    have t : decide (k < n) = true := decide_eq_true hkn
    have t2 : (k : Int) < (n : Int) := by omega
    go_wp2_with fail
    go_loopw [9] (fun i wq => ∃ (j : Nat) (M : Nat → Nat), j ≤ k ∧ i = .int .i64 (j : Int) ∧ RowB wq b n M ∧ ordN F M k j ∧ ((List.range n).map M).Perm ((List.range n).map L0) ∧ Below b w wq) (fun i _ => (intOf i).toNat)
    case atStart => exact ⟨k, L, by omega, rfl, HR.out, fun a c h1 h2 h3 => HL2.out a c h1 (by omega), HP.out, HB.out⟩
    case round =>
      obtain ⟨j, M, hjk, rfl, hr, hl, hpm, hb⟩ := hrel
      clear HR HL2 HB HP
      have HR := Lib.hid hr
      have HL2 := Lib.hid hl
      have HP := Lib.hid hpm
      have HB := Lib.hid hb
      have HM := Lib.hid (HO.out M hpm)
      clear hr hl hb hpm
      by_cases hj0 : j = 0
      · have t3 : decide (0 < j) = false := decide_eq_false (by omega)
        have t4 : ¬ ((0 : Int) < (j : Int)) := by omega
        go_wp2_with fail
        go_big_region_o
        have HR3 : Hid (RowB wr.drew b n M) := Lib.hid ⟨HR.out.lt, fun i hi => HR.out.c i hi⟩
        have HB3 : Hid (Below b w wr.drew) := Lib.hid HB.out.drew
        clear HR HB
        generalize wr.drew = w2 at HR3 HB3 ⊢
        go_wp2_with fail
        go_roundw
        case rel => exact ⟨k + 1, M, by omega, by omega, by go_num, HR3.out, fun a c h1 h2 => HL2.out a c h1 (by omega) (by omega), HP.out, HB3.out⟩
        case measure => simp [intOf] <;> omega
      · obtain ⟨q, hq⟩ : ∃ q, j = q + 1 := ⟨j - 1, by omega⟩
        have hw1 : IntKind.i64.wrap ((j : Int) - 1) = (q : Int) := by rw [IntWalk.i64_in _ (by omega)]; omega
        have t3 : decide (0 < j) = true := decide_eq_true (by omega)
        have t4 : (0 : Int) < (j : Int) := by omega
        have q0 : (0 : Int) ≤ (q : Int) := by omega
        have q1 : (q : Int) < (n : Int) := by omega
        have j0 : (0 : Int) ≤ (j : Int) := by omega
        have j1 : (j : Int) < (n : Int) := by omega
        have cj := (HR.out.c j (by omega)).1
        have cq := (HR.out.c q (by omega)).1
        have KJ := Lib.hid (KC.out (M j) (M q) (HM.out.2 j (by omega)) (HM.out.2 q (by omega)))
        have HCS : Hid (cmpL F (M j) (M q) < 0 → ordN F (swN M q) k q) := Lib.hid (fun h => by
          rw [hq] at h
          exact ordN_step (by rw [← hq]; exact HL2.out) (by omega) h)
        have HCN : Hid (¬ cmpL F (M j) (M q) < 0 → ∀ a c, a < c → c ≤ k → cmpL F (M a) (M c) < 0) := Lib.hid (fun h => by
          rw [hq] at h
          exact ordN_stop (by rw [← hq]; exact HL2.out) (by omega) h (fun e => HM.out.1 q (q + 1) (by omega) (by omega) e.symm))
        have HSW : Hid (∀ W', RowB W' b n M → RowB ((W'.setCell ⟨b, j, none⟩ (.int .i64 (M q : Int))).setCell ⟨b, q, none⟩ (.int .i64 (M j : Int))) b n (swN M q)) := Lib.hid (fun W' h => by
          rw [hq]
          exact RowB.swap h (by omega))
        have HSP : Hid (((List.range n).map (swN M q)).Perm ((List.range n).map L0)) := Lib.hid ((swN_perm M q n (by omega)).trans HP.out)
        have hqk : q ≤ k := by omega
        generalize cmpL F (M j) (M q) = r at KJ HCS HCN
        generalize hx : M j = x at cj KJ HSW
        generalize hy : M q = y at cq KJ HSW
        have HQ := Lib.hid hq
        clear hq
        go_upto_region 4 with fail
        have D0 : Hid (Below wr.heap.size wr wr.drew) := Lib.hid (Below.refl _ wr).drew
        have T0 : wr.drew.cell? ⟨b, j, none⟩ = some (.int .i64 (x : Int)) ∧ wr.drew.cell? ⟨b, q, none⟩ = some (.int .i64 (y : Int)) := ⟨cj, cq⟩
        have HTT : Hid (∀ W', Below wr.heap.size wr W' → W'.cell? ⟨b, j, none⟩ = some (.int .i64 (x : Int)) ∧ W'.cell? ⟨b, q, none⟩ = some (.int .i64 (y : Int))) := Lib.hid (fun W' hb => ⟨(hb.cell (p := ⟨b, j, none⟩) HR.out.lt).trans cj, (hb.cell (p := ⟨b, q, none⟩) HR.out.lt).trans cq⟩)
        go_cut [34] (fun v wc => v = .bool (decide (r < 0)) ∧ Below wr.heap.size wr wc)
        case first =>
          go_region_held3 (fun w' => w'.cell? ⟨b, j, none⟩ = some (.int .i64 (x : Int)) ∧ w'.cell? ⟨b, q, none⟩ = some (.int .i64 (y : Int)))
            (first | (with_reducible exact T0) | (with_reducible exact T1))
            (first
              | (go_at_call 75
                 with_reducible refine (KJ.out _).mono ?_
                 rintro e wA ⟨rfl, hb⟩
                 have D1 := Lib.hid (D0.out.trans (hb.mono D0.out.size))
                 have T1 := HTT.out _ D1.out
                 clear hb))
          all_goals
            (try go_wp2_with fail)
            go_meet
            exact ⟨rfl, D1.out⟩
        case' rest => obtain ⟨rfl, hb⟩ := hcut
        have HRc := Lib.hid (HR.out.below hb)
        have HBc := Lib.hid (HB.out.trans (hb.mono (Nat.le_of_lt HR.out.lt)))
        clear hb HR HB D0 T0 HTT KJ KC cj cq
        by_cases hr0 : r < 0
        · have hrd : decide (r < 0) = true := decide_eq_true hr0
          have HRs := Lib.hid (HSW.out wc HRc.out)
          have HOs := Lib.hid (HCS.out hr0)
          have cj := (HRc.out.c j (by omega)).1
          have cq := (HRc.out.c q (by omega)).1
          have fj := (HRc.out.c j (by omega)).2
          have fq := (HRc.out.c q (by omega)).2
          rw [hx] at cj
          rw [hy] at cq
          have hne : (⟨b, j, none⟩ : Addr) ≠ ⟨b, q, none⟩ := by intro e; cases e; have := HQ.out; omega
          have cq2 : (wc.setCell ⟨b, j, none⟩ (.int .i64 (y : Int))).cell? ⟨b, q, none⟩ = some (.int .i64 (y : Int)) := by
            rw [World.cell?_setCell_other _ _ _ _ hne]
            exact cq
          have HBs : Hid (Below b w ((wc.setCell ⟨b, j, none⟩ (.int .i64 (y : Int))).setCell ⟨b, q, none⟩ (.int .i64 (x : Int)))) := Lib.hid ((HBc.out.setCell (p := ⟨b, j, none⟩) (Nat.le_refl _) _).setCell (p := ⟨b, q, none⟩) (Nat.le_refl _) _)
          clear HRc HBc HCS HCN HSW hr0
          rw [hrd]
          go_wp2_with fail
          go_big_region_o
          have HRd : Hid (RowB ((wc.setCell ⟨b, j, none⟩ (.int .i64 (y : Int))).setCell ⟨b, q, none⟩ (.int .i64 (x : Int))).drew b n (swN M q)) := Lib.hid ⟨HRs.out.lt, fun i hi => HRs.out.c i hi⟩
          have HBd : Hid (Below b w ((wc.setCell ⟨b, j, none⟩ (.int .i64 (y : Int))).setCell ⟨b, q, none⟩ (.int .i64 (x : Int))).drew) := Lib.hid HBs.out.drew
          clear HRs HBs cq2 cj cq fj fq
          generalize ((wc.setCell ⟨b, j, none⟩ (.int .i64 (y : Int))).setCell ⟨b, q, none⟩ (.int .i64 (x : Int))).drew = w5 at HRd HBd ⊢
          go_wp2_with fail
          go_roundw
          case rel => exact ⟨q, swN M q, hqk, by go_num, HRd.out, HOs.out, HSP.out, HBd.out⟩
          case measure => simp [intOf]; have := HQ.out; omega
        · have hrd : decide (r < 0) = false := decide_eq_false hr0
          have HCN2 := Lib.hid (HCN.out hr0)
          clear HCS HCN HSW hr0
          rw [hrd]
          go_wp2_with fail
          go_roundw
          case rel => exact ⟨k + 1, M, by omega, by omega, by go_num, HRc.out, fun a c h1 h2 => HCN2.out a c h1 (by omega), HP.out, HBc.out⟩
          case measure => simp [intOf] <;> omega
end Go.Proofs.YtmmokiaipfalmaaGreat

namespace Go.Proofs.YtmmokiaipfalmaaGreat
open Go.RowKit Go.Maps

/-- The row is sorted in place. -/
def SortL (F : Nat → Int) (b n : Nat) (L0 : Nat → Nat) (w w' : World) : Prop := (∃ L, RowB w' b n L ∧ (∀ a c, a < c → c < n → cmpL F (L a) (L c) < 0) ∧ ((List.range n).map L).Perm ((List.range n).map L0)) ∧ Below b w w'
theorem SortL.drew {F : Nat → Int} {b n : Nat} {L0 : Nat → Nat} {w w' : World} (h : SortL F b n L0 w w') : SortL F b n L0 w w'.drew := by
  obtain ⟨⟨L, h1, h2, h3⟩, h4⟩ := h
  exact ⟨⟨L, ⟨h1.lt, fun i hi => h1.c i hi⟩, h2, h3⟩, h4.drew⟩
set_option maxRecDepth 100000 in
set_option maxHeartbeats 8000000 in
theorem pdqL_any (F : Nat → Int) (b n cap : Nat) (L0 : Nat → Nat) (lim : Int) (w : World) (hn : n ≤ 8) (h : RowB w b n L0) (hL : ∀ k, k < n → L0 k < 8) (h1 : onceN L0 n) :
    Calls Tryz.prog 212 #[.slice (some ⟨b, 0, none⟩) n cap, .int .i64 0, .int .i64 (n : Int), .int .i64 lim, .func (.func 75) #[row_lefts F] #[]] w fun e w' => e = .returned (.tuple #[]) ∧ SortL F b n L0 w w' := by
  have K := Lib.hid (insL_any F b n cap L0 w hn h hL h1)
  have mixed : (Tryz.prog).follows Departure.mixedOrders = true := by kernel_rfl
  have t1 : decide (n ≤ 12) = true := decide_eq_true (by omega)
  have t2 : (n : Int) ≤ 12 := by omega
  have t3 : decide ((n : Int) ≤ 12) = true := decide_eq_true (by omega)
  clear h hL h1
  go_enter Tryz.func212, Tryz.ntmps212
  go_wp2_with fail
  go_loopw [1, 2] (fun x y wr => x = .int .i64 0 ∧ y = .int .i64 (n : Int) ∧ wr = w) (fun _ _ _ => 0)
  case atStart => exact ⟨rfl, rfl, rfl⟩
  case round =>
  obtain ⟨rfl, rfl, rfl⟩ := hrel
  go_wp2_with fail
  refine (K.out).mono ?_
  rintro e w1 ⟨rfl, hs⟩
  have HS := Lib.hid (show SortL F b n L0 wr w1 from hs)
  clear hs
  go_wp2
  (try simp only [Exit.inBlock, Exit.then])
  refine bodyPost_ret (results_none rfl _ _ _) rfl ?_
  exact ⟨rfl, HS.out⟩
set_option maxRecDepth 100000 in
set_option maxHeartbeats 8000000 in
theorem sortFuncL_any (F : Nat → Int) (b n cap : Nat) (L0 : Nat → Nat) (w : World) (hn : n ≤ 8) (h : RowB w b n L0) (hL : ∀ k, k < n → L0 k < 8) (h1 : onceN L0 n) :
    Calls Tryz.prog 151 #[.slice (some ⟨b, 0, none⟩) n cap, .func (.func 75) #[row_lefts F] #[]] w fun e w' => e = .returned (.tuple #[]) ∧ SortL F b n L0 w w' := by
  have K := Lib.hid (fun lim => pdqL_any F b n cap L0 lim w hn h hL h1)
  have KL := Lib.hid (fun W' => Tryz.bits_Len (n : Int) W' (by omega) (by omega))
  have n0 : (0 : Int) ≤ (n : Int) := by omega
  have n1 : (n : Int) ≤ 8 := by omega
  have hu : IntKind.u64.wrap (n : Int) = (n : Int) := by rw [IntKind.wrap_u64]; omega
  clear h hL h1
  go_enter Tryz.func151, Tryz.ntmps151
  go_wp2_with fail
  refine (KL.out _).mono ?_
  rintro e w1 ⟨rfl, rfl⟩
  go_wp2_with fail
  refine (K.out _).mono ?_
  rintro e w1 ⟨rfl, hs⟩
  have HS := Lib.hid hs
  clear hs
  go_wp2
  go_end0
  exact ⟨rfl, HS.out⟩
set_option maxRecDepth 100000 in
set_option maxHeartbeats 8000000 in
theorem sortedL_any (F : Nat → Int) (b n cap : Nat) (L0 : Nat → Nat) (w : World) (hn : n ≤ 8) (h : RowB w b n L0) (hL : ∀ k, k < n → L0 k < 8) (h1 : onceN L0 n) :
    Calls Tryz.prog 74 #[.slice (some ⟨b, 0, none⟩) n cap, .func (.func 75) #[row_lefts F] #[]] w fun e w' => e = .returned (.slice (some ⟨b, 0, none⟩) n cap) ∧ SortL F b n L0 w w' := by
  have K := Lib.hid (sortFuncL_any F b n cap L0 w hn h hL h1)
  clear h hL h1
  go_enter Tryz.func74, Tryz.ntmps74
  go_wp2_with fail
  refine (K.out).mono ?_
  rintro e w1 ⟨rfl, hs⟩
  have HS := Lib.hid hs
  clear hs
  go_wp2
  go_ret
  exact ⟨rfl, HS.out⟩
end Go.Proofs.YtmmokiaipfalmaaGreat

namespace Go.Proofs.YtmmokiaipfalmaaGreat
open Go.RowKit Go.Maps

/-- Which of two pods is ahead. -/
theorem cmpS_lt (F : Nat → Int) (x y : Nat) : cmpS F x y < 0 ↔ F y < F x ∨ (F x = F y ∧ x < y) := by
  unfold cmpS Lib.compareInt
  split <;> split <;> (try split) <;> omega
theorem cmpS_trans {F : Nat → Int} {x y z : Nat} (h1 : cmpS F x y < 0) (h2 : cmpS F y z < 0) : cmpS F x z < 0 := by
  rw [cmpS_lt] at *
  omega
/-- The row is sorted in place. -/
def SortS (F : Nat → Int) (b n : Nat) (L0 : Nat → Nat) (w w' : World) : Prop := (∃ L, RowB w' b n L ∧ (∀ a c, a < c → c < n → cmpS F (L a) (L c) < 0) ∧ ((List.range n).map L).Perm ((List.range n).map L0)) ∧ Below b w w'
theorem SortS.drew {F : Nat → Int} {b n : Nat} {L0 : Nat → Nat} {w w' : World} (h : SortS F b n L0 w w') : SortS F b n L0 w w'.drew := by
  obtain ⟨⟨L, h1, h2, h3⟩, h4⟩ := h
  exact ⟨⟨L, ⟨h1.lt, fun i hi => h1.c i hi⟩, h2, h3⟩, h4.drew⟩
end Go.Proofs.YtmmokiaipfalmaaGreat

namespace Go.Proofs.YtmmokiaipfalmaaGreat
open Go.RowKit

/-- One clause stands ahead of another. -/
def Rise3 (c d : ClT) : Prop := c.1 < d.1 ∨ (c.1 = d.1 ∧ (c.2.1 < d.2.1 ∨ (c.2.1 = d.2.1 ∧ c.2.2.1 < d.2.2.1)))
theorem caps_kind (ns : List NodeD) (ps : List PodD) (p : List Int) : ∀ k, ∀ c ∈ capsU ns ps p k, c.1 = 1 ∧ 0 ≤ c.2.1 ∧ c.2.1 < (k : Int) ∧ 0 ≤ c.2.2.2
  | 0, c, h => by simp [capsU] at h
  | k + 1, c, h => by
    rw [capsU, List.mem_append] at h
    rcases h with h | h
    · have := caps_kind ns ps p k c h
      omega
    · split at h
      · obtain ⟨q, hq, rfl⟩ := List.mem_map.1 h
        refine ⟨rfl, ?_, ?_, ?_⟩
        · show (0 : Int) ≤ (k : Int); omega
        · show (k : Int) < ((k + 1 : Nat) : Int); omega
        · show 0 ≤ max 0 _; omega
      · simp at h
theorem caps_rise (ns : List NodeD) (ps : List PodD) (p : List Int) : ∀ k, (capsU ns ps p k).Pairwise Rise3
  | 0 => List.Pairwise.nil
  | k + 1 => by
    rw [capsU, List.pairwise_append]
    refine ⟨caps_rise ns ps p k, ?_, ?_⟩
    · split
      · unfold capN
        rw [List.pairwise_map]
        refine List.Pairwise.imp ?_ List.pairwise_lt_range
        intro a b hab
        refine .inr ⟨rfl, .inr ⟨rfl, ?_⟩⟩
        show (a : Int) < (b : Int)
        omega
      · exact List.Pairwise.nil
    · intro c hc d hd
      obtain ⟨h1, _, h3, _⟩ := caps_kind ns ps p k c hc
      split at hd
      · obtain ⟨q, hq, rfl⟩ := List.mem_map.1 hd
        refine .inr ⟨h1, .inl ?_⟩
        show c.2.1 < (k : Int)
        omega
      · simp at hd
theorem pods_kind (ns : List NodeD) (ps : List PodD) (os : List OwnD) (p : List Int) (kind : Nat) : ∀ k, ∀ c ∈ podsU ns ps os p kind k, c.1 = (kind : Int) ∧ 0 ≤ c.2.1 ∧ c.2.1 < (k : Int) ∧ 0 ≤ c.2.2.2
  | 0, c, h => by simp [podsU] at h
  | k + 1, c, h => by
    rw [podsU, List.mem_append] at h
    rcases h with h | h
    · have := pods_kind ns ps os p kind k c h
      omega
    · unfold podR at h
      split at h
      · simp at h
        subst h
        refine ⟨rfl, ?_, ?_, ?_⟩
        · show (0 : Int) ≤ (k : Int); omega
        · show (k : Int) < ((k + 1 : Nat) : Int); omega
        · rename_i b _
          show (0 : Int) ≤ (b : Int); omega
      · simp at h
theorem pods_rise (ns : List NodeD) (ps : List PodD) (os : List OwnD) (p : List Int) (kind : Nat) : ∀ k, (podsU ns ps os p kind k).Pairwise Rise3
  | 0 => List.Pairwise.nil
  | k + 1 => by
    rw [podsU, List.pairwise_append]
    refine ⟨pods_rise ns ps os p kind k, ?_, ?_⟩
    · unfold podR
      split
      · exact List.pairwise_singleton _ _
      · exact List.Pairwise.nil
    · intro c hc d hd
      obtain ⟨h1, _, h3, _⟩ := pods_kind ns ps os p kind k c hc
      unfold podR at hd
      split at hd
      · simp at hd
        subst hd
        refine .inr ⟨h1, .inl ?_⟩
        show c.2.1 < (k : Int)
        omega
      · simp at hd
theorem kinds_kind (ns : List NodeD) (ps : List PodD) (os : List OwnD) (p : List Int) : ∀ k, ∀ c ∈ kindsU ns ps os p k, 2 ≤ c.1 ∧ c.1 ≤ (k : Int) + 1 ∧ 0 ≤ c.2.1 ∧ c.2.1 < (p.length : Int) ∧ 0 ≤ c.2.2.2
  | 0, c, h => by simp [kindsU] at h
  | k + 1, c, h => by
    rw [kindsU, List.mem_append] at h
    rcases h with h | h
    · have := kinds_kind ns ps os p k c h
      omega
    · have := pods_kind ns ps os p (k + 2) p.length c h
      omega
theorem kinds_rise (ns : List NodeD) (ps : List PodD) (os : List OwnD) (p : List Int) : ∀ k, (kindsU ns ps os p k).Pairwise Rise3
  | 0 => List.Pairwise.nil
  | k + 1 => by
    rw [kindsU, List.pairwise_append]
    refine ⟨kinds_rise ns ps os p k, pods_rise ns ps os p (k + 2) p.length, ?_⟩
    intro c hc d hd
    have := kinds_kind ns ps os p k c hc
    have := pods_kind ns ps os p (k + 2) p.length d hd
    exact .inl (by omega)
theorem skewO_pos (l : List Int) (s : Int) : 0 ≤ skewO l s := by
  unfold skewO
  split <;> omega
theorem spreads_kind (ns : List NodeD) (ps : List PodD) (os : List OwnD) (p : List Int) : ∀ k, ∀ c ∈ spreadsU ns ps os p k, c.1 = 7 ∧ 0 ≤ c.2.1 ∧ c.2.1 < (k : Int) ∧ 0 ≤ c.2.2.2
  | 0, c, h => by simp [spreadsU] at h
  | k + 1, c, h => by
    rw [spreadsU, List.mem_append] at h
    rcases h with h | h
    · have := spreads_kind ns ps os p k c h
      omega
    · unfold spreadR at h
      split at h
      · split at h
        · simp at h
        · simp at h
          subst h
          refine ⟨rfl, ?_, ?_, skewO_pos _ _⟩
          · show (0 : Int) ≤ (k : Int); omega
          · show (k : Int) < ((k + 1 : Nat) : Int); omega
      · simp at h
theorem spreads_rise (ns : List NodeD) (ps : List PodD) (os : List OwnD) (p : List Int) : ∀ k, (spreadsU ns ps os p k).Pairwise Rise3
  | 0 => List.Pairwise.nil
  | k + 1 => by
    rw [spreadsU, List.pairwise_append]
    refine ⟨spreads_rise ns ps os p k, ?_, ?_⟩
    · unfold spreadR
      split
      · split
        · exact List.Pairwise.nil
        · exact List.pairwise_singleton _ _
      · exact List.Pairwise.nil
    · intro c hc d hd
      obtain ⟨h1, _, h3, _⟩ := spreads_kind ns ps os p k c hc
      unfold spreadR at hd
      split at hd
      · split at hd
        · simp at hd
        · simp at hd
          subst hd
          refine .inr ⟨h1, .inl ?_⟩
          show c.2.1 < (k : Int)
          omega
      · simp at hd
theorem mins_kind (ns : List NodeD) (ps : List PodD) (os : List OwnD) (p : List Int) : ∀ k, ∀ c ∈ minsU ns ps os p k, c.1 = 8 ∧ 0 ≤ c.2.1 ∧ c.2.1 < (k : Int) ∧ 0 ≤ c.2.2.2
  | 0, c, h => by simp [minsU] at h
  | k + 1, c, h => by
    rw [minsU, List.mem_append] at h
    rcases h with h | h
    · have := mins_kind ns ps os p k c h
      omega
    · unfold minR at h
      split at h
      · simp at h
        subst h
        refine ⟨rfl, ?_, ?_, ?_⟩
        · show (0 : Int) ≤ (k : Int); omega
        · show (k : Int) < ((k + 1 : Nat) : Int); omega
        · show 0 ≤ max 0 _; omega
      · simp at h
theorem mins_rise (ns : List NodeD) (ps : List PodD) (os : List OwnD) (p : List Int) : ∀ k, (minsU ns ps os p k).Pairwise Rise3
  | 0 => List.Pairwise.nil
  | k + 1 => by
    rw [minsU, List.pairwise_append]
    refine ⟨mins_rise ns ps os p k, ?_, ?_⟩
    · unfold minR
      split
      · exact List.pairwise_singleton _ _
      · exact List.Pairwise.nil
    · intro c hc d hd
      obtain ⟨h1, _, h3, _⟩ := mins_kind ns ps os p k c hc
      unfold minR at hd
      split at hd
      · simp at hd
        subst hd
        refine .inr ⟨h1, .inl ?_⟩
        show c.2.1 < (k : Int)
        omega
      · simp at hd
theorem all8_rise (ns : List NodeD) (ps : List PodD) (os : List OwnD) (p : List Int) : (all8 ns ps os p).Pairwise Rise3 := by
  unfold all8
  split
  · unfold allU
    rw [List.pairwise_append, List.pairwise_append, List.pairwise_append]
    refine ⟨⟨⟨caps_rise _ _ _ _, kinds_rise _ _ _ _ _, ?_⟩, spreads_rise _ _ _ _ _, ?_⟩, mins_rise _ _ _ _ _, ?_⟩
    · intro c hc d hd
      have := caps_kind ns ps p _ c hc
      have := kinds_kind ns ps os p _ d hd
      exact .inl (by omega)
    · intro c hc d hd
      have := spreads_kind ns ps os p _ d hd
      rcases List.mem_append.1 hc with hc | hc
      · have := caps_kind ns ps p _ c hc
        exact .inl (by omega)
      · have := kinds_kind ns ps os p _ c hc
        exact .inl (by omega)
    · intro c hc d hd
      have := mins_kind ns ps os p _ d hd
      rcases List.mem_append.1 hc with hc | hc
      · rcases List.mem_append.1 hc with hc | hc
        · have := caps_kind ns ps p _ c hc
          exact .inl (by omega)
        · have := kinds_kind ns ps os p _ c hc
          exact .inl (by omega)
      · have := spreads_kind ns ps os p _ c hc
        exact .inl (by omega)
  · exact List.Pairwise.nil
/-- What each clause is: of a known kind, broken by no less than nothing; one about a pod is about one that is there. -/
theorem all8_good (ns : List NodeD) (ps : List PodD) (os : List OwnD) (p : List Int) : ∀ c ∈ all8 ns ps os p, 0 ≤ c.2.2.2 ∧ (2 ≤ c.1 → c.1 ≤ 6 → 0 ≤ c.2.1 ∧ c.2.1 < (p.length : Int)) := by
  intro c hc
  unfold all8 at hc
  split at hc
  · unfold allU at hc
    simp only [List.mem_append] at hc
    rcases hc with ((hc | hc) | hc) | hc
    · have := caps_kind ns ps p _ c hc
      exact ⟨by omega, fun h1 h2 => by omega⟩
    · have := kinds_kind ns ps os p _ c hc
      exact ⟨by omega, fun h1 h2 => by omega⟩
    · have := spreads_kind ns ps os p _ c hc
      exact ⟨by omega, fun h1 h2 => by omega⟩
    · have := mins_kind ns ps os p _ c hc
      exact ⟨by omega, fun h1 h2 => by omega⟩
  · simp at hc
end Go.Proofs.YtmmokiaipfalmaaGreat

namespace Go.Proofs.YtmmokiaipfalmaaGreat
open Go.RowKit Go.Maps

theorem which_row : (192 : TypeId) < Tryz.prog.types.size := of_decide_eq_true (by kernel_rfl)
theorem which_laid : laidOutB Tryz.prog = true := by kernel_rfl
theorem which_wide : (match Tryz.prog.underlying 192 with | some (.array _ _) | some (.struct _) => true | _ => false) = true := by rw [Tryz.underlying192]
set_option maxRecDepth 100000 in
theorem which_law : Keyed Tryz.prog 192 := Keyed.of_law (deep_law_laid which_laid (m := 2) (by omega) which_row (by kernel_rfl) which_wide)
theorem which_type : Tryz.prog.keyType 192 = true := by kernel_rfl
theorem which_cells : Tryz.prog.cellsOf 192 = 3 := by kernel_rfl
theorem int_cells1 : Tryz.prog.cellsOf 3 = 1 := by kernel_rfl
theorem which_lits (n : Nat) (cs : List Value) : Tryz.prog.keyLits (n + 1) 192 cs = (match Tryz.prog.underlying 192, cs with | some (.struct fs), cs => if cs.length = Tryz.prog.cellsOf 192 ∧ fs.all (·.name != "_") = true then (fs.toList.mapM fun f => Tryz.prog.keyLits n f.type ((cs.drop f.offset).take (Tryz.prog.cellsOf f.type))).map List.flatten else none | _, _ => none) := by
  rw [Tryz.underlying192]
  conv => lhs; unfold Program.keyLits
  rw [Tryz.underlying192]
theorem int_lits (n : Nat) (a : Int) (h : (Lit.int .i64 a).wf = true) : Tryz.prog.keyLits (n + 1) 3 [.int .i64 a] = some [.int .i64 a] := by
  unfold Program.keyLits
  rw [Tryz.underlying3]
  simp [h]

/-- What a clause is about, as a value, as a key's datum. -/
def keyW (a b c : Int) : Value := .agg #[.int .i64 a, .int .i64 b, .int .i64 c]
def litW (a b c : Int) : Lit := .string (keyBytes [.int .i64 a, .int .i64 b, .int .i64 c])
def KeyOk (a b c : Int) : Prop := (0 ≤ a ∧ a ≤ 1000000) ∧ (0 ≤ b ∧ b ≤ 1000000) ∧ (0 ≤ c ∧ c ≤ 1000000)
theorem keyOf_w {a b c : Int} (h : KeyOk a b c) : keyOf Tryz.prog 192 (keyW a b c) = some (litW a b c) := by
  obtain ⟨⟨a0, a1⟩, ⟨b0, b1⟩, c0, c1⟩ := h
  have ha : (Lit.int .i64 a).wf = true := WalkArith.wf_i64 (by omega)
  have hb : (Lit.int .i64 b).wf = true := WalkArith.wf_i64 (by omega)
  have hc : (Lit.int .i64 c).wf = true := WalkArith.wf_i64 (by omega)
  clear a0 a1 b0 b1 c0 c1
  obtain ⟨n, hn⟩ : ∃ n, Tryz.prog.types.size + 1 = n + 1 + 1 := by
    obtain ⟨m, hm⟩ := Nat.exists_eq_succ_of_ne_zero (Nat.ne_of_gt (Nat.lt_of_le_of_lt (Nat.zero_le _) which_row))
    exact ⟨m, by rw [hm]⟩
  have hl : Tryz.prog.keyLits (n + 1 + 1) 192 [.int .i64 a, .int .i64 b, .int .i64 c] = some [.int .i64 a, .int .i64 b, .int .i64 c] := by
    rw [which_lits, Tryz.underlying192]
    simp [which_cells, int_cells1, int_lits n _ ha, int_lits n _ hb, int_lits n _ hc]
  have hf : (Value.agg #[.int .i64 a, .int .i64 b, .int .i64 c]).formed Tryz.prog 192 = true := by simp [Value.formed, Tryz.underlying192, which_cells]
  unfold keyOf keyW
  rw [Tryz.underlying192]
  dsimp only
  rw [which_type, hf, hn]
  show (if (true && true) = true then Option.map (fun ls => Lit.string (keyBytes ls)) (Tryz.prog.keyLits (n + 1 + 1) 192 [.int .i64 a, .int .i64 b, .int .i64 c]) else none) = _
  rw [hl]
  rfl
theorem litW_key {a b c : Int} (h : KeyOk a b c) : WideAt.IsKeyLit (litW a b c) := which_law.key (keyOf_w h)
theorem litW_inj {a b c a' b' c' : Int} (h : KeyOk a b c) (h' : KeyOk a' b' c') (e : litW a b c = litW a' b' c') : a = a' ∧ b = b' ∧ c = c' := by
  have h1 := keyOf_w h
  have h2 := keyOf_w h'
  rw [e] at h1
  have := which_law.inj h1 h2
  unfold keyW at this
  simpa using this
/-- How a number in the map reads. -/
def intE (v : Value) : Option (DataW Unit × List MemPlace) := match v with
  | .int .i64 a => some (.lit (.int .i64 a), [])
  | _ => none
theorem intE_inv {v : Value} {y : DataW Unit × List MemPlace} (h : intE v = some y) : ∃ c, v = .int .i64 c ∧ y = (.lit (.int .i64 c), []) := by
  unfold intE at h
  split at h
  · rename_i a
    exact ⟨a, rfl, (Option.some.inj h).symm⟩
  · cases h

def OkC (c : ClT) : Prop := KeyOk c.1 c.2.1 c.2.2.1
def litC (c : ClT) : Lit := litW c.1 c.2.1 c.2.2.1
def putW (D : DataW Unit) (c : ClT) : DataW Unit := D.put (litC c) (.lit (.int .i64 c.2.2.2))
/-- The map of a list of clauses. -/
def mapW (l : List ClT) : DataW Unit := l.foldl putW (.map [])
theorem mapW_snoc (l : List ClT) (c : ClT) : mapW (l ++ [c]) = putW (mapW l) c := by simp [mapW, List.foldl_append]
theorem findC_cons (c : ClT) (l : List ClT) (kd a b : Int) : findC (c :: l) kd a b = if isC kd a b c = true then some c.2.2.2 else findC l kd a b := by
  unfold findC
  rw [List.find?_cons]
  cases isC kd a b c <;> rfl
theorem findC_rise {c : ClT} {l : List ClT} (h : ∀ d ∈ l, Rise3 c d) {kd a b : Int} (hi : isC kd a b c = true) : findC l kd a b = none := by
  refine findC_no fun j z hz => ?_
  have hr := h z (List.mem_of_getElem? hz)
  unfold isC at hi ⊢
  have hi := of_decide_eq_true hi
  refine decide_eq_false ?_
  rintro ⟨e1, e2, e3⟩
  unfold Rise3 at hr
  omega
theorem fold_at {kd a b : Int} (hk : KeyOk kd a b) (z : DataW Unit) : ∀ (l : List ClT) (D : DataW Unit), IsMap D → (∀ c ∈ l, OkC c) → l.Pairwise Rise3 → (l.foldl putW D).atKey (litW kd a b) z = match findC l kd a b with
      | some y => .lit (.int .i64 y)
      | none => D.atKey (litW kd a b) z
  | [], _, _, _, _ => rfl
  | c :: t, D, hD, ho, hr => by
    obtain ⟨hr1, hr2⟩ := List.pairwise_cons.1 hr
    rw [List.foldl_cons, fold_at hk z t (putW D c) (hD.put _ _) (fun x hx => ho x (by simp [hx])) hr2, findC_cons]
    by_cases hi : isC kd a b c = true
    · rw [if_pos hi, findC_rise hr1 hi]
      dsimp only
      have hi := of_decide_eq_true hi
      obtain ⟨e1, e2, e3⟩ := hi
      unfold putW litC
      rw [e1, e2, e3]
      exact atKey_put_same hD (litW_key hk) _ _
    · rw [if_neg hi]
      cases findC t kd a b with
      | some y => rfl
      | none =>
        dsimp only
        unfold putW
        refine atKey_put_other (fun e => hi ?_) _ _
        exact decide_eq_true (by
          obtain ⟨h1, h2, h3⟩ := litW_inj hk (ho c (by simp)) e
          exact ⟨h1.symm, h2.symm, h3.symm⟩)
theorem mapW_at {kd a b : Int} (hk : KeyOk kd a b) {l : List ClT} (ho : ∀ c ∈ l, OkC c) (hr : l.Pairwise Rise3) : (mapW l).atKey (litW kd a b) (.lit (.int .i64 0)) = .lit (.int .i64 ((findC l kd a b).getD 0)) := by
  unfold mapW
  rw [fold_at hk _ l _ isMap_empty ho hr]
  cases findC l kd a b <;> rfl
/-- What each clause is about may be a key. -/
theorem all8_keys {ns : List NodeD} {ps : List PodD} {os : List OwnD} {p : List Int} (hn : ns.length ≤ 1000) (ho : os.length ≤ 1000) (hp : p.length ≤ 1000) : ∀ c ∈ all8 ns ps os p, OkC c := by
  have hB : ∀ c ∈ capsU ns ps p ns.length, 0 ≤ c.2.2.1 ∧ c.2.2.1 ≤ 5 := by
    have : ∀ k, ∀ c ∈ capsU ns ps p k, 0 ≤ c.2.2.1 ∧ c.2.2.1 ≤ 5 := by
      intro k
      induction k with
      | zero => intro c hc; simp [capsU] at hc
      | succ k ih =>
        intro c hc
        rw [capsU, List.mem_append] at hc
        rcases hc with hc | hc
        · exact ih c hc
        · split at hc
          · obtain ⟨q, hq, rfl⟩ := List.mem_map.1 hc
            have := List.mem_range.1 hq
            show (0 : Int) ≤ (q : Int) ∧ (q : Int) ≤ 5
            omega
          · simp at hc
    exact this _
  have hP : ∀ kind k, ∀ c ∈ podsU ns ps os p kind k, c.2.2.1 = 0 := by
    intro kind k
    induction k with
    | zero => intro c hc; simp [podsU] at hc
    | succ k ih =>
      intro c hc
      rw [podsU, List.mem_append] at hc
      rcases hc with hc | hc
      · exact ih c hc
      · unfold podR at hc
        split at hc
        · simp at hc
          subst hc
          rfl
        · simp at hc
  have hK : ∀ k, ∀ c ∈ kindsU ns ps os p k, c.2.2.1 = 0 := by
    intro k
    induction k with
    | zero => intro c hc; simp [kindsU] at hc
    | succ k ih =>
      intro c hc
      rw [kindsU, List.mem_append] at hc
      rcases hc with hc | hc
      · exact ih c hc
      · exact hP _ _ c hc
  have hS : ∀ k, ∀ c ∈ spreadsU ns ps os p k, c.2.2.1 = 0 := by
    intro k
    induction k with
    | zero => intro c hc; simp [spreadsU] at hc
    | succ k ih =>
      intro c hc
      rw [spreadsU, List.mem_append] at hc
      rcases hc with hc | hc
      · exact ih c hc
      · unfold spreadR at hc
        split at hc
        · split at hc
          · simp at hc
          · simp at hc
            subst hc
            rfl
        · simp at hc
  have hM : ∀ k, ∀ c ∈ minsU ns ps os p k, c.2.2.1 = 0 := by
    intro k
    induction k with
    | zero => intro c hc; simp [minsU] at hc
    | succ k ih =>
      intro c hc
      rw [minsU, List.mem_append] at hc
      rcases hc with hc | hc
      · exact ih c hc
      · unfold minR at hc
        split at hc
        · simp at hc
          subst hc
          rfl
        · simp at hc
  intro c hc
  unfold OkC KeyOk
  unfold all8 at hc
  split at hc
  · unfold allU at hc
    simp only [List.mem_append] at hc
    rcases hc with ((hc | hc) | hc) | hc
    · have := caps_kind ns ps p _ c hc
      have := hB c hc
      omega
    · have := kinds_kind ns ps os p _ c hc
      have := hK _ c hc
      omega
    · have := spreads_kind ns ps os p _ c hc
      have := hS _ c hc
      omega
    · have := mins_kind ns ps os p _ c hc
      have := hM _ c hc
      omega
  · simp at hc
theorem rise_filter {l : List ClT} (h : l.Pairwise Rise3) (f : ClT → Bool) : (l.filter f).Pairwise Rise3 := h.filter f
/-- Of those that are broken alone the same is found. -/
theorem find_broken {kd a b : Int} : ∀ {l : List ClT}, l.Pairwise Rise3 → (∀ c ∈ l, 0 ≤ c.2.2.2) → (findC (l.filter brokC) kd a b).getD 0 = (findC l kd a b).getD 0
  | [], _, _ => rfl
  | c :: t, hr, hg => by
    obtain ⟨hr1, hr2⟩ := List.pairwise_cons.1 hr
    have ih := find_broken (kd := kd) (a := a) (b := b) hr2 (fun x hx => hg x (by simp [hx]))
    rw [findC_cons]
    by_cases hb : brokC c = true
    · rw [List.filter_cons_of_pos hb, findC_cons]
      split
      · rfl
      · exact ih
    · rw [List.filter_cons_of_neg hb]
      by_cases hi : isC kd a b c = true
      · rw [if_pos hi, ih, findC_rise hr1 hi]
        have h0 := hg c (by simp)
        unfold brokC at hb
        have hb : ¬ 0 < c.2.2.2 := fun h => hb (decide_eq_true h)
        show (0 : Int) = c.2.2.2
        omega
      · rw [if_neg hi]
        exact ih
/-- By how much that clause is broken in a list; nothing, where it is not there. -/
def was9 (L : List ClT) (c : ClT) : Int := (findC L c.1 c.2.1 c.2.2.1).getD 0
def worC (L : List ClT) (c : ClT) : Bool := decide (was9 L c < c.2.2.2)
/-- What is worse in q than in p. -/
def worseU (ns : List NodeD) (ps : List PodD) (os : List OwnD) (p q : List Int) : List ClT := (all8 ns ps os q).filter (worC (all8 ns ps os p))
def worseE (ns : List NodeD) (ps : List PodD) (os : List OwnD) (p q : List Int) : Int := if placeE ns ps os p = 0 then placeE ns ps os q else placeE ns ps os p
/-- What Worse tells. -/
def worseF (ns : List NodeD) (ps : List PodD) (os : List OwnD) (p q : List Int) : List ClT := if placeE ns ps os p = 0 then worseU ns ps os p q else []
theorem worC_broken {L : List ClT} (hr : L.Pairwise Rise3) (hg : ∀ c ∈ L, 0 ≤ c.2.2.2) (c : ClT) : decide ((findC (L.filter brokC) c.1 c.2.1 c.2.2.1).getD 0 < c.2.2.2) = worC L c := by
  unfold worC was9
  rw [find_broken hr hg]
theorem all8_fine {w : World} {A B C : Option Addr} {ca cb cc : Nat} {ns : List NodeD} {ps : List PodD} {os : List OwnD} (h : SnapAt w A B C ca cb cc ns ps os) (p : List Int) : (∀ c ∈ all8 ns ps os p, OkC c) ∧ (all8 ns ps os p).length ≤ 12000 := by
  by_cases hE : placeE ns ps os p = 0
  · have hp := placeE_len hE
    have h1 := h.ln
    have h2 := h.lp
    have h3 := h.lo
    exact ⟨all8_keys h1 h3 (by omega), Nat.le_trans (all8_len ns ps os p) (by omega)⟩
  · unfold all8
    rw [if_neg hE]
    simp
end Go.Proofs.YtmmokiaipfalmaaGreat

namespace Go.Proofs.YtmmokiaipfalmaaGreat
open Go.RowKit

/-- A subject, as a value. -/
def subV : Sub → Value
  | .node n q => .iface 301 (.agg #[.int .i64 (n : Int), .int .i64 (q : Int)])
  | .pod i => .iface 303 (.agg #[.int .i64 (i : Int)])
  | .owner o => .iface 305 (.agg #[.int .i64 (o : Int)])
theorem su_info : (Tryz.prog.info? 262).map (fun i => (i.zero, i.size, i.bytes)) = some (some .nilIface, 1, 16) := by kernel_rfl
theorem nodesS_len : ∀ k, (nodesS k).length = 5 * k
  | 0 => rfl
  | k + 1 => by
    rw [nodesS, List.length_append, nodesS_len k]
    simp
    omega
theorem podsS_len (p : List Int) : ∀ k, (podsS p k).length ≤ k
  | 0 => Nat.le_refl _
  | k + 1 => by
    have := podsS_len p k
    rw [podsS, List.length_append]
    unfold podS
    split <;> simp <;> omega
theorem ownersS_len : ∀ k, (ownersS k).length = k
  | 0 => rfl
  | k + 1 => by
    rw [ownersS, List.length_append, ownersS_len k]
    rfl
theorem subsU_len (ns : List NodeD) (os : List OwnD) (p : List Int) : (subsU ns os p).length ≤ 5 * ns.length + p.length + os.length := by
  have := nodesS_len ns.length
  have := podsS_len p p.length
  have := ownersS_len os.length
  unfold subsU
  simp only [List.length_append]
  omega
theorem qs_succ (n k : Nat) : (List.range (k + 1)).map (Sub.node n) = (List.range k).map (Sub.node n) ++ [.node n k] := by
  rw [List.range_succ, List.map_append]
  rfl

set_option maxRecDepth 100000 in
set_option maxHeartbeats 8000000 in
theorem subjects_any (A B C P : Option Addr) (ca cb cc cp : Nat) (ns : List NodeD) (ps : List PodD) (os : List OwnD) (p : List Int) (hln : ns.length ≤ 1000) (hlp : p.length ≤ 1000) (hlo : os.length ≤ 1000) (w : World) (hp : IntsAt w P cp p) :
    Calls Tryz.prog 231 #[viewV A B C P ca cb cc cp ns ps os p] w fun e w' => ∃ v, e = .returned v ∧ w'.ownsRow w.heap.size 262 1 v (subsU ns os p).length ((subsU ns os p).map subV) ∧ Below w.heap.size w w' := by
  have HP := Lib.hid hp
  have B0 : Hid (Below w.heap.size w (w.alloc (.cells (viewC A B C P ca cb cc cp ns ps os p) 256))) := Lib.hid (below1 w _)
  have S0 : Hid (Blk (w.alloc (.cells (viewC A B C P ca cb cc cp ns ps os p) 256)) w.heap.size (viewC A B C P ca cb cc cp ns ps os p) 256) := Lib.hid (Blk.new w _ _)
  obtain ⟨i0, hi0, hz0, hz1, hz2⟩ := info_parts su_info
  have HA : Hid (subsU ns os p = nodesS ns.length ++ podsS p p.length ++ ownersS os.length) := Lib.hid rfl
  generalize subsU ns os p = SU at HA ⊢
  clear hp
  go_enter Tryz.func231, Tryz.ntmps231
  obtain ⟨W, hW⟩ : ∃ W, (w.alloc (.cells (viewC A B C P ca cb cc cp ns ps os p) 256)) = W := ⟨_, rfl⟩
  rw [hW] at B0 S0
  go_upto_region 2 with fail
  try rw [show (w.alloc (.cells #[.slice A ns.length ca, .slice B ps.length cb, .slice C os.length cc, .slice P p.length cp] 256)) = W from hW]
  clear hW
  have HZ := Lib.hid (fun W' (hb : Below W.heap.size W W') => (show W'.cell? ⟨w.heap.size, 0, none⟩ = some (.slice A ns.length ca) ∧ W'.cell? ⟨w.heap.size, 1, none⟩ = some (.slice B ps.length cb) ∧ W'.cell? ⟨w.heap.size, 2, none⟩ = some (.slice C os.length cc) ∧ W'.cell? ⟨w.heap.size, 3, none⟩ = some (.slice P p.length cp) from ⟨Blk.cell (S0.out.below hb S0.out.lt) 0, Blk.cell (S0.out.below hb S0.out.lt) 1, Blk.cell (S0.out.below hb S0.out.lt) 2, Blk.cell (S0.out.below hb S0.out.lt) 3⟩))
  have HT := Lib.hid (fun W' (hb : Below W.heap.size W W') => B0.out.trans (hb.mono B0.out.size))
  have HPp := Lib.hid (fun W' (hb : Below W.heap.size W W') => HP.out.below (HT.out W' hb))
  have HB0 := Lib.hid B0.out.size
  obtain ⟨z0, z1, z2, z3⟩ := HZ.out _ (Below.refl _ W)
  clear HP B0 S0
  go_wp2_with fail
  go_loopw [3, 13] (fun v i wr => ∃ n : Nat, n ≤ ns.length ∧ i = .int .i64 (n : Int) ∧ wr.ownsRow W.heap.size 262 1 v (nodesS n).length ((nodesS n).map subV) ∧ Below W.heap.size W wr) (fun _ i _ => ns.length - (intOf i).toNat)
  case atStart => exact ⟨0, by omega, rfl, World.ownsRow_nil _ _ _ _, Below.refl _ _⟩
  case round =>
    clear z0 z1 z2 z3
    obtain ⟨n, hn, rfl, ho, hb⟩ := hrel
    have HO := Lib.hid ho
    have HB := Lib.hid hb
    clear ho hb
    have hnl := nodesS_len n
    by_cases hlt : n < ns.length
    case neg =>
      obtain rfl : n = ns.length := by omega
      obtain ⟨z0, z1, z2, z3⟩ := HZ.out _ HB.out
      generalize nodesS ns.length = NS at HO HA hnl
      go_wp2_with fail
      go_loopw [3, 31] (fun v i wr => ∃ k : Nat, k ≤ p.length ∧ i = .int .i64 (k : Int) ∧ wr.ownsRow W.heap.size 262 1 v (NS ++ podsS p k).length ((NS ++ podsS p k).map subV) ∧ Below W.heap.size W wr) (fun _ i _ => p.length - (intOf i).toNat)
      case atStart => exact ⟨0, by omega, rfl, by rw [show NS ++ podsS p 0 = NS from List.append_nil _]; exact HO.out, HB.out⟩
      case round =>
        clear HO HB z0 z1 z2 z3
        obtain ⟨k, hk, rfl, ho, hb⟩ := hrel
        have HO := Lib.hid ho
        have HB := Lib.hid hb
        clear ho hb
        have hpl := podsS_len p k
        have hpl2 : (NS ++ podsS p k).length ≤ 7000 := by rw [List.length_append]; omega
        by_cases hlk : k < p.length
        case neg =>
          obtain rfl : k = p.length := by omega
          obtain ⟨z0, z1, z2, z3⟩ := HZ.out _ HB.out
          generalize NS ++ podsS p p.length = PS at HO HA hpl2
          clear hk hlk
          go_wp2_with fail
          go_loopw [3, 49] (fun v i wr => ∃ o : Nat, o ≤ os.length ∧ i = .int .i64 (o : Int) ∧ wr.ownsRow W.heap.size 262 1 v (PS ++ ownersS o).length ((PS ++ ownersS o).map subV) ∧ Below W.heap.size W wr) (fun _ i _ => os.length - (intOf i).toNat)
          case atStart => exact ⟨0, by omega, rfl, by rw [show PS ++ ownersS 0 = PS from List.append_nil _]; exact HO.out, HB.out⟩
          case round =>
            clear HO HB z0 z1 z2 z3
            obtain ⟨o, ho', rfl, ho, hb⟩ := hrel
            have HO := Lib.hid ho
            have HB := Lib.hid hb
            clear ho hb
            have hol := ownersS_len o
            have hol2 : (PS ++ ownersS o).length ≤ 8000 := by rw [List.length_append]; omega
            by_cases hlo2 : o < os.length
            case neg =>
              obtain rfl : o = os.length := by omega
              go_wp2
              go_ret
              rw [HA.out]
              exact ⟨_, rfl, own_base HO.out HB0.out, HT.out _ HB.out⟩
            have Hd : Hid (PS ++ ownersS (o + 1) = (PS ++ ownersS o) ++ [.owner o]) := Lib.hid (by rw [ownersS, List.append_assoc])
            generalize PS ++ ownersS o = M at HO Hd hol2
            have o1 : (o : Int) < (os.length : Int) := by omega
            clear hol
            go_wp2_with (at_builtin; refine wpList_append_own _ rfl _ _ 257 rfl W.heap.size 262 i0 .nilIface 1 16 Tryz.underlying257 hi0 hz0 hz1 hz2 rfl (by decide) _ _ _ rfl (show World.ownsRow _ _ _ _ _ _ _ from HO.out.alloc _) ⟨wr.heap.size, 0, none⟩ 1 1 [.iface 305 (.agg #[.int .i64 (o : Int)])] rfl rfl ?c1c ?c2c ?c3c ?c4c ?c5c ?_)
            case c1c =>
              intro j u hj
              match j, hj with
              | 0, hj => simp at hj; subst hj; simp [Addr.add]
            case c2c => first | rfl | (intro u hu; simp at hu; subst hu; rfl)
            case c3c => unfold maxLen; omega
            case c4c => omega
            case c5c => have := HB.out.size; simp; omega
            intro v4 w4 hown4 hgrow4 _
            have P4 := Lib.hid hown4
            have D4 := Lib.hid ((HB.out.alloc HB.out.size (.cells #[.iface 305 (.agg #[.int .i64 (o : Int)])] 262)).grown hgrow4 (by have := HB.out.size; simp; omega) (fun j hj => own_gem HO.out hj))
            clear hown4 hgrow4
            go_wp2_with fail
            go_roundw
            case rel =>
              refine ⟨o + 1, by omega, by go_num, ?_, D4.out⟩
              rw [Hd.out, List.length_append, List.map_append]
              exact P4.out
            case measure => simp [intOf]; omega
        obtain ⟨x, hx⟩ : ∃ x, p[k]? = some x := ⟨p[k], List.getElem?_eq_getElem hlk⟩
        obtain ⟨bp, op, hAp, _, pk⟩ := atI (HPp.out _ HB.out).cells hx
        subst hAp
        have k0 : (0 : Int) ≤ (k : Int) := by omega
        have k1 : (k : Int) < (p.length : Int) := by omega
        by_cases hw : x = -1
        case pos =>
          subst hw
          have hE2 : Hid (NS ++ podsS p (k + 1) = NS ++ podsS p k) := Lib.hid (by rw [podsS, podS, if_pos hx, List.append_nil])
          generalize NS ++ podsS p k = M at HO hE2 hpl2
          clear hx hpl
          go_wp2_with fail
          go_roundw
          case rel => exact ⟨k + 1, by omega, by go_num, by rw [hE2.out]; exact HO.out, HB.out⟩
          case measure => simp [intOf]; omega
        have hE2 : Hid (NS ++ podsS p (k + 1) = (NS ++ podsS p k) ++ [.pod k]) := Lib.hid (by rw [podsS, podS, if_neg (by rw [hx]; intro h; exact hw (Option.some.inj h)), List.append_assoc])
        generalize NS ++ podsS p k = M at HO hE2 hpl2
        have hwb : (x != -1) = true := by simpa using hw
        have hwd : decide (x = -1) = false := decide_eq_false hw
        have hwe : (x == -1) = false := by simpa using hw
        clear hx hpl
        go_wp2_with (at_builtin; refine wpList_append_own _ rfl _ _ 257 rfl W.heap.size 262 i0 .nilIface 1 16 Tryz.underlying257 hi0 hz0 hz1 hz2 rfl (by decide) _ _ _ rfl (show World.ownsRow _ _ _ _ _ _ _ from HO.out.alloc _) ⟨wr.heap.size, 0, none⟩ 1 1 [.iface 303 (.agg #[.int .i64 (k : Int)])] rfl rfl ?c1b ?c2b ?c3b ?c4b ?c5b ?_)
        case c1b =>
          intro j u hj
          match j, hj with
          | 0, hj => simp at hj; subst hj; simp [Addr.add]
        case c2b => first | rfl | (intro u hu; simp at hu; subst hu; rfl)
        case c3b => unfold maxLen; omega
        case c4b => omega
        case c5b => have := HB.out.size; simp; omega
        intro v4 w4 hown4 hgrow4 _
        have P4 := Lib.hid hown4
        have D4 := Lib.hid ((HB.out.alloc HB.out.size (.cells #[.iface 303 (.agg #[.int .i64 (k : Int)])] 262)).grown hgrow4 (by have := HB.out.size; simp; omega) (fun j hj => own_gem HO.out hj))
        clear hown4 hgrow4
        go_wp2_with fail
        go_roundw
        case rel =>
          refine ⟨k + 1, by omega, by go_num, ?_, D4.out⟩
          rw [hE2.out, List.length_append, List.map_append]
          exact P4.out
        case measure => simp [intOf]; omega
    have Hd : Hid (nodesS (n + 1) = nodesS n ++ (List.range 5).map (Sub.node n)) := Lib.hid rfl
    generalize nodesS n = NS at HO Hd hnl
    have n1 : (n : Int) < (ns.length : Int) := by omega
    go_wp2_with fail
    go_loopw [3, 16] (fun v i wr => ∃ k : Nat, k ≤ 5 ∧ i = .int .i64 (k : Int) ∧ wr.ownsRow W.heap.size 262 1 v (NS ++ (List.range k).map (Sub.node n)).length ((NS ++ (List.range k).map (Sub.node n)).map subV) ∧ Below W.heap.size W wr) (fun _ i _ => 5 - (intOf i).toNat)
    case atStart => exact ⟨0, by omega, rfl, by rw [show NS ++ (List.range 0).map (Sub.node n) = NS from List.append_nil _]; exact HO.out, HB.out⟩
    case round =>
      clear HO HB
      obtain ⟨k, hk, rfl, ho, hb⟩ := hrel
      have HO := Lib.hid ho
      have HB := Lib.hid hb
      clear ho hb
      have hkl : (NS ++ (List.range k).map (Sub.node n)).length ≤ 6000 := by simp; omega
      by_cases hlk : k < 5
      case neg =>
        obtain rfl : k = 5 := by omega
        go_wp2_with fail
        go_roundw
        case rel => exact ⟨n + 1, by omega, by go_num, by rw [Hd.out]; exact HO.out, HB.out⟩
        case measure => simp [intOf]; omega
      have hE2 : Hid (NS ++ (List.range (k + 1)).map (Sub.node n) = (NS ++ (List.range k).map (Sub.node n)) ++ [.node n k]) := Lib.hid (by rw [qs_succ, List.append_assoc])
      generalize NS ++ (List.range k).map (Sub.node n) = M at HO hE2 hkl
      have k1 : (k : Int) < 5 := by omega
      go_wp2_with (at_builtin; refine wpList_append_own _ rfl _ _ 257 rfl W.heap.size 262 i0 .nilIface 1 16 Tryz.underlying257 hi0 hz0 hz1 hz2 rfl (by decide) _ _ _ rfl (show World.ownsRow _ _ _ _ _ _ _ from HO.out.alloc _) ⟨wr.heap.size, 0, none⟩ 1 1 [.iface 301 (.agg #[.int .i64 (n : Int), .int .i64 (k : Int)])] rfl rfl ?c1a ?c2a ?c3a ?c4a ?c5a ?_)
      case c1a =>
        intro j u hj
        match j, hj with
        | 0, hj => simp at hj; subst hj; simp [Addr.add]
      case c2a => first | rfl | (intro u hu; simp at hu; subst hu; rfl)
      case c3a => unfold maxLen; omega
      case c4a => omega
      case c5a => have := HB.out.size; simp; omega
      intro v4 w4 hown4 hgrow4 _
      have P4 := Lib.hid hown4
      have D4 := Lib.hid ((HB.out.alloc HB.out.size (.cells #[.iface 301 (.agg #[.int .i64 (n : Int), .int .i64 (k : Int)])] 262)).grown hgrow4 (by have := HB.out.size; simp; omega) (fun j hj => own_gem HO.out hj))
      clear hown4 hgrow4
      go_wp2_with fail
      go_roundw
      case rel =>
        refine ⟨k + 1, by omega, by go_num, ?_, D4.out⟩
        rw [hE2.out, List.length_append, List.map_append]
        exact P4.out
      case measure => simp [intOf]; omega
end Go.Proofs.YtmmokiaipfalmaaGreat

namespace Go.Proofs.YtmmokiaipfalmaaGreat
open Go.RowKit

/-- The rule of a kind, as a value. -/
def ruleV : Nat → Value
  | 1 => .agg #[.func (Fn.func 301) #[] #[], .nilFunc, .nilFunc]
  | 2 => .agg #[.nilFunc, .func (Fn.func 302) #[] #[], .nilFunc]
  | 3 => .agg #[.nilFunc, .func (Fn.func 303) #[] #[], .nilFunc]
  | 4 => .agg #[.nilFunc, .func (Fn.func 304) #[] #[], .nilFunc]
  | 5 => .agg #[.nilFunc, .func (Fn.func 305) #[] #[], .nilFunc]
  | 6 => .agg #[.nilFunc, .func (Fn.func 306) #[] #[], .nilFunc]
  | 7 => .agg #[.nilFunc, .nilFunc, .func (Fn.func 307) #[] #[]]
  | 8 => .agg #[.nilFunc, .nilFunc, .func (Fn.func 308) #[] #[]]
  | _ => .agg #[.nilFunc, .nilFunc, .nilFunc]
def entsR (k : Nat) : List MapEntry := (List.range k).map fun (j : Nat) => ⟨.int .i64 ((j : Int) + 1), ruleV (j + 1), j⟩
theorem entsR_succ (k : Nat) : entsR (k + 1) = entsR k ++ [⟨.int .i64 ((k : Int) + 1), ruleV (k + 1), k⟩] := by
  unfold entsR
  rw [List.range_succ, List.map_append]
  rfl
theorem isKey_i64 (x : Int) : MapKept.IsKey (.int .i64) (.int .i64 x) := by simp [MapKept.IsKey]
theorem find_no9 : ∀ k : Nat, k < 8 → Instr.findNow (.int .i64) (.int .i64 ((k : Int) + 1)) (entsR k) 0 = some none := by
  intro k hk
  match k, hk with
  | 0, _ => rfl
  | 1, _ => rfl
  | 2, _ => rfl
  | 3, _ => rfl
  | 4, _ => rfl
  | 5, _ => rfl
  | 6, _ => rfl
  | 7, _ => rfl
theorem find_at9 : ∀ k : Nat, k < 8 → Instr.findNow (.int .i64) (.int .i64 ((k : Int) + 1)) (entsR 8) 0 = some (some (k, ruleV (k + 1))) := by
  intro k hk
  match k, hk with
  | 0, _ => rfl
  | 1, _ => rfl
  | 2, _ => rfl
  | 3, _ => rfl
  | 4, _ => rfl
  | 5, _ => rfl
  | 6, _ => rfl
  | 7, _ => rfl

/-- One more rule in a map that is the last block. -/
theorem run_rule (w : World) (k : Nat) (_hk : k < 8) (h1 : Instr.findNow (.int .i64) (.int .i64 ((k : Int) + 1)) (entsR k) 0 = some none) :
    (Instr.mapUpdate 259 (.map (some w.heap.size)) (.int .i64 ((k : Int) + 1)) (ruleV (k + 1))).run Tryz.prog (w.alloc (.map (entsR k).toArray k)) =
      .ok () (w.alloc (.map (entsR (k + 1)).toArray (k + 1))) := by
  have hb := (MapKept.heap_alloc w (.map (entsR k).toArray k)).1
  have hset : ∀ o : Obj, { w.alloc (.map (entsR k).toArray k) with heap := (w.alloc (.map (entsR k).toArray k)).heap.setIfInBounds w.heap.size o } = w.alloc o := by
    intro o
    simp only [World.alloc]
    congr 1
    apply Array.ext'
    simp [Array.setIfInBounds, Array.toList_push]
  rw [entsR_succ]
  generalize w.alloc (.map (entsR k).toArray k) = W at hb hset
  unfold Instr.mapUpdate
  simp only [Sem.run_bind, run_underlying Tryz.underlying259, Result.andThen]
  simp [getObj, Sem.run, hb, MapKept.run_checkKey Tryz.underlying3 (isKey_i64 _), MapKept.run_findKey Tryz.underlying3 h1, MapKept.run_setObj_map _ hb, hset]
/-- The rule of a kind is found. -/
theorem run_ruleAt (w : World) (M : Nat) (h : w.heap[M]? = some (.map (entsR 8).toArray 8)) (k : Nat) (hk : k < 8) :
    (Instr.lookup 259 (.map (some M)) (.int .i64 ((k : Int) + 1)) false).run Tryz.prog w = .ok (ruleV (k + 1)) w := by
  have h1 := find_at9 k hk
  unfold Instr.lookup
  simp only [Sem.run_bind, run_underlying Tryz.underlying259, Result.andThen]
  simp [getObj, Sem.run, h, Result.andThen, MapKept.run_checkKey Tryz.underlying3 (isKey_i64 _), MapKept.run_findKey Tryz.underlying3 h1]

set_option maxRecDepth 100000 in
set_option maxHeartbeats 2000000 in
theorem rules_any (w : World) : Calls Tryz.prog 232 #[] w fun e w' => e = .returned (.map (some w.heap.size)) ∧ w'.heap[w.heap.size]? = some (.map (entsR 8).toArray 8) ∧ Below w.heap.size w w' := by
  have hmm := @run_makeMap Tryz.prog
  have m0 : (Instr.mapUpdate 259 (.map (some w.heap.size)) (.int .i64 1) (.agg #[.func (Fn.func 301) #[] #[], .nilFunc, .nilFunc])).run Tryz.prog (w.alloc (.map #[] 0)) = .ok () (w.alloc (.map (entsR 1).toArray 1)) := run_rule w 0 (by omega) (find_no9 0 (by omega))
  have m1 : (Instr.mapUpdate 259 (.map (some w.heap.size)) (.int .i64 2) (.agg #[.nilFunc, .func (Fn.func 302) #[] #[], .nilFunc])).run Tryz.prog (w.alloc (.map (entsR 1).toArray 1)) = .ok () (w.alloc (.map (entsR 2).toArray 2)) := run_rule w 1 (by omega) (find_no9 1 (by omega))
  have m2 : (Instr.mapUpdate 259 (.map (some w.heap.size)) (.int .i64 3) (.agg #[.nilFunc, .func (Fn.func 303) #[] #[], .nilFunc])).run Tryz.prog (w.alloc (.map (entsR 2).toArray 2)) = .ok () (w.alloc (.map (entsR 3).toArray 3)) := run_rule w 2 (by omega) (find_no9 2 (by omega))
  have m3 : (Instr.mapUpdate 259 (.map (some w.heap.size)) (.int .i64 4) (.agg #[.nilFunc, .func (Fn.func 304) #[] #[], .nilFunc])).run Tryz.prog (w.alloc (.map (entsR 3).toArray 3)) = .ok () (w.alloc (.map (entsR 4).toArray 4)) := run_rule w 3 (by omega) (find_no9 3 (by omega))
  have m4 : (Instr.mapUpdate 259 (.map (some w.heap.size)) (.int .i64 5) (.agg #[.nilFunc, .func (Fn.func 305) #[] #[], .nilFunc])).run Tryz.prog (w.alloc (.map (entsR 4).toArray 4)) = .ok () (w.alloc (.map (entsR 5).toArray 5)) := run_rule w 4 (by omega) (find_no9 4 (by omega))
  have m5 : (Instr.mapUpdate 259 (.map (some w.heap.size)) (.int .i64 6) (.agg #[.nilFunc, .func (Fn.func 306) #[] #[], .nilFunc])).run Tryz.prog (w.alloc (.map (entsR 5).toArray 5)) = .ok () (w.alloc (.map (entsR 6).toArray 6)) := run_rule w 5 (by omega) (find_no9 5 (by omega))
  have m6 : (Instr.mapUpdate 259 (.map (some w.heap.size)) (.int .i64 7) (.agg #[.nilFunc, .nilFunc, .func (Fn.func 307) #[] #[]])).run Tryz.prog (w.alloc (.map (entsR 6).toArray 6)) = .ok () (w.alloc (.map (entsR 7).toArray 7)) := run_rule w 6 (by omega) (find_no9 6 (by omega))
  have m7 : (Instr.mapUpdate 259 (.map (some w.heap.size)) (.int .i64 8) (.agg #[.nilFunc, .nilFunc, .func (Fn.func 308) #[] #[]])).run Tryz.prog (w.alloc (.map (entsR 7).toArray 7)) = .ok () (w.alloc (.map (entsR 8).toArray 8)) := run_rule w 7 (by omega) (find_no9 7 (by omega))
  have hb := (MapKept.heap_alloc w (.map (entsR 8).toArray 8)).1
  have HB := Lib.hid hb
  have B0 : Hid (Below w.heap.size w (w.alloc (.map (entsR 8).toArray 8))) := Lib.hid (below1 w _)
  clear hb
  generalize entsR 8 = E8 at m7 HB B0 ⊢
  generalize entsR 7 = E7 at m6 m7
  generalize entsR 6 = E6 at m5 m6
  generalize entsR 5 = E5 at m4 m5
  generalize entsR 4 = E4 at m3 m4
  generalize entsR 3 = E3 at m2 m3
  generalize entsR 2 = E2 at m1 m2
  generalize entsR 1 = E1 at m0 m1
  go_enter Tryz.func232, Tryz.ntmps232
  go_wp2_with fail
  go_ret
  exact ⟨rfl, HB.out, B0.out⟩
end Go.Proofs.YtmmokiaipfalmaaGreat

namespace Go.Proofs.YtmmokiaipfalmaaGreat
open Go.RowKit

set_option maxRecDepth 100000 in
set_option maxHeartbeats 4000000 in
theorem byNode_no (A B C P : Option Addr) (ca cb cc cp : Nat) (ns : List NodeD) (ps : List PodD) (os : List OwnD) (p : List Int) (f1 f2 : Value) (n q : Nat) (w : World) :
    Calls Tryz.prog 233 #[.agg #[.nilFunc, f1, f2], viewV A B C P ca cb cc cp ns ps os p, .iface 301 (.agg #[.int .i64 (n : Int), .int .i64 (q : Int)])] w fun e w' => e = .returned (.tuple #[.int .i64 0, .bool false]) ∧ Below w.heap.size w w' := by
  have B0 : Hid (Below w.heap.size w ((w.alloc (.cells #[.nilFunc, f1, f2] 268)).alloc (.cells (viewC A B C P ca cb cc cp ns ps os p) 256))) := Lib.hid (Qu.below2 w _ _)
  have S0 : Hid (Blk ((w.alloc (.cells #[.nilFunc, f1, f2] 268)).alloc (.cells (viewC A B C P ca cb cc cp ns ps os p) 256)) w.heap.size #[.nilFunc, f1, f2] 268) := Lib.hid (Blk.alloc (Blk.new w _ _) _)
  have S1 : Hid (Blk ((w.alloc (.cells #[.nilFunc, f1, f2] 268)).alloc (.cells (viewC A B C P ca cb cc cp ns ps os p) 256)) (w.heap.size + 1) (viewC A B C P ca cb cc cp ns ps os p) 256) := Lib.hid (blk2 w _ _ _)
  have hafN : ∀ w : World, (Instr.typeAssert (.iface 301 (.agg #[.int .i64 (n : Int), .int .i64 (q : Int)])) 262 301 true).run Tryz.prog w = .ok (.tuple #[.agg #[.int .i64 (n : Int), .int .i64 (q : Int)], .bool true]) w := fun w => by kernel_rfl
  have hbn : ∀ w : World, (binOp .neq 265 .nilFunc .nilFunc).run Tryz.prog w = .ok (.bool false) w := fun w => by kernel_rfl
  go_enter Tryz.func233, Tryz.ntmps233
  obtain ⟨W, hW⟩ : ∃ W, ((w.alloc (.cells #[.nilFunc, f1, f2] 268)).alloc (.cells (viewC A B C P ca cb cc cp ns ps os p) 256)) = W := ⟨_, rfl⟩
  rw [hW] at B0 S0 S1
  go_upto_region 1 with fail
  try rw [show ((w.alloc (.cells #[.nilFunc, f1, f2] 268)).alloc (.cells #[.slice A ns.length ca, .slice B ps.length cb, .slice C os.length cc, .slice P p.length cp] 256)) = W from hW]
  clear hW
  have B1 : Hid (Below w.heap.size w (W.alloc (.cells #[.int .i64 (n : Int), .int .i64 (q : Int)] 301))) := Lib.hid (B0.out.alloc B0.out.size _)
  have S2 : Hid (Blk (W.alloc (.cells #[.int .i64 (n : Int), .int .i64 (q : Int)] 301)) w.heap.size #[.nilFunc, f1, f2] 268) := Lib.hid (Blk.alloc S0.out _)
  have S3 : Hid (Blk (W.alloc (.cells #[.int .i64 (n : Int), .int .i64 (q : Int)] 301)) (w.heap.size + 1) (viewC A B C P ca cb cc cp ns ps os p) 256) := Lib.hid (Blk.alloc S1.out _)
  have S4 : Hid (Blk (W.alloc (.cells #[.int .i64 (n : Int), .int .i64 (q : Int)] 301)) W.heap.size #[.int .i64 (n : Int), .int .i64 (q : Int)] 301) := Lib.hid (Blk.new W _ _)
  clear B0 S0 S1
  go_upto_region 4 with fail
  try change Code.wp _ _ _ _ (W.alloc (.cells #[.int .i64 (n : Int), .int .i64 (q : Int)] 301))
  generalize (W.alloc (.cells #[.int .i64 (n : Int), .int .i64 (q : Int)] 301)) = V at B1 S2 S3 S4 ⊢
  generalize W.heap.size = Nb at S4 ⊢
  have r0 : V.cell? ⟨w.heap.size, 0, none⟩ = some (.nilFunc) := Blk.cell S2.out 0
  have z0 : V.cell? ⟨w.heap.size + 1, 0, none⟩ = some (.slice A ns.length ca) := Blk.cell S3.out 0
  have z1 : V.cell? ⟨w.heap.size + 1, 1, none⟩ = some (.slice B ps.length cb) := Blk.cell S3.out 1
  have z2 : V.cell? ⟨w.heap.size + 1, 2, none⟩ = some (.slice C os.length cc) := Blk.cell S3.out 2
  have z3 : V.cell? ⟨w.heap.size + 1, 3, none⟩ = some (.slice P p.length cp) := Blk.cell S3.out 3
  have k0 : V.cell? ⟨Nb, 0, none⟩ = some (.int .i64 (n : Int)) := Blk.cell S4.out 0
  have k1 : V.cell? ⟨Nb, 1, none⟩ = some (.int .i64 (q : Int)) := Blk.cell S4.out 1
  go_wp2
  go_ret2
  exact ⟨rfl, B1.out⟩

set_option maxRecDepth 100000 in
set_option maxHeartbeats 4000000 in
theorem byNode_any (A B C P : Option Addr) (ca cb cc cp : Nat) (ns : List NodeD) (ps : List PodD) (os : List OwnD) (p : List Int) (f1 f2 : Value) (n q : Nat) (g : FuncId) (hg : ∀ (args : Array Value) (w : World), (callFunc g args).run Tryz.prog w = .ok (.enter g args) w) (b : Int) (is : Bool) (w : World) (hcl : ∀ w', Below w.heap.size w w' → Calls Tryz.prog g #[viewV A B C P ca cb cc cp ns ps os p, .int .i64 (n : Int), .int .i64 (q : Int)] w' fun e w'' => e = .returned (.tuple #[.int .i64 b, .bool is]) ∧ Below w'.heap.size w' w'') :
    Calls Tryz.prog 233 #[.agg #[.func (Fn.func g) #[] #[], f1, f2], viewV A B C P ca cb cc cp ns ps os p, .iface 301 (.agg #[.int .i64 (n : Int), .int .i64 (q : Int)])] w fun e w' => e = .returned (.tuple #[.int .i64 b, .bool is]) ∧ Below w.heap.size w w' := by
  have B0 : Hid (Below w.heap.size w ((w.alloc (.cells #[.func (Fn.func g) #[] #[], f1, f2] 268)).alloc (.cells (viewC A B C P ca cb cc cp ns ps os p) 256))) := Lib.hid (Qu.below2 w _ _)
  have S0 : Hid (Blk ((w.alloc (.cells #[.func (Fn.func g) #[] #[], f1, f2] 268)).alloc (.cells (viewC A B C P ca cb cc cp ns ps os p) 256)) w.heap.size #[.func (Fn.func g) #[] #[], f1, f2] 268) := Lib.hid (Blk.alloc (Blk.new w _ _) _)
  have S1 : Hid (Blk ((w.alloc (.cells #[.func (Fn.func g) #[] #[], f1, f2] 268)).alloc (.cells (viewC A B C P ca cb cc cp ns ps os p) 256)) (w.heap.size + 1) (viewC A B C P ca cb cc cp ns ps os p) 256) := Lib.hid (blk2 w _ _ _)
  have HCL := Lib.hid hcl
  clear hcl
  have hafN : ∀ w : World, (Instr.typeAssert (.iface 301 (.agg #[.int .i64 (n : Int), .int .i64 (q : Int)])) 262 301 true).run Tryz.prog w = .ok (.tuple #[.agg #[.int .i64 (n : Int), .int .i64 (q : Int)], .bool true]) w := fun w => by kernel_rfl
  have hbn : ∀ w : World, (binOp .neq 265 (.func (Fn.func g) #[] #[]) .nilFunc).run Tryz.prog w = .ok (.bool true) w := fun w => by kernel_rfl
  go_enter Tryz.func233, Tryz.ntmps233
  obtain ⟨W, hW⟩ : ∃ W, ((w.alloc (.cells #[.func (Fn.func g) #[] #[], f1, f2] 268)).alloc (.cells (viewC A B C P ca cb cc cp ns ps os p) 256)) = W := ⟨_, rfl⟩
  rw [hW] at B0 S0 S1
  go_upto_region 1 with fail
  try rw [show ((w.alloc (.cells #[.func (Fn.func g) #[] #[], f1, f2] 268)).alloc (.cells #[.slice A ns.length ca, .slice B ps.length cb, .slice C os.length cc, .slice P p.length cp] 256)) = W from hW]
  clear hW
  have B1 : Hid (Below w.heap.size w (W.alloc (.cells #[.int .i64 (n : Int), .int .i64 (q : Int)] 301))) := Lib.hid (B0.out.alloc B0.out.size _)
  have S2 : Hid (Blk (W.alloc (.cells #[.int .i64 (n : Int), .int .i64 (q : Int)] 301)) w.heap.size #[.func (Fn.func g) #[] #[], f1, f2] 268) := Lib.hid (Blk.alloc S0.out _)
  have S3 : Hid (Blk (W.alloc (.cells #[.int .i64 (n : Int), .int .i64 (q : Int)] 301)) (w.heap.size + 1) (viewC A B C P ca cb cc cp ns ps os p) 256) := Lib.hid (Blk.alloc S1.out _)
  have S4 : Hid (Blk (W.alloc (.cells #[.int .i64 (n : Int), .int .i64 (q : Int)] 301)) W.heap.size #[.int .i64 (n : Int), .int .i64 (q : Int)] 301) := Lib.hid (Blk.new W _ _)
  clear B0 S0 S1
  go_upto_region 4 with fail
  try change Code.wp _ _ _ _ (W.alloc (.cells #[.int .i64 (n : Int), .int .i64 (q : Int)] 301))
  generalize (W.alloc (.cells #[.int .i64 (n : Int), .int .i64 (q : Int)] 301)) = V at B1 S2 S3 S4 ⊢
  generalize W.heap.size = Nb at S4 ⊢
  have r0 : V.cell? ⟨w.heap.size, 0, none⟩ = some (.func (Fn.func g) #[] #[]) := Blk.cell S2.out 0
  have z0 : V.cell? ⟨w.heap.size + 1, 0, none⟩ = some (.slice A ns.length ca) := Blk.cell S3.out 0
  have z1 : V.cell? ⟨w.heap.size + 1, 1, none⟩ = some (.slice B ps.length cb) := Blk.cell S3.out 1
  have z2 : V.cell? ⟨w.heap.size + 1, 2, none⟩ = some (.slice C os.length cc) := Blk.cell S3.out 2
  have z3 : V.cell? ⟨w.heap.size + 1, 3, none⟩ = some (.slice P p.length cp) := Blk.cell S3.out 3
  have k0 : V.cell? ⟨Nb, 0, none⟩ = some (.int .i64 (n : Int)) := Blk.cell S4.out 0
  have k1 : V.cell? ⟨Nb, 1, none⟩ = some (.int .i64 (q : Int)) := Blk.cell S4.out 1
  go_wp2_with fail
  refine (HCL.out _ B1.out).mono ?_
  rintro e w2 ⟨rfl, hb2⟩
  have B2 := Lib.hid (B1.out.trans (hb2.mono B1.out.size))
  clear hb2
  go_wp2
  go_ret2
  exact ⟨rfl, B2.out⟩

set_option maxRecDepth 100000 in
set_option maxHeartbeats 4000000 in
theorem byPod_no (A B C P : Option Addr) (ca cb cc cp : Nat) (ns : List NodeD) (ps : List PodD) (os : List OwnD) (p : List Int) (f0 f2 : Value) (i : Nat) (w : World) :
    Calls Tryz.prog 233 #[.agg #[f0, .nilFunc, f2], viewV A B C P ca cb cc cp ns ps os p, .iface 303 (.agg #[.int .i64 (i : Int)])] w fun e w' => e = .returned (.tuple #[.int .i64 0, .bool false]) ∧ Below w.heap.size w w' := by
  have B0 : Hid (Below w.heap.size w ((w.alloc (.cells #[f0, .nilFunc, f2] 268)).alloc (.cells (viewC A B C P ca cb cc cp ns ps os p) 256))) := Lib.hid (Qu.below2 w _ _)
  have S0 : Hid (Blk ((w.alloc (.cells #[f0, .nilFunc, f2] 268)).alloc (.cells (viewC A B C P ca cb cc cp ns ps os p) 256)) w.heap.size #[f0, .nilFunc, f2] 268) := Lib.hid (Blk.alloc (Blk.new w _ _) _)
  have S1 : Hid (Blk ((w.alloc (.cells #[f0, .nilFunc, f2] 268)).alloc (.cells (viewC A B C P ca cb cc cp ns ps os p) 256)) (w.heap.size + 1) (viewC A B C P ca cb cc cp ns ps os p) 256) := Lib.hid (blk2 w _ _ _)
  have hafN : ∀ w : World, (Instr.typeAssert (.iface 303 (.agg #[.int .i64 (i : Int)])) 262 301 true).run Tryz.prog w = .ok (.tuple #[.agg #[.int .i64 0, .int .i64 0], .bool false]) w := fun w => by kernel_rfl
  have hafP : ∀ w : World, (Instr.typeAssert (.iface 303 (.agg #[.int .i64 (i : Int)])) 262 303 true).run Tryz.prog w = .ok (.tuple #[.agg #[.int .i64 (i : Int)], .bool true]) w := fun w => by kernel_rfl
  have hbn : ∀ w : World, (binOp .neq 266 .nilFunc .nilFunc).run Tryz.prog w = .ok (.bool false) w := fun w => by kernel_rfl
  go_enter Tryz.func233, Tryz.ntmps233
  obtain ⟨W, hW⟩ : ∃ W, ((w.alloc (.cells #[f0, .nilFunc, f2] 268)).alloc (.cells (viewC A B C P ca cb cc cp ns ps os p) 256)) = W := ⟨_, rfl⟩
  rw [hW] at B0 S0 S1
  go_upto_region 1 with fail
  try rw [show ((w.alloc (.cells #[f0, .nilFunc, f2] 268)).alloc (.cells #[.slice A ns.length ca, .slice B ps.length cb, .slice C os.length cc, .slice P p.length cp] 256)) = W from hW]
  clear hW
  have B1 : Hid (Below w.heap.size w (W.alloc (.cells #[.int .i64 (i : Int)] 303))) := Lib.hid (B0.out.alloc B0.out.size _)
  have S2 : Hid (Blk (W.alloc (.cells #[.int .i64 (i : Int)] 303)) w.heap.size #[f0, .nilFunc, f2] 268) := Lib.hid (Blk.alloc S0.out _)
  have S3 : Hid (Blk (W.alloc (.cells #[.int .i64 (i : Int)] 303)) (w.heap.size + 1) (viewC A B C P ca cb cc cp ns ps os p) 256) := Lib.hid (Blk.alloc S1.out _)
  have S4 : Hid (Blk (W.alloc (.cells #[.int .i64 (i : Int)] 303)) W.heap.size #[.int .i64 (i : Int)] 303) := Lib.hid (Blk.new W _ _)
  clear B0 S0 S1
  go_upto_region 8 with fail
  try change Code.wp _ _ _ _ (W.alloc (.cells #[.int .i64 (i : Int)] 303))
  generalize (W.alloc (.cells #[.int .i64 (i : Int)] 303)) = V at B1 S2 S3 S4 ⊢
  generalize W.heap.size = Nb at S4 ⊢
  have r1 : V.cell? ⟨w.heap.size, 1, none⟩ = some (.nilFunc) := Blk.cell S2.out 1
  have z0 : V.cell? ⟨w.heap.size + 1, 0, none⟩ = some (.slice A ns.length ca) := Blk.cell S3.out 0
  have z1 : V.cell? ⟨w.heap.size + 1, 1, none⟩ = some (.slice B ps.length cb) := Blk.cell S3.out 1
  have z2 : V.cell? ⟨w.heap.size + 1, 2, none⟩ = some (.slice C os.length cc) := Blk.cell S3.out 2
  have z3 : V.cell? ⟨w.heap.size + 1, 3, none⟩ = some (.slice P p.length cp) := Blk.cell S3.out 3
  have k0 : V.cell? ⟨Nb, 0, none⟩ = some (.int .i64 (i : Int)) := Blk.cell S4.out 0
  go_wp2
  go_ret2
  exact ⟨rfl, B1.out⟩

set_option maxRecDepth 100000 in
set_option maxHeartbeats 4000000 in
theorem byPod_any (A B C P : Option Addr) (ca cb cc cp : Nat) (ns : List NodeD) (ps : List PodD) (os : List OwnD) (p : List Int) (f0 f2 : Value) (i : Nat) (g : FuncId) (hg : ∀ (args : Array Value) (w : World), (callFunc g args).run Tryz.prog w = .ok (.enter g args) w) (b : Int) (is : Bool) (w : World) (hcl : ∀ w', Below w.heap.size w w' → Calls Tryz.prog g #[viewV A B C P ca cb cc cp ns ps os p, .int .i64 (i : Int)] w' fun e w'' => e = .returned (.tuple #[.int .i64 b, .bool is]) ∧ Below w'.heap.size w' w'') :
    Calls Tryz.prog 233 #[.agg #[f0, .func (Fn.func g) #[] #[], f2], viewV A B C P ca cb cc cp ns ps os p, .iface 303 (.agg #[.int .i64 (i : Int)])] w fun e w' => e = .returned (.tuple #[.int .i64 b, .bool is]) ∧ Below w.heap.size w w' := by
  have B0 : Hid (Below w.heap.size w ((w.alloc (.cells #[f0, .func (Fn.func g) #[] #[], f2] 268)).alloc (.cells (viewC A B C P ca cb cc cp ns ps os p) 256))) := Lib.hid (Qu.below2 w _ _)
  have S0 : Hid (Blk ((w.alloc (.cells #[f0, .func (Fn.func g) #[] #[], f2] 268)).alloc (.cells (viewC A B C P ca cb cc cp ns ps os p) 256)) w.heap.size #[f0, .func (Fn.func g) #[] #[], f2] 268) := Lib.hid (Blk.alloc (Blk.new w _ _) _)
  have S1 : Hid (Blk ((w.alloc (.cells #[f0, .func (Fn.func g) #[] #[], f2] 268)).alloc (.cells (viewC A B C P ca cb cc cp ns ps os p) 256)) (w.heap.size + 1) (viewC A B C P ca cb cc cp ns ps os p) 256) := Lib.hid (blk2 w _ _ _)
  have HCL := Lib.hid hcl
  clear hcl
  have hafN : ∀ w : World, (Instr.typeAssert (.iface 303 (.agg #[.int .i64 (i : Int)])) 262 301 true).run Tryz.prog w = .ok (.tuple #[.agg #[.int .i64 0, .int .i64 0], .bool false]) w := fun w => by kernel_rfl
  have hafP : ∀ w : World, (Instr.typeAssert (.iface 303 (.agg #[.int .i64 (i : Int)])) 262 303 true).run Tryz.prog w = .ok (.tuple #[.agg #[.int .i64 (i : Int)], .bool true]) w := fun w => by kernel_rfl
  have hbn : ∀ w : World, (binOp .neq 266 (.func (Fn.func g) #[] #[]) .nilFunc).run Tryz.prog w = .ok (.bool true) w := fun w => by kernel_rfl
  go_enter Tryz.func233, Tryz.ntmps233
  obtain ⟨W, hW⟩ : ∃ W, ((w.alloc (.cells #[f0, .func (Fn.func g) #[] #[], f2] 268)).alloc (.cells (viewC A B C P ca cb cc cp ns ps os p) 256)) = W := ⟨_, rfl⟩
  rw [hW] at B0 S0 S1
  go_upto_region 1 with fail
  try rw [show ((w.alloc (.cells #[f0, .func (Fn.func g) #[] #[], f2] 268)).alloc (.cells #[.slice A ns.length ca, .slice B ps.length cb, .slice C os.length cc, .slice P p.length cp] 256)) = W from hW]
  clear hW
  have B1 : Hid (Below w.heap.size w (W.alloc (.cells #[.int .i64 (i : Int)] 303))) := Lib.hid (B0.out.alloc B0.out.size _)
  have S2 : Hid (Blk (W.alloc (.cells #[.int .i64 (i : Int)] 303)) w.heap.size #[f0, .func (Fn.func g) #[] #[], f2] 268) := Lib.hid (Blk.alloc S0.out _)
  have S3 : Hid (Blk (W.alloc (.cells #[.int .i64 (i : Int)] 303)) (w.heap.size + 1) (viewC A B C P ca cb cc cp ns ps os p) 256) := Lib.hid (Blk.alloc S1.out _)
  have S4 : Hid (Blk (W.alloc (.cells #[.int .i64 (i : Int)] 303)) W.heap.size #[.int .i64 (i : Int)] 303) := Lib.hid (Blk.new W _ _)
  clear B0 S0 S1
  go_upto_region 8 with fail
  try change Code.wp _ _ _ _ (W.alloc (.cells #[.int .i64 (i : Int)] 303))
  generalize (W.alloc (.cells #[.int .i64 (i : Int)] 303)) = V at B1 S2 S3 S4 ⊢
  generalize W.heap.size = Nb at S4 ⊢
  have r1 : V.cell? ⟨w.heap.size, 1, none⟩ = some (.func (Fn.func g) #[] #[]) := Blk.cell S2.out 1
  have z0 : V.cell? ⟨w.heap.size + 1, 0, none⟩ = some (.slice A ns.length ca) := Blk.cell S3.out 0
  have z1 : V.cell? ⟨w.heap.size + 1, 1, none⟩ = some (.slice B ps.length cb) := Blk.cell S3.out 1
  have z2 : V.cell? ⟨w.heap.size + 1, 2, none⟩ = some (.slice C os.length cc) := Blk.cell S3.out 2
  have z3 : V.cell? ⟨w.heap.size + 1, 3, none⟩ = some (.slice P p.length cp) := Blk.cell S3.out 3
  have k0 : V.cell? ⟨Nb, 0, none⟩ = some (.int .i64 (i : Int)) := Blk.cell S4.out 0
  go_wp2_with fail
  refine (HCL.out _ B1.out).mono ?_
  rintro e w2 ⟨rfl, hb2⟩
  have B2 := Lib.hid (B1.out.trans (hb2.mono B1.out.size))
  clear hb2
  go_wp2
  go_ret2
  exact ⟨rfl, B2.out⟩

set_option maxRecDepth 100000 in
set_option maxHeartbeats 4000000 in
theorem byOwner_no (A B C P : Option Addr) (ca cb cc cp : Nat) (ns : List NodeD) (ps : List PodD) (os : List OwnD) (p : List Int) (f0 f1 : Value) (o : Nat) (w : World) :
    Calls Tryz.prog 233 #[.agg #[f0, f1, .nilFunc], viewV A B C P ca cb cc cp ns ps os p, .iface 305 (.agg #[.int .i64 (o : Int)])] w fun e w' => e = .returned (.tuple #[.int .i64 0, .bool false]) ∧ Below w.heap.size w w' := by
  have B0 : Hid (Below w.heap.size w ((w.alloc (.cells #[f0, f1, .nilFunc] 268)).alloc (.cells (viewC A B C P ca cb cc cp ns ps os p) 256))) := Lib.hid (Qu.below2 w _ _)
  have S0 : Hid (Blk ((w.alloc (.cells #[f0, f1, .nilFunc] 268)).alloc (.cells (viewC A B C P ca cb cc cp ns ps os p) 256)) w.heap.size #[f0, f1, .nilFunc] 268) := Lib.hid (Blk.alloc (Blk.new w _ _) _)
  have S1 : Hid (Blk ((w.alloc (.cells #[f0, f1, .nilFunc] 268)).alloc (.cells (viewC A B C P ca cb cc cp ns ps os p) 256)) (w.heap.size + 1) (viewC A B C P ca cb cc cp ns ps os p) 256) := Lib.hid (blk2 w _ _ _)
  have hafN : ∀ w : World, (Instr.typeAssert (.iface 305 (.agg #[.int .i64 (o : Int)])) 262 301 true).run Tryz.prog w = .ok (.tuple #[.agg #[.int .i64 0, .int .i64 0], .bool false]) w := fun w => by kernel_rfl
  have hafP : ∀ w : World, (Instr.typeAssert (.iface 305 (.agg #[.int .i64 (o : Int)])) 262 303 true).run Tryz.prog w = .ok (.tuple #[.agg #[.int .i64 0], .bool false]) w := fun w => by kernel_rfl
  have hafO : ∀ w : World, (Instr.typeAssert (.iface 305 (.agg #[.int .i64 (o : Int)])) 262 305 true).run Tryz.prog w = .ok (.tuple #[.agg #[.int .i64 (o : Int)], .bool true]) w := fun w => by kernel_rfl
  have hbn : ∀ w : World, (binOp .neq 266 .nilFunc .nilFunc).run Tryz.prog w = .ok (.bool false) w := fun w => by kernel_rfl
  go_enter Tryz.func233, Tryz.ntmps233
  obtain ⟨W, hW⟩ : ∃ W, ((w.alloc (.cells #[f0, f1, .nilFunc] 268)).alloc (.cells (viewC A B C P ca cb cc cp ns ps os p) 256)) = W := ⟨_, rfl⟩
  rw [hW] at B0 S0 S1
  go_upto_region 1 with fail
  try rw [show ((w.alloc (.cells #[f0, f1, .nilFunc] 268)).alloc (.cells #[.slice A ns.length ca, .slice B ps.length cb, .slice C os.length cc, .slice P p.length cp] 256)) = W from hW]
  clear hW
  have B1 : Hid (Below w.heap.size w (W.alloc (.cells #[.int .i64 (o : Int)] 305))) := Lib.hid (B0.out.alloc B0.out.size _)
  have S2 : Hid (Blk (W.alloc (.cells #[.int .i64 (o : Int)] 305)) w.heap.size #[f0, f1, .nilFunc] 268) := Lib.hid (Blk.alloc S0.out _)
  have S3 : Hid (Blk (W.alloc (.cells #[.int .i64 (o : Int)] 305)) (w.heap.size + 1) (viewC A B C P ca cb cc cp ns ps os p) 256) := Lib.hid (Blk.alloc S1.out _)
  have S4 : Hid (Blk (W.alloc (.cells #[.int .i64 (o : Int)] 305)) W.heap.size #[.int .i64 (o : Int)] 305) := Lib.hid (Blk.new W _ _)
  clear B0 S0 S1
  go_upto_region 12 with fail
  try change Code.wp _ _ _ _ (W.alloc (.cells #[.int .i64 (o : Int)] 305))
  generalize (W.alloc (.cells #[.int .i64 (o : Int)] 305)) = V at B1 S2 S3 S4 ⊢
  generalize W.heap.size = Nb at S4 ⊢
  have r2 : V.cell? ⟨w.heap.size, 2, none⟩ = some (.nilFunc) := Blk.cell S2.out 2
  have z0 : V.cell? ⟨w.heap.size + 1, 0, none⟩ = some (.slice A ns.length ca) := Blk.cell S3.out 0
  have z1 : V.cell? ⟨w.heap.size + 1, 1, none⟩ = some (.slice B ps.length cb) := Blk.cell S3.out 1
  have z2 : V.cell? ⟨w.heap.size + 1, 2, none⟩ = some (.slice C os.length cc) := Blk.cell S3.out 2
  have z3 : V.cell? ⟨w.heap.size + 1, 3, none⟩ = some (.slice P p.length cp) := Blk.cell S3.out 3
  have k0 : V.cell? ⟨Nb, 0, none⟩ = some (.int .i64 (o : Int)) := Blk.cell S4.out 0
  go_wp2
  go_ret2
  exact ⟨rfl, B1.out⟩

set_option maxRecDepth 100000 in
set_option maxHeartbeats 4000000 in
theorem byOwner_any (A B C P : Option Addr) (ca cb cc cp : Nat) (ns : List NodeD) (ps : List PodD) (os : List OwnD) (p : List Int) (f0 f1 : Value) (o : Nat) (g : FuncId) (hg : ∀ (args : Array Value) (w : World), (callFunc g args).run Tryz.prog w = .ok (.enter g args) w) (b : Int) (is : Bool) (w : World) (hcl : ∀ w', Below w.heap.size w w' → Calls Tryz.prog g #[viewV A B C P ca cb cc cp ns ps os p, .int .i64 (o : Int)] w' fun e w'' => e = .returned (.tuple #[.int .i64 b, .bool is]) ∧ Below w'.heap.size w' w'') :
    Calls Tryz.prog 233 #[.agg #[f0, f1, .func (Fn.func g) #[] #[]], viewV A B C P ca cb cc cp ns ps os p, .iface 305 (.agg #[.int .i64 (o : Int)])] w fun e w' => e = .returned (.tuple #[.int .i64 b, .bool is]) ∧ Below w.heap.size w w' := by
  have B0 : Hid (Below w.heap.size w ((w.alloc (.cells #[f0, f1, .func (Fn.func g) #[] #[]] 268)).alloc (.cells (viewC A B C P ca cb cc cp ns ps os p) 256))) := Lib.hid (Qu.below2 w _ _)
  have S0 : Hid (Blk ((w.alloc (.cells #[f0, f1, .func (Fn.func g) #[] #[]] 268)).alloc (.cells (viewC A B C P ca cb cc cp ns ps os p) 256)) w.heap.size #[f0, f1, .func (Fn.func g) #[] #[]] 268) := Lib.hid (Blk.alloc (Blk.new w _ _) _)
  have S1 : Hid (Blk ((w.alloc (.cells #[f0, f1, .func (Fn.func g) #[] #[]] 268)).alloc (.cells (viewC A B C P ca cb cc cp ns ps os p) 256)) (w.heap.size + 1) (viewC A B C P ca cb cc cp ns ps os p) 256) := Lib.hid (blk2 w _ _ _)
  have HCL := Lib.hid hcl
  clear hcl
  have hafN : ∀ w : World, (Instr.typeAssert (.iface 305 (.agg #[.int .i64 (o : Int)])) 262 301 true).run Tryz.prog w = .ok (.tuple #[.agg #[.int .i64 0, .int .i64 0], .bool false]) w := fun w => by kernel_rfl
  have hafP : ∀ w : World, (Instr.typeAssert (.iface 305 (.agg #[.int .i64 (o : Int)])) 262 303 true).run Tryz.prog w = .ok (.tuple #[.agg #[.int .i64 0], .bool false]) w := fun w => by kernel_rfl
  have hafO : ∀ w : World, (Instr.typeAssert (.iface 305 (.agg #[.int .i64 (o : Int)])) 262 305 true).run Tryz.prog w = .ok (.tuple #[.agg #[.int .i64 (o : Int)], .bool true]) w := fun w => by kernel_rfl
  have hbn : ∀ w : World, (binOp .neq 266 (.func (Fn.func g) #[] #[]) .nilFunc).run Tryz.prog w = .ok (.bool true) w := fun w => by kernel_rfl
  go_enter Tryz.func233, Tryz.ntmps233
  obtain ⟨W, hW⟩ : ∃ W, ((w.alloc (.cells #[f0, f1, .func (Fn.func g) #[] #[]] 268)).alloc (.cells (viewC A B C P ca cb cc cp ns ps os p) 256)) = W := ⟨_, rfl⟩
  rw [hW] at B0 S0 S1
  go_upto_region 1 with fail
  try rw [show ((w.alloc (.cells #[f0, f1, .func (Fn.func g) #[] #[]] 268)).alloc (.cells #[.slice A ns.length ca, .slice B ps.length cb, .slice C os.length cc, .slice P p.length cp] 256)) = W from hW]
  clear hW
  have B1 : Hid (Below w.heap.size w (W.alloc (.cells #[.int .i64 (o : Int)] 305))) := Lib.hid (B0.out.alloc B0.out.size _)
  have S2 : Hid (Blk (W.alloc (.cells #[.int .i64 (o : Int)] 305)) w.heap.size #[f0, f1, .func (Fn.func g) #[] #[]] 268) := Lib.hid (Blk.alloc S0.out _)
  have S3 : Hid (Blk (W.alloc (.cells #[.int .i64 (o : Int)] 305)) (w.heap.size + 1) (viewC A B C P ca cb cc cp ns ps os p) 256) := Lib.hid (Blk.alloc S1.out _)
  have S4 : Hid (Blk (W.alloc (.cells #[.int .i64 (o : Int)] 305)) W.heap.size #[.int .i64 (o : Int)] 305) := Lib.hid (Blk.new W _ _)
  clear B0 S0 S1
  go_upto_region 12 with fail
  try change Code.wp _ _ _ _ (W.alloc (.cells #[.int .i64 (o : Int)] 305))
  generalize (W.alloc (.cells #[.int .i64 (o : Int)] 305)) = V at B1 S2 S3 S4 ⊢
  generalize W.heap.size = Nb at S4 ⊢
  have r2 : V.cell? ⟨w.heap.size, 2, none⟩ = some (.func (Fn.func g) #[] #[]) := Blk.cell S2.out 2
  have z0 : V.cell? ⟨w.heap.size + 1, 0, none⟩ = some (.slice A ns.length ca) := Blk.cell S3.out 0
  have z1 : V.cell? ⟨w.heap.size + 1, 1, none⟩ = some (.slice B ps.length cb) := Blk.cell S3.out 1
  have z2 : V.cell? ⟨w.heap.size + 1, 2, none⟩ = some (.slice C os.length cc) := Blk.cell S3.out 2
  have z3 : V.cell? ⟨w.heap.size + 1, 3, none⟩ = some (.slice P p.length cp) := Blk.cell S3.out 3
  have k0 : V.cell? ⟨Nb, 0, none⟩ = some (.int .i64 (o : Int)) := Blk.cell S4.out 0
  go_wp2_with fail
  refine (HCL.out _ B1.out).mono ?_
  rintro e w2 ⟨rfl, hb2⟩
  have B2 := Lib.hid (B1.out.trans (hb2.mono B1.out.size))
  clear hb2
  go_wp2
  go_ret2
  exact ⟨rfl, B2.out⟩

end Go.Proofs.YtmmokiaipfalmaaGreat

namespace Go.Proofs.YtmmokiaipfalmaaGreat
open Go.RowKit

theorem slT10 {W : World} {b : Nat} {c : TypeId} (t : T3) (hb : Blk W b #[.int .i64 t.1, strV t.2.1, strV t.2.2] c) : La.SlAt W (some ⟨b, 0, none⟩) (La.cellsT [t]) := by
  intro j v hj
  refine ⟨b, 0, rfl, ?_⟩
  rw [Nat.zero_add]
  match j, hj with
  | 0, hj => rw [← show some (.int .i64 t.1) = some v from hj]; exact Blk.cell hb 0
  | 1, hj => rw [← show some (strV t.2.1) = some v from hj]; exact Blk.cell hb 1
  | 2, hj => rw [← show some (strV t.2.2) = some v from hj]; exact Blk.cell hb 2
theorem slT1 (V : World) (t : T3) (c : TypeId) : La.SlAt (V.alloc (.cells #[.int .i64 t.1, strV t.2.1, strV t.2.2] c)).drew (some ⟨V.heap.size, 0, none⟩) (La.cellsT [t]) := slT10 t (Blk.drew (Blk.new V _ _))
theorem slT1D (V : World) (t : T3) (c : TypeId) : La.SlAt (V.drew.alloc (.cells #[.int .i64 t.1, strV t.2.1, strV t.2.2] c)) (some ⟨V.drew.heap.size, 0, none⟩) (La.cellsT [t]) := slT10 t (Blk.new V.drew _ _)
theorem slT1E (V : World) (t : T3) (c : TypeId) : La.SlAt (V.alloc (.cells #[.int .i64 t.1, strV t.2.1, strV t.2.2] c)) (some ⟨V.heap.size, 0, none⟩) (La.cellsT [t]) := slT10 t (Blk.new V _ _)

set_option maxRecDepth 100000 in
set_option maxHeartbeats 8000000 in
theorem notWhere_any (A B C P : Option Addr) (ca cb cc cp : Nat) (ns : List NodeD) (ps : List PodD) (os : List OwnD) (p : List Int) (i q : Nat) (x : PodD) (n : NodeD) (hE : placeE ns ps os p = 0) (hi : p[i]? = some (q : Int)) (hx : ps[i]? = some x) (hn : ns[q]? = some n) (w : World) (h : SnapAt w A B C ca cb cc ns ps os) (hp : IntsAt w P cp p) :
    Calls Tryz.prog 302 #[viewV A B C P ca cb cc cp ns ps os p, .int .i64 (i : Int)] w fun e w' => e = .returned (.tuple #[.int .i64 (termsO x.whr n.labels : Int), .bool true]) ∧ Below w.heap.size w w' := by
  have hxm := List.mem_of_getElem? hx
  have hnm := List.mem_of_getElem? hn
  obtain ⟨nk1, nk2, nk3⟩ := node_keys (placeE_chk hE) hnm
  obtain ⟨pk1, pk2, pk3, pk4⟩ := pod_keys (placeE_chk hE) hxm
  have B0 : Hid (Below w.heap.size w (w.alloc (.cells (viewC A B C P ca cb cc cp ns ps os p) 256))) := Lib.hid (below1 w _)
  have S0 : Hid (Blk (w.alloc (.cells (viewC A B C P ca cb cc cp ns ps os p) 256)) w.heap.size (viewC A B C P ca cb cc cp ns ps os p) 256) := Lib.hid (Blk.new w _ _)
  have i0 : (0 : Int) ≤ (i : Int) := by omega
  have i1 : (i : Int) < (p.length : Int) := by have := (List.getElem?_eq_some_iff.1 hi).1; omega
  have i2 : (i : Int) < (ps.length : Int) := by have := (List.getElem?_eq_some_iff.1 hx).1; omega
  have q1 : (0 : Int) ≤ (q : Int) := by omega
  have q2 : (q : Int) < (ns.length : Int) := by have := (List.getElem?_eq_some_iff.1 hn).1; omega
  have E : Hid (termsO x.whr n.labels = numL (fun t => !La.holdsL [t] n.labels) x.whr) := Lib.hid (termsO_holds _ _ nk1)
  obtain ⟨bp, op, hAp, _, _⟩ := atI hp.cells hi
  subst hAp
  obtain ⟨b, o, hB, _⟩ := atP h.p.cells hx
  subst hB
  obtain ⟨bn, on, hA, _⟩ := atN h.n.cells hn
  subst hA
  have HPC : Hid (∀ W', Below w.heap.size w W' → W'.cell? ⟨bp, op + i, none⟩ = some (.int .i64 (q : Int))) := Lib.hid (fun W' hb => by
    obtain ⟨b', o', hA', _, hc⟩ := atI (hp.below hb).cells hi
    cases hA'
    exact hc)
  have PC := Lib.hid (fun W' (hb : Below w.heap.size w W') => (by
    obtain ⟨b', o', hA', _, c0, c1, c2, c3, c4, c5, c6, c7, c8, c9, _⟩ := atP (h.below hb).p.cells hx
    cases hA'
    exact ⟨c8, c9⟩ : W'.cell? ⟨b, o + i * 15 + 8, none⟩ = some (.slice x.aw x.whr.length x.cw) ∧ W'.cell? ⟨b, o + i * 15 + 9, none⟩ = some (.slice x.ab x.bears.length x.cb)))
  have NC := Lib.hid (fun W' (hb : Below w.heap.size w W') => (by
    obtain ⟨b', o', hA', _, c0, c1, c2, c3, c4, c5, c6, c7, _⟩ := atN (h.below hb).n.cells hn
    cases hA'
    exact ⟨c6, c7⟩ : W'.cell? ⟨bn, on + q * 10 + 6, none⟩ = some (.slice n.al n.labels.length n.cl) ∧ W'.cell? ⟨bn, on + q * 10 + 7, none⟩ = some (.slice n.at_ n.taints.length n.ct)))
  have XF := Lib.hid (fun W' (hb : Below w.heap.size w W') => (h.below hb).p.fit x hxm)
  have NF := Lib.hid (fun W' (hb : Below w.heap.size w W') => (h.below hb).n.fit n hnm)
  have HPL := Lib.hid (placeE_len hE)
  generalize termsO x.whr n.labels = R at E ⊢
  clear h hp hE hi hx hn hxm hnm
  go_enter Tryz.func302, Tryz.ntmps302
  obtain ⟨W, hW⟩ : ∃ W, (w.alloc (.cells (viewC (some ⟨bn, on, none⟩) (some ⟨b, o, none⟩) C (some ⟨bp, op, none⟩) ca cb cc cp ns ps os p) 256)) = W := ⟨_, rfl⟩
  rw [hW] at B0 S0
  go_upto_region 1 with fail
  try rw [show (w.alloc (.cells #[.slice (some ⟨bn, on, none⟩) ns.length ca, .slice (some ⟨b, o, none⟩) ps.length cb, .slice C os.length cc, .slice (some ⟨bp, op, none⟩) p.length cp] 256)) = W from hW]
  clear hW
  have HZ := Lib.hid (fun W' (hb : Below W.heap.size W W') => (show W'.cell? ⟨w.heap.size, 0, none⟩ = some (.slice (some ⟨bn, on, none⟩) ns.length ca) ∧ W'.cell? ⟨w.heap.size, 1, none⟩ = some (.slice (some ⟨b, o, none⟩) ps.length cb) ∧ W'.cell? ⟨w.heap.size, 2, none⟩ = some (.slice C os.length cc) ∧ W'.cell? ⟨w.heap.size, 3, none⟩ = some (.slice (some ⟨bp, op, none⟩) p.length cp) from ⟨Blk.cell (S0.out.below hb S0.out.lt) 0, Blk.cell (S0.out.below hb S0.out.lt) 1, Blk.cell (S0.out.below hb S0.out.lt) 2, Blk.cell (S0.out.below hb S0.out.lt) 3⟩))
  have HT := Lib.hid (fun W' (hb : Below W.heap.size W W') => B0.out.trans (hb.mono B0.out.size))
  clear B0 S0
  obtain ⟨z0, z1, z2, z3⟩ := HZ.out _ (Below.refl _ W)
  have pk := HPC.out _ (HT.out _ (Below.refl _ W))
  obtain ⟨x8, x9⟩ := PC.out _ (HT.out _ (Below.refl _ W))
  obtain ⟨n6, n7⟩ := NC.out _ (HT.out _ (Below.refl _ W))
  go_wp2_with fail

  clear z0 z1 z2 z3 pk x8 x9 n6 n7
  go_loopw [4, 16] (fun c j wr => ∃ k : Nat, k ≤ x.whr.length ∧ j = .int .i64 (k : Int) ∧ c = .int .i64 ((numL (fun t => !La.holdsL [t] n.labels) (x.whr.take k) : Nat) : Int) ∧ Below W.heap.size W wr) (fun _ j _ => x.whr.length - (intOf j).toNat)
  case atStart => exact ⟨0, by omega, rfl, rfl, by first | exact Below.refl _ _ | exact below_drewN (Below.refl _ _) _ | exact (Below.refl _ _).drew⟩
  case round =>
    obtain ⟨k, hk, rfl, rfl, hb⟩ := hrel
    have HB := Lib.hid hb
    clear hb
    by_cases hlt : k < x.whr.length
    case neg =>
      obtain rfl : k = x.whr.length := by omega
      rw [List.take_length, ← E.out]
      go_wp2
      go_ret2
      exact ⟨rfl, HT.out _ HB.out⟩
    obtain ⟨t, ht⟩ : ∃ t, x.whr[k]? = some t := ⟨x.whr[k], List.getElem?_eq_getElem hlt⟩
    have HTt := Lib.hid ht
    have HS := Lib.hid (numL_snoc (fun t => !La.holdsL [t] n.labels) ht)
    have hnl := numL_le (fun t => !La.holdsL [t] n.labels) (x.whr.take k)
    rw [List.length_take] at hnl
    generalize numL (fun t => !La.holdsL [t] n.labels) (x.whr.take k) = m at HS hnl ⊢
    have k0 : (0 : Int) ≤ (k : Int) := by omega
    have k1 : (k : Int) < (x.whr.length : Int) := by omega
    obtain ⟨bt, ot, hAt, _, t0, t1, t2⟩ := La.SlAt.ter ((XF.out _ (HT.out _ HB.out)).wh.cells) ht
    go_upto_region 4 with fail
    have TB : Hid (Blk (wr.alloc (.cells #[.int .i64 t.1, strV t.2.1, strV t.2.2] 98)) wr.heap.size #[.int .i64 t.1, strV t.2.1, strV t.2.2] 98) := Lib.hid (Blk.new wr _ _)
    have HBV : Hid (Below W.heap.size W (wr.alloc (.cells #[.int .i64 t.1, strV t.2.1, strV t.2.2] 98))) := Lib.hid (HB.out.alloc HB.out.size _)
    try change Code.wp _ _ _ _ (wr.alloc (.cells #[.int .i64 t.1, strV t.2.1, strV t.2.2] 98))
    generalize (wr.alloc (.cells #[.int .i64 t.1, strV t.2.1, strV t.2.2] 98)) = V at TB HBV ⊢
    generalize wr.heap.size = Nb at TB ⊢
    have SF : Hid (∀ w', Below V.heap.size V w' → w'.cell? ⟨Nb, 0, none⟩ = some (.int .i64 t.1) ∧ w'.cell? ⟨Nb, 1, none⟩ = some (strV t.2.1) ∧ w'.cell? ⟨Nb, 2, none⟩ = some (strV t.2.2) ∧ w'.cell? ⟨w.heap.size, 0, none⟩ = some (.slice (some ⟨bn, on, none⟩) ns.length ca) ∧ w'.cell? ⟨w.heap.size, 3, none⟩ = some (.slice (some ⟨bp, op, none⟩) p.length cp) ∧ w'.cell? ⟨bp, op + i, none⟩ = some (.int .i64 (q : Int)) ∧ w'.cell? ⟨bn, on + q * 10 + 6, none⟩ = some (.slice n.al n.labels.length n.cl)) := Lib.hid (fun w' hb => by
      have hbW := HBV.out.trans (hb.mono HBV.out.size)
      obtain ⟨z0, z1, z2, z3⟩ := HZ.out _ hbW
      have pk := HPC.out _ (HT.out _ hbW)
      obtain ⟨x8, x9⟩ := PC.out _ (HT.out _ hbW)
      obtain ⟨n6, n7⟩ := NC.out _ (HT.out _ hbW)
      exact ⟨Blk.cell (TB.out.below hb TB.out.lt) 0, Blk.cell (TB.out.below hb TB.out.lt) 1, Blk.cell (TB.out.below hb TB.out.lt) 2, z0, z3, pk, n6⟩)
    have KH := Lib.hid (fun W' (hb : Below V.heap.size V W') (N' : Nat) (hT : La.SlAt W' (some ⟨N', 0, none⟩) (La.cellsT [t])) => La.holds_any (some ⟨N', 0, none⟩) n.al 1 n.cl [t] n.labels W' (by simp) (by simp) (by omega) (NF.out _ (HT.out _ (HBV.out.trans (hb.mono HBV.out.size)))).l.le hT (NF.out _ (HT.out _ (HBV.out.trans (hb.mono HBV.out.size)))).l.cells)
    clear t0 t1 t2 hAt
    go_region_held3 (fun w' => w'.cell? ⟨Nb, 0, none⟩ = some (.int .i64 t.1) ∧ w'.cell? ⟨Nb, 1, none⟩ = some (strV t.2.1) ∧ w'.cell? ⟨Nb, 2, none⟩ = some (strV t.2.2) ∧ w'.cell? ⟨w.heap.size, 0, none⟩ = some (.slice (some ⟨bn, on, none⟩) ns.length ca) ∧ w'.cell? ⟨w.heap.size, 3, none⟩ = some (.slice (some ⟨bp, op, none⟩) p.length cp) ∧ w'.cell? ⟨bp, op + i, none⟩ = some (.int .i64 (q : Int)) ∧ w'.cell? ⟨bn, on + q * 10 + 6, none⟩ = some (.slice n.al n.labels.length n.cl)) (exact SF.out _ (by go_grown))
      (first
        | (go_at_call 355
           refine (KH.out _ (by go_grown) _ (by first | exact slT1 V t _ | exact slT1D V t _ | exact slT1E V t _)).mono ?_
           rintro e wA ⟨rfl, hbA⟩
           have D3 : Below V.heap.size V wA := Below.trans (by go_grown) (hbA.mono (by go_grown))
           clear hbA))
    all_goals
      have HB3 := Lib.hid (HBV.out.trans (D3.mono HBV.out.size))
      clear D3 SF KH TB HBV
      cases hv : La.holdsL [t] n.labels with
      | true =>
        have HE : Hid (numL (fun t => !La.holdsL [t] n.labels) (x.whr.take (k + 1)) = m) := Lib.hid (by rw [HS.out, hv]; simp)
        clear HS
        go_wp2_with fail
        go_roundw
        case rel => exact ⟨k + 1, by omega, by go_num, by rw [HE.out], HB3.out⟩
        case measure => simp [intOf]; omega
      | false =>
        have HE : Hid (numL (fun t => !La.holdsL [t] n.labels) (x.whr.take (k + 1)) = m + 1) := Lib.hid (by rw [HS.out, hv]; simp)
        have hwm : IntKind.i64.wrap ((m : Int) + 1) = (m : Int) + 1 := IntWalk.i64_in _ (by omega)
        clear HS
        go_wp2_with fail
        go_roundw
        case rel => exact ⟨k + 1, by omega, by go_num, by rw [HE.out]; simp, HB3.out⟩
        case measure => simp [intOf]; omega
end Go.Proofs.YtmmokiaipfalmaaGreat

namespace Go.Proofs.YtmmokiaipfalmaaGreat
open Go.RowKit

theorem slL10 {W : World} {b : Nat} {c : TypeId} (t : L2) (hb : Blk W b #[strV t.1, strV t.2] c) : La.SlAt W (some ⟨b, 0, none⟩) (La.cellsL [t]) := by
  intro j v hj
  refine ⟨b, 0, rfl, ?_⟩
  rw [Nat.zero_add]
  match j, hj with
  | 0, hj => rw [← show some (strV t.1) = some v from hj]; exact Blk.cell hb 0
  | 1, hj => rw [← show some (strV t.2) = some v from hj]; exact Blk.cell hb 1
theorem slL1 (V : World) (t : L2) (c : TypeId) : La.SlAt (V.alloc (.cells #[strV t.1, strV t.2] c)).drew (some ⟨V.heap.size, 0, none⟩) (La.cellsL [t]) := slL10 t (Blk.drew (Blk.new V _ _))
theorem slL1D (V : World) (t : L2) (c : TypeId) : La.SlAt (V.drew.alloc (.cells #[strV t.1, strV t.2] c)) (some ⟨V.drew.heap.size, 0, none⟩) (La.cellsL [t]) := slL10 t (Blk.new V.drew _ _)
theorem slL1E (V : World) (t : L2) (c : TypeId) : La.SlAt (V.alloc (.cells #[strV t.1, strV t.2] c)) (some ⟨V.heap.size, 0, none⟩) (La.cellsL [t]) := slL10 t (Blk.new V _ _)

set_option maxRecDepth 100000 in
set_option maxHeartbeats 8000000 in
theorem notBorne_any (A B C P : Option Addr) (ca cb cc cp : Nat) (ns : List NodeD) (ps : List PodD) (os : List OwnD) (p : List Int) (i q : Nat) (x : PodD) (n : NodeD) (hE : placeE ns ps os p = 0) (hi : p[i]? = some (q : Int)) (hx : ps[i]? = some x) (hn : ns[q]? = some n) (w : World) (h : SnapAt w A B C ca cb cc ns ps os) (hp : IntsAt w P cp p) :
    Calls Tryz.prog 303 #[viewV A B C P ca cb cc cp ns ps os p, .int .i64 (i : Int)] w fun e w' => e = .returned (.tuple #[.int .i64 (taintsO n.taints x.bears : Int), .bool true]) ∧ Below w.heap.size w w' := by
  have hxm := List.mem_of_getElem? hx
  have hnm := List.mem_of_getElem? hn
  obtain ⟨nk1, nk2, nk3⟩ := node_keys (placeE_chk hE) hnm
  obtain ⟨pk1, pk2, pk3, pk4⟩ := pod_keys (placeE_chk hE) hxm
  have B0 : Hid (Below w.heap.size w (w.alloc (.cells (viewC A B C P ca cb cc cp ns ps os p) 256))) := Lib.hid (below1 w _)
  have S0 : Hid (Blk (w.alloc (.cells (viewC A B C P ca cb cc cp ns ps os p) 256)) w.heap.size (viewC A B C P ca cb cc cp ns ps os p) 256) := Lib.hid (Blk.new w _ _)
  have i0 : (0 : Int) ≤ (i : Int) := by omega
  have i1 : (i : Int) < (p.length : Int) := by have := (List.getElem?_eq_some_iff.1 hi).1; omega
  have i2 : (i : Int) < (ps.length : Int) := by have := (List.getElem?_eq_some_iff.1 hx).1; omega
  have q1 : (0 : Int) ≤ (q : Int) := by omega
  have q2 : (q : Int) < (ns.length : Int) := by have := (List.getElem?_eq_some_iff.1 hn).1; omega
  have E : Hid (taintsO n.taints x.bears = numL (fun t => !La.bearsL x.bears [t]) n.taints) := Lib.hid (rfl)
  obtain ⟨bp, op, hAp, _, _⟩ := atI hp.cells hi
  subst hAp
  obtain ⟨b, o, hB, _⟩ := atP h.p.cells hx
  subst hB
  obtain ⟨bn, on, hA, _⟩ := atN h.n.cells hn
  subst hA
  have HPC : Hid (∀ W', Below w.heap.size w W' → W'.cell? ⟨bp, op + i, none⟩ = some (.int .i64 (q : Int))) := Lib.hid (fun W' hb => by
    obtain ⟨b', o', hA', _, hc⟩ := atI (hp.below hb).cells hi
    cases hA'
    exact hc)
  have PC := Lib.hid (fun W' (hb : Below w.heap.size w W') => (by
    obtain ⟨b', o', hA', _, c0, c1, c2, c3, c4, c5, c6, c7, c8, c9, _⟩ := atP (h.below hb).p.cells hx
    cases hA'
    exact ⟨c8, c9⟩ : W'.cell? ⟨b, o + i * 15 + 8, none⟩ = some (.slice x.aw x.whr.length x.cw) ∧ W'.cell? ⟨b, o + i * 15 + 9, none⟩ = some (.slice x.ab x.bears.length x.cb)))
  have NC := Lib.hid (fun W' (hb : Below w.heap.size w W') => (by
    obtain ⟨b', o', hA', _, c0, c1, c2, c3, c4, c5, c6, c7, _⟩ := atN (h.below hb).n.cells hn
    cases hA'
    exact ⟨c6, c7⟩ : W'.cell? ⟨bn, on + q * 10 + 6, none⟩ = some (.slice n.al n.labels.length n.cl) ∧ W'.cell? ⟨bn, on + q * 10 + 7, none⟩ = some (.slice n.at_ n.taints.length n.ct)))
  have XF := Lib.hid (fun W' (hb : Below w.heap.size w W') => (h.below hb).p.fit x hxm)
  have NF := Lib.hid (fun W' (hb : Below w.heap.size w W') => (h.below hb).n.fit n hnm)
  have HPL := Lib.hid (placeE_len hE)
  generalize taintsO n.taints x.bears = R at E ⊢
  clear h hp hE hi hx hn hxm hnm
  go_enter Tryz.func303, Tryz.ntmps303
  obtain ⟨W, hW⟩ : ∃ W, (w.alloc (.cells (viewC (some ⟨bn, on, none⟩) (some ⟨b, o, none⟩) C (some ⟨bp, op, none⟩) ca cb cc cp ns ps os p) 256)) = W := ⟨_, rfl⟩
  rw [hW] at B0 S0
  go_upto_region 1 with fail
  try rw [show (w.alloc (.cells #[.slice (some ⟨bn, on, none⟩) ns.length ca, .slice (some ⟨b, o, none⟩) ps.length cb, .slice C os.length cc, .slice (some ⟨bp, op, none⟩) p.length cp] 256)) = W from hW]
  clear hW
  have HZ := Lib.hid (fun W' (hb : Below W.heap.size W W') => (show W'.cell? ⟨w.heap.size, 0, none⟩ = some (.slice (some ⟨bn, on, none⟩) ns.length ca) ∧ W'.cell? ⟨w.heap.size, 1, none⟩ = some (.slice (some ⟨b, o, none⟩) ps.length cb) ∧ W'.cell? ⟨w.heap.size, 2, none⟩ = some (.slice C os.length cc) ∧ W'.cell? ⟨w.heap.size, 3, none⟩ = some (.slice (some ⟨bp, op, none⟩) p.length cp) from ⟨Blk.cell (S0.out.below hb S0.out.lt) 0, Blk.cell (S0.out.below hb S0.out.lt) 1, Blk.cell (S0.out.below hb S0.out.lt) 2, Blk.cell (S0.out.below hb S0.out.lt) 3⟩))
  have HT := Lib.hid (fun W' (hb : Below W.heap.size W W') => B0.out.trans (hb.mono B0.out.size))
  clear B0 S0
  obtain ⟨z0, z1, z2, z3⟩ := HZ.out _ (Below.refl _ W)
  have pk := HPC.out _ (HT.out _ (Below.refl _ W))
  obtain ⟨x8, x9⟩ := PC.out _ (HT.out _ (Below.refl _ W))
  obtain ⟨n6, n7⟩ := NC.out _ (HT.out _ (Below.refl _ W))
  go_quiet (fail)
  go_wp2_with fail
  clear z0 z1 z2 z3 pk x8 x9 n6 n7
  go_loopw [4, 20] (fun c j wr => ∃ k : Nat, k ≤ n.taints.length ∧ j = .int .i64 (k : Int) ∧ c = .int .i64 ((numL (fun t => !La.bearsL x.bears [t]) (n.taints.take k) : Nat) : Int) ∧ Below W.heap.size W wr) (fun _ j _ => n.taints.length - (intOf j).toNat)
  case atStart => exact ⟨0, by omega, rfl, rfl, by first | exact Below.refl _ _ | exact below_drewN (Below.refl _ _) _ | exact (Below.refl _ _).drew⟩
  case round =>
    obtain ⟨k, hk, rfl, rfl, hb⟩ := hrel
    have HB := Lib.hid hb
    clear hb
    by_cases hlt : k < n.taints.length
    case neg =>
      obtain rfl : k = n.taints.length := by omega
      rw [List.take_length, ← E.out]
      go_wp2
      go_ret2
      exact ⟨rfl, HT.out _ HB.out⟩
    obtain ⟨t, ht⟩ : ∃ t, n.taints[k]? = some t := ⟨n.taints[k], List.getElem?_eq_getElem hlt⟩
    have HTt := Lib.hid ht
    have HS := Lib.hid (numL_snoc (fun t => !La.bearsL x.bears [t]) ht)
    have hnl := numL_le (fun t => !La.bearsL x.bears [t]) (n.taints.take k)
    rw [List.length_take] at hnl
    generalize numL (fun t => !La.bearsL x.bears [t]) (n.taints.take k) = m at HS hnl ⊢
    have k0 : (0 : Int) ≤ (k : Int) := by omega
    have k1 : (k : Int) < (n.taints.length : Int) := by omega
    obtain ⟨bt, ot, hAt, _, t0, t1⟩ := La.SlAt.lab ((NF.out _ (HT.out _ HB.out)).t.cells) ht
    go_upto_region 4 with fail
    have TB : Hid (Blk (wr.alloc (.cells #[strV t.1, strV t.2] 100)) wr.heap.size #[strV t.1, strV t.2] 100) := Lib.hid (Blk.new wr _ _)
    have HBV : Hid (Below W.heap.size W (wr.alloc (.cells #[strV t.1, strV t.2] 100))) := Lib.hid (HB.out.alloc HB.out.size _)
    try change Code.wp _ _ _ _ (wr.alloc (.cells #[strV t.1, strV t.2] 100))
    generalize (wr.alloc (.cells #[strV t.1, strV t.2] 100)) = V at TB HBV ⊢
    generalize wr.heap.size = Nb at TB ⊢
    have SF : Hid (∀ w', Below V.heap.size V w' → w'.cell? ⟨Nb, 0, none⟩ = some (strV t.1) ∧ w'.cell? ⟨Nb, 1, none⟩ = some (strV t.2) ∧ w'.cell? ⟨w.heap.size, 0, none⟩ = some (.slice (some ⟨bn, on, none⟩) ns.length ca) ∧ w'.cell? ⟨w.heap.size, 1, none⟩ = some (.slice (some ⟨b, o, none⟩) ps.length cb) ∧ w'.cell? ⟨w.heap.size, 3, none⟩ = some (.slice (some ⟨bp, op, none⟩) p.length cp) ∧ w'.cell? ⟨bp, op + i, none⟩ = some (.int .i64 (q : Int)) ∧ w'.cell? ⟨b, o + i * 15 + 9, none⟩ = some (.slice x.ab x.bears.length x.cb)) := Lib.hid (fun w' hb => by
      have hbW := HBV.out.trans (hb.mono HBV.out.size)
      obtain ⟨z0, z1, z2, z3⟩ := HZ.out _ hbW
      have pk := HPC.out _ (HT.out _ hbW)
      obtain ⟨x8, x9⟩ := PC.out _ (HT.out _ hbW)
      obtain ⟨n6, n7⟩ := NC.out _ (HT.out _ hbW)
      exact ⟨Blk.cell (TB.out.below hb TB.out.lt) 0, Blk.cell (TB.out.below hb TB.out.lt) 1, z0, z1, z3, pk, x9⟩)
    have KH := Lib.hid (fun W' (hb : Below V.heap.size V W') (N' : Nat) (hT : La.SlAt W' (some ⟨N', 0, none⟩) (La.cellsL [t])) => La.bears_any x.ab (some ⟨N', 0, none⟩) x.cb 1 x.bears [t] W' (by omega) (XF.out _ (HT.out _ (HBV.out.trans (hb.mono HBV.out.size)))).b.le (by simp) (by simp) (XF.out _ (HT.out _ (HBV.out.trans (hb.mono HBV.out.size)))).b.cells hT)
    clear t0 t1 hAt
    go_region_held3 (fun w' => w'.cell? ⟨Nb, 0, none⟩ = some (strV t.1) ∧ w'.cell? ⟨Nb, 1, none⟩ = some (strV t.2) ∧ w'.cell? ⟨w.heap.size, 0, none⟩ = some (.slice (some ⟨bn, on, none⟩) ns.length ca) ∧ w'.cell? ⟨w.heap.size, 1, none⟩ = some (.slice (some ⟨b, o, none⟩) ps.length cb) ∧ w'.cell? ⟨w.heap.size, 3, none⟩ = some (.slice (some ⟨bp, op, none⟩) p.length cp) ∧ w'.cell? ⟨bp, op + i, none⟩ = some (.int .i64 (q : Int)) ∧ w'.cell? ⟨b, o + i * 15 + 9, none⟩ = some (.slice x.ab x.bears.length x.cb)) (exact SF.out _ (by go_grown))
      (first
        | (go_at_call 356
           refine (KH.out _ (by go_grown) _ (by first | exact slL1 V t _ | exact slL1D V t _ | exact slL1E V t _)).mono ?_
           rintro e wA ⟨rfl, hbA⟩
           have D3 : Below V.heap.size V wA := Below.trans (by go_grown) (hbA.mono (by go_grown))
           clear hbA))
    all_goals
      have HB3 := Lib.hid (HBV.out.trans (D3.mono HBV.out.size))
      clear D3 SF KH TB HBV
      cases hv : La.bearsL x.bears [t] with
      | true =>
        have HE : Hid (numL (fun t => !La.bearsL x.bears [t]) (n.taints.take (k + 1)) = m) := Lib.hid (by rw [HS.out, hv]; simp)
        clear HS
        go_wp2_with fail
        go_roundw
        case rel => exact ⟨k + 1, by omega, by go_num, by rw [HE.out], HB3.out⟩
        case measure => simp [intOf]; omega
      | false =>
        have HE : Hid (numL (fun t => !La.bearsL x.bears [t]) (n.taints.take (k + 1)) = m + 1) := Lib.hid (by rw [HS.out, hv]; simp)
        have hwm : IntKind.i64.wrap ((m : Int) + 1) = (m : Int) + 1 := IntWalk.i64_in _ (by omega)
        clear HS
        go_wp2_with fail
        go_roundw
        case rel => exact ⟨k + 1, by omega, by go_num, by rw [HE.out]; simp, HB3.out⟩
        case measure => simp [intOf]; omega
end Go.Proofs.YtmmokiaipfalmaaGreat
