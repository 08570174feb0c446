/- Do names rise, and which are a cluster's, as the document says it? Contracts. Condition: the cluster lies in memory. What the document's Plus answers of a thousand rows at most. Condition: they lie in memory. May a cluster be, and its sums, as the document says it: the contracts of shaped and Check. Condition: the cluster lies in memory. May a cluster be, and its sums, as the document says it: the contract of Check. Condition: the cluster lies in memory. Numbers of any length copied and held against each other; may a placement be, as the document says it. Contracts. Condition: the arguments lie in memory. From what a law's walk gives to the law's row, where no variable is listed: the arguments read as they did, nothing that was there has turned. No conditions of its own. Who goes through the pods of a node: the contracts of podsOn and of what it hands back. Condition: the numbers lie in memory. Who goes through the pods of an owner that do not wait: the contracts of podsOf and of what it hands back. Condition: the cluster and the numbers lie in memory. What the pods of a node ask for: the contract of Used. Condition: the cluster and the numbers lie in memory. What the pods of a node ask for: the contract of Used where there is the node. Condition: the cluster and the numbers lie in memory. How many pods of an owner do not wait: the contract of Placed. Condition: the cluster and the numbers lie in memory. Of each node how many of an owner's pods are on it: the contract of Counts. Condition: the cluster and the numbers lie in memory. The sorted keys of a map: the library's contracts, at this program. No conditions but what they say. The domains of a key: the contracts of emptyDomains and of Domains. Condition: the cluster lies in memory. The domains of a key, sorted: the contract of Domains. Condition: the cluster lies in memory. -/
import Derived.Test.YtpdaohkpgconkaaGreatC04
import Derived.Laws.AppendOwnNone
import Derived.Test.YtpdaohkpgconkaaGreatRows
import Derived.ProofKit
import Derived.OpenShut
import Derived.Carry
import Derived.LaidSub
import Derived.Deep.DeepHandedRow
import Derived.RangeFuncNested
import Derived.RangeFuncBound
import Derived.RangeFuncCalls
import Derived.RangeFuncLeaves
import Derived.RangeFuncBox
import Derived.Shelf.Abstract
import Derived.Shelf.RegionOpen
import Derived.WalkKit
import Derived.OwnWalkIn
import Derived.TacticsInMore
import Derived.LoopNIn
import Derived.LoopIn
import Derived.Laws.OwnMore
import Derived.Test.YtpdaohkpgconkaaGreatShelfIter
import Derived.Maps.OwnIn
import Derived.Maps.Views

namespace Go.Proofs.YtpdaohkpgconkaaGreat
open Go.RowKit

theorem ltS_lessD : ∀ (y x : List UInt8), ltS y x = Op.bytesLess y x
  | [], [] => rfl
  | [], _ :: _ => rfl
  | _ :: _, [] => rfl
  | a :: s, b :: t => by
    have ih := ltS_lessD s t
    unfold ltS at ih ⊢
    rw [Op.bytesLess, Op.bytesLess, ← ih, List.cons_beq_cons]
    rcases Nat.lt_trichotomy a.toNat b.toNat with h | h | h
    · have h1 : a < b := UInt8.lt_iff_toNat_lt.2 h
      have h2 : ¬ b < a := fun hh => by have := UInt8.lt_iff_toNat_lt.1 hh; omega
      have h3 : ¬ b = a := fun hh => by subst hh; omega
      simp [h1, h2, h3]
    · have h1 : a = b := UInt8.toNat_inj.1 h
      subst h1
      have h2 : ¬ a < a := fun hh => by have := UInt8.lt_iff_toNat_lt.1 hh; omega
      simp [h2]
    · have h1 : b < a := UInt8.lt_iff_toNat_lt.2 h
      have h2 : ¬ a < b := fun hh => by have := UInt8.lt_iff_toNat_lt.1 hh; omega
      have h3 : ¬ a = b := fun hh => by subst hh; omega
      simp [h1, h2, h3]
theorem str_infoD : (Tryz.prog.info? 9).map (fun i => (i.zero, i.size, i.bytes)) = some (some (.string ⟨#[]⟩), 1, 16) := by kernel_rfl
set_option maxRecDepth 100000 in
set_option maxHeartbeats 2000000 in
theorem rise3_any (A : Option Addr) (c : Nat) (l : List (List UInt8)) (w : World) (hl : l.length ≤ 1000) (hs : La.SlAt w A (strC l)) (hbig : ∀ x ∈ l, x.length ≤ 9223372036854775807) :
    Calls Tryz.prog 152 #[.slice A l.length c] w fun e w' => e = .returned (.bool (namesB l)) ∧ Below w.heap.size w w' := by
  have HS := Lib.hid hs
  have Hbig := Lib.hid hbig
  clear hs hbig
  obtain ⟨R, hR⟩ : ∃ R, namesB l = R := ⟨_, rfl⟩
  rw [hR]
  have HR := Lib.hid hR
  clear hR
  go_enter Tryz.func152, Tryz.ntmps152
  go_wp2
  go_loopw [3] (fun i wr => ∃ k : Nat, k ≤ l.length ∧ i = .int .i64 k ∧ La.chkK La.nameB ltS l k = true ∧ Below w.heap.size w wr) (fun i _ => l.length - (intOf i).toNat)
  case atStart => exact ⟨0, by omega, rfl, rfl, Below.refl _ _⟩
  case round =>
    obtain ⟨k, hk, rfl, hp, hbw⟩ := hrel
    have Hp := Lib.hid hp
    have HB := Lib.hid hbw
    clear hp hbw
    by_cases hlt : k < l.length
    · obtain ⟨x, hxk⟩ : ∃ x, l[k]? = some x := ⟨l[k], List.getElem?_eq_getElem hlt⟩
      obtain ⟨b, o, hA, hb0, hx⟩ := strC_at (HS.out.below HB.out) hxk
      subst hA
      have Hstep : Hid (La.chkK La.nameB ltS l (k + 1) = La.okAt La.nameB ltS l k x) := Lib.hid (by rw [La.chkK, Hp.out, hxk]; rfl)
      have KN := Lib.hid (fun w' => (La.rname_any x w' (Hbig.out x (List.mem_of_getElem? hxk))).mono (fun e w'' h => (⟨h.1, h.2.symm⟩ : e = .returned (.bool (La.nameB x)) ∧ w'' = w')))
      have k0 : (0 : Int) ≤ (k : Int) := by omega
      have k1 : (k : Int) < (l.length : Int) := by omega
      have Hxk := Lib.hid hxk
      clear hxk
      cases hnb : La.nameB x
      · have HNo := Lib.hid (show R = false from by
          rw [← HR.out]
          exact La.chkK_false (k := k + 1) (by rw [Hstep.out]; exact La.okAt_no hnb) (by omega))
        rw [hnb] at KN
        go_wp2_with fail
        go_quiet ((go_at_call 185; exact Calls.quiet_of_same (KN.out _)))
        go_wp2
        go_ret
        exact ⟨La.retB HNo.out.symm, belowN HB.out _⟩
      · by_cases hz : k = 0
        · subst hz
          rw [Nat.add_zero] at hx
          have HO := Lib.hid (La.okAt_zero (mb := La.nameB) (ri := ltS) (l := l) (k := 0) hnb rfl)
          rw [hnb] at KN
          clear hnb
          go_wp2_with fail
          go_quiet ((go_at_call 185; exact Calls.quiet_of_same (KN.out _)))
          go_wp2
          go_roundw
          case rel => exact ⟨1, by omega, by go_num, by rw [Hstep.out, HO.out], belowN HB.out _⟩
          case measure => simp [intOf]; omega
        · obtain ⟨y, hy⟩ : ∃ y, l[k - 1]? = some y := ⟨l[k - 1]'(by omega), List.getElem?_eq_getElem (by omega)⟩
          obtain ⟨b', o', hA', _, hyc⟩ := strC_at (HS.out.below HB.out) hy
          simp only [Option.some.injEq, Addr.mk.injEq] at hA'
          obtain ⟨rfl, rfl, _⟩ := hA'
          have HO := Lib.hid (La.okAt_pos (mb := La.nameB) (ri := ltS) (l := l) (k := k) hnb hz hy)
          have n1 : (1 : Int) ≤ (k : Int) := by omega
          have n2 : (0 : Int) < (k : Int) := by omega
          have n3 : ((k : Int) - 1).toNat = k - 1 := by omega
          have n5 : (0 : Int) ≤ (k : Int) - 1 := by omega
          have n6 : (k : Int) - 1 < (l.length : Int) := by omega
          have n7 : ((k : Int) - 1 < 0) = False := by simp; omega
          have n8 : decide ((k : Int) - 1 < (l.length : Int)) = true := by simp; omega
          have n9 : decide (0 < k) = true := decide_eq_true (by omega)
          have n10 : 0 < k := by omega
          have n4 : IntKind.i64.wrap ((k : Int) - 1) = (k : Int) - 1 := IntWalk.i64_in _ (by omega)
          rw [hnb] at KN
          clear hnb hz hy
          have HN0 := Lib.hid (show ltS y x = false → R = false from fun hls => by
            rw [← HR.out]
            exact La.chkK_false (k := k + 1) (by rw [Hstep.out, HO.out, hls]) (by omega))
          cases h1 : Op.bytesLess y x
          · have HNo := Lib.hid (HN0.out (by rw [ltS_lessD, h1]))
            have h2 : (Op.bytesLess x y || x == y) = true := by
              have := ltS_lessD y x
              rw [h1] at this
              unfold ltS at this
              rwa [Bool.not_eq_false'] at this
            go_wp2_with fail
            go_quiet ((go_at_call 185; exact Calls.quiet_of_same (KN.out _)))
            go_wp2
            all_goals
              go_ret
              exact ⟨La.retB HNo.out.symm, belowN HB.out _⟩
          · have HL : Hid (ltS y x = true) := Lib.hid (by rw [ltS_lessD, h1])
            have h2 : (Op.bytesLess x y || x == y) = false := by
              have := ltS_lessD y x
              rw [h1] at this
              unfold ltS at this
              simpa using this
            have h3 : Op.bytesLess x y = false := by
              rw [Bool.or_eq_false_iff] at h2
              exact h2.1
            have h4 : (x == y) = false := by
              rw [Bool.or_eq_false_iff] at h2
              exact h2.2
            have h5 : (y == x) = false := by rw [beq_eq_false_iff_ne] at h4 ⊢; exact fun e => h4 e.symm
            go_wp2_with fail
            go_quiet ((go_at_call 185; exact Calls.quiet_of_same (KN.out _)))
            go_wp2
            go_roundw
            case rel => exact ⟨k + 1, by omega, by go_num, by rw [Hstep.out, HO.out, HL.out], belowN HB.out _⟩
            case measure => simp [intOf]; omega
    · obtain rfl : k = l.length := by omega
      have HY := Lib.hid (show R = true from by rw [← HR.out]; exact Hp.out)
      go_wp2
      go_ret
      exact ⟨La.retB HY.out.symm, HB.out⟩

/-- Texts that a slice lays. -/
def StrsAt (w : World) (A : Option Addr) (l : List (List UInt8)) : Prop := La.SlAt w A (strC l)
set_option maxRecDepth 100000 in
set_option maxHeartbeats 4000000 in
theorem names3_any (A B C : Option Addr) (ca cb cc : Nat) (ns : List NodeD) (ps : List PodD) (os : List OwnD) (w : World) (h : SnapAt w A B C ca cb cc ns ps os) :
    Calls Tryz.prog 151 #[snapV A B C ca cb cc ns ps os] w fun e w' => ∃ A1 c1 A2 c2 A3 c3, e = .returned (.tuple #[.slice A1 ns.length c1, .slice A2 ps.length c2, .slice A3 os.length c3]) ∧ StrsAt w' A1 (ns.map (·.name)) ∧ StrsAt w' A2 (ps.map (·.name)) ∧ StrsAt w' A3 (os.map (·.name)) ∧ Below w.heap.size w w' := by
  have H := Lib.hid h
  have hln := h.ln
  have hlp := h.lp
  have hlo := h.lo
  have B0 : Hid (Below w.heap.size w (w.alloc (.cells (snapC A B C ca cb cc ns ps os) 26))) := Lib.hid (below1 w _)
  have S0 : Hid (Blk (w.alloc (.cells (snapC A B C ca cb cc ns ps os) 26)) w.heap.size (snapC A B C ca cb cc ns ps os) 26) := Lib.hid (Blk.new w _ _)
  obtain ⟨is, his, hzs0, hzs1, hzs2⟩ := info_parts str_infoD
  clear h
  go_enter Tryz.func151, Tryz.ntmps151
  go_wp2_with fail
  generalize (w.alloc (.cells (snapC A B C ca cb cc ns ps os) 26)) = W at B0 S0 ⊢
  go_loopw [8, 5] (fun i v wr => ∃ k : Nat, k ≤ ns.length ∧ i = .int .i64 k ∧ wr.ownsRow W.heap.size 9 1 v k (strC ((ns.take k).map (·.name))) ∧ Below W.heap.size W wr) (fun i _ _ => ns.length - (intOf i).toNat)
  case atStart => exact ⟨0, by omega, rfl, by simpa [strC] using World.ownsRow_nil W W.heap.size 9 1, Below.refl _ _⟩
  case round =>
    obtain ⟨k, hk, rfl, hown, hbw⟩ := hrel
    have HO := Lib.hid hown
    have HW := Lib.hid hbw
    have HT := Lib.hid (B0.out.trans (hbw.mono B0.out.size))
    have HS := Lib.hid (S0.out.below hbw S0.out.lt)
    clear hown hbw
    have s0 : wr.cell? ⟨w.heap.size, 0, none⟩ = some (.slice A ns.length ca) := Blk.cell HS.out 0
    by_cases hlt : k < ns.length
    · obtain ⟨x, hx⟩ : ∃ x, ns[k]? = some x := ⟨ns[k], List.getElem?_eq_getElem hlt⟩
      obtain ⟨b, o, hA, hbl, c0, c1, c2, c3, c4, c5, c6, c7, c8, c9⟩ := atN (H.out.below HT.out).n.cells hx
      subst hA
      clear c1 c2 c3 c4 c5 c6 c7 c8 c9
      have Hsn : Hid (ns.take (k + 1) = ns.take k ++ [x]) := Lib.hid (by rw [List.take_add_one, hx]; rfl)
      have k0 : (0 : Int) ≤ (k : Int) := by omega
      have k1 : (k : Int) < (ns.length : Int) := by omega
      have hsz := HW.out.size
      clear hx
      go_wp2_with (at_builtin; refine wpList_append_own _ rfl _ _ 143 rfl W.heap.size 9 is (.string ⟨#[]⟩) 1 16 Tryz.underlying143 his hzs0 hzs1 hzs2 rfl (by decide) _ _ _ rfl (HO.out.alloc _) ⟨wr.heap.size, 0, none⟩ 1 1 [strV x.name] rfl rfl ?c1 ?c2 ?c3 ?c4 ?c5 ?_)
      case c1 =>
        intro j u hj
        match j, hj with
        | 0, hj => simp at hj; subst hj; first | (simp [Addr.add, go_sem]; done) | exact Blk.cell (Blk.new _ _ _) 0
      case c2 => first | rfl | (intro u hu; simp at hu; rcases hu with rfl <;> rfl) | (intro u hu; simp at hu; subst hu; rfl)
      case c3 => unfold maxLen; omega
      case c4 => omega
      case c5 => simp; omega
      intro v' w2 hown' hgrow' _
      have Hown2 := Lib.hid hown'
      have Hbw2 := Lib.hid ((HW.out.alloc HW.out.size (.cells #[strV x.name] 9)).grown hgrow' (by simp; omega) (fun j hj => La.own_ge' HO.out hj))
      clear hown' hgrow'
      go_wp2
      go_roundw
      case rel => exact ⟨k + 1, by omega, by go_num, by rw [Hsn.out, List.map_append]; simpa [strC] using Hown2.out, Hbw2.out⟩
      case measure => simp [intOf]; omega
    · obtain rfl : k = ns.length := by omega
      obtain ⟨A1, c1, rfl, _⟩ := La.own_slice HO.out
      have O1 : Hid (StrsAt wr (A1) (ns.map (·.name))) := Lib.hid (by have q := La.own_slat HO.out; rwa [List.take_length] at q)
      have B1 := HT
      have S1 := HS
      clear HO HW HT HS hlt hk
      obtain ⟨W1, hW1⟩ : ∃ W1 : World, W1 = wr := ⟨_, rfl⟩
      rw [← hW1] at O1 B1 S1 s0 ⊢
      clear hW1
      have s1 : W1.cell? ⟨w.heap.size, 1, none⟩ = some (.slice B ps.length cb) := Blk.cell S1.out 1
      go_wp2_with fail
      clear s0 s1
      go_loopw [9, 6] (fun i v wr => ∃ k : Nat, k ≤ ps.length ∧ i = .int .i64 k ∧ wr.ownsRow W1.heap.size 9 1 v k (strC ((ps.take k).map (·.name))) ∧ Below W1.heap.size W1 wr) (fun i _ _ => ps.length - (intOf i).toNat)
      case atStart => exact ⟨0, by omega, rfl, by simpa [strC] using World.ownsRow_nil W1 W1.heap.size 9 1, Below.refl _ _⟩
      case round =>
        obtain ⟨k, hk, rfl, hown, hbw⟩ := hrel
        have HO := Lib.hid hown
        have HW := Lib.hid hbw
        have HT := Lib.hid (B1.out.trans (hbw.mono B1.out.size))
        have HS := Lib.hid (S1.out.below hbw S1.out.lt)
        clear hown hbw
        have s1 : wr.cell? ⟨w.heap.size, 1, none⟩ = some (.slice B ps.length cb) := Blk.cell HS.out 1
        by_cases hlt : k < ps.length
        · obtain ⟨x, hx⟩ : ∃ x, ps[k]? = some x := ⟨ps[k], List.getElem?_eq_getElem hlt⟩
          obtain ⟨b, o, hA, hbl, c0, c1, c2, c3, c4, c5, c6, c7, c8, c9, c10, c11, c12, c13, c14⟩ := atP (H.out.below HT.out).p.cells hx
          subst hA
          clear c1 c2 c3 c4 c5 c6 c7 c8 c9 c10 c11 c12 c13 c14
          have Hsn : Hid (ps.take (k + 1) = ps.take k ++ [x]) := Lib.hid (by rw [List.take_add_one, hx]; rfl)
          have k0 : (0 : Int) ≤ (k : Int) := by omega
          have k1 : (k : Int) < (ps.length : Int) := by omega
          have hsz := HW.out.size
          clear hx
          go_wp2_with (at_builtin; refine wpList_append_own _ rfl _ _ 143 rfl W1.heap.size 9 is (.string ⟨#[]⟩) 1 16 Tryz.underlying143 his hzs0 hzs1 hzs2 rfl (by decide) _ _ _ rfl (HO.out.alloc _) ⟨wr.heap.size, 0, none⟩ 1 1 [strV x.name] rfl rfl ?c1 ?c2 ?c3 ?c4 ?c5 ?_)
          case c1 =>
            intro j u hj
            match j, hj with
            | 0, hj => simp at hj; subst hj; first | (simp [Addr.add, go_sem]; done) | exact Blk.cell (Blk.new _ _ _) 0
          case c2 => first | rfl | (intro u hu; simp at hu; rcases hu with rfl <;> rfl) | (intro u hu; simp at hu; subst hu; rfl)
          case c3 => unfold maxLen; omega
          case c4 => omega
          case c5 => simp; omega
          intro v' w2 hown' hgrow' _
          have Hown2 := Lib.hid hown'
          have Hbw2 := Lib.hid ((HW.out.alloc HW.out.size (.cells #[strV x.name] 9)).grown hgrow' (by simp; omega) (fun j hj => La.own_ge' HO.out hj))
          clear hown' hgrow'
          go_wp2
          go_roundw
          case rel => exact ⟨k + 1, by omega, by go_num, by rw [Hsn.out, List.map_append]; simpa [strC] using Hown2.out, Hbw2.out⟩
          case measure => simp [intOf]; omega
        · obtain rfl : k = ps.length := by omega
          obtain ⟨A2, c2, rfl, _⟩ := La.own_slice HO.out
          have O2 : Hid (StrsAt wr (A2) (ps.map (·.name))) := Lib.hid (by have q := La.own_slat HO.out; rwa [List.take_length] at q)
          have HWk := HW
          have B2 := HT
          have S2 := HS
          clear HO HW HT HS hlt hk
          have O12 := Lib.hid (show StrsAt wr A1 (ns.map (·.name)) from La.SlAt.below O1.out HWk.out)
          obtain ⟨W2, hW2⟩ : ∃ W2 : World, W2 = wr := ⟨_, rfl⟩
          rw [← hW2] at O12 O2 B2 S2 s1 ⊢
          clear hW2
          go_wp2_with fail
          clear s1
          go_loopw [10, 7] (fun i v wr => ∃ k : Nat, k ≤ os.length ∧ i = .int .i64 k ∧ wr.ownsRow W2.heap.size 9 1 v k (strC ((os.take k).map (·.name))) ∧ Below W2.heap.size W2 wr) (fun i _ _ => os.length - (intOf i).toNat)
          case atStart => exact ⟨0, by omega, rfl, by simpa [strC] using World.ownsRow_nil W2 W2.heap.size 9 1, Below.refl _ _⟩
          case round =>
            obtain ⟨k, hk, rfl, hown, hbw⟩ := hrel
            have HO := Lib.hid hown
            have HW := Lib.hid hbw
            have HT := Lib.hid (B2.out.trans (hbw.mono B2.out.size))
            have HS := Lib.hid (S2.out.below hbw S2.out.lt)
            clear hown hbw
            have s2 : wr.cell? ⟨w.heap.size, 2, none⟩ = some (.slice C os.length cc) := Blk.cell HS.out 2
            by_cases hlt : k < os.length
            · obtain ⟨x, hx⟩ : ∃ x, os[k]? = some x := ⟨os[k], List.getElem?_eq_getElem hlt⟩
              obtain ⟨b, o, hA, hbl, c0, c1, c2, c3, c4⟩ := atO (H.out.below HT.out).o hx
              subst hA
              clear c1 c2 c3 c4
              have Hsn : Hid (os.take (k + 1) = os.take k ++ [x]) := Lib.hid (by rw [List.take_add_one, hx]; rfl)
              have k0 : (0 : Int) ≤ (k : Int) := by omega
              have k1 : (k : Int) < (os.length : Int) := by omega
              have hsz := HW.out.size
              clear hx
              go_wp2_with (at_builtin; refine wpList_append_own _ rfl _ _ 143 rfl W2.heap.size 9 is (.string ⟨#[]⟩) 1 16 Tryz.underlying143 his hzs0 hzs1 hzs2 rfl (by decide) _ _ _ rfl (HO.out.alloc _) ⟨wr.heap.size, 0, none⟩ 1 1 [strV x.name] rfl rfl ?c1 ?c2 ?c3 ?c4 ?c5 ?_)
              case c1 =>
                intro j u hj
                match j, hj with
                | 0, hj => simp at hj; subst hj; first | (simp [Addr.add, go_sem]; done) | exact Blk.cell (Blk.new _ _ _) 0
              case c2 => first | rfl | (intro u hu; simp at hu; rcases hu with rfl <;> rfl) | (intro u hu; simp at hu; subst hu; rfl)
              case c3 => unfold maxLen; omega
              case c4 => omega
              case c5 => simp; omega
              intro v' w2 hown' hgrow' _
              have Hown2 := Lib.hid hown'
              have Hbw2 := Lib.hid ((HW.out.alloc HW.out.size (.cells #[strV x.name] 9)).grown hgrow' (by simp; omega) (fun j hj => La.own_ge' HO.out hj))
              clear hown' hgrow'
              go_wp2
              go_roundw
              case rel => exact ⟨k + 1, by omega, by go_num, by rw [Hsn.out, List.map_append]; simpa [strC] using Hown2.out, Hbw2.out⟩
              case measure => simp [intOf]; omega
            · obtain rfl : k = os.length := by omega
              obtain ⟨A3, c3, rfl, _⟩ := La.own_slice HO.out
              have O3 : Hid (StrsAt wr (A3) (os.map (·.name))) := Lib.hid (by have q := La.own_slat HO.out; rwa [List.take_length] at q)
              have HWk := HW
              have B3 := HT
              have S3 := HS
              clear HO HW HT HS hlt hk
              have O13 := Lib.hid (show StrsAt wr A1 (ns.map (·.name)) from La.SlAt.below O12.out HWk.out)
              have O23 := Lib.hid (show StrsAt wr A2 (ps.map (·.name)) from La.SlAt.below O2.out HWk.out)
              go_wp2
              go_ret3
              exact ⟨A1, c1, A2, c2, A3, c3, rfl, O13.out, O23.out, O3.out, B3.out⟩
end Go.Proofs.YtpdaohkpgconkaaGreat

namespace Go.Proofs.YtpdaohkpgconkaaGreat.Qu
open Go.RowKit

theorem radd_toM (A : Option Addr) (n c : Nat) (l : List Int) (s e0 : Int) (w : World) (hn : l.length = n) (hl : n ≤ 1000) (hr : RowOf w A l) (h : addL l = (s, e0)) :
    Calls Tryz.prog 156 #[.slice A n c] w fun e w' => e = .returned (.tuple #[.int .i64 s, .int .i64 e0]) ∧ w = w' := by
  have k := radd_any A c l w (by unfold maxLen; omega) hr
  rw [h, hn] at k
  exact k
set_option maxRecDepth 100000 in
set_option maxHeartbeats 2000000 in
theorem rplus_anyM (A : Option Addr) (c : Nat) (l : List (Nat → Int)) (w : World) (hl : l.length ≤ 1000) (hr : RowsOf w A l) :
    Calls Tryz.prog 122 #[.slice A l.length c] w fun e w' => e = .returned (.tuple #[.agg #[.int .i64 (eachR (plusF l) 0), .int .i64 (eachR (plusF l) 1), .int .i64 (eachR (plusF l) 2), .int .i64 (eachR (plusF l) 3), .int .i64 (eachR (plusF l) 4)], .int .i64 (firstE (plusF l) 5)]) ∧ Below w.heap.size w w' := by
  have Hr := Lib.hid hr
  clear hr
  obtain ⟨i0, hi0, hz0, hz1, hz2⟩ := info_parts int_info
  go_enter Tryz.func122, Tryz.ntmps122
  go_wp2
  go_loopw [5] (fun i wr => ∃ k : Nat, k ≤ 5 ∧ i = .int .i64 k ∧ (∀ j, j < k → (plusF l j).2 = 0) ∧ RowAt wr w.heap.size (fun _ => 0) ∧ RowAt wr (w.heap.size + 1) (part (plusF l) (fun _ => 0) k) ∧ Below w.heap.size w wr) (fun i _ => 5 - (intOf i).toNat)
  case atStart => exact ⟨0, by omega, rfl, by omega, heap_alloc2_old _ _ _, by rw [part_zero]; exact heap_alloc2_new _ _ _, below2 _ _ _⟩
  case round =>
    obtain ⟨k, hk, rfl, hall, hx, hy, hb⟩ := hrel
    have Hall := Lib.hid hall
    have Hx := Lib.hid hx
    have Hy := Lib.hid hy
    have HB := Lib.hid hb
    clear hall hx hy hb
    by_cases hlt : k < 5
    · have hd5 : decide ((k : Int) < 5) = true := by simp; omega
      go_wp2
      obtain ⟨wo, hwo⟩ : ∃ wo : World, wo = wr := ⟨_, rfl⟩
      have Hwo := Lib.hid hwo
      have HX : Hid (RowAt wo w.heap.size (fun _ => 0)) := by rw [hwo]; exact Hx.out
      have HY : Hid (RowAt wo (w.heap.size + 1) (part (plusF l) (fun _ => 0) k)) := by rw [hwo]; exact Hy.out
      have HBo : Hid (Below w.heap.size w wo) := by rw [hwo]; exact HB.out
      rw [← hwo]
      clear hwo Hwo Hx Hy HB
      go_loopw [6, 7] (fun row i w1 => ∃ m : Nat, m ≤ l.length ∧ i = .int .i64 m ∧ w1.ownsRow wo.heap.size 3 1 row m ((colL (l.take m) k).map (Value.int .i64)) ∧ Below wo.heap.size wo w1) (fun _ i _ => l.length - (intOf i).toNat)
      case atStart => exact ⟨0, by omega, rfl, ⟨by simp [colL], .inl ⟨rfl, rfl⟩⟩, Below.refl _ _⟩
      case round =>
        obtain ⟨m, hm, rfl, hown, hbw⟩ := hrel
        have Hown := Lib.hid hown
        have Hbw := Lib.hid hbw
        clear hown hbw
        have hwz := HBo.out.size
        have hwz2 := Hbw.out.size
        by_cases hlm : m < l.length
        · obtain ⟨b, o, rfl, hbl, hc⟩ := Hr.out m l[m] (List.getElem?_eq_getElem hlm)
          have hc1 : wr.cell? ⟨b, o + m * 5 + k, none⟩ = some (.int .i64 (l[m] k)) := ((Hbw.out.cell (p := ⟨b, o + m * 5 + k, none⟩) (Nat.lt_of_lt_of_le hbl hwz)).trans (HBo.out.cell (p := ⟨b, o + m * 5 + k, none⟩) hbl)).trans (hc k hlt)
          have Hsn := Lib.hid (col_snoc hlm k)
          clear hc
          go_wp2_with (at_builtin; refine wpList_append_own _ rfl _ _ 44 rfl wo.heap.size 3 i0 (.int .i64 0) 1 8 Tryz.underlying44 hi0 hz0 hz1 hz2 rfl (by decide) _ _ _ rfl (Hown.out.alloc _) ⟨wr.heap.size, 0, none⟩ 1 1 [.int .i64 (l[m] k)] rfl rfl ?c1 ?c2 ?c3 ?c4 ?c5 ?_)
          case c1 =>
            intro j u hj
            match j, hj with
            | 0, hj => simp at hj; subst hj; simp [Addr.add]
          case c2 => first | rfl | (intro u hu; simp at hu; subst hu; rfl)
          case c3 => unfold maxLen; omega
          case c4 => omega
          case c5 => simp; omega
          intro v' w2 hown' hgrow' _
          have Hown2 := Lib.hid hown'
          have Hbw2 := Lib.hid ((Hbw.out.alloc Hbw.out.size (.cells #[.int .i64 (l[m] k)] 3)).grown hgrow' (by simp; omega) (fun j hj => own_ge Hown.out hj))
          clear hown' hgrow'
          go_wp2
          go_roundw
          case rel => exact ⟨m + 1, by omega, by go_num, by rw [Hsn.out, List.map_append]; exact Hown2.out, Hbw2.out⟩
          case measure => simp [intOf]; omega
        · obtain rfl : m = l.length := by omega
          have Hall2 := Lib.hid (show l.take l.length = l from List.take_length)
          have hown2 := Hown.out
          rw [Hall2.out] at hown2
          obtain ⟨A2, c2, rfl, hrow⟩ := own_row hown2 (col_len l k)
          have Hrow := Lib.hid hrow
          clear hown2 hrow
          have Hx1 := Lib.hid (HX.out.below Hbw.out HX.out.lt)
          have Hy1 := Lib.hid (HY.out.below Hbw.out HY.out.lt)
          have HB1 := Lib.hid (HBo.out.trans (Hbw.out.mono HBo.out.size))
          rcases ha : plusF l k with ⟨n, e0⟩
          have Ha := Lib.hid ha
          clear ha
          go_wp2_with fail
          refine (radd_toM _ _ _ (colL l k) n e0 _ (col_len l k) hl Hrow.out Ha.out).mono ?_
          rintro e w2 ⟨rfl, rfl⟩
          by_cases he : e0 = 0
          · have heb : (e0 != 0) = false := by simp [he]
            have He := Lib.hid he
            clear he
            have cy := Hy1.out.cell hlt
            have fy := Hy1.out.free k
            go_wp2
            go_roundw
            case rel => exact ⟨k + 1, by omega, by go_num, all_snoc Hall.out (by rw [Ha.out]; exact He.out), Hx1.out.other _ _ (by simp), by rw [part_succ (n := n) (by rw [Ha.out])]; exact Hy1.out.set hlt n, HB1.out.setCell (by simp) _⟩
            case measure => simp [intOf]; omega
          · have heb : (e0 != 0) = true := by simpa using he
            have He := Lib.hid he
            clear he
            go_wp2_with (refine wpList_store_row rfl 32 (.tmp 2) (.tmp 36) rfl w.heap.size #[.int .i64 0, .int .i64 0, .int .i64 0, .int .i64 0, .int .i64 0] rfl rfl 32 _ Hx1.out vec_size (by kernel_rfl) (by kernel_rfl) ?_)
            have h1 : (plusF l k).2 = e0 := by rw [Ha.out]
            have h2 : firstE (plusF l) 5 = e0 := by rw [firstE_at hlt Hall.out (by rw [h1]; exact He.out), h1]
            refine bodyPost_row2 Tryz.results122 w.heap.size _ _ _ _ (.int .i64 e0) ?d1 ?p1 ?s1 (Hx1.out.put (fun _ => 0)) Tryz.underlying32 rfl vec_size ?_
            case d1 => rfl
            case p1 => rfl
            case s1 => rfl
            exact ⟨endRow (x := fun _ => 0) (fun j _ => by unfold eachR; rw [if_pos (by rw [h2]; exact He.out)]) h2.symm, below_setRow HB1.out (Nat.le_refl _) _⟩
    · obtain rfl : k = 5 := by omega
      have H2 := Lib.hid (firstE_none Hall.out)
      go_wp2_with (first | refine wpList_load_row rfl 32 (.tmp 4) rfl (w.heap.size + 1) rfl 32 _ (0, 0) _ Hy.out Tryz.underlying32 rfl vec_size ?_ | refine wpList_store_row rfl 32 (.tmp 2) (.tmp 41) rfl w.heap.size _ rfl rfl 32 _ Hx.out vec_size (by kernel_rfl) (by kernel_rfl) ?_)
      refine bodyPost_row2 Tryz.results122 w.heap.size _ _ _ _ (.int .i64 0) ?d2 ?p2 ?s2 (Hx.out.put (part (plusF l) (fun _ => 0) 5)) Tryz.underlying32 rfl vec_size ?_
      case d2 => rfl
      case p2 => rfl
      case s2 => rfl
      exact ⟨endRow (x := part (plusF l) (fun _ => 0) 5) (fun j hj => by unfold eachR part; rw [if_pos hj, if_neg (by rw [H2.out]; simp)]) H2.out.symm, below_setRow HB.out (Nat.le_refl _) _⟩

end Go.Proofs.YtpdaohkpgconkaaGreat.Qu

namespace Go.Proofs.YtpdaohkpgconkaaGreat
open Go.RowKit

theorem all_take {α : Type} {p : α → Bool} {l : List α} (h : ∀ j x, j < l.length → l[j]? = some x → p x = true) : l.all p = true := by
  rw [List.all_eq_true]
  intro x hx
  obtain ⟨j, hj⟩ := List.mem_iff_getElem?.1 hx
  exact h j x (List.getElem?_eq_some_iff.1 hj).1 hj
theorem all_not {α : Type} {p : α → Bool} {l : List α} {k : Nat} {x : α} (hk : l[k]? = some x) (hx : p x = false) : l.all p = false := by
  rw [List.all_eq_false]
  exact ⟨x, List.mem_of_getElem? hk, by simp [hx]⟩

set_option maxRecDepth 100000 in
set_option maxHeartbeats 8000000 in
theorem shaped_any (A B C : Option Addr) (ca cb cc : Nat) (ns : List NodeD) (ps : List PodD) (os : List OwnD) (w : World) (h : SnapAt w A B C ca cb cc ns ps os) :
    Calls Tryz.prog 121 #[snapV A B C ca cb cc ns ps os] w fun e w' => e = .returned (.bool (clusB ns ps os)) ∧ Below w.heap.size w w' := by
  have H := Lib.hid h
  have B0 : Hid (Below w.heap.size w (w.alloc (.cells (snapC A B C ca cb cc ns ps os) 26))) := Lib.hid (below1 w _)
  have S0 : Hid (Blk (w.alloc (.cells (snapC A B C ca cb cc ns ps os) 26)) w.heap.size (snapC A B C ca cb cc ns ps os) 26) := Lib.hid (Blk.new w _ _)
  have E : Hid (clusB ns ps os = (decide ((ns.length : Int) ≤ 8) && decide ((ps.length : Int) ≤ 24) && decide ((os.length : Int) ≤ 8) && namesB (ns.map (·.name)) && namesB (ps.map (·.name)) && namesB (os.map (·.name)) && ns.all nodeB && ps.all (fun x => podB x && knownB ns os x) && os.all ownB)) := Lib.hid rfl
  have KN := Lib.hid (fun w' (hb : Below w.heap.size w w') => names3_any A B C ca cb cc ns ps os w' (h.below hb))
  have hln := h.ln
  have hlp := h.lp
  have hlo := h.lo
  generalize clusB ns ps os = R at E ⊢
  clear h
  go_enter Tryz.func121, Tryz.ntmps121
  go_upto_region 1 with fail
  generalize (w.alloc (.cells (snapC A B C ca cb cc ns ps os) 26)) = W at B0 S0 ⊢
  have s0 : W.cell? ⟨w.heap.size, 0, none⟩ = some (.slice A ns.length ca) := Blk.cell S0.out 0
  have s1 : W.cell? ⟨w.heap.size, 1, none⟩ = some (.slice B ps.length cb) := Blk.cell S0.out 1
  have s2 : W.cell? ⟨w.heap.size, 2, none⟩ = some (.slice C os.length cc) := Blk.cell S0.out 2
  by_cases qn : (ns.length : Int) ≤ 8
  case neg =>
    have HE : Hid (R = false) := Lib.hid (by rw [E.out, decide_eq_false qn]; simp)
    have q1 : (8 : Int) < (ns.length : Int) := by omega
    go_wp2
    go_ret
    exact ⟨La.retB HE.out.symm, B0.out⟩
  by_cases qp : (ps.length : Int) ≤ 24
  case neg =>
    have HE : Hid (R = false) := Lib.hid (by rw [E.out, decide_eq_false qp]; simp)
    have q1 : (24 : Int) < (ps.length : Int) := by omega
    go_wp2
    go_ret
    exact ⟨La.retB HE.out.symm, B0.out⟩
  by_cases qo : (os.length : Int) ≤ 8
  case neg =>
    have HE : Hid (R = false) := Lib.hid (by rw [E.out, decide_eq_false qo]; simp)
    have q1 : (8 : Int) < (os.length : Int) := by omega
    go_wp2
    go_ret
    exact ⟨La.retB HE.out.symm, B0.out⟩
  have E1 : Hid (R = (namesB (ns.map (·.name)) && namesB (ps.map (·.name)) && namesB (os.map (·.name)) && ns.all nodeB && ps.all (fun x => podB x && knownB ns os x) && os.all ownB)) := Lib.hid (by rw [E.out, decide_eq_true qn, decide_eq_true qp, decide_eq_true qo]; simp)
  clear E
  go_wp2_with fail
  refine (KN.out _ B0.out).mono ?_
  rintro e w1 ⟨A1, c1, A2, c2, A3, c3, rfl, o1, o2, o3, hb⟩
  have B1 := Lib.hid (B0.out.trans (hb.mono B0.out.size))
  have S1 := Lib.hid (S0.out.below hb S0.out.lt)
  have R1 := Lib.hid (fun w' (hb : Below w1.heap.size w1 w') => by
    have q := rise3_any A1 c1 (ns.map (·.name)) w' (by simpa using H.out.ln) (La.SlAt.below (show La.SlAt w1 A1 (strC (ns.map (·.name))) from o1) hb) (fun y hy => by obtain ⟨x, hx, rfl⟩ := List.mem_map.1 hy; exact (H.out.n.fit x hx).n)
    rwa [List.length_map] at q)
  have R2 := Lib.hid (fun w' (hb : Below w1.heap.size w1 w') => by
    have q := rise3_any A2 c2 (ps.map (·.name)) w' (by simpa using H.out.lp) (La.SlAt.below (show La.SlAt w1 A2 (strC (ps.map (·.name))) from o2) hb) (fun y hy => by obtain ⟨x, hx, rfl⟩ := List.mem_map.1 hy; exact (H.out.p.fit x hx).n.1)
    rwa [List.length_map] at q)
  have R3 := Lib.hid (fun w' (hb : Below w1.heap.size w1 w') => by
    have q := rise3_any A3 c3 (os.map (·.name)) w' (by simpa using H.out.lo) (La.SlAt.below (show La.SlAt w1 A3 (strC (os.map (·.name))) from o3) hb) (fun y hy => by obtain ⟨x, hx, rfl⟩ := List.mem_map.1 hy; exact (H.out.fo x hx).n)
    rwa [List.length_map] at q)
  clear hb o1 o2 o3 s0 s1 s2 B0 S0 KN
  have EA : Hid (∀ u1 u2 u3, R = (namesB (ns.map (·.name)) && namesB (ps.map (·.name)) && namesB (os.map (·.name)) && ns.all nodeB && ps.all (fun x => podB x && knownB ns os x) && os.all ownB) ∧ u1 = u1 ∧ u2 = u2 ∧ (u3 : Nat) = u3) := Lib.hid (fun (_ _ : Nat) _ => ⟨E1.out, rfl, rfl, rfl⟩)
  clear EA
  obtain ⟨u1, hu1⟩ : ∃ u, namesB (ns.map (·.name)) = u := ⟨_, rfl⟩
  obtain ⟨u2, hu2⟩ : ∃ u, namesB (ps.map (·.name)) = u := ⟨_, rfl⟩
  obtain ⟨u3, hu3⟩ : ∃ u, namesB (os.map (·.name)) = u := ⟨_, rfl⟩
  rw [hu1] at E1 R1
  rw [hu2] at E1 R2
  rw [hu3] at E1 R3
  clear hu1 hu2 hu3
  go_wp2_with fail
  refine (R1.out _ (Below.refl _ _)).mono ?_
  rintro e w2 ⟨rfl, hb2⟩
  have D2 := Lib.hid hb2
  clear hb2
  cases u1
  · have HE : Hid (R = false) := Lib.hid (by rw [E1.out]; simp)
    have B2 := Lib.hid (B1.out.trans (D2.out.mono B1.out.size))
    go_wp2
    go_ret
    exact ⟨La.retB HE.out.symm, B2.out⟩
  go_wp2_with fail
  refine (R2.out _ D2.out).mono ?_
  rintro e w3 ⟨rfl, hb3⟩
  have D3 := Lib.hid (D2.out.trans (hb3.mono D2.out.size))
  clear hb3
  cases u2
  · have HE : Hid (R = false) := Lib.hid (by rw [E1.out]; simp)
    have B2 := Lib.hid (B1.out.trans (D3.out.mono B1.out.size))
    go_wp2
    go_ret
    exact ⟨La.retB HE.out.symm, B2.out⟩
  go_wp2_with fail
  refine (R3.out _ D3.out).mono ?_
  rintro e w4 ⟨rfl, hb4⟩
  have D4 := Lib.hid (D3.out.trans (hb4.mono D3.out.size))
  clear hb4
  have B4 := Lib.hid (B1.out.trans (D4.out.mono B1.out.size))
  have S4 := Lib.hid (S1.out.below D4.out S1.out.lt)
  cases u3
  · have HE : Hid (R = false) := Lib.hid (by rw [E1.out]; simp)
    go_wp2
    go_ret
    exact ⟨La.retB HE.out.symm, B4.out⟩
  have E2 : Hid (R = (ns.all nodeB && ps.all (fun x => podB x && knownB ns os x) && os.all ownB)) := Lib.hid (by rw [E1.out]; simp)
  clear E1 R1 R2 R3 D2 D3 D4 B1 S1
  go_wp2_with fail
  go_loopw [6] (fun i wr => ∃ k : Nat, k ≤ ns.length ∧ i = .int .i64 k ∧ (∀ j x, j < k → ns[j]? = some x → nodeB x = true) ∧ Below w.heap.size w wr ∧ Blk wr w.heap.size (snapC A B C ca cb cc ns ps os) 26) (fun i _ => ns.length - (intOf i).toNat)
  case atStart => exact ⟨0, by omega, rfl, fun j x h => by omega, B4.out, S4.out⟩
  case round =>
    clear B4 S4
    obtain ⟨k, hk, rfl, hall, hbw, hsk⟩ := hrel
    have HA := Lib.hid hall
    have HB := Lib.hid hbw
    have HS := Lib.hid hsk
    clear hall hbw hsk
    have s0 : wr.cell? ⟨w.heap.size, 0, none⟩ = some (.slice A ns.length ca) := Blk.cell HS.out 0
    have s1 : wr.cell? ⟨w.heap.size, 1, none⟩ = some (.slice B ps.length cb) := Blk.cell HS.out 1
    have s2 : wr.cell? ⟨w.heap.size, 2, none⟩ = some (.slice C os.length cc) := Blk.cell HS.out 2
    by_cases hlt : k < ns.length
    · obtain ⟨x, hx⟩ : ∃ x, ns[k]? = some x := ⟨ns[k], List.getElem?_eq_getElem hlt⟩
      obtain ⟨b, o, hA, hbl, c0, c1, c2, c3, c4, c5, c6, c7, c8, c9⟩ := atN (H.out.below HB.out).n.cells hx
      subst hA
      have KC := Lib.hid (node3_any x wr ((H.out.below HB.out).n.fit x (List.mem_of_getElem? hx)))
      have HX := Lib.hid hx
      have k0 : (0 : Int) ≤ (k : Int) := by omega
      have k1 : (k : Int) < (ns.length : Int) := by omega
      obtain ⟨r, hr⟩ : ∃ r, nodeB x = r := ⟨_, rfl⟩
      rw [hr] at KC
      have Hr := Lib.hid hr
      clear hx hr
      go_wp2_with fail
      refine (KC.out).mono ?_
      rintro e w3 ⟨rfl, hb3⟩
      have B5 := Lib.hid (HB.out.trans (hb3.mono HB.out.size))
      have S5 := Lib.hid (HS.out.below hb3 HS.out.lt)
      clear hb3
      cases r
      · have HE : Hid (R = false) := Lib.hid (by rw [E2.out, all_not (p := nodeB) HX.out Hr.out]; try simp)
        go_wp2
        go_ret
        exact ⟨La.retB HE.out.symm, B5.out⟩
      · go_wp2_with fail
        go_roundw
        case rel =>
          refine ⟨k + 1, by omega, by go_num, fun j y hj hy => ?_, B5.out, S5.out⟩
          by_cases hjk : j = k
          · subst hjk
            rw [HX.out] at hy
            cases hy
            exact Hr.out
          · exact HA.out j y (by omega) hy
        case measure => simp [intOf]; omega
    · obtain rfl : k = ns.length := by omega
      have HL : Hid (ns.all nodeB = true) := Lib.hid (all_take HA.out)
      have E3 : Hid (R = (ps.all (fun x => podB x && knownB ns os x) && os.all ownB)) := Lib.hid (by rw [E2.out, HL.out, Bool.true_and])
      clear E2 HL HA
      go_wp2_with fail
      clear s0 s1 s2
      go_loopw [7] (fun i wr => ∃ k : Nat, k ≤ ps.length ∧ i = .int .i64 k ∧ (∀ j x, j < k → ps[j]? = some x → (fun x => podB x && knownB ns os x) x = true) ∧ Below w.heap.size w wr ∧ Blk wr w.heap.size (snapC A B C ca cb cc ns ps os) 26) (fun i _ => ps.length - (intOf i).toNat)
      case atStart => exact ⟨0, by omega, rfl, fun j x h => by omega, HB.out, HS.out⟩
      case round =>
        clear HB HS
        obtain ⟨k, hk, rfl, hall, hbw, hsk⟩ := hrel
        have HA := Lib.hid hall
        have HB := Lib.hid hbw
        have HS := Lib.hid hsk
        clear hall hbw hsk
        have s0 : wr.cell? ⟨w.heap.size, 0, none⟩ = some (.slice A ns.length ca) := Blk.cell HS.out 0
        have s1 : wr.cell? ⟨w.heap.size, 1, none⟩ = some (.slice B ps.length cb) := Blk.cell HS.out 1
        have s2 : wr.cell? ⟨w.heap.size, 2, none⟩ = some (.slice C os.length cc) := Blk.cell HS.out 2
        by_cases hlt : k < ps.length
        · obtain ⟨x, hx⟩ : ∃ x, ps[k]? = some x := ⟨ps[k], List.getElem?_eq_getElem hlt⟩
          obtain ⟨b, o, hA, hbl, c0, c1, c2, c3, c4, c5, c6, c7, c8, c9, c10, c11, c12, c13, c14⟩ := atP (H.out.below HB.out).p.cells hx
          subst hA
          have KC := Lib.hid (fun w' (hb : Below w.heap.size w w') => pod3_any A (some ⟨b, o, none⟩) C ca cb cc ns ps os x w' (H.out.below hb) ((H.out.below hb).p.fit x (List.mem_of_getElem? hx)))
          have HX := Lib.hid hx
          have k0 : (0 : Int) ≤ (k : Int) := by omega
          have k1 : (k : Int) < (ps.length : Int) := by omega
          obtain ⟨r, hr⟩ : ∃ r, (fun x => podB x && knownB ns os x) x = r := ⟨_, rfl⟩
          have hr' : (podB x && knownB ns os x) = r := hr
          rw [hr'] at KC
          have Hr := Lib.hid hr
          clear hx hr hr'
          have hw0 := Blk.lt HS.out
          have Hbl := Lib.hid hbl
          have Hw0 := Lib.hid hw0
          have BD := Lib.hid (HB.out.drew)
          have KD := Lib.hid (KC.out _ BD.out)
          clear hbl hw0 BD
          go_wp2_with fail
          go_region_held3 (fun w' => w'.cell? ⟨w.heap.size, 0, none⟩ = some (.slice A ns.length ca) ∧ w'.cell? ⟨w.heap.size, 1, none⟩ = some (.slice (some ⟨b, o, none⟩) ps.length cb) ∧ w'.cell? ⟨w.heap.size, 2, none⟩ = some (.slice C os.length cc) ∧ w'.cell? ⟨b, o + k * 15, none⟩ = some (strV x.name) ∧ w'.cell? ⟨b, o + k * 15 + 1, none⟩ = some (strV x.owner) ∧ w'.cell? ⟨b, o + k * 15 + 2, none⟩ = some (.int .i64 (x.req 0)) ∧ w'.cell? ⟨b, o + k * 15 + 3, none⟩ = some (.int .i64 (x.req 1)) ∧ w'.cell? ⟨b, o + k * 15 + 4, none⟩ = some (.int .i64 (x.req 2)) ∧ w'.cell? ⟨b, o + k * 15 + 5, none⟩ = some (.int .i64 (x.req 3)) ∧ w'.cell? ⟨b, o + k * 15 + 6, none⟩ = some (.int .i64 (x.req 4)) ∧ w'.cell? ⟨b, o + k * 15 + 7, none⟩ = some (.slice x.al x.labels.length x.cl) ∧ w'.cell? ⟨b, o + k * 15 + 8, none⟩ = some (.slice x.aw x.whr.length x.cw) ∧ w'.cell? ⟨b, o + k * 15 + 9, none⟩ = some (.slice x.ab x.bears.length x.cb) ∧ w'.cell? ⟨b, o + k * 15 + 10, none⟩ = some (strV x.wt) ∧ w'.cell? ⟨b, o + k * 15 + 11, none⟩ = some (.slice x.awt x.wtm.length x.cwt) ∧ w'.cell? ⟨b, o + k * 15 + 12, none⟩ = some (strV x.ap) ∧ w'.cell? ⟨b, o + k * 15 + 13, none⟩ = some (.slice x.aap x.apm.length x.cap) ∧ w'.cell? ⟨b, o + k * 15 + 14, none⟩ = some (strV x.on)) (first | exact ⟨s0, s1, s2, c0, c1, c2, c3, c4, c5, c6, c7, c8, c9, c10, c11, c12, c13, c14⟩ | exact ⟨ps0, ps1, ps2, pc0, pc1, pc2, pc3, pc4, pc5, pc6, pc7, pc8, pc9, pc10, pc11, pc12, pc13, pc14⟩)
            (first | ((with_reducible refine (KD.out).mono ?_); rintro e w3 ⟨rfl, hb3⟩; have ps0 := (hb3.cell (p := ⟨w.heap.size, 0, none⟩) (Hw0.out)).trans s0; have ps1 := (hb3.cell (p := ⟨w.heap.size, 1, none⟩) (Hw0.out)).trans s1; have ps2 := (hb3.cell (p := ⟨w.heap.size, 2, none⟩) (Hw0.out)).trans s2; have pc0 := (hb3.cell (p := ⟨b, o + k * 15, none⟩) (Hbl.out)).trans c0; have pc1 := (hb3.cell (p := ⟨b, o + k * 15 + 1, none⟩) (Hbl.out)).trans c1; have pc2 := (hb3.cell (p := ⟨b, o + k * 15 + 2, none⟩) (Hbl.out)).trans c2; have pc3 := (hb3.cell (p := ⟨b, o + k * 15 + 3, none⟩) (Hbl.out)).trans c3; have pc4 := (hb3.cell (p := ⟨b, o + k * 15 + 4, none⟩) (Hbl.out)).trans c4; have pc5 := (hb3.cell (p := ⟨b, o + k * 15 + 5, none⟩) (Hbl.out)).trans c5; have pc6 := (hb3.cell (p := ⟨b, o + k * 15 + 6, none⟩) (Hbl.out)).trans c6; have pc7 := (hb3.cell (p := ⟨b, o + k * 15 + 7, none⟩) (Hbl.out)).trans c7; have pc8 := (hb3.cell (p := ⟨b, o + k * 15 + 8, none⟩) (Hbl.out)).trans c8; have pc9 := (hb3.cell (p := ⟨b, o + k * 15 + 9, none⟩) (Hbl.out)).trans c9; have pc10 := (hb3.cell (p := ⟨b, o + k * 15 + 10, none⟩) (Hbl.out)).trans c10; have pc11 := (hb3.cell (p := ⟨b, o + k * 15 + 11, none⟩) (Hbl.out)).trans c11; have pc12 := (hb3.cell (p := ⟨b, o + k * 15 + 12, none⟩) (Hbl.out)).trans c12; have pc13 := (hb3.cell (p := ⟨b, o + k * 15 + 13, none⟩) (Hbl.out)).trans c13; have pc14 := (hb3.cell (p := ⟨b, o + k * 15 + 14, none⟩) (Hbl.out)).trans c14; have HB3 := Lib.hid hb3; clear hb3))
          have B5 := Lib.hid (La.below_of HB.out HB3.out)
          have S5 := Lib.hid (La.blk_of HS.out HB3.out)
          cases r
          · have HE : Hid (R = false) := Lib.hid (by rw [E3.out, all_not (p := (fun x => podB x && knownB ns os x)) HX.out Hr.out]; try simp)
            go_wp2
            go_ret
            exact ⟨La.retB HE.out.symm, B5.out⟩
          · go_wp2_with fail
            go_roundw
            case rel =>
              refine ⟨k + 1, by omega, by go_num, fun j y hj hy => ?_, B5.out, S5.out⟩
              by_cases hjk : j = k
              · subst hjk
                rw [HX.out] at hy
                cases hy
                exact Hr.out
              · exact HA.out j y (by omega) hy
            case measure => simp [intOf]; omega
        · obtain rfl : k = ps.length := by omega
          have HL : Hid (ps.all (fun x => podB x && knownB ns os x) = true) := Lib.hid (all_take HA.out)
          have E4 : Hid (R = os.all ownB) := Lib.hid (by rw [E3.out, HL.out, Bool.true_and])
          clear E3 HL HA
          go_wp2_with fail
          clear s0 s1 s2
          go_loopw [8] (fun i wr => ∃ k : Nat, k ≤ os.length ∧ i = .int .i64 k ∧ (∀ j x, j < k → os[j]? = some x → ownB x = true) ∧ Below w.heap.size w wr ∧ Blk wr w.heap.size (snapC A B C ca cb cc ns ps os) 26) (fun i _ => os.length - (intOf i).toNat)
          case atStart => exact ⟨0, by omega, rfl, fun j x h => by omega, HB.out, HS.out⟩
          case round =>
            clear HB HS
            obtain ⟨k, hk, rfl, hall, hbw, hsk⟩ := hrel
            have HA := Lib.hid hall
            have HB := Lib.hid hbw
            have HS := Lib.hid hsk
            clear hall hbw hsk
            have s0 : wr.cell? ⟨w.heap.size, 0, none⟩ = some (.slice A ns.length ca) := Blk.cell HS.out 0
            have s1 : wr.cell? ⟨w.heap.size, 1, none⟩ = some (.slice B ps.length cb) := Blk.cell HS.out 1
            have s2 : wr.cell? ⟨w.heap.size, 2, none⟩ = some (.slice C os.length cc) := Blk.cell HS.out 2
            by_cases hlt : k < os.length
            · obtain ⟨x, hx⟩ : ∃ x, os[k]? = some x := ⟨os[k], List.getElem?_eq_getElem hlt⟩
              obtain ⟨b, o, hA, hbl, c0, c1, c2, c3, c4⟩ := atO (H.out.below HB.out).o hx
              subst hA
              have KC := Lib.hid (owner3_any x wr (H.out.fo x (List.mem_of_getElem? hx)))
              have HX := Lib.hid hx
              have k0 : (0 : Int) ≤ (k : Int) := by omega
              have k1 : (k : Int) < (os.length : Int) := by omega
              obtain ⟨r, hr⟩ : ∃ r, ownB x = r := ⟨_, rfl⟩
              rw [hr] at KC
              have Hr := Lib.hid hr
              clear hx hr
              go_wp2_with fail
              refine (KC.out).mono ?_
              rintro e w3 ⟨rfl, hb3⟩
              have B5 := Lib.hid (HB.out.trans (hb3.mono HB.out.size))
              have S5 := Lib.hid (HS.out.below hb3 HS.out.lt)
              clear hb3
              cases r
              · have HE : Hid (R = false) := Lib.hid (by rw [E4.out, all_not (p := ownB) HX.out Hr.out]; try simp)
                go_wp2
                go_ret
                exact ⟨La.retB HE.out.symm, B5.out⟩
              · go_wp2_with fail
                go_roundw
                case rel =>
                  refine ⟨k + 1, by omega, by go_num, fun j y hj hy => ?_, B5.out, S5.out⟩
                  by_cases hjk : j = k
                  · subst hjk
                    rw [HX.out] at hy
                    cases hy
                    exact Hr.out
                  · exact HA.out j y (by omega) hy
                case measure => simp [intOf]; omega
            · obtain rfl : k = os.length := by omega
              have HL : Hid (os.all ownB = true) := Lib.hid (all_take HA.out)
              have HE : Hid (R = true) := Lib.hid (by rw [E4.out, HL.out])
              go_wp2
              go_ret
              exact ⟨La.retB HE.out.symm, HB.out⟩
end Go.Proofs.YtpdaohkpgconkaaGreat

namespace Go.Proofs.YtpdaohkpgconkaaGreat
open Go.RowKit

set_option maxRecDepth 100000 in
set_option maxHeartbeats 8000000 in
theorem check5_any (A B C : Option Addr) (ca cb cc : Nat) (ns : List NodeD) (ps : List PodD) (os : List OwnD) (w : World) (h : SnapAt w A B C ca cb cc ns ps os) :
    Calls Tryz.prog 86 #[snapV A B C ca cb cc ns ps os] w fun e w' => e = .returned (.int .i64 (checkS ns ps os)) ∧ Below w.heap.size w w' := by
  have H := Lib.hid h
  have B0 : Hid (Below w.heap.size w (w.alloc (.cells (snapC A B C ca cb cc ns ps os) 26))) := Lib.hid (below1 w _)
  have S0 : Hid (Blk (w.alloc (.cells (snapC A B C ca cb cc ns ps os) 26)) w.heap.size (snapC A B C ca cb cc ns ps os) 26) := Lib.hid (Blk.new w _ _)
  have E : Hid (checkS ns ps os = if clusB ns ps os then (if decide (Qu.firstE (Qu.plusF (ns.map (·.cap))) 5 = 0) && decide (Qu.firstE (Qu.plusF (ps.map (·.req))) 5 = 0) then 0 else 10) else 50) := Lib.hid rfl
  have KS := Lib.hid (shaped_any A B C ca cb cc ns ps os _ (h.below B0.out))
  have hln := h.ln
  have hlp := h.lp
  obtain ⟨iv, hiv, hzv0, hzv1, hzv2⟩ := info_parts vec_info
  generalize checkS ns ps os = R at E ⊢
  generalize clusB ns ps os = v0 at KS E
  clear h
  go_enter Tryz.func86, Tryz.ntmps86
  go_wp2_with fail
  refine (KS.out).mono ?_
  rintro e W ⟨rfl, hb⟩
  have S1 := Lib.hid (S0.out.below hb S0.out.lt)
  have B1 := Lib.hid (B0.out.trans (hb.mono B0.out.size))
  clear hb KS S0 B0
  cases v0
  · have HE : Hid (R = 50) := Lib.hid (by rw [E.out]; rfl)
    go_wp2
    go_ret
    exact ⟨La.retI HE.out.symm, B1.out⟩
  go_wp2_with fail
  go_loopw [5, 3] (fun i v wr => ∃ k : Nat, k ≤ ns.length ∧ i = .int .i64 k ∧ wr.ownsRow W.heap.size 32 5 v k ((ns.take k).flatMap fun x => rowC x.cap) ∧ Below W.heap.size W wr) (fun i _ _ => ns.length - (intOf i).toNat)
  case atStart => exact ⟨0, by omega, rfl, by simpa [strC] using World.ownsRow_nil W W.heap.size 32 5, Below.refl _ _⟩
  case round =>
    obtain ⟨k, hk, rfl, hown, hbw⟩ := hrel
    have HO := Lib.hid hown
    have HW := Lib.hid hbw
    have HT := Lib.hid (B1.out.trans (hbw.mono B1.out.size))
    have HS := Lib.hid (S1.out.below hbw S1.out.lt)
    clear hown hbw
    have s0 : wr.cell? ⟨w.heap.size, 0, none⟩ = some (.slice A ns.length ca) := Blk.cell HS.out 0
    by_cases hlt : k < ns.length
    · obtain ⟨x, hx⟩ : ∃ x, ns[k]? = some x := ⟨ns[k], List.getElem?_eq_getElem hlt⟩
      obtain ⟨b, o, hA, hbl, c0, c1, c2, c3, c4, c5, c6, c7, c8, c9⟩ := atN (H.out.below HT.out).n.cells hx
      subst hA
      clear c0 c6 c7 c8 c9
      have Hsn : Hid (ns.take (k + 1) = ns.take k ++ [x]) := Lib.hid (by rw [List.take_add_one, hx]; rfl)
      have k0 : (0 : Int) ≤ (k : Int) := by omega
      have k1 : (k : Int) < (ns.length : Int) := by omega
      have hsz := HW.out.size
      clear hx
      go_wp2_with (at_builtin; refine wpList_append_own _ rfl _ _ 124 rfl W.heap.size 32 iv (.agg #[.int .i64 0, .int .i64 0, .int .i64 0, .int .i64 0, .int .i64 0]) 5 40 Tryz.underlying124 hiv hzv0 hzv1 hzv2 rfl (by decide) _ _ _ rfl (HO.out.alloc _) ⟨wr.heap.size, 0, none⟩ 1 1 [.int .i64 (x.cap 0), .int .i64 (x.cap 1), .int .i64 (x.cap 2), .int .i64 (x.cap 3), .int .i64 (x.cap 4)] rfl rfl ?c1 ?c2 ?c3 ?c4 ?c5 ?_)
      case c1 =>
        intro j u hj
        match j, hj with
        | 0, hj => simp at hj; subst hj; first | (simp [Addr.add, go_sem]; done) | exact Blk.cell (Blk.new _ _ _) 0
        | 1, hj => simp at hj; subst hj; first | (simp [Addr.add, go_sem]; done) | exact Blk.cell (Blk.new _ _ _) 1
        | 2, hj => simp at hj; subst hj; first | (simp [Addr.add, go_sem]; done) | exact Blk.cell (Blk.new _ _ _) 2
        | 3, hj => simp at hj; subst hj; first | (simp [Addr.add, go_sem]; done) | exact Blk.cell (Blk.new _ _ _) 3
        | 4, hj => simp at hj; subst hj; first | (simp [Addr.add, go_sem]; done) | exact Blk.cell (Blk.new _ _ _) 4
      case c2 => first | rfl | (intro u hu; simp at hu; rcases hu with rfl | rfl | rfl | rfl | rfl <;> rfl) | (intro u hu; simp at hu; subst hu; rfl)
      case c3 => unfold maxLen; omega
      case c4 => omega
      case c5 => simp; omega
      intro v' w2 hown' hgrow' _
      have Hown2 := Lib.hid hown'
      have Hbw2 := Lib.hid ((HW.out.alloc HW.out.size (.cells #[.int .i64 (x.cap 0), .int .i64 (x.cap 1), .int .i64 (x.cap 2), .int .i64 (x.cap 3), .int .i64 (x.cap 4)] 32)).grown hgrow' (by simp; omega) (fun j hj => La.own_ge' HO.out hj))
      clear hown' hgrow'
      go_wp2
      go_roundw
      case rel => exact ⟨k + 1, by omega, by go_num, by rw [Hsn.out, List.flatMap_append]; simpa using Hown2.out, Hbw2.out⟩
      case measure => simp [intOf]; omega
    · obtain rfl : k = ns.length := by omega
      obtain ⟨A1, c1, rfl, _⟩ := La.own_slice HO.out
      have R1 := Lib.hid (show Qu.RowsOf wr A1 (ns.map (·.cap)) from rowsOf (·.cap) ns (by have q := HO.out; rwa [List.take_length] at q))
      have B2 := HT
      have S2 := HS
      clear HO HW HT HS hlt hk
      obtain ⟨W1, hW1⟩ : ∃ W1 : World, W1 = wr := ⟨_, rfl⟩
      rw [← hW1] at R1 B2 S2 s0 ⊢
      clear hW1
      have s1 : W1.cell? ⟨w.heap.size, 1, none⟩ = some (.slice B ps.length cb) := Blk.cell S2.out 1
      go_wp2_with fail
      clear s0 s1
      go_loopw [6, 4] (fun i v wr => ∃ k : Nat, k ≤ ps.length ∧ i = .int .i64 k ∧ wr.ownsRow W1.heap.size 32 5 v k ((ps.take k).flatMap fun x => rowC x.req) ∧ Below W1.heap.size W1 wr) (fun i _ _ => ps.length - (intOf i).toNat)
      case atStart => exact ⟨0, by omega, rfl, by simpa [strC] using World.ownsRow_nil W1 W1.heap.size 32 5, Below.refl _ _⟩
      case round =>
        obtain ⟨k, hk, rfl, hown, hbw⟩ := hrel
        have HO := Lib.hid hown
        have HW := Lib.hid hbw
        have HT := Lib.hid (B2.out.trans (hbw.mono B2.out.size))
        have HS := Lib.hid (S2.out.below hbw S2.out.lt)
        clear hown hbw
        have s1 : wr.cell? ⟨w.heap.size, 1, none⟩ = some (.slice B ps.length cb) := Blk.cell HS.out 1
        by_cases hlt : k < ps.length
        · obtain ⟨x, hx⟩ : ∃ x, ps[k]? = some x := ⟨ps[k], List.getElem?_eq_getElem hlt⟩
          obtain ⟨b, o, hA, hbl, c0, c1, c2, c3, c4, c5, c6, c7, c8, c9, c10, c11, c12, c13, c14⟩ := atP (H.out.below HT.out).p.cells hx
          subst hA
          clear c0 c1 c7 c8 c9 c10 c11 c12 c13 c14
          have Hsn : Hid (ps.take (k + 1) = ps.take k ++ [x]) := Lib.hid (by rw [List.take_add_one, hx]; rfl)
          have k0 : (0 : Int) ≤ (k : Int) := by omega
          have k1 : (k : Int) < (ps.length : Int) := by omega
          have hsz := HW.out.size
          clear hx
          go_wp2_with (at_builtin; refine wpList_append_own _ rfl _ _ 124 rfl W1.heap.size 32 iv (.agg #[.int .i64 0, .int .i64 0, .int .i64 0, .int .i64 0, .int .i64 0]) 5 40 Tryz.underlying124 hiv hzv0 hzv1 hzv2 rfl (by decide) _ _ _ rfl (HO.out.alloc _) ⟨wr.heap.size, 0, none⟩ 1 1 [.int .i64 (x.req 0), .int .i64 (x.req 1), .int .i64 (x.req 2), .int .i64 (x.req 3), .int .i64 (x.req 4)] rfl rfl ?c1 ?c2 ?c3 ?c4 ?c5 ?_)
          case c1 =>
            intro j u hj
            match j, hj with
            | 0, hj => simp at hj; subst hj; first | (simp [Addr.add, go_sem]; done) | exact Blk.cell (Blk.new _ _ _) 0
            | 1, hj => simp at hj; subst hj; first | (simp [Addr.add, go_sem]; done) | exact Blk.cell (Blk.new _ _ _) 1
            | 2, hj => simp at hj; subst hj; first | (simp [Addr.add, go_sem]; done) | exact Blk.cell (Blk.new _ _ _) 2
            | 3, hj => simp at hj; subst hj; first | (simp [Addr.add, go_sem]; done) | exact Blk.cell (Blk.new _ _ _) 3
            | 4, hj => simp at hj; subst hj; first | (simp [Addr.add, go_sem]; done) | exact Blk.cell (Blk.new _ _ _) 4
          case c2 => first | rfl | (intro u hu; simp at hu; rcases hu with rfl | rfl | rfl | rfl | rfl <;> rfl) | (intro u hu; simp at hu; subst hu; rfl)
          case c3 => unfold maxLen; omega
          case c4 => omega
          case c5 => simp; omega
          intro v' w2 hown' hgrow' _
          have Hown2 := Lib.hid hown'
          have Hbw2 := Lib.hid ((HW.out.alloc HW.out.size (.cells #[.int .i64 (x.req 0), .int .i64 (x.req 1), .int .i64 (x.req 2), .int .i64 (x.req 3), .int .i64 (x.req 4)] 32)).grown hgrow' (by simp; omega) (fun j hj => La.own_ge' HO.out hj))
          clear hown' hgrow'
          go_wp2
          go_roundw
          case rel => exact ⟨k + 1, by omega, by go_num, by rw [Hsn.out, List.flatMap_append]; simpa using Hown2.out, Hbw2.out⟩
          case measure => simp [intOf]; omega
        · obtain rfl : k = ps.length := by omega
          obtain ⟨A2, c2, rfl, _⟩ := La.own_slice HO.out
          have R2 := Lib.hid (show Qu.RowsOf wr A2 (ps.map (·.req)) from rowsOf (·.req) ps (by have q := HO.out; rwa [List.take_length] at q))
          have K1 := Lib.hid (by
            have q := Qu.rplus_anyM A1 c1 (ns.map (·.cap)) wr (by simpa using hln) (R1.out.below HW.out (Nat.le_refl _))
            rwa [List.length_map] at q)
          have K2 := Lib.hid (fun w' (hb : Below wr.heap.size wr w') => by
            have q := Qu.rplus_anyM A2 c2 (ps.map (·.req)) w' (by simpa using hlp) (R2.out.below hb (Nat.le_refl _))
            rwa [List.length_map] at q)
          have HTk := HT
          clear HO HW HT HS hlt hk R1 R2 B2 S2
          generalize Qu.firstE (Qu.plusF (ns.map (·.cap))) 5 = e1 at K1 E
          generalize Qu.firstE (Qu.plusF (ps.map (·.req))) 5 = e2 at K2 E
          generalize Qu.eachR (Qu.plusF (ns.map (·.cap))) = r1 at K1
          generalize Qu.eachR (Qu.plusF (ps.map (·.req))) = r2 at K2
          go_wp2_with fail
          refine (K1.out).mono ?_
          rintro e w3 ⟨rfl, hb3⟩
          have D3 := Lib.hid (hb3.alloc hb3.size (.cells #[.int .i64 (r1 0), .int .i64 (r1 1), .int .i64 (r1 2), .int .i64 (r1 3), .int .i64 (r1 4)] 32))
          clear hb3 K1 s1
          go_wp2_with fail
          refine (K2.out _ D3.out).mono ?_
          rintro e w4 ⟨rfl, hb4⟩
          have D4 := Lib.hid ((D3.out.trans (hb4.mono D3.out.size)).alloc (D3.out.trans (hb4.mono D3.out.size)).size (.cells #[.int .i64 (r2 0), .int .i64 (r2 1), .int .i64 (r2 2), .int .i64 (r2 3), .int .i64 (r2 4)] 32))
          have B4 := Lib.hid (HTk.out.trans (D4.out.mono HTk.out.size))
          clear hb4 K2 D3 D4
          by_cases h1 : e1 = 0
          · by_cases h2 : e2 = 0
            · have HE : Hid (R = 0) := Lib.hid (by rw [E.out, h1, h2]; rfl)
              subst h1
              subst h2
              go_wp2
              go_ret
              exact ⟨La.retI HE.out.symm, B4.out⟩
            · have HE : Hid (R = 10) := Lib.hid (by rw [E.out, decide_eq_false h2]; simp)
              subst h1
              have hb2 : (e2 != 0) = true := by simpa using h2
              go_wp2
              go_ret
              exact ⟨La.retI HE.out.symm, B4.out⟩
          · have HE : Hid (R = 10) := Lib.hid (by rw [E.out, decide_eq_false h1]; simp)
            have hb1 : (e1 != 0) = true := by simpa using h1
            go_wp2
            go_ret
            exact ⟨La.retI HE.out.symm, B4.out⟩
end Go.Proofs.YtpdaohkpgconkaaGreat

namespace Go.Proofs.YtpdaohkpgconkaaGreat
open Go.RowKit

set_option maxRecDepth 100000 in
set_option maxHeartbeats 2000000 in
theorem eqInts_anyL (A B : Option Addr) (ca cb : Nat) (l m : List Int) (w : World) (hl : l.length ≤ 9223372036854775807) (ha : IntsAt w A ca l) (hb : IntsAt w B cb m) :
    Calls Tryz.prog 28 #[.slice A l.length ca, .slice B m.length cb] w fun e w' => e = .returned (.bool (decide (l = m))) ∧ Below w.heap.size w w' := by
  by_cases hn : l.length = m.length
  case neg =>
    have hni : ¬ (l.length : Int) = (m.length : Int) := by omega
    have hnb : ((l.length : Int) != (m.length : Int)) = true := by simpa using hni
    have hne : decide (l = m) = false := decide_eq_false (fun e => hn (by rw [e]))
    rw [hne]
    clear ha hb
    go_enter Tryz.func28, Tryz.ntmps28
    go_wp2
    go_ret
    exact ⟨rfl, Below.refl _ _⟩
  have hni : (l.length : Int) = (m.length : Int) := by omega
  have hnb : ((l.length : Int) != (m.length : Int)) = false := by simpa using hni
  have HA := Lib.hid ha
  have HB := Lib.hid hb
  clear ha hb
  obtain ⟨R, hR⟩ : ∃ R, decide (l = m) = R := ⟨_, rfl⟩
  have HR := Lib.hid hR
  rw [hR]
  clear hR
  go_enter Tryz.func28, Tryz.ntmps28
  go_wp2_with fail
  go_loopw [5] (fun i wr => ∃ k : Nat, k ≤ l.length ∧ i = .int .i64 k ∧ (∀ j, j < k → l[j]? = m[j]?) ∧ Below w.heap.size w wr) (fun i _ => l.length - (intOf i).toNat)
  case atStart => exact ⟨0, by omega, rfl, fun j h => by omega, Below.refl _ _⟩
  case round =>
    obtain ⟨k, hk, rfl, hnk, hbw⟩ := hrel
    have HN := Lib.hid hnk
    have HW := Lib.hid hbw
    clear hnk hbw
    by_cases hlt : k < l.length
    · obtain ⟨x, hx⟩ : ∃ x, l[k]? = some x := ⟨l[k], List.getElem?_eq_getElem hlt⟩
      obtain ⟨y, hy⟩ : ∃ y, m[k]? = some y := ⟨m[k]'(by omega), List.getElem?_eq_getElem (by omega)⟩
      obtain ⟨b1, o1, hA1, hbl1, c1⟩ := atI (HA.out.below HW.out).cells hx
      obtain ⟨b2, o2, hA2, hbl2, c2⟩ := atI (HB.out.below HW.out).cells hy
      subst hA1 hA2
      have HX := Lib.hid hx
      have HY := Lib.hid hy
      have k0 : (0 : Int) ≤ (k : Int) := by omega
      have k1 : (k : Int) < (l.length : Int) := by omega
      have k2 : (k : Int) < (m.length : Int) := by omega
      clear hx hy
      by_cases hxy : x = y
      · subst hxy
        have hxb : (x != x) = false := by simp
        go_wp2_with fail
        go_region
        go_wp2
        go_roundw
        case rel =>
          refine ⟨k + 1, by omega, by go_num, fun j hj => ?_, by first | exact HW.out | exact HW.out.drew | exact La.belowN HW.out _⟩
          by_cases hjk : j = k
          · subst hjk
            rw [HX.out, HY.out]
          · exact HN.out j (by omega)
        case measure => simp [intOf]; omega
      · have hxb : (x != y) = true := by simpa using hxy
        have HE : Hid (false = R) := Lib.hid (by
          rw [← HR.out]
          symm
          refine decide_eq_false (fun e => hxy ?_)
          have h1 := HX.out
          rw [e, HY.out] at h1
          exact (Option.some.inj h1).symm)
        go_wp2_with fail
        go_region
        go_wp2
        go_ret
        exact ⟨La.retB HE.out, by first | exact HW.out | exact HW.out.drew | exact La.belowN HW.out _⟩
    · obtain rfl : k = l.length := by omega
      have HE : Hid (true = R) := Lib.hid (by
        rw [← HR.out]
        symm
        refine decide_eq_true (List.ext_getElem? fun j => ?_)
        by_cases hj : j < l.length
        · exact HN.out j hj
        · rw [List.getElem?_eq_none (by omega), List.getElem?_eq_none (by omega)])
      go_wp2
      go_ret
      exact ⟨La.retB HE.out, HW.out⟩

/-- Numbers that can be copied. -/
structure NumsIn (w : World) (P : Option Addr) (cp : Nat) (l : List Int) : Prop where
  ints : IntsAt w P cp l
  nil : P = none → cp = 0
  few : l.length * 8 ≤ 140737488355328
theorem NumsIn.below {w w' : World} {P : Option Addr} {cp : Nat} {l : List Int} (h : NumsIn w P cp l) (hb : Below w.heap.size w w') : NumsIn w' P cp l := ⟨h.ints.below hb, h.nil, h.few⟩
theorem NumsIn.own {w : World} {base : Nat} {A : Option Addr} {c : Nat} {l : List Int} (h : w.ownsRow base 3 1 (.slice A l.length c) l.length (intsC l)) (hl : l.length * 8 ≤ 140737488355328) : NumsIn w A c l := by
  refine ⟨IntsAt.own h, fun e => ?_, hl⟩
  subst e
  rcases h.2 with ⟨hv, _⟩ | ⟨g, cap, cur, hv, _⟩
  · simp only [Value.slice.injEq] at hv
    exact hv.2.2
  · cases hv
theorem noneI {w : World} {l : List Int} (h : La.SlAt w none (intsC l)) : l = [] := by
  cases l with
  | nil => rfl
  | cons x t =>
    obtain ⟨b, o, hA, _⟩ := atI h (k := 0) (x := x) rfl
    cases hA
set_option maxHeartbeats 1000000 in
theorem copyInts_any (P : Option Addr) (cp : Nat) (l : List Int) (w : World) (h : NumsIn w P cp l) :
    Calls Tryz.prog 20 #[.slice P l.length cp] w fun e w' => ∃ v, e = .returned v ∧ w'.ownsRow w.heap.size 3 1 v l.length (intsC l) ∧ Below w.heap.size w w' := by
  obtain ⟨i0, hi0, hz0, hz1, hz2⟩ := info_parts Qu.int_info
  have hf := h.few
  cases P with
  | none =>
    obtain rfl := noneI h.ints.cells
    obtain rfl := h.nil rfl
    clear h
    go_enter Tryz.func20, Tryz.ntmps20
    go_wp2_with (at_builtin; refine wpList_append_own_none rfl _ _ 44 rfl w.heap.size 3 i0 1 Tryz.underlying44 hi0 _ _ _ rfl (World.ownsRow_nil _ _ _ _) rfl ?_)
    go_ret
    exact ⟨_, rfl, World.ownsRow_nil _ _ _ _, Below.refl _ _⟩
  | some ad =>
    have HC := Lib.hid h.ints.cells
    clear h
    go_enter Tryz.func20, Tryz.ntmps20
    go_wp2_with (at_builtin; refine wpList_append_own _ rfl _ _ 44 rfl w.heap.size 3 i0 (.int .i64 0) 1 8 Tryz.underlying44 hi0 hz0 hz1 hz2 rfl (by decide) _ _ _ rfl (World.ownsRow_nil _ _ _ _) ad l.length cp (intsC l) rfl ?c0 ?c1 ?c2 ?c3 ?c4 ?c5 ?_)
    case c0 => simp [intsC]
    case c1 =>
      intro j u hj
      obtain ⟨b, o, hA, hc⟩ := HC.out j u hj
      cases hA
      rw [WideShapes.add_plain]
      exact hc
    case c2 =>
      intro u hu
      obtain ⟨x, _, rfl⟩ := List.mem_map.1 hu
      rfl
    case c3 => unfold maxLen; omega
    case c4 => omega
    case c5 => omega
    intro v' w2 hown' hgrow' _
    have HO := Lib.hid hown'
    have HB := Lib.hid ((Below.refl w.heap.size w).grown hgrow' (Nat.le_refl _) (fun j hj => by cases hj))
    clear hown' hgrow'
    go_wp2
    go_ret
    refine ⟨_, rfl, ?_, HB.out⟩
    have := HO.out
    first | exact this | rwa [Nat.zero_add, List.nil_append] at this

set_option maxRecDepth 100000 in
set_option maxHeartbeats 4000000 in
theorem check7_any (A B C P : Option Addr) (ca cb cc cp : Nat) (ns : List NodeD) (ps : List PodD) (os : List OwnD) (p : List Int) (w : World) (h : SnapAt w A B C ca cb cc ns ps os) (hp : IntsAt w P cp p) :
    Calls Tryz.prog 68 #[snapV A B C ca cb cc ns ps os, .slice P p.length cp] w fun e w' => e = .returned (.int .i64 (placeE ns ps os p)) ∧ Below w.heap.size w w' := by
  have H := Lib.hid h
  have HP := Lib.hid hp
  have B0 : Hid (Below w.heap.size w (w.alloc (.cells (snapC A B C ca cb cc ns ps os) 26))) := Lib.hid (below1 w _)
  have S0 : Hid (Blk (w.alloc (.cells (snapC A B C ca cb cc ns ps os) 26)) w.heap.size (snapC A B C ca cb cc ns ps os) 26) := Lib.hid (Blk.new w _ _)
  have hlp := H.out.lp
  have hln := H.out.ln
  have KC := Lib.hid (check5_any A B C ca cb cc ns ps os (w.alloc (.cells (snapC A B C ca cb cc ns ps os) 26)) (H.out.below B0.out))
  have E : Hid (placeE ns ps os p = if checkS ns ps os = 0 then (if p.length = ps.length then (if p.all (okB ns) then 0 else 2) else 2) else checkS ns ps os) := Lib.hid rfl
  generalize placeE ns ps os p = R at E ⊢
  generalize checkS ns ps os = v0 at KC E
  clear h hp
  have hlt0 : w.heap.size < (w.alloc (.cells (snapC A B C ca cb cc ns ps os) 26)).heap.size := Blk.lt S0.out
  go_enter Tryz.func68, Tryz.ntmps68
  go_wp2_with fail
  refine (KC.out).mono ?_
  rintro e w1 ⟨rfl, hb⟩
  clear KC
  have S1 := Lib.hid (S0.out.below hb hlt0)
  have B1 := Lib.hid (B0.out.trans (hb.mono (Nat.le_of_lt hlt0)))
  clear hb
  have hl1 := Blk.lt S1.out
  have s0 : w1.cell? ⟨w.heap.size, 0, none⟩ = some (.slice A ns.length ca) := Blk.cell S1.out 0
  have s1 : w1.cell? ⟨w.heap.size, 1, none⟩ = some (.slice B ps.length cb) := Blk.cell S1.out 1
  have s2 : w1.cell? ⟨w.heap.size, 2, none⟩ = some (.slice C os.length cc) := Blk.cell S1.out 2
  by_cases hv : v0 = 0
  case neg =>
    have HE : Hid (R = v0) := Lib.hid (by rw [E.out, if_neg hv])
    have hvb : (v0 == 0) = false := by simpa using hv
    have hvc : (v0 != 0) = true := by simpa using hv
    go_wp2
    go_ret
    exact ⟨La.retI HE.out.symm, B1.out⟩
  subst hv
  by_cases hn : p.length = ps.length
  case neg =>
    have HE : Hid (R = 2) := Lib.hid (by rw [E.out, if_pos rfl, if_neg hn])
    have hnb : ((p.length : Int) == (ps.length : Int)) = false := by simp; omega
    have hnc : ((p.length : Int) != (ps.length : Int)) = true := by simp; omega
    have hni : ¬ ((p.length : Int) = (ps.length : Int)) := by omega
    go_wp2
    go_ret
    exact ⟨La.retI HE.out.symm, B1.out⟩
  have E2 : Hid (R = if p.all (okB ns) then 0 else 2) := Lib.hid (by rw [E.out, if_pos rfl, if_pos hn])
  have hnb : ((p.length : Int) == (ps.length : Int)) = true := by simp; omega
  have hnc : ((p.length : Int) != (ps.length : Int)) = false := by simp; omega
  have hni : (p.length : Int) = (ps.length : Int) := by omega
  clear E
  go_wp2_with fail
  go_loopw [6] (fun i wr => ∃ k : Nat, k ≤ ps.length ∧ i = .int .i64 k ∧ (∀ j x, j < k → p[j]? = some x → okB ns x = true) ∧ Below w.heap.size w wr ∧ Blk wr w.heap.size (snapC A B C ca cb cc ns ps os) 26) (fun i _ => ps.length - (intOf i).toNat)
  case atStart => exact ⟨0, by omega, rfl, fun j x h => by omega, B1.out, S1.out⟩
  case round =>
    clear s0 s1 s2 B1 S1 hl1
    obtain ⟨k, hk, rfl, hnk, hb, hsk⟩ := hrel
    have HN := Lib.hid hnk
    have HB := Lib.hid hb
    have HS := Lib.hid hsk
    clear hnk hb hsk
    have s0 : wr.cell? ⟨w.heap.size, 0, none⟩ = some (.slice A ns.length ca) := Blk.cell HS.out 0
    by_cases hlt : k < ps.length
    · obtain ⟨x, hx⟩ : ∃ x, p[k]? = some x := ⟨p[k]'(by omega), List.getElem?_eq_getElem (by omega)⟩
      obtain ⟨b, o, hA, hbl, c0⟩ := atI (HP.out.below HB.out).cells hx
      subst hA
      have HX := Lib.hid hx
      have k0 : (0 : Int) ≤ (k : Int) := by omega
      have k1 : (k : Int) < (ps.length : Int) := by omega
      have k2 : (k : Int) < (p.length : Int) := by omega
      clear hx
      obtain ⟨ok, hok⟩ : ∃ ok, okB ns x = ok := ⟨_, rfl⟩
      have Hok := Lib.hid hok
      clear hok
      go_upto_region 9 with fail
      go_cut [56] (fun v wc => v = .bool (!ok) ∧ ∃ n, wc = wr.drewN n)
      case first =>
        by_cases h1 : x < -1
        · have HE : Hid (ok = false) := Lib.hid (by
            rw [← Hok.out]
            unfold okB tpB
            rw [decide_eq_false (by omega), decide_eq_false (show ¬ 0 ≤ x by omega)]
            rfl)
          have h1b : decide (x < -1) = true := decide_eq_true h1
          go_quiet (fail)
          go_wp2
          go_meet
          exact ⟨by rw [HE.out]; rfl, _, rfl⟩
        have h1b : decide (x < -1) = false := decide_eq_false h1
        by_cases h2 : (ns.length : Int) ≤ x
        · have HE : Hid (ok = false) := Lib.hid (by
            rw [← Hok.out]
            unfold okB tpB
            rw [decide_eq_false (show ¬ x = -1 by omega), List.getElem?_eq_none (by omega)]
            simp)
          have h2b : decide ((ns.length : Int) ≤ x) = true := decide_eq_true h2
          go_quiet (fail)
          go_wp2
          go_meet
          exact ⟨by rw [HE.out]; rfl, _, rfl⟩
        have h2b : decide ((ns.length : Int) ≤ x) = false := decide_eq_false h2
        by_cases h3 : 0 ≤ x
        · obtain ⟨n, rfl⟩ : ∃ n : Nat, x = (n : Int) := ⟨x.toNat, by omega⟩
          have hnl : n < ns.length := by omega
          obtain ⟨y, hy⟩ : ∃ y, ns[n]? = some y := ⟨ns[n], List.getElem?_eq_getElem hnl⟩
          obtain ⟨b1, o1, hA1, hbl1, d0, d1, d2, d3, d4, d5, d6, d7, d8, d9⟩ := atN (H.out.below HB.out).n.cells hy
          subst hA1
          have HE : Hid (ok = !y.lost) := Lib.hid (by
            rw [← Hok.out]
            unfold okB tpB
            rw [decide_eq_false (show ¬ (n : Int) = -1 by omega), decide_eq_true h3, Int.toNat_natCast, hy]
            simp)
          have n0 : (0 : Int) ≤ (n : Int) := by omega
          have n1 : (n : Int) < (ns.length : Int) := by omega
          have n2 : ¬ ns.length ≤ n := by omega
          have n3 : decide (ns.length ≤ n) = false := decide_eq_false n2
          clear hy d0 d1 d2 d3 d4 d5 d6 d7 d8
          go_quiet (fail)
          go_wp2
          go_meet
          exact ⟨by rw [HE.out, Bool.not_not], _, rfl⟩
        · obtain rfl : x = -1 := by omega
          have HE : Hid (ok = true) := Lib.hid (by rw [← Hok.out]; rfl)
          go_quiet (fail)
          go_wp2
          go_meet
          exact ⟨by rw [HE.out]; rfl, _, rfl⟩
      case rest =>
        obtain ⟨rfl, n, rfl⟩ := hcut
        cases ok
        · have HE : Hid (2 = R) := Lib.hid (by
            rw [E2.out, if_neg]
            rw [List.all_eq_true]
            intro hall
            have := hall x (List.mem_of_getElem? HX.out)
            rw [Hok.out] at this
            cases this)
          go_wp2
          go_ret
          exact ⟨La.retI HE.out, belowN HB.out _⟩
        · go_wp2
          go_roundw
          case rel =>
            refine ⟨k + 1, by omega, by go_num, fun j y hj hy => ?_, belowN HB.out _, Blk.drewN HS.out _⟩
            by_cases hjk : j = k
            · subst hjk
              rw [HX.out] at hy
              cases hy
              exact Hok.out
            · exact HN.out j y (by omega) hy
          case measure => simp [intOf]; omega
    · obtain rfl : k = ps.length := by omega
      have HE : Hid (0 = R) := Lib.hid (by
        rw [E2.out, if_pos]
        rw [List.all_eq_true]
        intro y hy
        obtain ⟨j, hj⟩ := List.mem_iff_getElem?.1 hy
        refine HN.out j y ?_ hj
        have := (List.getElem?_eq_some_iff.1 hj).1
        omega)
      go_wp2
      go_ret
      exact ⟨La.retI HE.out, HB.out⟩
end Go.Proofs.YtpdaohkpgconkaaGreat

namespace Go.Proofs.YtpdaohkpgconkaaGreat
open Go.ChangeShapes Go.WideShapes Go.ChangeAt Go.RowKit

theorem own : ownKnob Tryz.prog.godebug = none := by kernel_rfl
theorem laidOut : laidOutB Tryz.prog = true := by kernel_rfl

theorem all_stay {H : Type} {enc : TypeId × Value → H} {P : Program} (hl : laidOutB P = true) {W W' : World} (hb : Below W.heap.size W W') :
    ∀ {ts : List TypeId} {vs : List Value} {ds : List (DataW H)} {ps : List MemPlace}, (∀ t ∈ ts, P.readableRec t = true ∧ t < P.types.size) → (∀ x ∈ ps, x.block < W.heap.size) →
      DataW.TrodAll enc P W 0 (fun _ => true) true ts vs ds ps → DataW.TrodAll enc P W' 0 (fun b => decide (b < W.heap.size)) true ts vs ds ps
  | [], vs, ds, ps, _, _, h => by
    obtain ⟨rfl, rfl, rfl⟩ := trodAll_nil h
    exact trodAll_mk0
  | t :: ts, vs, ds, ps, hr, hlt, h => by
    obtain ⟨v, vs', d, ds', p, q, rfl, rfl, rfl, h0, h1⟩ := trodAll_cons h
    refine trodAll_cons_mk (Below.trod hl (hr t (by simp)).1 (hr t (by simp)).2 h0 hb (fun x hx => hlt x (by simp [hx]))) (all_stay hl hb (fun t' ht' => hr t' (by simp [ht'])) (fun x hx => hlt x (by simp [hx])) h1)

/-- The last step of each law. -/
theorem law_post {H : Type} {enc : TypeId × Value → H} {f : Func} {s : ChangeSpec} {W W' : World} {args : Array Value} {ds gs : List (DataW H)} {before : List MemPlace}
    (hW : DataW.Whole enc Tryz.prog f.params.toList s.vars false W args.toList ds gs before) (hv : s.vars = [])
    (hfn : ∀ x : List (DataW H), x.length = f.params.toList.length → s.fn H x = { results := [.lit (.bool true)], args := x })
    (hres : f.resultTypes = #[4]) (hr : ∀ t ∈ f.params.toList, Tryz.prog.readableRec t = true ∧ t < Tryz.prog.types.size) (hb : Below W.heap.size W W') :
    s.post enc Tryz.prog f false true false false W args (.bool true) W' := by
  have hW' := hW
  have hlt : ∀ p ∈ before, p.block < W.heap.size := fun p hp => hW.lt p hp
  obtain ⟨p, q, hA, hV, rfl, _, _⟩ := hW
  rw [hv] at hV
  obtain ⟨rfl, rfl⟩ := trodVars_none hV
  have hlen : ∀ {ts : List TypeId} {vs : List Value} {es : List (DataW H)} {ps : List MemPlace}, DataW.TrodAll enc Tryz.prog W 0 (fun _ => true) true ts vs es ps → es.length = ts.length := by
    intro ts
    induction ts with
    | nil => intro vs es ps h; obtain ⟨_, rfl, _⟩ := trodAll_nil h; rfl
    | cons t ts ih =>
      intro vs es ps h
      obtain ⟨v, vs', d, ds', p, q, rfl, rfl, rfl, _, h1⟩ := trodAll_cons h
      simp [ih h1]
  have hf := hfn (ds ++ []) (by simpa using hlen hA)
  refine ⟨ds, [], p ++ [], [], p, [], hW', ?_, ?_, ?_, hb.frame _, fun h => by cases h⟩
  · rw [hf, hres]
    exact trodAll_cons_mk (shut_bool Tryz.underlying4 _) trodAll_mk0
  · rw [hf]
    simpa using all_stay laidOut hb hr (fun x hx => hlt x (by simp [hx])) hA
  · rw [hf, hv]
    rfl

/-- A world for the witnesses. -/
noncomputable def restWorld (os : Os) : World := World.holding Tryz.prog os ⟨#[], #[], []⟩

end Go.Proofs.YtpdaohkpgconkaaGreat

namespace Go.Proofs.YtpdaohkpgconkaaGreat
open Go.RowKit Go.Shelf
attribute [local go_sem] Oper.semAt_some

/-- All that lay below n₀ lies as it lay, and so does each block of cells but those named. -/
def KeepU (n₀ : Nat) (us : List Nat) (W W' : World) : Prop := Below n₀ W W' ∧ ∀ (b : Nat) (cs : Array Value) (t : TypeId), b ∉ us → Blk W b cs t → Blk W' b cs t
theorem KeepU.refl (n₀ : Nat) (us : List Nat) (W : World) : KeepU n₀ us W W := ⟨Below.refl _ _, fun _ _ _ _ h => h⟩
theorem KeepU.trans {n₀ : Nat} {us : List Nat} {A B C : World} (h : KeepU n₀ us A B) (k : KeepU n₀ us B C) : KeepU n₀ us A C := ⟨h.1.trans k.1, fun b cs t hb h1 => k.2 b cs t hb (h.2 b cs t hb h1)⟩
theorem KeepU.below {n₀ : Nat} {us : List Nat} {A B : World} (h : Below A.heap.size A B) (hn : n₀ ≤ A.heap.size) : KeepU n₀ us A B := ⟨h.mono hn, fun _ _ _ _ h1 => h1.below h h1.lt⟩
theorem KeepU.set {n₀ : Nat} {us : List Nat} (A : World) {u : Nat} (hu : u ∈ us) (hn : n₀ ≤ u) (i : Nat) (v : Value) : KeepU n₀ us A (A.setCell ⟨u, i, none⟩ v) :=
  ⟨(Below.refl _ _).setCell (p := ⟨u, i, none⟩) hn v, fun _ _ _ hb h1 => h1.oth (fun e => hb (e ▸ hu)) i v⟩
theorem keepU_t {n₀ : Nat} {us : List Nat} : ∀ {A B C : World}, KeepU n₀ us A B → KeepU n₀ us B C → KeepU n₀ us A C := fun h k => h.trans k
theorem blk_nc {w w' : World} {b : Nat} {cs : Array Value} {t : TypeId} {row : Option Nat} (h : Blk w b cs t) (hg : w.grownBy w' row) (hr : ∀ r, row = some r → ∃ o : Obj, w.heap[r]? = some o ∧ o.isCells = false) : Blk w' b cs t :=
  Blk.kept h hg (fun e => by
    obtain ⟨o, ho, hc⟩ := hr b e.symm
    unfold Blk at h
    rw [h] at ho
    cases ho
    cases hc)
theorem keepU_b {n₀ : Nat} {us : List Nat} {w : World} (hB : n₀ ≤ w.heap.size) : ∀ (W : World) (l : Nat) (o o' : Obj), w.heap.size ≤ l → W.heap[l]? = some o → o.isCells = false → o.isWalk = false → KeepU n₀ us W (W.putObj l o') := fun W l o o' hl ho hc hw =>
  ⟨belowK_b (w := w) hB W l o o' hl ho hc hw, fun b cs t _ h1 => blk_nc h1 (grownBy_putObj' W l o') (fun r e => by cases e; exact ⟨o, ho, hc⟩)⟩

/-- The places below k at which that number stands. -/
def onU (p : List Int) (node : Int) : Nat → List Nat
  | 0 => []
  | k + 1 => onU p node k ++ (if p[k]? = some node then [k] else [])
theorem onU_len (p : List Int) (node : Int) : ∀ k, (onU p node k).length ≤ k
  | 0 => Nat.le_refl _
  | k + 1 => by
    have := onU_len p node k
    rw [onU, List.length_append]
    split <;> simp <;> omega
end Go.Proofs.YtpdaohkpgconkaaGreat

namespace Go.Proofs.YtpdaohkpgconkaaGreat
open Go.RowKit Go.Shelf
attribute [local go_sem] Oper.semAt_some

/-- A pod that does not wait. -/
abbrev OffNo (p : List Int) := { k : Nat // ∃ x : Int, p[k]? = some x ∧ x ≠ -1 }
/-- Those of a list of places whose pods do not wait. -/
def offL (p : List Int) (M : List Int) : List Nat := (M.map Int.toNat).filter (fun k => decide (p[k]? ≠ some (-1)))
theorem offL_len (p M : List Int) : (offL p M).length ≤ M.length := by
  unfold offL
  exact Nat.le_trans (List.length_filter_le _ _) (by simp)
theorem offL_step (p M : List Int) (k m : Nat) (h : M[k]? = some (m : Int)) : offL p (M.take (k + 1)) = offL p (M.take k) ++ (if p[m]? = some (-1) then [] else [m]) := by
  have h1 : M.take (k + 1) = M.take k ++ [(m : Int)] := by
    obtain ⟨hk, he⟩ := List.getElem?_eq_some_iff.1 h
    rw [List.take_succ_eq_append_getElem hk, he]
  unfold offL
  rw [h1, List.map_append, List.filter_append]
  congr 1
  by_cases hq : p[m]? = some (-1)
  · simp [hq]
  · simp [hq]

theorem membersU_mem (ps : List PodD) (name : List UInt8) : ∀ (k : Nat) (y : Int), y ∈ membersU ps name k → ∃ m : Nat, y = (m : Int) ∧ m < k ∧ ∃ x, ps[m]? = some x ∧ x.owner = name
  | 0, y, h => by simp [membersU] at h
  | k + 1, y, h => by
    rw [membersU, List.mem_append] at h
    rcases h with h | h
    · obtain ⟨m, h1, h2, h3⟩ := membersU_mem ps name k y h
      exact ⟨m, h1, by omega, h3⟩
    · cases hx : ps[k]? with
      | none => rw [hx] at h; simp at h
      | some x =>
        rw [hx] at h
        dsimp only at h
        by_cases hn : x.owner = name
        · rw [if_pos hn] at h
          simp at h
          exact ⟨k, h, by omega, x, hx, hn⟩
        · rw [if_neg hn] at h
          simp at h
theorem own_blk {w : World} {base : Nat} {e : TypeId} {A : Option Addr} {c n : Nat} {xs : List Value} (h : w.ownsRow base e 1 (.slice A n c) n xs) {k : Nat} {y : Value} (hk : xs[k]? = some y) :
    ∃ g cur, A = some ⟨g, 0, none⟩ ∧ base ≤ g ∧ Blk w g cur e ∧ cur[k]? = some y := by
  have hlt := (List.getElem?_eq_some_iff.1 hk).1
  obtain ⟨hl, h1 | ⟨g, cap, cur, hv, hb, hg, h1, h2, h3, h4⟩⟩ := h
  · omega
  · cases hv
    refine ⟨g, cur, rfl, hb, hg, ?_⟩
    rw [← h4, List.getElem?_take, if_pos (by omega)] at hk
    simpa using hk

set_option maxRecDepth 100000 in
set_option maxHeartbeats 2000000 in
theorem of1_in (n : Nat) (hn : 1 ≤ n) (l Bs Bo Bp n₀ ca cb cc cp : Nat) (us : List Nat) (A B C P : Option Addr) (ns : List NodeD) (ps : List PodD) (os : List OwnD) (p : List Int) (ko : Nat) (xo : OwnD) (hxo : os[ko]? = some xo) (hpl : p.length = ps.length) (J Jx : List (OffNo p) → World → Prop)
    (hY : ∀ pre (x : OffNo p) W, J pre W → pre.length < p.length → YieldAt Fence.wide (n - 1) Tryz.prog l #[.int .i64 (x.1 : Int)] W fun e W' =>
      (e = .returned (.bool true) ∧ J (pre ++ [x]) W' ∧ KeepU n₀ us W W') ∨ (e = .returned (.bool false) ∧ Jx (pre ++ [x]) W'))
    (W : World) (hJ : AbidesFrom W.heap.size J) (hBs : Blk W Bs (snapC A B C ca cb cc ns ps os) 26) (hBo : Blk W Bo #[.int .i64 (ko : Int)] 3) (hBp : Blk W Bp #[.slice P p.length cp] 44) (husp : Bp ∉ us) (hus : ∀ u ∈ us, u < W.heap.size)
    (hs : SnapAt W A B C ca cb cc ns ps os)
    (hp : ∀ k x, p[k]? = some x → ∃ b o, P = some ⟨b, o, none⟩ ∧ b < n₀ ∧ W.cell? ⟨b, o + k, none⟩ = some (.int .i64 x)) (hn₀ : n₀ ≤ W.heap.size) (h0 : J [] W) :
    CallsIn Fence.wide n Tryz.prog 197 #[.func (.yield l) #[] #[], .pointer (some ⟨Bs, 0, none⟩), .pointer (some ⟨Bo, 0, none⟩), .pointer (some ⟨Bp, 0, none⟩)] W fun e W' => (∃ v, e = .returned v) ∧
      ((∃ ys : List (OffNo p), ys.map (·.1) = offL p (membersF ps xo.name) ∧ J ys W') ∨ (∃ pre : List (OffNo p), True ∧ Jx pre W')) := by
  have KM := Lib.hid ((callsIn_wide (n := n - 1)).2 (members_any A B C ca cb cc ns ps os ko xo W hs hxo))
  have HBp := Lib.hid hBp
  have HP := Lib.hid hp
  have hlp := hs.lp
  have s0 : W.cell? ⟨Bs, 0, none⟩ = some (.slice A ns.length ca) := Blk.cell hBs 0
  have s1 : W.cell? ⟨Bs, 1, none⟩ = some (.slice B ps.length cb) := Blk.cell hBs 1
  have s2 : W.cell? ⟨Bs, 2, none⟩ = some (.slice C os.length cc) := Blk.cell hBs 2
  have b0 : W.cell? ⟨Bo, 0, none⟩ = some (.int .i64 (ko : Int)) := Blk.cell hBo 0
  have HM : Hid (∀ k y, (membersF ps xo.name)[k]? = some y → ∃ m : Nat, y = (m : Int) ∧ m < p.length) := Lib.hid (fun k y h => by
    obtain ⟨m, h1, h2, _⟩ := membersU_mem ps xo.name _ y (List.mem_of_getElem? h)
    exact ⟨m, h1, by omega⟩)
  have hML : (membersF ps xo.name).length ≤ p.length := by rw [hpl]; exact membersU_len ps xo.name _
  clear hBp hp hs hBs hBo
  generalize membersF ps xo.name = M at KM HM hML ⊢
  refine callsIn_of_wp Tryz.func197 rfl trivial ?_ rfl
  simp only [Tryz.ntmps197, List.size_toArray, List.length_cons, List.length_nil, Nat.reduceAdd, Nat.reduceSub, Array.replicate_succ, Array.replicate_zero, List.push_toArray, List.append_toArray, List.nil_append, List.cons_append]
  gi_wp2_with fail
  refine ⟨trivial, ?_⟩
  refine (KM.out).mono ?_
  rintro e W1 ⟨v, rfl, ho, hb⟩
  clear KM
  obtain ⟨A1, c1, rfl, hcm⟩ := La.own_slice ho
  have HO := Lib.hid ho
  have HB := Lib.hid hb
  have HP1 : Hid (Blk W1 Bp #[.slice P p.length cp] 44) := Lib.hid (HBp.out.below hb HBp.out.lt)
  have HJ1 : Hid (J [] W1) := Lib.hid (hJ [] W W1 none h0 (grown_of_below hb none) (fun r e => by cases e))
  clear s0 s1 s2 b0 ho hb hJ h0
  gi_wp2
  gi_loopw [11] (fun i wr => ∃ (k : Nat) (pre : List (OffNo p)), k ≤ M.length ∧ i = .int .i64 k ∧ pre.map (·.1) = offL p (M.take k) ∧ J pre wr ∧ KeepU n₀ us W1 wr) (fun i _ => M.length - (intOf i).toNat)
  case atStart => exact ⟨0, [], Nat.zero_le _, rfl, rfl, HJ1.out, KeepU.refl _ _ _⟩
  case round =>
    obtain ⟨k, pre, hk, rfl, hpre, hJs, hnx⟩ := hrel
    by_cases hlt : k < M.length
    · obtain ⟨y, hy⟩ : ∃ y, M[k]? = some y := ⟨M[k], List.getElem?_eq_getElem hlt⟩
      obtain ⟨m, rfl, hm⟩ := HM.out k y hy
      obtain ⟨g, cur, hA1, hg, hgb, hgc⟩ := own_blk HO.out (k := k) (y := .int .i64 (m : Int)) (by simp [intsC, hy])
      subst hA1
      have hgu : g ∉ us := fun h => by have := hus g h; omega
      have hc1 : wr.cell? ⟨g, k, none⟩ = some (.int .i64 (m : Int)) := (Blk.cell (hnx.2 g _ _ hgu hgb) k).trans hgc
      obtain ⟨x, hx⟩ : ∃ x, p[m]? = some x := ⟨p[m], List.getElem?_eq_getElem hm⟩
      obtain ⟨b, o, hA, hb, hc⟩ := HP.out m x hx
      subst hA
      have hpp : wr.cell? ⟨Bp, 0, none⟩ = some (.slice (some ⟨b, o, none⟩) p.length cp) := Blk.cell (hnx.2 Bp _ _ husp HP1.out) 0
      have hcx : wr.cell? ⟨b, o + m, none⟩ = some (.int .i64 x) := (hnx.1.cell (p := ⟨b, o + m, none⟩) hb).trans ((HB.out.cell (p := ⟨b, o + m, none⟩) (Nat.lt_of_lt_of_le hb hn₀)).trans hc)
      have k0 : (0 : Int) ≤ (k : Int) := by omega
      have k1 : (k : Int) < (M.length : Int) := by omega
      have m0 : (0 : Int) ≤ (m : Int) := by omega
      have m1 : (m : Int) < (p.length : Int) := by omega
      have hlen : pre.length < p.length := by
        have h1 := offL_len p (M.take k)
        have h2 : pre.length = (offL p (M.take k)).length := by rw [← hpre, List.length_map]
        have h3 : (M.take k).length = k := by rw [List.length_take]; omega
        omega
      have hstep := offL_step p M k m hy
      by_cases hxn : x = -1
      · subst hxn
        rw [if_pos hx, List.append_nil] at hstep
        have hxb : ((-1 : Int) != -1) = false := by decide
        gi_wp2
        refine ⟨fun _ h => (by cases h), ?_⟩
        gi_wp2
        go_roundw
        case rel => exact ⟨k + 1, pre, by omega, by go_num, by rw [hstep, hpre], hJs, hnx⟩
        case measure => simp [intOf]; omega
      · have hxb : (x != -1) = true := by simpa using hxn
        rw [if_neg (by rw [hx]; simpa using hxn)] at hstep
        obtain ⟨fn, tmps, assign, body, hy, hR⟩ := hY pre ⟨m, x, hx, hxn⟩ wr hJs hlen
        dsimp only at hy
        gi_wp2
        refine hR.mono ?_
        rintro e W3 (⟨rfl, hJ3, hk3⟩ | ⟨rfl, hJx3⟩)
        · gi_wp2
          go_roundw
          case rel => exact ⟨k + 1, pre ++ [⟨m, x, hx, hxn⟩], by omega, by go_num, by rw [hstep, List.map_append, hpre]; rfl, hJ3, hnx.trans hk3⟩
          case measure => simp [intOf]; omega
        · gi_wp2
          refine bodyPost_ret (results_none rfl _ _ _) rfl ?_
          exact ⟨⟨_, rfl⟩, .inr ⟨pre ++ [⟨m, x, hx, hxn⟩], trivial, hJx3⟩⟩
    · obtain rfl : k = M.length := by omega
      rw [List.take_length] at hpre
      gi_wp2
      go_end0
      exact ⟨⟨_, rfl⟩, .inl ⟨pre, hpre, hJs⟩⟩

set_option maxHeartbeats 1000000 in
theorem of_any (n : Nat) (A B C P : Option Addr) (ca cb cc cp : Nat) (ns : List NodeD) (ps : List PodD) (os : List OwnD) (len : Nat) (ko : Int) (w : World) :
    CallsIn Fence.wide n Tryz.prog 165 #[snapV A B C ca cb cc ns ps os, .slice P len cp, .int .i64 ko] w fun e w' => e = .returned (.func (.func 197) #[] #[.pointer (some ⟨w.heap.size, 0, none⟩), .pointer (some ⟨w.heap.size + 1 + 1, 0, none⟩), .pointer (some ⟨w.heap.size + 1, 0, none⟩)]) ∧ w' = ((w.alloc (.cells (snapC A B C ca cb cc ns ps os) 26)).alloc (.cells #[.slice P len cp] 44)).alloc (.cells #[.int .i64 ko] 3) := by
  refine callsIn_of_wp Tryz.func165 rfl trivial ?_ rfl
  simp only [Tryz.ntmps165, List.size_toArray, List.length_cons, List.length_nil, Nat.reduceAdd, Nat.reduceSub, Array.replicate_succ, Array.replicate_zero, List.push_toArray, List.append_toArray, List.nil_append, List.cons_append]
  gi_wp2
  go_ret
  exact ⟨rfl, rfl⟩

theorem of_stops (n : Nat) (hn : 1 ≤ n) (Bs Bo Bp n₀ ca cb cc cp : Nat) (us : List Nat) (A B C P : Option Addr) (ns : List NodeD) (ps : List PodD) (os : List OwnD) (p : List Int) (ko : Nat) (xo : OwnD) (hxo : os[ko]? = some xo) (hpl : p.length = ps.length) (w : World) (hn₀ : n₀ ≤ w.heap.size)
    (hBs : Blk w Bs (snapC A B C ca cb cc ns ps os) 26) (hBo : Blk w Bo #[.int .i64 (ko : Int)] 3) (hBp : Blk w Bp #[.slice P p.length cp] 44) (husp : Bp ∉ us) (hus : ∀ u ∈ us, u < w.heap.size)
    (hs : SnapAt w A B C ca cb cc ns ps os)
    (hp : ∀ k x, p[k]? = some x → ∃ b o, P = some ⟨b, o, none⟩ ∧ b < n₀ ∧ w.cell? ⟨b, o + k, none⟩ = some (.int .i64 x)) :
    SeqStopsK Fence.wide n Tryz.prog 197 #[.pointer (some ⟨Bs, 0, none⟩), .pointer (some ⟨Bo, 0, none⟩), .pointer (some ⟨Bp, 0, none⟩)] (fun x : OffNo p => #[Value.int .i64 (x.1 : Int)]) (KeepU n₀ us) (fun ys => ys.map (·.1) = offL p (membersF ps xo.name)) (fun _ => True) p.length w := fun l J Jx W hW hJ _ hY h0 => by
  refine of1_in n hn l Bs Bo Bp n₀ ca cb cc cp us A B C P ns ps os p ko xo hxo hpl J Jx hY W hJ (hBs.below hW hBs.lt) (hBo.below hW hBo.lt) (hBp.below hW hBp.lt) husp (fun u hu => Nat.lt_of_lt_of_le (hus u hu) hW.size) (hs.below hW) ?_ (Nat.le_trans hn₀ hW.size) h0
  intro k x hx
  obtain ⟨b, o, hA, hb, hc⟩ := hp k x hx
  exact ⟨b, o, hA, hb, (hW.cell (p := ⟨b, o + k, none⟩) (Nat.lt_of_lt_of_le hb hn₀)).trans hc⟩

abbrev ofWorld (W : World) (A B C P : Option Addr) (ca cb cc cp : Nat) (ns : List NodeD) (ps : List PodD) (os : List OwnD) (len : Nat) (ko : Int) : World := ((W.alloc (.cells (snapC A B C ca cb cc ns ps os) 26)).alloc (.cells #[.slice P len cp] 44)).alloc (.cells #[.int .i64 ko] 3)
theorem of_at (n : Nat) (hn : 1 ≤ n) (ca cb cc cp : Nat) (us : List Nat) (A B C P : Option Addr) (ns : List NodeD) (ps : List PodD) (os : List OwnD) (p : List Int) (ko : Nat) (xo : OwnD) (hxo : os[ko]? = some xo) (hpl : p.length = ps.length) (w W : World) (hB : Below w.heap.size w W)
    (hs : SnapAt w A B C ca cb cc ns ps os) (hp : IntsAt w P cp p) (hus : ∀ u ∈ us, u < W.heap.size) :
    SeqStopsK Fence.wide n Tryz.prog 197 #[.pointer (some ⟨W.heap.size, 0, none⟩), .pointer (some ⟨W.heap.size + 1 + 1, 0, none⟩), .pointer (some ⟨W.heap.size + 1, 0, none⟩)] (fun x : OffNo p => #[Value.int .i64 (x.1 : Int)]) (KeepU w.heap.size us) (fun ys => ys.map (·.1) = offL p (membersF ps xo.name)) (fun _ => True) p.length (ofWorld W A B C P ca cb cc cp ns ps os p.length (ko : Int)) := by
  have hb : Below W.heap.size W (ofWorld W A B C P ca cb cc cp ns ps os p.length (ko : Int)) := (Qu.below2 W _ _).alloc (by simp; omega) _
  have hsz : (ofWorld W A B C P ca cb cc cp ns ps os p.length (ko : Int)).heap.size = W.heap.size + 3 := by simp [ofWorld]
  have hbw := hB.trans (hb.mono hB.size)
  refine of_stops n hn W.heap.size (W.heap.size + 1 + 1) (W.heap.size + 1) w.heap.size ca cb cc cp us A B C P ns ps os p ko xo hxo hpl _ hbw.size ?_ ?_ ?_ ?_ ?_ (hs.below hbw) ?_
  · exact Blk.alloc (Blk.alloc (Blk.new W _ _) _) _
  · have := Blk.new ((W.alloc (.cells (snapC A B C ca cb cc ns ps os) 26)).alloc (.cells #[.slice P p.length cp] 44)) #[.int .i64 (ko : Int)] 3
    rwa [World.size_alloc, World.size_alloc] at this
  · exact Blk.alloc (blk2 W (.cells (snapC A B C ca cb cc ns ps os) 26) #[.slice P p.length cp] 44) _
  · intro h
    have := hus _ h
    omega
  · intro u hu
    have := hus u hu
    omega
  · intro k x hx
    obtain ⟨b, o, hA, hb0, _⟩ := atI hp.cells hx
    obtain ⟨b', o', hA', _, hc⟩ := atI (hp.below hbw).cells hx
    rw [hA] at hA'
    cases hA'
    exact ⟨b, o, hA, hb0, hc⟩
end Go.Proofs.YtpdaohkpgconkaaGreat

namespace Go.Proofs.YtpdaohkpgconkaaGreat
open Go.RowKit Go.Shelf
attribute [local go_sem] Oper.semAt_some

/-- What pods ask for together, as a machine adds. -/
def addW (ps : List PodD) (ys : List Nat) (k : Nat) : Int := ys.foldl (fun a y => wrap64 (a + (match ps[y]? with | some x => x.req k | none => 0))) 0
theorem placeE_len {ns : List NodeD} {ps : List PodD} {os : List OwnD} {p : List Int} (hE : placeE ns ps os p = 0) : p.length = ps.length := by
  unfold placeE at hE
  split at hE
  · split at hE
    · assumption
    · cases hE
  · rename_i hne
    exact absurd hE hne
abbrev zer5 : Array Value := #[.int .i64 0, .int .i64 0, .int .i64 0, .int .i64 0, .int .i64 0]
theorem blk3 (w : World) (o o' : Obj) (cs : Array Value) (t : TypeId) : Blk (((w.alloc o).alloc o').alloc (.cells cs t)) (w.heap.size + 2) cs t := by
  have := Blk.new ((w.alloc o).alloc o') cs t
  rwa [World.size_alloc, World.size_alloc] at this

/-- One pod more. -/
def addR (a r : Nat → Int) (j : Nat) (k : Nat) : Int := if k < j then wrap64 (a k + r k) else a k

end Go.Proofs.YtpdaohkpgconkaaGreat

namespace Go.Proofs.YtpdaohkpgconkaaGreat
open Go.RowKit Go.Shelf
attribute [local go_sem] Oper.semAt_some

/-- The first five of two rows are the same. -/
theorem RowAt_congr {w : World} {b : Nat} {x y : Nat → Int} (h : Qu.RowAt w b x) (he : ∀ k, k < 5 → x k = y k) : Qu.RowAt w b y := by
  unfold Qu.RowAt at h ⊢
  rw [h, he 0 (by omega), he 1 (by omega), he 2 (by omega), he 3 (by omega), he 4 (by omega)]
theorem addR_zero (a r : Nat → Int) : addR a r 0 = a := by
  funext k
  unfold addR
  rw [if_neg (by omega)]
theorem addR_at (a r : Nat → Int) (j : Nat) : addR a r j j = a j := by
  unfold addR
  rw [if_neg (by omega)]
theorem addR_step (a r : Nat → Int) (j : Nat) : Qu.upd (addR a r j) j (wrap64 (a j + r j)) = addR a r (j + 1) := by
  funext k
  unfold Qu.upd addR
  by_cases h : k = j
  · subst h
    rw [if_pos rfl, if_pos (by omega)]
  · rw [if_neg h]
    by_cases h2 : k < j
    · rw [if_pos h2, if_pos (by omega)]
    · rw [if_neg h2, if_neg (by omega)]
theorem addW_snoc (ps : List PodD) (ys : List Nat) (m : Nat) (x : PodD) (hx : ps[m]? = some x) (k : Nat) : addW ps (ys ++ [m]) k = wrap64 (addW ps ys k + x.req k) := by
  unfold addW
  rw [List.foldl_append]
  simp [hx]
end Go.Proofs.YtpdaohkpgconkaaGreat

namespace Go.Proofs.YtpdaohkpgconkaaGreat
open Go.RowKit Go.Shelf
attribute [local go_sem] Oper.semAt_some

/-- The pods of an owner that do not wait. -/
def ofF (ps : List PodD) (os : List OwnD) (p : List Int) (k : Int) : List Nat := match os[k.toNat]? with
  | some x => offL p (membersF ps x.name)
  | none => []
/-- What Placed tells. -/
def placedF (ns : List NodeD) (ps : List PodD) (os : List OwnD) (p : List Int) (k : Int) : Int := if ownerB ns ps os p k then ((ofF ps os p k).length : Int) else 0
theorem ownerB_parts {ns : List NodeD} {ps : List PodD} {os : List OwnD} {p : List Int} {k : Int} (h : ownerB ns ps os p k = true) : placeE ns ps os p = 0 ∧ ∃ (n : Nat) (x : OwnD), k = (n : Int) ∧ os[n]? = some x := by
  unfold ownerB at h
  simp only [Bool.and_eq_true, decide_eq_true_eq] at h
  obtain ⟨h1, h2, h3⟩ := h
  have hn : k.toNat < os.length := by omega
  exact ⟨h1, k.toNat, os[k.toNat], by omega, List.getElem?_eq_getElem hn⟩
set_option maxRecDepth 100000 in
set_option maxHeartbeats 2000000 in
theorem placed_any (A B C P : Option Addr) (ca cb cc cp : Nat) (ns : List NodeD) (ps : List PodD) (os : List OwnD) (p : List Int) (ko : Int) (w : World) (h : SnapAt w A B C ca cb cc ns ps os) (hp : IntsAt w P cp p) :
    Calls Tryz.prog 131 #[snapV A B C ca cb cc ns ps os, .slice P p.length cp, .int .i64 ko] w fun e w' => e = .returned (.int .i64 (placedF ns ps os p ko)) ∧ Below w.heap.size w w' := by
  have hlp := Lib.hid h.lp
  have H := Lib.hid h
  have HP := Lib.hid hp
  have B0 : Hid (Below w.heap.size w (w.alloc (.cells (snapC A B C ca cb cc ns ps os) 26))) := Lib.hid (below1 w _)
  have S0 : Hid (Blk (w.alloc (.cells (snapC A B C ca cb cc ns ps os) 26)) w.heap.size (snapC A B C ca cb cc ns ps os) 26) := Lib.hid (Blk.new w _ _)
  have KC := Lib.hid ((callsIn_wide (n := 7)).2 (isOwner_any A B C P ca cb cc cp ns ps os p ko _ (h.below B0.out) (hp.below B0.out)))
  have hl0 := Blk.lt S0.out
  have E : Hid (placedF ns ps os p ko = if ownerB ns ps os p ko then ((ofF ps os p ko).length : Int) else 0) := Lib.hid rfl
  have HOB := Lib.hid (fun h => @ownerB_parts ns ps os p ko h)
  generalize placedF ns ps os p ko = R at E ⊢
  generalize ownerB ns ps os p ko = ob at KC E HOB
  clear h hp
  refine (callsIn_wide (n := 8)).1 ?_
  refine callsIn_of_wp_marks Tryz.func131 rfl trivial ?_ rfl
  simp only [Tryz.ntmps131, List.size_toArray, List.length_cons, List.length_nil, Nat.reduceAdd, Nat.reduceSub, Array.replicate_succ, Array.replicate_zero, List.push_toArray, List.append_toArray, List.nil_append, List.cons_append]
  gi_wp2_with fail
  refine ⟨trivial, ?_⟩
  refine (KC.out).mono ?_
  rintro e w1 ⟨rfl, hb⟩
  clear KC
  have S1 := Lib.hid (S0.out.below hb (by omega))
  have B1 := Lib.hid (B0.out.trans (hb.mono (by omega)))
  clear hb S0 B0 hl0
  have s0 : w1.cell? ⟨w.heap.size, 0, none⟩ = some (.slice A ns.length ca) := Blk.cell S1.out 0
  have s1 : w1.cell? ⟨w.heap.size, 1, none⟩ = some (.slice B ps.length cb) := Blk.cell S1.out 1
  have s2 : w1.cell? ⟨w.heap.size, 2, none⟩ = some (.slice C os.length cc) := Blk.cell S1.out 2
  cases ob
  · have HE : Hid (R = 0) := Lib.hid (by rw [E.out]; rfl)
    gi_wp2
    refine ⟨_, results_tmp rfl _ _ _, ?_, B1.out⟩
    exact La.retI HE.out.symm
  obtain ⟨hE0, n, xo, rfl, hxo⟩ := HOB.out rfl
  have hpl := Lib.hid (placeE_len hE0)
  have HX := Lib.hid hxo
  clear HOB hE0 hxo
  have HE : Hid (R = ((offL p (membersF ps xo.name)).length : Int)) := Lib.hid (by rw [E.out, if_pos rfl]; unfold ofF; rw [Int.toNat_natCast, HX.out])
  clear E s0 s1 s2
  have Z1 := Lib.hid (Blk.alloc S1.out (.cells #[.int .i64 0] 3))
  have B3 := Lib.hid (B1.out.alloc B1.out.size (.cells #[.int .i64 0] 3))
  have t0 : (w1.alloc (.cells #[.int .i64 0] 3)).cell? ⟨w.heap.size, 0, none⟩ = some (.slice A ns.length ca) := Blk.cell Z1.out 0
  have t1 : (w1.alloc (.cells #[.int .i64 0] 3)).cell? ⟨w.heap.size, 1, none⟩ = some (.slice B ps.length cb) := Blk.cell Z1.out 1
  have t2 : (w1.alloc (.cells #[.int .i64 0] 3)).cell? ⟨w.heap.size, 2, none⟩ = some (.slice C os.length cc) := Blk.cell Z1.out 2
  gi_wp2_with fail
  refine ⟨trivial, ?_⟩
  refine (of_any _ A B C P ca cb cc cp ns ps os p.length (n : Int) _).mono ?_
  rintro e w3 ⟨rfl, rfl⟩
  gi_wp2_with fail
  have Q0 : Hid (Blk (ofWorld (w1.alloc (.cells #[.int .i64 0] 3)) A B C P ca cb cc cp ns ps os p.length (n : Int)) w1.heap.size #[.int .i64 0] 3) := Lib.hid (Blk.alloc (Blk.alloc (Blk.alloc (Blk.new w1 _ _) _) _) _)
  have hw1 : Hid (w.heap.size ≤ w1.heap.size) := Lib.hid B1.out.size
  have BW : Hid (Below w.heap.size w (ofWorld (w1.alloc (.cells #[.int .i64 0] 3)) A B C P ca cb cc cp ns ps os p.length (n : Int))) := Lib.hid (((B3.out.alloc B3.out.size _).alloc (by have := hw1.out; simp; omega) _).alloc (by have := hw1.out; simp; omega) _)
  have KS := Lib.hid (of_at (8 - 1) (by omega) ca cb cc cp [w1.heap.size] A B C P ns ps os p n xo HX.out hpl.out w _ B3.out H.out HP.out (by simp))
  rw [show (w1.alloc (.cells #[.int .i64 0] 3)).heap.size = w1.heap.size + 1 from World.size_alloc _ _] at KS
  clear t0 t1 t2
  change Code.wpIn _ _ _ _ _ _ (ofWorld (w1.alloc (.cells #[.int .i64 0] 3)) A B C P ca cb cc cp ns ps os p.length (n : Int))
  have hW0 : Hid (w1.heap.size < (ofWorld (w1.alloc (.cells #[.int .i64 0] 3)) A B C P ca cb cc cp ns ps os p.length (n : Int)).heap.size) := Lib.hid Q0.out.lt
  generalize ofWorld (w1.alloc (.cells #[.int .i64 0] 3)) A B C P ca cb cc cp ns ps os p.length (n : Int) = W0 at Q0 BW KS hW0 ⊢
  refine wpIn_rangeFunc_ownG (α := OffNo p) rfl (by omega) (gf := 197) rfl trivial (enters_of Tryz.func197 (by kernel_rfl) rfl)
    KS.out keepU_t (keepU_b (by have := hw1.out; have := hW0.out; omega)) (Below.refl _ _) (fun _ => rfl)
    (fun pre W => Blk W w1.heap.size #[.int .i64 (pre.length : Int)] 3 ∧ Below w.heap.size w W)
    (fun _ _ _ => False)
    (OwnFrom.and (fun s X Y row hs hg hr => blk_nc hs hg (fun r e => (hr r e).2)) (ownFrom_below (Nat.le_refl _) (by have := hw1.out; have := hW0.out; omega)))
    (fun _ _ _ _ _ hs _ _ => hs)
    ⟨Q0.out, BW.out⟩
    (fun x => { tmps := #[snapV A B C ca cb cc ns ps os, Value.slice P p.length cp, Value.int IntKind.i64 n,
          Value.pointer (some { block := w.heap.size, off := 0 }), undef, undef, Value.int IntKind.i64 0,
          Value.pointer (some { block := w1.heap.size, off := 0 }),
          Value.agg #[Value.slice A ns.length ca, Value.slice B ps.length cb, Value.slice C os.length cc],
          Value.slice P p.length cp, Value.int IntKind.i64 n, Value.bool true, Value.bool false,
          Value.agg #[Value.slice A ns.length ca, Value.slice B ps.length cb, Value.slice C os.length cc],
          Value.slice P p.length cp, Value.int IntKind.i64 n,
          Value.func (Fn.func 197) #[]
            #[Value.pointer (some { block := w1.heap.size + 1, off := 0 }),
              Value.pointer (some { block := w1.heap.size + 1 + 1 + 1, off := 0 }),
              Value.pointer (some { block := w1.heap.size + 1 + 1, off := 0 })],
          .int .i64 (x.1 : Int), undef, undef, undef], defers := [] }) ?assign ?body ?done ?stop
  case assign =>
    intro l x W K hK
    gi_wp2
    simp
    exact hK
  case body =>
    rintro l pre ⟨m, hm⟩ W ⟨hQ, hB⟩ hlen
    have q0 : W.cell? ⟨w1.heap.size, 0, none⟩ = some (.int .i64 (pre.length : Int)) := Blk.cell hQ 0
    have q1 : W.frozen? ⟨w1.heap.size, 0, none⟩ = false := Blk.free hQ 0
    have hl : pre.length + 1 ≤ 9223372036854775807 := by
      have := hlp.out
      have := hpl.out
      omega
    have hwr : wrap64 ((pre.length : Int) + 1) = (pre.length : Int) + 1 := IntWalk.wrap64_in _ (by omega)
    have HQ := Lib.hid hQ
    have HB := Lib.hid hB
    have hlen2 := Lib.hid hlen
    clear hQ hB hlen hl
    gi_wp2
    refine ⟨(KeepsOthers.setCell _ _ _).from _, KeepU.set W (by simp) hw1.out 0 _, ?_, HB.out.setCell (p := ⟨w1.heap.size, 0, none⟩) hw1.out _⟩
    have := HQ.out.set 0 (.int .i64 ((pre.length : Int) + 1))
    rw [List.length_append]
    exact this
  case done =>
    rintro D ys W hD hys ⟨hQ, hB⟩ hK
    have q0 : W.cell? ⟨w1.heap.size, 0, none⟩ = some (.int .i64 (ys.length : Int)) := Blk.cell hQ 0
    have HB := Lib.hid hB
    have HK := Lib.hid hK
    have HD := Lib.hid hD
    have HY := Lib.hid hys
    clear hQ hB hK hD hys
    gi_wp2
    refine ⟨by simp, .inl ⟨_, _, rfl, run_takeDeferred HK.out, ?_⟩⟩
    refine ⟨_, results_tmp rfl _ _ _, ?_, HB.out.trans (belowK_b (w := w) (Nat.le_refl _) W D _ _ (by have := HD.out; have := hw1.out; have := hW0.out; omega) HK.out rfl rfl)⟩
    refine La.retI ?_
    rw [HE.out, ← HY.out, List.length_map]
  case stop =>
    rintro D c pre W _ _ h _
    exact h.elim
end Go.Proofs.YtpdaohkpgconkaaGreat

namespace Go.Proofs.YtpdaohkpgconkaaGreat
open Go.RowKit Go.Shelf
attribute [local go_sem] Oper.semAt_some

/-- How many of some pods are on each node. -/
def cntL (n : Nat) (p : List Int) (ys : List Nat) : List Int := ys.foldl (fun l y => match p[y]? with | some x => l.set x.toNat (l.getD x.toNat 0 + 1) | none => l) (List.replicate n 0)
theorem cntL_snoc (n : Nat) (p : List Int) (ys : List Nat) (m : Nat) (x : Int) (hx : p[m]? = some x) : cntL n p (ys ++ [m]) = (cntL n p ys).set x.toNat ((cntL n p ys).getD x.toNat 0 + 1) := by
  unfold cntL
  rw [List.foldl_append]
  simp [hx]
theorem cntL_len (n : Nat) (p : List Int) (ys : List Nat) : (cntL n p ys).length = n := by
  unfold cntL
  suffices h : ∀ (ys : List Nat) (l : List Int), (ys.foldl (fun l y => match p[y]? with | some x => l.set x.toNat (l.getD x.toNat 0 + 1) | none => l) l).length = l.length by
    rw [h]; simp
  intro ys
  induction ys with
  | nil => intro l; rfl
  | cons y t ih =>
    intro l
    rw [List.foldl_cons, ih]
    cases p[y]? <;> simp
theorem cntL_le (n : Nat) (p : List Int) (ys : List Nat) : ∀ j, 0 ≤ (cntL n p ys).getD j 0 ∧ (cntL n p ys).getD j 0 ≤ ys.length := by
  unfold cntL
  suffices h : ∀ (ys : List Nat) (l : List Int) (c : Nat), (∀ j, 0 ≤ l.getD j 0 ∧ l.getD j 0 ≤ c) → ∀ j, 0 ≤ (ys.foldl (fun l y => match p[y]? with | some x => l.set x.toNat (l.getD x.toNat 0 + 1) | none => l) l).getD j 0 ∧ (ys.foldl (fun l y => match p[y]? with | some x => l.set x.toNat (l.getD x.toNat 0 + 1) | none => l) l).getD j 0 ≤ (c + ys.length : Nat) by
    intro j
    have := h ys (List.replicate n 0) 0 (fun j => by
      rw [List.getD_eq_getElem?_getD, List.getElem?_replicate]
      split <;> simp) j
    simpa using this
  intro ys
  induction ys with
  | nil => intro l c hl j; simpa using hl j
  | cons y t ih =>
    intro l c hl j
    rw [List.foldl_cons]
    have := ih (match p[y]? with | some x => l.set x.toNat (l.getD x.toNat 0 + 1) | none => l) (c + 1) (fun j => by
      cases hy : p[y]? with
      | none =>
        have := hl j
        dsimp only
        omega
      | some x =>
        dsimp only
        have h1 := hl j
        have h2 := hl x.toNat
        rw [List.getD_eq_getElem?_getD (l := l.set _ _), List.getElem?_set]
        by_cases hj : x.toNat = j
        · rw [if_pos hj]
          split
          · simp only [Option.getD_some]
            omega
          · simp
            omega
        · rw [if_neg hj, ← List.getD_eq_getElem?_getD]
          omega) j
    rw [List.length_cons]
    have e : c + 1 + t.length = c + (t.length + 1) := by omega
    rw [e] at this
    exact this
/-- What Counts tells. -/
def countsF (ns : List NodeD) (ps : List PodD) (os : List OwnD) (p : List Int) (k : Int) : List Int := if ownerB ns ps os p k then cntL ns.length p (ofF ps os p k) else []

theorem int_infoK : (Tryz.prog.info? 3).map (fun i => (i.zero, i.size, i.bytes)) = some (some (.int .i64 0), 1, 8) := by kernel_rfl
theorem run_ints (w : World) (n : Nat) (hn : n ≤ 1000000) : (Instr.makeSlice 44 (.int .i64 (n : Int)) (.int .i64 (n : Int))).run Tryz.prog w = .ok (.slice (some ⟨w.heap.size, 0, none⟩) n n) (w.alloc (.cells (madeCells #[.int .i64 0] n) 3)) := by
  cases hi : Tryz.prog.info? 3 with
  | none => have h := int_infoK; rw [hi] at h; cases h
  | some i =>
    have h := int_infoK
    rw [hi] at h
    simp only [Option.map_some, Option.some.injEq, Prod.mk.injEq] at h
    obtain ⟨h0, h1, h2⟩ := h
    have k := run_make (P := Tryz.prog) w 44 3 i (.int .i64 0) Tryz.underlying44 hi h0 .i64 .i64 n n (by omega) (by omega) (by rw [h2]; omega) (by omega)
    simpa [h1, Value.cells] using k
theorem own_made (w : World) (n base : Nat) (hn : n ≤ 1000000) (hb : base ≤ w.heap.size) : (w.alloc (.cells (madeCells #[.int .i64 0] n) 3)).ownsRow base 3 1 (.slice (some ⟨w.heap.size, 0, none⟩) n n) n (intsC (List.replicate n 0)) := by
  refine ⟨by simp [intsC], .inr ⟨w.heap.size, n, madeCells #[.int .i64 0] n, rfl, hb, heap_alloc_new _ _, Nat.le_refl _, by unfold maxLen; omega, by rw [size_madeCells, Nat.mul_one], ?_⟩⟩
  rw [toList_madeCells_one, Nat.mul_one, List.take_of_length_le (by simp)]
  simp [intsC]
theorem own_nc {w w' : World} {base : Nat} {e : TypeId} {size n : Nat} {v : Value} {xs : List Value} {row : Option Nat} (h : w.ownsRow base e size v n xs) (hg : w.grownBy w' row) (hr : ∀ r, row = some r → ∃ o : Obj, w.heap[r]? = some o ∧ o.isCells = false) : w'.ownsRow base e size v n xs := by
  refine h.kept hg ?_
  rcases h.2 with ⟨rfl, _⟩ | ⟨g, cap, cur, rfl, _, hgb, _⟩
  · exact .inl rfl
  · refine .inr fun e' => ?_
    obtain ⟨o, ho, hc⟩ := hr g e'.symm
    rw [hgb] at ho
    cases ho
    cases hc
/-- A pod of a placement that may be, that does not wait, is on a node that is not lost. -/
theorem placeE_on {ns : List NodeD} {ps : List PodD} {os : List OwnD} {p : List Int} (hE : placeE ns ps os p = 0) {k : Nat} {x : Int} (hk : p[k]? = some x) (hx : x ≠ -1) : tpB ns x = true := by
  have hl := placeE_len hE
  unfold placeE at hE
  split at hE
  · split at hE
    · rename_i hall
      rw [List.all_eq_true] at hall
      have := hall x (List.mem_of_getElem? hk)
      unfold okB at this
      rw [decide_eq_false hx, Bool.false_or] at this
      exact this
    · cases hE
  · rename_i hne
    exact absurd hE hne
theorem tpB_lt {ns : List NodeD} {x : Int} (h : tpB ns x = true) : ∃ n : Nat, x = (n : Int) ∧ n < ns.length := by
  unfold tpB at h
  simp only [Bool.and_eq_true, decide_eq_true_eq] at h
  refine ⟨x.toNat, by omega, ?_⟩
  cases hq : ns[x.toNat]? with
  | none => rw [hq] at h; simp at h
  | some y => exact (List.getElem?_eq_some_iff.1 hq).1

end Go.Proofs.YtpdaohkpgconkaaGreat

namespace Go.Proofs.YtpdaohkpgconkaaGreat
open Go.RowKit Go.Maps Go.Sort Go.Shelf

theorem sorts_in (m : Nat) : AnyZ.SortsIn Tryz.prog Tryz.sorted167_ren Fence.wide m :=
  ⟨fun blk off cap ss W hH hblk hsz => callsIn_wide.2 (AnyM.slices_Sort_string Tryz.sort200 blk off cap ss W hH hblk hsz),
   fun p cap W => callsIn_wide.2 (AnyM.slices_Sort_string_none Tryz.sort200 p cap W)⟩

theorem mapsKeys_in (mb : Option Nat) (W : World) : CallsIn Fence.wide 5 Tryz.prog 168 #[.map mb] W fun e w' => e = .returned (.func (.func 201) #[] #[.pointer (some ⟨W.heap.size, 0, none⟩)]) ∧ w' = W.alloc (.cells #[.map mb] 187) :=
  AnyZ.keys_in Tryz.keys168 Fence.wide 5 trivial rfl mb W

set_option maxHeartbeats 1000000 in
theorem sortedKeys_in {H : Type} (b nn : Nat) (D0 : DataW H) (R : Value → Option (DataW H × List MemPlace)) (w : World) (hown : w.ownsMap Tryz.prog 9 R b nn D0) (hmax : Maps.size D0 ≤ maxLen) (hbytes : Maps.size D0 * 16 ≤ 140737488355328) :
    CallsIn Fence.wide 5 Tryz.prog 167 #[.func (.func 201) #[] #[.pointer (some ⟨w.heap.size, 0, none⟩)]] (w.alloc (.cells #[.map (some b)] 187)) fun e w' => ∃ (v : Value) (ss : List (List UInt8)), e = .returned v ∧ ss.Perm (strKeys D0) ∧
      w'.ownsRow (w.alloc (.cells #[.map (some b)] 187)).heap.size 9 1 v ss.length ((ss.mergeSort (fun x y => decide (x ≤ y))).map encStr) ∧ (v = .slice none 0 0 ↔ ss = []) ∧ Below (w.alloc (.cells #[.map (some b)] 187)).heap.size (w.alloc (.cells #[.map (some b)] 187)) w' := by
  have hbl := hown.lt
  have hseq : SeqGives Fence.wide 2 Tryz.prog 201 #[.pointer (some ⟨w.heap.size, 0, none⟩)] encStr (fun ss => ss.Perm (strKeys D0)) (Maps.size D0) (w.alloc (.cells #[.map (some b)] 187)) :=
    AnyZ.keys_gives (ρ := Tryz.keys168_ren) { Tryz.keys168 with } Fence.wide _ trivial rfl (by omega) w.heap.size b nn D0 _ (by simp) (by simp) (by
      obtain ⟨es, clock, hb, Ft, hs, hD⟩ := hown
      exact ⟨es, clock, (Below.heap_alloc _ _ b hbl).trans hb, Ft, hs, hD⟩)
  exact AnyZ.sorted_in Tryz.sorted167 Fence.wide 5 trivial trivial trivial trivial rfl (by omega) (sorts_in _) (enters_of Tryz.func200 (by kernel_rfl) rfl) 201 #[.pointer (some ⟨w.heap.size, 0, none⟩)] trivial (enters_of Tryz.func201 (by kernel_rfl) rfl) _ _ hmax hbytes _ hseq

end Go.Proofs.YtpdaohkpgconkaaGreat

namespace Go.Proofs.YtpdaohkpgconkaaGreat
open Go.RowKit Go.Maps

theorem span15 (ok : Nat → Nat → Bool) : ∀ (t : List UInt8) (a : Nat), a ≤ 15 → La.spanF ok t a ≤ 15
  | [], a, h => h
  | b :: t, a, h => by
    rw [La.spanF]
    split
    · exact h
    · rename_i hn
      exact span15 ok t (a + 1) (by
        have : ¬ a = 15 := fun e => hn (.inl e)
        omega)
theorem chkK_all {α : Type} {mb : α → Bool} {ri : α → α → Bool} {l : List α} (h : La.chkA mb ri l = 0) : ∀ x ∈ l, mb x = true := by
  intro x hx
  obtain ⟨k, hk⟩ := List.mem_iff_getElem?.1 hx
  have hlt := (List.getElem?_eq_some_iff.1 hk).1
  unfold La.chkA at h
  split at h
  · cases h
  · rename_i hn
    cases hm : mb x with
    | true => rfl
    | false =>
      exfalso
      have h1 : La.chkK mb ri l (k + 1) = false := by
        rw [La.chkK, hk]
        dsimp only
        rw [La.okAt_no hm, Bool.and_false]
      exact hn (.inr (La.chkK_false h1 (by omega)))
/-- The labels of a cluster that may be have short values. -/
theorem short_of {ns : List NodeD} {ps : List PodD} {os : List OwnD} (h : checkS ns ps os = 0) : Short ns := by
  intro x hx y hy
  unfold checkS at h
  split at h
  · rename_i hc
    unfold clusB at hc
    simp only [Bool.and_eq_true, List.all_eq_true] at hc
    have h1 := hc.1.1.2 x hx
    unfold nodeB at h1
    simp only [Bool.and_eq_true, beq_iff_eq] at h1
    have h2 := chkK_all h1.1.2 y hy
    unfold La.labB at h2
    simp only [Bool.and_eq_true] at h2
    have h3 := h2.2
    unfold La.valueB at h3
    simp only [Bool.and_eq_true, decide_eq_true_eq] at h3
    have := span15 La.okVal y.2 0 (by omega)
    omega
  · cases h

/-- The map of the domains that the first k nodes have for a key: each has a 0. -/
def domsU (ns : List NodeD) (key : List UInt8) : Nat → DataW Unit
  | 0 => .map []
  | k + 1 => match domF ns (k : Int) key with
    | some v => (domsU ns key k).put (.string v) (.lit (.int .i64 0))
    | none => domsU ns key k
def emptyD (ns : List NodeD) (key : List UInt8) : DataW Unit := domsU ns key ns.length
theorem domF_short {ns : List NodeD} {key v : List UInt8} {k : Int} (hs : Short ns) (h : domF ns k key = some v) : v.length ≤ 281474976710656 := by
  unfold domF at h
  split at h
  · split at h
    · rename_i x hx
      cases hf : x.labels.find? (fun y => decide (y.1 = key)) with
      | none => rw [hf] at h; cases h
      | some y =>
        rw [hf] at h
        cases h
        exact hs x (List.mem_of_getElem? hx) y (List.mem_of_find?_eq_some hf)
    · cases h
  · cases h
theorem ownsMap_below {P : Program} {k : TypeId} {R : Value → Option (DataW Unit × List MemPlace)} {w w' : World} {b n : Nat} {D : DataW Unit} (h : w.ownsMap P k R b n D) (hb : Below w.heap.size w w') : w'.ownsMap P k R b n D := h.kept (grown_of_below hb none) (by simp)

set_option maxRecDepth 100000 in
set_option maxHeartbeats 2000000 in
theorem empty_any (A B C : Option Addr) (ca cb cc : Nat) (ns : List NodeD) (ps : List PodD) (os : List OwnD) (key : List UInt8) (w : World) (h : SnapAt w A B C ca cb cc ns ps os) (hsh : Short ns) :
    Calls Tryz.prog 164 #[snapV A B C ca cb cc ns ps os, strV key] w fun e w' => e = .returned (.map (some (w.heap.size + 1))) ∧ w'.ownsMap Tryz.prog 9 (plainElem Tryz.prog 3) (w.heap.size + 1) ns.length (emptyD ns key) ∧ Below w.heap.size w w' := by
  have hln := h.ln
  have H := Lib.hid h
  have S0 : Hid (Blk (w.alloc (.cells (snapC A B C ca cb cc ns ps os) 26)) w.heap.size (snapC A B C ca cb cc ns ps os) 26) := Lib.hid (Blk.new w _ _)
  have S1 := Lib.hid (Blk.alloc S0.out (.map #[] 0))
  have B1 : Hid (Below w.heap.size w ((w.alloc (.cells (snapC A B C ca cb cc ns ps os) 26)).alloc (.map #[] 0))) := Lib.hid (Qu.below2 w _ _)
  have hmm := @run_makeMap Tryz.prog
  have hm0 := World.ownsMap_made (H := Unit) (w.alloc (.cells (snapC A B C ca cb cc ns ps os) 26)) Tryz.prog 9 (plainElem Tryz.prog 3)
  rw [World.size_alloc] at hm0
  have M1 := Lib.hid hm0
  have KD := Lib.hid (fun (k : Int) w1 (hb : Below w.heap.size w w1) => domainOf_any A B C ca cb cc ps.length os.length ns k key w1 (h.below hb).n hsh)
  have HSH := Lib.hid hsh
  have s0 := Blk.cell S1.out 0
  clear h hm0 hsh
  go_enter Tryz.func164, Tryz.ntmps164
  go_wp2_with fail
  clear hmm
  generalize hW1 : ((w.alloc (.cells (snapC A B C ca cb cc ns ps os) 26)).alloc (.map #[] 0)) = W1 at S1 B1 M1 s0 ⊢
  clear hW1 s0 S0
  obtain ⟨Mb, hMb⟩ : ∃ Mb, w.heap.size + 1 = Mb := ⟨_, rfl⟩
  rw [hMb] at M1 ⊢
  have HMb := Lib.hid hMb
  clear hMb
  go_loopw [13] (fun i wr => ∃ k : Nat, k ≤ ns.length ∧ i = .int .i64 k ∧ wr.ownsMap Tryz.prog 9 (plainElem Tryz.prog 3) Mb k (domsU ns key k) ∧ Below w.heap.size w wr ∧ Blk wr w.heap.size (snapC A B C ca cb cc ns ps os) 26) (fun i _ => ns.length - (intOf i).toNat)
  case atStart => exact ⟨0, by omega, rfl, M1.out, B1.out, S1.out⟩
  case round =>
    clear M1 B1 S1
    obtain ⟨k, hk, rfl, hown, hbw, hsk⟩ := hrel
    have HM := Lib.hid hown
    have HB := Lib.hid hbw
    have HS := Lib.hid hsk
    clear hown hbw hsk
    have s0 : wr.cell? ⟨w.heap.size, 0, none⟩ = some (.slice A ns.length ca) := Blk.cell HS.out 0
    have s1 : wr.cell? ⟨w.heap.size, 1, none⟩ = some (.slice B ps.length cb) := Blk.cell HS.out 1
    have s2 : wr.cell? ⟨w.heap.size, 2, none⟩ = some (.slice C os.length cc) := Blk.cell HS.out 2
    by_cases hlt : k < ns.length
    · have K1 := Lib.hid (KD.out (k : Int) wr HB.out)
      have E : Hid (domsU ns key (k + 1) = match domF ns (k : Int) key with
        | some v => (domsU ns key k).put (.string v) (.lit (.int .i64 0))
        | none => domsU ns key k) := Lib.hid rfl
      have HV := Lib.hid (fun v (hv : domF ns (k : Int) key = some v) => domF_short HSH.out hv)
      generalize domF ns (k : Int) key = dv at K1 E HV
      have k1 : (k : Int) < (ns.length : Int) := by omega
      go_wp2_with fail
      refine (K1.out).mono ?_
      rintro e w2 ⟨rfl, hb⟩
      have M2 := Lib.hid (ownsMap_below HM.out hb)
      have S2 := Lib.hid (HS.out.below hb HS.out.lt)
      have B2 := Lib.hid (HB.out.trans (hb.mono HB.out.size))
      clear hb K1 s0 s1 s2
      cases dv with
      | none =>
        go_wp2
        go_roundw
        case rel => exact ⟨k + 1, by omega, by go_num, by rw [E.out]; exact M2.out.mono (by omega), B2.out, S2.out⟩
        case measure => simp [intOf]; omega
      | some v =>
        have hvl : ((⟨v.toArray⟩ : ByteArray).size) ≤ maxLen := by
          have := HV.out v rfl
          rw [size_of]
          unfold maxLen
          omega
        have hkey := WideMaps.keyOf_string_mk (P := Tryz.prog) Tryz.underlying9 hvl
        have hown := M2.out
        have hkm : k < maxLen := by unfold maxLen; omega
        go_wp2_with (at_mapUpdate; refine wpList_mapUpdate_own _ rfl _ _ _ 187 rfl 9 3 (Maps.string_keyed Tryz.underlying9) Tryz.underlying187 _ Mb k _ rfl hown hkm _ _ _ rfl rfl hkey _ [] (plainElem_int Tryz.underlying3 (by decide)) ?_)
        intro w3 hown3 hgrow3
        have M3 := Lib.hid hown3
        have hMlt : w.heap.size < Mb := by have := HMb.out; omega
        have B3 := Lib.hid (B2.out.grown hgrow3 B2.out.size (fun j e => by cases e; omega))
        have S3 := Lib.hid (S2.out.kept hgrow3 (fun e => by cases e; omega))
        clear hown hown3 hgrow3 hkey hvl hkm
        go_wp2
        go_roundw
        case rel => exact ⟨k + 1, by omega, by go_num, by rw [E.out]; exact M3.out, B3.out, S3.out⟩
        case measure => simp [intOf]; omega
    · obtain rfl : k = ns.length := by omega
      go_wp2
      go_ret
      rw [HMb.out]
      exact ⟨rfl, HM.out, HB.out⟩
end Go.Proofs.YtpdaohkpgconkaaGreat

namespace Go.Proofs.YtpdaohkpgconkaaGreat
open Go.RowKit Go.Maps Go.Sort

/-- The keys of a map, sorted. -/
def sortK (D : DataW Unit) : List (List UInt8) := (strKeys D).mergeSort leB
/-- What Domains tells. -/
def domsF (ns : List NodeD) (ps : List PodD) (os : List OwnD) (key : List UInt8) : List (List UInt8) := if checkS ns ps os = 0 then sortK (emptyD ns key) else []
theorem own_sorted {w : World} {base : Nat} {v : Value} {D : DataW Unit} {ss : List (List UInt8)} (hp : ss.Perm (strKeys D)) (h : w.ownsRow base 9 1 v ss.length ((ss.mergeSort (fun x y => decide (x ≤ y))).map encStr)) :
    w.ownsRow base 9 1 v (sortK D).length ((sortK D).map encStr) := by
  have e : ss.mergeSort (fun x y => decide (x ≤ y)) = sortK D := mergeSort_of_perm hp
  rw [e] at h
  have hl : ss.length = (sortK D).length := by rw [← e, List.length_mergeSort]
  rw [hl] at h
  exact h

end Go.Proofs.YtpdaohkpgconkaaGreat
