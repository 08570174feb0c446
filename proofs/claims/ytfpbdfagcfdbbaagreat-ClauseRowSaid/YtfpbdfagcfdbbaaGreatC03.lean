/- Where a name stands first: contracts. Condition: the list lies in memory. May a pod be, by itself, and in its cluster? Contracts. Condition: the cluster lies in memory. Are all so? May a pod be in its cluster? Contracts. Condition: the cluster lies in memory. Are all so? Contracts. Condition: the list lies in memory. May a pod be in its cluster? A contract. Condition: the cluster lies in memory, also behind the pointer that the closure holds. May a cluster be? A contract. Condition: the cluster lies in memory. -/
import Derived.Test.YtfpbdfagcfdbbaaGreatC02
import Derived.Deep.RegionHeld3
import Derived.Deep.DeepCutAuto

namespace Go.Proofs.YtfpbdfagcfdbbaaGreat
open Go.RowKit

/-- The place of the first one of that name, or -1. -/
def idxF (name : List UInt8) : List (List UInt8) → Int
  | [] => -1
  | x :: t => if x = name then 0 else if idxF name t = -1 then -1 else idxF name t + 1
theorem idx_hit (name : List UInt8) : ∀ (l : List (List UInt8)) (k : Nat), l[k]? = some name → (∀ (j : Nat) (x : List UInt8), j < k → l[j]? = some x → x ≠ name) → idxF name l = (k : Int) := by
  intro l
  induction l with
  | nil => intro k h; simp at h
  | cons a t ih =>
    intro k h hn
    rw [idxF]
    cases k with
    | zero =>
      simp only [List.getElem?_cons_zero, Option.some.injEq] at h
      rw [if_pos h]
      rfl
    | succ k =>
      rw [if_neg (hn 0 a (by omega) rfl), ih k (by simpa using h) (fun j x hj hx => hn (j + 1) x (by omega) (by simpa using hx)), if_neg (by omega)]
      omega
theorem idx_miss (name : List UInt8) : ∀ (l : List (List UInt8)), (∀ (j : Nat) (x : List UInt8), l[j]? = some x → x ≠ name) → idxF name l = -1 := by
  intro l
  induction l with
  | nil => intro _; rfl
  | cons a t ih =>
    intro hn
    rw [idxF, if_neg (hn 0 a rfl), ih (fun j x hx => hn (j + 1) x (by simpa using hx)), if_pos rfl]

set_option maxHeartbeats 1000000 in
theorem isN (x : NodeD) (name : List UInt8) (q : Nat) (w : World) (hq : w.cell? ⟨q, 0, none⟩ = some (strV name)) :
    Calls Tryz.prog 176 #[valN x, .pointer (some ⟨q, 0, none⟩)] w fun e w' => e = .returned (.bool (decide (x.name = name))) ∧ Below w.heap.size w w' := by
  have hql : q < w.heap.size := World.block_lt_of_cell? w _ hq
  have hq1 : (w.alloc (.cells (cellsN [x]).toArray 62)).cell? ⟨q, 0, none⟩ = some (strV name) := ((below1 w (.cells (cellsN [x]).toArray 62)).cell (p := ⟨q, 0, none⟩) hql).trans hq
  have hne : ¬ w.heap.size = q := by omega
  have hne2 : ¬ q = w.heap.size := by omega
  go_enter Tryz.func176, Tryz.ntmps176
  go_wp2
  go_ret
  refine ⟨La.retB ?_, (Below.refl _ _).alloc (Nat.le_refl _) _⟩
  rw [Bool.eq_iff_iff]
  simp

set_option maxRecDepth 100000 in
set_option maxHeartbeats 2000000 in
theorem indexN (A : Option Addr) (c q : Nat) (l : List NodeD) (name : List UInt8) (w : World) (hl : l.length ≤ 1000) (hs : La.SlAt w A (cellsN l)) (hq : w.cell? ⟨q, 0, none⟩ = some (strV name)) :
    Calls Tryz.prog 175 #[.slice A l.length c, .func (Fn.func 176) #[] #[.pointer (some ⟨q, 0, none⟩)]] w fun e w' => e = .returned (.int .i64 (idxF name (l.map (·.name)))) ∧ Below w.heap.size w w' := by
  have HS := Lib.hid hs
  have HQ := Lib.hid hq
  have hql : q < w.heap.size := World.block_lt_of_cell? w _ hq
  have hg : ∀ (args : Array Value) (w : World), (callFunc 176 args).run Tryz.prog w = .ok (.enter 176 args) w := fun _ _ => by kernel_rfl
  obtain ⟨R, hR⟩ : ∃ R, idxF name (l.map (·.name)) = R := ⟨_, rfl⟩
  have HR := Lib.hid hR
  rw [hR]
  clear hs hq hR
  go_enter Tryz.func175, Tryz.ntmps175
  go_wp2_with fail
  go_loopw [8] (fun i wr => ∃ k : Nat, k ≤ l.length ∧ i = .int .i64 k ∧ (∀ j x, j < k → (l.map (·.name))[j]? = some x → x ≠ name) ∧ Below w.heap.size w wr) (fun i _ => l.length - (intOf i).toNat)
  case atStart => exact ⟨0, by omega, rfl, fun j x h => by omega, Below.refl _ _⟩
  case round =>
    obtain ⟨k, hk, rfl, hn, hb⟩ := hrel
    have HN := Lib.hid hn
    have HB := Lib.hid hb
    clear hn hb
    by_cases hlt : k < l.length
    · obtain ⟨x, hx⟩ : ∃ x, l[k]? = some x := ⟨l[k], List.getElem?_eq_getElem hlt⟩
      obtain ⟨b, o, hA, hbl, c0, c1, c2, c3, c4, c5, c6, c7, c8, c9⟩ := atN (HS.out.below HB.out) hx
      subst hA
      have hxn : (l.map (·.name))[k]? = some x.name := by simp [hx]
      have HX := Lib.hid hxn
      have k0 : (0 : Int) ≤ (k : Int) := by omega
      have k1 : (k : Int) < (l.length : Int) := by omega
      have KI := Lib.hid (fun w' (hb : Below wr.heap.size wr w') => isN x name q w' ((hb.cell (p := ⟨q, 0, none⟩) (by show q < wr.heap.size; have := HB.out.size; omega)).trans ((HB.out.cell (p := ⟨q, 0, none⟩) hql).trans HQ.out)))
      clear hx hxn
      go_wp2_with fail
      refine (KI.out _ (by first | exact Below.refl _ _ | exact (Below.refl _ _).drew)).mono ?_
      rintro e w3 ⟨rfl, hb3⟩
      have B3 := Lib.hid (HB.out.trans (hb3.mono HB.out.size))
      clear hb3 KI c0 c1 c2 c3 c4 c5 c6 c7 c8 c9
      by_cases he : x.name = name
      · have hd : decide (x.name = name) = true := by simpa using he
        have HE : Hid ((k : Int) = R) := Lib.hid (by rw [← HR.out]; exact (idx_hit name _ k (by rw [HX.out, he]) HN.out).symm)
        have He := Lib.hid he
        clear he
        go_wp2
        go_ret
        exact ⟨La.retI HE.out, B3.out⟩
      · have hd : decide (x.name = name) = false := by simpa using he
        have He := Lib.hid he
        clear he
        go_wp2
        go_roundw
        case rel =>
          refine ⟨k + 1, by omega, by go_num, fun j y hj hy => ?_, B3.out⟩
          by_cases hjk : j = k
          · subst hjk
            rw [HX.out] at hy
            cases hy
            exact He.out
          · exact HN.out j y (by omega) hy
        case measure => simp [intOf]; omega
    · obtain rfl : k = l.length := by omega
      have HE : Hid ((-1 : Int) = R) := Lib.hid (by
        rw [← HR.out]
        refine (idx_miss name _ (fun j y hy => HN.out j y ?_ hy)).symm
        rcases Nat.lt_or_ge j l.length with h | h
        · exact h
        · rw [List.getElem?_eq_none (by simpa using h)] at hy
          cases hy)
      go_wp2
      go_ret
      exact ⟨La.retI HE.out, HB.out⟩

set_option maxHeartbeats 1000000 in
theorem findN (A B C : Option Addr) (ca cb cc la lb lc : Nat) (l : List NodeD) (name : List UInt8) (w : World) (hl : l.length ≤ 1000) (hs : La.SlAt w A (cellsN l)) (hn : la = l.length) :
    Calls Tryz.prog 137 #[.agg #[.slice A la ca, .slice B lb cb, .slice C lc cc], strV name] w fun e w' => e = .returned (.int .i64 (idxF name (l.map (·.name)))) ∧ Below w.heap.size w w' := by
  subst hn
  have B2 := Lib.hid (Qu.below2 w (.cells #[.slice A l.length ca, .slice B lb cb, .slice C lc cc] 26) (.cells #[strV name] 9))
  have KI := Lib.hid (indexN A ca (w.heap.size + 1) l name _ hl (hs.below B2.out) (by
    rw [cell_of_row _ (w.heap.size + 1) 0 _ _ _ (blk2 w (.cells #[.slice A l.length ca, .slice B lb cb, .slice C lc cc] 26) #[strV name] 9)]
    rfl))
  generalize idxF name (l.map (·.name)) = R at KI ⊢
  clear hs
  go_enter Tryz.func137, Tryz.ntmps137
  go_wp2_with fail
  refine KI.out.mono ?_
  rintro e w3 ⟨rfl, hb3⟩
  have B3 := Lib.hid (B2.out.trans (hb3.mono B2.out.size))
  clear hb3 KI
  go_wp2
  go_ret
  exact ⟨rfl, B3.out⟩

set_option maxHeartbeats 1000000 in
theorem isO (x : OwnD) (name : List UInt8) (q : Nat) (w : World) (hq : w.cell? ⟨q, 0, none⟩ = some (strV name)) :
    Calls Tryz.prog 174 #[valO x, .pointer (some ⟨q, 0, none⟩)] w fun e w' => e = .returned (.bool (decide (x.name = name))) ∧ Below w.heap.size w w' := by
  have hql : q < w.heap.size := World.block_lt_of_cell? w _ hq
  have hq1 : (w.alloc (.cells (cellsO [x]).toArray 53)).cell? ⟨q, 0, none⟩ = some (strV name) := ((below1 w (.cells (cellsO [x]).toArray 53)).cell (p := ⟨q, 0, none⟩) hql).trans hq
  have hne : ¬ w.heap.size = q := by omega
  have hne2 : ¬ q = w.heap.size := by omega
  go_enter Tryz.func174, Tryz.ntmps174
  go_wp2
  go_ret
  refine ⟨La.retB ?_, (Below.refl _ _).alloc (Nat.le_refl _) _⟩
  rw [Bool.eq_iff_iff]
  simp

set_option maxRecDepth 100000 in
set_option maxHeartbeats 2000000 in
theorem indexO (A : Option Addr) (c q : Nat) (l : List OwnD) (name : List UInt8) (w : World) (hl : l.length ≤ 1000) (hs : La.SlAt w A (cellsO l)) (hq : w.cell? ⟨q, 0, none⟩ = some (strV name)) :
    Calls Tryz.prog 173 #[.slice A l.length c, .func (Fn.func 174) #[] #[.pointer (some ⟨q, 0, none⟩)]] w fun e w' => e = .returned (.int .i64 (idxF name (l.map (·.name)))) ∧ Below w.heap.size w w' := by
  have HS := Lib.hid hs
  have HQ := Lib.hid hq
  have hql : q < w.heap.size := World.block_lt_of_cell? w _ hq
  have hg : ∀ (args : Array Value) (w : World), (callFunc 174 args).run Tryz.prog w = .ok (.enter 174 args) w := fun _ _ => by kernel_rfl
  obtain ⟨R, hR⟩ : ∃ R, idxF name (l.map (·.name)) = R := ⟨_, rfl⟩
  have HR := Lib.hid hR
  rw [hR]
  clear hs hq hR
  go_enter Tryz.func173, Tryz.ntmps173
  go_wp2_with fail
  go_loopw [8] (fun i wr => ∃ k : Nat, k ≤ l.length ∧ i = .int .i64 k ∧ (∀ j x, j < k → (l.map (·.name))[j]? = some x → x ≠ name) ∧ Below w.heap.size w wr) (fun i _ => l.length - (intOf i).toNat)
  case atStart => exact ⟨0, by omega, rfl, fun j x h => by omega, Below.refl _ _⟩
  case round =>
    obtain ⟨k, hk, rfl, hn, hb⟩ := hrel
    have HN := Lib.hid hn
    have HB := Lib.hid hb
    clear hn hb
    by_cases hlt : k < l.length
    · obtain ⟨x, hx⟩ : ∃ x, l[k]? = some x := ⟨l[k], List.getElem?_eq_getElem hlt⟩
      obtain ⟨b, o, hA, hbl, c0, c1, c2, c3, c4⟩ := atO (HS.out.below HB.out) hx
      subst hA
      have hxn : (l.map (·.name))[k]? = some x.name := by simp [hx]
      have HX := Lib.hid hxn
      have k0 : (0 : Int) ≤ (k : Int) := by omega
      have k1 : (k : Int) < (l.length : Int) := by omega
      have KI := Lib.hid (fun w' (hb : Below wr.heap.size wr w') => isO x name q w' ((hb.cell (p := ⟨q, 0, none⟩) (by show q < wr.heap.size; have := HB.out.size; omega)).trans ((HB.out.cell (p := ⟨q, 0, none⟩) hql).trans HQ.out)))
      clear hx hxn
      go_wp2_with fail
      refine (KI.out _ (by first | exact Below.refl _ _ | exact (Below.refl _ _).drew)).mono ?_
      rintro e w3 ⟨rfl, hb3⟩
      have B3 := Lib.hid (HB.out.trans (hb3.mono HB.out.size))
      clear hb3 KI c0 c1 c2 c3 c4
      by_cases he : x.name = name
      · have hd : decide (x.name = name) = true := by simpa using he
        have HE : Hid ((k : Int) = R) := Lib.hid (by rw [← HR.out]; exact (idx_hit name _ k (by rw [HX.out, he]) HN.out).symm)
        have He := Lib.hid he
        clear he
        go_wp2
        go_ret
        exact ⟨La.retI HE.out, B3.out⟩
      · have hd : decide (x.name = name) = false := by simpa using he
        have He := Lib.hid he
        clear he
        go_wp2
        go_roundw
        case rel =>
          refine ⟨k + 1, by omega, by go_num, fun j y hj hy => ?_, B3.out⟩
          by_cases hjk : j = k
          · subst hjk
            rw [HX.out] at hy
            cases hy
            exact He.out
          · exact HN.out j y (by omega) hy
        case measure => simp [intOf]; omega
    · obtain rfl : k = l.length := by omega
      have HE : Hid ((-1 : Int) = R) := Lib.hid (by
        rw [← HR.out]
        refine (idx_miss name _ (fun j y hy => HN.out j y ?_ hy)).symm
        rcases Nat.lt_or_ge j l.length with h | h
        · exact h
        · rw [List.getElem?_eq_none (by simpa using h)] at hy
          cases hy)
      go_wp2
      go_ret
      exact ⟨La.retI HE.out, HB.out⟩

set_option maxHeartbeats 1000000 in
theorem findO (A B C : Option Addr) (ca cb cc la lb lc : Nat) (l : List OwnD) (name : List UInt8) (w : World) (hl : l.length ≤ 1000) (hs : La.SlAt w C (cellsO l)) (hn : lc = l.length) :
    Calls Tryz.prog 135 #[.agg #[.slice A la ca, .slice B lb cb, .slice C lc cc], strV name] w fun e w' => e = .returned (.int .i64 (idxF name (l.map (·.name)))) ∧ Below w.heap.size w w' := by
  subst hn
  have B2 := Lib.hid (Qu.below2 w (.cells #[.slice A la ca, .slice B lb cb, .slice C l.length cc] 26) (.cells #[strV name] 9))
  have KI := Lib.hid (indexO C cc (w.heap.size + 1) l name _ hl (hs.below B2.out) (by
    rw [cell_of_row _ (w.heap.size + 1) 0 _ _ _ (blk2 w (.cells #[.slice A la ca, .slice B lb cb, .slice C l.length cc] 26) #[strV name] 9)]
    rfl))
  generalize idxF name (l.map (·.name)) = R at KI ⊢
  clear hs
  go_enter Tryz.func135, Tryz.ntmps135
  go_wp2_with fail
  refine KI.out.mono ?_
  rintro e w3 ⟨rfl, hb3⟩
  have B3 := Lib.hid (B2.out.trans (hb3.mono B2.out.size))
  clear hb3 KI
  go_wp2
  go_ret
  exact ⟨rfl, B3.out⟩
end Go.Proofs.YtfpbdfagcfdbbaaGreat

namespace Go.Proofs.YtfpbdfagcfdbbaaGreat
open Go.RowKit

/-- Is there a node at that place that is not lost? -/
def tpB (l : List NodeD) (k : Int) : Bool := decide (0 ≤ k) && (match l[k.toNat]? with
  | none => false
  | some x => !x.lost)
set_option maxHeartbeats 1000000 in
theorem takes_any (A B C : Option Addr) (ca cb cc lb lc : Nat) (l : List NodeD) (k : Int) (w : World) (_hl : l.length ≤ 1000) (hk1 : -1 ≤ k) (hk2 : k ≤ 1000) (hs : La.SlAt w A (cellsN l)) :
    Calls Tryz.prog 136 #[.agg #[.slice A l.length ca, .slice B lb cb, .slice C lc cc], .int .i64 k] w fun e w' => e = .returned (.bool (tpB l k)) ∧ Below w.heap.size w w' := by
  have B0 := Lib.hid (below1 w (.cells #[.slice A l.length ca, .slice B lb cb, .slice C lc cc] 26))
  by_cases h0 : 0 ≤ k
  · obtain ⟨n, rfl⟩ : ∃ n : Nat, k = (n : Int) := ⟨k.toNat, by omega⟩
    by_cases hn : n < l.length
    · obtain ⟨x, hx⟩ : ∃ x, l[n]? = some x := ⟨l[n], List.getElem?_eq_getElem hn⟩
      obtain ⟨b, o, hA, hbl, c0, c1, c2, c3, c4, c5, c6, c7, c8, c9⟩ := atN (hs.below B0.out) hx
      subst hA
      have E : Hid (tpB l (n : Int) = !x.lost) := Lib.hid (by unfold tpB; rw [Int.toNat_natCast, hx]; simp)
      have n0 : (0 : Int) ≤ (n : Int) := by omega
      have n1 : (n : Int) < (l.length : Int) := by omega
      have hnot : ∀ (x : Bool) (w : World), (Op.unary .not (.bool x)).run Tryz.prog w = .ok (.bool (!x)) w := fun _ _ => rfl
      clear hs hx h0 c0 c1 c2 c3 c4 c5 c6 c7 c8
      go_enter Tryz.func136, Tryz.ntmps136
      go_wp2
      all_goals
        go_ret
        first
          | exact ⟨La.retB E.out.symm, B0.out⟩
          | exact ⟨La.retB (by rw [E.out]; simp_all), B0.out⟩
    · have E : Hid (tpB l (n : Int) = false) := Lib.hid (by unfold tpB; rw [Int.toNat_natCast, List.getElem?_eq_none (by omega)]; simp)
      have n0 : (0 : Int) ≤ (n : Int) := by omega
      have n1 : ¬ (n : Int) < (l.length : Int) := by omega
      clear hs h0 hn
      go_enter Tryz.func136, Tryz.ntmps136
      go_wp2
      go_ret
      exact ⟨La.retB E.out.symm, B0.out⟩
  · have E : Hid (tpB l k = false) := Lib.hid (by unfold tpB; rw [decide_eq_false h0]; rfl)
    clear hs
    go_enter Tryz.func136, Tryz.ntmps136
    go_wp2
    go_ret
    exact ⟨La.retB E.out.symm, B0.out⟩

def podB (x : PodD) : Bool := (Qu.chkV x.req == 0) && (La.chkA La.labB La.keyR x.labels == 0) && (La.chkA La.terB La.anyR x.whr == 0) && (La.chkA La.borB La.pairR x.bears == 0) && nearB x.wt x.wtm && nearB x.ap x.apm
set_option maxRecDepth 100000 in
set_option maxHeartbeats 2000000 in
theorem mayBePod_any (x : PodD) (w : World) (hx : x.fit w) :
    Calls Tryz.prog 107 #[valP x] w fun e w' => e = .returned (.bool (podB x)) ∧ Below w.heap.size w w' := by
  have KV := Lib.hid (fun w => Qu.vcheck_any x.req w)
  have K1 : Hid (∀ w', Below w.heap.size w w' → Calls Tryz.prog 131 #[.slice x.al x.labels.length x.cl] w' fun e w'' => e = .returned (.int .i64 (La.chkA La.labB La.keyR x.labels)) ∧ Below w'.heap.size w' w'') := Lib.hid (fun w' hb => by
    have h := hx.l.below hb
    exact La.check_anyW x.al x.cl x.labels w' h.le h.most h.cells h.big)
  have K2 : Hid (∀ w', Below w.heap.size w w' → Calls Tryz.prog 132 #[.slice x.aw x.whr.length x.cw] w' fun e w'' => e = .returned (.int .i64 (La.chkA La.terB La.anyR x.whr)) ∧ Below w'.heap.size w' w'') := Lib.hid (fun w' hb => by
    have h := hx.wh.below hb
    exact La.checkTerms_anyW x.aw x.cw x.whr w' h.le h.most h.cells h.big)
  have K3 : Hid (∀ w', Below w.heap.size w w' → Calls Tryz.prog 133 #[.slice x.ab x.bears.length x.cb] w' fun e w'' => e = .returned (.int .i64 (La.chkA La.borB La.pairR x.bears)) ∧ Below w'.heap.size w' w'') := Lib.hid (fun w' hb => by
    have h := hx.b.below hb
    exact La.checkBears_anyW x.ab x.cb x.bears w' h.le h.most h.cells h.big)
  have K4 : Hid (∀ w', Below w.heap.size w w' → Calls Tryz.prog 134 #[valNear x.wt x.wtm x.awt x.cwt] w' fun e w'' => e = .returned (.bool (nearB x.wt x.wtm)) ∧ Below w'.heap.size w' w'') := Lib.hid (fun w' hb => mayBeNear_any x.wt x.wtm x.awt x.cwt w' (hx.wt.below hb) hx.n.2.2.1)
  have K5 : Hid (∀ w', Below w.heap.size w w' → Calls Tryz.prog 134 #[valNear x.ap x.apm x.aap x.cap] w' fun e w'' => e = .returned (.bool (nearB x.ap x.apm)) ∧ Below w'.heap.size w' w'') := Lib.hid (fun w' hb => mayBeNear_any x.ap x.apm x.aap x.cap w' (hx.ap.below hb) hx.n.2.2.2.1)
  have B0 : Hid (Below w.heap.size w (w.alloc (.cells (cellsP [x]).toArray 69))) := Lib.hid (below1 w _)
  have Q0 : Hid (Blk (w.alloc (.cells (cellsP [x]).toArray 69)) w.heap.size (cellsP [x]).toArray 69) := Lib.hid (Blk.new w _ _)
  have hlt0 : w.heap.size < (w.alloc (.cells (cellsP [x]).toArray 69)).heap.size := Blk.lt Q0.out
  have E : Hid (podB x = ((Qu.chkV x.req == 0) && (La.chkA La.labB La.keyR x.labels == 0) && (La.chkA La.terB La.anyR x.whr == 0) && (La.chkA La.borB La.pairR x.bears == 0) && nearB x.wt x.wtm && nearB x.ap x.apm)) := Lib.hid rfl
  generalize podB x = R at E ⊢
  generalize Qu.chkV x.req = v1 at KV E
  generalize La.chkA La.labB La.keyR x.labels = v2 at K1 E
  generalize La.chkA La.terB La.anyR x.whr = v3 at K2 E
  generalize La.chkA La.borB La.pairR x.bears = v4 at K3 E
  generalize nearB x.wt x.wtm = v5 at K4 E
  generalize nearB x.ap x.apm = v6 at K5 E
  clear hx
  go_enter Tryz.func107, Tryz.ntmps107
  go_wp2_with fail
  refine (KV.out _).mono ?_
  rintro e w2 ⟨rfl, hb⟩
  have Q2 := Lib.hid (Q0.out.below hb hlt0)
  have B2 := Lib.hid (B0.out.trans (hb.mono (Nat.le_of_lt hlt0)))
  clear hb KV
  have hl2 := Blk.lt Q2.out
  have c7 : w2.cell? ⟨w.heap.size, 7, none⟩ = some (.slice x.al x.labels.length x.cl) := Blk.cell Q2.out 7
  cases h1 : (v1 == 0)
  · have HE : Hid (R = false) := Lib.hid (by rw [E.out, h1]; rfl)
    have h1' : (v1 != 0) = true := by simpa using h1
    go_wp2
    go_ret
    exact ⟨La.retB HE.out.symm, B2.out⟩
  have h1' : (v1 != 0) = false := by simpa using h1
  go_wp2_with fail
  refine (K1.out _ B2.out).mono ?_
  rintro e w3 ⟨rfl, hb⟩
  have Q3 := Lib.hid (Q2.out.below hb hl2)
  have B3 := Lib.hid (B2.out.trans (hb.mono (Nat.le_of_lt hl2)))
  clear hb K1 c7 Q2
  have hl3 := Blk.lt Q3.out
  have c8 : w3.cell? ⟨w.heap.size, 8, none⟩ = some (.slice x.aw x.whr.length x.cw) := Blk.cell Q3.out 8
  cases h2 : (v2 == 0)
  · have HE : Hid (R = false) := Lib.hid (by rw [E.out, h1, h2]; rfl)
    have h2' : (v2 != 0) = true := by simpa using h2
    go_wp2
    go_ret
    exact ⟨La.retB HE.out.symm, B3.out⟩
  have h2' : (v2 != 0) = false := by simpa using h2
  go_wp2_with fail
  refine (K2.out _ B3.out).mono ?_
  rintro e w4 ⟨rfl, hb⟩
  have Q4 := Lib.hid (Q3.out.below hb hl3)
  have B4 := Lib.hid (B3.out.trans (hb.mono (Nat.le_of_lt hl3)))
  clear hb K2 c8 Q3
  have hl4 := Blk.lt Q4.out
  have c9 : w4.cell? ⟨w.heap.size, 9, none⟩ = some (.slice x.ab x.bears.length x.cb) := Blk.cell Q4.out 9
  cases h3 : (v3 == 0)
  · have HE : Hid (R = false) := Lib.hid (by rw [E.out, h1, h2, h3]; rfl)
    have h3' : (v3 != 0) = true := by simpa using h3
    go_wp2
    go_ret
    exact ⟨La.retB HE.out.symm, B4.out⟩
  have h3' : (v3 != 0) = false := by simpa using h3
  go_wp2_with fail
  refine (K3.out _ B4.out).mono ?_
  rintro e w5 ⟨rfl, hb⟩
  have Q5 := Lib.hid (Q4.out.below hb hl4)
  have B5 := Lib.hid (B4.out.trans (hb.mono (Nat.le_of_lt hl4)))
  clear hb K3 c9 Q4
  have hl5 := Blk.lt Q5.out
  have c10 : w5.cell? ⟨w.heap.size, 10, none⟩ = some (strV x.wt) := Blk.cell Q5.out 10
  have c11 : w5.cell? ⟨w.heap.size, 11, none⟩ = some (.slice x.awt x.wtm.length x.cwt) := Blk.cell Q5.out 11
  cases h4 : (v4 == 0)
  · have HE : Hid (R = false) := Lib.hid (by rw [E.out, h1, h2, h3, h4]; rfl)
    have h4' : (v4 != 0) = true := by simpa using h4
    go_wp2
    go_ret
    exact ⟨La.retB HE.out.symm, B5.out⟩
  have h4' : (v4 != 0) = false := by simpa using h4
  go_wp2_with fail
  refine (K4.out _ B5.out).mono ?_
  rintro e w6 ⟨rfl, hb⟩
  have Q6 := Lib.hid (Q5.out.below hb hl5)
  have B6 := Lib.hid (B5.out.trans (hb.mono (Nat.le_of_lt hl5)))
  clear hb K4 c10 c11 Q5
  have hl6 := Blk.lt Q6.out
  have c12 : w6.cell? ⟨w.heap.size, 12, none⟩ = some (strV x.ap) := Blk.cell Q6.out 12
  have c13 : w6.cell? ⟨w.heap.size, 13, none⟩ = some (.slice x.aap x.apm.length x.cap) := Blk.cell Q6.out 13
  have HE0 : Hid (R = (v5 && v6)) := Lib.hid (by rw [E.out, h1, h2, h3, h4]; simp)
  clear h1 h2 h3 h4 h1' h2' h3' h4' E
  cases v5
  · have HE : Hid (R = false) := Lib.hid (by rw [HE0.out]; rfl)
    go_wp2
    go_ret
    exact ⟨La.retB HE.out.symm, B6.out⟩
  · go_wp2_with fail
    refine (K5.out _ B6.out).mono ?_
    rintro e w7 ⟨rfl, hb⟩
    have B7 := Lib.hid (B6.out.trans (hb.mono (Nat.le_of_lt hl6)))
    clear hb K5 c12 c13
    have HE : Hid (R = v6) := Lib.hid (by rw [HE0.out]; rfl)
    go_wp2
    go_ret
    exact ⟨La.retB HE.out.symm, B7.out⟩
end Go.Proofs.YtfpbdfagcfdbbaaGreat

namespace Go.Proofs.YtfpbdfagcfdbbaaGreat
open Go.RowKit

/-- A cluster lies in memory. -/
structure SnapAt (w : World) (A B C : Option Addr) (ca cb cc : Nat) (ns : List NodeD) (ps : List PodD) (os : List OwnD) : Prop where
  n : NodesAt w A ns
  p : PodsAt w B ps
  o : La.SlAt w C (cellsO os)
  fo : ∀ x ∈ os, x.fit
  ln : ns.length ≤ 1000
  lp : ps.length ≤ 1000
  lo : os.length ≤ 1000
  can : ns.length ≤ ca ∧ ca ≤ 9223372036854775807
  cap : ps.length ≤ cb ∧ cb ≤ 9223372036854775807
  cao : os.length ≤ cc ∧ cc ≤ 9223372036854775807
theorem SnapAt.below {w w' : World} {A B C : Option Addr} {ca cb cc : Nat} {ns : List NodeD} {ps : List PodD} {os : List OwnD} (h : SnapAt w A B C ca cb cc ns ps os) (hb : Below w.heap.size w w') : SnapAt w' A B C ca cb cc ns ps os :=
  ⟨h.n.below hb, h.p.below hb, h.o.below hb, h.fo, h.ln, h.lp, h.lo, h.can, h.cap, h.cao⟩
abbrev snapC (A B C : Option Addr) (ca cb cc : Nat) (ns : List NodeD) (ps : List PodD) (os : List OwnD) : Array Value := #[.slice A ns.length ca, .slice B ps.length cb, .slice C os.length cc]
abbrev snapV (A B C : Option Addr) (ca cb cc : Nat) (ns : List NodeD) (ps : List PodD) (os : List OwnD) : Value := .agg (snapC A B C ca cb cc ns ps os)

theorem idx_range (name : List UInt8) : ∀ l : List (List UInt8), -1 ≤ idxF name l ∧ idxF name l < l.length + 1
  | [] => by simp [idxF]
  | x :: t => by
    have := idx_range name t
    rw [idxF]
    simp only [List.length_cons]
    split
    · omega
    · split <;> omega

/-- Are there the owner and the node that a pod names? -/
def knownB (ns : List NodeD) (os : List OwnD) (x : PodD) : Bool := (decide (x.owner = []) || !(idxF x.owner (os.map (·.name)) == -1)) && (decide (x.on = []) || tpB ns (idxF x.on (ns.map (·.name))))

set_option maxRecDepth 100000 in
set_option maxHeartbeats 2000000 in
theorem known_ee (A B C : Option Addr) (ca cb cc : Nat) (ns : List NodeD) (ps : List PodD) (os : List OwnD) (w : World) (nm : List UInt8) (rq : Nat → Int) (lb : List L2) (wh : List T3) (br : List L2) (wt : List UInt8) (wtm : List T3) (ap : List UInt8) (apm : List T3) (al : Option Addr) (cl : Nat) (aw : Option Addr) (cw : Nat) (ab : Option Addr) (cb' : Nat) (awt : Option Addr) (cwt : Nat) (aap : Option Addr) (cap' : Nat) :
    Calls Tryz.prog 108 #[snapV A B C ca cb cc ns ps os, valP ⟨nm, [], rq, lb, wh, br, wt, wtm, ap, apm, [], al, cl, aw, cw, ab, cb', awt, cwt, aap, cap'⟩] w fun e w' => e = .returned (.bool true) ∧ Below w.heap.size w w' := by
  have B0 := Lib.hid (Qu.below2 w (.cells (snapC A B C ca cb cc ns ps os) 26) (.cells (cellsP [⟨nm, [], rq, lb, wh, br, wt, wtm, ap, apm, [], al, cl, aw, cw, ab, cb', awt, cwt, aap, cap'⟩]).toArray 69))
  have Q0 : Hid (Blk ((w.alloc (.cells (snapC A B C ca cb cc ns ps os) 26)).alloc (.cells (cellsP [⟨nm, [], rq, lb, wh, br, wt, wtm, ap, apm, [], al, cl, aw, cw, ab, cb', awt, cwt, aap, cap'⟩]).toArray 69)) w.heap.size (snapC A B C ca cb cc ns ps os) 26) := Lib.hid (Blk.alloc (Blk.new w _ _) _)
  have P0 : Hid (Blk ((w.alloc (.cells (snapC A B C ca cb cc ns ps os) 26)).alloc (.cells (cellsP [⟨nm, [], rq, lb, wh, br, wt, wtm, ap, apm, [], al, cl, aw, cw, ab, cb', awt, cwt, aap, cap'⟩]).toArray 69)) (w.heap.size + 1) (cellsP [⟨nm, [], rq, lb, wh, br, wt, wtm, ap, apm, [], al, cl, aw, cw, ab, cb', awt, cwt, aap, cap'⟩]).toArray 69) := Lib.hid (blk2 w _ _ _)
  go_enter Tryz.func108, Tryz.ntmps108
  go_wp2_with fail
  change Code.wp _ _ _ _ ((w.alloc (.cells (snapC A B C ca cb cc ns ps os) 26)).alloc (.cells (cellsP [⟨nm, [], rq, lb, wh, br, wt, wtm, ap, apm, [], al, cl, aw, cw, ab, cb', awt, cwt, aap, cap'⟩]).toArray 69))
  generalize ((w.alloc (.cells (snapC A B C ca cb cc ns ps os) 26)).alloc (.cells (cellsP [⟨nm, [], rq, lb, wh, br, wt, wtm, ap, apm, [], al, cl, aw, cw, ab, cb', awt, cwt, aap, cap'⟩]).toArray 69)) = W at B0 Q0 P0 ⊢
  have BD := Lib.hid (B0.out.drew)
  refine wp_region_held_drew (S := fun w' => w'.cell? ⟨w.heap.size, 0, none⟩ = some (.slice A ns.length ca) ∧ w'.cell? ⟨w.heap.size, 1, none⟩ = some (.slice B ps.length cb) ∧ w'.cell? ⟨w.heap.size, 2, none⟩ = some (.slice C os.length cc) ∧ w'.cell? ⟨w.heap.size + 1, 1, none⟩ = some (strV []) ∧ w'.cell? ⟨w.heap.size + 1, 14, none⟩ = some (strV [])) (by kernel_rfl) ⟨Blk.cell (show Blk W.drew _ _ _ from Q0.out) 0, Blk.cell (show Blk W.drew _ _ _ from Q0.out) 1, Blk.cell (show Blk W.drew _ _ _ from Q0.out) 2, Blk.cell (show Blk W.drew _ _ _ from P0.out) 1, Blk.cell (show Blk W.drew _ _ _ from P0.out) 14⟩ (fun hHeld0 => ?_)
  refine wpAnyH_take (i := 0) (oi := ⟨some 5, _, _, _, _, _⟩) (v := .pointer (some ⟨w.heap.size + 1, 1, none⟩)) rfl (by kernel_rfl) (by kernel_rfl) (by kernel_rfl) (fun _ _ _ h => h) (Or.inl ⟨by rfl, (fun w' hS => by (try dsimp only at hS); go_simp)⟩) (by assumption) ?_
  try simp only [Act.put, List.setIfInBounds_toArray, List.set_cons_zero, List.set_cons_succ]
  refine wpAnyH_take (i := 1) (oi := ⟨some 6, _, _, _, _, _⟩) (v := strV []) rfl (by kernel_rfl) (by kernel_rfl) (by kernel_rfl) (fun _ _ _ h => h) (Or.inl ⟨by rfl, (fun w' hS => by (try dsimp only at hS); go_simp)⟩) (by assumption) ?_
  try simp only [Act.put, List.setIfInBounds_toArray, List.set_cons_zero, List.set_cons_succ]
  refine wpAnyH_take (i := 2) (oi := ⟨some 7, _, _, _, _, _⟩) (v := .bool true) rfl (by kernel_rfl) (by kernel_rfl) (by kernel_rfl) (fun _ _ _ h => h) (Or.inl ⟨by rfl, (fun w' hS => by (try dsimp only at hS); go_simp)⟩) (by assumption) ?_
  try simp only [Act.put, List.setIfInBounds_toArray, List.set_cons_zero, List.set_cons_succ]
  refine wpAnyH_take (i := 3) (oi := ⟨some 8, _, _, _, _, _⟩) (v := .bool true) rfl (by kernel_rfl) (by kernel_rfl) (by kernel_rfl) (fun _ _ _ h => h) (Or.inl ⟨by rfl, (fun w' hS => by (try dsimp only at hS); go_simp)⟩) (by assumption) ?_
  try simp only [Act.put, List.setIfInBounds_toArray, List.set_cons_zero, List.set_cons_succ]
  refine wpAnyH_take (i := 4) (oi := ⟨some 9, _, _, _, _, _⟩) (v := undef) rfl (by kernel_rfl) (by kernel_rfl) (by kernel_rfl) (fun _ _ _ h => h) (Or.inr ⟨by rfl, rfl⟩) (by assumption) ?_
  try simp only [Act.put, List.setIfInBounds_toArray, List.set_cons_zero, List.set_cons_succ]
  refine wpAnyH_take (i := 5) (oi := ⟨some 10, _, _, _, _, _⟩) (v := undef) rfl (by kernel_rfl) (by kernel_rfl) (by kernel_rfl) (fun _ _ _ h => h) (Or.inr ⟨by rfl, rfl⟩) (by assumption) ?_
  try simp only [Act.put, List.setIfInBounds_toArray, List.set_cons_zero, List.set_cons_succ]
  refine wpAnyH_take (i := 6) (oi := ⟨some 11, _, _, _, _, _⟩) (v := undef) rfl (by kernel_rfl) (by kernel_rfl) (by kernel_rfl) (fun _ _ _ h => h) (Or.inr ⟨by rfl, rfl⟩) (by assumption) ?_
  try simp only [Act.put, List.setIfInBounds_toArray, List.set_cons_zero, List.set_cons_succ]
  refine wpAnyH_take (i := 7) (oi := ⟨some 12, _, _, _, _, _⟩) (v := undef) rfl (by kernel_rfl) (by kernel_rfl) (by kernel_rfl) (fun _ _ _ h => h) (Or.inr ⟨by rfl, rfl⟩) (by assumption) ?_
  try simp only [Act.put, List.setIfInBounds_toArray, List.set_cons_zero, List.set_cons_succ]
  refine wpAnyH_take (i := 8) (oi := ⟨some 13, _, _, _, _, _⟩) (v := undef) rfl (by kernel_rfl) (by kernel_rfl) (by kernel_rfl) (fun _ _ _ h => h) (Or.inr ⟨by rfl, rfl⟩) (by assumption) ?_
  try simp only [Act.put, List.setIfInBounds_toArray, List.set_cons_zero, List.set_cons_succ]
  refine wpAnyH_take (i := 9) (oi := ⟨some 14, _, _, _, _, _⟩) (v := .bool true) rfl (by kernel_rfl) (by kernel_rfl) (by kernel_rfl) (fun _ _ _ h => h) (Or.inl ⟨by rfl, (fun w' hS => by (try dsimp only at hS); go_simp)⟩) (by assumption) ?_
  try simp only [Act.put, List.setIfInBounds_toArray, List.set_cons_zero, List.set_cons_succ]
  refine wpAnyH_take (i := 10) (oi := ⟨some 15, _, _, _, _, _⟩) (v := .bool true) rfl (by kernel_rfl) (by kernel_rfl) (by kernel_rfl) (fun _ _ _ h => h) (Or.inl ⟨by rfl, (fun w' hS => by (try dsimp only at hS); go_simp)⟩) (by assumption) ?_
  try simp only [Act.put, List.setIfInBounds_toArray, List.set_cons_zero, List.set_cons_succ]
  refine wpAnyH_take (i := 11) (oi := ⟨some 16, _, _, _, _, _⟩) (v := .pointer (some ⟨w.heap.size + 1, 14, none⟩)) rfl (by kernel_rfl) (by kernel_rfl) (by kernel_rfl) (fun _ _ _ h => h) (Or.inl ⟨by rfl, (fun w' hS => by (try dsimp only at hS); go_simp)⟩) (by assumption) ?_
  try simp only [Act.put, List.setIfInBounds_toArray, List.set_cons_zero, List.set_cons_succ]
  refine wpAnyH_take (i := 12) (oi := ⟨some 17, _, _, _, _, _⟩) (v := strV []) rfl (by kernel_rfl) (by kernel_rfl) (by kernel_rfl) (fun _ _ _ h => h) (Or.inl ⟨by rfl, (fun w' hS => by (try dsimp only at hS); go_simp)⟩) (by assumption) ?_
  try simp only [Act.put, List.setIfInBounds_toArray, List.set_cons_zero, List.set_cons_succ]
  refine wpAnyH_take (i := 13) (oi := ⟨some 18, _, _, _, _, _⟩) (v := .bool true) rfl (by kernel_rfl) (by kernel_rfl) (by kernel_rfl) (fun _ _ _ h => h) (Or.inl ⟨by rfl, (fun w' hS => by (try dsimp only at hS); go_simp)⟩) (by assumption) ?_
  try simp only [Act.put, List.setIfInBounds_toArray, List.set_cons_zero, List.set_cons_succ]
  refine wpAnyH_take (i := 14) (oi := ⟨some 19, _, _, _, _, _⟩) (v := .bool true) rfl (by kernel_rfl) (by kernel_rfl) (by kernel_rfl) (fun _ _ _ h => h) (Or.inl ⟨by rfl, (fun w' hS => by (try dsimp only at hS); go_simp)⟩) (by assumption) ?_
  try simp only [Act.put, List.setIfInBounds_toArray, List.set_cons_zero, List.set_cons_succ]
  refine wpAnyH_take (i := 15) (oi := ⟨some 20, _, _, _, _, _⟩) (v := undef) rfl (by kernel_rfl) (by kernel_rfl) (by kernel_rfl) (fun _ _ _ h => h) (Or.inr ⟨by rfl, rfl⟩) (by assumption) ?_
  try simp only [Act.put, List.setIfInBounds_toArray, List.set_cons_zero, List.set_cons_succ]
  refine wpAnyH_take (i := 16) (oi := ⟨some 21, _, _, _, _, _⟩) (v := undef) rfl (by kernel_rfl) (by kernel_rfl) (by kernel_rfl) (fun _ _ _ h => h) (Or.inr ⟨by rfl, rfl⟩) (by assumption) ?_
  try simp only [Act.put, List.setIfInBounds_toArray, List.set_cons_zero, List.set_cons_succ]
  refine wpAnyH_take (i := 17) (oi := ⟨some 22, _, _, _, _, _⟩) (v := undef) rfl (by kernel_rfl) (by kernel_rfl) (by kernel_rfl) (fun _ _ _ h => h) (Or.inr ⟨by rfl, rfl⟩) (by assumption) ?_
  try simp only [Act.put, List.setIfInBounds_toArray, List.set_cons_zero, List.set_cons_succ]
  refine wpAnyH_take (i := 18) (oi := ⟨some 23, _, _, _, _, _⟩) (v := undef) rfl (by kernel_rfl) (by kernel_rfl) (by kernel_rfl) (fun _ _ _ h => h) (Or.inr ⟨by rfl, rfl⟩) (by assumption) ?_
  try simp only [Act.put, List.setIfInBounds_toArray, List.set_cons_zero, List.set_cons_succ]
  refine wpAnyH_take (i := 19) (oi := ⟨some 24, _, _, _, _, _⟩) (v := undef) rfl (by kernel_rfl) (by kernel_rfl) (by kernel_rfl) (fun _ _ _ h => h) (Or.inr ⟨by rfl, rfl⟩) (by assumption) ?_
  try simp only [Act.put, List.setIfInBounds_toArray, List.set_cons_zero, List.set_cons_succ]
  refine wpAnyH_take (i := 20) (oi := ⟨some 25, _, _, _, _, _⟩) (v := undef) rfl (by kernel_rfl) (by kernel_rfl) (by kernel_rfl) (fun _ _ _ h => h) (Or.inr ⟨by rfl, rfl⟩) (by assumption) ?_
  try simp only [Act.put, List.setIfInBounds_toArray, List.set_cons_zero, List.set_cons_succ]
  refine wpAnyH_take (i := 21) (oi := ⟨some 26, _, _, _, _, _⟩) (v := .bool true) rfl (by kernel_rfl) (by kernel_rfl) (by kernel_rfl) (fun _ _ _ h => h) (Or.inl ⟨by rfl, (fun w' hS => by (try dsimp only at hS); go_simp)⟩) (by assumption) ?_
  try simp only [Act.put, List.setIfInBounds_toArray, List.set_cons_zero, List.set_cons_succ]
  refine wpAnyH_take (i := 22) (oi := ⟨some 27, _, _, _, _, _⟩) (v := .bool true) rfl (by kernel_rfl) (by kernel_rfl) (by kernel_rfl) (fun _ _ _ h => h) (Or.inl ⟨by rfl, (fun w' hS => by (try dsimp only at hS); go_simp)⟩) (by assumption) ?_
  try simp only [Act.put, List.setIfInBounds_toArray, List.set_cons_zero, List.set_cons_succ]
  refine wpAnyH_take (i := 23) (oi := ⟨some 4, _, _, _, _, _⟩) (v := .bool true) rfl (by kernel_rfl) (by kernel_rfl) (by kernel_rfl) (fun _ _ _ h => h) (Or.inl ⟨by rfl, (fun w' hS => by (try dsimp only at hS); go_simp)⟩) (by assumption) ?_
  try simp only [Act.put, List.setIfInBounds_toArray, List.set_cons_zero, List.set_cons_succ]
  refine wpAnyH_done (by kernel_rfl) ?_ _
  clear hHeld0
  go_wp2_with fail
  go_ret
  exact ⟨La.retB rfl, BD.out⟩

set_option maxRecDepth 100000 in
set_option maxHeartbeats 2000000 in
theorem known_en (A B C : Option Addr) (ca cb cc : Nat) (ns : List NodeD) (ps : List PodD) (os : List OwnD) (w : World) (nm : List UInt8) (rq : Nat → Int) (lb : List L2) (wh : List T3) (br : List L2) (wt : List UInt8) (wtm : List T3) (ap : List UInt8) (apm : List T3) (al : Option Addr) (cl : Nat) (aw : Option Addr) (cw : Nat) (ab : Option Addr) (cb' : Nat) (awt : Option Addr) (cwt : Nat) (aap : Option Addr) (cap' : Nat) (b0 : UInt8) (u0 : List UInt8) (i2 : Int) (b2 : Bool) (kn : ∀ w', Below w.heap.size w w' → Calls Tryz.prog 137 #[snapV A B C ca cb cc ns ps os, strV (b0 :: u0)] w' fun e w'' => e = .returned (.int .i64 i2) ∧ Below w'.heap.size w' w'') (kt : ∀ w', Below w.heap.size w w' → Calls Tryz.prog 136 #[snapV A B C ca cb cc ns ps os, .int .i64 i2] w' fun e w'' => e = .returned (.bool b2) ∧ Below w'.heap.size w' w'') :
    Calls Tryz.prog 108 #[snapV A B C ca cb cc ns ps os, valP ⟨nm, [], rq, lb, wh, br, wt, wtm, ap, apm, (b0 :: u0), al, cl, aw, cw, ab, cb', awt, cwt, aap, cap'⟩] w fun e w' => e = .returned (.bool b2) ∧ Below w.heap.size w w' := by
  have B0 := Lib.hid (Qu.below2 w (.cells (snapC A B C ca cb cc ns ps os) 26) (.cells (cellsP [⟨nm, [], rq, lb, wh, br, wt, wtm, ap, apm, (b0 :: u0), al, cl, aw, cw, ab, cb', awt, cwt, aap, cap'⟩]).toArray 69))
  have Q0 : Hid (Blk ((w.alloc (.cells (snapC A B C ca cb cc ns ps os) 26)).alloc (.cells (cellsP [⟨nm, [], rq, lb, wh, br, wt, wtm, ap, apm, (b0 :: u0), al, cl, aw, cw, ab, cb', awt, cwt, aap, cap'⟩]).toArray 69)) w.heap.size (snapC A B C ca cb cc ns ps os) 26) := Lib.hid (Blk.alloc (Blk.new w _ _) _)
  have P0 : Hid (Blk ((w.alloc (.cells (snapC A B C ca cb cc ns ps os) 26)).alloc (.cells (cellsP [⟨nm, [], rq, lb, wh, br, wt, wtm, ap, apm, (b0 :: u0), al, cl, aw, cw, ab, cb', awt, cwt, aap, cap'⟩]).toArray 69)) (w.heap.size + 1) (cellsP [⟨nm, [], rq, lb, wh, br, wt, wtm, ap, apm, (b0 :: u0), al, cl, aw, cw, ab, cb', awt, cwt, aap, cap'⟩]).toArray 69) := Lib.hid (blk2 w _ _ _)
  have KN := Lib.hid kn
  have KT := Lib.hid kt
  clear kn kt
  go_enter Tryz.func108, Tryz.ntmps108
  go_wp2_with fail
  change Code.wp _ _ _ _ ((w.alloc (.cells (snapC A B C ca cb cc ns ps os) 26)).alloc (.cells (cellsP [⟨nm, [], rq, lb, wh, br, wt, wtm, ap, apm, (b0 :: u0), al, cl, aw, cw, ab, cb', awt, cwt, aap, cap'⟩]).toArray 69))
  generalize ((w.alloc (.cells (snapC A B C ca cb cc ns ps os) 26)).alloc (.cells (cellsP [⟨nm, [], rq, lb, wh, br, wt, wtm, ap, apm, (b0 :: u0), al, cl, aw, cw, ab, cb', awt, cwt, aap, cap'⟩]).toArray 69)) = W at B0 Q0 P0 ⊢
  have BD := Lib.hid (B0.out.drew)
  refine wp_region_held_drew (S := fun w' => w'.cell? ⟨w.heap.size, 0, none⟩ = some (.slice A ns.length ca) ∧ w'.cell? ⟨w.heap.size, 1, none⟩ = some (.slice B ps.length cb) ∧ w'.cell? ⟨w.heap.size, 2, none⟩ = some (.slice C os.length cc) ∧ w'.cell? ⟨w.heap.size + 1, 1, none⟩ = some (strV []) ∧ w'.cell? ⟨w.heap.size + 1, 14, none⟩ = some (strV (b0 :: u0))) (by kernel_rfl) ⟨Blk.cell (show Blk W.drew _ _ _ from Q0.out) 0, Blk.cell (show Blk W.drew _ _ _ from Q0.out) 1, Blk.cell (show Blk W.drew _ _ _ from Q0.out) 2, Blk.cell (show Blk W.drew _ _ _ from P0.out) 1, Blk.cell (show Blk W.drew _ _ _ from P0.out) 14⟩ (fun hHeld0 => ?_)
  refine wpAnyH_take (i := 0) (oi := ⟨some 5, _, _, _, _, _⟩) (v := .pointer (some ⟨w.heap.size + 1, 1, none⟩)) rfl (by kernel_rfl) (by kernel_rfl) (by kernel_rfl) (fun _ _ _ h => h) (Or.inl ⟨by rfl, (fun w' hS => by (try dsimp only at hS); go_simp)⟩) (by assumption) ?_
  try simp only [Act.put, List.setIfInBounds_toArray, List.set_cons_zero, List.set_cons_succ]
  refine wpAnyH_take (i := 1) (oi := ⟨some 6, _, _, _, _, _⟩) (v := strV []) rfl (by kernel_rfl) (by kernel_rfl) (by kernel_rfl) (fun _ _ _ h => h) (Or.inl ⟨by rfl, (fun w' hS => by (try dsimp only at hS); go_simp)⟩) (by assumption) ?_
  try simp only [Act.put, List.setIfInBounds_toArray, List.set_cons_zero, List.set_cons_succ]
  refine wpAnyH_take (i := 2) (oi := ⟨some 7, _, _, _, _, _⟩) (v := .bool true) rfl (by kernel_rfl) (by kernel_rfl) (by kernel_rfl) (fun _ _ _ h => h) (Or.inl ⟨by rfl, (fun w' hS => by (try dsimp only at hS); go_simp)⟩) (by assumption) ?_
  try simp only [Act.put, List.setIfInBounds_toArray, List.set_cons_zero, List.set_cons_succ]
  refine wpAnyH_take (i := 3) (oi := ⟨some 8, _, _, _, _, _⟩) (v := .bool true) rfl (by kernel_rfl) (by kernel_rfl) (by kernel_rfl) (fun _ _ _ h => h) (Or.inl ⟨by rfl, (fun w' hS => by (try dsimp only at hS); go_simp)⟩) (by assumption) ?_
  try simp only [Act.put, List.setIfInBounds_toArray, List.set_cons_zero, List.set_cons_succ]
  refine wpAnyH_take (i := 4) (oi := ⟨some 9, _, _, _, _, _⟩) (v := undef) rfl (by kernel_rfl) (by kernel_rfl) (by kernel_rfl) (fun _ _ _ h => h) (Or.inr ⟨by rfl, rfl⟩) (by assumption) ?_
  try simp only [Act.put, List.setIfInBounds_toArray, List.set_cons_zero, List.set_cons_succ]
  refine wpAnyH_take (i := 5) (oi := ⟨some 10, _, _, _, _, _⟩) (v := undef) rfl (by kernel_rfl) (by kernel_rfl) (by kernel_rfl) (fun _ _ _ h => h) (Or.inr ⟨by rfl, rfl⟩) (by assumption) ?_
  try simp only [Act.put, List.setIfInBounds_toArray, List.set_cons_zero, List.set_cons_succ]
  refine wpAnyH_take (i := 6) (oi := ⟨some 11, _, _, _, _, _⟩) (v := undef) rfl (by kernel_rfl) (by kernel_rfl) (by kernel_rfl) (fun _ _ _ h => h) (Or.inr ⟨by rfl, rfl⟩) (by assumption) ?_
  try simp only [Act.put, List.setIfInBounds_toArray, List.set_cons_zero, List.set_cons_succ]
  refine wpAnyH_take (i := 7) (oi := ⟨some 12, _, _, _, _, _⟩) (v := undef) rfl (by kernel_rfl) (by kernel_rfl) (by kernel_rfl) (fun _ _ _ h => h) (Or.inr ⟨by rfl, rfl⟩) (by assumption) ?_
  try simp only [Act.put, List.setIfInBounds_toArray, List.set_cons_zero, List.set_cons_succ]
  refine wpAnyH_take (i := 8) (oi := ⟨some 13, _, _, _, _, _⟩) (v := undef) rfl (by kernel_rfl) (by kernel_rfl) (by kernel_rfl) (fun _ _ _ h => h) (Or.inr ⟨by rfl, rfl⟩) (by assumption) ?_
  try simp only [Act.put, List.setIfInBounds_toArray, List.set_cons_zero, List.set_cons_succ]
  refine wpAnyH_take (i := 9) (oi := ⟨some 14, _, _, _, _, _⟩) (v := .bool true) rfl (by kernel_rfl) (by kernel_rfl) (by kernel_rfl) (fun _ _ _ h => h) (Or.inl ⟨by rfl, (fun w' hS => by (try dsimp only at hS); go_simp)⟩) (by assumption) ?_
  try simp only [Act.put, List.setIfInBounds_toArray, List.set_cons_zero, List.set_cons_succ]
  refine wpAnyH_take (i := 10) (oi := ⟨some 15, _, _, _, _, _⟩) (v := .bool true) rfl (by kernel_rfl) (by kernel_rfl) (by kernel_rfl) (fun _ _ _ h => h) (Or.inl ⟨by rfl, (fun w' hS => by (try dsimp only at hS); go_simp)⟩) (by assumption) ?_
  try simp only [Act.put, List.setIfInBounds_toArray, List.set_cons_zero, List.set_cons_succ]
  refine wpAnyH_take (i := 11) (oi := ⟨some 16, _, _, _, _, _⟩) (v := .pointer (some ⟨w.heap.size + 1, 14, none⟩)) rfl (by kernel_rfl) (by kernel_rfl) (by kernel_rfl) (fun _ _ _ h => h) (Or.inl ⟨by rfl, (fun w' hS => by (try dsimp only at hS); go_simp)⟩) (by assumption) ?_
  try simp only [Act.put, List.setIfInBounds_toArray, List.set_cons_zero, List.set_cons_succ]
  refine wpAnyH_take (i := 12) (oi := ⟨some 17, _, _, _, _, _⟩) (v := strV (b0 :: u0)) rfl (by kernel_rfl) (by kernel_rfl) (by kernel_rfl) (fun _ _ _ h => h) (Or.inl ⟨by rfl, (fun w' hS => by (try dsimp only at hS); go_simp)⟩) (by assumption) ?_
  try simp only [Act.put, List.setIfInBounds_toArray, List.set_cons_zero, List.set_cons_succ]
  refine wpAnyH_take (i := 13) (oi := ⟨some 18, _, _, _, _, _⟩) (v := .bool false) rfl (by kernel_rfl) (by kernel_rfl) (by kernel_rfl) (fun _ _ _ h => h) (Or.inl ⟨by rfl, (fun w' hS => by (try dsimp only at hS); go_simp)⟩) (by assumption) ?_
  try simp only [Act.put, List.setIfInBounds_toArray, List.set_cons_zero, List.set_cons_succ]
  refine wpAnyH_take (i := 14) (oi := ⟨some 19, _, _, _, _, _⟩) (v := .bool false) rfl (by kernel_rfl) (by kernel_rfl) (by kernel_rfl) (fun _ _ _ h => h) (Or.inl ⟨by rfl, (fun w' hS => by (try dsimp only at hS); go_simp)⟩) (by assumption) ?_
  try simp only [Act.put, List.setIfInBounds_toArray, List.set_cons_zero, List.set_cons_succ]
  refine wpAnyH_take (i := 15) (oi := ⟨some 20, _, _, _, _, _⟩) (v := snapV A B C ca cb cc ns ps os) rfl (by kernel_rfl) (by kernel_rfl) (by kernel_rfl) (fun _ _ _ h => h) (Or.inl ⟨by rfl, (fun w' hS => by (try dsimp only at hS); go_simp)⟩) (by assumption) ?_
  try simp only [Act.put, List.setIfInBounds_toArray, List.set_cons_zero, List.set_cons_succ]
  refine wpAnyH_take (i := 16) (oi := ⟨some 21, _, _, _, _, _⟩) (v := snapV A B C ca cb cc ns ps os) rfl (by kernel_rfl) (by kernel_rfl) (by kernel_rfl) (fun _ _ _ h => h) (Or.inl ⟨by rfl, (fun w' hS => by (try dsimp only at hS); go_simp)⟩) (by assumption) ?_
  try simp only [Act.put, List.setIfInBounds_toArray, List.set_cons_zero, List.set_cons_succ]
  refine wpAnyH_take (i := 17) (oi := ⟨some 22, _, _, _, _, _⟩) (v := .pointer (some ⟨w.heap.size + 1, 14, none⟩)) rfl (by kernel_rfl) (by kernel_rfl) (by kernel_rfl) (fun _ _ _ h => h) (Or.inl ⟨by rfl, (fun w' hS => by (try dsimp only at hS); go_simp)⟩) (by assumption) ?_
  try simp only [Act.put, List.setIfInBounds_toArray, List.set_cons_zero, List.set_cons_succ]
  refine wpAnyH_take (i := 18) (oi := ⟨some 23, _, _, _, _, _⟩) (v := strV (b0 :: u0)) rfl (by kernel_rfl) (by kernel_rfl) (by kernel_rfl) (fun _ _ _ h => h) (Or.inl ⟨by rfl, (fun w' hS => by (try dsimp only at hS); go_simp)⟩) (by assumption) ?_
  try simp only [Act.put, List.setIfInBounds_toArray, List.set_cons_zero, List.set_cons_succ]
  refine wpAnyH_ready (rs := [19]) (by kernel_rfl) (by simp) ?_
  refine AllReadyH.cons (o := { dst := some 24, op := Op.call { callee := Callee.value (Operand.func 137), args := #[Operand.tmp 21, Operand.tmp 23], argTypes := #[26, 9] }, type := 3, pos := "check.go:60", after := #[{ on := 16, ground := Ground.data }, { on := 18, ground := Ground.data }, { on := 14, ground := Ground.chain }, { on := 14, ground := Ground.guard }], guard := some (14, false) }) rfl (fun K2 hK => ?_) AllReadyH.nil
  rw [if_pos (by rfl)]
  go_simp
  refine (KN.out _ BD.out).mono ?_
  rintro e w1 ⟨rfl, hb1⟩
  have B1 := Lib.hid (BD.out.trans (hb1.mono BD.out.size))
  have Q1 := Lib.hid (Blk.below (show Blk W.drew _ _ _ from Q0.out) hb1 (Nat.lt_trans (Nat.lt_succ_self _) (Blk.lt P0.out)))
  have P1 := Lib.hid (Blk.below (show Blk W.drew _ _ _ from P0.out) hb1 (Blk.lt P0.out))
  clear hb1
  refine hK.out _ _ ⟨Blk.cell Q1.out 0, Blk.cell Q1.out 1, Blk.cell Q1.out 2, Blk.cell P1.out 1, Blk.cell P1.out 14⟩ (fun hHeld1 => ?_)
  clear hK K2 hHeld0
  try simp only [Act.put, List.setIfInBounds_toArray, List.set_cons_zero, List.set_cons_succ]
  refine wpAnyH_ready (rs := [20]) (by kernel_rfl) (by simp) ?_
  refine AllReadyH.cons (o := { dst := some 25, op := Op.call { callee := Callee.value (Operand.func 136), args := #[Operand.tmp 20, Operand.tmp 24], argTypes := #[26, 3] }, type := 4, pos := "check.go:60", after := #[{ on := 15, ground := Ground.data }, { on := 19, ground := Ground.data }, { on := 19, ground := Ground.chain }, { on := 14, ground := Ground.guard }], guard := some (14, false) }) rfl (fun K2 hK => ?_) AllReadyH.nil
  rw [if_pos (by rfl)]
  go_simp
  refine (KT.out _ B1.out).mono ?_
  rintro e w2 ⟨rfl, hb2⟩
  have B2 := Lib.hid (B1.out.trans (hb2.mono B1.out.size))
  have Q2 := Lib.hid (Blk.below (show Blk w1 _ _ _ from Q1.out) hb2 (Nat.lt_trans (Nat.lt_succ_self _) (Blk.lt P1.out)))
  have P2 := Lib.hid (Blk.below (show Blk w1 _ _ _ from P1.out) hb2 (Blk.lt P1.out))
  clear hb2
  refine hK.out _ _ ⟨Blk.cell Q2.out 0, Blk.cell Q2.out 1, Blk.cell Q2.out 2, Blk.cell P2.out 1, Blk.cell P2.out 14⟩ (fun hHeld2 => ?_)
  clear hK K2 hHeld1
  try simp only [Act.put, List.setIfInBounds_toArray, List.set_cons_zero, List.set_cons_succ]
  refine wpAnyH_take (i := 21) (oi := ⟨some 26, _, _, _, _, _⟩) (v := .bool b2) rfl (by kernel_rfl) (by kernel_rfl) (by kernel_rfl) (fun _ _ _ h => h) (Or.inl ⟨by rfl, (fun w' hS => by (try dsimp only at hS); go_simp)⟩) (by assumption) ?_
  try simp only [Act.put, List.setIfInBounds_toArray, List.set_cons_zero, List.set_cons_succ]
  refine wpAnyH_take (i := 22) (oi := ⟨some 27, _, _, _, _, _⟩) (v := .bool b2) rfl (by kernel_rfl) (by kernel_rfl) (by kernel_rfl) (fun _ _ _ h => h) (Or.inl ⟨by rfl, (fun w' hS => by (try dsimp only at hS); go_simp)⟩) (by assumption) ?_
  try simp only [Act.put, List.setIfInBounds_toArray, List.set_cons_zero, List.set_cons_succ]
  refine wpAnyH_take (i := 23) (oi := ⟨some 4, _, _, _, _, _⟩) (v := .bool b2) rfl (by kernel_rfl) (by kernel_rfl) (by kernel_rfl) (fun _ _ _ h => h) (Or.inl ⟨by rfl, (fun w' hS => by (try dsimp only at hS); go_simp)⟩) (by assumption) ?_
  try simp only [Act.put, List.setIfInBounds_toArray, List.set_cons_zero, List.set_cons_succ]
  refine wpAnyH_done (by kernel_rfl) ?_ _
  clear hHeld2
  go_wp2_with fail
  go_ret
  exact ⟨La.retB rfl, B2.out⟩

set_option maxRecDepth 100000 in
set_option maxHeartbeats 2000000 in
theorem known_ne (A B C : Option Addr) (ca cb cc : Nat) (ns : List NodeD) (ps : List PodD) (os : List OwnD) (w : World) (nm : List UInt8) (rq : Nat → Int) (lb : List L2) (wh : List T3) (br : List L2) (wt : List UInt8) (wtm : List T3) (ap : List UInt8) (apm : List T3) (al : Option Addr) (cl : Nat) (aw : Option Addr) (cw : Nat) (ab : Option Addr) (cb' : Nat) (awt : Option Addr) (cwt : Nat) (aap : Option Addr) (cap' : Nat) (c0 : UInt8) (v0 : List UInt8) (i1 : Int) (ko : ∀ w', Below w.heap.size w w' → Calls Tryz.prog 135 #[snapV A B C ca cb cc ns ps os, strV (c0 :: v0)] w' fun e w'' => e = .returned (.int .i64 i1) ∧ Below w'.heap.size w' w'') (hi : i1 ≠ -1) :
    Calls Tryz.prog 108 #[snapV A B C ca cb cc ns ps os, valP ⟨nm, (c0 :: v0), rq, lb, wh, br, wt, wtm, ap, apm, [], al, cl, aw, cw, ab, cb', awt, cwt, aap, cap'⟩] w fun e w' => e = .returned (.bool true) ∧ Below w.heap.size w w' := by
  have B0 := Lib.hid (Qu.below2 w (.cells (snapC A B C ca cb cc ns ps os) 26) (.cells (cellsP [⟨nm, (c0 :: v0), rq, lb, wh, br, wt, wtm, ap, apm, [], al, cl, aw, cw, ab, cb', awt, cwt, aap, cap'⟩]).toArray 69))
  have Q0 : Hid (Blk ((w.alloc (.cells (snapC A B C ca cb cc ns ps os) 26)).alloc (.cells (cellsP [⟨nm, (c0 :: v0), rq, lb, wh, br, wt, wtm, ap, apm, [], al, cl, aw, cw, ab, cb', awt, cwt, aap, cap'⟩]).toArray 69)) w.heap.size (snapC A B C ca cb cc ns ps os) 26) := Lib.hid (Blk.alloc (Blk.new w _ _) _)
  have P0 : Hid (Blk ((w.alloc (.cells (snapC A B C ca cb cc ns ps os) 26)).alloc (.cells (cellsP [⟨nm, (c0 :: v0), rq, lb, wh, br, wt, wtm, ap, apm, [], al, cl, aw, cw, ab, cb', awt, cwt, aap, cap'⟩]).toArray 69)) (w.heap.size + 1) (cellsP [⟨nm, (c0 :: v0), rq, lb, wh, br, wt, wtm, ap, apm, [], al, cl, aw, cw, ab, cb', awt, cwt, aap, cap'⟩]).toArray 69) := Lib.hid (blk2 w _ _ _)
  have KO := Lib.hid ko
  clear ko
  go_enter Tryz.func108, Tryz.ntmps108
  go_wp2_with fail
  change Code.wp _ _ _ _ ((w.alloc (.cells (snapC A B C ca cb cc ns ps os) 26)).alloc (.cells (cellsP [⟨nm, (c0 :: v0), rq, lb, wh, br, wt, wtm, ap, apm, [], al, cl, aw, cw, ab, cb', awt, cwt, aap, cap'⟩]).toArray 69))
  generalize ((w.alloc (.cells (snapC A B C ca cb cc ns ps os) 26)).alloc (.cells (cellsP [⟨nm, (c0 :: v0), rq, lb, wh, br, wt, wtm, ap, apm, [], al, cl, aw, cw, ab, cb', awt, cwt, aap, cap'⟩]).toArray 69)) = W at B0 Q0 P0 ⊢
  have BD := Lib.hid (B0.out.drew)
  refine wp_region_held_drew (S := fun w' => w'.cell? ⟨w.heap.size, 0, none⟩ = some (.slice A ns.length ca) ∧ w'.cell? ⟨w.heap.size, 1, none⟩ = some (.slice B ps.length cb) ∧ w'.cell? ⟨w.heap.size, 2, none⟩ = some (.slice C os.length cc) ∧ w'.cell? ⟨w.heap.size + 1, 1, none⟩ = some (strV (c0 :: v0)) ∧ w'.cell? ⟨w.heap.size + 1, 14, none⟩ = some (strV [])) (by kernel_rfl) ⟨Blk.cell (show Blk W.drew _ _ _ from Q0.out) 0, Blk.cell (show Blk W.drew _ _ _ from Q0.out) 1, Blk.cell (show Blk W.drew _ _ _ from Q0.out) 2, Blk.cell (show Blk W.drew _ _ _ from P0.out) 1, Blk.cell (show Blk W.drew _ _ _ from P0.out) 14⟩ (fun hHeld0 => ?_)
  refine wpAnyH_take (i := 0) (oi := ⟨some 5, _, _, _, _, _⟩) (v := .pointer (some ⟨w.heap.size + 1, 1, none⟩)) rfl (by kernel_rfl) (by kernel_rfl) (by kernel_rfl) (fun _ _ _ h => h) (Or.inl ⟨by rfl, (fun w' hS => by (try dsimp only at hS); go_simp)⟩) (by assumption) ?_
  try simp only [Act.put, List.setIfInBounds_toArray, List.set_cons_zero, List.set_cons_succ]
  refine wpAnyH_take (i := 1) (oi := ⟨some 6, _, _, _, _, _⟩) (v := strV (c0 :: v0)) rfl (by kernel_rfl) (by kernel_rfl) (by kernel_rfl) (fun _ _ _ h => h) (Or.inl ⟨by rfl, (fun w' hS => by (try dsimp only at hS); go_simp)⟩) (by assumption) ?_
  try simp only [Act.put, List.setIfInBounds_toArray, List.set_cons_zero, List.set_cons_succ]
  refine wpAnyH_take (i := 2) (oi := ⟨some 7, _, _, _, _, _⟩) (v := .bool false) rfl (by kernel_rfl) (by kernel_rfl) (by kernel_rfl) (fun _ _ _ h => h) (Or.inl ⟨by rfl, (fun w' hS => by (try dsimp only at hS); go_simp)⟩) (by assumption) ?_
  try simp only [Act.put, List.setIfInBounds_toArray, List.set_cons_zero, List.set_cons_succ]
  refine wpAnyH_take (i := 3) (oi := ⟨some 8, _, _, _, _, _⟩) (v := .bool false) rfl (by kernel_rfl) (by kernel_rfl) (by kernel_rfl) (fun _ _ _ h => h) (Or.inl ⟨by rfl, (fun w' hS => by (try dsimp only at hS); go_simp)⟩) (by assumption) ?_
  try simp only [Act.put, List.setIfInBounds_toArray, List.set_cons_zero, List.set_cons_succ]
  refine wpAnyH_take (i := 4) (oi := ⟨some 9, _, _, _, _, _⟩) (v := snapV A B C ca cb cc ns ps os) rfl (by kernel_rfl) (by kernel_rfl) (by kernel_rfl) (fun _ _ _ h => h) (Or.inl ⟨by rfl, (fun w' hS => by (try dsimp only at hS); go_simp)⟩) (by assumption) ?_
  try simp only [Act.put, List.setIfInBounds_toArray, List.set_cons_zero, List.set_cons_succ]
  refine wpAnyH_take (i := 5) (oi := ⟨some 10, _, _, _, _, _⟩) (v := .pointer (some ⟨w.heap.size + 1, 1, none⟩)) rfl (by kernel_rfl) (by kernel_rfl) (by kernel_rfl) (fun _ _ _ h => h) (Or.inl ⟨by rfl, (fun w' hS => by (try dsimp only at hS); go_simp)⟩) (by assumption) ?_
  try simp only [Act.put, List.setIfInBounds_toArray, List.set_cons_zero, List.set_cons_succ]
  refine wpAnyH_take (i := 6) (oi := ⟨some 11, _, _, _, _, _⟩) (v := strV (c0 :: v0)) rfl (by kernel_rfl) (by kernel_rfl) (by kernel_rfl) (fun _ _ _ h => h) (Or.inl ⟨by rfl, (fun w' hS => by (try dsimp only at hS); go_simp)⟩) (by assumption) ?_
  try simp only [Act.put, List.setIfInBounds_toArray, List.set_cons_zero, List.set_cons_succ]
  refine wpAnyH_ready (rs := [7]) (by kernel_rfl) (by simp) ?_
  refine AllReadyH.cons (o := { dst := some 12, op := Op.call { callee := Callee.value (Operand.func 135), args := #[Operand.tmp 9, Operand.tmp 11], argTypes := #[26, 9] }, type := 3, pos := "check.go:60", after := #[{ on := 4, ground := Ground.data }, { on := 6, ground := Ground.data }, { on := 3, ground := Ground.chain }, { on := 3, ground := Ground.guard }], guard := some (3, false) }) rfl (fun K2 hK => ?_) AllReadyH.nil
  rw [if_pos (by rfl)]
  go_simp
  refine (KO.out _ BD.out).mono ?_
  rintro e w1 ⟨rfl, hb1⟩
  have B1 := Lib.hid (BD.out.trans (hb1.mono BD.out.size))
  have Q1 := Lib.hid (Blk.below (show Blk W.drew _ _ _ from Q0.out) hb1 (Nat.lt_trans (Nat.lt_succ_self _) (Blk.lt P0.out)))
  have P1 := Lib.hid (Blk.below (show Blk W.drew _ _ _ from P0.out) hb1 (Blk.lt P0.out))
  clear hb1
  refine hK.out _ _ ⟨Blk.cell Q1.out 0, Blk.cell Q1.out 1, Blk.cell Q1.out 2, Blk.cell P1.out 1, Blk.cell P1.out 14⟩ (fun hHeld1 => ?_)
  clear hK K2 hHeld0
  try simp only [Act.put, List.setIfInBounds_toArray, List.set_cons_zero, List.set_cons_succ]
  refine wpAnyH_take (i := 8) (oi := ⟨some 13, _, _, _, _, _⟩) (v := .bool true) rfl (by kernel_rfl) (by kernel_rfl) (by kernel_rfl) (fun _ _ _ h => h) (Or.inl ⟨by rfl, (fun w' hS => by (try dsimp only at hS); go_simp)⟩) (by assumption) ?_
  try simp only [Act.put, List.setIfInBounds_toArray, List.set_cons_zero, List.set_cons_succ]
  refine wpAnyH_take (i := 9) (oi := ⟨some 14, _, _, _, _, _⟩) (v := .bool true) rfl (by kernel_rfl) (by kernel_rfl) (by kernel_rfl) (fun _ _ _ h => h) (Or.inl ⟨by rfl, (fun w' hS => by (try dsimp only at hS); go_simp)⟩) (by assumption) ?_
  try simp only [Act.put, List.setIfInBounds_toArray, List.set_cons_zero, List.set_cons_succ]
  refine wpAnyH_take (i := 10) (oi := ⟨some 15, _, _, _, _, _⟩) (v := .bool true) rfl (by kernel_rfl) (by kernel_rfl) (by kernel_rfl) (fun _ _ _ h => h) (Or.inl ⟨by rfl, (fun w' hS => by (try dsimp only at hS); go_simp)⟩) (by assumption) ?_
  try simp only [Act.put, List.setIfInBounds_toArray, List.set_cons_zero, List.set_cons_succ]
  refine wpAnyH_take (i := 11) (oi := ⟨some 16, _, _, _, _, _⟩) (v := .pointer (some ⟨w.heap.size + 1, 14, none⟩)) rfl (by kernel_rfl) (by kernel_rfl) (by kernel_rfl) (fun _ _ _ h => h) (Or.inl ⟨by rfl, (fun w' hS => by (try dsimp only at hS); go_simp)⟩) (by assumption) ?_
  try simp only [Act.put, List.setIfInBounds_toArray, List.set_cons_zero, List.set_cons_succ]
  refine wpAnyH_take (i := 12) (oi := ⟨some 17, _, _, _, _, _⟩) (v := strV []) rfl (by kernel_rfl) (by kernel_rfl) (by kernel_rfl) (fun _ _ _ h => h) (Or.inl ⟨by rfl, (fun w' hS => by (try dsimp only at hS); go_simp)⟩) (by assumption) ?_
  try simp only [Act.put, List.setIfInBounds_toArray, List.set_cons_zero, List.set_cons_succ]
  refine wpAnyH_take (i := 13) (oi := ⟨some 18, _, _, _, _, _⟩) (v := .bool true) rfl (by kernel_rfl) (by kernel_rfl) (by kernel_rfl) (fun _ _ _ h => h) (Or.inl ⟨by rfl, (fun w' hS => by (try dsimp only at hS); go_simp)⟩) (by assumption) ?_
  try simp only [Act.put, List.setIfInBounds_toArray, List.set_cons_zero, List.set_cons_succ]
  refine wpAnyH_take (i := 14) (oi := ⟨some 19, _, _, _, _, _⟩) (v := .bool true) rfl (by kernel_rfl) (by kernel_rfl) (by kernel_rfl) (fun _ _ _ h => h) (Or.inl ⟨by rfl, (fun w' hS => by (try dsimp only at hS); go_simp)⟩) (by assumption) ?_
  try simp only [Act.put, List.setIfInBounds_toArray, List.set_cons_zero, List.set_cons_succ]
  refine wpAnyH_take (i := 15) (oi := ⟨some 20, _, _, _, _, _⟩) (v := undef) rfl (by kernel_rfl) (by kernel_rfl) (by kernel_rfl) (fun _ _ _ h => h) (Or.inr ⟨by rfl, rfl⟩) (by assumption) ?_
  try simp only [Act.put, List.setIfInBounds_toArray, List.set_cons_zero, List.set_cons_succ]
  refine wpAnyH_take (i := 16) (oi := ⟨some 21, _, _, _, _, _⟩) (v := undef) rfl (by kernel_rfl) (by kernel_rfl) (by kernel_rfl) (fun _ _ _ h => h) (Or.inr ⟨by rfl, rfl⟩) (by assumption) ?_
  try simp only [Act.put, List.setIfInBounds_toArray, List.set_cons_zero, List.set_cons_succ]
  refine wpAnyH_take (i := 17) (oi := ⟨some 22, _, _, _, _, _⟩) (v := undef) rfl (by kernel_rfl) (by kernel_rfl) (by kernel_rfl) (fun _ _ _ h => h) (Or.inr ⟨by rfl, rfl⟩) (by assumption) ?_
  try simp only [Act.put, List.setIfInBounds_toArray, List.set_cons_zero, List.set_cons_succ]
  refine wpAnyH_take (i := 18) (oi := ⟨some 23, _, _, _, _, _⟩) (v := undef) rfl (by kernel_rfl) (by kernel_rfl) (by kernel_rfl) (fun _ _ _ h => h) (Or.inr ⟨by rfl, rfl⟩) (by assumption) ?_
  try simp only [Act.put, List.setIfInBounds_toArray, List.set_cons_zero, List.set_cons_succ]
  refine wpAnyH_take (i := 19) (oi := ⟨some 24, _, _, _, _, _⟩) (v := undef) rfl (by kernel_rfl) (by kernel_rfl) (by kernel_rfl) (fun _ _ _ h => h) (Or.inr ⟨by rfl, rfl⟩) (by assumption) ?_
  try simp only [Act.put, List.setIfInBounds_toArray, List.set_cons_zero, List.set_cons_succ]
  refine wpAnyH_take (i := 20) (oi := ⟨some 25, _, _, _, _, _⟩) (v := undef) rfl (by kernel_rfl) (by kernel_rfl) (by kernel_rfl) (fun _ _ _ h => h) (Or.inr ⟨by rfl, rfl⟩) (by assumption) ?_
  try simp only [Act.put, List.setIfInBounds_toArray, List.set_cons_zero, List.set_cons_succ]
  refine wpAnyH_take (i := 21) (oi := ⟨some 26, _, _, _, _, _⟩) (v := .bool true) rfl (by kernel_rfl) (by kernel_rfl) (by kernel_rfl) (fun _ _ _ h => h) (Or.inl ⟨by rfl, (fun w' hS => by (try dsimp only at hS); go_simp)⟩) (by assumption) ?_
  try simp only [Act.put, List.setIfInBounds_toArray, List.set_cons_zero, List.set_cons_succ]
  refine wpAnyH_take (i := 22) (oi := ⟨some 27, _, _, _, _, _⟩) (v := .bool true) rfl (by kernel_rfl) (by kernel_rfl) (by kernel_rfl) (fun _ _ _ h => h) (Or.inl ⟨by rfl, (fun w' hS => by (try dsimp only at hS); go_simp)⟩) (by assumption) ?_
  try simp only [Act.put, List.setIfInBounds_toArray, List.set_cons_zero, List.set_cons_succ]
  refine wpAnyH_take (i := 23) (oi := ⟨some 4, _, _, _, _, _⟩) (v := .bool true) rfl (by kernel_rfl) (by kernel_rfl) (by kernel_rfl) (fun _ _ _ h => h) (Or.inl ⟨by rfl, (fun w' hS => by (try dsimp only at hS); go_simp)⟩) (by assumption) ?_
  try simp only [Act.put, List.setIfInBounds_toArray, List.set_cons_zero, List.set_cons_succ]
  refine wpAnyH_done (by kernel_rfl) ?_ _
  clear hHeld1
  go_wp2_with fail
  go_ret
  exact ⟨La.retB rfl, B1.out⟩

set_option maxRecDepth 100000 in
set_option maxHeartbeats 2000000 in
theorem known_nn (A B C : Option Addr) (ca cb cc : Nat) (ns : List NodeD) (ps : List PodD) (os : List OwnD) (w : World) (nm : List UInt8) (rq : Nat → Int) (lb : List L2) (wh : List T3) (br : List L2) (wt : List UInt8) (wtm : List T3) (ap : List UInt8) (apm : List T3) (al : Option Addr) (cl : Nat) (aw : Option Addr) (cw : Nat) (ab : Option Addr) (cb' : Nat) (awt : Option Addr) (cwt : Nat) (aap : Option Addr) (cap' : Nat) (c0 : UInt8) (v0 : List UInt8) (i1 : Int) (b0 : UInt8) (u0 : List UInt8) (ko : ∀ w', Below w.heap.size w w' → Calls Tryz.prog 135 #[snapV A B C ca cb cc ns ps os, strV (c0 :: v0)] w' fun e w'' => e = .returned (.int .i64 i1) ∧ Below w'.heap.size w' w'') (hi : i1 ≠ -1) (i2 : Int) (b2 : Bool) (kn : ∀ w', Below w.heap.size w w' → Calls Tryz.prog 137 #[snapV A B C ca cb cc ns ps os, strV (b0 :: u0)] w' fun e w'' => e = .returned (.int .i64 i2) ∧ Below w'.heap.size w' w'') (kt : ∀ w', Below w.heap.size w w' → Calls Tryz.prog 136 #[snapV A B C ca cb cc ns ps os, .int .i64 i2] w' fun e w'' => e = .returned (.bool b2) ∧ Below w'.heap.size w' w'') :
    Calls Tryz.prog 108 #[snapV A B C ca cb cc ns ps os, valP ⟨nm, (c0 :: v0), rq, lb, wh, br, wt, wtm, ap, apm, (b0 :: u0), al, cl, aw, cw, ab, cb', awt, cwt, aap, cap'⟩] w fun e w' => e = .returned (.bool b2) ∧ Below w.heap.size w w' := by
  have B0 := Lib.hid (Qu.below2 w (.cells (snapC A B C ca cb cc ns ps os) 26) (.cells (cellsP [⟨nm, (c0 :: v0), rq, lb, wh, br, wt, wtm, ap, apm, (b0 :: u0), al, cl, aw, cw, ab, cb', awt, cwt, aap, cap'⟩]).toArray 69))
  have Q0 : Hid (Blk ((w.alloc (.cells (snapC A B C ca cb cc ns ps os) 26)).alloc (.cells (cellsP [⟨nm, (c0 :: v0), rq, lb, wh, br, wt, wtm, ap, apm, (b0 :: u0), al, cl, aw, cw, ab, cb', awt, cwt, aap, cap'⟩]).toArray 69)) w.heap.size (snapC A B C ca cb cc ns ps os) 26) := Lib.hid (Blk.alloc (Blk.new w _ _) _)
  have P0 : Hid (Blk ((w.alloc (.cells (snapC A B C ca cb cc ns ps os) 26)).alloc (.cells (cellsP [⟨nm, (c0 :: v0), rq, lb, wh, br, wt, wtm, ap, apm, (b0 :: u0), al, cl, aw, cw, ab, cb', awt, cwt, aap, cap'⟩]).toArray 69)) (w.heap.size + 1) (cellsP [⟨nm, (c0 :: v0), rq, lb, wh, br, wt, wtm, ap, apm, (b0 :: u0), al, cl, aw, cw, ab, cb', awt, cwt, aap, cap'⟩]).toArray 69) := Lib.hid (blk2 w _ _ _)
  have KO := Lib.hid ko
  have KN := Lib.hid kn
  have KT := Lib.hid kt
  clear ko kn kt
  go_enter Tryz.func108, Tryz.ntmps108
  go_wp2_with fail
  change Code.wp _ _ _ _ ((w.alloc (.cells (snapC A B C ca cb cc ns ps os) 26)).alloc (.cells (cellsP [⟨nm, (c0 :: v0), rq, lb, wh, br, wt, wtm, ap, apm, (b0 :: u0), al, cl, aw, cw, ab, cb', awt, cwt, aap, cap'⟩]).toArray 69))
  generalize ((w.alloc (.cells (snapC A B C ca cb cc ns ps os) 26)).alloc (.cells (cellsP [⟨nm, (c0 :: v0), rq, lb, wh, br, wt, wtm, ap, apm, (b0 :: u0), al, cl, aw, cw, ab, cb', awt, cwt, aap, cap'⟩]).toArray 69)) = W at B0 Q0 P0 ⊢
  have BD := Lib.hid (B0.out.drew)
  refine wp_region_held_drew (S := fun w' => w'.cell? ⟨w.heap.size, 0, none⟩ = some (.slice A ns.length ca) ∧ w'.cell? ⟨w.heap.size, 1, none⟩ = some (.slice B ps.length cb) ∧ w'.cell? ⟨w.heap.size, 2, none⟩ = some (.slice C os.length cc) ∧ w'.cell? ⟨w.heap.size + 1, 1, none⟩ = some (strV (c0 :: v0)) ∧ w'.cell? ⟨w.heap.size + 1, 14, none⟩ = some (strV (b0 :: u0))) (by kernel_rfl) ⟨Blk.cell (show Blk W.drew _ _ _ from Q0.out) 0, Blk.cell (show Blk W.drew _ _ _ from Q0.out) 1, Blk.cell (show Blk W.drew _ _ _ from Q0.out) 2, Blk.cell (show Blk W.drew _ _ _ from P0.out) 1, Blk.cell (show Blk W.drew _ _ _ from P0.out) 14⟩ (fun hHeld0 => ?_)
  refine wpAnyH_take (i := 0) (oi := ⟨some 5, _, _, _, _, _⟩) (v := .pointer (some ⟨w.heap.size + 1, 1, none⟩)) rfl (by kernel_rfl) (by kernel_rfl) (by kernel_rfl) (fun _ _ _ h => h) (Or.inl ⟨by rfl, (fun w' hS => by (try dsimp only at hS); go_simp)⟩) (by assumption) ?_
  try simp only [Act.put, List.setIfInBounds_toArray, List.set_cons_zero, List.set_cons_succ]
  refine wpAnyH_take (i := 1) (oi := ⟨some 6, _, _, _, _, _⟩) (v := strV (c0 :: v0)) rfl (by kernel_rfl) (by kernel_rfl) (by kernel_rfl) (fun _ _ _ h => h) (Or.inl ⟨by rfl, (fun w' hS => by (try dsimp only at hS); go_simp)⟩) (by assumption) ?_
  try simp only [Act.put, List.setIfInBounds_toArray, List.set_cons_zero, List.set_cons_succ]
  refine wpAnyH_take (i := 2) (oi := ⟨some 7, _, _, _, _, _⟩) (v := .bool false) rfl (by kernel_rfl) (by kernel_rfl) (by kernel_rfl) (fun _ _ _ h => h) (Or.inl ⟨by rfl, (fun w' hS => by (try dsimp only at hS); go_simp)⟩) (by assumption) ?_
  try simp only [Act.put, List.setIfInBounds_toArray, List.set_cons_zero, List.set_cons_succ]
  refine wpAnyH_take (i := 3) (oi := ⟨some 8, _, _, _, _, _⟩) (v := .bool false) rfl (by kernel_rfl) (by kernel_rfl) (by kernel_rfl) (fun _ _ _ h => h) (Or.inl ⟨by rfl, (fun w' hS => by (try dsimp only at hS); go_simp)⟩) (by assumption) ?_
  try simp only [Act.put, List.setIfInBounds_toArray, List.set_cons_zero, List.set_cons_succ]
  refine wpAnyH_take (i := 4) (oi := ⟨some 9, _, _, _, _, _⟩) (v := snapV A B C ca cb cc ns ps os) rfl (by kernel_rfl) (by kernel_rfl) (by kernel_rfl) (fun _ _ _ h => h) (Or.inl ⟨by rfl, (fun w' hS => by (try dsimp only at hS); go_simp)⟩) (by assumption) ?_
  try simp only [Act.put, List.setIfInBounds_toArray, List.set_cons_zero, List.set_cons_succ]
  refine wpAnyH_take (i := 5) (oi := ⟨some 10, _, _, _, _, _⟩) (v := .pointer (some ⟨w.heap.size + 1, 1, none⟩)) rfl (by kernel_rfl) (by kernel_rfl) (by kernel_rfl) (fun _ _ _ h => h) (Or.inl ⟨by rfl, (fun w' hS => by (try dsimp only at hS); go_simp)⟩) (by assumption) ?_
  try simp only [Act.put, List.setIfInBounds_toArray, List.set_cons_zero, List.set_cons_succ]
  refine wpAnyH_take (i := 6) (oi := ⟨some 11, _, _, _, _, _⟩) (v := strV (c0 :: v0)) rfl (by kernel_rfl) (by kernel_rfl) (by kernel_rfl) (fun _ _ _ h => h) (Or.inl ⟨by rfl, (fun w' hS => by (try dsimp only at hS); go_simp)⟩) (by assumption) ?_
  try simp only [Act.put, List.setIfInBounds_toArray, List.set_cons_zero, List.set_cons_succ]
  refine wpAnyH_ready (rs := [7]) (by kernel_rfl) (by simp) ?_
  refine AllReadyH.cons (o := { dst := some 12, op := Op.call { callee := Callee.value (Operand.func 135), args := #[Operand.tmp 9, Operand.tmp 11], argTypes := #[26, 9] }, type := 3, pos := "check.go:60", after := #[{ on := 4, ground := Ground.data }, { on := 6, ground := Ground.data }, { on := 3, ground := Ground.chain }, { on := 3, ground := Ground.guard }], guard := some (3, false) }) rfl (fun K2 hK => ?_) AllReadyH.nil
  rw [if_pos (by rfl)]
  go_simp
  refine (KO.out _ BD.out).mono ?_
  rintro e w1 ⟨rfl, hb1⟩
  have B1 := Lib.hid (BD.out.trans (hb1.mono BD.out.size))
  have Q1 := Lib.hid (Blk.below (show Blk W.drew _ _ _ from Q0.out) hb1 (Nat.lt_trans (Nat.lt_succ_self _) (Blk.lt P0.out)))
  have P1 := Lib.hid (Blk.below (show Blk W.drew _ _ _ from P0.out) hb1 (Blk.lt P0.out))
  clear hb1
  refine hK.out _ _ ⟨Blk.cell Q1.out 0, Blk.cell Q1.out 1, Blk.cell Q1.out 2, Blk.cell P1.out 1, Blk.cell P1.out 14⟩ (fun hHeld1 => ?_)
  clear hK K2 hHeld0
  try simp only [Act.put, List.setIfInBounds_toArray, List.set_cons_zero, List.set_cons_succ]
  refine wpAnyH_take (i := 8) (oi := ⟨some 13, _, _, _, _, _⟩) (v := .bool true) rfl (by kernel_rfl) (by kernel_rfl) (by kernel_rfl) (fun _ _ _ h => h) (Or.inl ⟨by rfl, (fun w' hS => by (try dsimp only at hS); go_simp)⟩) (by assumption) ?_
  try simp only [Act.put, List.setIfInBounds_toArray, List.set_cons_zero, List.set_cons_succ]
  refine wpAnyH_take (i := 9) (oi := ⟨some 14, _, _, _, _, _⟩) (v := .bool true) rfl (by kernel_rfl) (by kernel_rfl) (by kernel_rfl) (fun _ _ _ h => h) (Or.inl ⟨by rfl, (fun w' hS => by (try dsimp only at hS); go_simp)⟩) (by assumption) ?_
  try simp only [Act.put, List.setIfInBounds_toArray, List.set_cons_zero, List.set_cons_succ]
  refine wpAnyH_take (i := 10) (oi := ⟨some 15, _, _, _, _, _⟩) (v := .bool true) rfl (by kernel_rfl) (by kernel_rfl) (by kernel_rfl) (fun _ _ _ h => h) (Or.inl ⟨by rfl, (fun w' hS => by (try dsimp only at hS); go_simp)⟩) (by assumption) ?_
  try simp only [Act.put, List.setIfInBounds_toArray, List.set_cons_zero, List.set_cons_succ]
  refine wpAnyH_take (i := 11) (oi := ⟨some 16, _, _, _, _, _⟩) (v := .pointer (some ⟨w.heap.size + 1, 14, none⟩)) rfl (by kernel_rfl) (by kernel_rfl) (by kernel_rfl) (fun _ _ _ h => h) (Or.inl ⟨by rfl, (fun w' hS => by (try dsimp only at hS); go_simp)⟩) (by assumption) ?_
  try simp only [Act.put, List.setIfInBounds_toArray, List.set_cons_zero, List.set_cons_succ]
  refine wpAnyH_take (i := 12) (oi := ⟨some 17, _, _, _, _, _⟩) (v := strV (b0 :: u0)) rfl (by kernel_rfl) (by kernel_rfl) (by kernel_rfl) (fun _ _ _ h => h) (Or.inl ⟨by rfl, (fun w' hS => by (try dsimp only at hS); go_simp)⟩) (by assumption) ?_
  try simp only [Act.put, List.setIfInBounds_toArray, List.set_cons_zero, List.set_cons_succ]
  refine wpAnyH_take (i := 13) (oi := ⟨some 18, _, _, _, _, _⟩) (v := .bool false) rfl (by kernel_rfl) (by kernel_rfl) (by kernel_rfl) (fun _ _ _ h => h) (Or.inl ⟨by rfl, (fun w' hS => by (try dsimp only at hS); go_simp)⟩) (by assumption) ?_
  try simp only [Act.put, List.setIfInBounds_toArray, List.set_cons_zero, List.set_cons_succ]
  refine wpAnyH_take (i := 14) (oi := ⟨some 19, _, _, _, _, _⟩) (v := .bool false) rfl (by kernel_rfl) (by kernel_rfl) (by kernel_rfl) (fun _ _ _ h => h) (Or.inl ⟨by rfl, (fun w' hS => by (try dsimp only at hS); go_simp)⟩) (by assumption) ?_
  try simp only [Act.put, List.setIfInBounds_toArray, List.set_cons_zero, List.set_cons_succ]
  refine wpAnyH_take (i := 15) (oi := ⟨some 20, _, _, _, _, _⟩) (v := snapV A B C ca cb cc ns ps os) rfl (by kernel_rfl) (by kernel_rfl) (by kernel_rfl) (fun _ _ _ h => h) (Or.inl ⟨by rfl, (fun w' hS => by (try dsimp only at hS); go_simp)⟩) (by assumption) ?_
  try simp only [Act.put, List.setIfInBounds_toArray, List.set_cons_zero, List.set_cons_succ]
  refine wpAnyH_take (i := 16) (oi := ⟨some 21, _, _, _, _, _⟩) (v := snapV A B C ca cb cc ns ps os) rfl (by kernel_rfl) (by kernel_rfl) (by kernel_rfl) (fun _ _ _ h => h) (Or.inl ⟨by rfl, (fun w' hS => by (try dsimp only at hS); go_simp)⟩) (by assumption) ?_
  try simp only [Act.put, List.setIfInBounds_toArray, List.set_cons_zero, List.set_cons_succ]
  refine wpAnyH_take (i := 17) (oi := ⟨some 22, _, _, _, _, _⟩) (v := .pointer (some ⟨w.heap.size + 1, 14, none⟩)) rfl (by kernel_rfl) (by kernel_rfl) (by kernel_rfl) (fun _ _ _ h => h) (Or.inl ⟨by rfl, (fun w' hS => by (try dsimp only at hS); go_simp)⟩) (by assumption) ?_
  try simp only [Act.put, List.setIfInBounds_toArray, List.set_cons_zero, List.set_cons_succ]
  refine wpAnyH_take (i := 18) (oi := ⟨some 23, _, _, _, _, _⟩) (v := strV (b0 :: u0)) rfl (by kernel_rfl) (by kernel_rfl) (by kernel_rfl) (fun _ _ _ h => h) (Or.inl ⟨by rfl, (fun w' hS => by (try dsimp only at hS); go_simp)⟩) (by assumption) ?_
  try simp only [Act.put, List.setIfInBounds_toArray, List.set_cons_zero, List.set_cons_succ]
  refine wpAnyH_ready (rs := [19]) (by kernel_rfl) (by simp) ?_
  refine AllReadyH.cons (o := { dst := some 24, op := Op.call { callee := Callee.value (Operand.func 137), args := #[Operand.tmp 21, Operand.tmp 23], argTypes := #[26, 9] }, type := 3, pos := "check.go:60", after := #[{ on := 16, ground := Ground.data }, { on := 18, ground := Ground.data }, { on := 14, ground := Ground.chain }, { on := 14, ground := Ground.guard }], guard := some (14, false) }) rfl (fun K2 hK => ?_) AllReadyH.nil
  rw [if_pos (by rfl)]
  go_simp
  refine (KN.out _ B1.out).mono ?_
  rintro e w2 ⟨rfl, hb2⟩
  have B2 := Lib.hid (B1.out.trans (hb2.mono B1.out.size))
  have Q2 := Lib.hid (Blk.below (show Blk w1 _ _ _ from Q1.out) hb2 (Nat.lt_trans (Nat.lt_succ_self _) (Blk.lt P1.out)))
  have P2 := Lib.hid (Blk.below (show Blk w1 _ _ _ from P1.out) hb2 (Blk.lt P1.out))
  clear hb2
  refine hK.out _ _ ⟨Blk.cell Q2.out 0, Blk.cell Q2.out 1, Blk.cell Q2.out 2, Blk.cell P2.out 1, Blk.cell P2.out 14⟩ (fun hHeld2 => ?_)
  clear hK K2 hHeld1
  try simp only [Act.put, List.setIfInBounds_toArray, List.set_cons_zero, List.set_cons_succ]
  refine wpAnyH_ready (rs := [20]) (by kernel_rfl) (by simp) ?_
  refine AllReadyH.cons (o := { dst := some 25, op := Op.call { callee := Callee.value (Operand.func 136), args := #[Operand.tmp 20, Operand.tmp 24], argTypes := #[26, 3] }, type := 4, pos := "check.go:60", after := #[{ on := 15, ground := Ground.data }, { on := 19, ground := Ground.data }, { on := 19, ground := Ground.chain }, { on := 14, ground := Ground.guard }], guard := some (14, false) }) rfl (fun K2 hK => ?_) AllReadyH.nil
  rw [if_pos (by rfl)]
  go_simp
  refine (KT.out _ B2.out).mono ?_
  rintro e w3 ⟨rfl, hb3⟩
  have B3 := Lib.hid (B2.out.trans (hb3.mono B2.out.size))
  have Q3 := Lib.hid (Blk.below (show Blk w2 _ _ _ from Q2.out) hb3 (Nat.lt_trans (Nat.lt_succ_self _) (Blk.lt P2.out)))
  have P3 := Lib.hid (Blk.below (show Blk w2 _ _ _ from P2.out) hb3 (Blk.lt P2.out))
  clear hb3
  refine hK.out _ _ ⟨Blk.cell Q3.out 0, Blk.cell Q3.out 1, Blk.cell Q3.out 2, Blk.cell P3.out 1, Blk.cell P3.out 14⟩ (fun hHeld3 => ?_)
  clear hK K2 hHeld2
  try simp only [Act.put, List.setIfInBounds_toArray, List.set_cons_zero, List.set_cons_succ]
  refine wpAnyH_take (i := 21) (oi := ⟨some 26, _, _, _, _, _⟩) (v := .bool b2) rfl (by kernel_rfl) (by kernel_rfl) (by kernel_rfl) (fun _ _ _ h => h) (Or.inl ⟨by rfl, (fun w' hS => by (try dsimp only at hS); go_simp)⟩) (by assumption) ?_
  try simp only [Act.put, List.setIfInBounds_toArray, List.set_cons_zero, List.set_cons_succ]
  refine wpAnyH_take (i := 22) (oi := ⟨some 27, _, _, _, _, _⟩) (v := .bool b2) rfl (by kernel_rfl) (by kernel_rfl) (by kernel_rfl) (fun _ _ _ h => h) (Or.inl ⟨by rfl, (fun w' hS => by (try dsimp only at hS); go_simp)⟩) (by assumption) ?_
  try simp only [Act.put, List.setIfInBounds_toArray, List.set_cons_zero, List.set_cons_succ]
  refine wpAnyH_take (i := 23) (oi := ⟨some 4, _, _, _, _, _⟩) (v := .bool b2) rfl (by kernel_rfl) (by kernel_rfl) (by kernel_rfl) (fun _ _ _ h => h) (Or.inl ⟨by rfl, (fun w' hS => by (try dsimp only at hS); go_simp)⟩) (by assumption) ?_
  try simp only [Act.put, List.setIfInBounds_toArray, List.set_cons_zero, List.set_cons_succ]
  refine wpAnyH_done (by kernel_rfl) ?_ _
  clear hHeld3
  go_wp2_with fail
  go_ret
  exact ⟨La.retB rfl, B3.out⟩

set_option maxRecDepth 100000 in
set_option maxHeartbeats 2000000 in
theorem known_nf (A B C : Option Addr) (ca cb cc : Nat) (ns : List NodeD) (ps : List PodD) (os : List OwnD) (w : World) (nm : List UInt8) (on : List UInt8) (rq : Nat → Int) (lb : List L2) (wh : List T3) (br : List L2) (wt : List UInt8) (wtm : List T3) (ap : List UInt8) (apm : List T3) (al : Option Addr) (cl : Nat) (aw : Option Addr) (cw : Nat) (ab : Option Addr) (cb' : Nat) (awt : Option Addr) (cwt : Nat) (aap : Option Addr) (cap' : Nat) (c0 : UInt8) (v0 : List UInt8) (i1 : Int) (ko : ∀ w', Below w.heap.size w w' → Calls Tryz.prog 135 #[snapV A B C ca cb cc ns ps os, strV (c0 :: v0)] w' fun e w'' => e = .returned (.int .i64 i1) ∧ Below w'.heap.size w' w'') (hi : i1 = -1) :
    Calls Tryz.prog 108 #[snapV A B C ca cb cc ns ps os, valP ⟨nm, (c0 :: v0), rq, lb, wh, br, wt, wtm, ap, apm, on, al, cl, aw, cw, ab, cb', awt, cwt, aap, cap'⟩] w fun e w' => e = .returned (.bool false) ∧ Below w.heap.size w w' := by
  have B0 := Lib.hid (Qu.below2 w (.cells (snapC A B C ca cb cc ns ps os) 26) (.cells (cellsP [⟨nm, (c0 :: v0), rq, lb, wh, br, wt, wtm, ap, apm, on, al, cl, aw, cw, ab, cb', awt, cwt, aap, cap'⟩]).toArray 69))
  have Q0 : Hid (Blk ((w.alloc (.cells (snapC A B C ca cb cc ns ps os) 26)).alloc (.cells (cellsP [⟨nm, (c0 :: v0), rq, lb, wh, br, wt, wtm, ap, apm, on, al, cl, aw, cw, ab, cb', awt, cwt, aap, cap'⟩]).toArray 69)) w.heap.size (snapC A B C ca cb cc ns ps os) 26) := Lib.hid (Blk.alloc (Blk.new w _ _) _)
  have P0 : Hid (Blk ((w.alloc (.cells (snapC A B C ca cb cc ns ps os) 26)).alloc (.cells (cellsP [⟨nm, (c0 :: v0), rq, lb, wh, br, wt, wtm, ap, apm, on, al, cl, aw, cw, ab, cb', awt, cwt, aap, cap'⟩]).toArray 69)) (w.heap.size + 1) (cellsP [⟨nm, (c0 :: v0), rq, lb, wh, br, wt, wtm, ap, apm, on, al, cl, aw, cw, ab, cb', awt, cwt, aap, cap'⟩]).toArray 69) := Lib.hid (blk2 w _ _ _)
  have KO := Lib.hid ko
  clear ko
  go_enter Tryz.func108, Tryz.ntmps108
  go_wp2_with fail
  change Code.wp _ _ _ _ ((w.alloc (.cells (snapC A B C ca cb cc ns ps os) 26)).alloc (.cells (cellsP [⟨nm, (c0 :: v0), rq, lb, wh, br, wt, wtm, ap, apm, on, al, cl, aw, cw, ab, cb', awt, cwt, aap, cap'⟩]).toArray 69))
  generalize ((w.alloc (.cells (snapC A B C ca cb cc ns ps os) 26)).alloc (.cells (cellsP [⟨nm, (c0 :: v0), rq, lb, wh, br, wt, wtm, ap, apm, on, al, cl, aw, cw, ab, cb', awt, cwt, aap, cap'⟩]).toArray 69)) = W at B0 Q0 P0 ⊢
  have BD := Lib.hid (B0.out.drew)
  refine wp_region_held_drew (S := fun w' => w'.cell? ⟨w.heap.size, 0, none⟩ = some (.slice A ns.length ca) ∧ w'.cell? ⟨w.heap.size, 1, none⟩ = some (.slice B ps.length cb) ∧ w'.cell? ⟨w.heap.size, 2, none⟩ = some (.slice C os.length cc) ∧ w'.cell? ⟨w.heap.size + 1, 1, none⟩ = some (strV (c0 :: v0)) ∧ w'.cell? ⟨w.heap.size + 1, 14, none⟩ = some (strV on)) (by kernel_rfl) ⟨Blk.cell (show Blk W.drew _ _ _ from Q0.out) 0, Blk.cell (show Blk W.drew _ _ _ from Q0.out) 1, Blk.cell (show Blk W.drew _ _ _ from Q0.out) 2, Blk.cell (show Blk W.drew _ _ _ from P0.out) 1, Blk.cell (show Blk W.drew _ _ _ from P0.out) 14⟩ (fun hHeld0 => ?_)
  refine wpAnyH_take (i := 0) (oi := ⟨some 5, _, _, _, _, _⟩) (v := .pointer (some ⟨w.heap.size + 1, 1, none⟩)) rfl (by kernel_rfl) (by kernel_rfl) (by kernel_rfl) (fun _ _ _ h => h) (Or.inl ⟨by rfl, (fun w' hS => by (try dsimp only at hS); go_simp)⟩) (by assumption) ?_
  try simp only [Act.put, List.setIfInBounds_toArray, List.set_cons_zero, List.set_cons_succ]
  refine wpAnyH_take (i := 1) (oi := ⟨some 6, _, _, _, _, _⟩) (v := strV (c0 :: v0)) rfl (by kernel_rfl) (by kernel_rfl) (by kernel_rfl) (fun _ _ _ h => h) (Or.inl ⟨by rfl, (fun w' hS => by (try dsimp only at hS); go_simp)⟩) (by assumption) ?_
  try simp only [Act.put, List.setIfInBounds_toArray, List.set_cons_zero, List.set_cons_succ]
  refine wpAnyH_take (i := 2) (oi := ⟨some 7, _, _, _, _, _⟩) (v := .bool false) rfl (by kernel_rfl) (by kernel_rfl) (by kernel_rfl) (fun _ _ _ h => h) (Or.inl ⟨by rfl, (fun w' hS => by (try dsimp only at hS); go_simp)⟩) (by assumption) ?_
  try simp only [Act.put, List.setIfInBounds_toArray, List.set_cons_zero, List.set_cons_succ]
  refine wpAnyH_take (i := 3) (oi := ⟨some 8, _, _, _, _, _⟩) (v := .bool false) rfl (by kernel_rfl) (by kernel_rfl) (by kernel_rfl) (fun _ _ _ h => h) (Or.inl ⟨by rfl, (fun w' hS => by (try dsimp only at hS); go_simp)⟩) (by assumption) ?_
  try simp only [Act.put, List.setIfInBounds_toArray, List.set_cons_zero, List.set_cons_succ]
  refine wpAnyH_take (i := 4) (oi := ⟨some 9, _, _, _, _, _⟩) (v := snapV A B C ca cb cc ns ps os) rfl (by kernel_rfl) (by kernel_rfl) (by kernel_rfl) (fun _ _ _ h => h) (Or.inl ⟨by rfl, (fun w' hS => by (try dsimp only at hS); go_simp)⟩) (by assumption) ?_
  try simp only [Act.put, List.setIfInBounds_toArray, List.set_cons_zero, List.set_cons_succ]
  refine wpAnyH_take (i := 5) (oi := ⟨some 10, _, _, _, _, _⟩) (v := .pointer (some ⟨w.heap.size + 1, 1, none⟩)) rfl (by kernel_rfl) (by kernel_rfl) (by kernel_rfl) (fun _ _ _ h => h) (Or.inl ⟨by rfl, (fun w' hS => by (try dsimp only at hS); go_simp)⟩) (by assumption) ?_
  try simp only [Act.put, List.setIfInBounds_toArray, List.set_cons_zero, List.set_cons_succ]
  refine wpAnyH_take (i := 6) (oi := ⟨some 11, _, _, _, _, _⟩) (v := strV (c0 :: v0)) rfl (by kernel_rfl) (by kernel_rfl) (by kernel_rfl) (fun _ _ _ h => h) (Or.inl ⟨by rfl, (fun w' hS => by (try dsimp only at hS); go_simp)⟩) (by assumption) ?_
  try simp only [Act.put, List.setIfInBounds_toArray, List.set_cons_zero, List.set_cons_succ]
  refine wpAnyH_ready (rs := [7]) (by kernel_rfl) (by simp) ?_
  refine AllReadyH.cons (o := { dst := some 12, op := Op.call { callee := Callee.value (Operand.func 135), args := #[Operand.tmp 9, Operand.tmp 11], argTypes := #[26, 9] }, type := 3, pos := "check.go:60", after := #[{ on := 4, ground := Ground.data }, { on := 6, ground := Ground.data }, { on := 3, ground := Ground.chain }, { on := 3, ground := Ground.guard }], guard := some (3, false) }) rfl (fun K2 hK => ?_) AllReadyH.nil
  rw [if_pos (by rfl)]
  go_simp
  refine (KO.out _ BD.out).mono ?_
  rintro e w1 ⟨rfl, hb1⟩
  have B1 := Lib.hid (BD.out.trans (hb1.mono BD.out.size))
  have Q1 := Lib.hid (Blk.below (show Blk W.drew _ _ _ from Q0.out) hb1 (Nat.lt_trans (Nat.lt_succ_self _) (Blk.lt P0.out)))
  have P1 := Lib.hid (Blk.below (show Blk W.drew _ _ _ from P0.out) hb1 (Blk.lt P0.out))
  clear hb1
  refine hK.out _ _ ⟨Blk.cell Q1.out 0, Blk.cell Q1.out 1, Blk.cell Q1.out 2, Blk.cell P1.out 1, Blk.cell P1.out 14⟩ (fun hHeld1 => ?_)
  clear hK K2 hHeld0
  try simp only [Act.put, List.setIfInBounds_toArray, List.set_cons_zero, List.set_cons_succ]
  refine wpAnyH_take (i := 8) (oi := ⟨some 13, _, _, _, _, _⟩) (v := .bool false) rfl (by kernel_rfl) (by kernel_rfl) (by kernel_rfl) (fun _ _ _ h => h) (Or.inl ⟨by rfl, (fun w' hS => by (try dsimp only at hS); go_simp)⟩) (by assumption) ?_
  try simp only [Act.put, List.setIfInBounds_toArray, List.set_cons_zero, List.set_cons_succ]
  refine wpAnyH_take (i := 9) (oi := ⟨some 14, _, _, _, _, _⟩) (v := .bool false) rfl (by kernel_rfl) (by kernel_rfl) (by kernel_rfl) (fun _ _ _ h => h) (Or.inl ⟨by rfl, (fun w' hS => by (try dsimp only at hS); go_simp)⟩) (by assumption) ?_
  try simp only [Act.put, List.setIfInBounds_toArray, List.set_cons_zero, List.set_cons_succ]
  refine wpAnyH_take (i := 10) (oi := ⟨some 15, _, _, _, _, _⟩) (v := .bool false) rfl (by kernel_rfl) (by kernel_rfl) (by kernel_rfl) (fun _ _ _ h => h) (Or.inl ⟨by rfl, (fun w' hS => by (try dsimp only at hS); go_simp)⟩) (by assumption) ?_
  try simp only [Act.put, List.setIfInBounds_toArray, List.set_cons_zero, List.set_cons_succ]
  refine wpAnyH_take (i := 11) (oi := ⟨some 16, _, _, _, _, _⟩) (v := undef) rfl (by kernel_rfl) (by kernel_rfl) (by kernel_rfl) (fun _ _ _ h => h) (Or.inr ⟨by rfl, rfl⟩) (by assumption) ?_
  try simp only [Act.put, List.setIfInBounds_toArray, List.set_cons_zero, List.set_cons_succ]
  refine wpAnyH_take (i := 12) (oi := ⟨some 17, _, _, _, _, _⟩) (v := undef) rfl (by kernel_rfl) (by kernel_rfl) (by kernel_rfl) (fun _ _ _ h => h) (Or.inr ⟨by rfl, rfl⟩) (by assumption) ?_
  try simp only [Act.put, List.setIfInBounds_toArray, List.set_cons_zero, List.set_cons_succ]
  refine wpAnyH_take (i := 13) (oi := ⟨some 18, _, _, _, _, _⟩) (v := undef) rfl (by kernel_rfl) (by kernel_rfl) (by kernel_rfl) (fun _ _ _ h => h) (Or.inr ⟨by rfl, rfl⟩) (by assumption) ?_
  try simp only [Act.put, List.setIfInBounds_toArray, List.set_cons_zero, List.set_cons_succ]
  refine wpAnyH_take (i := 14) (oi := ⟨some 19, _, _, _, _, _⟩) (v := undef) rfl (by kernel_rfl) (by kernel_rfl) (by kernel_rfl) (fun _ _ _ h => h) (Or.inr ⟨by rfl, rfl⟩) (by assumption) ?_
  try simp only [Act.put, List.setIfInBounds_toArray, List.set_cons_zero, List.set_cons_succ]
  refine wpAnyH_take (i := 15) (oi := ⟨some 20, _, _, _, _, _⟩) (v := undef) rfl (by kernel_rfl) (by kernel_rfl) (by kernel_rfl) (fun _ _ _ h => h) (Or.inr ⟨by rfl, rfl⟩) (by assumption) ?_
  try simp only [Act.put, List.setIfInBounds_toArray, List.set_cons_zero, List.set_cons_succ]
  refine wpAnyH_take (i := 16) (oi := ⟨some 21, _, _, _, _, _⟩) (v := undef) rfl (by kernel_rfl) (by kernel_rfl) (by kernel_rfl) (fun _ _ _ h => h) (Or.inr ⟨by rfl, rfl⟩) (by assumption) ?_
  try simp only [Act.put, List.setIfInBounds_toArray, List.set_cons_zero, List.set_cons_succ]
  refine wpAnyH_take (i := 17) (oi := ⟨some 22, _, _, _, _, _⟩) (v := undef) rfl (by kernel_rfl) (by kernel_rfl) (by kernel_rfl) (fun _ _ _ h => h) (Or.inr ⟨by rfl, rfl⟩) (by assumption) ?_
  try simp only [Act.put, List.setIfInBounds_toArray, List.set_cons_zero, List.set_cons_succ]
  refine wpAnyH_take (i := 18) (oi := ⟨some 23, _, _, _, _, _⟩) (v := undef) rfl (by kernel_rfl) (by kernel_rfl) (by kernel_rfl) (fun _ _ _ h => h) (Or.inr ⟨by rfl, rfl⟩) (by assumption) ?_
  try simp only [Act.put, List.setIfInBounds_toArray, List.set_cons_zero, List.set_cons_succ]
  refine wpAnyH_take (i := 19) (oi := ⟨some 24, _, _, _, _, _⟩) (v := undef) rfl (by kernel_rfl) (by kernel_rfl) (by kernel_rfl) (fun _ _ _ h => h) (Or.inr ⟨by rfl, rfl⟩) (by assumption) ?_
  try simp only [Act.put, List.setIfInBounds_toArray, List.set_cons_zero, List.set_cons_succ]
  refine wpAnyH_take (i := 20) (oi := ⟨some 25, _, _, _, _, _⟩) (v := undef) rfl (by kernel_rfl) (by kernel_rfl) (by kernel_rfl) (fun _ _ _ h => h) (Or.inr ⟨by rfl, rfl⟩) (by assumption) ?_
  try simp only [Act.put, List.setIfInBounds_toArray, List.set_cons_zero, List.set_cons_succ]
  refine wpAnyH_take (i := 21) (oi := ⟨some 26, _, _, _, _, _⟩) (v := undef) rfl (by kernel_rfl) (by kernel_rfl) (by kernel_rfl) (fun _ _ _ h => h) (Or.inr ⟨by rfl, rfl⟩) (by assumption) ?_
  try simp only [Act.put, List.setIfInBounds_toArray, List.set_cons_zero, List.set_cons_succ]
  refine wpAnyH_take (i := 22) (oi := ⟨some 27, _, _, _, _, _⟩) (v := .bool false) rfl (by kernel_rfl) (by kernel_rfl) (by kernel_rfl) (fun _ _ _ h => h) (Or.inl ⟨by rfl, (fun w' hS => by (try dsimp only at hS); go_simp)⟩) (by assumption) ?_
  try simp only [Act.put, List.setIfInBounds_toArray, List.set_cons_zero, List.set_cons_succ]
  refine wpAnyH_take (i := 23) (oi := ⟨some 4, _, _, _, _, _⟩) (v := .bool false) rfl (by kernel_rfl) (by kernel_rfl) (by kernel_rfl) (fun _ _ _ h => h) (Or.inl ⟨by rfl, (fun w' hS => by (try dsimp only at hS); go_simp)⟩) (by assumption) ?_
  try simp only [Act.put, List.setIfInBounds_toArray, List.set_cons_zero, List.set_cons_succ]
  refine wpAnyH_done (by kernel_rfl) ?_ _
  clear hHeld1
  go_wp2_with fail
  go_ret
  exact ⟨La.retB rfl, B1.out⟩

theorem known_any (A B C : Option Addr) (ca cb cc : Nat) (ns : List NodeD) (ps : List PodD) (os : List OwnD) (x : PodD) (w : World) (h : SnapAt w A B C ca cb cc ns ps os) :
    Calls Tryz.prog 108 #[snapV A B C ca cb cc ns ps os, valP x] w fun e w' => e = .returned (.bool (knownB ns os x)) ∧ Below w.heap.size w w' := by
  obtain ⟨nm, ow, rq, lb, wh, br, wt, wtm, ap, apm, on, al, cl, aw, cw, ab, cb', awt, cwt, aap, cap'⟩ := x
  have kn : ∀ name : List UInt8, ∀ w', Below w.heap.size w w' → Calls Tryz.prog 137 #[snapV A B C ca cb cc ns ps os, strV name] w' fun e w'' => e = .returned (.int .i64 (idxF name (ns.map (·.name)))) ∧ Below w'.heap.size w' w'' := fun name w' hb =>
    findN A B C ca cb cc _ _ _ ns name w' h.ln (h.below hb).n.cells rfl
  have ko : ∀ name : List UInt8, ∀ w', Below w.heap.size w w' → Calls Tryz.prog 135 #[snapV A B C ca cb cc ns ps os, strV name] w' fun e w'' => e = .returned (.int .i64 (idxF name (os.map (·.name)))) ∧ Below w'.heap.size w' w'' := fun name w' hb =>
    findO A B C ca cb cc _ _ _ os name w' h.lo (h.below hb).o rfl
  have kt : ∀ name : List UInt8, ∀ w', Below w.heap.size w w' → Calls Tryz.prog 136 #[snapV A B C ca cb cc ns ps os, .int .i64 (idxF name (ns.map (·.name)))] w' fun e w'' => e = .returned (.bool (tpB ns (idxF name (ns.map (·.name))))) ∧ Below w'.heap.size w' w'' := fun name w' hb => by
    have hr := idx_range name (ns.map (·.name))
    rw [List.length_map] at hr
    have := h.ln
    exact takes_any A B C ca cb cc _ _ ns _ w' h.ln (by omega) (by omega) (h.below hb).n.cells
  cases ow with
  | nil =>
    cases on with
    | nil => exact known_ee A B C ca cb cc ns ps os w nm rq lb wh br wt wtm ap apm al cl aw cw ab cb' awt cwt aap cap'
    | cons b0 u0 =>
      have k := known_en A B C ca cb cc ns ps os w nm rq lb wh br wt wtm ap apm al cl aw cw ab cb' awt cwt aap cap' b0 u0 _ _ (kn (b0 :: u0)) (kt (b0 :: u0))
      simpa [knownB] using k
  | cons c0 v0 =>
    by_cases hi : idxF (c0 :: v0) (os.map (·.name)) = -1
    · have k := known_nf A B C ca cb cc ns ps os w nm on rq lb wh br wt wtm ap apm al cl aw cw ab cb' awt cwt aap cap' c0 v0 _ (ko (c0 :: v0)) hi
      simpa [knownB, hi] using k
    · have hj : (idxF (c0 :: v0) (os.map (·.name)) == -1) = false := by simpa using hi
      cases on with
      | nil =>
        have k := known_ne A B C ca cb cc ns ps os w nm rq lb wh br wt wtm ap apm al cl aw cw ab cb' awt cwt aap cap' c0 v0 _ (ko (c0 :: v0)) hi
        simpa [knownB, hj] using k
      | cons b0 u0 =>
        have k := known_nn A B C ca cb cc ns ps os w nm rq lb wh br wt wtm ap apm al cl aw cw ab cb' awt cwt aap cap' c0 v0 _ b0 u0 (ko (c0 :: v0)) hi _ _ (kn (b0 :: u0)) (kt (b0 :: u0))
        simpa [knownB, hj] using k
end Go.Proofs.YtfpbdfagcfdbbaaGreat

namespace Go.Proofs.YtfpbdfagcfdbbaaGreat
open Go.RowKit

set_option maxRecDepth 100000 in
set_option maxHeartbeats 2000000 in
theorem allN (A : Option Addr) (c : Nat) (l : List NodeD) (f : NodeD → Bool) (w : World) (hl : l.length ≤ 1000) (hs : La.SlAt w A (cellsN l))
    (hf : ∀ x ∈ l, ∀ w', Below w.heap.size w w' → Calls Tryz.prog 104 #[valN x] w' fun e w'' => e = .returned (.bool (f x)) ∧ Below w'.heap.size w' w'') :
    Calls Tryz.prog 103 #[.slice A l.length c, .func (Fn.func 104) #[] #[]] w fun e w' => e = .returned (.bool (l.all f)) ∧ Below w.heap.size w w' := by
  have HS := Lib.hid hs
  have HF := Lib.hid hf
  have hg : ∀ (args : Array Value) (w : World), (callFunc 104 args).run Tryz.prog w = .ok (.enter 104 args) w := fun _ _ => by kernel_rfl
  obtain ⟨R, hR⟩ : ∃ R, l.all f = R := ⟨_, rfl⟩
  have HR := Lib.hid hR
  rw [hR]
  clear hs hf hR
  go_enter Tryz.func103, Tryz.ntmps103
  go_wp2_with fail
  go_loopw [9] (fun i wr => ∃ k : Nat, k ≤ l.length ∧ i = .int .i64 k ∧ (∀ j x, j < k → l[j]? = some x → f x = true) ∧ Below w.heap.size w wr) (fun i _ => l.length - (intOf i).toNat)
  case atStart => exact ⟨0, by omega, rfl, fun j x h => by omega, Below.refl _ _⟩
  case round =>
    obtain ⟨k, hk, rfl, hn, hb⟩ := hrel
    have HN := Lib.hid hn
    have HB := Lib.hid hb
    clear hn hb
    by_cases hlt : k < l.length
    · obtain ⟨x, hx⟩ : ∃ x, l[k]? = some x := ⟨l[k], List.getElem?_eq_getElem hlt⟩
      obtain ⟨b, o, hA, hbl, c0, c1, c2, c3, c4, c5, c6, c7, c8, c9⟩ := atN (HS.out.below HB.out) hx
      subst hA
      have HX := Lib.hid hx
      have k0 : (0 : Int) ≤ (k : Int) := by omega
      have k1 : (k : Int) < (l.length : Int) := by omega
      have KI := Lib.hid (fun w' (hb : Below wr.heap.size wr w') => HF.out x (List.mem_of_getElem? hx) w' (HB.out.trans (hb.mono HB.out.size)))
      obtain ⟨r, hr⟩ : ∃ r, f x = r := ⟨_, rfl⟩
      have Hr := Lib.hid hr
      rw [hr] at KI
      clear hx hr
      go_wp2_with fail
      refine (KI.out _ (by first | exact Below.refl _ _ | exact (Below.refl _ _).drew | exact below1 wr _)).mono ?_
      rintro e w3 ⟨rfl, hb3⟩
      have B3 := Lib.hid (by first | exact HB.out.trans (hb3.mono HB.out.size) | exact HB.out.trans ((below1 wr _).trans (hb3.mono (below1 wr _).size) |>.mono HB.out.size))
      clear hb3 KI c0 c1 c2 c3 c4 c5 c6 c7 c8 c9
      cases r
      · have HE : Hid (false = R) := Lib.hid (by
          rw [← HR.out]
          exact (List.all_eq_false.2 ⟨x, List.mem_of_getElem? HX.out, by simp [Hr.out]⟩).symm)
        go_wp2
        go_ret
        exact ⟨La.retB HE.out, B3.out⟩
      · go_wp2
        go_roundw
        case rel =>
          refine ⟨k + 1, by omega, by go_num, fun j y hj hy => ?_, B3.out⟩
          by_cases hjk : j = k
          · subst hjk
            rw [HX.out] at hy
            cases hy
            exact Hr.out
          · exact HN.out j y (by omega) hy
        case measure => simp [intOf]; omega
    · obtain rfl : k = l.length := by omega
      have HE : Hid (true = R) := Lib.hid (by
        rw [← HR.out]
        refine (List.all_eq_true.2 fun y hy => ?_).symm
        obtain ⟨j, hj⟩ := List.mem_iff_getElem?.1 hy
        refine HN.out j y ?_ hj
        rcases Nat.lt_or_ge j l.length with h | h
        · exact h
        · rw [List.getElem?_eq_none (by simpa using h)] at hj
          cases hj)
      go_wp2
      go_ret
      exact ⟨La.retB HE.out, HB.out⟩

set_option maxRecDepth 100000 in
set_option maxHeartbeats 2000000 in
theorem allP (A : Option Addr) (c q : Nat) (l : List PodD) (f : PodD → Bool) (w : World) (hl : l.length ≤ 1000) (hs : La.SlAt w A (cellsP l))
    (hf : ∀ x ∈ l, ∀ w', Below w.heap.size w w' → Calls Tryz.prog 106 #[valP x, .pointer (some ⟨q, 0, none⟩)] w' fun e w'' => e = .returned (.bool (f x)) ∧ Below w'.heap.size w' w'') :
    Calls Tryz.prog 105 #[.slice A l.length c, .func (Fn.func 106) #[] #[.pointer (some ⟨q, 0, none⟩)]] w fun e w' => e = .returned (.bool (l.all f)) ∧ Below w.heap.size w w' := by
  have HS := Lib.hid hs
  have HF := Lib.hid hf
  have hg : ∀ (args : Array Value) (w : World), (callFunc 106 args).run Tryz.prog w = .ok (.enter 106 args) w := fun _ _ => by kernel_rfl
  obtain ⟨R, hR⟩ : ∃ R, l.all f = R := ⟨_, rfl⟩
  have HR := Lib.hid hR
  rw [hR]
  clear hs hf hR
  go_enter Tryz.func105, Tryz.ntmps105
  go_wp2_with fail
  go_loopw [9] (fun i wr => ∃ k : Nat, k ≤ l.length ∧ i = .int .i64 k ∧ (∀ j x, j < k → l[j]? = some x → f x = true) ∧ Below w.heap.size w wr) (fun i _ => l.length - (intOf i).toNat)
  case atStart => exact ⟨0, by omega, rfl, fun j x h => by omega, Below.refl _ _⟩
  case round =>
    obtain ⟨k, hk, rfl, hn, hb⟩ := hrel
    have HN := Lib.hid hn
    have HB := Lib.hid hb
    clear hn hb
    by_cases hlt : k < l.length
    · obtain ⟨x, hx⟩ : ∃ x, l[k]? = some x := ⟨l[k], List.getElem?_eq_getElem hlt⟩
      obtain ⟨b, o, hA, hbl, c0, c1, c2, c3, c4, c5, c6, c7, c8, c9, c10, c11, c12, c13, c14⟩ := atP (HS.out.below HB.out) hx
      subst hA
      have HX := Lib.hid hx
      have k0 : (0 : Int) ≤ (k : Int) := by omega
      have k1 : (k : Int) < (l.length : Int) := by omega
      have KI := Lib.hid (fun w' (hb : Below wr.heap.size wr w') => HF.out x (List.mem_of_getElem? hx) w' (HB.out.trans (hb.mono HB.out.size)))
      obtain ⟨r, hr⟩ : ∃ r, f x = r := ⟨_, rfl⟩
      have Hr := Lib.hid hr
      rw [hr] at KI
      clear hx hr
      go_wp2_with fail
      refine (KI.out _ (by first | exact Below.refl _ _ | exact (Below.refl _ _).drew | exact below1 wr _)).mono ?_
      rintro e w3 ⟨rfl, hb3⟩
      have B3 := Lib.hid (by first | exact HB.out.trans (hb3.mono HB.out.size) | exact HB.out.trans ((below1 wr _).trans (hb3.mono (below1 wr _).size) |>.mono HB.out.size))
      clear hb3 KI c0 c1 c2 c3 c4 c5 c6 c7 c8 c9 c10 c11 c12 c13 c14
      cases r
      · have HE : Hid (false = R) := Lib.hid (by
          rw [← HR.out]
          exact (List.all_eq_false.2 ⟨x, List.mem_of_getElem? HX.out, by simp [Hr.out]⟩).symm)
        go_wp2
        go_ret
        exact ⟨La.retB HE.out, B3.out⟩
      · go_wp2
        go_roundw
        case rel =>
          refine ⟨k + 1, by omega, by go_num, fun j y hj hy => ?_, B3.out⟩
          by_cases hjk : j = k
          · subst hjk
            rw [HX.out] at hy
            cases hy
            exact Hr.out
          · exact HN.out j y (by omega) hy
        case measure => simp [intOf]; omega
    · obtain rfl : k = l.length := by omega
      have HE : Hid (true = R) := Lib.hid (by
        rw [← HR.out]
        refine (List.all_eq_true.2 fun y hy => ?_).symm
        obtain ⟨j, hj⟩ := List.mem_iff_getElem?.1 hy
        refine HN.out j y ?_ hj
        rcases Nat.lt_or_ge j l.length with h | h
        · exact h
        · rw [List.getElem?_eq_none (by simpa using h)] at hj
          cases hj)
      go_wp2
      go_ret
      exact ⟨La.retB HE.out, HB.out⟩

set_option maxRecDepth 100000 in
set_option maxHeartbeats 2000000 in
theorem allO (A : Option Addr) (c : Nat) (l : List OwnD) (f : OwnD → Bool) (w : World) (hl : l.length ≤ 1000) (hs : La.SlAt w A (cellsO l))
    (hf : ∀ x ∈ l, ∀ w', Below w.heap.size w w' → Calls Tryz.prog 110 #[valO x] w' fun e w'' => e = .returned (.bool (f x)) ∧ Below w'.heap.size w' w'') :
    Calls Tryz.prog 109 #[.slice A l.length c, .func (Fn.func 110) #[] #[]] w fun e w' => e = .returned (.bool (l.all f)) ∧ Below w.heap.size w w' := by
  have HS := Lib.hid hs
  have HF := Lib.hid hf
  have hg : ∀ (args : Array Value) (w : World), (callFunc 110 args).run Tryz.prog w = .ok (.enter 110 args) w := fun _ _ => by kernel_rfl
  obtain ⟨R, hR⟩ : ∃ R, l.all f = R := ⟨_, rfl⟩
  have HR := Lib.hid hR
  rw [hR]
  clear hs hf hR
  go_enter Tryz.func109, Tryz.ntmps109
  go_wp2_with fail
  go_loopw [9] (fun i wr => ∃ k : Nat, k ≤ l.length ∧ i = .int .i64 k ∧ (∀ j x, j < k → l[j]? = some x → f x = true) ∧ Below w.heap.size w wr) (fun i _ => l.length - (intOf i).toNat)
  case atStart => exact ⟨0, by omega, rfl, fun j x h => by omega, Below.refl _ _⟩
  case round =>
    obtain ⟨k, hk, rfl, hn, hb⟩ := hrel
    have HN := Lib.hid hn
    have HB := Lib.hid hb
    clear hn hb
    by_cases hlt : k < l.length
    · obtain ⟨x, hx⟩ : ∃ x, l[k]? = some x := ⟨l[k], List.getElem?_eq_getElem hlt⟩
      obtain ⟨b, o, hA, hbl, c0, c1, c2, c3, c4⟩ := atO (HS.out.below HB.out) hx
      subst hA
      have HX := Lib.hid hx
      have k0 : (0 : Int) ≤ (k : Int) := by omega
      have k1 : (k : Int) < (l.length : Int) := by omega
      have KI := Lib.hid (fun w' (hb : Below wr.heap.size wr w') => HF.out x (List.mem_of_getElem? hx) w' (HB.out.trans (hb.mono HB.out.size)))
      obtain ⟨r, hr⟩ : ∃ r, f x = r := ⟨_, rfl⟩
      have Hr := Lib.hid hr
      rw [hr] at KI
      clear hx hr
      go_wp2_with fail
      refine (KI.out _ (by first | exact Below.refl _ _ | exact (Below.refl _ _).drew | exact below1 wr _)).mono ?_
      rintro e w3 ⟨rfl, hb3⟩
      have B3 := Lib.hid (by first | exact HB.out.trans (hb3.mono HB.out.size) | exact HB.out.trans ((below1 wr _).trans (hb3.mono (below1 wr _).size) |>.mono HB.out.size))
      clear hb3 KI c0 c1 c2 c3 c4
      cases r
      · have HE : Hid (false = R) := Lib.hid (by
          rw [← HR.out]
          exact (List.all_eq_false.2 ⟨x, List.mem_of_getElem? HX.out, by simp [Hr.out]⟩).symm)
        go_wp2
        go_ret
        exact ⟨La.retB HE.out, B3.out⟩
      · go_wp2
        go_roundw
        case rel =>
          refine ⟨k + 1, by omega, by go_num, fun j y hj hy => ?_, B3.out⟩
          by_cases hjk : j = k
          · subst hjk
            rw [HX.out] at hy
            cases hy
            exact Hr.out
          · exact HN.out j y (by omega) hy
        case measure => simp [intOf]; omega
    · obtain rfl : k = l.length := by omega
      have HE : Hid (true = R) := Lib.hid (by
        rw [← HR.out]
        refine (List.all_eq_true.2 fun y hy => ?_).symm
        obtain ⟨j, hj⟩ := List.mem_iff_getElem?.1 hy
        refine HN.out j y ?_ hj
        rcases Nat.lt_or_ge j l.length with h | h
        · exact h
        · rw [List.getElem?_eq_none (by simpa using h)] at hj
          cases hj)
      go_wp2
      go_ret
      exact ⟨La.retB HE.out, HB.out⟩
end Go.Proofs.YtfpbdfagcfdbbaaGreat

namespace Go.Proofs.YtfpbdfagcfdbbaaGreat
open Go.RowKit

set_option maxRecDepth 100000 in
set_option maxHeartbeats 2000000 in
theorem one_any (A B C : Option Addr) (ca cb cc q : Nat) (ns : List NodeD) (ps : List PodD) (os : List OwnD) (x : PodD) (w : World) (h : SnapAt w A B C ca cb cc ns ps os) (hx : x.fit w) (hq : Blk w q (snapC A B C ca cb cc ns ps os) 26) :
    Calls Tryz.prog 106 #[valP x, .pointer (some ⟨q, 0, none⟩)] w fun e w' => e = .returned (.bool (podB x && knownB ns os x)) ∧ Below w.heap.size w w' := by
  have H := Lib.hid h
  have hql := Blk.lt hq
  have P0 : Hid (Blk (w.alloc (.cells (cellsP [x]).toArray 69)) w.heap.size (cellsP [x]).toArray 69) := Lib.hid (Blk.new w _ _)
  have B0 : Hid (Below w.heap.size w (w.alloc (.cells (cellsP [x]).toArray 69))) := Lib.hid (below1 w _)
  have HX := Lib.hid (hx.below B0.out)
  have hlt0 : w.heap.size < (w.alloc (.cells (cellsP [x]).toArray 69)).heap.size := Blk.lt P0.out
  have S0 := Lib.hid (Blk.alloc hq (.cells (cellsP [x]).toArray 69))
  have KK := Lib.hid (fun w' (hb : Below w.heap.size w w') => known_any A B C ca cb cc ns ps os x w' (H.out.below hb))
  clear h hx hq
  obtain ⟨r, hr⟩ : ∃ r, podB x = r := ⟨_, rfl⟩
  obtain ⟨r2, hr2⟩ : ∃ r, knownB ns os x = r := ⟨_, rfl⟩
  have KP := Lib.hid (mayBePod_any x _ HX.out)
  rw [hr] at KP
  rw [hr2] at KK
  rw [hr, hr2]
  clear hr hr2 H HX
  go_enter Tryz.func106, Tryz.ntmps106
  go_wp2_with fail
  refine KP.out.mono ?_
  rintro e w3 ⟨rfl, hb⟩
  have P3 := Lib.hid (P0.out.below hb hlt0)
  have S3 := Lib.hid (S0.out.below hb (Nat.lt_trans hql hlt0))
  have B3 := Lib.hid (B0.out.trans (hb.mono (Nat.le_of_lt hlt0)))
  clear hb KP
  cases r
  · go_wp2
    go_ret
    exact ⟨rfl, B3.out⟩
  · have c0 : w3.cell? ⟨w.heap.size, 0, none⟩ = some (strV x.name) := Blk.cell P3.out 0; have c1 : w3.cell? ⟨w.heap.size, 1, none⟩ = some (strV x.owner) := Blk.cell P3.out 1; have c2 : w3.cell? ⟨w.heap.size, 2, none⟩ = some (.int .i64 (x.req 0)) := Blk.cell P3.out 2; have c3 : w3.cell? ⟨w.heap.size, 3, none⟩ = some (.int .i64 (x.req 1)) := Blk.cell P3.out 3; have c4 : w3.cell? ⟨w.heap.size, 4, none⟩ = some (.int .i64 (x.req 2)) := Blk.cell P3.out 4; have c5 : w3.cell? ⟨w.heap.size, 5, none⟩ = some (.int .i64 (x.req 3)) := Blk.cell P3.out 5; have c6 : w3.cell? ⟨w.heap.size, 6, none⟩ = some (.int .i64 (x.req 4)) := Blk.cell P3.out 6; have c7 : w3.cell? ⟨w.heap.size, 7, none⟩ = some (.slice x.al x.labels.length x.cl) := Blk.cell P3.out 7; have c8 : w3.cell? ⟨w.heap.size, 8, none⟩ = some (.slice x.aw x.whr.length x.cw) := Blk.cell P3.out 8; have c9 : w3.cell? ⟨w.heap.size, 9, none⟩ = some (.slice x.ab x.bears.length x.cb) := Blk.cell P3.out 9; have c10 : w3.cell? ⟨w.heap.size, 10, none⟩ = some (strV x.wt) := Blk.cell P3.out 10; have c11 : w3.cell? ⟨w.heap.size, 11, none⟩ = some (.slice x.awt x.wtm.length x.cwt) := Blk.cell P3.out 11; have c12 : w3.cell? ⟨w.heap.size, 12, none⟩ = some (strV x.ap) := Blk.cell P3.out 12; have c13 : w3.cell? ⟨w.heap.size, 13, none⟩ = some (.slice x.aap x.apm.length x.cap) := Blk.cell P3.out 13; have c14 : w3.cell? ⟨w.heap.size, 14, none⟩ = some (strV x.on) := Blk.cell P3.out 14
    have s0 : w3.cell? ⟨q, 0, none⟩ = some (.slice A ns.length ca) := Blk.cell S3.out 0; have s1 : w3.cell? ⟨q, 1, none⟩ = some (.slice B ps.length cb) := Blk.cell S3.out 1; have s2 : w3.cell? ⟨q, 2, none⟩ = some (.slice C os.length cc) := Blk.cell S3.out 2
    go_wp2_with fail
    refine (KK.out _ B3.out).mono ?_
    rintro e w4 ⟨rfl, hb⟩
    have B4 := Lib.hid (B3.out.trans (hb.mono B3.out.size))
    clear hb KK c0 c1 c2 c3 c4 c5 c6 c7 c8 c9 c10 c11 c12 c13 c14 s0 s1 s2
    go_wp2
    go_ret
    exact ⟨La.retB (by simp), B4.out⟩
end Go.Proofs.YtfpbdfagcfdbbaaGreat

namespace Go.Proofs.YtfpbdfagcfdbbaaGreat
open Go.RowKit

theorem capOwn {w : World} {base : Nat} {e : TypeId} {size : Nat} {A : Option Addr} {n c : Nat} {xs : List Value} (h : w.ownsRow base e size (.slice A n c) n xs) : n ≤ c ∧ c ≤ maxLen := by
  rcases h.2 with ⟨hv, h0⟩ | ⟨g, cap, cur, hv, hb, hg, h1, h2, h3, h4⟩
  · cases hv
    exact ⟨Nat.le_refl _, Nat.zero_le _⟩
  · cases hv
    exact ⟨h1, h2⟩
theorem noneN {w : World} {l : List NodeD} (h : La.SlAt w none (cellsN l)) : l = [] := by
  cases l with
  | nil => rfl
  | cons x t =>
    obtain ⟨b, o, hA, _⟩ := atN h (k := 0) (x := x) rfl
    cases hA
theorem noneP {w : World} {l : List PodD} (h : La.SlAt w none (cellsP l)) : l = [] := by
  cases l with
  | nil => rfl
  | cons x t =>
    obtain ⟨b, o, hA, _⟩ := atP h (k := 0) (x := x) rfl
    cases hA
theorem noneO {w : World} {l : List OwnD} (h : La.SlAt w none (cellsO l)) : l = [] := by
  cases l with
  | nil => rfl
  | cons x t =>
    obtain ⟨b, o, hA, _⟩ := atO h (k := 0) (x := x) rfl
    cases hA
/-- What each made of names, told by mayBeNames. -/
theorem names_of {w : World} {base : Nat} {A : Option Addr} {c : Nat} (l : List (List UInt8)) (h : w.ownsRow base 9 1 (.slice A l.length c) l.length (strC l)) (hl : l.length ≤ 1000) (hbig : ∀ x ∈ l, x.length ≤ 9223372036854775807) :
    Calls Tryz.prog 96 #[.slice A l.length c] w fun e w' => e = .returned (.bool (namesB l)) ∧ Below w.heap.size w w' := by
  have hc := capOwn h
  have hm : maxLen ≤ 9223372036854775807 := by unfold maxLen; omega
  exact mayBeNames_any A c l w hl hc.1 (Nat.le_trans hc.2 hm) (La.own_slat h) hbig
/-- May a cluster be, but for its sums? -/
def clusB (ns : List NodeD) (ps : List PodD) (os : List OwnD) : Bool := decide ((ns.length : Int) ≤ 8) && decide ((ps.length : Int) ≤ 24) && decide ((os.length : Int) ≤ 8) && namesB (ns.map (·.name)) && namesB (ps.map (·.name)) && namesB (os.map (·.name)) && ns.all nodeB && ps.all (fun x => podB x && knownB ns os x) && os.all ownB

set_option maxRecDepth 100000 in
set_option maxHeartbeats 4000000 in
theorem may_any (A B C : Option Addr) (ca cb cc : Nat) (ns : List NodeD) (ps : List PodD) (os : List OwnD) (w : World) (h : SnapAt w A B C ca cb cc ns ps os) :
    Calls Tryz.prog 71 #[snapV A B C ca cb cc ns ps os] w fun e w' => e = .returned (.bool (clusB ns ps os)) ∧ Below w.heap.size w w' := by
  have H := Lib.hid h
  have B0 : Hid (Below w.heap.size w (w.alloc (.cells (snapC A B C ca cb cc ns ps os) 26))) := Lib.hid (below1 w _)
  have S0 : Hid (Blk (w.alloc (.cells (snapC A B C ca cb cc ns ps os) 26)) w.heap.size (snapC A B C ca cb cc ns ps os) 26) := Lib.hid (Blk.new w _ _)
  have hgN : ∀ (args : Array Value) (w : World), (callFunc 98 args).run Tryz.prog w = .ok (.enter 98 args) w := fun _ _ => by kernel_rfl
  have hgP : ∀ (args : Array Value) (w : World), (callFunc 100 args).run Tryz.prog w = .ok (.enter 100 args) w := fun _ _ => by kernel_rfl
  have hgO : ∀ (args : Array Value) (w : World), (callFunc 102 args).run Tryz.prog w = .ok (.enter 102 args) w := fun _ _ => by kernel_rfl
  have E1 := Lib.hid (fun w' (hb : Below w.heap.size w w') => eachNS A ca ns 98 w' H.out.ln (H.out.below hb).n.cells (fun e => noneN (w := w) (e ▸ H.out.n.cells)) hgN nodeName_any)
  have E2 := Lib.hid (fun w' (hb : Below w.heap.size w w') => eachPS B cb ps 100 w' H.out.lp (H.out.below hb).p.cells (fun e => noneP (w := w) (e ▸ H.out.p.cells)) hgP podName_any)
  have E3 := Lib.hid (fun w' (hb : Below w.heap.size w w') => eachOS C cc os 102 w' H.out.lo (H.out.below hb).o (fun e => noneO (w := w) (e ▸ H.out.o)) hgO ownerName_any)
  have F1 := Lib.hid (fun (w' : World) (base : Nat) (A : Option Addr) (c : Nat) (ho : w'.ownsRow base 9 1 (.slice A ns.length c) ns.length (ns.map fun x => strV x.name)) => by
    have k := names_of (ns.map (·.name)) (w := w') (base := base) (A := A) (c := c) (by simpa [strC, Function.comp_def] using ho) (by simpa using H.out.ln) (fun y hy => by obtain ⟨x, hx, rfl⟩ := List.mem_map.1 hy; exact (H.out.n.fit x hx).n)
    rwa [List.length_map] at k)
  have F2 := Lib.hid (fun (w' : World) (base : Nat) (A : Option Addr) (c : Nat) (ho : w'.ownsRow base 9 1 (.slice A ps.length c) ps.length (ps.map fun x => strV x.name)) => by
    have k := names_of (ps.map (·.name)) (w := w') (base := base) (A := A) (c := c) (by simpa [strC, Function.comp_def] using ho) (by simpa using H.out.lp) (fun y hy => by obtain ⟨x, hx, rfl⟩ := List.mem_map.1 hy; exact (H.out.p.fit x hx).n.1)
    rwa [List.length_map] at k)
  have F3 := Lib.hid (fun (w' : World) (base : Nat) (A : Option Addr) (c : Nat) (ho : w'.ownsRow base 9 1 (.slice A os.length c) os.length (os.map fun x => strV x.name)) => by
    have k := names_of (os.map (·.name)) (w := w') (base := base) (A := A) (c := c) (by simpa [strC, Function.comp_def] using ho) (by simpa using H.out.lo) (fun y hy => by obtain ⟨x, hx, rfl⟩ := List.mem_map.1 hy; exact (H.out.fo x hx).n)
    rwa [List.length_map] at k)
  have G1 := Lib.hid (fun w' (hb : Below w.heap.size w w') => allN A ca ns nodeB w' H.out.ln (H.out.below hb).n.cells (fun x hx w'' hb' => mayBeNode_any x w'' (((H.out.n.fit x hx).below hb).below hb')))
  have G2 := Lib.hid (fun w' (hb : Below w.heap.size w w') (hq : Blk w' w.heap.size (snapC A B C ca cb cc ns ps os) 26) => allP B cb w.heap.size ps (fun x => podB x && knownB ns os x) w' H.out.lp (H.out.below hb).p.cells (fun x hx w'' hb' => one_any A B C ca cb cc w.heap.size ns ps os x w'' ((H.out.below hb).below hb') (((H.out.p.fit x hx).below hb).below hb') (Blk.below hq hb' (Blk.lt hq))))
  have G3 := Lib.hid (fun w' (hb : Below w.heap.size w w') => allO C cc os ownB w' H.out.lo (H.out.below hb).o (fun x hx w'' hb' => mayBeOwner_any x w'' (H.out.fo x hx)))
  have E : Hid (clusB ns ps os = (decide ((ns.length : Int) ≤ 8) && decide ((ps.length : Int) ≤ 24) && decide ((os.length : Int) ≤ 8) && namesB (ns.map (·.name)) && namesB (ps.map (·.name)) && namesB (os.map (·.name)) && ns.all nodeB && ps.all (fun x => podB x && knownB ns os x) && os.all ownB)) := Lib.hid rfl
  generalize clusB ns ps os = R at E ⊢
  generalize namesB (ns.map (·.name)) = v1 at F1 E
  generalize namesB (ps.map (·.name)) = v2 at F2 E
  generalize namesB (os.map (·.name)) = v3 at F3 E
  generalize ns.all nodeB = v4 at G1 E
  generalize ps.all (fun x => podB x && knownB ns os x) = v5 at G2 E
  generalize os.all ownB = v6 at G3 E
  clear h H hgN hgP hgO
  have hlt0 : w.heap.size < (w.alloc (.cells (snapC A B C ca cb cc ns ps os) 26)).heap.size := Blk.lt S0.out
  rcases Decidable.em ((ns.length : Int) ≤ 8) with l1 | l1
  case inr =>
    have HE : Hid (R = false) := Lib.hid (by rw [E.out, decide_eq_false l1]; simp)
    go_enter Tryz.func71, Tryz.ntmps71
    go_wp2
    go_ret
    exact ⟨La.retB HE.out.symm, B0.out⟩
  rcases Decidable.em ((ps.length : Int) ≤ 24) with l2 | l2
  case inr =>
    have HE : Hid (R = false) := Lib.hid (by rw [E.out, decide_eq_false l2]; simp)
    go_enter Tryz.func71, Tryz.ntmps71
    go_wp2
    go_ret
    exact ⟨La.retB HE.out.symm, B0.out⟩
  rcases Decidable.em ((os.length : Int) ≤ 8) with l3 | l3
  case inr =>
    have HE : Hid (R = false) := Lib.hid (by rw [E.out, decide_eq_false l3]; simp)
    go_enter Tryz.func71, Tryz.ntmps71
    go_wp2
    go_ret
    exact ⟨La.retB HE.out.symm, B0.out⟩
  go_enter Tryz.func71, Tryz.ntmps71
  go_wp2_with fail
  refine (E1.out _ B0.out).mono ?_
  rintro e w1 ⟨u0, rfl, ho, hb⟩
  obtain ⟨A0, c0, rfl, hm0⟩ := La.own_slice ho
  have KF := Lib.hid (F1.out _ _ _ _ ho)
  clear ho hm0 E1 F1
  have S1 := Lib.hid (S0.out.below hb hlt0)
  have B1 := Lib.hid (B0.out.trans (hb.mono (Nat.le_of_lt hlt0)))
  clear hb
  have hl1 := Blk.lt S1.out
  have s0 : w1.cell? ⟨w.heap.size, 0, none⟩ = some (.slice A ns.length ca) := Blk.cell S1.out 0
  have s1 : w1.cell? ⟨w.heap.size, 1, none⟩ = some (.slice B ps.length cb) := Blk.cell S1.out 1
  have s2 : w1.cell? ⟨w.heap.size, 2, none⟩ = some (.slice C os.length cc) := Blk.cell S1.out 2
  go_wp2_with fail
  refine (KF.out).mono ?_
  rintro e w2 ⟨rfl, hb⟩
  clear KF
  have S2 := Lib.hid (S1.out.below hb hl1)
  have B2 := Lib.hid (B1.out.trans (hb.mono (Nat.le_of_lt hl1)))
  clear hb
  have hl2 := Blk.lt S2.out
  clear s0 s1 s2
  have s0 : w2.cell? ⟨w.heap.size, 0, none⟩ = some (.slice A ns.length ca) := Blk.cell S2.out 0
  have s1 : w2.cell? ⟨w.heap.size, 1, none⟩ = some (.slice B ps.length cb) := Blk.cell S2.out 1
  have s2 : w2.cell? ⟨w.heap.size, 2, none⟩ = some (.slice C os.length cc) := Blk.cell S2.out 2
  cases v1
  · have HE : Hid (R = false) := Lib.hid (by rw [E.out]; simp)
    go_wp2
    go_ret
    exact ⟨La.retB HE.out.symm, B2.out⟩
  go_wp2_with fail
  refine (E2.out _ B2.out).mono ?_
  rintro e w3 ⟨u1, rfl, ho, hb⟩
  obtain ⟨A1, c1, rfl, hm1⟩ := La.own_slice ho
  have KF := Lib.hid (F2.out _ _ _ _ ho)
  clear ho hm1 E2 F2
  have S3 := Lib.hid (S2.out.below hb hl2)
  have B3 := Lib.hid (B2.out.trans (hb.mono (Nat.le_of_lt hl2)))
  clear hb
  have hl3 := Blk.lt S3.out
  have s0 : w3.cell? ⟨w.heap.size, 0, none⟩ = some (.slice A ns.length ca) := Blk.cell S3.out 0
  have s1 : w3.cell? ⟨w.heap.size, 1, none⟩ = some (.slice B ps.length cb) := Blk.cell S3.out 1
  have s2 : w3.cell? ⟨w.heap.size, 2, none⟩ = some (.slice C os.length cc) := Blk.cell S3.out 2
  go_wp2_with fail
  refine (KF.out).mono ?_
  rintro e w4 ⟨rfl, hb⟩
  clear KF
  have S4 := Lib.hid (S3.out.below hb hl3)
  have B4 := Lib.hid (B3.out.trans (hb.mono (Nat.le_of_lt hl3)))
  clear hb
  have hl4 := Blk.lt S4.out
  clear s0 s1 s2
  have s0 : w4.cell? ⟨w.heap.size, 0, none⟩ = some (.slice A ns.length ca) := Blk.cell S4.out 0
  have s1 : w4.cell? ⟨w.heap.size, 1, none⟩ = some (.slice B ps.length cb) := Blk.cell S4.out 1
  have s2 : w4.cell? ⟨w.heap.size, 2, none⟩ = some (.slice C os.length cc) := Blk.cell S4.out 2
  cases v2
  · have HE : Hid (R = false) := Lib.hid (by rw [E.out]; simp)
    go_wp2
    go_ret
    exact ⟨La.retB HE.out.symm, B4.out⟩
  go_wp2_with fail
  refine (E3.out _ B4.out).mono ?_
  rintro e w5 ⟨u2, rfl, ho, hb⟩
  obtain ⟨A2, c2, rfl, hm2⟩ := La.own_slice ho
  have KF := Lib.hid (F3.out _ _ _ _ ho)
  clear ho hm2 E3 F3
  have S5 := Lib.hid (S4.out.below hb hl4)
  have B5 := Lib.hid (B4.out.trans (hb.mono (Nat.le_of_lt hl4)))
  clear hb
  have hl5 := Blk.lt S5.out
  have s0 : w5.cell? ⟨w.heap.size, 0, none⟩ = some (.slice A ns.length ca) := Blk.cell S5.out 0
  have s1 : w5.cell? ⟨w.heap.size, 1, none⟩ = some (.slice B ps.length cb) := Blk.cell S5.out 1
  have s2 : w5.cell? ⟨w.heap.size, 2, none⟩ = some (.slice C os.length cc) := Blk.cell S5.out 2
  go_wp2_with fail
  refine (KF.out).mono ?_
  rintro e w6 ⟨rfl, hb⟩
  clear KF
  have S6 := Lib.hid (S5.out.below hb hl5)
  have B6 := Lib.hid (B5.out.trans (hb.mono (Nat.le_of_lt hl5)))
  clear hb
  have hl6 := Blk.lt S6.out
  clear s0 s1 s2
  have s0 : w6.cell? ⟨w.heap.size, 0, none⟩ = some (.slice A ns.length ca) := Blk.cell S6.out 0
  have s1 : w6.cell? ⟨w.heap.size, 1, none⟩ = some (.slice B ps.length cb) := Blk.cell S6.out 1
  have s2 : w6.cell? ⟨w.heap.size, 2, none⟩ = some (.slice C os.length cc) := Blk.cell S6.out 2
  cases v3
  · have HE : Hid (R = false) := Lib.hid (by rw [E.out]; simp)
    go_wp2
    go_ret
    exact ⟨La.retB HE.out.symm, B6.out⟩
  go_wp2_with fail
  refine (G1.out _ B6.out).mono ?_
  rintro e w7 ⟨rfl, hb⟩
  clear G1
  have S7 := Lib.hid (S6.out.below hb hl6)
  have B7 := Lib.hid (B6.out.trans (hb.mono (Nat.le_of_lt hl6)))
  clear hb
  have hl7 := Blk.lt S7.out
  clear s0 s1 s2
  have s0 : w7.cell? ⟨w.heap.size, 0, none⟩ = some (.slice A ns.length ca) := Blk.cell S7.out 0
  have s1 : w7.cell? ⟨w.heap.size, 1, none⟩ = some (.slice B ps.length cb) := Blk.cell S7.out 1
  have s2 : w7.cell? ⟨w.heap.size, 2, none⟩ = some (.slice C os.length cc) := Blk.cell S7.out 2
  cases v4
  · have HE : Hid (R = false) := Lib.hid (by rw [E.out]; simp)
    go_wp2
    go_ret
    exact ⟨La.retB HE.out.symm, B7.out⟩
  go_wp2_with fail
  refine (G2.out _ B7.out S7.out).mono ?_
  rintro e w8 ⟨rfl, hb⟩
  clear G2
  have S8 := Lib.hid (S7.out.below hb hl7)
  have B8 := Lib.hid (B7.out.trans (hb.mono (Nat.le_of_lt hl7)))
  clear hb
  have hl8 := Blk.lt S8.out
  clear s0 s1 s2
  have s0 : w8.cell? ⟨w.heap.size, 0, none⟩ = some (.slice A ns.length ca) := Blk.cell S8.out 0
  have s1 : w8.cell? ⟨w.heap.size, 1, none⟩ = some (.slice B ps.length cb) := Blk.cell S8.out 1
  have s2 : w8.cell? ⟨w.heap.size, 2, none⟩ = some (.slice C os.length cc) := Blk.cell S8.out 2
  cases v5
  · have HE : Hid (R = false) := Lib.hid (by rw [E.out]; simp)
    go_wp2
    go_ret
    exact ⟨La.retB HE.out.symm, B8.out⟩
  go_wp2_with fail
  refine (G3.out _ B8.out).mono ?_
  rintro e w9 ⟨rfl, hb⟩
  clear G3
  have S9 := Lib.hid (S8.out.below hb hl8)
  have B9 := Lib.hid (B8.out.trans (hb.mono (Nat.le_of_lt hl8)))
  clear hb
  have hl9 := Blk.lt S9.out
  clear s0 s1 s2
  have s0 : w9.cell? ⟨w.heap.size, 0, none⟩ = some (.slice A ns.length ca) := Blk.cell S9.out 0
  have s1 : w9.cell? ⟨w.heap.size, 1, none⟩ = some (.slice B ps.length cb) := Blk.cell S9.out 1
  have s2 : w9.cell? ⟨w.heap.size, 2, none⟩ = some (.slice C os.length cc) := Blk.cell S9.out 2
  have HE : Hid (R = v6) := Lib.hid (by rw [E.out, decide_eq_true l1, decide_eq_true l2, decide_eq_true l3]; simp)
  clear s0 s1 s2
  go_wp2
  go_ret
  exact ⟨La.retB HE.out.symm, B9.out⟩
end Go.Proofs.YtfpbdfagcfdbbaaGreat
