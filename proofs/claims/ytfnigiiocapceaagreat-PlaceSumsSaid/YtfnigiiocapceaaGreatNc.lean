/- Where a name stands first: contracts. Condition: the list lies in memory. May a pod be, by itself, and in its cluster? Contracts. Condition: the cluster lies in memory. -/
import Derived.Test.YtfnigiiocapceaaGreatNParts

namespace Go.Proofs.YtfnigiiocapceaaGreat
open Go.RowKit

/-- The place of the first one of that name, or -1. -/
def idxF (name : List UInt8) : List (List UInt8) → Int
  | [] => -1
  | x :: t => if x = name then 0 else if idxF name t = -1 then -1 else idxF name t + 1
theorem idx_hit (name : List UInt8) : ∀ (l : List (List UInt8)) (k : Nat), l[k]? = some name → (∀ (j : Nat) (x : List UInt8), j < k → l[j]? = some x → x ≠ name) → idxF name l = (k : Int) := by
  intro l
  induction l with
  | nil => intro k h; simp at h
  | cons a t ih =>
    intro k h hn
    rw [idxF]
    cases k with
    | zero =>
      simp only [List.getElem?_cons_zero, Option.some.injEq] at h
      rw [if_pos h]
      rfl
    | succ k =>
      rw [if_neg (hn 0 a (by omega) rfl), ih k (by simpa using h) (fun j x hj hx => hn (j + 1) x (by omega) (by simpa using hx)), if_neg (by omega)]
      omega
theorem idx_miss (name : List UInt8) : ∀ (l : List (List UInt8)), (∀ (j : Nat) (x : List UInt8), l[j]? = some x → x ≠ name) → idxF name l = -1 := by
  intro l
  induction l with
  | nil => intro _; rfl
  | cons a t ih =>
    intro hn
    rw [idxF, if_neg (hn 0 a rfl), ih (fun j x hx => hn (j + 1) x (by simpa using hx)), if_pos rfl]

set_option maxHeartbeats 1000000 in
theorem isN (x : NodeD) (name : List UInt8) (q : Nat) (w : World) (hq : w.cell? ⟨q, 0, none⟩ = some (strV name)) :
    Calls Tryz.prog 145 #[valN x, .pointer (some ⟨q, 0, none⟩)] w fun e w' => e = .returned (.bool (decide (x.name = name))) ∧ Below w.heap.size w w' := by
  have hql : q < w.heap.size := World.block_lt_of_cell? w _ hq
  have hq1 : (w.alloc (.cells (cellsN [x]).toArray 73)).cell? ⟨q, 0, none⟩ = some (strV name) := ((below1 w (.cells (cellsN [x]).toArray 73)).cell (p := ⟨q, 0, none⟩) hql).trans hq
  have hne : ¬ w.heap.size = q := by omega
  have hne2 : ¬ q = w.heap.size := by omega
  go_enter Tryz.func145, Tryz.ntmps145
  go_wp2
  go_ret
  refine ⟨La.retB ?_, (Below.refl _ _).alloc (Nat.le_refl _) _⟩
  rw [Bool.eq_iff_iff]
  simp

set_option maxRecDepth 100000 in
set_option maxHeartbeats 2000000 in
theorem indexN (A : Option Addr) (c q : Nat) (l : List NodeD) (name : List UInt8) (w : World) (hl : l.length ≤ 1000) (hs : La.SlAt w A (cellsN l)) (hq : w.cell? ⟨q, 0, none⟩ = some (strV name)) :
    Calls Tryz.prog 144 #[.slice A l.length c, .func (Fn.func 145) #[] #[.pointer (some ⟨q, 0, none⟩)]] w fun e w' => e = .returned (.int .i64 (idxF name (l.map (·.name)))) ∧ Below w.heap.size w w' := by
  have HS := Lib.hid hs
  have HQ := Lib.hid hq
  have hql : q < w.heap.size := World.block_lt_of_cell? w _ hq
  have hg : ∀ (args : Array Value) (w : World), (callFunc 145 args).run Tryz.prog w = .ok (.enter 145 args) w := fun _ _ => by kernel_rfl
  obtain ⟨R, hR⟩ : ∃ R, idxF name (l.map (·.name)) = R := ⟨_, rfl⟩
  have HR := Lib.hid hR
  rw [hR]
  clear hs hq hR
  go_enter Tryz.func144, Tryz.ntmps144
  go_wp2_with fail
  go_loopw [8] (fun i wr => ∃ k : Nat, k ≤ l.length ∧ i = .int .i64 k ∧ (∀ j x, j < k → (l.map (·.name))[j]? = some x → x ≠ name) ∧ Below w.heap.size w wr) (fun i _ => l.length - (intOf i).toNat)
  case atStart => exact ⟨0, by omega, rfl, fun j x h => by omega, Below.refl _ _⟩
  case round =>
    obtain ⟨k, hk, rfl, hn, hb⟩ := hrel
    have HN := Lib.hid hn
    have HB := Lib.hid hb
    clear hn hb
    by_cases hlt : k < l.length
    · obtain ⟨x, hx⟩ : ∃ x, l[k]? = some x := ⟨l[k], List.getElem?_eq_getElem hlt⟩
      obtain ⟨b, o, hA, hbl, c0, c1, c2, c3, c4, c5, c6, c7, c8, c9⟩ := atN (HS.out.below HB.out) hx
      subst hA
      have hxn : (l.map (·.name))[k]? = some x.name := by simp [hx]
      have HX := Lib.hid hxn
      have k0 : (0 : Int) ≤ (k : Int) := by omega
      have k1 : (k : Int) < (l.length : Int) := by omega
      have KI := Lib.hid (fun w' (hb : Below wr.heap.size wr w') => isN x name q w' ((hb.cell (p := ⟨q, 0, none⟩) (by show q < wr.heap.size; have := HB.out.size; omega)).trans ((HB.out.cell (p := ⟨q, 0, none⟩) hql).trans HQ.out)))
      clear hx hxn
      go_wp2_with fail
      refine (KI.out _ (by first | exact Below.refl _ _ | exact (Below.refl _ _).drew)).mono ?_
      rintro e w3 ⟨rfl, hb3⟩
      have B3 := Lib.hid (HB.out.trans (hb3.mono HB.out.size))
      clear hb3 KI c0 c1 c2 c3 c4 c5 c6 c7 c8 c9
      by_cases he : x.name = name
      · have hd : decide (x.name = name) = true := by simpa using he
        have HE : Hid ((k : Int) = R) := Lib.hid (by rw [← HR.out]; exact (idx_hit name _ k (by rw [HX.out, he]) HN.out).symm)
        have He := Lib.hid he
        clear he
        go_wp2
        go_ret
        exact ⟨La.retI HE.out, B3.out⟩
      · have hd : decide (x.name = name) = false := by simpa using he
        have He := Lib.hid he
        clear he
        go_wp2
        go_roundw
        case rel =>
          refine ⟨k + 1, by omega, by go_num, fun j y hj hy => ?_, B3.out⟩
          by_cases hjk : j = k
          · subst hjk
            rw [HX.out] at hy
            cases hy
            exact He.out
          · exact HN.out j y (by omega) hy
        case measure => simp [intOf]; omega
    · obtain rfl : k = l.length := by omega
      have HE : Hid ((-1 : Int) = R) := Lib.hid (by
        rw [← HR.out]
        refine (idx_miss name _ (fun j y hy => HN.out j y ?_ hy)).symm
        rcases Nat.lt_or_ge j l.length with h | h
        · exact h
        · rw [List.getElem?_eq_none (by simpa using h)] at hy
          cases hy)
      go_wp2
      go_ret
      exact ⟨La.retI HE.out, HB.out⟩

set_option maxHeartbeats 1000000 in
theorem findN (A B C : Option Addr) (ca cb cc la lb lc : Nat) (l : List NodeD) (name : List UInt8) (w : World) (hl : l.length ≤ 1000) (hs : La.SlAt w A (cellsN l)) (hn : la = l.length) :
    Calls Tryz.prog 108 #[.agg #[.slice A la ca, .slice B lb cb, .slice C lc cc], strV name] w fun e w' => e = .returned (.int .i64 (idxF name (l.map (·.name)))) ∧ Below w.heap.size w w' := by
  subst hn
  have B2 := Lib.hid (Qu.below2 w (.cells #[.slice A l.length ca, .slice B lb cb, .slice C lc cc] 26) (.cells #[strV name] 9))
  have KI := Lib.hid (indexN A ca (w.heap.size + 1) l name _ hl (hs.below B2.out) (by
    rw [cell_of_row _ (w.heap.size + 1) 0 _ _ _ (blk2 w (.cells #[.slice A l.length ca, .slice B lb cb, .slice C lc cc] 26) #[strV name] 9)]
    rfl))
  generalize idxF name (l.map (·.name)) = R at KI ⊢
  clear hs
  go_enter Tryz.func108, Tryz.ntmps108
  go_wp2_with fail
  refine KI.out.mono ?_
  rintro e w3 ⟨rfl, hb3⟩
  have B3 := Lib.hid (B2.out.trans (hb3.mono B2.out.size))
  clear hb3 KI
  go_wp2
  go_ret
  exact ⟨rfl, B3.out⟩

set_option maxHeartbeats 1000000 in
theorem isO (x : OwnD) (name : List UInt8) (q : Nat) (w : World) (hq : w.cell? ⟨q, 0, none⟩ = some (strV name)) :
    Calls Tryz.prog 143 #[valO x, .pointer (some ⟨q, 0, none⟩)] w fun e w' => e = .returned (.bool (decide (x.name = name))) ∧ Below w.heap.size w w' := by
  have hql : q < w.heap.size := World.block_lt_of_cell? w _ hq
  have hq1 : (w.alloc (.cells (cellsO [x]).toArray 64)).cell? ⟨q, 0, none⟩ = some (strV name) := ((below1 w (.cells (cellsO [x]).toArray 64)).cell (p := ⟨q, 0, none⟩) hql).trans hq
  have hne : ¬ w.heap.size = q := by omega
  have hne2 : ¬ q = w.heap.size := by omega
  go_enter Tryz.func143, Tryz.ntmps143
  go_wp2
  go_ret
  refine ⟨La.retB ?_, (Below.refl _ _).alloc (Nat.le_refl _) _⟩
  rw [Bool.eq_iff_iff]
  simp

set_option maxRecDepth 100000 in
set_option maxHeartbeats 2000000 in
theorem indexO (A : Option Addr) (c q : Nat) (l : List OwnD) (name : List UInt8) (w : World) (hl : l.length ≤ 1000) (hs : La.SlAt w A (cellsO l)) (hq : w.cell? ⟨q, 0, none⟩ = some (strV name)) :
    Calls Tryz.prog 142 #[.slice A l.length c, .func (Fn.func 143) #[] #[.pointer (some ⟨q, 0, none⟩)]] w fun e w' => e = .returned (.int .i64 (idxF name (l.map (·.name)))) ∧ Below w.heap.size w w' := by
  have HS := Lib.hid hs
  have HQ := Lib.hid hq
  have hql : q < w.heap.size := World.block_lt_of_cell? w _ hq
  have hg : ∀ (args : Array Value) (w : World), (callFunc 143 args).run Tryz.prog w = .ok (.enter 143 args) w := fun _ _ => by kernel_rfl
  obtain ⟨R, hR⟩ : ∃ R, idxF name (l.map (·.name)) = R := ⟨_, rfl⟩
  have HR := Lib.hid hR
  rw [hR]
  clear hs hq hR
  go_enter Tryz.func142, Tryz.ntmps142
  go_wp2_with fail
  go_loopw [8] (fun i wr => ∃ k : Nat, k ≤ l.length ∧ i = .int .i64 k ∧ (∀ j x, j < k → (l.map (·.name))[j]? = some x → x ≠ name) ∧ Below w.heap.size w wr) (fun i _ => l.length - (intOf i).toNat)
  case atStart => exact ⟨0, by omega, rfl, fun j x h => by omega, Below.refl _ _⟩
  case round =>
    obtain ⟨k, hk, rfl, hn, hb⟩ := hrel
    have HN := Lib.hid hn
    have HB := Lib.hid hb
    clear hn hb
    by_cases hlt : k < l.length
    · obtain ⟨x, hx⟩ : ∃ x, l[k]? = some x := ⟨l[k], List.getElem?_eq_getElem hlt⟩
      obtain ⟨b, o, hA, hbl, c0, c1, c2, c3, c4⟩ := atO (HS.out.below HB.out) hx
      subst hA
      have hxn : (l.map (·.name))[k]? = some x.name := by simp [hx]
      have HX := Lib.hid hxn
      have k0 : (0 : Int) ≤ (k : Int) := by omega
      have k1 : (k : Int) < (l.length : Int) := by omega
      have KI := Lib.hid (fun w' (hb : Below wr.heap.size wr w') => isO x name q w' ((hb.cell (p := ⟨q, 0, none⟩) (by show q < wr.heap.size; have := HB.out.size; omega)).trans ((HB.out.cell (p := ⟨q, 0, none⟩) hql).trans HQ.out)))
      clear hx hxn
      go_wp2_with fail
      refine (KI.out _ (by first | exact Below.refl _ _ | exact (Below.refl _ _).drew)).mono ?_
      rintro e w3 ⟨rfl, hb3⟩
      have B3 := Lib.hid (HB.out.trans (hb3.mono HB.out.size))
      clear hb3 KI c0 c1 c2 c3 c4
      by_cases he : x.name = name
      · have hd : decide (x.name = name) = true := by simpa using he
        have HE : Hid ((k : Int) = R) := Lib.hid (by rw [← HR.out]; exact (idx_hit name _ k (by rw [HX.out, he]) HN.out).symm)
        have He := Lib.hid he
        clear he
        go_wp2
        go_ret
        exact ⟨La.retI HE.out, B3.out⟩
      · have hd : decide (x.name = name) = false := by simpa using he
        have He := Lib.hid he
        clear he
        go_wp2
        go_roundw
        case rel =>
          refine ⟨k + 1, by omega, by go_num, fun j y hj hy => ?_, B3.out⟩
          by_cases hjk : j = k
          · subst hjk
            rw [HX.out] at hy
            cases hy
            exact He.out
          · exact HN.out j y (by omega) hy
        case measure => simp [intOf]; omega
    · obtain rfl : k = l.length := by omega
      have HE : Hid ((-1 : Int) = R) := Lib.hid (by
        rw [← HR.out]
        refine (idx_miss name _ (fun j y hy => HN.out j y ?_ hy)).symm
        rcases Nat.lt_or_ge j l.length with h | h
        · exact h
        · rw [List.getElem?_eq_none (by simpa using h)] at hy
          cases hy)
      go_wp2
      go_ret
      exact ⟨La.retI HE.out, HB.out⟩

set_option maxHeartbeats 1000000 in
theorem findO (A B C : Option Addr) (ca cb cc la lb lc : Nat) (l : List OwnD) (name : List UInt8) (w : World) (hl : l.length ≤ 1000) (hs : La.SlAt w C (cellsO l)) (hn : lc = l.length) :
    Calls Tryz.prog 106 #[.agg #[.slice A la ca, .slice B lb cb, .slice C lc cc], strV name] w fun e w' => e = .returned (.int .i64 (idxF name (l.map (·.name)))) ∧ Below w.heap.size w w' := by
  subst hn
  have B2 := Lib.hid (Qu.below2 w (.cells #[.slice A la ca, .slice B lb cb, .slice C l.length cc] 26) (.cells #[strV name] 9))
  have KI := Lib.hid (indexO C cc (w.heap.size + 1) l name _ hl (hs.below B2.out) (by
    rw [cell_of_row _ (w.heap.size + 1) 0 _ _ _ (blk2 w (.cells #[.slice A la ca, .slice B lb cb, .slice C l.length cc] 26) #[strV name] 9)]
    rfl))
  generalize idxF name (l.map (·.name)) = R at KI ⊢
  clear hs
  go_enter Tryz.func106, Tryz.ntmps106
  go_wp2_with fail
  refine KI.out.mono ?_
  rintro e w3 ⟨rfl, hb3⟩
  have B3 := Lib.hid (B2.out.trans (hb3.mono B2.out.size))
  clear hb3 KI
  go_wp2
  go_ret
  exact ⟨rfl, B3.out⟩
end Go.Proofs.YtfnigiiocapceaaGreat

namespace Go.Proofs.YtfnigiiocapceaaGreat
open Go.RowKit

/-- Is there a node at that place that is not lost? -/
def tpB (l : List NodeD) (k : Int) : Bool := decide (0 ≤ k) && (match l[k.toNat]? with
  | none => false
  | some x => !x.lost)
set_option maxHeartbeats 1000000 in
theorem takes_any (A B C : Option Addr) (ca cb cc lb lc : Nat) (l : List NodeD) (k : Int) (w : World) (hl : l.length ≤ 1000) (hk1 : -1 ≤ k) (hk2 : k ≤ 1000) (hs : La.SlAt w A (cellsN l)) :
    Calls Tryz.prog 107 #[.agg #[.slice A l.length ca, .slice B lb cb, .slice C lc cc], .int .i64 k] w fun e w' => e = .returned (.bool (tpB l k)) ∧ Below w.heap.size w w' := by
  have B0 := Lib.hid (below1 w (.cells #[.slice A l.length ca, .slice B lb cb, .slice C lc cc] 26))
  by_cases h0 : 0 ≤ k
  · obtain ⟨n, rfl⟩ : ∃ n : Nat, k = (n : Int) := ⟨k.toNat, by omega⟩
    by_cases hn : n < l.length
    · obtain ⟨x, hx⟩ : ∃ x, l[n]? = some x := ⟨l[n], List.getElem?_eq_getElem hn⟩
      obtain ⟨b, o, hA, hbl, c0, c1, c2, c3, c4, c5, c6, c7, c8, c9⟩ := atN (hs.below B0.out) hx
      subst hA
      have E : Hid (tpB l (n : Int) = !x.lost) := Lib.hid (by unfold tpB; rw [Int.toNat_natCast, hx]; simp)
      have n0 : (0 : Int) ≤ (n : Int) := by omega
      have n1 : (n : Int) < (l.length : Int) := by omega
      have hnot : ∀ (x : Bool) (w : World), (Op.unary .not (.bool x)).run Tryz.prog w = .ok (.bool (!x)) w := fun _ _ => rfl
      clear hs hx h0 c0 c1 c2 c3 c4 c5 c6 c7 c8
      go_enter Tryz.func107, Tryz.ntmps107
      go_wp2
      all_goals
        go_ret
        first
          | exact ⟨La.retB E.out.symm, B0.out⟩
          | exact ⟨La.retB (by rw [E.out]; simp_all), B0.out⟩
    · have E : Hid (tpB l (n : Int) = false) := Lib.hid (by unfold tpB; rw [Int.toNat_natCast, List.getElem?_eq_none (by omega)]; simp)
      have n0 : (0 : Int) ≤ (n : Int) := by omega
      have n1 : ¬ (n : Int) < (l.length : Int) := by omega
      clear hs h0 hn
      go_enter Tryz.func107, Tryz.ntmps107
      go_wp2
      go_ret
      exact ⟨La.retB E.out.symm, B0.out⟩
  · have E : Hid (tpB l k = false) := Lib.hid (by unfold tpB; rw [decide_eq_false h0]; rfl)
    clear hs
    go_enter Tryz.func107, Tryz.ntmps107
    go_wp2
    go_ret
    exact ⟨La.retB E.out.symm, B0.out⟩

def podB (x : PodD) : Bool := (Qu.chkV x.req == 0) && (La.chkA La.labB La.keyR x.labels == 0) && (La.chkA La.terB La.anyR x.whr == 0) && (La.chkA La.borB La.pairR x.bears == 0) && nearB x.wt x.wtm && nearB x.ap x.apm
set_option maxRecDepth 100000 in
set_option maxHeartbeats 2000000 in
theorem mayBePod_any (x : PodD) (w : World) (hx : x.fit w) :
    Calls Tryz.prog 84 #[valP x] w fun e w' => e = .returned (.bool (podB x)) ∧ Below w.heap.size w w' := by
  have KV := Lib.hid (fun w => Qu.vcheck_any x.req w)
  have K1 : Hid (∀ w', Below w.heap.size w w' → Calls Tryz.prog 102 #[.slice x.al x.labels.length x.cl] w' fun e w'' => e = .returned (.int .i64 (La.chkA La.labB La.keyR x.labels)) ∧ Below w'.heap.size w' w'') := Lib.hid (fun w' hb => by
    have h := hx.l.below hb
    exact La.check_anyW x.al x.cl x.labels w' h.le h.most h.cells h.big)
  have K2 : Hid (∀ w', Below w.heap.size w w' → Calls Tryz.prog 103 #[.slice x.aw x.whr.length x.cw] w' fun e w'' => e = .returned (.int .i64 (La.chkA La.terB La.anyR x.whr)) ∧ Below w'.heap.size w' w'') := Lib.hid (fun w' hb => by
    have h := hx.wh.below hb
    exact La.checkTerms_anyW x.aw x.cw x.whr w' h.le h.most h.cells h.big)
  have K3 : Hid (∀ w', Below w.heap.size w w' → Calls Tryz.prog 104 #[.slice x.ab x.bears.length x.cb] w' fun e w'' => e = .returned (.int .i64 (La.chkA La.borB La.pairR x.bears)) ∧ Below w'.heap.size w' w'') := Lib.hid (fun w' hb => by
    have h := hx.b.below hb
    exact La.checkBears_anyW x.ab x.cb x.bears w' h.le h.most h.cells h.big)
  have K4 : Hid (∀ w', Below w.heap.size w w' → Calls Tryz.prog 105 #[valNear x.wt x.wtm x.awt x.cwt] w' fun e w'' => e = .returned (.bool (nearB x.wt x.wtm)) ∧ Below w'.heap.size w' w'') := Lib.hid (fun w' hb => mayBeNear_any x.wt x.wtm x.awt x.cwt w' (hx.wt.below hb) hx.n.2.2.1)
  have K5 : Hid (∀ w', Below w.heap.size w w' → Calls Tryz.prog 105 #[valNear x.ap x.apm x.aap x.cap] w' fun e w'' => e = .returned (.bool (nearB x.ap x.apm)) ∧ Below w'.heap.size w' w'') := Lib.hid (fun w' hb => mayBeNear_any x.ap x.apm x.aap x.cap w' (hx.ap.below hb) hx.n.2.2.2.1)
  have B0 : Hid (Below w.heap.size w (w.alloc (.cells (cellsP [x]).toArray 62))) := Lib.hid (below1 w _)
  have Q0 : Hid (Blk (w.alloc (.cells (cellsP [x]).toArray 62)) w.heap.size (cellsP [x]).toArray 62) := Lib.hid (Blk.new w _ _)
  have hlt0 : w.heap.size < (w.alloc (.cells (cellsP [x]).toArray 62)).heap.size := Blk.lt Q0.out
  have E : Hid (podB x = ((Qu.chkV x.req == 0) && (La.chkA La.labB La.keyR x.labels == 0) && (La.chkA La.terB La.anyR x.whr == 0) && (La.chkA La.borB La.pairR x.bears == 0) && nearB x.wt x.wtm && nearB x.ap x.apm)) := Lib.hid rfl
  generalize podB x = R at E ⊢
  generalize Qu.chkV x.req = v1 at KV E
  generalize La.chkA La.labB La.keyR x.labels = v2 at K1 E
  generalize La.chkA La.terB La.anyR x.whr = v3 at K2 E
  generalize La.chkA La.borB La.pairR x.bears = v4 at K3 E
  generalize nearB x.wt x.wtm = v5 at K4 E
  generalize nearB x.ap x.apm = v6 at K5 E
  clear hx
  go_enter Tryz.func84, Tryz.ntmps84
  go_wp2_with fail
  refine (KV.out _).mono ?_
  rintro e w2 ⟨rfl, hb⟩
  have Q2 := Lib.hid (Q0.out.below hb hlt0)
  have B2 := Lib.hid (B0.out.trans (hb.mono (Nat.le_of_lt hlt0)))
  clear hb KV
  have hl2 := Blk.lt Q2.out
  have c7 : w2.cell? ⟨w.heap.size, 7, none⟩ = some (.slice x.al x.labels.length x.cl) := Blk.cell Q2.out 7
  cases h1 : (v1 == 0)
  · have HE : Hid (R = false) := Lib.hid (by rw [E.out, h1]; rfl)
    have h1' : (v1 != 0) = true := by simpa using h1
    go_wp2
    go_ret
    exact ⟨La.retB HE.out.symm, B2.out⟩
  have h1' : (v1 != 0) = false := by simpa using h1
  go_wp2_with fail
  refine (K1.out _ B2.out).mono ?_
  rintro e w3 ⟨rfl, hb⟩
  have Q3 := Lib.hid (Q2.out.below hb hl2)
  have B3 := Lib.hid (B2.out.trans (hb.mono (Nat.le_of_lt hl2)))
  clear hb K1 c7 Q2
  have hl3 := Blk.lt Q3.out
  have c8 : w3.cell? ⟨w.heap.size, 8, none⟩ = some (.slice x.aw x.whr.length x.cw) := Blk.cell Q3.out 8
  cases h2 : (v2 == 0)
  · have HE : Hid (R = false) := Lib.hid (by rw [E.out, h1, h2]; rfl)
    have h2' : (v2 != 0) = true := by simpa using h2
    go_wp2
    go_ret
    exact ⟨La.retB HE.out.symm, B3.out⟩
  have h2' : (v2 != 0) = false := by simpa using h2
  go_wp2_with fail
  refine (K2.out _ B3.out).mono ?_
  rintro e w4 ⟨rfl, hb⟩
  have Q4 := Lib.hid (Q3.out.below hb hl3)
  have B4 := Lib.hid (B3.out.trans (hb.mono (Nat.le_of_lt hl3)))
  clear hb K2 c8 Q3
  have hl4 := Blk.lt Q4.out
  have c9 : w4.cell? ⟨w.heap.size, 9, none⟩ = some (.slice x.ab x.bears.length x.cb) := Blk.cell Q4.out 9
  cases h3 : (v3 == 0)
  · have HE : Hid (R = false) := Lib.hid (by rw [E.out, h1, h2, h3]; rfl)
    have h3' : (v3 != 0) = true := by simpa using h3
    go_wp2
    go_ret
    exact ⟨La.retB HE.out.symm, B4.out⟩
  have h3' : (v3 != 0) = false := by simpa using h3
  go_wp2_with fail
  refine (K3.out _ B4.out).mono ?_
  rintro e w5 ⟨rfl, hb⟩
  have Q5 := Lib.hid (Q4.out.below hb hl4)
  have B5 := Lib.hid (B4.out.trans (hb.mono (Nat.le_of_lt hl4)))
  clear hb K3 c9 Q4
  have hl5 := Blk.lt Q5.out
  have c10 : w5.cell? ⟨w.heap.size, 10, none⟩ = some (strV x.wt) := Blk.cell Q5.out 10
  have c11 : w5.cell? ⟨w.heap.size, 11, none⟩ = some (.slice x.awt x.wtm.length x.cwt) := Blk.cell Q5.out 11
  cases h4 : (v4 == 0)
  · have HE : Hid (R = false) := Lib.hid (by rw [E.out, h1, h2, h3, h4]; rfl)
    have h4' : (v4 != 0) = true := by simpa using h4
    go_wp2
    go_ret
    exact ⟨La.retB HE.out.symm, B5.out⟩
  have h4' : (v4 != 0) = false := by simpa using h4
  go_wp2_with fail
  refine (K4.out _ B5.out).mono ?_
  rintro e w6 ⟨rfl, hb⟩
  have Q6 := Lib.hid (Q5.out.below hb hl5)
  have B6 := Lib.hid (B5.out.trans (hb.mono (Nat.le_of_lt hl5)))
  clear hb K4 c10 c11 Q5
  have hl6 := Blk.lt Q6.out
  have c12 : w6.cell? ⟨w.heap.size, 12, none⟩ = some (strV x.ap) := Blk.cell Q6.out 12
  have c13 : w6.cell? ⟨w.heap.size, 13, none⟩ = some (.slice x.aap x.apm.length x.cap) := Blk.cell Q6.out 13
  have HE0 : Hid (R = (v5 && v6)) := Lib.hid (by rw [E.out, h1, h2, h3, h4]; simp)
  clear h1 h2 h3 h4 h1' h2' h3' h4' E
  cases v5
  · have HE : Hid (R = false) := Lib.hid (by rw [HE0.out]; rfl)
    go_wp2
    go_ret
    exact ⟨La.retB HE.out.symm, B6.out⟩
  · go_wp2_with fail
    refine (K5.out _ B6.out).mono ?_
    rintro e w7 ⟨rfl, hb⟩
    have B7 := Lib.hid (B6.out.trans (hb.mono (Nat.le_of_lt hl6)))
    clear hb K5 c12 c13
    have HE : Hid (R = v6) := Lib.hid (by rw [HE0.out]; rfl)
    go_wp2
    go_ret
    exact ⟨La.retB HE.out.symm, B7.out⟩
end Go.Proofs.YtfnigiiocapceaaGreat
