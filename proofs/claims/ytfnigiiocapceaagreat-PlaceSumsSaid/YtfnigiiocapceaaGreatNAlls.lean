/- Are all so? Contracts. Condition: the list lies in memory. -/
import Derived.Test.YtfnigiiocapceaaGreatNAll
namespace Go.Proofs.YtfnigiiocapceaaGreat
open Go.RowKit

set_option maxRecDepth 100000 in
set_option maxHeartbeats 2000000 in
theorem allN (A : Option Addr) (c : Nat) (l : List NodeD) (f : NodeD → Bool) (w : World) (hl : l.length ≤ 1000) (hs : La.SlAt w A (cellsN l))
    (hf : ∀ x ∈ l, ∀ w', Below w.heap.size w w' → Calls Tryz.prog 81 #[valN x] w' fun e w'' => e = .returned (.bool (f x)) ∧ Below w'.heap.size w' w'') :
    Calls Tryz.prog 80 #[.slice A l.length c, .func (Fn.func 81) #[] #[]] w fun e w' => e = .returned (.bool (l.all f)) ∧ Below w.heap.size w w' := by
  have HS := Lib.hid hs
  have HF := Lib.hid hf
  have hg : ∀ (args : Array Value) (w : World), (callFunc 81 args).run Tryz.prog w = .ok (.enter 81 args) w := fun _ _ => by kernel_rfl
  obtain ⟨R, hR⟩ : ∃ R, l.all f = R := ⟨_, rfl⟩
  have HR := Lib.hid hR
  rw [hR]
  clear hs hf hR
  go_enter Tryz.func80, Tryz.ntmps80
  go_wp2_with fail
  go_loopw [9] (fun i wr => ∃ k : Nat, k ≤ l.length ∧ i = .int .i64 k ∧ (∀ j x, j < k → l[j]? = some x → f x = true) ∧ Below w.heap.size w wr) (fun i _ => l.length - (intOf i).toNat)
  case atStart => exact ⟨0, by omega, rfl, fun j x h => by omega, Below.refl _ _⟩
  case round =>
    obtain ⟨k, hk, rfl, hn, hb⟩ := hrel
    have HN := Lib.hid hn
    have HB := Lib.hid hb
    clear hn hb
    by_cases hlt : k < l.length
    · obtain ⟨x, hx⟩ : ∃ x, l[k]? = some x := ⟨l[k], List.getElem?_eq_getElem hlt⟩
      obtain ⟨b, o, hA, hbl, c0, c1, c2, c3, c4, c5, c6, c7, c8, c9⟩ := atN (HS.out.below HB.out) hx
      subst hA
      have HX := Lib.hid hx
      have k0 : (0 : Int) ≤ (k : Int) := by omega
      have k1 : (k : Int) < (l.length : Int) := by omega
      have KI := Lib.hid (fun w' (hb : Below wr.heap.size wr w') => HF.out x (List.mem_of_getElem? hx) w' (HB.out.trans (hb.mono HB.out.size)))
      obtain ⟨r, hr⟩ : ∃ r, f x = r := ⟨_, rfl⟩
      have Hr := Lib.hid hr
      rw [hr] at KI
      clear hx hr
      go_wp2_with fail
      refine (KI.out _ (by first | exact Below.refl _ _ | exact (Below.refl _ _).drew | exact below1 wr _)).mono ?_
      rintro e w3 ⟨rfl, hb3⟩
      have B3 := Lib.hid (by first | exact HB.out.trans (hb3.mono HB.out.size) | exact HB.out.trans ((below1 wr _).trans (hb3.mono (below1 wr _).size) |>.mono HB.out.size))
      clear hb3 KI c0 c1 c2 c3 c4 c5 c6 c7 c8 c9
      cases r
      · have HE : Hid (false = R) := Lib.hid (by
          rw [← HR.out]
          exact (List.all_eq_false.2 ⟨x, List.mem_of_getElem? HX.out, by simp [Hr.out]⟩).symm)
        go_wp2
        go_ret
        exact ⟨La.retB HE.out, B3.out⟩
      · go_wp2
        go_roundw
        case rel =>
          refine ⟨k + 1, by omega, by go_num, fun j y hj hy => ?_, B3.out⟩
          by_cases hjk : j = k
          · subst hjk
            rw [HX.out] at hy
            cases hy
            exact Hr.out
          · exact HN.out j y (by omega) hy
        case measure => simp [intOf]; omega
    · obtain rfl : k = l.length := by omega
      have HE : Hid (true = R) := Lib.hid (by
        rw [← HR.out]
        refine (List.all_eq_true.2 fun y hy => ?_).symm
        obtain ⟨j, hj⟩ := List.mem_iff_getElem?.1 hy
        refine HN.out j y ?_ hj
        rcases Nat.lt_or_ge j l.length with h | h
        · exact h
        · rw [List.getElem?_eq_none (by simpa using h)] at hj
          cases hj)
      go_wp2
      go_ret
      exact ⟨La.retB HE.out, HB.out⟩

set_option maxRecDepth 100000 in
set_option maxHeartbeats 2000000 in
theorem allP (A : Option Addr) (c q : Nat) (l : List PodD) (f : PodD → Bool) (w : World) (hl : l.length ≤ 1000) (hs : La.SlAt w A (cellsP l))
    (hf : ∀ x ∈ l, ∀ w', Below w.heap.size w w' → Calls Tryz.prog 83 #[valP x, .pointer (some ⟨q, 0, none⟩)] w' fun e w'' => e = .returned (.bool (f x)) ∧ Below w'.heap.size w' w'') :
    Calls Tryz.prog 82 #[.slice A l.length c, .func (Fn.func 83) #[] #[.pointer (some ⟨q, 0, none⟩)]] w fun e w' => e = .returned (.bool (l.all f)) ∧ Below w.heap.size w w' := by
  have HS := Lib.hid hs
  have HF := Lib.hid hf
  have hg : ∀ (args : Array Value) (w : World), (callFunc 83 args).run Tryz.prog w = .ok (.enter 83 args) w := fun _ _ => by kernel_rfl
  obtain ⟨R, hR⟩ : ∃ R, l.all f = R := ⟨_, rfl⟩
  have HR := Lib.hid hR
  rw [hR]
  clear hs hf hR
  go_enter Tryz.func82, Tryz.ntmps82
  go_wp2_with fail
  go_loopw [9] (fun i wr => ∃ k : Nat, k ≤ l.length ∧ i = .int .i64 k ∧ (∀ j x, j < k → l[j]? = some x → f x = true) ∧ Below w.heap.size w wr) (fun i _ => l.length - (intOf i).toNat)
  case atStart => exact ⟨0, by omega, rfl, fun j x h => by omega, Below.refl _ _⟩
  case round =>
    obtain ⟨k, hk, rfl, hn, hb⟩ := hrel
    have HN := Lib.hid hn
    have HB := Lib.hid hb
    clear hn hb
    by_cases hlt : k < l.length
    · obtain ⟨x, hx⟩ : ∃ x, l[k]? = some x := ⟨l[k], List.getElem?_eq_getElem hlt⟩
      obtain ⟨b, o, hA, hbl, c0, c1, c2, c3, c4, c5, c6, c7, c8, c9, c10, c11, c12, c13, c14⟩ := atP (HS.out.below HB.out) hx
      subst hA
      have HX := Lib.hid hx
      have k0 : (0 : Int) ≤ (k : Int) := by omega
      have k1 : (k : Int) < (l.length : Int) := by omega
      have KI := Lib.hid (fun w' (hb : Below wr.heap.size wr w') => HF.out x (List.mem_of_getElem? hx) w' (HB.out.trans (hb.mono HB.out.size)))
      obtain ⟨r, hr⟩ : ∃ r, f x = r := ⟨_, rfl⟩
      have Hr := Lib.hid hr
      rw [hr] at KI
      clear hx hr
      go_wp2_with fail
      refine (KI.out _ (by first | exact Below.refl _ _ | exact (Below.refl _ _).drew | exact below1 wr _)).mono ?_
      rintro e w3 ⟨rfl, hb3⟩
      have B3 := Lib.hid (by first | exact HB.out.trans (hb3.mono HB.out.size) | exact HB.out.trans ((below1 wr _).trans (hb3.mono (below1 wr _).size) |>.mono HB.out.size))
      clear hb3 KI c0 c1 c2 c3 c4 c5 c6 c7 c8 c9 c10 c11 c12 c13 c14
      cases r
      · have HE : Hid (false = R) := Lib.hid (by
          rw [← HR.out]
          exact (List.all_eq_false.2 ⟨x, List.mem_of_getElem? HX.out, by simp [Hr.out]⟩).symm)
        go_wp2
        go_ret
        exact ⟨La.retB HE.out, B3.out⟩
      · go_wp2
        go_roundw
        case rel =>
          refine ⟨k + 1, by omega, by go_num, fun j y hj hy => ?_, B3.out⟩
          by_cases hjk : j = k
          · subst hjk
            rw [HX.out] at hy
            cases hy
            exact Hr.out
          · exact HN.out j y (by omega) hy
        case measure => simp [intOf]; omega
    · obtain rfl : k = l.length := by omega
      have HE : Hid (true = R) := Lib.hid (by
        rw [← HR.out]
        refine (List.all_eq_true.2 fun y hy => ?_).symm
        obtain ⟨j, hj⟩ := List.mem_iff_getElem?.1 hy
        refine HN.out j y ?_ hj
        rcases Nat.lt_or_ge j l.length with h | h
        · exact h
        · rw [List.getElem?_eq_none (by simpa using h)] at hj
          cases hj)
      go_wp2
      go_ret
      exact ⟨La.retB HE.out, HB.out⟩

set_option maxRecDepth 100000 in
set_option maxHeartbeats 2000000 in
theorem allO (A : Option Addr) (c : Nat) (l : List OwnD) (f : OwnD → Bool) (w : World) (hl : l.length ≤ 1000) (hs : La.SlAt w A (cellsO l))
    (hf : ∀ x ∈ l, ∀ w', Below w.heap.size w w' → Calls Tryz.prog 87 #[valO x] w' fun e w'' => e = .returned (.bool (f x)) ∧ Below w'.heap.size w' w'') :
    Calls Tryz.prog 86 #[.slice A l.length c, .func (Fn.func 87) #[] #[]] w fun e w' => e = .returned (.bool (l.all f)) ∧ Below w.heap.size w w' := by
  have HS := Lib.hid hs
  have HF := Lib.hid hf
  have hg : ∀ (args : Array Value) (w : World), (callFunc 87 args).run Tryz.prog w = .ok (.enter 87 args) w := fun _ _ => by kernel_rfl
  obtain ⟨R, hR⟩ : ∃ R, l.all f = R := ⟨_, rfl⟩
  have HR := Lib.hid hR
  rw [hR]
  clear hs hf hR
  go_enter Tryz.func86, Tryz.ntmps86
  go_wp2_with fail
  go_loopw [9] (fun i wr => ∃ k : Nat, k ≤ l.length ∧ i = .int .i64 k ∧ (∀ j x, j < k → l[j]? = some x → f x = true) ∧ Below w.heap.size w wr) (fun i _ => l.length - (intOf i).toNat)
  case atStart => exact ⟨0, by omega, rfl, fun j x h => by omega, Below.refl _ _⟩
  case round =>
    obtain ⟨k, hk, rfl, hn, hb⟩ := hrel
    have HN := Lib.hid hn
    have HB := Lib.hid hb
    clear hn hb
    by_cases hlt : k < l.length
    · obtain ⟨x, hx⟩ : ∃ x, l[k]? = some x := ⟨l[k], List.getElem?_eq_getElem hlt⟩
      obtain ⟨b, o, hA, hbl, c0, c1, c2, c3, c4⟩ := atO (HS.out.below HB.out) hx
      subst hA
      have HX := Lib.hid hx
      have k0 : (0 : Int) ≤ (k : Int) := by omega
      have k1 : (k : Int) < (l.length : Int) := by omega
      have KI := Lib.hid (fun w' (hb : Below wr.heap.size wr w') => HF.out x (List.mem_of_getElem? hx) w' (HB.out.trans (hb.mono HB.out.size)))
      obtain ⟨r, hr⟩ : ∃ r, f x = r := ⟨_, rfl⟩
      have Hr := Lib.hid hr
      rw [hr] at KI
      clear hx hr
      go_wp2_with fail
      refine (KI.out _ (by first | exact Below.refl _ _ | exact (Below.refl _ _).drew | exact below1 wr _)).mono ?_
      rintro e w3 ⟨rfl, hb3⟩
      have B3 := Lib.hid (by first | exact HB.out.trans (hb3.mono HB.out.size) | exact HB.out.trans ((below1 wr _).trans (hb3.mono (below1 wr _).size) |>.mono HB.out.size))
      clear hb3 KI c0 c1 c2 c3 c4
      cases r
      · have HE : Hid (false = R) := Lib.hid (by
          rw [← HR.out]
          exact (List.all_eq_false.2 ⟨x, List.mem_of_getElem? HX.out, by simp [Hr.out]⟩).symm)
        go_wp2
        go_ret
        exact ⟨La.retB HE.out, B3.out⟩
      · go_wp2
        go_roundw
        case rel =>
          refine ⟨k + 1, by omega, by go_num, fun j y hj hy => ?_, B3.out⟩
          by_cases hjk : j = k
          · subst hjk
            rw [HX.out] at hy
            cases hy
            exact Hr.out
          · exact HN.out j y (by omega) hy
        case measure => simp [intOf]; omega
    · obtain rfl : k = l.length := by omega
      have HE : Hid (true = R) := Lib.hid (by
        rw [← HR.out]
        refine (List.all_eq_true.2 fun y hy => ?_).symm
        obtain ⟨j, hj⟩ := List.mem_iff_getElem?.1 hy
        refine HN.out j y ?_ hj
        rcases Nat.lt_or_ge j l.length with h | h
        · exact h
        · rw [List.getElem?_eq_none (by simpa using h)] at hj
          cases hj)
      go_wp2
      go_ret
      exact ⟨La.retB HE.out, HB.out⟩
end Go.Proofs.YtfnigiiocapceaaGreat
