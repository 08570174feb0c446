/- The document's Check, Print and Drains of a policy, and what a law's walk needs of them. Conditions: the names lie in memory; the variables hold what was laid. -/
import Derived.Test.YthbplchbolghjaaGreatDoorLRead
import Derived.Test.YthbplchbolghjaaGreatDoorLCheck
import Derived.Test.YthbplchbolghjaaGreatDoorPrint
import Derived.LoopN
import Derived.RegionTactic
import Derived.Deep.RegionHeld3
import Derived.Test.YthbplchbolghjaaGreatDoorGCheck
import Derived.IntWalk
import Derived.Test.YthbplchbolghjaaGreatDoorGWorks
import Derived.Laws.AppendOwnNone
namespace Go.Proofs.YthbplchbolghjaaGreatDoor.La
open Go.RowKit

def insB (n : Nat) : Bool := letB n || digB n
def insAt (l : List UInt8) (i : Nat) : Bool := match l[i]? with | some b => insB b.toNat | none => false

theorem rletter_any (b : UInt8) (w : World) :
    Calls Tryz.prog 58 #[.int .u8 (b.toNat : Int)] w fun e w' => e = .returned (.bool (letB b.toNat)) ∧ w = w' := by
  have hb : b.toNat < 256 := b.toNat_lt
  generalize b.toNat = c at *
  go_enter Tryz.func58, Tryz.ntmps58
  go_wp2
  all_goals
    go_ret
    refine ⟨retB ?_, rfl⟩
    unfold letB
    rw [Bool.eq_iff_iff]
    simp
    try omega
theorem rinside_any (b : UInt8) (w : World) :
    Calls Tryz.prog 86 #[.int .u8 (b.toNat : Int)] w fun e w' => e = .returned (.bool (insB b.toNat)) ∧ w = w' := by
  have K := Lib.hid (fun w => rletter_any b w)
  have hb : b.toNat < 256 := b.toNat_lt
  generalize b.toNat = c at *
  cases hl : letB c
  · rw [hl] at K
    have E : Hid (insB c = digB c) := by show insB c = _; unfold insB; rw [hl]; rfl
    clear hl
    go_enter Tryz.func86, Tryz.ntmps86
    go_wp2_with fail
    refine (K.out _).mono ?_
    rintro e w1 ⟨rfl, rfl⟩
    go_wp2
    all_goals
      go_ret
      refine ⟨retB ?_, rfl⟩
      rw [E.out]
      unfold digB
      rw [Bool.eq_iff_iff]
      simp
      try omega
  · rw [hl] at K
    have E : Hid (insB c = true) := by show insB c = _; unfold insB; rw [hl]; rfl
    clear hl
    go_enter Tryz.func86, Tryz.ntmps86
    go_wp2_with fail
    refine (K.out _).mono ?_
    rintro e w1 ⟨rfl, rfl⟩
    go_wp2
    go_ret
    exact ⟨retB (by rw [E.out]), rfl⟩

/-- A word that stands at a byte, and where it ends; where it is wrong, and how. -/
def runF (nm : Bool) (l : List UInt8) (a : Nat) : List UInt8 × Nat × Int :=
  if wordL (if nm = true then okName else okVal) l a = 0 ∧ a = l.length then ([], a, 3)
  else if wordL (if nm = true then okName else okVal) l a = 0 ∨ insAt l (a + wordL (if nm = true then okName else okVal) l a) = true then ([], a + wordL (if nm = true then okName else okVal) l a, 4)
  else ((l.drop a).take (wordL (if nm = true then okName else okVal) l a), a + wordL (if nm = true then okName else okVal) l a, 0)
/-- What the document's reader leaves. -/
def RunsTo (w : World) (x : List UInt8 × Nat × Int) (e : Ending) (w' : World) : Prop := e = .returned (.tuple #[strV x.1, .int .i64 (x.2.1 : Int), .int .i64 x.2.2]) ∧ w = w'

theorem run_word {nm : Bool} {l : List UInt8} {a p : Nat} (h : wordL (if nm = true then okName else okVal) l a = p - a) (ha : a ≤ p) (hp : p ≤ l.length) :
    runF nm l a = if p = a ∧ p = l.length then ([], p, 3) else if p = a ∨ insAt l p = true then ([], p, 4) else ((l.drop a).take (p - a), p, 0) := by
  unfold runF
  rw [h]
  by_cases hpa : p = a
  · subst hpa
    simp
  · have e : a + (p - a) = p := by omega
    have h0 : ¬ (p - a = 0) := by omega
    simp only [e, h0, hpa, false_and, if_false, false_or]
theorem slice_at (l : List UInt8) (a p : Nat) : (⟨l.toArray⟩ : ByteArray).extract a p = ⟨((l.drop a).take (p - a)).toArray⟩ := cut_eq l a p

end Go.Proofs.YthbplchbolghjaaGreatDoor.La

namespace Go.Proofs.YthbplchbolghjaaGreatDoor.La
open Go.RowKit

/-- May a text be a value, a name, as the document says it? -/
def valR (s : List UInt8) : Bool := s.all (fun b => insB b.toNat) && decide (1 ≤ s.length ∧ s.length ≤ 15)
def headR (s : List UInt8) : Bool := match s with
  | b :: _ => letB b.toNat
  | [] => false
theorem span_iff (ok : Nat → Nat → Bool) : ∀ (t : List UInt8) (a : Nat), a ≤ 15 → (spanF ok t a = a + t.length ↔ (a + t.length ≤ 15 ∧ ∀ j (b : UInt8), t[j]? = some b → ok (a + j) b.toNat = true))
  | [], a, ha => by
    constructor
    · intro _
      exact ⟨by simpa using ha, fun j b h => by simp at h⟩
    · intro _
      rfl
  | b :: t, a, ha => by
    rw [spanF]
    by_cases h15 : a = 15
    · subst h15
      simp
      omega
    · cases hok : ok a b.toNat
      · rw [if_pos (.inr rfl)]
        constructor
        · intro h
          simp only [List.length_cons] at h
          omega
        · rintro ⟨_, h⟩
          have := h 0 b rfl
          rw [Nat.add_zero, hok] at this
          cases this
      · rw [if_neg (by rintro (h | h); exact h15 h; cases h)]
        have ih := span_iff ok t (a + 1) (by omega)
        have e : a + (b :: t).length = a + 1 + t.length := by simp only [List.length_cons]; omega
        rw [e, ih]
        constructor
        · rintro ⟨h1, h2⟩
          refine ⟨h1, fun j c hj => ?_⟩
          cases j with
          | zero =>
            simp only [List.getElem?_cons_zero, Option.some.injEq] at hj
            subst hj
            exact hok
          | succ j =>
            rw [List.getElem?_cons_succ] at hj
            have := h2 j c hj
            rwa [show a + 1 + j = a + (j + 1) by omega] at this
        · rintro ⟨h1, h2⟩
          refine ⟨h1, fun j c hj => ?_⟩
          have := h2 (j + 1) c (by rw [List.getElem?_cons_succ]; exact hj)
          rwa [show a + 1 + j = a + (j + 1) by omega]
theorem nameR_eq (s : List UInt8) : (valR s && headR s) = nameB s := by
  rw [Bool.eq_iff_iff]
  cases s with
  | nil => simp [valR, headR, nameB]
  | cons c t =>
    have h := span_iff okName (c :: t) 0 (by omega)
    rw [Nat.zero_add] at h
    unfold valR headR nameB
    simp only [Bool.and_eq_true, decide_eq_true_eq, List.all_eq_true]
    rw [h]
    constructor
    · rintro ⟨⟨ha, _, hl⟩, hc⟩
      refine ⟨by simp, hl, fun j b hj => ?_⟩
      have hb := ha b (List.mem_of_getElem? hj)
      rw [Nat.zero_add]
      unfold okName
      cases j with
      | zero =>
        simp only [List.getElem?_cons_zero, Option.some.injEq] at hj
        subst hj
        rw [hc, Bool.true_or]
      | succ j =>
        unfold insB at hb
        simp only [Nat.zero_lt_succ, decide_true, Bool.true_and]
        exact hb
    · rintro ⟨_, hl, ha⟩
      refine ⟨⟨fun b hb => ?_, by simp, hl⟩, ?_⟩
      · obtain ⟨j, hj⟩ := List.mem_iff_getElem?.1 hb
        have := ha j b hj
        unfold okName at this
        unfold insB
        revert this
        cases letB b.toNat <;> cases digB b.toNat <;> simp
      · have := ha 0 c rfl
        simpa [okName] using this

set_option maxRecDepth 100000 in
set_option maxHeartbeats 400000 in
theorem rvalue_any (s : List UInt8) (w : World) (hl : s.length ≤ 9223372036854775807) :
    Calls Tryz.prog 57 #[strV s] w fun e w' => e = .returned (.bool (valR s)) ∧ w = w' := by
  obtain ⟨R, hR⟩ : ∃ R, valR s = R := ⟨_, rfl⟩
  rw [hR]
  have HR := Lib.hid hR
  clear hR
  go_enter Tryz.func57, Tryz.ntmps57
  go_wp2
  go_loop [3] (fun t => ∃ p : Nat, p ≤ s.length ∧ t = .int .i64 p ∧ (∀ j b, j < p → s[j]? = some b → insB b.toNat = true)) (fun t => s.length - (intOf t).toNat)
  case atStart => exact ⟨0, by omega, rfl, fun j b h => by omega⟩
  case round =>
    obtain ⟨p, hp, rfl, ha⟩ := hrel
    have HA := Lib.hid ha
    clear ha
    have p0 : (0 : Int) ≤ (p : Int) := by omega
    by_cases hlt : p < s.length
    · have hlti : (p : Int) < (s.length : Int) := by omega
      have KI := Lib.hid (fun w => rinside_any (s[p]) w)
      have HX : Hid (s[p]? = some s[p]) := Lib.hid (List.getElem?_eq_getElem hlt)
      cases hin : insB (s[p]).toNat
      · have E : Hid (R = false) := Lib.hid (by
          rw [← HR.out]
          unfold valR
          rw [Bool.and_eq_false_iff]
          left
          rw [List.all_eq_false]
          exact ⟨s[p], List.getElem_mem hlt, by simp [hin]⟩)
        rw [hin] at KI
        clear hin
        go_wp2_with (go_at_call 86; refine (KI.out _).mono ?_; rintro e w1 ⟨rfl, rfl⟩)
        go_ret
        exact ⟨retB E.out.symm, rfl⟩
      · rw [hin] at KI
        have HI := Lib.hid hin
        clear hin
        go_wp2_with (go_at_call 86; refine (KI.out _).mono ?_; rintro e w1 ⟨rfl, rfl⟩)
        go_round
        case rel =>
          refine ⟨p + 1, by omega, by go_num, fun j b hj hb => ?_⟩
          by_cases hjp : j = p
          · subst hjp
            rw [HX.out] at hb
            cases hb
            exact HI.out
          · exact HA.out j b (by omega) hb
        case measure => simp [intOf]; omega
    · obtain rfl : p = s.length := by omega
      have E : Hid (R = decide (1 ≤ s.length ∧ s.length ≤ 15)) := Lib.hid (by
        rw [← HR.out]
        unfold valR
        rw [show (s.all fun b => insB b.toNat) = true from List.all_eq_true.2 (fun b hb => by
          obtain ⟨j, hj⟩ := List.mem_iff_getElem?.1 hb
          exact HA.out j b (List.getElem?_eq_some_iff.1 hj).1 hj), Bool.true_and])
      clear HA HR
      by_cases h1 : (1 : Int) ≤ (s.length : Int)
      · go_wp2
        go_ret
        refine ⟨retB ?_, rfl⟩
        rw [E.out, Bool.eq_iff_iff]
        simp
        try omega
      · go_wp2
        go_ret
        refine ⟨retB ?_, rfl⟩
        rw [E.out, Bool.eq_iff_iff]
        simp
        try omega
theorem rname_any (s : List UInt8) (w : World) (hl : s.length ≤ 9223372036854775807) :
    Calls Tryz.prog 36 #[strV s] w fun e w' => e = .returned (.bool (nameB s)) ∧ w = w' := by
  have K := Lib.hid (rvalue_any s w hl)
  have E := Lib.hid (nameR_eq s)
  generalize nameB s = R at E ⊢
  cases hv : valR s
  · rw [hv] at K E
    clear hv
    go_enter Tryz.func36, Tryz.ntmps36
    go_wp2_with fail
    refine (K.out).mono ?_
    rintro e w1 ⟨rfl, rfl⟩
    go_wp2
    go_ret
    exact ⟨retB E.out, rfl⟩
  · rw [hv] at K E
    cases s with
    | nil => simp [valR] at hv
    | cons c t =>
      clear hv
      have KL := Lib.hid (fun w => rletter_any c w)
      have E2 : Hid (R = letB c.toNat) := Lib.hid (by rw [← E.out]; rfl)
      have h0 : (0 : Int) < ((c :: t).length : Int) := by simp
      go_enter Tryz.func36, Tryz.ntmps36
      go_wp2_with fail
      refine (K.out).mono ?_
      rintro e w1 ⟨rfl, rfl⟩
      go_wp2_with fail
      refine (KL.out _).mono ?_
      rintro e w1 ⟨rfl, rfl⟩
      go_wp2
      go_ret
      exact ⟨retB E2.out.symm, rfl⟩
end Go.Proofs.YthbplchbolghjaaGreatDoor.La

namespace Go.Proofs.YthbplchbolghjaaGreatDoor.Qu
open Go.RowKit

theorem Tab.drew {w : World} (h : Tab w) : Tab w.drew := h

end Go.Proofs.YthbplchbolghjaaGreatDoor.Qu

namespace Go.Proofs.YthbplchbolghjaaGreatDoor.Qu
open Go.RowKit

set_option maxRecDepth 100000 in
set_option maxHeartbeats 400000 in
theorem rprintPercent_any (n : Int) (w : World) (ht : Tab w) :
    Calls Tryz.prog 55 #[.int .i64 n] w fun e w' => e = .returned (.tuple #[.string ⟨(pctL n).1.toArray⟩, .int .i64 (pctL n).2]) ∧ Below w.heap.size w w' := by
  have Ht := Lib.hid ht
  clear ht
  by_cases h0 : n < 0
  · go_enter Tryz.func55, Tryz.ntmps55
    go_wp2
    go_ret2
    exact ⟨retSI (a := []) (by unfold pctL; rw [if_pos (Or.inl h0)]), Below.refl _ _⟩
  · by_cases h1 : 1000 < n
    · go_enter Tryz.func55, Tryz.ntmps55
      go_wp2
      go_ret2
      exact ⟨retSI (a := []) (by unfold pctL; rw [if_pos (Or.inr h1)]), Below.refl _ _⟩
    · have l1 : (dec (n / 10)).length ≤ 21 := dec_len _ (by omega) (by omega)
      have l2 : (dec (n % 10)).length ≤ 21 := dec_len _ (by omega) (by omega)
      by_cases z : n % 10 = 0
      · have zb : (n % 10 != 0) = false := by simp [z]
        have Z := Lib.hid z
        clear z
        go_enter Tryz.func55, Tryz.ntmps55
        go_wp2_with fail
        refine (itoa_dec _ _ (by omega) (by omega) Ht.out).mono ?_
        rintro e w' ⟨rfl, hb⟩
        have Hb := Lib.hid hb
        clear hb
        have hj := join_l Tryz.prog w' (dec (n / 10)) [37] (by omega) (by decide)
        go_wp2
        go_ret2
        exact ⟨retSI (by unfold pctL; rw [if_neg (by omega), if_pos Z.out]), Hb.out⟩
      · have zb : (n % 10 != 0) = true := by simpa using z
        have Z := Lib.hid z
        clear z
        go_enter Tryz.func55, Tryz.ntmps55
        go_wp2_with fail
        refine (itoa_dec _ _ (by omega) (by omega) Ht.out).mono ?_
        rintro e w' ⟨rfl, hb⟩
        have Hb := Lib.hid hb
        clear hb
        have j1 := join_l Tryz.prog w' (dec (n / 10)) [46] (by omega) (by decide)
        go_wp2_with fail
        refine (itoa_dec _ _ (by omega) (by omega) (Ht.out.below Hb.out)).mono ?_
        rintro e w2 ⟨rfl, hb2⟩
        have Hb2 := Lib.hid hb2
        clear hb2
        have j2 := join_l Tryz.prog w2 (dec (n / 10) ++ [46]) (dec (n % 10)) (by simp; omega) (by omega)
        have j3 := join_l Tryz.prog w2 (dec (n / 10) ++ [46] ++ dec (n % 10)) [37] (by simp; omega) (by decide)
        generalize hx : dec (n / 10) ++ [46] = x at j2 j3 ⊢
        generalize hy : x ++ dec (n % 10) = y at j2 j3
        have Hx := Lib.hid hx
        have Hy := Lib.hid hy
        clear hx hy
        go_wp2
        go_ret2
        exact ⟨retSI (by unfold pctL; rw [if_neg (by omega), if_neg Z.out, ← List.append_assoc, Hx.out, Hy.out]), Hb.out.trans (Hb2.out.mono Hb.out.size)⟩


end Go.Proofs.YthbplchbolghjaaGreatDoor.Qu

namespace Go.Proofs.YthbplchbolghjaaGreatDoor
open Go.RowKit

theorem ltS_less : ∀ (y x : List UInt8), ltS y x = Op.bytesLess y x
  | [], [] => rfl
  | [], _ :: _ => rfl
  | _ :: _, [] => rfl
  | a :: s, b :: t => by
    have ih := ltS_less s t
    unfold ltS at ih ⊢
    rw [Op.bytesLess, Op.bytesLess, ← ih, List.cons_beq_cons]
    rcases Nat.lt_trichotomy a.toNat b.toNat with h | h | h
    · have h1 : a < b := UInt8.lt_iff_toNat_lt.2 h
      have h2 : ¬ b < a := fun hh => by have := UInt8.lt_iff_toNat_lt.1 hh; omega
      have h3 : ¬ b = a := fun hh => by subst hh; omega
      have h4 : ¬ a = b := fun hh => h3 hh.symm
      simp [h1, h2, h3, h4]
    · have h1 : a = b := UInt8.toNat_inj.1 h
      subst h1
      have h2 : ¬ a < a := fun hh => by have := UInt8.lt_iff_toNat_lt.1 hh; omega
      simp [h2]
    · have h1 : b < a := UInt8.lt_iff_toNat_lt.2 h
      have h2 : ¬ a < b := fun hh => by have := UInt8.lt_iff_toNat_lt.1 hh; omega
      have h3 : ¬ a = b := fun hh => by subst hh; omega
      have h4 : ¬ b = a := fun hh => h3 hh.symm
      simp [h1, h2, h3, h4]

theorem within_any (n a b : Int) (w : World) :
    Calls Tryz.prog 35 #[.int .i64 n, .int .i64 a, .int .i64 b] w fun e w' => e = .returned (.bool (decide (a ≤ n) && decide (n ≤ b))) ∧ w' = w := by
  by_cases h0 : a ≤ n
  · have hv : (decide (a ≤ n) && decide (n ≤ b)) = decide (n ≤ b) := by simp [h0]
    rw [hv]
    clear hv
    go_enter Tryz.func35, Tryz.ntmps35
    go_wp2
    go_ret
    exact ⟨rfl, rfl⟩
  · have hv : (decide (a ≤ n) && decide (n ≤ b)) = false := by simp [h0]
    rw [hv]
    clear hv
    go_enter Tryz.func35, Tryz.ntmps35
    go_wp2
    go_ret
    exact ⟨rfl, rfl⟩

/-- The document's first sum, and what each pair of shares makes of it. -/
def okF (g : Pol) : Bool := upB g.on 31 && decide (g.drain.length ≤ 8) && upB g.mx 48 && upB g.tr 8
def okS (l h : Int) : Bool := upB l 1000 && upB h 1000 && decide (l ≤ h)
def okK (g : Pol) : Nat → Bool
  | 0 => okF g
  | 1 => okF g && okS g.l0 g.h0
  | _ => okF g && okS g.l0 g.h0 && okS g.l1 g.h1
theorem okK_pol (g : Pol) : (okK g 2 && namesB g.drain) = polB g := by
  rw [Bool.eq_iff_iff]
  simp only [okK, okF, okS, polB, sharesB, drainB, upB, Bool.and_eq_true, decide_eq_true_eq]
  constructor
  · rintro ⟨h1, h2⟩
    refine ⟨⟨⟨⟨⟨⟨?_, ?_⟩, ?_, ?_⟩, ?_⟩, ?_, h2⟩, ?_⟩, ?_⟩ <;> first | omega | exact ⟨by omega, by omega⟩
  · rintro ⟨⟨⟨⟨⟨⟨⟨_, _⟩, _, _⟩, ⟨_, _⟩, _, _⟩, _, _⟩, _, h2⟩, _, _⟩, _, _⟩
    exact ⟨by omega, h2⟩

set_option maxRecDepth 100000 in
set_option maxHeartbeats 4000000 in
theorem rcheck_any (g : Pol) (A : Option Addr) (c : Nat) (w : World) (h : NamesAt w A c g.drain) :
    Calls Tryz.prog 12 #[valG g A c] w fun e w' => e = .returned (.int .i64 (checkG g)) ∧ Below w.heap.size w w' := by
  have HN := Lib.hid h
  have hcl := h.le
  have hcm := h.most
  have B0 : Hid (Below w.heap.size w (w.alloc (.cells (cellsG g A c) 25))) := Lib.hid (below1 w _)
  have Q0 : Hid (Blk (w.alloc (.cells (cellsG g A c) 25)) w.heap.size (cellsG g A c) 25) := Lib.hid (Blk.new w _ _)
  have HR : Hid (checkG g = if okK g 2 && namesB g.drain then 0 else 60) := Lib.hid (by rw [okK_pol]; rfl)
  generalize checkG g = R at HR ⊢
  clear h
  go_enter Tryz.func12, Tryz.ntmps12
  go_upto_region 1 with fail
  change Code.wp _ _ _ _ (w.alloc (.cells (cellsG g A c) 25))
  generalize (w.alloc (.cells (cellsG g A c) 25)) = W at B0 Q0 ⊢
  have hl0 := Blk.lt Q0.out
  go_cut [3] (fun v wc => v = .bool (okF g) ∧ wc = W)
  case first =>
    have K1 : Hid (∀ w, Calls Tryz.prog 35 #[.int .i64 g.on, .int .i64 0, .int .i64 31] w fun e w' => e = .returned (.bool (upB g.on 31)) ∧ w' = w) := Lib.hid (fun w => within_any g.on 0 31 w)
    have K2 : Hid (∀ w, Calls Tryz.prog 35 #[.int .i64 g.mx, .int .i64 0, .int .i64 48] w fun e w' => e = .returned (.bool (upB g.mx 48)) ∧ w' = w) := Lib.hid (fun w => within_any g.mx 0 48 w)
    have K3 : Hid (∀ w, Calls Tryz.prog 35 #[.int .i64 g.tr, .int .i64 0, .int .i64 8] w fun e w' => e = .returned (.bool (upB g.tr 8)) ∧ w' = w) := Lib.hid (fun w => within_any g.tr 0 8 w)
    have HO : Hid (okF g = (upB g.on 31 && decide (g.drain.length ≤ 8) && upB g.mx 48 && upB g.tr 8)) := Lib.hid rfl
    generalize upB g.on 31 = u1 at K1 HO
    generalize upB g.mx 48 = u2 at K2 HO
    generalize upB g.tr 8 = u3 at K3 HO
    have a4 : W.cell? ⟨w.heap.size, 4, none⟩ = some (.int .i64 g.on) := Blk.cell Q0.out 4
    have a5 : W.cell? ⟨w.heap.size, 5, none⟩ = some (.slice A g.drain.length c) := Blk.cell Q0.out 5
    have a6 : W.cell? ⟨w.heap.size, 6, none⟩ = some (.int .i64 g.mx) := Blk.cell Q0.out 6
    have a7 : W.cell? ⟨w.heap.size, 7, none⟩ = some (.int .i64 g.tr) := Blk.cell Q0.out 7
    cases u1
    · have HE : Hid (okF g = false) := Lib.hid (by rw [HO.out]; simp)
      go_wp2_with fail
      refine (K1.out _).mono ?_
      rintro e w1 ⟨rfl, rfl⟩
      go_wp2
      go_meet
      exact ⟨by rw [HE.out], rfl⟩
    · by_cases h8 : g.drain.length ≤ 8
      · have h8i : (g.drain.length : Int) ≤ 8 := by omega
        have h8b : decide (g.drain.length ≤ 8) = true := decide_eq_true h8
        have HO2 : Hid (okF g = (u2 && u3)) := Lib.hid (by rw [HO.out, h8b]; simp)
        cases u2
        · have HE : Hid (okF g = false) := Lib.hid (by rw [HO2.out]; simp)
          go_wp2_with fail
          refine (K1.out _).mono ?_
          rintro e w1 ⟨rfl, rfl⟩
          go_wp2_with fail
          refine (K2.out _).mono ?_
          rintro e w1 ⟨rfl, rfl⟩
          go_wp2
          go_meet
          exact ⟨by rw [HE.out], rfl⟩
        · have HE : Hid (okF g = u3) := Lib.hid (by rw [HO2.out]; simp)
          go_wp2_with fail
          refine (K1.out _).mono ?_
          rintro e w1 ⟨rfl, rfl⟩
          go_wp2_with fail
          refine (K2.out _).mono ?_
          rintro e w1 ⟨rfl, rfl⟩
          go_wp2_with fail
          refine (K3.out _).mono ?_
          rintro e w1 ⟨rfl, rfl⟩
          go_wp2
          go_meet
          exact ⟨by rw [HE.out], rfl⟩
      · have h8i : ¬ (g.drain.length : Int) ≤ 8 := by omega
        have h8b : decide (g.drain.length ≤ 8) = false := decide_eq_false h8
        have HE : Hid (okF g = false) := Lib.hid (by rw [HO.out, h8b]; simp)
        go_wp2_with fail
        refine (K1.out _).mono ?_
        rintro e w1 ⟨rfl, rfl⟩
        go_wp2
        go_meet
        exact ⟨by rw [HE.out], rfl⟩
  case rest =>
    rename_i wc
    obtain ⟨rfl, rfl⟩ := hcut
    go_wp2_with fail
    go_loopw [3, 4] (fun v i wr => ∃ k : Nat, k ≤ 2 ∧ i = .int .i64 k ∧ v = .bool (okK g k) ∧ Below wc.heap.size wc wr) (fun _ i _ => 2 - (intOf i).toNat)
    case atStart => exact ⟨0, by omega, rfl, rfl, Below.refl _ _⟩
    case round =>
      obtain ⟨k, hk, rfl, rfl, hbw⟩ := hrel
      have HB := Lib.hid hbw
      have B2 := Lib.hid (B0.out.trans (hbw.mono B0.out.size))
      have Q2 := Lib.hid (Blk.below Q0.out hbw hl0)
      clear hbw
      rcases k with _ | _ | _ | k
      · have K1 : Hid (∀ w, Calls Tryz.prog 35 #[.int .i64 g.l0, .int .i64 0, .int .i64 1000] w fun e w' => e = .returned (.bool (upB g.l0 1000)) ∧ w' = w) := Lib.hid (fun w => within_any g.l0 0 1000 w)
        have K2 : Hid (∀ w, Calls Tryz.prog 35 #[.int .i64 g.h0, .int .i64 0, .int .i64 1000] w fun e w' => e = .returned (.bool (upB g.h0 1000)) ∧ w' = w) := Lib.hid (fun w => within_any g.h0 0 1000 w)
        have HO : Hid (okK g 1 = (okK g 0 && okS g.l0 g.h0)) := Lib.hid rfl
        have HS : Hid (okS g.l0 g.h0 = (upB g.l0 1000 && upB g.h0 1000 && decide (g.l0 ≤ g.h0))) := Lib.hid rfl
        generalize okK g 0 = v at *
        generalize okS g.l0 g.h0 = s at *
        generalize hq1 : upB g.l0 1000 = u1 at *
        generalize hq2 : upB g.h0 1000 = u2 at *
        clear hq1 hq2
        have a0 : wr.cell? ⟨w.heap.size, 0, none⟩ = some (.int .i64 g.l0) := Blk.cell Q2.out 0
        have a2 : wr.cell? ⟨w.heap.size, 2, none⟩ = some (.int .i64 g.h0) := Blk.cell Q2.out 2
        cases v
        · have HE : Hid (.bool (okK g 1) = Value.bool false) := Lib.hid (by rw [HO.out]; rfl)
          clear HO HS K1 K2
          go_wp2_with fail
          go_quiet (fail)
          go_wp2
          go_roundw
          case rel => exact ⟨1, by omega, by go_num, by rw [HE.out], belowN HB.out _⟩
          case measure => simp [intOf]
        · cases u1
          · have HE : Hid (.bool (okK g 1) = Value.bool false) := Lib.hid (by rw [HO.out, HS.out]; simp)
            clear HO HS
            go_wp2_with fail
            go_quiet ((go_at_call 35; first | with_reducible exact Calls.quiet_of_same (K1.out _) | with_reducible exact Calls.quiet_of_same (K2.out _)))
            go_wp2
            go_roundw
            case rel => exact ⟨1, by omega, by go_num, by rw [HE.out], belowN HB.out _⟩
            case measure => simp [intOf]
          · cases u2
            · have HE : Hid (.bool (okK g 1) = Value.bool false) := Lib.hid (by rw [HO.out, HS.out]; simp)
              clear HO HS
              go_wp2_with fail
              go_quiet ((go_at_call 35; first | with_reducible exact Calls.quiet_of_same (K1.out _) | with_reducible exact Calls.quiet_of_same (K2.out _)))
              go_wp2
              go_roundw
              case rel => exact ⟨1, by omega, by go_num, by rw [HE.out], belowN HB.out _⟩
              case measure => simp [intOf]
            · have HE : Hid (.bool (okK g 1) = Value.bool (decide (g.l0 ≤ g.h0))) := Lib.hid (by rw [HO.out, HS.out]; simp)
              clear HO HS
              go_wp2_with fail
              go_quiet ((go_at_call 35; first | with_reducible exact Calls.quiet_of_same (K1.out _) | with_reducible exact Calls.quiet_of_same (K2.out _)))
              go_wp2
              go_roundw
              case rel => exact ⟨1, by omega, by go_num, by rw [HE.out], belowN HB.out _⟩
              case measure => simp [intOf]
      · have K1 : Hid (∀ w, Calls Tryz.prog 35 #[.int .i64 g.l1, .int .i64 0, .int .i64 1000] w fun e w' => e = .returned (.bool (upB g.l1 1000)) ∧ w' = w) := Lib.hid (fun w => within_any g.l1 0 1000 w)
        have K2 : Hid (∀ w, Calls Tryz.prog 35 #[.int .i64 g.h1, .int .i64 0, .int .i64 1000] w fun e w' => e = .returned (.bool (upB g.h1 1000)) ∧ w' = w) := Lib.hid (fun w => within_any g.h1 0 1000 w)
        have HO : Hid (okK g 2 = (okK g 1 && okS g.l1 g.h1)) := Lib.hid rfl
        have HS : Hid (okS g.l1 g.h1 = (upB g.l1 1000 && upB g.h1 1000 && decide (g.l1 ≤ g.h1))) := Lib.hid rfl
        generalize okK g 1 = v at *
        generalize okS g.l1 g.h1 = s at *
        generalize hq1 : upB g.l1 1000 = u1 at *
        generalize hq2 : upB g.h1 1000 = u2 at *
        clear hq1 hq2
        have a1 : wr.cell? ⟨w.heap.size, 1, none⟩ = some (.int .i64 g.l1) := Blk.cell Q2.out 1
        have a3 : wr.cell? ⟨w.heap.size, 3, none⟩ = some (.int .i64 g.h1) := Blk.cell Q2.out 3
        cases v
        · have HE : Hid (.bool (okK g 2) = Value.bool false) := Lib.hid (by rw [HO.out]; rfl)
          clear HO HS K1 K2
          go_wp2_with fail
          go_quiet (fail)
          go_wp2
          go_roundw
          case rel => exact ⟨2, by omega, by go_num, by rw [HE.out], belowN HB.out _⟩
          case measure => simp [intOf]
        · cases u1
          · have HE : Hid (.bool (okK g 2) = Value.bool false) := Lib.hid (by rw [HO.out, HS.out]; simp)
            clear HO HS
            go_wp2_with fail
            go_quiet ((go_at_call 35; first | with_reducible exact Calls.quiet_of_same (K1.out _) | with_reducible exact Calls.quiet_of_same (K2.out _)))
            go_wp2
            go_roundw
            case rel => exact ⟨2, by omega, by go_num, by rw [HE.out], belowN HB.out _⟩
            case measure => simp [intOf]
          · cases u2
            · have HE : Hid (.bool (okK g 2) = Value.bool false) := Lib.hid (by rw [HO.out, HS.out]; simp)
              clear HO HS
              go_wp2_with fail
              go_quiet ((go_at_call 35; first | with_reducible exact Calls.quiet_of_same (K1.out _) | with_reducible exact Calls.quiet_of_same (K2.out _)))
              go_wp2
              go_roundw
              case rel => exact ⟨2, by omega, by go_num, by rw [HE.out], belowN HB.out _⟩
              case measure => simp [intOf]
            · have HE : Hid (.bool (okK g 2) = Value.bool (decide (g.l1 ≤ g.h1))) := Lib.hid (by rw [HO.out, HS.out]; simp)
              clear HO HS
              go_wp2_with fail
              go_quiet ((go_at_call 35; first | with_reducible exact Calls.quiet_of_same (K1.out _) | with_reducible exact Calls.quiet_of_same (K2.out _)))
              go_wp2
              go_roundw
              case rel => exact ⟨2, by omega, by go_num, by rw [HE.out], belowN HB.out _⟩
              case measure => simp [intOf]
      · clear HB B0 Q0
        generalize wr = W2 at *
        have hl2 := Blk.lt Q2.out
        go_wp2_with fail
        go_loopw [3, 5] (fun v i wx => ∃ k : Nat, k ≤ g.drain.length ∧ i = .int .i64 k ∧ v = .bool (okK g 2 && La.chkK La.nameB ltS g.drain k) ∧ Below W2.heap.size W2 wx) (fun _ i _ => g.drain.length - (intOf i).toNat)
        case atStart => exact ⟨0, by omega, rfl, by rw [show La.chkK La.nameB ltS g.drain 0 = true from rfl, Bool.and_true], Below.refl _ _⟩
        case round =>
          obtain ⟨k, hk, rfl, rfl, hbw⟩ := hrel
          have HB := Lib.hid hbw
          have B3 := Lib.hid (B2.out.trans (hbw.mono B2.out.size))
          have Q3 := Lib.hid (Blk.below Q2.out hbw hl2)
          clear hbw
          have a5 : wr.cell? ⟨w.heap.size, 5, none⟩ = some (.slice A g.drain.length c) := Blk.cell Q3.out 5
          by_cases hlt : k < g.drain.length
          · obtain ⟨x, hx⟩ : ∃ x, g.drain[k]? = some x := ⟨g.drain[k], List.getElem?_eq_getElem hlt⟩
            obtain ⟨b, o, hA, hbl, c0⟩ := strC_at (HN.out.below B3.out).cells hx
            subst hA
            have HS : Hid (La.chkK La.nameB ltS g.drain (k + 1) = (La.chkK La.nameB ltS g.drain k && La.okAt La.nameB ltS g.drain k x)) := Lib.hid (by rw [La.chkK, hx])
            have KN : Hid (∀ w, Calls Tryz.prog 36 #[strV x] w fun e w' => e = .returned (.bool (La.nameB x)) ∧ w' = w) := Lib.hid (fun w => (La.rname_any x w (HN.out.big x (List.mem_of_getElem? hx))).mono fun e w' ⟨h1, h2⟩ => ⟨h1, h2.symm⟩)
            have HX := Lib.hid hx
            have k0 : (0 : Int) ≤ (k : Int) := by omega
            have k1 : (k : Int) < (g.drain.length : Int) := by omega
            clear hx
            cases hv : (okK g 2 && La.chkK La.nameB ltS g.drain k)
            · have HE : Hid (.bool (okK g 2 && La.chkK La.nameB ltS g.drain (k + 1)) = Value.bool false) := Lib.hid (by rw [HS.out, ← Bool.and_assoc, hv]; rfl)
              clear hv HS KN
              go_wp2_with fail
              go_quiet (fail)
              go_wp2
              go_roundw
              case rel => exact ⟨k + 1, by omega, by go_num, by rw [HE.out], belowN HB.out _⟩
              case measure => simp [intOf]; omega
            · have HS2 : Hid ((okK g 2 && La.chkK La.nameB ltS g.drain (k + 1)) = La.okAt La.nameB ltS g.drain k x) := Lib.hid (by rw [HS.out, ← Bool.and_assoc, hv, Bool.true_and])
              clear hv HS
              cases hn : La.nameB x
              · have HE : Hid (.bool (okK g 2 && La.chkK La.nameB ltS g.drain (k + 1)) = Value.bool false) := Lib.hid (by rw [HS2.out, La.okAt_no hn])
                rw [hn] at KN
                clear hn HS2
                go_wp2_with fail
                go_quiet ((go_at_call 36; exact Calls.quiet_of_same (KN.out _)))
                go_wp2
                go_roundw
                case rel => exact ⟨k + 1, by omega, by go_num, by rw [HE.out], belowN HB.out _⟩
                case measure => simp [intOf]; omega
              · rw [hn] at KN
                by_cases hz : k = 0
                · have HE : Hid (.bool (okK g 2 && La.chkK La.nameB ltS g.drain (k + 1)) = Value.bool true) := Lib.hid (by rw [HS2.out, La.okAt_zero hn hz])
                  have hzb : ((k : Int) == 0) = true := by simp [hz]
                  clear hn HS2 hz
                  go_wp2_with fail
                  go_quiet ((go_at_call 36; exact Calls.quiet_of_same (KN.out _)))
                  go_wp2
                  go_roundw
                  case rel => exact ⟨k + 1, by omega, by go_num, by rw [HE.out], belowN HB.out _⟩
                  case measure => simp [intOf]; omega
                · obtain ⟨y, hy⟩ : ∃ y, g.drain[k - 1]? = some y := ⟨g.drain[k - 1]'(by omega), List.getElem?_eq_getElem (by omega)⟩
                  obtain ⟨b', o', hA', _, d0⟩ := strC_at (HN.out.below B3.out).cells hy
                  simp only [Option.some.injEq, Addr.mk.injEq] at hA'
                  obtain ⟨rfl, rfl, _⟩ := hA'
                  have HE : Hid ((okK g 2 && La.chkK La.nameB ltS g.drain (k + 1)) = Op.bytesLess y x) := Lib.hid (by rw [HS2.out, La.okAt_pos hn hz hy, ltS_less])
                  have hzb : ((k : Int) == 0) = false := by simp; omega
                  obtain ⟨m, rfl⟩ : ∃ m, k = m + 1 := ⟨k - 1, by omega⟩
                  rw [Nat.add_sub_cancel] at d0
                  have m0 : (0 : Int) ≤ (m : Int) := by omega
                  have m1 : (m : Int) < (g.drain.length : Int) := by omega
                  have m2 : ((m + 1 : Nat) : Int) - 1 = (m : Int) := by omega
                  have p0 : (0 : Int) ≤ (m : Int) + 1 := by omega
                  have p1 : (m : Int) + 1 < (g.drain.length : Int) := by omega
                  have p2 : ((m : Int) + 1 == 0) = false := by simp; omega
                  have p3 : ((m : Int) + 1).toNat = m + 1 := by omega
                  have m3 : IntKind.i64.wrap ((m : Int) + 1 - 1) = (m : Int) := by rw [show (m : Int) + 1 - 1 = (m : Int) by omega]; exact IntWalk.i64_in _ (by omega)
                  clear m2 hzb
                  clear hn HS2 hz hy
                  obtain ⟨r, hr⟩ : ∃ r, Op.bytesLess y x = r := ⟨_, rfl⟩
                  rw [hr] at HE
                  go_wp2_with fail
                  go_quiet ((go_at_call 36; exact Calls.quiet_of_same (KN.out _)))
                  go_wp2
                  go_roundw
                  case rel => exact ⟨m + 1 + 1, by omega, by go_num, by rw [HE.out], belowN HB.out _⟩
                  case measure => simp [intOf]; omega
          · obtain rfl : k = g.drain.length := by omega
            have HR2 : Hid (R = if okK g 2 && La.chkK La.nameB ltS g.drain g.drain.length then 0 else 60) := HR
            generalize (okK g 2 && La.chkK La.nameB ltS g.drain g.drain.length) = z at HR2 ⊢
            cases z
            · have HE : Hid (R = 60) := Lib.hid (by rw [HR2.out]; rfl)
              clear HR HR2
              go_wp2_with fail
              go_ret
              exact ⟨La.retI HE.out.symm, B3.out⟩
            · have HE : Hid (R = 0) := Lib.hid (by rw [HR2.out]; rfl)
              clear HR HR2
              go_wp2_with fail
              go_ret
              exact ⟨La.retI HE.out.symm, B3.out⟩
      · omega

theorem eq_int2 (n : Nat) (a b : Int) (w : World) : (Op.equalIn (n + 1) 3 (.int .i64 a) (.int .i64 b)).run Tryz.prog w = .ok (a == b) w := by
  rw [run_equalIn_int w n 3 .i64 .i64 a b Tryz.underlying3]
theorem arr2_no (n : Nat) (a b : Int) (w : World) (h : ¬ (a = 0 ∧ b = 0)) : (Op.equalIn (n + 2) 22 (.agg #[.int .i64 a, .int .i64 b]) (.agg #[.int .i64 0, .int .i64 0])).run Tryz.prog w = .ok false w := by
  rw [Op.equalIn]
  simp only [Sem.run_bind, run_underlying Tryz.underlying22, Result.andThen_ok, gint_size]
  by_cases ha : a = 0
  · have hb : (b == 0) = false := by simpa using (fun hb => h ⟨ha, hb⟩)
    subst ha
    simp [Std.Legacy.Range.forIn_eq_forIn_range', Std.Legacy.Range.size, List.range', Sem.run_bind, part2_0, part2_1, eq_int2, hb]
  · have ha' : (a == 0) = false := by simpa using ha
    simp [Std.Legacy.Range.forIn_eq_forIn_range', Std.Legacy.Range.size, List.range', Sem.run_bind, part2_0, part2_1, eq_int2, ha']
theorem arr2_ne (a b : Int) (w : World) (h : ¬ (a = 0 ∧ b = 0)) : (Op.equalIn 10000 22 (.agg #[.int .i64 a, .int .i64 b]) (.agg #[.int .i64 0, .int .i64 0])).run Tryz.prog w = .ok false w := arr2_no 9998 a b w h
theorem strEqP {a b : ByteArray} (h : a = b) : Value.string a = .string b := by rw [h]
theorem pjoin2 (a b : List UInt8) : (⟨a.toArray⟩ : ByteArray) ++ (⟨b.toArray⟩ : ByteArray) = ⟨(a ++ b).toArray⟩ := by
  apply ByteArray.ext
  simp [ByteArray.data_append]

set_option maxRecDepth 100000 in
set_option maxHeartbeats 1000000 in
theorem rshares_any (key : List UInt8) (a b : Int) (w : World) (ht : Qu.Tab w) (hk : key.length ≤ 100) :
    Calls Tryz.prog 29 #[strV key, .agg #[.int .i64 a, .int .i64 b]] w fun e w' => e = .returned (strV (lineT key (saidShares a b))) ∧ Below w.heap.size w w' := by
  have HT := Lib.hid ht
  have B0 : Hid (Below w.heap.size w (w.alloc (.cells #[.int .i64 a, .int .i64 b] 22))) := Lib.hid (below1 w _)
  have Q0 : Hid (Blk (w.alloc (.cells #[.int .i64 a, .int .i64 b] 22)) w.heap.size #[.int .i64 a, .int .i64 b] 22) := Lib.hid (Blk.new w _ _)
  have hl0 := Blk.lt Q0.out
  have q3 := arr2_guard
  obtain ⟨S, hS⟩ : ∃ S, lineT key (saidShares a b) = S := ⟨_, rfl⟩
  have HS := Lib.hid hS
  rw [hS]
  clear hS ht
  by_cases hz : a = 0 ∧ b = 0
  · obtain ⟨rfl, rfl⟩ := hz
    have HE : Hid (strV S = .string ⟨#[]⟩) := Lib.hid (by rw [← HS.out]; rfl)
    have q1 := arr2_eq 0 0
    go_enter Tryz.func29, Tryz.ntmps29
    go_upto_region 1 with fail
    generalize (w.alloc (.cells #[.int .i64 0, .int .i64 0] 22)) = W at B0 Q0 hl0 ⊢
    have a0 : W.cell? ⟨w.heap.size, 0, none⟩ = some (.int .i64 0) := Blk.cell Q0.out 0
    have a1 : W.cell? ⟨w.heap.size, 1, none⟩ = some (.int .i64 0) := Blk.cell Q0.out 1
    go_wp2_with fail
    go_ret
    rw [HE.out]
    exact ⟨rfl, B0.out⟩
  · have q1 := fun w => arr2_ne a b w hz
    have HS2 : Hid (S = key ++ (32 :: (Qu.pctL a).1 ++ (32 :: (Qu.pctL b).1 ++ [])) ++ [10]) := Lib.hid (by
      rw [← HS.out]
      unfold lineT saidShares
      rw [if_pos (by simp; omega)]
      rfl)
    have p0 := pct_short a
    have p1 := pct_short b
    have KA : Hid (∀ w, Qu.Tab w → Calls Tryz.prog 55 #[.int .i64 a] w fun e w' => e = .returned (.tuple #[strV (Qu.pctL a).1, .int .i64 (Qu.pctL a).2]) ∧ Below w.heap.size w w') := Lib.hid (fun w ht => Qu.rprintPercent_any a w ht)
    have KB : Hid (∀ w, Qu.Tab w → Calls Tryz.prog 55 #[.int .i64 b] w fun e w' => e = .returned (.tuple #[strV (Qu.pctL b).1, .int .i64 (Qu.pctL b).2]) ∧ Below w.heap.size w w') := Lib.hid (fun w ht => Qu.rprintPercent_any b w ht)
    generalize Qu.pctL a = x at HS2 p0 KA
    generalize Qu.pctL b = y at HS2 p1 KB
    obtain ⟨x, x2⟩ := x
    obtain ⟨y, y2⟩ := y
    simp only at HS2 p0 p1 KA KB
    clear hz HS
    go_enter Tryz.func29, Tryz.ntmps29
    go_upto_region 1 with fail
    generalize (w.alloc (.cells #[.int .i64 a, .int .i64 b] 22)) = W at B0 Q0 hl0 ⊢
    have a0 : W.cell? ⟨w.heap.size, 0, none⟩ = some (.int .i64 a) := Blk.cell Q0.out 0
    have a1 : W.cell? ⟨w.heap.size, 1, none⟩ = some (.int .i64 b) := Blk.cell Q0.out 1
    go_wp2_with fail
    refine (KA.out _ (HT.out.below B0.out)).mono ?_
    rintro e w1 ⟨rfl, hb⟩
    have B1 := Lib.hid (B0.out.trans (hb.mono B0.out.size))
    have Q1 := Lib.hid (Blk.below Q0.out hb hl0)
    clear hb KA a0 a1
    have a1 : w1.cell? ⟨w.heap.size, 1, none⟩ = some (.int .i64 b) := Blk.cell Q1.out 1
    go_wp2_with fail
    refine (KB.out _ (HT.out.below B1.out)).mono ?_
    rintro e w2 ⟨rfl, hb⟩
    have B2 := Lib.hid (B1.out.trans (hb.mono B1.out.size))
    clear hb KB a1
    go_wp2
    go_ret
    refine ⟨?_, B2.out⟩
    have HE : strV S = .string (((((⟨key.toArray⟩ : ByteArray) ++ ⟨#[32]⟩) ++ ⟨x.toArray⟩ ++ ⟨#[32]⟩) ++ ⟨y.toArray⟩) ++ ⟨#[10]⟩) := by
      rw [HS2.out]
      simp only [pjoin2, pjoin2 _ [32], pjoin2 _ [10], List.append_assoc]
      simp
    rw [HE]
    rfl

set_option maxRecDepth 100000 in
set_option maxHeartbeats 1000000 in
theorem rmany_any (key : List UInt8) (n : Int) (w : World) (ht : Qu.Tab w) (hk : key.length ≤ 100) (h0 : 0 ≤ n) (h1 : n ≤ 1000) :
    Calls Tryz.prog 31 #[strV key, .int .i64 n] w fun e w' => e = .returned (strV (lineT key (saidNum n))) ∧ Below w.heap.size w w' := by
  have HT := Lib.hid ht
  obtain ⟨S, hS⟩ : ∃ S, lineT key (saidNum n) = S := ⟨_, rfl⟩
  have HS := Lib.hid hS
  rw [hS]
  clear hS ht
  by_cases hz : n = 0
  · subst hz
    have HE : Hid (strV S = .string ⟨#[]⟩) := Lib.hid (by rw [← HS.out]; rfl)
    go_enter Tryz.func31, Tryz.ntmps31
    go_wp2_with fail
    go_ret
    rw [HE.out]
    exact ⟨rfl, Below.refl _ _⟩
  · have KI := Lib.hid (fun w ht => itoa_all n w (by omega) (by omega) ht)
    have hzb : (n == 0) = false := by simpa using hz
    have HS2 : Hid (S = key ++ (32 :: Lib.itoa n ++ []) ++ [10]) := Lib.hid (by
      rw [← HS.out]
      unfold lineT saidNum
      rw [if_pos (by simpa using hz)]
      rfl)
    have p0 : (Lib.itoa n).length ≤ 100 := by
      have := Lib.itoa_length_le n (by omega) (by omega)
      omega
    generalize Lib.itoa n = x at HS2 p0 KI
    clear HS hz
    go_enter Tryz.func31, Tryz.ntmps31
    go_wp2_with fail
    refine (KI.out _ HT.out).mono ?_
    rintro e w1 ⟨rfl, hb⟩
    have B1 := Lib.hid hb
    clear hb KI
    go_wp2
    go_ret
    refine ⟨?_, B1.out⟩
    have HE : strV S = .string ((((⟨key.toArray⟩ : ByteArray) ++ ⟨#[32]⟩) ++ ⟨x.toArray⟩) ++ ⟨#[10]⟩) := by
      rw [HS2.out]
      simp only [pjoin2, pjoin2 _ [32], pjoin2 _ [10], List.append_assoc]
      simp
    rw [HE]
    rfl

set_option maxRecDepth 100000 in
set_option maxHeartbeats 1000000 in
/-- The names of the bits, laid in new memory. -/
theorem ron_any (w : World) :
    Calls Tryz.prog 30 #[] w fun e w' => e = .returned (.slice (some ⟨w.heap.size, 0, none⟩) 5 5) ∧ w' = w.alloc (.cells (strC looksL).toArray 9) := by
  go_enter Tryz.func30, Tryz.ntmps30
  go_wp2_with fail
  go_ret
  exact ⟨rfl, rfl⟩

set_option maxRecDepth 100000 in
set_option maxHeartbeats 1000000 in
theorem rdrains_any (g : Pol) (A : Option Addr) (c : Nat) (t : List UInt8) (w : World) (h : NamesAt w A c g.drain) :
    Calls Tryz.prog 14 #[valG g A c, strV t] w fun e w' => e = .returned (.bool (decide (t ∈ g.drain))) ∧ Below w.heap.size w w' := by
  have HN := Lib.hid h
  have hcl := h.le
  have hcm := h.most
  have B0 : Hid (Below w.heap.size w (w.alloc (.cells (cellsG g A c) 25))) := Lib.hid (below1 w _)
  have Q0 : Hid (Blk (w.alloc (.cells (cellsG g A c) 25)) w.heap.size (cellsG g A c) 25) := Lib.hid (Blk.new w _ _)
  obtain ⟨R, hR⟩ : ∃ R, decide (t ∈ g.drain) = R := ⟨_, rfl⟩
  have HR := Lib.hid hR
  rw [hR]
  clear h hR
  go_enter Tryz.func14, Tryz.ntmps14
  go_upto_region 1 with fail
  change Code.wp _ _ _ _ (w.alloc (.cells (cellsG g A c) 25))
  generalize (w.alloc (.cells (cellsG g A c) 25)) = W at B0 Q0 ⊢
  go_wp2_with fail
  go_loopw [5] (fun i wr => ∃ k : Nat, k ≤ g.drain.length ∧ i = .int .i64 k ∧ (∀ j x, j < k → g.drain[j]? = some x → x ≠ t) ∧ Below w.heap.size w wr ∧ Blk wr w.heap.size (cellsG g A c) 25) (fun i _ => g.drain.length - (intOf i).toNat)
  case atStart => exact ⟨0, by omega, rfl, fun j x h => by omega, B0.out, Q0.out⟩
  case round =>
    obtain ⟨k, hk, rfl, hno, hb, hq⟩ := hrel
    have HN2 := Lib.hid hno
    have HB := Lib.hid hb
    have HQ := Lib.hid hq
    clear hno hb hq
    have a5 : wr.cell? ⟨w.heap.size, 5, none⟩ = some (.slice A g.drain.length c) := Blk.cell HQ.out 5
    by_cases hlt : k < g.drain.length
    · obtain ⟨x, hx⟩ : ∃ x, g.drain[k]? = some x := ⟨g.drain[k], List.getElem?_eq_getElem hlt⟩
      obtain ⟨b, o, hA, hbl, c0⟩ := strC_at (HN.out.below HB.out).cells hx
      subst hA
      have HX := Lib.hid hx
      have k0 : (0 : Int) ≤ (k : Int) := by omega
      have k1 : (k : Int) < (g.drain.length : Int) := by omega
      clear hx
      by_cases hxt : x = t
      · subst hxt
        have hxb : (x == x) = true := by simp
        have HE : Hid (true = R) := Lib.hid (by rw [← HR.out]; symm; exact decide_eq_true (List.mem_of_getElem? HX.out))
        go_wp2_with fail
        go_ret
        exact ⟨La.retB HE.out, HB.out⟩
      · have hxb : (x == t) = false := by simpa using hxt
        have Hxt := Lib.hid hxt
        clear hxt
        go_wp2_with fail
        go_roundw
        case rel =>
          refine ⟨k + 1, by omega, by go_num, fun j y hj hy => ?_, HB.out, HQ.out⟩
          by_cases hjk : j = k
          · subst hjk
            rw [HX.out] at hy
            cases hy
            exact Hxt.out
          · exact HN2.out j y (by omega) hy
        case measure => simp [intOf]; omega
    · obtain rfl : k = g.drain.length := by omega
      have HE : Hid (false = R) := Lib.hid (by
        rw [← HR.out]
        symm
        refine decide_eq_false (fun h => ?_)
        obtain ⟨j, hj⟩ := List.mem_iff_getElem?.1 h
        exact HN2.out j t (List.getElem?_eq_some_iff.1 hj).1 hj rfl)
      go_wp2_with fail
      go_ret
      exact ⟨La.retB HE.out, HB.out⟩

/-- A policy's lines, one behind the other. -/
theorem text_lines (g : Pol) : textK g 7 = lineT [108, 111, 119] (saidShares g.l0 g.l1) ++ lineT [104, 105, 103, 104] (saidShares g.h0 g.h1) ++ lineT [111, 110] (saidLooks g.on) ++ lineT [100, 114, 97, 105, 110] (decide (0 < g.drain.length), g.drain) ++ lineT [109, 111, 118, 101, 115] (saidNum g.mx) ++ lineT [116, 114, 105, 101, 115] (saidNum g.tr) ++ lineT [114, 111, 108, 108, 98, 97, 99, 107] (g.rb, []) := by
  simp only [textK, List.nil_append]
  rfl
theorem line_short (key : List UInt8) (x : Said) (hk : key.length ≤ 10) (h1 : x.2.length ≤ 8) (h2 : ∀ t ∈ x.2, t.length ≤ 100) : (lineT key x).length ≤ 1000 := by
  have := wordsT_len 100 x.2 h2
  have h3 : (100 + 1) * x.2.length ≤ 101 * 8 := Nat.mul_le_mul_left _ h1
  unfold lineT
  split
  · simp only [List.length_append, List.length_cons, List.length_nil]
    omega
  · simp

theorem and_bits : ∀ (n : Fin 32) (k : Fin 5), (bits BinOp.and IntKind.i64 ((n.val : Int) / 2 ^ k.val) 1 == 1) = andB (n.val : Int) (looksL.getD k.val []) := by decide +kernel
theorem and_bit {on : Int} (h : 0 ≤ on ∧ on ≤ 31) {k : Nat} {x : List UInt8} (hx : looksL[k]? = some x) : (bits BinOp.and IntKind.i64 (on / 2 ^ k) 1 == 1) = andB on x := by
  have hk : k < 5 := (List.getElem?_eq_some_iff.1 hx).1
  obtain ⟨n, rfl⟩ : ∃ n : Nat, on = (n : Int) := ⟨on.toNat, by omega⟩
  have hn : n < 32 := by omega
  have := and_bits ⟨n, hn⟩ ⟨k, hk⟩
  rw [show looksL.getD k [] = x by rw [List.getD_eq_getElem?_getD, hx]; rfl] at this
  exact this
theorem looks_short {k : Nat} {x : List UInt8} (hx : looksL[k]? = some x) : x.length ≤ 8 := by
  have : ∀ y ∈ looksL, y.length ≤ 8 := by decide
  exact this x (List.mem_of_getElem? hx)
theorem on_cell (w : World) {k : Nat} {x : List UInt8} (hx : looksL[k]? = some x) : (w.alloc (.cells (strC looksL).toArray 9)).cell? ⟨w.heap.size, k, none⟩ = some (strV x) := by
  rw [Blk.cell (Blk.new w _ _) k, List.getElem?_toArray, strC, List.getElem?_map, hx]
  rfl
/-- What both shares' calls leave. -/
def SharesCut (W : World) (T : List UInt8) (v : Value) (wc : World) : Prop := v = strV T ∧ Below W.heap.size W wc
set_option maxRecDepth 100000 in
set_option maxHeartbeats 4000000 in
theorem rprint_any (g : Pol) (A : Option Addr) (c : Nat) (w : World) (he : Env w) (h : NamesAt w A c g.drain) :
    Calls Tryz.prog 10 #[valG g A c] w fun e w' => e = .returned (.tuple #[strV (printG g).1, .int .i64 (printG g).2]) ∧ Below w.heap.size w w' := by
  have HE := Lib.hid he
  have HN := Lib.hid h
  have hcl := h.le
  have hcm := h.most
  have B0 : Hid (Below w.heap.size w (w.alloc (.cells (cellsG g A c) 25))) := Lib.hid (below1 w _)
  have Q0 : Hid (Blk (w.alloc (.cells (cellsG g A c) 25)) w.heap.size (cellsG g A c) 25) := Lib.hid (Blk.new w _ _)
  have N0 := Lib.hid (h.below B0.out)
  have KC : Hid (Calls Tryz.prog 12 #[.agg #[.int .i64 g.l0, .int .i64 g.l1, .int .i64 g.h0, .int .i64 g.h1, .int .i64 g.on, .slice A g.drain.length c, .int .i64 g.mx, .int .i64 g.tr, .bool g.rb]] (w.alloc (.cells (cellsG g A c) 25)) fun e w' => e = .returned (.int .i64 (checkG g)) ∧ Below (w.alloc (.cells (cellsG g A c) 25)).heap.size (w.alloc (.cells (cellsG g A c) 25)) w') := Lib.hid (rcheck_any g A c _ N0.out)
  obtain ⟨R, hR⟩ : ∃ R, printG g = R := ⟨_, rfl⟩
  rw [hR]
  clear h he
  go_enter Tryz.func10, Tryz.ntmps10
  go_upto_region 1 with fail
  change Code.wp _ _ _ _ (w.alloc (.cells (cellsG g A c) 25))
  generalize (w.alloc (.cells (cellsG g A c) 25)) = W at B0 Q0 N0 KC ⊢
  have hl0 := Blk.lt Q0.out
  have a0 : W.cell? ⟨w.heap.size, 0, none⟩ = some (.int .i64 g.l0) := Blk.cell Q0.out 0
  have a1 : W.cell? ⟨w.heap.size, 1, none⟩ = some (.int .i64 g.l1) := Blk.cell Q0.out 1
  have a2 : W.cell? ⟨w.heap.size, 2, none⟩ = some (.int .i64 g.h0) := Blk.cell Q0.out 2
  have a3 : W.cell? ⟨w.heap.size, 3, none⟩ = some (.int .i64 g.h1) := Blk.cell Q0.out 3
  have a4 : W.cell? ⟨w.heap.size, 4, none⟩ = some (.int .i64 g.on) := Blk.cell Q0.out 4
  have a5 : W.cell? ⟨w.heap.size, 5, none⟩ = some (.slice A g.drain.length c) := Blk.cell Q0.out 5
  have a6 : W.cell? ⟨w.heap.size, 6, none⟩ = some (.int .i64 g.mx) := Blk.cell Q0.out 6
  have a7 : W.cell? ⟨w.heap.size, 7, none⟩ = some (.int .i64 g.tr) := Blk.cell Q0.out 7
  have a8 : W.cell? ⟨w.heap.size, 8, none⟩ = some (.bool g.rb) := Blk.cell Q0.out 8
  by_cases hz : checkG g = 0
  case neg =>
    have HE2 : Hid (R = ([], checkG g)) := Lib.hid (by rw [← hR]; unfold printG; rw [if_neg hz])
    clear hR
    generalize checkG g = cg at HE2 KC hz
    have hzb : (cg != 0) = true := by simpa using hz
    clear hz
    go_wp2_with fail
    refine KC.out.mono ?_
    rintro e w1 ⟨rfl, hb⟩
    have B1 := Lib.hid (B0.out.trans (hb.mono B0.out.size))
    clear hb KC a0 a1 a2 a3 a4 a5 a6 a7 a8
    go_wp2
    go_ret2
    rw [HE2.out]
    exact ⟨rfl, B1.out⟩
  have HT : Hid (R = (textK g 7, 0)) := Lib.hid (by rw [← hR]; unfold printG; rw [if_pos hz])
  have hsm := saids_small hz
  obtain ⟨_, hon, ⟨hd8, hnm⟩, hmx, htr⟩ := polB_all hz
  have hn15 := names_15 hnm
  rw [hz] at KC
  rw [text_lines] at HT
  have e0 := line_short [108, 111, 119] (saidShares g.l0 g.l1) (by decide) (hsm _ (by simp [saidsG])).1 (hsm _ (by simp [saidsG])).2
  have e1 := line_short [104, 105, 103, 104] (saidShares g.h0 g.h1) (by decide) (hsm _ (by simp [saidsG])).1 (hsm _ (by simp [saidsG])).2
  have e2 := line_short [111, 110] (saidLooks g.on) (by decide) (hsm _ (by simp [saidsG])).1 (hsm _ (by simp [saidsG])).2
  have e3 := line_short [100, 114, 97, 105, 110] (decide (0 < g.drain.length), g.drain) (by decide) (hsm _ (by simp [saidsG])).1 (hsm _ (by simp [saidsG])).2
  have e4 := line_short [109, 111, 118, 101, 115] (saidNum g.mx) (by decide) (hsm _ (by simp [saidsG])).1 (hsm _ (by simp [saidsG])).2
  have e5 := line_short [116, 114, 105, 101, 115] (saidNum g.tr) (by decide) (hsm _ (by simp [saidsG])).1 (hsm _ (by simp [saidsG])).2
  have K0 : Hid (∀ w', Qu.Tab w' → Calls Tryz.prog 29 #[.string ⟨#[108, 111, 119]⟩, .agg #[.int .i64 g.l0, .int .i64 g.l1]] w' fun e w'' => e = .returned (strV (lineT [108, 111, 119] (saidShares g.l0 g.l1))) ∧ Below w'.heap.size w' w'') := Lib.hid (fun w' ht => rshares_any [108, 111, 119] g.l0 g.l1 w' ht (by decide))
  have K1 : Hid (∀ w', Qu.Tab w' → Calls Tryz.prog 29 #[.string ⟨#[104, 105, 103, 104]⟩, .agg #[.int .i64 g.h0, .int .i64 g.h1]] w' fun e w'' => e = .returned (strV (lineT [104, 105, 103, 104] (saidShares g.h0 g.h1))) ∧ Below w'.heap.size w' w'') := Lib.hid (fun w' ht => rshares_any [104, 105, 103, 104] g.h0 g.h1 w' ht (by decide))
  have K4 : Hid (∀ w', Qu.Tab w' → Calls Tryz.prog 31 #[.string ⟨#[109, 111, 118, 101, 115]⟩, .int .i64 g.mx] w' fun e w'' => e = .returned (strV (lineT [109, 111, 118, 101, 115] (saidNum g.mx))) ∧ Below w'.heap.size w' w'') := Lib.hid (fun w' ht => rmany_any [109, 111, 118, 101, 115] g.mx w' ht (by decide) hmx.1 (by omega))
  have K5 : Hid (∀ w', Qu.Tab w' → Calls Tryz.prog 31 #[.string ⟨#[116, 114, 105, 101, 115]⟩, .int .i64 g.tr] w' fun e w'' => e = .returned (strV (lineT [116, 114, 105, 101, 115] (saidNum g.tr))) ∧ Below w'.heap.size w' w'') := Lib.hid (fun w' ht => rmany_any [116, 114, 105, 101, 115] g.tr w' ht (by decide) htr.1 (by omega))
  have HL2 : Hid (lineT [111, 110] (saidLooks g.on) = if g.on != 0 then [111, 110] ++ wordsT (looksL.filter (andB g.on)) ++ [10] else []) := Lib.hid rfl
  have HL3 : Hid (lineT [100, 114, 97, 105, 110] (decide (0 < g.drain.length), g.drain) = if decide (0 < g.drain.length) then [100, 114, 97, 105, 110] ++ wordsT g.drain ++ [10] else []) := Lib.hid rfl
  have HL6 : Hid (lineT [114, 111, 108, 108, 98, 97, 99, 107] (g.rb, []) = if g.rb then [114, 111, 108, 108, 98, 97, 99, 107, 10] else []) := Lib.hid rfl
  generalize lineT [108, 111, 119] (saidShares g.l0 g.l1) = L0 at HT e0 K0
  generalize lineT [104, 105, 103, 104] (saidShares g.h0 g.h1) = L1 at HT e1 K1
  generalize lineT [111, 110] (saidLooks g.on) = L2 at HT e2 HL2
  generalize lineT [100, 114, 97, 105, 110] (decide (0 < g.drain.length), g.drain) = L3 at HT e3 HL3
  generalize lineT [109, 111, 118, 101, 115] (saidNum g.mx) = L4 at HT e4 K4
  generalize lineT [116, 114, 105, 101, 115] (saidNum g.tr) = L5 at HT e5 K5
  generalize lineT [114, 111, 108, 108, 98, 97, 99, 107] (g.rb, []) = L6 at HT HL6
  have Hon := Lib.hid hon
  have Hn15 := Lib.hid hn15
  clear hsm hon hnm hmx htr hn15 hz hR
  go_wp2_with fail
  refine KC.out.mono ?_
  rintro e w1 ⟨rfl, hb⟩
  have B1 := Lib.hid (B0.out.trans (hb.mono B0.out.size))
  have Q1 := Lib.hid (Blk.below Q0.out hb hl0)
  clear hb KC B0 Q0 N0 a0 a1 a2 a3 a4 a5 a6 a7 a8
  have hl1 := Blk.lt Q1.out
  go_upto_region 4 with fail
  go_cut [5] (fun v wc => SharesCut w1 (L0 ++ L1) v wc)
  case first =>
    have D0 : Hid (Below w1.heap.size w1 w1.drew) := Lib.hid ((Below.refl _ _).drew)
    have E1 := Lib.hid (HE.out.below B1.out)
    have hj := fun (W : World) => run_string_add_lists (P := Tryz.prog) W L0 L1 (by omega) (by omega)
    clear e0 e1 e2 e3 e4 e5 hd8 hcl hcm HL2 HL3 HL6 HT K4 K5 Hon Hn15
    have S1 : w1.drew.cell? ⟨w.heap.size, 0, none⟩ = some (.int .i64 g.l0) ∧ w1.drew.cell? ⟨w.heap.size, 1, none⟩ = some (.int .i64 g.l1) ∧ w1.drew.cell? ⟨w.heap.size, 2, none⟩ = some (.int .i64 g.h0) ∧ w1.drew.cell? ⟨w.heap.size, 3, none⟩ = some (.int .i64 g.h1) := ⟨Blk.cell (show Blk w1.drew _ _ _ from Q1.out) 0, Blk.cell (show Blk w1.drew _ _ _ from Q1.out) 1, Blk.cell (show Blk w1.drew _ _ _ from Q1.out) 2, Blk.cell (show Blk w1.drew _ _ _ from Q1.out) 3⟩
    have S0 : w1.cell? ⟨w.heap.size, 0, none⟩ = some (.int .i64 g.l0) ∧ w1.cell? ⟨w.heap.size, 1, none⟩ = some (.int .i64 g.l1) ∧ w1.cell? ⟨w.heap.size, 2, none⟩ = some (.int .i64 g.h0) ∧ w1.cell? ⟨w.heap.size, 3, none⟩ = some (.int .i64 g.h1) := ⟨Blk.cell Q1.out 0, Blk.cell Q1.out 1, Blk.cell Q1.out 2, Blk.cell Q1.out 3⟩
    go_region_held3 (fun w' => w'.cell? ⟨w.heap.size, 0, none⟩ = some (.int .i64 g.l0) ∧ w'.cell? ⟨w.heap.size, 1, none⟩ = some (.int .i64 g.l1) ∧ w'.cell? ⟨w.heap.size, 2, none⟩ = some (.int .i64 g.h0) ∧ w'.cell? ⟨w.heap.size, 3, none⟩ = some (.int .i64 g.h1))
      (first | (with_reducible exact S1) | (with_reducible exact S0) | (with_reducible exact S3) | (with_reducible exact S4) | go_keep)
      (first
        | (go_at_call 29; (with_reducible refine (K0.out _ (E1.out.tab.below D0.out)).mono ?_); rintro e w3 ⟨rfl, hb3⟩; have D3 : Hid (Below w1.heap.size w1 w3) := Lib.hid (D0.out.trans (hb3.mono D0.out.size)); have S3 : w3.cell? ⟨w.heap.size, 0, none⟩ = some (.int .i64 g.l0) ∧ w3.cell? ⟨w.heap.size, 1, none⟩ = some (.int .i64 g.l1) ∧ w3.cell? ⟨w.heap.size, 2, none⟩ = some (.int .i64 g.h0) ∧ w3.cell? ⟨w.heap.size, 3, none⟩ = some (.int .i64 g.h1) := ⟨Blk.cell (Blk.below Q1.out D3.out hl1) 0, Blk.cell (Blk.below Q1.out D3.out hl1) 1, Blk.cell (Blk.below Q1.out D3.out hl1) 2, Blk.cell (Blk.below Q1.out D3.out hl1) 3⟩; clear hb3)
        | (go_at_call 29; (with_reducible refine (K1.out _ (E1.out.tab.below D3.out)).mono ?_); rintro e w4 ⟨rfl, hb4⟩; have D4 : Hid (Below w1.heap.size w1 w4) := Lib.hid (D3.out.trans (hb4.mono D3.out.size)); have S4 : w4.cell? ⟨w.heap.size, 0, none⟩ = some (.int .i64 g.l0) ∧ w4.cell? ⟨w.heap.size, 1, none⟩ = some (.int .i64 g.l1) ∧ w4.cell? ⟨w.heap.size, 2, none⟩ = some (.int .i64 g.h0) ∧ w4.cell? ⟨w.heap.size, 3, none⟩ = some (.int .i64 g.h1) := ⟨Blk.cell (Blk.below Q1.out D4.out hl1) 0, Blk.cell (Blk.below Q1.out D4.out hl1) 1, Blk.cell (Blk.below Q1.out D4.out hl1) 2, Blk.cell (Blk.below Q1.out D4.out hl1) 3⟩; clear hb4)
        | skip)
    all_goals
      go_wp2_with fail
      go_meet
      exact ⟨rfl, by first | exact D4.out | exact D4.out.drew⟩
  case rest =>
    obtain ⟨rfl, hb⟩ := hcut
    generalize wc = w2 at *
    have B2 := Lib.hid (B1.out.trans (hb.mono B1.out.size))
    have Q2 := Lib.hid (Blk.below Q1.out hb hl1)
    clear hb B1 Q1 K0 K1 hl1
    have hl2 := Blk.lt Q2.out
    obtain ⟨S1, hS1⟩ : ∃ S1, L0 ++ L1 = S1 := ⟨_, rfl⟩
    have s1 : S1.length ≤ 2000 := by rw [← hS1, List.length_append]; omega
    have HT1 : Hid (R = (S1 ++ L2 ++ L3 ++ L4 ++ L5 ++ L6, 0)) := Lib.hid (by rw [HT.out, ← hS1])
    rw [hS1]
    clear hS1 e0 e1 HT hl2
    have hl2 := Blk.lt Q2.out
    have a4 : w2.cell? ⟨w.heap.size, 4, none⟩ = some (.int .i64 g.on) := Blk.cell Q2.out 4
    go_upto_if 22 with fail
    go_cut [22, 5] (fun _ v wc => v = strV (S1 ++ L2) ∧ Below w.heap.size w wc ∧ Blk wc w.heap.size (cellsG g A c) 25)
    case first =>
      clear K4 K5 HL3 HL6 HT1 e3 e4 e5 hd8 hcl hcm Hn15
      by_cases h0 : g.on = 0
      · have h0b : (g.on != 0) = false := by simp [h0]
        have HE2 : Hid (S1 ++ L2 = S1) := Lib.hid (by rw [HL2.out, h0b]; simp)
        clear h0 e2 HL2
        go_wp2_with fail
        go_meet
        rw [HE2.out]
        exact ⟨rfl, B2.out, Q2.out⟩
      · have h0b : (g.on != 0) = true := by simpa using h0
        have HE2 : Hid (S1 ++ L2 = S1 ++ [111, 110] ++ wordsT (looksL.filter (andB g.on)) ++ [10]) := Lib.hid (by rw [HL2.out, h0b]; simp only [if_true, List.append_assoc])
        have hj := fun (W : World) => run_string_add_lists (P := Tryz.prog) W S1 [111, 110] (by omega) (by simp)
        have Hs1 := Lib.hid s1
        clear h0 e2 HL2 s1
        go_wp2_with fail
        rw [h0b]
        clear hj a4 h0b
        generalize w2 = W2 at B2 Q2 hl2 ⊢
        go_loopw [6, 5] (fun i v wr => ∃ (k : Nat) (acc : List UInt8), k ≤ 5 ∧ i = .int .i64 k ∧ v = strV acc ∧ acc = S1 ++ [111, 110] ++ wordsT ((looksL.take k).filter (andB g.on)) ∧ acc.length ≤ 2002 + 10 * k ∧ Below w.heap.size w wr ∧ Blk wr w.heap.size (cellsG g A c) 25) (fun i _ _ => 5 - (intOf i).toNat)
        case atStart => exact ⟨0, S1 ++ [111, 110], by omega, rfl, rfl, by simp [wordsT], by have := Hs1.out; simp; omega, B2.out, Q2.out⟩
        case round =>
          obtain ⟨k, acc, hk, rfl, rfl, hacc, hal, hbw, hqw⟩ := hrel
          have HA := Lib.hid hacc
          have HB := Lib.hid hbw
          have HQ := Lib.hid hqw
          have HAL := Lib.hid hal
          have a4 : wr.cell? ⟨w.heap.size, 4, none⟩ = some (.int .i64 g.on) := Blk.cell HQ.out 4
          clear hacc hbw hqw hal
          by_cases hlt : k < 5
          · obtain ⟨x, hx⟩ : ∃ x, looksL[k]? = some x := ⟨looksL[k]'(by show k < 5; exact hlt), List.getElem?_eq_getElem _⟩
            have HX := Lib.hid hx
            have HST := Lib.hid (looks_step g.on k hx)
            have HAB := Lib.hid (and_bit Hon.out hx)
            have k0 : (0 : Int) ≤ (k : Int) := by omega
            have k1 : (k : Int) < 5 := by omega
            obtain ⟨r, hr⟩ : ∃ r, andB g.on x = r := ⟨_, rfl⟩
            have hbit := HAB.out
            rw [hr] at hbit
            have HR2 := Lib.hid hr
            have hxs := looks_short hx
            have hal := HAL.out
            have hj1 := fun (W : World) => run_string_add_lists (P := Tryz.prog) W acc [32] (by omega) (by simp)
            have hj2 := fun (W : World) => run_string_add_lists (P := Tryz.prog) W (acc ++ [32]) x (by simp; omega) (by omega)
            have HXS := Lib.hid hxs
            have C0 := Lib.hid (on_cell wr hx)
            clear hr hxs hal hx
            cases r
            · go_wp2_with fail
              go_roundw
              case rel => exact ⟨k + 1, acc, by omega, by go_num, rfl, by rw [HA.out, HST.out, HR2.out]; simp, by have := HAL.out; omega, HB.out, HQ.out⟩
              case measure => simp [intOf]; omega
            · go_wp2_with fail
              refine (ron_any _).mono ?_
              rintro e w5 ⟨rfl, rfl⟩
              have c0 := C0.out
              go_wp2_with fail
              go_roundw
              case rel =>
                refine ⟨k + 1, acc ++ 32 :: x, by omega, by go_num, rfl, ?_, ?_, HB.out.alloc HB.out.size _, Blk.alloc HQ.out _⟩
                · rw [HA.out, HST.out, HR2.out]
                  simp [wordsT]
                · have h1 := HAL.out
                  have h2 := HXS.out
                  simp only [List.length_append, List.length_cons]
                  omega
              case measure => simp [intOf]; omega
          · obtain rfl : k = 5 := by omega
            have HF : Hid (acc ++ [10] = S1 ++ L2) := Lib.hid (by rw [HE2.out, HA.out]; rfl)
            have hal := HAL.out
            have hj := fun (W : World) => run_string_add_lists (P := Tryz.prog) W acc [10] (by omega) (by simp)
            clear hal a4
            go_wp2_with fail
            go_meet
            rw [← HF.out]
            exact ⟨rfl, HB.out, HQ.out⟩
    case rest =>
      obtain ⟨rfl, hb, hq⟩ := hcut
      generalize wc = w3 at *
      have B3 := Lib.hid hb
      have Q3 := Lib.hid hq
      clear hb hq B2 Q2 a4 hl2 HL2
      obtain ⟨S2, hS2⟩ : ∃ S2, S1 ++ L2 = S2 := ⟨_, rfl⟩
      have s2 : S2.length ≤ 3000 := by rw [← hS2, List.length_append]; omega
      have HT2 : Hid (R = (S2 ++ L3 ++ L4 ++ L5 ++ L6, 0)) := Lib.hid (by rw [HT1.out, ← hS2])
      rw [hS2]
      clear hS2 s1 e2 HT1 Hon
      have hl3 := Blk.lt Q3.out
      have a5 : w3.cell? ⟨w.heap.size, 5, none⟩ = some (.slice A g.drain.length c) := Blk.cell Q3.out 5
      go_upto_if 47 with fail
      go_cut [47, 5] (fun _ v wc => v = strV (S2 ++ L3) ∧ Below w.heap.size w wc ∧ Blk wc w.heap.size (cellsG g A c) 25)
      case first =>
        clear K4 K5 HL6 HT2 e4 e5
        by_cases h0 : 0 < g.drain.length
        case neg =>
          have h0b : decide (0 < g.drain.length) = false := decide_eq_false h0
          have h0i : ¬ (0 : Int) < (g.drain.length : Int) := by omega
          have HE2 : Hid (S2 ++ L3 = S2) := Lib.hid (by rw [HL3.out, h0b]; simp)
          clear e3 HL3 s2
          go_wp2_with fail
          go_meet
          rw [HE2.out]
          exact ⟨rfl, B3.out, Q3.out⟩
        case pos =>
          have h0b : decide (0 < g.drain.length) = true := decide_eq_true h0
          have h0i : (0 : Int) < (g.drain.length : Int) := by omega
          have HE2 : Hid (S2 ++ L3 = S2 ++ [100, 114, 97, 105, 110] ++ wordsT g.drain ++ [10]) := Lib.hid (by rw [HL3.out, h0b]; simp only [if_true, List.append_assoc])
          have hj := fun (W : World) => run_string_add_lists (P := Tryz.prog) W S2 [100, 114, 97, 105, 110] (by omega) (by simp)
          have Hs2 := Lib.hid s2
          have H8 := Lib.hid hd8
          clear e3 HL3 s2 hd8
          go_wp2_with fail
          clear hj a5 h0b h0i h0
          generalize w3 = W3 at B3 Q3 hl3 ⊢
          go_loopw [7, 5] (fun i v wr => ∃ (k : Nat) (acc : List UInt8), k ≤ g.drain.length ∧ i = .int .i64 k ∧ v = strV acc ∧ acc = S2 ++ [100, 114, 97, 105, 110] ++ wordsT (g.drain.take k) ∧ acc.length ≤ 3005 + 20 * k ∧ Below w.heap.size w wr ∧ Blk wr w.heap.size (cellsG g A c) 25) (fun i _ _ => g.drain.length - (intOf i).toNat)
          case atStart => exact ⟨0, S2 ++ [100, 114, 97, 105, 110], by omega, rfl, rfl, by simp [wordsT], by have := Hs2.out; simp; omega, B3.out, Q3.out⟩
          case round =>
            obtain ⟨k, acc, hk, rfl, rfl, hacc, hal, hbw, hqw⟩ := hrel
            have HA := Lib.hid hacc
            have HB := Lib.hid hbw
            have HQ := Lib.hid hqw
            have HAL := Lib.hid hal
            have a5 : wr.cell? ⟨w.heap.size, 5, none⟩ = some (.slice A g.drain.length c) := Blk.cell HQ.out 5
            clear hacc hbw hqw hal
            have h8 := H8.out
            by_cases hlt : k < g.drain.length
            · obtain ⟨x, hx⟩ : ∃ x, g.drain[k]? = some x := ⟨g.drain[k], List.getElem?_eq_getElem hlt⟩
              obtain ⟨b, o, hA, hbl, c0⟩ := strC_at (HN.out.below HB.out).cells hx
              subst hA
              have HST := Lib.hid (wordsT_take hx)
              have hxs := (Hn15.out x (List.mem_of_getElem? hx)).2
              have k0 : (0 : Int) ≤ (k : Int) := by omega
              have k1 : (k : Int) < (g.drain.length : Int) := by omega
              have hal := HAL.out
              have hj1 := fun (W : World) => run_string_add_lists (P := Tryz.prog) W acc [32] (by omega) (by simp)
              have hj2 := fun (W : World) => run_string_add_lists (P := Tryz.prog) W (acc ++ [32]) x (by simp; omega) (by omega)
              have HXS := Lib.hid hxs
              clear hxs hal hx h8
              go_wp2_with fail
              go_roundw
              case rel =>
                refine ⟨k + 1, acc ++ 32 :: x, by omega, by go_num, rfl, ?_, ?_, HB.out, HQ.out⟩
                · rw [HA.out, HST.out]
                  simp
                · have h1 := HAL.out
                  have h2 := HXS.out
                  simp only [List.length_append, List.length_cons]
                  omega
              case measure => simp [intOf]; omega
            · obtain rfl : k = g.drain.length := by omega
              have HF : Hid (acc ++ [10] = S2 ++ L3) := Lib.hid (by rw [HE2.out, HA.out, List.take_length])
              have hal := HAL.out
              have hj := fun (W : World) => run_string_add_lists (P := Tryz.prog) W acc [10] (by omega) (by simp)
              clear hal h8
              go_wp2_with fail
              go_meet
              rw [← HF.out]
              exact ⟨rfl, HB.out, HQ.out⟩
      case rest =>
        obtain ⟨rfl, hb, hq⟩ := hcut
        generalize wc = w4 at *
        have B4 := Lib.hid hb
        have Q4 := Lib.hid hq
        clear hb hq B3 Q3 a5 hl3 HL3 Hn15 hd8 hcl hcm
        obtain ⟨S3, hS3⟩ : ∃ S3, S2 ++ L3 = S3 := ⟨_, rfl⟩
        have s3 : S3.length ≤ 4000 := by rw [← hS3, List.length_append]; omega
        have HT3 : Hid (R = (S3 ++ L4 ++ L5 ++ L6, 0)) := Lib.hid (by rw [HT2.out, ← hS3])
        rw [hS3]
        clear hS3 s2 e3 HT2
        have hl4 := Blk.lt Q4.out
        go_upto_region 20 with fail
        go_cut [5] (fun v wc => SharesCut w4 (S3 ++ L4 ++ L5) v wc)
        case first =>
          have D0 : Hid (Below w4.heap.size w4 w4.drew) := Lib.hid ((Below.refl _ _).drew)
          have E4 := Lib.hid (HE.out.below B4.out)
          have hj1 := fun (W : World) => run_string_add_lists (P := Tryz.prog) W S3 L4 (by omega) (by omega)
          have hj2 := fun (W : World) => run_string_add_lists (P := Tryz.prog) W (S3 ++ L4) L5 (by rw [List.length_append]; omega) (by omega)
          clear s3 e4 e5 HL6 HT3
          have T1 : w4.drew.cell? ⟨w.heap.size, 6, none⟩ = some (.int .i64 g.mx) ∧ w4.drew.cell? ⟨w.heap.size, 7, none⟩ = some (.int .i64 g.tr) := ⟨Blk.cell (show Blk w4.drew _ _ _ from Q4.out) 6, Blk.cell (show Blk w4.drew _ _ _ from Q4.out) 7⟩
          have T0 : w4.cell? ⟨w.heap.size, 6, none⟩ = some (.int .i64 g.mx) ∧ w4.cell? ⟨w.heap.size, 7, none⟩ = some (.int .i64 g.tr) := ⟨Blk.cell Q4.out 6, Blk.cell Q4.out 7⟩
          go_region_held3 (fun w' => w'.cell? ⟨w.heap.size, 6, none⟩ = some (.int .i64 g.mx) ∧ w'.cell? ⟨w.heap.size, 7, none⟩ = some (.int .i64 g.tr))
            (first | (with_reducible exact T1) | (with_reducible exact T0) | (with_reducible exact T3) | (with_reducible exact T4) | go_keep)
            (first
              | (go_at_call 31; (with_reducible refine (K4.out _ (E4.out.tab.below D0.out)).mono ?_); rintro e w5 ⟨rfl, hb3⟩; have D3 : Hid (Below w4.heap.size w4 w5) := Lib.hid (D0.out.trans (hb3.mono D0.out.size)); have T3 : w5.cell? ⟨w.heap.size, 6, none⟩ = some (.int .i64 g.mx) ∧ w5.cell? ⟨w.heap.size, 7, none⟩ = some (.int .i64 g.tr) := ⟨Blk.cell (Blk.below Q4.out D3.out hl4) 6, Blk.cell (Blk.below Q4.out D3.out hl4) 7⟩; clear hb3)
              | (go_at_call 31; (with_reducible refine (K5.out _ (E4.out.tab.below D3.out)).mono ?_); rintro e w6 ⟨rfl, hb4⟩; have D4 : Hid (Below w4.heap.size w4 w6) := Lib.hid (D3.out.trans (hb4.mono D3.out.size)); have T4 : w6.cell? ⟨w.heap.size, 6, none⟩ = some (.int .i64 g.mx) ∧ w6.cell? ⟨w.heap.size, 7, none⟩ = some (.int .i64 g.tr) := ⟨Blk.cell (Blk.below Q4.out D4.out hl4) 6, Blk.cell (Blk.below Q4.out D4.out hl4) 7⟩; clear hb4)
              | skip)
          all_goals
            go_wp2_with fail
            go_meet
            exact ⟨by first | rfl | (simp only [List.append_assoc]), by first | exact D4.out | exact D4.out.drew⟩
        case rest =>
          obtain ⟨rfl, hb⟩ := hcut
          generalize wc = w5 at *
          have B5 := Lib.hid (B4.out.trans (hb.mono B4.out.size))
          have Q5 := Lib.hid (Blk.below Q4.out hb hl4)
          clear hb B4 Q4 K4 K5 hl4
          have a8 : w5.cell? ⟨w.heap.size, 8, none⟩ = some (.bool g.rb) := Blk.cell Q5.out 8
          obtain ⟨S5, hS5⟩ : ∃ S5, S3 ++ L4 ++ L5 = S5 := ⟨_, rfl⟩
          have s5 : S5.length ≤ 6000 := by rw [← hS5, List.length_append, List.length_append]; omega
          have HT5 : Hid (R = (S5 ++ L6, 0)) := Lib.hid (by rw [HT3.out, ← hS5])
          rw [hS5]
          have hj := fun (W : World) => run_string_add_lists (P := Tryz.prog) W S5 [114, 111, 108, 108, 98, 97, 99, 107, 10] (by omega) (by simp)
          clear hS5 s3 e4 e5 HT3 s5
          obtain ⟨rb, hrb⟩ : ∃ rb, g.rb = rb := ⟨_, rfl⟩
          rw [hrb] at a8 HL6
          clear hrb
          cases rb
          · have HE2 : Hid (R = (S5, 0)) := Lib.hid (by rw [HT5.out, HL6.out]; simp)
            go_wp2_with fail
            go_ret2
            rw [HE2.out]
            exact ⟨rfl, B5.out⟩
          · have HE2 : Hid (R = (S5 ++ [114, 111, 108, 108, 98, 97, 99, 107, 10], 0)) := Lib.hid (by rw [HT5.out, HL6.out]; simp)
            go_wp2_with fail
            go_ret2
            rw [HE2.out]
            exact ⟨rfl, B5.out⟩

theorem names_take {w : World} {A : Option Addr} {c : Nat} {l : List (List UInt8)} (h : NamesAt w A c l) (m : Nat) : NamesAt w A c (l.take m) :=
  ⟨(fun j y hj => by
    have e : strC (l.take m) = (strC l).take m := by simp [strC]
    rw [e, List.getElem?_take] at hj
    split at hj
    · exact h.cells j y hj
    · cases hj), Nat.le_trans (by rw [List.length_take]; omega) h.le, h.most, fun x hx => h.big x (List.mem_of_mem_take hx)⟩
theorem gap9c {w : World} {b i : Nat} {H : Pol} {B : Option Addr} {d : Nat} {t : List UInt8} (hb : Blk w b (cellsG H B d) 25) (hc : w.cell? ⟨b, i, none⟩ = some (strV t)) : False := by
  by_cases hi : i < 9
  · obtain rfl | rfl | rfl | rfl | rfl | rfl | rfl | rfl | rfl : i = 0 ∨ i = 1 ∨ i = 2 ∨ i = 3 ∨ i = 4 ∨ i = 5 ∨ i = 6 ∨ i = 7 ∨ i = 8 := by omega
    · have := Blk.cell hb 0; rw [this] at hc; cases hc
    · have := Blk.cell hb 1; rw [this] at hc; cases hc
    · have := Blk.cell hb 2; rw [this] at hc; cases hc
    · have := Blk.cell hb 3; rw [this] at hc; cases hc
    · have := Blk.cell hb 4; rw [this] at hc; cases hc
    · have := Blk.cell hb 5; rw [this] at hc; cases hc
    · have := Blk.cell hb 6; rw [this] at hc; cases hc
    · have := Blk.cell hb 7; rw [this] at hc; cases hc
    · have := Blk.cell hb 8; rw [this] at hc; cases hc
  · unfold Blk at hb
    have hs : (cellsG H B d)[i]? = none := Array.getElem?_eq_none (by simp [cellsG]; omega)
    simp [World.cell?, hb, hs] at hc
/-- What the law's first step leaves: its own copy of the names. -/
def CopyCut (w : World) (b : Nat) (G : Pol) (wc : World) : Prop := ∃ B d, Blk wc b (cellsG G B d) 25 ∧ NamesAt wc B d G.drain ∧ Below b w wc
def FlagCut (W : World) (G : Pol) (v : Value) (wc : World) : Prop := ∃ r, v = .bool r ∧ (r = true → 0 < G.drain.length) ∧ wc = W
def NameCut (W : World) (v : Value) (wc : World) : Prop := ∃ nm, v = strV nm ∧ nm.length ≤ 9223372036854775807 ∧ wc = W

set_option maxRecDepth 100000 in
set_option maxHeartbeats 4000000 in
theorem checks_law (g : Pol) (A : Option Addr) (c : Nat) (t : List UInt8) (w : World) (he : Env w) (h : NamesAt w A c g.drain) (hA : A = none → g.drain = [] ∧ c = 0) (ht : t.length ≤ 9223372036854775807) :
    Calls Tryz.prog 3 #[valG g A c, strV t] w fun e w' => e = .returned (.bool true) ∧ Below w.heap.size w w' := by
  have HE := Lib.hid he
  have HN := Lib.hid h
  obtain ⟨m, hm⟩ : ∃ m, min g.drain.length 12 = m := ⟨_, rfl⟩
  have hml : m ≤ g.drain.length := by omega
  have hm12 : m ≤ 12 := by omega
  have hcl := h.le
  have hcm := h.most
  have hmi : min (g.drain.length : Int) 12 = (m : Int) := by omega
  obtain ⟨i0, hi0, hz0, hz1, hz2⟩ := info_parts gstr_info
  have B0 : Hid (Below w.heap.size w (w.alloc (.cells (cellsG g A c) 25))) := Lib.hid (below1 w _)
  have Q0 : Hid (Blk (w.alloc (.cells (cellsG g A c) 25)) w.heap.size (cellsG g A c) 25) := Lib.hid (Blk.new w _ _)
  obtain ⟨G, hG⟩ : ∃ G : Pol, { g with drain := g.drain.take m } = G := ⟨_, rfl⟩
  have HG := Lib.hid hG
  have hGl : G.drain.length = m := by rw [← hG]; simp; omega
  have HGL := Lib.hid hGl
  have HAn : Hid (A = none → g.drain = [] ∧ c = 0) := Lib.hid hA
  clear h hA he hG hGl hm
  go_enter Tryz.func3, Tryz.ntmps3
  go_upto_region 1 with fail
  change Code.wp _ _ _ _ (w.alloc (.cells (cellsG g A c) 25))
  generalize (w.alloc (.cells (cellsG g A c) 25)) = W0 at B0 Q0 ⊢
  have hl0 := Blk.lt Q0.out
  have HN0 := Lib.hid (HN.out.below B0.out)
  go_upto_region 2 with fail
  go_cut [18] (fun _ wc => CopyCut w w.heap.size G wc)
  case first =>
    have m0 : (0 : Int) ≤ (m : Int) := by omega
    have m1 : (m : Int) ≤ (g.drain.length : Int) := by omega
    have m2 : (m : Int) ≤ (c : Int) := by omega
    have a5 : W0.cell? ⟨w.heap.size, 5, none⟩ = some (.slice A g.drain.length c) := Blk.cell Q0.out 5
    have f5 : W0.frozen? ⟨w.heap.size, 5, none⟩ = false := Blk.free Q0.out 5
    cases A with
    | none =>
      obtain ⟨e1, e2⟩ := HAn.out rfl
      have hl00 : g.drain.length = 0 := by rw [e1]; rfl
      obtain rfl : m = 0 := by omega
      subst e2
      have HGd : Hid (G.drain = []) := Lib.hid (List.length_eq_zero_iff.1 HGL.out)
      rw [hl00] at a5 hmi
      have hmi2 : min (0 : Int) 12 = 0 := by omega
      clear e1 HAn hmi hml hcl m1 hl00
      go_wp2_with (at_builtin; refine wpList_append_own_none rfl _ _ 23 rfl w.heap.size 9 i0 1 Tryz.underlying23 hi0 (.slice none 0 0) 0 [] rfl (World.ownsRow_nil _ _ _ _) rfl ?_)
      go_meet
      refine ⟨none, 0, ?_, ?_, ?_⟩
      · have := Blk.set Q0.out 5 (.slice none 0 0)
        rw [← HG.out]
        exact this
      · rw [HGd.out]
        exact ⟨La.SlAt.nil _ _, Nat.le_refl _, by omega, fun x hx => by cases hx⟩
      · exact B0.out.setCell (p := ⟨w.heap.size, 5, none⟩) (Nat.le_refl _) _
    | some ad =>
      have hnews : ∀ j u, (strC (g.drain.take m))[j]? = some u → W0.cell? (ad.add j) = some u := fun j u hj => by
        have hh := HN0.out.cells
        have e : strC (g.drain.take m) = (strC g.drain).take m := by simp [strC]
        rw [e, List.getElem?_take] at hj
        split at hj
        · obtain ⟨b, o, hb, hc⟩ := hh j u hj
          cases hb
          unfold Addr.add
          split
          · rename_i h0
            subst h0
            exact hc
          · exact hc
        · cases hj
      have Hnews := Lib.hid hnews
      have hlen : (strC (g.drain.take m)).length = m * 1 := by simp [strC]; omega
      clear hnews
      go_wp2_with (at_builtin; refine wpList_append_own _ rfl _ _ 23 rfl w.heap.size 9 i0 (.string ⟨#[]⟩) 1 16 Tryz.underlying23 hi0 hz0 hz1 hz2 rfl (by decide) _ 0 [] rfl (World.ownsRow_nil _ _ _ _) ad m c (strC (g.drain.take m)) rfl hlen ?c1 ?c2 ?c3 ?c4 ?c5 ?_)
      case c1 => exact Hnews.out
      case c2 => exact fun u hu => by obtain ⟨x, _, rfl⟩ := List.mem_map.1 (show u ∈ (g.drain.take m).map strV from hu); rfl
      case c3 => unfold maxLen; omega
      case c4 => omega
      case c5 => exact Nat.le_of_lt hl0
      intro v' w2 hown' hgrow' _
      have hee : (strC g.drain).take m = strC (g.drain.take m) := by simp [strC]
      replace hown' : w2.ownsRow w.heap.size 9 1 v' m (strC (g.drain.take m)) := by rw [← hee]; exact hown'
      obtain ⟨A', c', rfl, hc1, hc2⟩ := Sc.own_sliceS hown'
      have hnb : (Value.slice none 0 0).ownBlock = none := rfl
      rw [hnb] at hgrow'
      have Q2 : Hid (Blk w2 w.heap.size (cellsG g (some ad) c) 25) := Lib.hid (Blk.kept Q0.out hgrow' (fun e => by cases e))
      have B2 : Hid (Below w.heap.size w w2) := Lib.hid (below_grown B0.out (Nat.le_refl _) hgrow' (fun q hq => by cases hq))
      have O2 := Lib.hid hown'
      have a5' : w2.cell? ⟨w.heap.size, 5, none⟩ = some (.slice (some ad) g.drain.length c) := Blk.cell Q2.out 5
      have f5' : w2.frozen? ⟨w.heap.size, 5, none⟩ = false := Blk.free Q2.out 5
      clear hown' hgrow' Hnews a5 f5 hlen hnb
      go_wp2_with fail
      go_meet
      refine ⟨A', c', ?_, ?_, ?_⟩
      · have := Blk.set Q2.out 5 (.slice A' m c')
        rw [← HG.out]
        unfold cellsG
        simp only [List.length_take]
        rw [show min m g.drain.length = m by omega]
        exact this
      · have K : KeepR w.heap.size w2 _ := (KeepR.refl w.heap.size w2).setCell 5 (.slice A' m c')
        rw [← HG.out]
        refine ⟨fun j y hj => ?_, by show (g.drain.take m).length ≤ c'; rw [List.length_take]; omega, hc2, fun x hx => HN.out.big x (List.mem_of_mem_take hx)⟩
        obtain ⟨b, o, hA, hc⟩ := Sc.own_slat O2.out j y hj
        refine ⟨b, o, hA, K.cell hc (fun e => ?_)⟩
        subst e
        obtain ⟨t7, ht7⟩ : ∃ t, y = strV t := by
          simp only [strC, List.getElem?_map, Option.map_eq_some_iff] at hj
          obtain ⟨t, _, h⟩ := hj
          exact ⟨t, h.symm⟩
        rw [ht7] at hc
        exact gap9c Q2.out hc
      · exact B2.out.setCell (p := ⟨w.heap.size, 5, none⟩) (Nat.le_refl _) _
  case rest =>
    obtain ⟨B, d, hq, hn, hb⟩ := hcut
    generalize wc = w1 at *
    have Q1 := Lib.hid hq
    have N1 := Lib.hid hn
    have B1 := Lib.hid hb
    clear hq hn hb Q0 B0 HN0 hl0 HAn HG HGL hmi hml hm12 hcl hcm hi0 hz0 hz1 hz2
    have hl1 := Blk.lt Q1.out
    have KP : Hid (∀ w', Below w.heap.size w w' → NamesAt w' B d G.drain → Calls Tryz.prog 9 #[.agg #[.int .i64 G.l0, .int .i64 G.l1, .int .i64 G.h0, .int .i64 G.h1, .int .i64 G.on, .slice B G.drain.length d, .int .i64 G.mx, .int .i64 G.tr, .bool G.rb]] w' fun e w'' => e = .returned (.tuple #[strV (printG G).1, .int .i64 (printG G).2]) ∧ Below w'.heap.size w' w'') := Lib.hid (fun w' hb hn => print_any G B d w' (HE.out.below hb) hn)
    have KR : Hid (∀ w', Below w.heap.size w w' → NamesAt w' B d G.drain → Calls Tryz.prog 10 #[.agg #[.int .i64 G.l0, .int .i64 G.l1, .int .i64 G.h0, .int .i64 G.h1, .int .i64 G.on, .slice B G.drain.length d, .int .i64 G.mx, .int .i64 G.tr, .bool G.rb]] w' fun e w'' => e = .returned (.tuple #[strV (printG G).1, .int .i64 (printG G).2]) ∧ Below w'.heap.size w' w'') := Lib.hid (fun w' hb hn => rprint_any G B d w' (HE.out.below hb) hn)
    generalize printG G = T at KP KR
    obtain ⟨T, e0⟩ := T
    simp only at KP KR
    have a0 : w1.cell? ⟨w.heap.size, 0, none⟩ = some (.int .i64 G.l0) := Blk.cell Q1.out 0
    have a1 : w1.cell? ⟨w.heap.size, 1, none⟩ = some (.int .i64 G.l1) := Blk.cell Q1.out 1
    have a2 : w1.cell? ⟨w.heap.size, 2, none⟩ = some (.int .i64 G.h0) := Blk.cell Q1.out 2
    have a3 : w1.cell? ⟨w.heap.size, 3, none⟩ = some (.int .i64 G.h1) := Blk.cell Q1.out 3
    have a4 : w1.cell? ⟨w.heap.size, 4, none⟩ = some (.int .i64 G.on) := Blk.cell Q1.out 4
    have a5 : w1.cell? ⟨w.heap.size, 5, none⟩ = some (.slice B G.drain.length d) := Blk.cell Q1.out 5
    have a6 : w1.cell? ⟨w.heap.size, 6, none⟩ = some (.int .i64 G.mx) := Blk.cell Q1.out 6
    have a7 : w1.cell? ⟨w.heap.size, 7, none⟩ = some (.int .i64 G.tr) := Blk.cell Q1.out 7
    have a8 : w1.cell? ⟨w.heap.size, 8, none⟩ = some (.bool G.rb) := Blk.cell Q1.out 8
    go_wp2_with fail
    refine (KP.out _ B1.out N1.out).mono ?_
    rintro e w2 ⟨rfl, hb⟩
    have B2 := Lib.hid (B1.out.trans (hb.mono B1.out.size))
    have Q2 := Lib.hid (Blk.below Q1.out hb hl1)
    have N2 := Lib.hid (N1.out.below hb)
    clear hb KP Q1 N1 B1 a0 a1 a2 a3 a4 a5 a6 a7 a8
    have hl2 := Blk.lt Q2.out
    have a0 : w2.cell? ⟨w.heap.size, 0, none⟩ = some (.int .i64 G.l0) := Blk.cell Q2.out 0
    have a1 : w2.cell? ⟨w.heap.size, 1, none⟩ = some (.int .i64 G.l1) := Blk.cell Q2.out 1
    have a2 : w2.cell? ⟨w.heap.size, 2, none⟩ = some (.int .i64 G.h0) := Blk.cell Q2.out 2
    have a3 : w2.cell? ⟨w.heap.size, 3, none⟩ = some (.int .i64 G.h1) := Blk.cell Q2.out 3
    have a4 : w2.cell? ⟨w.heap.size, 4, none⟩ = some (.int .i64 G.on) := Blk.cell Q2.out 4
    have a5 : w2.cell? ⟨w.heap.size, 5, none⟩ = some (.slice B G.drain.length d) := Blk.cell Q2.out 5
    have a6 : w2.cell? ⟨w.heap.size, 6, none⟩ = some (.int .i64 G.mx) := Blk.cell Q2.out 6
    have a7 : w2.cell? ⟨w.heap.size, 7, none⟩ = some (.int .i64 G.tr) := Blk.cell Q2.out 7
    have a8 : w2.cell? ⟨w.heap.size, 8, none⟩ = some (.bool G.rb) := Blk.cell Q2.out 8
    go_wp2_with fail
    refine (KR.out _ B2.out N2.out).mono ?_
    rintro e w3 ⟨rfl, hb⟩
    have B3 := Lib.hid (B2.out.trans (hb.mono B2.out.size))
    have Q3 := Lib.hid (Blk.below Q2.out hb hl2)
    have N3 := Lib.hid (N2.out.below hb)
    clear hb KR Q2 N2 B2 a0 a1 a2 a3 a4 a5 a6 a7 a8 hl1 hl2
    have hl3 := Blk.lt Q3.out
    have a5 : w3.cell? ⟨w.heap.size, 5, none⟩ = some (.slice B G.drain.length d) := Blk.cell Q3.out 5
    go_upto_region 5 with fail
    go_cut [39] from 30 to 39 (fun v wc => FlagCut w3 G v wc)
    case first =>
      by_cases h0 : 0 < G.drain.length
      · have h0b : decide (0 < G.drain.length) = true := decide_eq_true h0
        have h0i : (0 : Int) < (G.drain.length : Int) := by omega
        have Ht := Lib.hid ht
        obtain ⟨r, hr⟩ : ∃ r, ((t.length : Int) % 2 == 0) = r := ⟨_, rfl⟩
        clear ht
        go_wp2_with fail
        go_meet
        exact ⟨_, rfl, fun _ => h0, rfl⟩
      · have h0b : decide (0 < G.drain.length) = false := decide_eq_false h0
        have h0i : ¬ (0 : Int) < (G.drain.length : Int) := by omega
        have Ht := Lib.hid ht
        clear h0 ht
        go_wp2_with fail
        go_meet
        exact ⟨false, rfl, (fun h => by cases h), rfl⟩
    case rest =>
    obtain ⟨fl, rfl, hfl, rfl⟩ := hcut
    generalize wc = w4 at *
    go_upto_if 39 with fail
    go_cut [39, 1] (fun _ v wc => NameCut w4 v wc)
    case first =>
      have Ht := Lib.hid ht
      clear ht
      cases fl
      · go_wp2_with fail
        go_meet
        exact ⟨t, rfl, Ht.out, rfl⟩
      · have h0 := hfl rfl
        obtain ⟨x, hx⟩ : ∃ x, G.drain[0]? = some x := ⟨G.drain[0], List.getElem?_eq_getElem h0⟩
        obtain ⟨b, o, hA, hbl, c0⟩ := strC_at N3.out.cells hx
        rw [Nat.add_zero] at c0
        subst hA
        have HBIG := Lib.hid (N3.out.big x (List.mem_of_getElem? hx))
        have h0i : (0 : Int) < (G.drain.length : Int) := by omega
        clear hx hfl
        go_wp2_with fail
        go_meet
        exact ⟨x, rfl, HBIG.out, rfl⟩
    case rest =>
      obtain ⟨nm, rfl, hnm, rfl⟩ := hcut
      generalize wc = w5 at *
      have B5 := B3
      have Q5 := Q3
      have N5 := N3
      clear B3 Q3 N3 a5 hl3 hfl ht
      have hl5 := Blk.lt Q5.out
      have KC : Hid (∀ w', Below w5.heap.size w5 w' → Calls Tryz.prog 11 #[.agg #[.int .i64 G.l0, .int .i64 G.l1, .int .i64 G.h0, .int .i64 G.h1, .int .i64 G.on, .slice B G.drain.length d, .int .i64 G.mx, .int .i64 G.tr, .bool G.rb]] w' fun e w'' => e = .returned (.int .i64 (checkG G)) ∧ Below w'.heap.size w' w'') := Lib.hid (fun w' hb => gcheck_any G B d w' (N5.out.below hb))
      have KX : Hid (∀ w', Below w5.heap.size w5 w' → Calls Tryz.prog 12 #[.agg #[.int .i64 G.l0, .int .i64 G.l1, .int .i64 G.h0, .int .i64 G.h1, .int .i64 G.on, .slice B G.drain.length d, .int .i64 G.mx, .int .i64 G.tr, .bool G.rb]] w' fun e w'' => e = .returned (.int .i64 (checkG G)) ∧ Below w'.heap.size w' w'') := Lib.hid (fun w' hb => rcheck_any G B d w' (N5.out.below hb))
      have KD : Hid (∀ w', Below w5.heap.size w5 w' → Calls Tryz.prog 13 #[.agg #[.int .i64 G.l0, .int .i64 G.l1, .int .i64 G.h0, .int .i64 G.h1, .int .i64 G.on, .slice B G.drain.length d, .int .i64 G.mx, .int .i64 G.tr, .bool G.rb], strV nm] w' fun e w'' => e = .returned (.bool (decide (nm ∈ G.drain))) ∧ Below w'.heap.size w' w'') := Lib.hid (fun w' hb => drains_any G B d nm w' (N5.out.below hb) hnm)
      have KE : Hid (∀ w', Below w5.heap.size w5 w' → Calls Tryz.prog 14 #[.agg #[.int .i64 G.l0, .int .i64 G.l1, .int .i64 G.h0, .int .i64 G.h1, .int .i64 G.on, .slice B G.drain.length d, .int .i64 G.mx, .int .i64 G.tr, .bool G.rb], strV nm] w' fun e w'' => e = .returned (.bool (decide (nm ∈ G.drain))) ∧ Below w'.heap.size w' w'') := Lib.hid (fun w' hb => rdrains_any G B d nm w' (N5.out.below hb))
      have KW : Hid (∀ w', Below w5.heap.size w5 w' → Calls Tryz.prog 15 #[] w' fun e w'' => e = .returned (.bool true) ∧ Below w'.heap.size w' w'') := Lib.hid (fun w' hb => gworks_any w' ((HE.out.below B5.out).below hb))
      generalize checkG G = cg at KC KX
      generalize decide (nm ∈ G.drain) = dz at KD KE
      have b1 : (cg == cg) = true := by simp
      have b2 : (T == T) = true := by simp
      have b3 : (e0 == e0) = true := by simp
      have b4 : (dz == dz) = true := by simp
      clear hnm
      have D0 : Hid (Below w5.heap.size w5 w5.drew) := Lib.hid ((Below.refl _ _).drew)
      have S1 : w5.drew.cell? ⟨w.heap.size, 0, none⟩ = some (.int .i64 G.l0) ∧ w5.drew.cell? ⟨w.heap.size, 1, none⟩ = some (.int .i64 G.l1) ∧ w5.drew.cell? ⟨w.heap.size, 2, none⟩ = some (.int .i64 G.h0) ∧ w5.drew.cell? ⟨w.heap.size, 3, none⟩ = some (.int .i64 G.h1) ∧ w5.drew.cell? ⟨w.heap.size, 4, none⟩ = some (.int .i64 G.on) ∧ w5.drew.cell? ⟨w.heap.size, 5, none⟩ = some (.slice B G.drain.length d) ∧ w5.drew.cell? ⟨w.heap.size, 6, none⟩ = some (.int .i64 G.mx) ∧ w5.drew.cell? ⟨w.heap.size, 7, none⟩ = some (.int .i64 G.tr) ∧ w5.drew.cell? ⟨w.heap.size, 8, none⟩ = some (.bool G.rb) := ⟨Blk.cell (show Blk w5.drew _ _ _ from Q5.out) 0, Blk.cell (show Blk w5.drew _ _ _ from Q5.out) 1, Blk.cell (show Blk w5.drew _ _ _ from Q5.out) 2, Blk.cell (show Blk w5.drew _ _ _ from Q5.out) 3, Blk.cell (show Blk w5.drew _ _ _ from Q5.out) 4, Blk.cell (show Blk w5.drew _ _ _ from Q5.out) 5, Blk.cell (show Blk w5.drew _ _ _ from Q5.out) 6, Blk.cell (show Blk w5.drew _ _ _ from Q5.out) 7, Blk.cell (show Blk w5.drew _ _ _ from Q5.out) 8⟩
      have S0 : w5.cell? ⟨w.heap.size, 0, none⟩ = some (.int .i64 G.l0) ∧ w5.cell? ⟨w.heap.size, 1, none⟩ = some (.int .i64 G.l1) ∧ w5.cell? ⟨w.heap.size, 2, none⟩ = some (.int .i64 G.h0) ∧ w5.cell? ⟨w.heap.size, 3, none⟩ = some (.int .i64 G.h1) ∧ w5.cell? ⟨w.heap.size, 4, none⟩ = some (.int .i64 G.on) ∧ w5.cell? ⟨w.heap.size, 5, none⟩ = some (.slice B G.drain.length d) ∧ w5.cell? ⟨w.heap.size, 6, none⟩ = some (.int .i64 G.mx) ∧ w5.cell? ⟨w.heap.size, 7, none⟩ = some (.int .i64 G.tr) ∧ w5.cell? ⟨w.heap.size, 8, none⟩ = some (.bool G.rb) := ⟨Blk.cell Q5.out 0, Blk.cell Q5.out 1, Blk.cell Q5.out 2, Blk.cell Q5.out 3, Blk.cell Q5.out 4, Blk.cell Q5.out 5, Blk.cell Q5.out 6, Blk.cell Q5.out 7, Blk.cell Q5.out 8⟩
      go_wp2_with fail
      go_region_held3 (fun w' => w'.cell? ⟨w.heap.size, 0, none⟩ = some (.int .i64 G.l0) ∧ w'.cell? ⟨w.heap.size, 1, none⟩ = some (.int .i64 G.l1) ∧ w'.cell? ⟨w.heap.size, 2, none⟩ = some (.int .i64 G.h0) ∧ w'.cell? ⟨w.heap.size, 3, none⟩ = some (.int .i64 G.h1) ∧ w'.cell? ⟨w.heap.size, 4, none⟩ = some (.int .i64 G.on) ∧ w'.cell? ⟨w.heap.size, 5, none⟩ = some (.slice B G.drain.length d) ∧ w'.cell? ⟨w.heap.size, 6, none⟩ = some (.int .i64 G.mx) ∧ w'.cell? ⟨w.heap.size, 7, none⟩ = some (.int .i64 G.tr) ∧ w'.cell? ⟨w.heap.size, 8, none⟩ = some (.bool G.rb))
        (first | (with_reducible exact S1) | (with_reducible exact S0) | (with_reducible exact T6) | (with_reducible exact T7) | (with_reducible exact T8) | (with_reducible exact T9) | (with_reducible exact T10) | go_keep)
        (first
          | (go_at_call 11; (with_reducible refine (KC.out _ D0.out).mono ?_); rintro e w6 ⟨rfl, hb6⟩; have D6 : Hid (Below w5.heap.size w5 w6) := Lib.hid (D0.out.trans (hb6.mono D0.out.size)); have T6 : w6.cell? ⟨w.heap.size, 0, none⟩ = some (.int .i64 G.l0) ∧ w6.cell? ⟨w.heap.size, 1, none⟩ = some (.int .i64 G.l1) ∧ w6.cell? ⟨w.heap.size, 2, none⟩ = some (.int .i64 G.h0) ∧ w6.cell? ⟨w.heap.size, 3, none⟩ = some (.int .i64 G.h1) ∧ w6.cell? ⟨w.heap.size, 4, none⟩ = some (.int .i64 G.on) ∧ w6.cell? ⟨w.heap.size, 5, none⟩ = some (.slice B G.drain.length d) ∧ w6.cell? ⟨w.heap.size, 6, none⟩ = some (.int .i64 G.mx) ∧ w6.cell? ⟨w.heap.size, 7, none⟩ = some (.int .i64 G.tr) ∧ w6.cell? ⟨w.heap.size, 8, none⟩ = some (.bool G.rb) := ⟨Blk.cell (Blk.below Q5.out D6.out hl5) 0, Blk.cell (Blk.below Q5.out D6.out hl5) 1, Blk.cell (Blk.below Q5.out D6.out hl5) 2, Blk.cell (Blk.below Q5.out D6.out hl5) 3, Blk.cell (Blk.below Q5.out D6.out hl5) 4, Blk.cell (Blk.below Q5.out D6.out hl5) 5, Blk.cell (Blk.below Q5.out D6.out hl5) 6, Blk.cell (Blk.below Q5.out D6.out hl5) 7, Blk.cell (Blk.below Q5.out D6.out hl5) 8⟩; clear hb6)
          | (go_at_call 12; (with_reducible refine (KX.out _ D6.out).mono ?_); rintro e w7 ⟨rfl, hb7⟩; have D7 : Hid (Below w5.heap.size w5 w7) := Lib.hid (D6.out.trans (hb7.mono D6.out.size)); have T7 : w7.cell? ⟨w.heap.size, 0, none⟩ = some (.int .i64 G.l0) ∧ w7.cell? ⟨w.heap.size, 1, none⟩ = some (.int .i64 G.l1) ∧ w7.cell? ⟨w.heap.size, 2, none⟩ = some (.int .i64 G.h0) ∧ w7.cell? ⟨w.heap.size, 3, none⟩ = some (.int .i64 G.h1) ∧ w7.cell? ⟨w.heap.size, 4, none⟩ = some (.int .i64 G.on) ∧ w7.cell? ⟨w.heap.size, 5, none⟩ = some (.slice B G.drain.length d) ∧ w7.cell? ⟨w.heap.size, 6, none⟩ = some (.int .i64 G.mx) ∧ w7.cell? ⟨w.heap.size, 7, none⟩ = some (.int .i64 G.tr) ∧ w7.cell? ⟨w.heap.size, 8, none⟩ = some (.bool G.rb) := ⟨Blk.cell (Blk.below Q5.out D7.out hl5) 0, Blk.cell (Blk.below Q5.out D7.out hl5) 1, Blk.cell (Blk.below Q5.out D7.out hl5) 2, Blk.cell (Blk.below Q5.out D7.out hl5) 3, Blk.cell (Blk.below Q5.out D7.out hl5) 4, Blk.cell (Blk.below Q5.out D7.out hl5) 5, Blk.cell (Blk.below Q5.out D7.out hl5) 6, Blk.cell (Blk.below Q5.out D7.out hl5) 7, Blk.cell (Blk.below Q5.out D7.out hl5) 8⟩; clear hb7)
          | (go_at_call 13; (with_reducible refine (KD.out _ D7.out).mono ?_); rintro e w8 ⟨rfl, hb8⟩; have D8 : Hid (Below w5.heap.size w5 w8) := Lib.hid (D7.out.trans (hb8.mono D7.out.size)); have T8 : w8.cell? ⟨w.heap.size, 0, none⟩ = some (.int .i64 G.l0) ∧ w8.cell? ⟨w.heap.size, 1, none⟩ = some (.int .i64 G.l1) ∧ w8.cell? ⟨w.heap.size, 2, none⟩ = some (.int .i64 G.h0) ∧ w8.cell? ⟨w.heap.size, 3, none⟩ = some (.int .i64 G.h1) ∧ w8.cell? ⟨w.heap.size, 4, none⟩ = some (.int .i64 G.on) ∧ w8.cell? ⟨w.heap.size, 5, none⟩ = some (.slice B G.drain.length d) ∧ w8.cell? ⟨w.heap.size, 6, none⟩ = some (.int .i64 G.mx) ∧ w8.cell? ⟨w.heap.size, 7, none⟩ = some (.int .i64 G.tr) ∧ w8.cell? ⟨w.heap.size, 8, none⟩ = some (.bool G.rb) := ⟨Blk.cell (Blk.below Q5.out D8.out hl5) 0, Blk.cell (Blk.below Q5.out D8.out hl5) 1, Blk.cell (Blk.below Q5.out D8.out hl5) 2, Blk.cell (Blk.below Q5.out D8.out hl5) 3, Blk.cell (Blk.below Q5.out D8.out hl5) 4, Blk.cell (Blk.below Q5.out D8.out hl5) 5, Blk.cell (Blk.below Q5.out D8.out hl5) 6, Blk.cell (Blk.below Q5.out D8.out hl5) 7, Blk.cell (Blk.below Q5.out D8.out hl5) 8⟩; clear hb8)
          | (go_at_call 14; (with_reducible refine (KE.out _ D8.out).mono ?_); rintro e w9 ⟨rfl, hb9⟩; have D9 : Hid (Below w5.heap.size w5 w9) := Lib.hid (D8.out.trans (hb9.mono D8.out.size)); have T9 : w9.cell? ⟨w.heap.size, 0, none⟩ = some (.int .i64 G.l0) ∧ w9.cell? ⟨w.heap.size, 1, none⟩ = some (.int .i64 G.l1) ∧ w9.cell? ⟨w.heap.size, 2, none⟩ = some (.int .i64 G.h0) ∧ w9.cell? ⟨w.heap.size, 3, none⟩ = some (.int .i64 G.h1) ∧ w9.cell? ⟨w.heap.size, 4, none⟩ = some (.int .i64 G.on) ∧ w9.cell? ⟨w.heap.size, 5, none⟩ = some (.slice B G.drain.length d) ∧ w9.cell? ⟨w.heap.size, 6, none⟩ = some (.int .i64 G.mx) ∧ w9.cell? ⟨w.heap.size, 7, none⟩ = some (.int .i64 G.tr) ∧ w9.cell? ⟨w.heap.size, 8, none⟩ = some (.bool G.rb) := ⟨Blk.cell (Blk.below Q5.out D9.out hl5) 0, Blk.cell (Blk.below Q5.out D9.out hl5) 1, Blk.cell (Blk.below Q5.out D9.out hl5) 2, Blk.cell (Blk.below Q5.out D9.out hl5) 3, Blk.cell (Blk.below Q5.out D9.out hl5) 4, Blk.cell (Blk.below Q5.out D9.out hl5) 5, Blk.cell (Blk.below Q5.out D9.out hl5) 6, Blk.cell (Blk.below Q5.out D9.out hl5) 7, Blk.cell (Blk.below Q5.out D9.out hl5) 8⟩; clear hb9)
          | (go_at_call 15; (with_reducible refine (KW.out _ D9.out).mono ?_); rintro e w10 ⟨rfl, hb10⟩; have D10 : Hid (Below w5.heap.size w5 w10) := Lib.hid (D9.out.trans (hb10.mono D9.out.size)); have T10 : w10.cell? ⟨w.heap.size, 0, none⟩ = some (.int .i64 G.l0) ∧ w10.cell? ⟨w.heap.size, 1, none⟩ = some (.int .i64 G.l1) ∧ w10.cell? ⟨w.heap.size, 2, none⟩ = some (.int .i64 G.h0) ∧ w10.cell? ⟨w.heap.size, 3, none⟩ = some (.int .i64 G.h1) ∧ w10.cell? ⟨w.heap.size, 4, none⟩ = some (.int .i64 G.on) ∧ w10.cell? ⟨w.heap.size, 5, none⟩ = some (.slice B G.drain.length d) ∧ w10.cell? ⟨w.heap.size, 6, none⟩ = some (.int .i64 G.mx) ∧ w10.cell? ⟨w.heap.size, 7, none⟩ = some (.int .i64 G.tr) ∧ w10.cell? ⟨w.heap.size, 8, none⟩ = some (.bool G.rb) := ⟨Blk.cell (Blk.below Q5.out D10.out hl5) 0, Blk.cell (Blk.below Q5.out D10.out hl5) 1, Blk.cell (Blk.below Q5.out D10.out hl5) 2, Blk.cell (Blk.below Q5.out D10.out hl5) 3, Blk.cell (Blk.below Q5.out D10.out hl5) 4, Blk.cell (Blk.below Q5.out D10.out hl5) 5, Blk.cell (Blk.below Q5.out D10.out hl5) 6, Blk.cell (Blk.below Q5.out D10.out hl5) 7, Blk.cell (Blk.below Q5.out D10.out hl5) 8⟩; clear hb10)
          | skip)
      all_goals
        have BF := Lib.hid (B5.out.trans (D10.out.mono B5.out.size))
        go_wp2_with fail
        go_ret
        exact ⟨rfl, by first | exact BF.out | exact BF.out.drew⟩
end Go.Proofs.YthbplchbolghjaaGreatDoor
