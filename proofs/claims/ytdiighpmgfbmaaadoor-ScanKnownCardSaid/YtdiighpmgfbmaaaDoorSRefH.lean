/- Two lists of words that are the same; how many words stand in a line, by either: contracts. -/
import Derived.Test.YtdiighpmgfbmaaaDoorSRefG
namespace Go.Proofs.YtdiighpmgfbmaaaDoor
open Go.RowKit

set_option maxRecDepth 100000 in
set_option maxHeartbeats 2000000 in
theorem same_any (A B : Option Addr) (c1 c2 : Nat) (l : List W4) (w : World) (h1 : l.length ≤ c1) (h2 : c1 ≤ maxLen) (h3 : l.length ≤ c2) (h4 : c2 ≤ maxLen) (ha : SlAt w A (cellsW l)) (hb : SlAt w B (cellsW l)) :
    Calls Tryd.prog 8 #[.slice A l.length c1, .slice B l.length c2] w fun e w' => e = .returned (.bool true) ∧ Below w.heap.size w w' := by
  unfold maxLen at h2 h4
  have HA := Lib.hid ha
  have HB := Lib.hid hb
  clear ha hb
  go_enter Tryd.func8, Tryd.ntmps8
  go_wp2_with fail
  go_loopw [5] (fun i wr => ∃ k : Nat, k ≤ l.length ∧ i = .int .i64 k ∧ Below w.heap.size w wr) (fun i _ => l.length - (intOf i).toNat)
  case atStart => exact ⟨0, by omega, rfl, Below.refl _ _⟩
  case round =>
    obtain ⟨k, hk, rfl, hbw⟩ := hrel
    have Hb := Lib.hid hbw
    clear hbw
    by_cases hlt : k < l.length
    · obtain ⟨x, hx⟩ : ∃ x, l[k]? = some x := ⟨l[k], List.getElem?_eq_getElem hlt⟩
      obtain ⟨b2, o2, hA2, hb2, y0, y1, y2, y3⟩ := SlAt.wor (HA.out.below Hb.out) hx
      obtain ⟨b3, o3, hA3, hb3, z0, z1, z2, z3⟩ := SlAt.wor (HB.out.below Hb.out) hx
      subst hA2 hA3
      have hq := fun w => eq_wor x w
      have hgd := wor_guard
      have k0 : (0 : Int) ≤ (k : Int) := by omega
      have k1 : (k : Int) < (l.length : Int) := by omega
      clear hx
      go_wp2_with fail
      go_quiet (fail)
      go_wp2
      go_roundw
      case rel => exact ⟨k + 1, by omega, by go_num, belowN Hb.out _⟩
      case measure => simp [intOf]; omega
    · obtain rfl : k = l.length := by omega
      go_wp2
      go_ret
      exact ⟨rfl, Hb.out⟩

theorem scan_len (l : List UInt8) : ∀ (f pos : Nat) (s : RS), (scanF l f pos s).1.length ≤ s.words.length + 2 * f := by
  intro f
  induction f with
  | zero => intro pos s; simp [scanF]
  | succ f ih =>
    intro pos s
    rw [scanF]
    split
    · split
      · simp
      split
      · have h1 := ih (pos + (Utf8.decode ⟨l.toArray⟩ pos).2) (readF s (Utf8.decode ⟨l.toArray⟩ pos).1).1
        obtain ⟨_, _, _, h2⟩ := read_facts s (Utf8.decode ⟨l.toArray⟩ pos).1
        omega
      · simp
    · split
      · obtain ⟨_, _, _, h2⟩ := read_facts s 10
        simp only
        omega
      · simp
theorem words_len (l : List UInt8) : (wordsF l).1.length ≤ 2 * l.length + 2 := by
  unfold wordsF
  split
  · simp
  · have := scan_len l (l.length + 1) 0 rs0
    have e : rs0.words.length = 0 := rfl
    omega

def lineI (l : List W4) (fr : Int) : Int := if fr < 0 then 0 else (lineF l fr.toNat : Int)
theorem lineF_far (l : List W4) (fr : Nat) (h : l.length ≤ fr) : lineF l fr = 0 := by
  unfold lineF
  rw [List.getElem?_eq_none h]

set_option maxRecDepth 100000 in
set_option maxHeartbeats 2000000 in
theorem lineI_any (A : Option Addr) (c : Nat) (fr : Int) (l : List W4) (w : World) (hc : l.length ≤ c) (hcm : c ≤ maxLen) (hlen : l.length ≤ 1000000) (hs : SlAt w A (cellsW l)) :
    Calls Tryd.prog 10 #[.slice A l.length c, .int .i64 fr] w fun e w' => e = .returned (.int .i64 (lineI l fr)) ∧ Below w.heap.size w w' := by
  unfold lineI
  by_cases h0 : fr < 0
  · rw [if_pos h0]
    go_enter Tryd.func10, Tryd.ntmps10
    go_wp2
    go_ret
    exact ⟨rfl, Below.refl _ _⟩
  · rw [if_neg h0]
    obtain ⟨n, rfl⟩ : ∃ n : Nat, fr = (n : Int) := ⟨fr.toNat, by omega⟩
    rw [Int.toNat_natCast]
    by_cases hn : n ≤ 4611686018427387904
    · exact line_any A c n l w hc hcm hn hs
    · unfold maxLen at hcm
      rw [lineF_far l n (by omega)]
      have hge : decide (l.length ≤ n) = true := by simp; omega
      have hge2 : ((l.length : Int) ≤ (n : Int)) := by omega
      clear hs hn
      go_enter Tryd.func10, Tryd.ntmps10
      go_wp2
      go_ret
      exact ⟨rfl, Below.refl _ _⟩

set_option maxRecDepth 100000 in
set_option maxHeartbeats 2000000 in
theorem rlineI_any (A : Option Addr) (c : Nat) (fr : Int) (l : List W4) (w : World) (hc : l.length ≤ c) (hcm : c ≤ maxLen) (hlen : l.length ≤ 1000000) (hf : fr ≤ 9223372036854775807) (hr : l.Pairwise (fun x y => x.2.2.1 ≤ y.2.2.1)) (hs : SlAt w A (cellsW l)) :
    Calls Tryd.prog 11 #[.slice A l.length c, .int .i64 fr] w fun e w' => e = .returned (.int .i64 (lineI l fr)) ∧ Below w.heap.size w w' := by
  unfold maxLen at hcm
  unfold lineI
  by_cases h0 : fr < 0
  · rw [if_pos h0]
    have h0' : ¬ 0 ≤ fr := by omega
    clear hs hr
    go_enter Tryd.func11, Tryd.ntmps11
    go_wp2_with fail
    go_loopw [5] (fun n wr => n = .int .i64 0 ∧ Below w.heap.size w wr) (fun _ _ => 0)
    case atStart => exact ⟨rfl, Below.refl _ _⟩
    case round =>
      obtain ⟨rfl, hbw⟩ := hrel
      have q0 : decide (0 ≤ fr) = false := by simp; omega
      go_wp2_with fail
      go_quiet (fail)
      go_wp2
      go_ret
      exact ⟨rfl, belowN hbw _⟩
  · rw [if_neg h0]
    obtain ⟨fr, rfl⟩ : ∃ n : Nat, fr = (n : Int) := ⟨fr.toNat, by omega⟩
    rw [Int.toNat_natCast]
    have h1 : (0 : Int) ≤ (fr : Int) := by omega
    by_cases hlt : fr < l.length
    · obtain ⟨x, hx⟩ : ∃ x, l[fr]? = some x := ⟨l[fr], List.getElem?_eq_getElem hlt⟩
      rw [line_tw l hr fr x hx]
      have htw := tw_at (lineB x.2.2.1) (l.drop fr)
      have hle : ((l.drop fr).takeWhile (lineB x.2.2.1)).length ≤ l.length - fr := by
        have := (List.takeWhile_sublist (l := l.drop fr) (lineB x.2.2.1)).length_le
        rw [List.length_drop] at this
        exact this
      generalize ((l.drop fr).takeWhile (lineB x.2.2.1)).length = R at htw hle ⊢
      obtain ⟨b, o, hA, hb, _, _, u2, _⟩ := SlAt.wor hs hx
      subst hA
      have HS := Lib.hid hs
      have HX := Lib.hid hx
      have HTw := Lib.hid htw
      have U2 := Lib.hid u2
      clear hs hx htw hr u2
      go_enter Tryd.func11, Tryd.ntmps11
      go_wp2_with fail
      go_loopw [5] (fun n wr => ∃ k : Nat, k ≤ R ∧ n = .int .i64 k ∧ Below w.heap.size w wr) (fun n _ => l.length - (intOf n).toNat)
      case atStart => exact ⟨0, by omega, rfl, Below.refl _ _⟩
      case round =>
        obtain ⟨k, hk, rfl, hbw⟩ := hrel
        have Hb := Lib.hid hbw
        clear hbw
        obtain ⟨t1, t2⟩ := HTw.out k
        have m0 : (0 : Int) ≤ (fr : Int) + (k : Int) := by omega
        by_cases hkr : k < R
        · obtain ⟨y, hy, hyl⟩ := t1 hkr
          rw [List.getElem?_drop] at hy
          obtain ⟨_, _, _, z2, _⟩ := slat_at (HS.out.below Hb.out) rfl hy
          have x2 : (wr).cell? ⟨b, o + fr * 4 + 2, none⟩ = some (.int .i64 (x.2.2.1 : Int)) := (Hb.out.cell (p := ⟨b, o + fr * 4 + 2, none⟩) hb).trans U2.out
          have hq : ((y.2.2.1 : Int) == (x.2.2.1 : Int)) = true := by
            have : y.2.2.1 = x.2.2.1 := by simpa [lineB] using hyl
            simp [this]
          have m1 : (fr : Int) + (k : Int) < (l.length : Int) := by omega
          have q0 : decide ((0 : Int) ≤ (fr : Int)) = true := by simp
          have q1 : decide ((fr : Int) + (k : Int) < (l.length : Int)) = true := by simp; omega
          clear t1 t2 hyl hy
          go_wp2_with fail
          go_quiet (fail)
          go_wp2
          go_roundw
          case rel => exact ⟨k + 1, by omega, by go_num, belowN Hb.out _⟩
          case measure => simp [intOf]; omega
        · obtain rfl : k = R := by omega
          have q0 : decide ((0 : Int) ≤ (fr : Int)) = true := by simp
          rcases t2 rfl with hy | ⟨y, hy, hyl⟩
          · rw [List.getElem?_drop, List.getElem?_eq_none_iff] at hy
            have q1 : decide ((fr : Int) + (k : Int) < (l.length : Int)) = false := by simp; omega
            clear t1 t2
            go_wp2_with fail
            go_quiet (fail)
            go_wp2
            go_ret
            exact ⟨rfl, belowN Hb.out _⟩
          · rw [List.getElem?_drop] at hy
            have hfk : fr + k < l.length := by
              rcases Nat.lt_or_ge (fr + k) l.length with h | h
              · exact h
              · rw [List.getElem?_eq_none h] at hy
                cases hy
            obtain ⟨_, _, _, z2, _⟩ := slat_at (HS.out.below Hb.out) rfl hy
            have x2 : (wr).cell? ⟨b, o + fr * 4 + 2, none⟩ = some (.int .i64 (x.2.2.1 : Int)) := (Hb.out.cell (p := ⟨b, o + fr * 4 + 2, none⟩) hb).trans U2.out
            have hq : ((y.2.2.1 : Int) == (x.2.2.1 : Int)) = false := by
              have : y.2.2.1 ≠ x.2.2.1 := by simpa [lineB] using hyl
              simp
              omega
            have m1 : (fr : Int) + (k : Int) < (l.length : Int) := by omega
            have q1 : decide ((fr : Int) + (k : Int) < (l.length : Int)) = true := by simp; omega
            clear t1 t2 hyl hy
            go_wp2_with fail
            go_quiet (fail)
            go_wp2
            go_ret
            exact ⟨rfl, belowN Hb.out _⟩
    · rw [lineF_far l fr (by omega)]
      have m1 : ¬ (fr : Int) < (l.length : Int) := by omega
      clear hs hr hlt
      go_enter Tryd.func11, Tryd.ntmps11
      go_wp2_with fail
      go_loopw [5] (fun n wr => ∃ k : Nat, k = 0 ∧ n = .int .i64 k ∧ Below w.heap.size w wr) (fun _ _ => 0)
      case atStart => exact ⟨0, rfl, rfl, Below.refl _ _⟩
      case round =>
        obtain ⟨k, hk, rfl, hbw⟩ := hrel
        have q0 : decide ((0 : Int) ≤ (fr : Int)) = true := by simp
        have q1 : decide ((fr : Int) + (k : Int) < (l.length : Int)) = false := by simp; omega
        have q2 : (fr : Int) + (k : Int) ≤ 9223372036854775807 := by omega
        have HK := Lib.hid hk
        clear hk
        go_wp2_with fail
        go_quiet (fail)
        go_wp2
        go_ret
        exact ⟨retI (by have := HK.out; omega), belowN hbw _⟩
end Go.Proofs.YtdiighpmgfbmaaaDoor
