/- What the document's Quote answers: contracts. Condition: the tables of UTF-8 lie as they were laid. -/
import Derived.Test.YtdiighpmgfbmaaaDoorSQuote
import Derived.Deep.RegionHeld3
import Derived.Deep.DeepCutAuto
namespace Go.Proofs.YtdiighpmgfbmaaaDoor
open Go.RowKit

theorem Utab.below {w w' : World} (h : Utab w) (hb : Below w.heap.size w w') : Utab w' := Utf8Tabs_below h hb
/-- The document's reader lies in memory. -/
def RfAt (w : World) (b : Nat) (l : List UInt8) (a ln cl : Nat) : Prop := Blk w b #[strV l, .int .i64 (a : Int), .int .i64 (ln : Int), .int .i64 (cl : Int)] 45
theorem dec_any (l : List UInt8) (a : Nat) (w : World) (ha : a < l.length) (hT : Utab w) :
    Calls Tryd.prog 45 #[.string ((⟨l.toArray⟩ : ByteArray).extract a l.length)] w fun e w' => e = .returned (.tuple #[.int .i32 ((Utf8.decode ⟨l.toArray⟩ a).1 : Int), .int .i64 ((Utf8.decode ⟨l.toArray⟩ a).2 : Int)]) ∧ Below w.heap.size w w' := by
  have k := Tryd.utf8_DecodeRuneInString ⟨(l.drop a).toArray⟩ w hT
  rw [cut_eqS]
  have e : Lib.decodeGo ⟨(l.drop a).toArray⟩ = Utf8.decode ⟨l.toArray⟩ a := by
    unfold Lib.decodeGo
    rw [if_neg (by
      show ¬ (l.drop a).toArray.size = 0
      simp
      omega)]
    exact Lib.decodeL_drop ⟨l.toArray⟩ a
  rw [e] at k
  exact k

/-- The next rune. -/
def runeF (l : List UInt8) (a : Nat) : Int × Bool :=
  if a < l.length then (((Utf8.decode ⟨l.toArray⟩ a).1 : Int), !decide ((Utf8.decode ⟨l.toArray⟩ a).1 = 65533) || decide (1 < (Utf8.decode ⟨l.toArray⟩ a).2)) else (-1, true)

set_option maxHeartbeats 2000000 in
theorem rune_any (b : Nat) (l : List UInt8) (a ln cl : Nat) (w : World) (hl : l.length ≤ 100000) (h : RfAt w b l a ln cl) (hT : Utab w) :
    Calls Tryd.prog 21 #[.pointer (some ⟨b, 0, none⟩)] w fun e w' => e = .returned (.tuple #[.int .i64 (runeF l a).1, .bool (runeF l a).2]) ∧ Below w.heap.size w w' := by
  have c0 : w.cell? ⟨b, 0, none⟩ = some (strV l) := Blk.cell h 0
  have c1 : w.cell? ⟨b, 1, none⟩ = some (.int .i64 (a : Int)) := Blk.cell h 1
  have hbl := Blk.lt h
  have H := Lib.hid h
  clear h
  by_cases ha : a < l.length
  · have KD := Lib.hid (fun w hT => dec_any l a w ha hT)
    have hd1 := decode_le ⟨l.toArray⟩ a
    unfold runeF
    rw [if_pos ha]
    generalize Utf8.decode ⟨l.toArray⟩ a = q at KD hd1 ⊢
    obtain ⟨c, n⟩ := q
    simp only at KD hd1 ⊢
    have a0 : (0 : Int) ≤ (a : Int) := by omega
    have a1 : (a : Int) < (l.length : Int) := by omega
    have a2 : (a : Int) ≤ (l.length : Int) := by omega
    have a3 : decide (l.length ≤ a) = false := by simp; omega
    have HT := Lib.hid hT
    have HA := Lib.hid ha
    clear ha hT
    go_enter Tryd.func21, Tryd.ntmps21
    go_wp2_with fail
    go_quiet (fail)
    go_wp2_with fail
    have HB0 := Lib.hid (belowN (Below.refl w.heap.size w) nq)
    have HT1 := Lib.hid (HT.out.below HB0.out)
    have H1 := Lib.hid (show RfAt (w.drewN nq) b l a ln cl from Blk.drewN H.out nq)
    generalize w.drewN nq = w2 at HB0 HT1 H1 ⊢
    clear c0 c1 hbl
    have c0 : w2.cell? ⟨b, 0, none⟩ = some (strV l) := Blk.cell H1.out 0
    have c1 : w2.cell? ⟨b, 1, none⟩ = some (.int .i64 (a : Int)) := Blk.cell H1.out 1
    have hbl := Blk.lt H1.out
    go_cut [4, 5] (fun s4 s5 wc => s4 = .int .i32 (c : Int) ∧ s5 = .int .i64 (n : Int) ∧ Below w.heap.size w wc)
    case first =>
      go_region_held3 (fun w' => w'.cell? ⟨b, 0, none⟩ = some (strV l) ∧ w'.cell? ⟨b, 1, none⟩ = some (.int .i64 (a : Int)))
        (first | exact ⟨c0, c1⟩ | exact ⟨by assumption, by assumption⟩ | go_keep)
        (first
          | ((with_reducible refine (KD.out _ (HT1.out.below ((Below.refl _ _).drew))).mono ?_); rintro e w3 ⟨rfl, hb3⟩; have px0 := (hb3.cell (p := ⟨b, 0, none⟩) hbl).trans (by first | exact c0 | assumption | (go_split_ands; assumption)); have px1 := (hb3.cell (p := ⟨b, 1, none⟩) hbl).trans (by first | exact c1 | assumption | (go_split_ands; assumption)); have HB3 := Lib.hid hb3; clear hb3))
      all_goals
        go_wp2_with fail
        go_meet
        exact ⟨rfl, rfl, HB0.out.trans (((Below.refl _ _).drew.trans HB3.out).mono HB0.out.size)⟩
    case rest =>
      obtain ⟨rfl, rfl, hb⟩ := hcut
      have HB := Lib.hid hb
      clear hb c0 c1
      by_cases hc : c = 65533
      · have q1 : ((c : Int) != 65533) = false := by simp; omega
        by_cases hn : 1 < n
        · have n1 : (1 : Int) < (n : Int) := by omega
          have HC := Lib.hid hc
          have HN := Lib.hid hn
          clear hc hn
          go_wp2
          go_ret2
          exact ⟨by rw [HC.out]; simp [HN.out], HB.out⟩
        · have n1 : ¬ (1 : Int) < (n : Int) := by omega
          have HC := Lib.hid hc
          have HN := Lib.hid hn
          clear hc hn
          go_wp2
          go_ret2
          exact ⟨by rw [HC.out]; simp [HN.out], HB.out⟩
      · have q1 : ((c : Int) != 65533) = true := by simp; omega
        have HC := Lib.hid hc
        clear hc
        go_wp2
        go_ret2
        exact ⟨by simp [HC.out], HB.out⟩
  · unfold runeF
    rw [if_neg ha]
    have a3 : decide (l.length ≤ a) = true := by simp; omega
    clear ha hT
    go_enter Tryd.func21, Tryd.ntmps21
    go_wp2_with fail
    go_quiet (fail)
    go_wp2
    go_ret2
    exact ⟨rfl, belowN (Below.refl _ _) _⟩

set_option maxHeartbeats 2000000 in
theorem on_any (b : Nat) (l : List UInt8) (a ln cl : Nat) (w : World) (hl : l.length ≤ 100000) (hn : ln ≤ 1000000) (hm : cl ≤ 1000000) (ha : a < l.length) (h : RfAt w b l a ln cl) (hT : Utab w) :
    Calls Tryd.prog 44 #[.pointer (some ⟨b, 0, none⟩)] w fun e w' => e = .returned (.tuple #[]) ∧ RfAt w' b l (a + (Utf8.decode ⟨l.toArray⟩ a).2) (if (Utf8.decode ⟨l.toArray⟩ a).1 = 10 then ln + 1 else ln) (if (Utf8.decode ⟨l.toArray⟩ a).1 = 10 then 1 else cl + 1) ∧ w.grownBy w' (some b) := by
  have c0 : w.cell? ⟨b, 0, none⟩ = some (strV l) := Blk.cell h 0
  have c1 : w.cell? ⟨b, 1, none⟩ = some (.int .i64 (a : Int)) := Blk.cell h 1
  have hbl := Blk.lt h
  have H := Lib.hid h
  clear h
  have KD := Lib.hid (fun w hT => dec_any l a w ha hT)
  have hd3 := decode_le4 ⟨l.toArray⟩ a
  generalize Utf8.decode ⟨l.toArray⟩ a = q at KD hd3 ⊢
  obtain ⟨c, n⟩ := q
  simp only at KD hd3 ⊢
  have a0 : (0 : Int) ≤ (a : Int) := by omega
  have a1 : (a : Int) < (l.length : Int) := by omega
  have a2 : (a : Int) ≤ (l.length : Int) := by omega
  have HT := Lib.hid hT
  clear hT
  go_enter Tryd.func44, Tryd.ntmps44
  go_wp2_with fail
  go_cut [2, 3] (fun s2 s3 wc => s2 = .int .i32 (c : Int) ∧ s3 = .int .i64 (n : Int) ∧ Below w.heap.size w wc)
  case first =>
    go_region_held3 (fun w' => w'.cell? ⟨b, 0, none⟩ = some (strV l) ∧ w'.cell? ⟨b, 1, none⟩ = some (.int .i64 (a : Int)))
      (first | exact ⟨c0, c1⟩ | exact ⟨by assumption, by assumption⟩ | go_keep)
      (first
        | ((with_reducible refine (KD.out _ (HT.out.below ((Below.refl _ _).drew))).mono ?_); rintro e w3 ⟨rfl, hb3⟩; have px0 := (hb3.cell (p := ⟨b, 0, none⟩) hbl).trans (by first | exact c0 | assumption | (go_split_ands; assumption)); have px1 := (hb3.cell (p := ⟨b, 1, none⟩) hbl).trans (by first | exact c1 | assumption | (go_split_ands; assumption)); have HB3 := Lib.hid hb3; clear hb3))
    all_goals
      go_wp2_with fail
      go_meet
      exact ⟨rfl, rfl, (Below.refl _ _).drew.trans HB3.out⟩
  case rest =>
    obtain ⟨rfl, rfl, hb⟩ := hcut
    have HB := Lib.hid hb
    have H1 := Lib.hid (Blk.below (show Blk w b _ _ from H.out) hb hbl)
    clear hb c0 c1
    have d1 : wc.cell? ⟨b, 1, none⟩ = some (.int .i64 (a : Int)) := Blk.cell H1.out 1
    have d2 : wc.cell? ⟨b, 2, none⟩ = some (.int .i64 (ln : Int)) := Blk.cell H1.out 2
    have d3 : wc.cell? ⟨b, 3, none⟩ = some (.int .i64 (cl : Int)) := Blk.cell H1.out 3
    have f1 := Blk.free H1.out 1
    have f2 := Blk.free H1.out 2
    have f3 := Blk.free H1.out 3
    have G := Lib.hid (grown_of_below HB.out (some b))
    by_cases hc : c = 10
    · have q1 : ((c : Int) == 10) = true := by simp; omega
      have s1 := Lib.hid ((((H1.out.set 1 (.int .i64 ((a : Int) + (n : Int)))).set 3 (.int .i64 ((cl : Int) + 1))).set 2 (.int .i64 ((ln : Int) + 1))).set 3 (.int .i64 1))
      have s2 := Lib.hid (grown_set (grown_set (grown_set (grown_set G.out 1 (.int .i64 ((a : Int) + (n : Int)))) 3 (.int .i64 ((cl : Int) + 1))) 2 (.int .i64 ((ln : Int) + 1))) 3 (.int .i64 1))
      have HC := Lib.hid hc
      clear hc
      go_wp2
      refine bodyPost_end (results_none Tryd.results44 _ _ _) rfl ⟨rfl, ?_, s2.out⟩
      all_goals
        first
          | (exfalso; exact absurd HC.out (by assumption))
          | (exfalso; exact HC.out (by assumption))
          | (unfold RfAt
             simp only [Int.natCast_add, Int.natCast_one]
             exact s1.out)
    · have q1 : ((c : Int) == 10) = false := by simp; omega
      have s1 := Lib.hid ((H1.out.set 1 (.int .i64 ((a : Int) + (n : Int)))).set 3 (.int .i64 ((cl : Int) + 1)))
      have s2 := Lib.hid (grown_set (grown_set G.out 1 (.int .i64 ((a : Int) + (n : Int)))) 3 (.int .i64 ((cl : Int) + 1)))
      have HC := Lib.hid hc
      clear hc
      go_wp2
      refine bodyPost_end (results_none Tryd.results44 _ _ _) rfl ⟨rfl, ?_, s2.out⟩
      all_goals
        first
          | (exfalso; exact absurd HC.out (by assumption))
          | (exfalso; exact HC.out (by assumption))
          | (unfold RfAt
             simp only [Int.natCast_add, Int.natCast_one]
             exact s1.out)
end Go.Proofs.YtdiighpmgfbmaaaDoor
