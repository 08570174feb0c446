/- The document's words of a text and its Parse of a policy, and the law that holds the program's Parse to it: the walk. Conditions: the names lie in memory; the variables hold what was laid. -/
import Derived.Shelf.Unicode.DecodeAny
import Derived.Test.YthbplchbolghjaaGreatDoorProg
import Derived.Test.YthbplchbolghjaaGreatDoorSMem
import Derived.Lib.MapLaws
import Derived.Lib.ValidLaws
import Derived.Lib.TrimUEq
import Derived.Deep.RegionHeld3
import Derived.Deep.DeepCutAuto
import Derived.Lib.QuoteLoop
import Derived.StillTailTactics
import Derived.Test.YthbplchbolghjaaGreatDoorSLine
import Derived.Test.YthbplchbolghjaaGreatDoorBring
import Derived.Test.YthbplchbolghjaaGreatDoorMb
import Derived.Test.YthbplchbolghjaaGreatDoorGParse
import Derived.Test.YthbplchbolghjaaGreatDoorMa
import Derived.Test.YthbplchbolghjaaGreatDoorGWorks
import Derived.Test.YthbplchbolghjaaGreatDoorGLift
import Derived.Lib.LaidU8T
import Derived.Lib.LaidIn
import Derived.Deep.DeepWitnessRowRef
namespace Go.Proofs
open Go.Shelf
def Tryz.lays197_ren : Go.Shelf.Ren := ⟨fun | 197 => 105 | 260 => 129 | n => n, fun | 9 => 9 | 21 => 21 | 3 => 3 | 4 => 4 | 5 => 5 | 105 => 126 | 119 => 156 | 0 => 0 | 46 => 135 | 139 => 159 | 138 => 158 | n => n, fun | 3 => 3 | 4 => 4 | n => n⟩
theorem Tryz.lays197 : Go.Proofs.Lays.n197 Tryz.prog Tryz.lays197_ren := {
  mixed := by kernel_rfl
  f197 := Tryz.func105.trans (congrArg some (by kernel_rfl))
  f260 := Tryz.func129.trans (congrArg some (by kernel_rfl))
  t0 := Tryz.underlying0
  a0 := Tryz.isAgg0
  z0 := Tryz.sizeOf0
  v0 := Tryz.zeroValue0
  t3 := Tryz.underlying3
  a3 := Tryz.isAgg3
  z3 := Tryz.sizeOf3
  v3 := Tryz.zeroValue3
  t4 := Tryz.underlying4
  a4 := Tryz.isAgg4
  z4 := Tryz.sizeOf4
  v4 := Tryz.zeroValue4
  t5 := Tryz.underlying5
  a5 := Tryz.isAgg5
  z5 := Tryz.sizeOf5
  v5 := Tryz.zeroValue5
  t9 := Tryz.underlying9
  a9 := Tryz.isAgg9
  z9 := Tryz.sizeOf9
  v9 := Tryz.zeroValue9
  t21 := Tryz.underlying21
  a21 := Tryz.isAgg21
  z21 := Tryz.sizeOf21
  v21 := Tryz.zeroValue21
  t46 := Tryz.underlying135
  a46 := Tryz.isAgg135
  z46 := Tryz.sizeOf135
  v46 := Tryz.zeroValue135
  t105 := Tryz.underlying126
  a105 := Tryz.isAgg126
  z105 := Tryz.sizeOf126
  v105 := Tryz.zeroValue126
  t119 := Tryz.underlying156
  a119 := Tryz.isAgg156
  z119 := Tryz.sizeOf156
  t138 := Tryz.underlying158
  a138 := Tryz.isAgg158
  z138 := Tryz.sizeOf158
  v138 := Tryz.zeroValue158
  t139 := Tryz.underlying159
  a139 := Tryz.isAgg159
  z139 := Tryz.sizeOf159
  v139 := Tryz.zeroValue159
  g3 := by kernel_rfl
  g4 := by kernel_rfl }
open Go.RowKit Go.Lib in
/-- **unicode/utf8.DecodeRuneInString AT EVERY STRING.** (LAID: no walk: one application.) -/
theorem Tryz.utf8_DecodeRuneInString (s : ByteArray) (w : World) (hT : Lib.Utf8Tabs 3 4 w) :
    Calls Tryz.prog 105 #[.string s] w fun e w' => e = .returned (.tuple #[.int .i32 (Lib.decodeGo s).1, .int .i64 (Lib.decodeGo s).2]) ∧ Below w.heap.size w w' := Any.utf8_DecodeRuneInString Tryz.lays197 s w hT
end Go.Proofs

namespace Go.Proofs.YthbplchbolghjaaGreatDoor.Sc
open Go.RowKit

/-- The library's tables of UTF-8 lie as they were laid. -/
def Utab (w : World) : Prop := Lib.Utf8Tabs 3 4 w

/-- What stands for a rune in a string. -/
def escF1 (c : Nat) : List UInt8 := if c = 10 then [92, 110] else if c = 34 then [92, 34] else if c = 92 then [92, 92] else Lib.encodeRune (c : Int)
/-- Rune by rune. -/
def quoF (l : List UInt8) : Nat → Nat → List UInt8 → Option (List UInt8)
  | 0, _, _ => none
  | f + 1, pos, acc =>
    if pos < l.length then
      if (Utf8.decode ⟨l.toArray⟩ pos).1 < 32 ∧ (Utf8.decode ⟨l.toArray⟩ pos).1 ≠ 10 then none
      else quoF l f (pos + (Utf8.decode ⟨l.toArray⟩ pos).2) (acc ++ escF1 (Utf8.decode ⟨l.toArray⟩ pos).1)
    else some (acc ++ [34])
def quoteF (l : List UInt8) : List UInt8 × Int :=
  if Lib.validD l = false then ([], 4) else match quoF l (l.length + 1) 0 [34] with
  | some t => (t, 0)
  | none => ([], 4)
theorem esc_len (c : Nat) : (escF1 c).length ≤ 4 := by
  have := enc_len (c : Int)
  unfold escF1
  repeat' split
  all_goals simp
  all_goals omega

theorem own_iterAt {w : World} {B k : Nat} {t : ByteArray} {p : Nat} (hk : w.heap[k]? = some (Obj.stringIter t p)) (p' : Nat) {e : TypeId} {size : Nat} {v : Value} {n : Nat} {xs : List Value} (h : w.ownsRow B e size v n xs) : (w.iterAt k t p').ownsRow B e size v n xs := by
  obtain ⟨h1, h2⟩ := h
  refine ⟨h1, ?_⟩
  rcases h2 with h2 | ⟨g, cap, cur, hv, hg, hc, h3⟩
  · exact .inl h2
  · refine .inr ⟨g, cap, cur, hv, hg, ?_, h3⟩
    rw [iterAt_far w k t p' g (fun e => by subst e; rw [hk] at hc; cases hc)]
    exact hc
theorem info_B : (Tryz.prog.info? 5).map (fun i => (i.zero, i.size, i.bytes)) = some (some (.int .u8 0), 1, 1) := by kernel_rfl
theorem byte_app (a b : List UInt8) : Lib.byteCells a ++ Lib.byteCells b = Lib.byteCells (a ++ b) := by simp [Lib.byteCells]

end Go.Proofs.YthbplchbolghjaaGreatDoor.Sc

namespace Go.Proofs.YthbplchbolghjaaGreatDoor.Sc
open Go.RowKit

theorem Utab.below {w w' : World} (h : Utab w) (hb : Below w.heap.size w w') : Utab w' := Utf8Tabs_below h hb
/-- The document's reader lies in memory. -/
def RfAt (w : World) (b : Nat) (l : List UInt8) (a ln cl : Nat) : Prop := Blk w b #[strV l, .int .i64 (a : Int), .int .i64 (ln : Int), .int .i64 (cl : Int)] 107
theorem dec_any (l : List UInt8) (a : Nat) (w : World) (ha : a < l.length) (hT : Utab w) :
    Calls Tryz.prog 105 #[.string ((⟨l.toArray⟩ : ByteArray).extract a l.length)] w fun e w' => e = .returned (.tuple #[.int .i32 ((Utf8.decode ⟨l.toArray⟩ a).1 : Int), .int .i64 ((Utf8.decode ⟨l.toArray⟩ a).2 : Int)]) ∧ Below w.heap.size w w' := by
  have k := Tryz.utf8_DecodeRuneInString ⟨(l.drop a).toArray⟩ w hT
  rw [cut_eqS]
  have e : Lib.decodeGo ⟨(l.drop a).toArray⟩ = Utf8.decode ⟨l.toArray⟩ a := by
    unfold Lib.decodeGo
    rw [if_neg (by
      show ¬ (l.drop a).toArray.size = 0
      simp
      omega)]
    exact Lib.decodeL_drop ⟨l.toArray⟩ a
  rw [e] at k
  exact k

/-- The next rune. -/
def runeF (l : List UInt8) (a : Nat) : Int × Bool :=
  if a < l.length then (((Utf8.decode ⟨l.toArray⟩ a).1 : Int), !decide ((Utf8.decode ⟨l.toArray⟩ a).1 = 65533) || decide (1 < (Utf8.decode ⟨l.toArray⟩ a).2)) else (-1, true)

set_option maxHeartbeats 2000000 in
theorem rune_any (b : Nat) (l : List UInt8) (a ln cl : Nat) (w : World) (hl : l.length ≤ 100000) (h : RfAt w b l a ln cl) (hT : Utab w) :
    Calls Tryz.prog 74 #[.pointer (some ⟨b, 0, none⟩)] w fun e w' => e = .returned (.tuple #[.int .i64 (runeF l a).1, .bool (runeF l a).2]) ∧ Below w.heap.size w w' := by
  have c0 : w.cell? ⟨b, 0, none⟩ = some (strV l) := Blk.cell h 0
  have c1 : w.cell? ⟨b, 1, none⟩ = some (.int .i64 (a : Int)) := Blk.cell h 1
  have hbl := Blk.lt h
  have H := Lib.hid h
  clear h
  by_cases ha : a < l.length
  · have KD := Lib.hid (fun w hT => dec_any l a w ha hT)
    have hd1 := decode_le ⟨l.toArray⟩ a
    unfold runeF
    rw [if_pos ha]
    generalize Utf8.decode ⟨l.toArray⟩ a = q at KD hd1 ⊢
    obtain ⟨c, n⟩ := q
    simp only at KD hd1 ⊢
    have a0 : (0 : Int) ≤ (a : Int) := by omega
    have a1 : (a : Int) < (l.length : Int) := by omega
    have a2 : (a : Int) ≤ (l.length : Int) := by omega
    have a3 : decide (l.length ≤ a) = false := by simp; omega
    have HT := Lib.hid hT
    have HA := Lib.hid ha
    clear ha hT
    go_enter Tryz.func74, Tryz.ntmps74
    go_wp2_with fail
    go_quiet (fail)
    go_wp2_with fail
    have HB0 := Lib.hid (belowN (Below.refl w.heap.size w) nq)
    have HT1 := Lib.hid (HT.out.below HB0.out)
    have H1 := Lib.hid (show RfAt (w.drewN nq) b l a ln cl from Blk.drewN H.out nq)
    generalize w.drewN nq = w2 at HB0 HT1 H1 ⊢
    clear c0 c1 hbl
    have c0 : w2.cell? ⟨b, 0, none⟩ = some (strV l) := Blk.cell H1.out 0
    have c1 : w2.cell? ⟨b, 1, none⟩ = some (.int .i64 (a : Int)) := Blk.cell H1.out 1
    have hbl := Blk.lt H1.out
    go_cut [4, 5] (fun s4 s5 wc => s4 = .int .i32 (c : Int) ∧ s5 = .int .i64 (n : Int) ∧ Below w.heap.size w wc)
    case first =>
      go_region_held3 (fun w' => w'.cell? ⟨b, 0, none⟩ = some (strV l) ∧ w'.cell? ⟨b, 1, none⟩ = some (.int .i64 (a : Int)))
        (first | exact ⟨c0, c1⟩ | exact ⟨by assumption, by assumption⟩ | go_keep)
        (first
          | ((with_reducible refine (KD.out _ (HT1.out.below ((Below.refl _ _).drew))).mono ?_); rintro e w3 ⟨rfl, hb3⟩; have px0 := (hb3.cell (p := ⟨b, 0, none⟩) hbl).trans (by first | exact c0 | assumption | (go_split_ands; assumption)); have px1 := (hb3.cell (p := ⟨b, 1, none⟩) hbl).trans (by first | exact c1 | assumption | (go_split_ands; assumption)); have HB3 := Lib.hid hb3; clear hb3))
      all_goals
        go_wp2_with fail
        go_meet
        exact ⟨rfl, rfl, HB0.out.trans (((Below.refl _ _).drew.trans HB3.out).mono HB0.out.size)⟩
    case rest =>
      obtain ⟨rfl, rfl, hb⟩ := hcut
      have HB := Lib.hid hb
      clear hb c0 c1
      by_cases hc : c = 65533
      · have q1 : ((c : Int) != 65533) = false := by simp; omega
        by_cases hn : 1 < n
        · have n1 : (1 : Int) < (n : Int) := by omega
          have HC := Lib.hid hc
          have HN := Lib.hid hn
          clear hc hn
          go_wp2
          go_ret2
          exact ⟨by rw [HC.out]; simp [HN.out], HB.out⟩
        · have n1 : ¬ (1 : Int) < (n : Int) := by omega
          have HC := Lib.hid hc
          have HN := Lib.hid hn
          clear hc hn
          go_wp2
          go_ret2
          exact ⟨by rw [HC.out]; simp [HN.out], HB.out⟩
      · have q1 : ((c : Int) != 65533) = true := by simp; omega
        have HC := Lib.hid hc
        clear hc
        go_wp2
        go_ret2
        exact ⟨by simp [HC.out], HB.out⟩
  · unfold runeF
    rw [if_neg ha]
    have a3 : decide (l.length ≤ a) = true := by simp; omega
    clear ha hT
    go_enter Tryz.func74, Tryz.ntmps74
    go_wp2_with fail
    go_quiet (fail)
    go_wp2
    go_ret2
    exact ⟨rfl, belowN (Below.refl _ _) _⟩

set_option maxHeartbeats 2000000 in
theorem on_any (b : Nat) (l : List UInt8) (a ln cl : Nat) (w : World) (hl : l.length ≤ 100000) (hn : ln ≤ 1000000) (hm : cl ≤ 1000000) (ha : a < l.length) (h : RfAt w b l a ln cl) (hT : Utab w) :
    Calls Tryz.prog 104 #[.pointer (some ⟨b, 0, none⟩)] w fun e w' => e = .returned (.tuple #[]) ∧ RfAt w' b l (a + (Utf8.decode ⟨l.toArray⟩ a).2) (if (Utf8.decode ⟨l.toArray⟩ a).1 = 10 then ln + 1 else ln) (if (Utf8.decode ⟨l.toArray⟩ a).1 = 10 then 1 else cl + 1) ∧ w.grownBy w' (some b) := by
  have c0 : w.cell? ⟨b, 0, none⟩ = some (strV l) := Blk.cell h 0
  have c1 : w.cell? ⟨b, 1, none⟩ = some (.int .i64 (a : Int)) := Blk.cell h 1
  have hbl := Blk.lt h
  have H := Lib.hid h
  clear h
  have KD := Lib.hid (fun w hT => dec_any l a w ha hT)
  have hd3 := decode_le4 ⟨l.toArray⟩ a
  generalize Utf8.decode ⟨l.toArray⟩ a = q at KD hd3 ⊢
  obtain ⟨c, n⟩ := q
  simp only at KD hd3 ⊢
  have a0 : (0 : Int) ≤ (a : Int) := by omega
  have a1 : (a : Int) < (l.length : Int) := by omega
  have a2 : (a : Int) ≤ (l.length : Int) := by omega
  have HT := Lib.hid hT
  clear hT
  go_enter Tryz.func104, Tryz.ntmps104
  go_wp2_with fail
  go_cut [2, 3] (fun s2 s3 wc => s2 = .int .i32 (c : Int) ∧ s3 = .int .i64 (n : Int) ∧ Below w.heap.size w wc)
  case first =>
    go_region_held3 (fun w' => w'.cell? ⟨b, 0, none⟩ = some (strV l) ∧ w'.cell? ⟨b, 1, none⟩ = some (.int .i64 (a : Int)))
      (first | exact ⟨c0, c1⟩ | exact ⟨by assumption, by assumption⟩ | go_keep)
      (first
        | ((with_reducible refine (KD.out _ (HT.out.below ((Below.refl _ _).drew))).mono ?_); rintro e w3 ⟨rfl, hb3⟩; have px0 := (hb3.cell (p := ⟨b, 0, none⟩) hbl).trans (by first | exact c0 | assumption | (go_split_ands; assumption)); have px1 := (hb3.cell (p := ⟨b, 1, none⟩) hbl).trans (by first | exact c1 | assumption | (go_split_ands; assumption)); have HB3 := Lib.hid hb3; clear hb3))
    all_goals
      go_wp2_with fail
      go_meet
      exact ⟨rfl, rfl, (Below.refl _ _).drew.trans HB3.out⟩
  case rest =>
    obtain ⟨rfl, rfl, hb⟩ := hcut
    have HB := Lib.hid hb
    have H1 := Lib.hid (Blk.below (show Blk w b _ _ from H.out) hb hbl)
    clear hb c0 c1
    have d1 : wc.cell? ⟨b, 1, none⟩ = some (.int .i64 (a : Int)) := Blk.cell H1.out 1
    have d2 : wc.cell? ⟨b, 2, none⟩ = some (.int .i64 (ln : Int)) := Blk.cell H1.out 2
    have d3 : wc.cell? ⟨b, 3, none⟩ = some (.int .i64 (cl : Int)) := Blk.cell H1.out 3
    have f1 := Blk.free H1.out 1
    have f2 := Blk.free H1.out 2
    have f3 := Blk.free H1.out 3
    have G := Lib.hid (grown_of_below HB.out (some b))
    by_cases hc : c = 10
    · have q1 : ((c : Int) == 10) = true := by simp; omega
      have s1 := Lib.hid ((((H1.out.set 1 (.int .i64 ((a : Int) + (n : Int)))).set 3 (.int .i64 ((cl : Int) + 1))).set 2 (.int .i64 ((ln : Int) + 1))).set 3 (.int .i64 1))
      have s2 := Lib.hid (grown_set (grown_set (grown_set (grown_set G.out 1 (.int .i64 ((a : Int) + (n : Int)))) 3 (.int .i64 ((cl : Int) + 1))) 2 (.int .i64 ((ln : Int) + 1))) 3 (.int .i64 1))
      have HC := Lib.hid hc
      clear hc
      go_wp2
      refine bodyPost_end (results_none Tryz.results104 _ _ _) rfl ⟨rfl, ?_, s2.out⟩
      all_goals
        first
          | (exfalso; exact absurd HC.out (by assumption))
          | (exfalso; exact HC.out (by assumption))
          | (unfold RfAt
             simp only [Int.natCast_add, Int.natCast_one]
             exact s1.out)
    · have q1 : ((c : Int) == 10) = false := by simp; omega
      have s1 := Lib.hid ((H1.out.set 1 (.int .i64 ((a : Int) + (n : Int)))).set 3 (.int .i64 ((cl : Int) + 1)))
      have s2 := Lib.hid (grown_set (grown_set G.out 1 (.int .i64 ((a : Int) + (n : Int)))) 3 (.int .i64 ((cl : Int) + 1)))
      have HC := Lib.hid hc
      clear hc
      go_wp2
      refine bodyPost_end (results_none Tryz.results104 _ _ _) rfl ⟨rfl, ?_, s2.out⟩
      all_goals
        first
          | (exfalso; exact absurd HC.out (by assumption))
          | (exfalso; exact HC.out (by assumption))
          | (unfold RfAt
             simp only [Int.natCast_add, Int.natCast_one]
             exact s1.out)
end Go.Proofs.YthbplchbolghjaaGreatDoor.Sc

namespace Go.Proofs.YthbplchbolghjaaGreatDoor.Sc
open Go.RowKit

/-- What the document puts for a rune. -/
def escR (l : List UInt8) (pos n c : Nat) : List UInt8 := if c = 34 then [92, 34] else if c = 92 then [92, 92] else if c = 10 then [92, 110] else (l.drop pos).take n
/-- Rune by rune. -/
def rquF (l : List UInt8) : Nat → Nat → List UInt8 → List UInt8 × Int
  | 0, _, _ => ([], 4)
  | f + 1, pos, acc =>
    if pos < l.length then
      if ((Utf8.decode ⟨l.toArray⟩ pos).1 = 65533 ∧ (Utf8.decode ⟨l.toArray⟩ pos).2 ≤ 1) ∨ ((Utf8.decode ⟨l.toArray⟩ pos).1 < 32 ∧ (Utf8.decode ⟨l.toArray⟩ pos).1 ≠ 10) then ([], 4)
      else rquF l f (pos + (Utf8.decode ⟨l.toArray⟩ pos).2) (acc ++ escR l pos (Utf8.decode ⟨l.toArray⟩ pos).2 (Utf8.decode ⟨l.toArray⟩ pos).1)
    else (acc ++ [34], 0)

theorem strEqR {a b : ByteArray} (h : a = b) : Value.string a = .string b := by rw [h]
theorem join_baR (a b : List UInt8) : (⟨a.toArray⟩ : ByteArray) ++ (⟨b.toArray⟩ : ByteArray) = ⟨(a ++ b).toArray⟩ := by
  apply ByteArray.ext
  simp [ByteArray.data_append]
theorem cut_mid (l : List UInt8) (a b : Nat) : (⟨l.toArray⟩ : ByteArray).extract a b = ⟨((l.drop a).take (b - a)).toArray⟩ := by
  apply ByteArray.ext
  apply Array.toList_inj.1
  simp
theorem dec_in (l : List UInt8) (a : Nat) (ha : a < l.length) : a + (Utf8.decode ⟨l.toArray⟩ a).2 ≤ l.length := by
  have h := Lib.width_le ⟨(l.drop a).toArray⟩ (by
    show 0 < (l.drop a).toArray.size
    simp
    omega)
  rw [show Utf8.decode ⟨(l.drop a).toArray⟩ 0 = Utf8.decode ⟨l.toArray⟩ a from Lib.decodeL_drop ⟨l.toArray⟩ a] at h
  have h2 : (⟨(l.drop a).toArray⟩ : ByteArray).size = l.length - a := by
    show (l.drop a).toArray.size = _
    simp
  omega

end Go.Proofs.YthbplchbolghjaaGreatDoor.Sc

namespace Go.Proofs.YthbplchbolghjaaGreatDoor.Sc
open Go.RowKit

theorem dec_drop (l : List UInt8) (a : Nat) : Lib.decodeL (l.drop a) = Utf8.decode ⟨l.toArray⟩ a := Lib.decodeL_drop ⟨l.toArray⟩ a

theorem esc_same (l : List UInt8) (pos : Nat) (hp : pos < l.length) (hv : ¬ ((Utf8.decode ⟨l.toArray⟩ pos).1 = 65533 ∧ (Utf8.decode ⟨l.toArray⟩ pos).2 = 1)) :
    escF1 (Utf8.decode ⟨l.toArray⟩ pos).1 = escR l pos (Utf8.decode ⟨l.toArray⟩ pos).2 (Utf8.decode ⟨l.toArray⟩ pos).1 := by
  have hne : l.drop pos ≠ [] := by
    intro h
    have := congrArg List.length h
    simp at this
    omega
  have he := Lib.encode_decode (l.drop pos) hne (by rw [dec_drop]; exact hv)
  rw [dec_drop] at he
  generalize Utf8.decode ⟨l.toArray⟩ pos = q at he ⊢
  obtain ⟨c, n⟩ := q
  simp only at he ⊢
  unfold escF1 escR
  by_cases h10 : c = 10
  · subst h10; rfl
  by_cases h34 : c = 34
  · subst h34; rfl
  by_cases h92 : c = 92
  · subst h92; rfl
  rw [if_neg h10, if_neg h34, if_neg h92, if_neg h34, if_neg h92, if_neg h10]
  exact he

theorem quo_good (l : List UInt8) : ∀ (f pos : Nat) (acc : List UInt8), pos ≤ l.length → l.length < pos + f → Lib.validD (l.drop pos) = true →
    rquF l f pos acc = (match quoF l f pos acc with | some t => (t, 0) | none => ([], 4)) := by
  intro f
  induction f with
  | zero => intro pos acc h1 h2; omega
  | succ f ih =>
    intro pos acc h1 h2 hv
    rw [rquF, quoF]
    by_cases hp : pos < l.length
    · rw [if_pos hp, if_pos hp]
      have hne : l.drop pos ≠ [] := by
        intro h
        have := congrArg List.length h
        simp at this
        omega
      have hst := Lib.validD_step (l.drop pos) hne
      rw [hv, dec_drop, List.drop_drop] at hst
      have hb : ¬ ((Utf8.decode ⟨l.toArray⟩ pos).1 = 65533 ∧ (Utf8.decode ⟨l.toArray⟩ pos).2 = 1) := by
        intro h
        rw [if_pos h] at hst
        cases hst
      rw [if_neg hb] at hst
      have hw := Lib.decode_width_pos ⟨l.toArray⟩ pos hp
      have hi := dec_in l pos hp
      rw [← esc_same l pos hp hb]
      by_cases hc : (Utf8.decode ⟨l.toArray⟩ pos).1 < 32 ∧ (Utf8.decode ⟨l.toArray⟩ pos).1 ≠ 10
      · rw [if_pos (Or.inr hc), if_pos hc]
      · rw [if_neg (by
          rintro (h | h)
          · exact hb ⟨h.1, by omega⟩
          · exact hc h), if_neg hc]
        exact ih _ _ hi (by omega) hst.symm
    · rw [if_neg hp, if_neg hp]

theorem quo_bad (l : List UInt8) : ∀ (f pos : Nat) (acc : List UInt8), pos ≤ l.length → Lib.validD (l.drop pos) = false → rquF l f pos acc = ([], 4) := by
  intro f
  induction f with
  | zero => intro pos acc _ _; rfl
  | succ f ih =>
    intro pos acc h1 hv
    rw [rquF]
    by_cases hp : pos < l.length
    · rw [if_pos hp]
      have hne : l.drop pos ≠ [] := by
        intro h
        have := congrArg List.length h
        simp at this
        omega
      have hst := Lib.validD_step (l.drop pos) hne
      rw [hv, dec_drop, List.drop_drop] at hst
      have hi := dec_in l pos hp
      by_cases hb : (Utf8.decode ⟨l.toArray⟩ pos).1 = 65533 ∧ (Utf8.decode ⟨l.toArray⟩ pos).2 = 1
      · rw [if_pos (Or.inl ⟨hb.1, by omega⟩)]
      · rw [if_neg hb] at hst
        split
        · rfl
        · exact ih _ _ hi hst.symm
    · have : l.drop pos = [] := List.drop_eq_nil_of_le (by omega)
      rw [this, Lib.validD_nil] at hv
      cases hv

/-- The same answer. -/
theorem quote_same (l : List UInt8) : quoteF l = rquF l (l.length + 1) 0 [34] := by
  unfold quoteF
  cases hv : Lib.validD l
  · rw [if_pos rfl]
    exact (quo_bad l _ 0 _ (by omega) hv).symm
  · rw [if_neg (by simp)]
    exact (quo_good l _ 0 _ (by omega) (by omega) hv).symm
end Go.Proofs.YthbplchbolghjaaGreatDoor.Sc

namespace Go.Proofs.YthbplchbolghjaaGreatDoor.Sc
open Go

theorem dec_pre (u r : List UInt8) (hne : u ≠ []) (hv : ¬ ((Lib.decodeL u).1 = 65533 ∧ (Lib.decodeL u).2 = 1)) : Lib.decodeL (u.take (Lib.decodeL u).2 ++ r) = Lib.decodeL u := by
  have hl : 0 < u.length := List.length_pos_iff.2 hne
  rw [Lib.decodeL_N u] at hv ⊢
  rcases Lib.decodeN_shape u.length (u.getD 0 0).toNat (u.getD 1 0).toNat (u.getD 2 0).toNat (u.getD 3 0).toNat with ⟨c, e⟩ | ⟨c1, c2, c3, cv, e⟩ | ⟨c1, c2, c3, c4, cv, cs, e⟩ | ⟨c1, c2, c3, c4, c5, cv, cw, e⟩ | e
  · rw [e]
    dsimp only
    rw [Lib.takeA u hl, Lib.decodeL_N]
    simp only [List.cons_append, List.nil_append, List.getD_cons_zero]
    unfold Lib.decodeN
    rw [if_pos c]
  · rw [e]
    dsimp only
    rw [Lib.takeB u c2, Lib.decodeL_N]
    simp only [List.cons_append, List.nil_append, List.getD_cons_zero, List.getD_cons_succ, List.length_cons]
    unfold Lib.decodeN
    rw [if_neg (by omega), if_pos ⟨c1, by omega, c3⟩, if_pos (by omega)]
  · rw [e]
    dsimp only
    rw [Lib.takeC u c2, Lib.decodeL_N]
    simp only [List.cons_append, List.nil_append, List.getD_cons_zero, List.getD_cons_succ, List.length_cons]
    unfold Lib.decodeN
    rw [if_neg (by omega), if_neg (by omega), if_pos ⟨c1, ⟨by omega, c3⟩, by omega, c4⟩, if_pos (by omega)]
  · rw [e]
    dsimp only
    rw [Lib.takeD u c2, Lib.decodeL_N]
    simp only [List.cons_append, List.nil_append, List.getD_cons_zero, List.getD_cons_succ, List.length_cons]
    unfold Lib.decodeN
    rw [if_neg (by omega), if_neg (by omega), if_neg (by omega), if_pos ⟨c1, ⟨by omega, c3⟩, ⟨by omega, c4⟩, by omega, c5⟩, if_pos (by omega)]
  · rw [e] at hv
    exact absurd ⟨rfl, rfl⟩ hv

/-- A small byte of a rune is the rune. -/
theorem small_byte (u : List UInt8) (hne : u ≠ []) (hv : ¬ ((Lib.decodeL u).1 = 65533 ∧ (Lib.decodeL u).2 = 1)) (b : UInt8) (hb : b ∈ u.take (Lib.decodeL u).2) (h : b.toNat < 128) : (Lib.decodeL u).1 = b.toNat := by
  have hl : 0 < u.length := List.length_pos_iff.2 hne
  rw [Lib.decodeL_N u] at hv hb ⊢
  rcases Lib.decodeN_shape u.length (u.getD 0 0).toNat (u.getD 1 0).toNat (u.getD 2 0).toNat (u.getD 3 0).toNat with ⟨c, e⟩ | ⟨c1, c2, c3, cv, e⟩ | ⟨c1, c2, c3, c4, cv, cs, e⟩ | ⟨c1, c2, c3, c4, c5, cv, cw, e⟩ | e
  · rw [e] at hb ⊢
    dsimp only at hb ⊢
    rw [Lib.takeA u hl] at hb
    simp only [List.mem_singleton] at hb
    rw [hb]
  · rw [e] at hb
    dsimp only at hb
    rw [Lib.takeB u c2] at hb
    simp only [List.mem_cons, List.not_mem_nil, or_false] at hb
    exfalso
    rcases hb with rfl | rfl <;> omega
  · rw [e] at hb
    dsimp only at hb
    rw [Lib.takeC u c2] at hb
    simp only [List.mem_cons, List.not_mem_nil, or_false] at hb
    exfalso
    rcases hb with rfl | rfl | rfl <;> omega
  · rw [e] at hb
    dsimp only at hb
    rw [Lib.takeD u c2] at hb
    simp only [List.mem_cons, List.not_mem_nil, or_false] at hb
    exfalso
    rcases hb with rfl | rfl | rfl | rfl <;> omega
  · rw [e] at hv
    exact absurd ⟨rfl, rfl⟩ hv
theorem small_rune (u : List UInt8) (hne : u ≠ []) (hv : ¬ ((Lib.decodeL u).1 = 65533 ∧ (Lib.decodeL u).2 = 1)) (h : (Lib.decodeL u).1 < 128) : ∃ b t, u = b :: t ∧ b.toNat = (Lib.decodeL u).1 := by
  have hl : 0 < u.length := List.length_pos_iff.2 hne
  cases u with
  | nil => exact absurd rfl hne
  | cons b t =>
    refine ⟨b, t, rfl, ?_⟩
    rw [Lib.decodeL_N] at hv h ⊢
    rcases Lib.decodeN_shape (b :: t).length ((b :: t).getD 0 0).toNat ((b :: t).getD 1 0).toNat ((b :: t).getD 2 0).toNat ((b :: t).getD 3 0).toNat with ⟨c, e⟩ | ⟨c1, c2, c3, cv, e⟩ | ⟨c1, c2, c3, c4, cv, cs, e⟩ | ⟨c1, c2, c3, c4, c5, cv, cw, e⟩ | e
    · rw [e]
      rfl
    all_goals (exfalso; rw [e] at h; simp only at h; omega)
end Go.Proofs.YthbplchbolghjaaGreatDoor.Sc

namespace Go.Proofs.YthbplchbolghjaaGreatDoor.Sc
open Go.RowKit

/-- One step of the reading. -/
theorem scan_step (T : List UInt8) (g p : Nat) (s s1 : RS) (c n : Nat) (hp : p < T.length) (hd : Lib.decodeL (T.drop p) = (c, n)) (hb : c = 65533 → writB T p = true) (hr : stepF s c = (s1, 0)) :
    scanF T (g + 1) p s = scanF T g (p + n) (advF s1 c) := by
  rw [dec_drop] at hd
  rw [scanF, if_pos hp, hd]
  have h1 : readF s c = (advF s1 c, 0) := by
    unfold readF
    rw [hr, if_pos rfl]
  simp only
  rw [if_neg (by rintro ⟨h, k⟩; rw [hb h] at k; cases k), h1, if_pos rfl]

theorem quo_acc (l : List UInt8) : ∀ (f pos : Nat) (acc t : List UInt8), quoF l f pos acc = some t → ∃ q, t = acc ++ q := by
  intro f
  induction f with
  | zero => intro pos acc t h; cases h
  | succ f ih =>
    intro pos acc t h
    rw [quoF] at h
    split at h
    · split at h
      · cases h
      · obtain ⟨q, hq⟩ := ih _ _ _ h
        exact ⟨_, by rw [hq, List.append_assoc]⟩
    · cases h
      exact ⟨_, rfl⟩

theorem drop_add {α : Type} (T a b : List α) (p : Nat) (h : T.drop p = a ++ b) : T.drop (p + a.length) = b := by
  rw [← List.drop_drop, h, List.drop_left]

/-- The string's runes, one after another. -/
theorem back_go (l T z : List UInt8) : ∀ (f pos : Nat) (acc q : List UInt8) (p g : Nat) (s : RS), pos ≤ l.length → Lib.validD (l.drop pos) = true → quoF l f pos acc = some (acc ++ q) →
    T.drop p = q ++ z → s.mode = .str → s.text = l.take pos → q.length ≤ g →
    ∃ (s' : RS) (g' : Nat), scanF T g p s = scanF T g' (p + q.length) s' ∧ g ≤ g' + q.length ∧ s'.mode = .btw ∧ s'.line = s.line ∧ s'.words = s.words ++ [(s.kind, l, s.wl, s.wc)] := by
  intro f
  induction f with
  | zero => intro pos acc q p g s _ _ h; cases h
  | succ f ih =>
    intro pos acc q p g s h1 hv h hT hm ht hg
    rw [quoF] at h
    by_cases hp : pos < l.length
    · rw [if_pos hp] at h
      have hne : l.drop pos ≠ [] := by
        intro e
        have := congrArg List.length e
        simp at this
        omega
      have hst := Lib.validD_step (l.drop pos) hne
      have hwd := Lib.decode_width_pos ⟨l.toArray⟩ pos hp
      rw [hv] at hst
      have hb : ¬ ((Lib.decodeL (l.drop pos)).1 = 65533 ∧ (Lib.decodeL (l.drop pos)).2 = 1) := by
        intro e
        rw [if_pos e] at hst
        cases hst
      rw [if_neg hb, List.drop_drop] at hst
      have hi := dec_in l pos hp
      have he := Lib.encode_decode (l.drop pos) hne hb
      have hpre := fun r => dec_pre (l.drop pos) r hne hb
      rw [dec_drop] at hst hb he hpre
      generalize Utf8.decode ⟨l.toArray⟩ pos = d at h hst hb he hi hpre hwd
      obtain ⟨c, n⟩ := d
      simp only at h hst hb he hi hpre hwd
      split at h
      · cases h
      rename_i hc
      obtain ⟨q2, hq2⟩ := quo_acc _ _ _ _ _ h
      have hq : q = escF1 c ++ q2 := by
        rw [List.append_assoc] at hq2
        exact List.append_cancel_left hq2
      subst hq
      rw [← List.append_assoc] at h
      have htake : l.take (pos + n) = l.take pos ++ Lib.encodeRune (c : Int) := by
        rw [he, List.take_add]
      have fin : ∀ (s1 : RS) (g1 : Nat), scanF T g p s = scanF T g1 (p + (escF1 c).length) s1 → g ≤ g1 + (escF1 c).length → q2.length ≤ g1 → s1.mode = .str → s1.text = l.take (pos + n) → s1.line = s.line → s1.words = s.words → s1.kind = s.kind → s1.wl = s.wl → s1.wc = s.wc →
          ∃ (s' : RS) (g' : Nat), scanF T g p s = scanF T g' (p + (escF1 c ++ q2).length) s' ∧ g ≤ g' + (escF1 c ++ q2).length ∧ s'.mode = .btw ∧ s'.line = s.line ∧ s'.words = s.words ++ [(s.kind, l, s.wl, s.wc)] := by
        intro s1 g1 e1 e2 e2' e3 e4 e5 e6 e7 e8 e9
        obtain ⟨s', g', k1, k2, k3, k4, k5⟩ := ih (pos + n) (acc ++ escF1 c) q2 (p + (escF1 c).length) g1 s1 hi hst.symm h (by
          refine drop_add T _ _ p ?_
          rw [hT, List.append_assoc]) e3 e4 e2'
        refine ⟨s', g', ?_, ?_, k3, by rw [k4, e5], by rw [k5, e6, e7, e8, e9]⟩
        · rw [e1, k1, List.length_append, Nat.add_assoc]
        · rw [List.length_append]; omega
      rw [List.length_append] at hg
      have hlt : p + (escF1 c ++ q2 ++ z).length = T.length ∨ (escF1 c ++ q2 ++ z) = [] := by
        have := congrArg List.length hT
        rw [List.length_drop] at this
        by_cases e : (escF1 c ++ q2 ++ z) = []
        · exact .inr e
        · left
          have : 0 < (escF1 c ++ q2 ++ z).length := List.length_pos_iff.2 e
          omega
      by_cases hE : c = 10 ∨ c = 34 ∨ c = 92
      · -- two bytes
        obtain ⟨x, hx, hxc, hxs⟩ : ∃ x : UInt8, escF1 c = [92, x] ∧ x.toNat < 128 ∧ ∀ s0 : RS, s0.mode = .esc → stepF s0 x.toNat = ({ addF s0 (c : Int) with mode := .str }, 0) ∧ x.toNat ≠ 10 ∧ x.toNat ≠ 65533 := by
          rcases hE with rfl | rfl | rfl
          · exact ⟨110, rfl, by decide, fun s0 h0 => ⟨by unfold stepF; rw [h0]; rfl, by decide, by decide⟩⟩
          · exact ⟨34, rfl, by decide, fun s0 h0 => ⟨by unfold stepF; rw [h0]; rfl, by decide, by decide⟩⟩
          · exact ⟨92, rfl, by decide, fun s0 h0 => ⟨by unfold stepF; rw [h0]; rfl, by decide, by decide⟩⟩
        rw [hx] at hT hg hlt fin ⊢
        simp only [List.length_cons, List.length_nil, List.cons_append, List.nil_append] at hT hg hlt
        have hpl : p + 1 < T.length := by
          rcases hlt with e | e
          · simp at e; omega
          · cases e
        obtain ⟨g, rfl⟩ : ∃ k, g = k + 2 := ⟨g - 2, by omega⟩
        have d1 : Lib.decodeL (T.drop p) = (92, 1) := by
          rw [hT]
          exact Lib.decodeL_ascii 92 _ (by decide)
        have d2 : Lib.decodeL (T.drop (p + 1)) = (x.toNat, 1) := by
          have := drop_add T [92] (x :: (q2 ++ z)) p hT
          simp only [List.length_cons, List.length_nil] at this
          rw [this]
          exact Lib.decodeL_ascii x _ hxc
        have st1 : stepF s 92 = ({ s with mode := .esc }, 0) := by
          unfold stepF
          rw [hm]
          rfl
        obtain ⟨st2, n10, nff⟩ := hxs (advF { s with mode := .esc } 92) rfl
        refine fin (advF { addF (advF { s with mode := .esc } 92) (c : Int) with mode := .str } x.toNat) g ?_ (by simp) (by omega) rfl ?_ ?_ rfl rfl rfl rfl
        · rw [scan_step T (g + 1) p s _ 92 1 (by omega) d1 (by intro e; cases e) st1, scan_step T g (p + 1) _ _ x.toNat 1 hpl d2 (fun e => absurd e nff) st2]
          rfl
        · show (s.text ++ Lib.encodeRune (c : Int)) = _
          rw [ht, htake]
        · show (if x.toNat = 10 then _ else _) = _
          rw [if_neg n10]
          rfl
      · -- the rune itself
        have hx : escF1 c = Lib.encodeRune (c : Int) := by
          unfold escF1
          rw [if_neg (by omega), if_neg (by omega), if_neg (by omega)]
        have hxl : (escF1 c).length = n := by
          rw [hx, he, List.length_take, List.length_drop]
          omega
        have d1 : Lib.decodeL (T.drop p) = (c, n) := by
          rw [hT, List.append_assoc, hx, he]
          exact hpre _
        have hpl : p < T.length := by
          rcases hlt with e | e
          · rw [List.length_append, List.length_append] at e
            omega
          · have := congrArg List.length e
            rw [List.length_append, List.length_append, List.length_nil] at this
            omega
        obtain ⟨g, rfl⟩ : ∃ k, g = k + 1 := ⟨g - 1, by omega⟩
        have st1 : stepF s c = (addF s (c : Int), 0) := by
          unfold stepF
          rw [hm]
          simp only
          unfold strF ctB
          rw [if_neg (by omega), if_neg (by simp; omega), if_neg (by omega), if_neg (by omega)]
        refine fin (advF (addF s (c : Int)) c) g ?_ (by omega) (by omega) hm ?_ ?_ rfl rfl rfl rfl
        · rw [scan_step T g p s _ c n hpl d1 ?_ st1, hxl]
          intro e
          unfold writB
          rw [hT, List.append_assoc, hx, e]
          rfl
        · show (s.text ++ Lib.encodeRune (c : Int)) = _
          rw [ht, htake]
        · show (if c = 10 then _ else _) = _
          rw [if_neg (by omega)]
          rfl
    · rw [if_neg hp] at h
      have hq : q = [34] := by
        have := Option.some.inj h
        exact (List.append_cancel_left this).symm
      subst hq
      have hpl : p < T.length := by
        have := congrArg List.length hT
        simp at this
        omega
      obtain ⟨g, rfl⟩ : ∃ k, g = k + 1 := ⟨g - 1, by simp at hg; omega⟩
      have d1 : Lib.decodeL (T.drop p) = (34, 1) := by
        rw [hT]
        exact Lib.decodeL_ascii 34 _ (by decide)
      have st1 : stepF s 34 = (endF s, 0) := by
        unfold stepF
        rw [hm]
        rfl
      refine ⟨advF (endF s) 34, g, ?_, by simp, rfl, rfl, ?_⟩
      · exact scan_step T g p s _ 34 1 hpl d1 (by intro e; cases e) st1
      · show s.words ++ [(s.kind, s.text, s.wl, s.wc)] = _
        rw [ht, List.take_of_length_le (by omega)]
end Go.Proofs.YthbplchbolghjaaGreatDoor.Sc

namespace Go.Proofs.YthbplchbolghjaaGreatDoor.Sc
open Go.RowKit

theorem pre_fffd (u : List UInt8) (h : Lib.hasPrefix u fffd = true) : ∃ r, u = 239 :: 191 :: 189 :: r := by
  match u, h with
  | [], h => exact absurd h (by decide)
  | [a], h => exact absurd h (by simp [Lib.hasPrefix, fffd])
  | [a, b], h => exact absurd h (by simp [Lib.hasPrefix, fffd])
  | a :: b :: c :: r, h =>
    refine ⟨r, ?_⟩
    simp [Lib.hasPrefix, fffd] at h
    obtain ⟨rfl, rfl, rfl⟩ := h
    rfl
theorem dec_fffd (r : List UInt8) : Lib.decodeL (239 :: 191 :: 189 :: r) = (65533, 3) := by
  rw [Lib.decodeL_N]
  simp only [List.getD_cons_zero, List.getD_cons_succ, List.length_cons]
  unfold Lib.decodeN
  rw [if_neg (by decide), if_neg (by intro h; exact absurd h.1 (by decide)), if_pos ⟨by decide, ⟨by omega, by decide⟩, by omega, by decide⟩, if_pos (by decide)]
  decide

theorem scan_ok (l : List UInt8) : ∀ (f pos : Nat) (s : RS) (ws : List (Int × List UInt8 × Nat × Nat)) (x0 x1 : Nat), pos ≤ l.length → l.length < pos + f → scanF l f pos s = (ws, x0, x1, 0) → x0 = 0 ∧ x1 = 0 ∧ Lib.validD (l.drop pos) = true := by
  intro f
  induction f with
  | zero => intro pos s ws x0 x1 h1 h2; omega
  | succ f ih =>
    intro pos s ws x0 x1 h1 h2 h
    rw [scanF] at h
    by_cases hp : pos < l.length
    · rw [if_pos hp] at h
      have hne : l.drop pos ≠ [] := by
        intro e
        have := congrArg List.length e
        simp at this
        omega
      have hst := Lib.validD_step (l.drop pos) hne
      have hwd := Lib.decode_width_pos ⟨l.toArray⟩ pos hp
      have hi := dec_in l pos hp
      split at h
      · simp only [Prod.mk.injEq] at h
        exact absurd h.2.2.2 (by decide)
      rename_i hw
      split at h
      · obtain ⟨k0, k1, k2⟩ := ih _ _ _ _ _ hi (by omega) h
        refine ⟨k0, k1, ?_⟩
        rw [hst, dec_drop, if_neg ?_, List.drop_drop]
        · exact k2
        · rintro ⟨e1, e2⟩
          have hw2 : writB l pos = true := by
            cases hwb : writB l pos
            · exact absurd ⟨e1, hwb⟩ hw
            · rfl
          obtain ⟨r, hr⟩ := pre_fffd _ hw2
          have := dec_fffd r
          rw [← hr, dec_drop] at this
          rw [this] at e2
          exact absurd e2 (by decide)
      · rename_i hr
        simp only [Prod.mk.injEq] at h
        exact absurd h.2.2.2 hr
    · rw [if_neg hp] at h
      have e : l.drop pos = [] := List.drop_eq_nil_of_le (by omega)
      split at h
      · simp only [Prod.mk.injEq] at h
        exact ⟨h.2.1.symm, h.2.2.1.symm, by rw [e]; rfl⟩
      · rename_i hr
        simp only [Prod.mk.injEq] at h
        exact absurd h.2.2.2 hr
end Go.Proofs.YthbplchbolghjaaGreatDoor.Sc

namespace Go.Proofs.YthbplchbolghjaaGreatDoor.Sc
open Go.RowKit

theorem scan_fuel (l : List UInt8) : ∀ (f g pos : Nat) (s : RS), pos ≤ l.length → l.length < pos + f → l.length < pos + g → scanF l f pos s = scanF l g pos s := by
  intro f
  induction f with
  | zero => intro g pos s h1 h2; omega
  | succ f ih =>
    intro g pos s h1 h2 h3
    obtain ⟨g, rfl⟩ : ∃ k, g = k + 1 := ⟨g - 1, by omega⟩
    rw [scanF, scanF]
    by_cases hp : pos < l.length
    · have hw := Lib.decode_width_pos ⟨l.toArray⟩ pos hp
      have hi := dec_in l pos hp
      rw [ih g _ _ hi (by omega) (by omega)]
    · rw [if_neg hp, if_neg hp]

/-- What is read from a place on. -/
def road (l : List UInt8) (pos : Nat) (s : RS) : Res := scanF l (l.length + 1 - pos) pos s
theorem words_road (l : List UInt8) (h : l.length ≤ 65536) : wordsF l = road l 0 rs0 := by
  unfold wordsF road
  rw [if_neg (by omega)]
  rfl

theorem writ_iff (l : List UInt8) (pos : Nat) (hp : pos < l.length) (hc : (Utf8.decode ⟨l.toArray⟩ pos).1 = 65533) : writB l pos = decide (1 < (Utf8.decode ⟨l.toArray⟩ pos).2) := by
  have hdd := dec_drop l pos
  have hne : l.drop pos ≠ [] := by
    intro e
    have := congrArg List.length e
    simp at this
    omega
  cases hw : writB l pos
  · symm
    rw [decide_eq_false_iff_not]
    intro hn
    have hv : ¬ ((Lib.decodeL (l.drop pos)).1 = 65533 ∧ (Lib.decodeL (l.drop pos)).2 = 1) := by
      rw [hdd]
      rintro ⟨_, h⟩
      omega
    have hen := Lib.encode_decode (l.drop pos) hne hv
    rw [hdd, hc] at hen
    have : writB l pos = true := by
      unfold writB
      rw [← List.take_append_drop (Utf8.decode ⟨l.toArray⟩ pos).2 (l.drop pos), ← hen]
      rfl
    rw [hw] at this
    cases this
  · symm
    rw [decide_eq_true_eq]
    obtain ⟨r, hr⟩ := pre_fffd _ hw
    have := dec_fffd r
    rw [← hr, hdd] at this
    rw [this]
    decide

theorem rune_at (l : List UInt8) (pos : Nat) (hp : pos < l.length) : runeF l pos = (((Utf8.decode ⟨l.toArray⟩ pos).1 : Int), !decide ((Utf8.decode ⟨l.toArray⟩ pos).1 = 65533) || decide (1 < (Utf8.decode ⟨l.toArray⟩ pos).2)) := by
  unfold runeF
  rw [if_pos hp]
theorem rune_end (l : List UInt8) (pos : Nat) (hp : ¬ pos < l.length) : runeF l pos = (-1, true) := by
  unfold runeF
  rw [if_neg hp]

theorem road_step (l : List UInt8) (pos c n : Nat) (s s1 : RS) (hp : pos < l.length) (hd : Utf8.decode ⟨l.toArray⟩ pos = (c, n)) (hb : (runeF l pos).2 = true) (hr : stepF s c = (s1, 0)) : road l pos s = road l (pos + n) (advF s1 c) := by
  have hw := Lib.decode_width_pos ⟨l.toArray⟩ pos hp
  have hi := dec_in l pos hp
  have hwr := writ_iff l pos hp
  rw [rune_at l pos hp] at hb
  rw [hd] at hw hi hb hwr
  simp only at hw hi hb hwr
  have h1 : readF s c = (advF s1 c, 0) := by
    unfold readF
    rw [hr, if_pos rfl]
  unfold road
  obtain ⟨g, hg⟩ : ∃ k, l.length + 1 - pos = k + 1 := ⟨l.length - pos, by omega⟩
  rw [hg, scanF, if_pos hp, hd]
  simp only
  rw [if_neg (by
    rintro ⟨h, k⟩
    rw [hwr h] at k
    subst h
    simp at hb k
    omega), h1, if_pos rfl]
  exact scan_fuel l _ _ _ _ hi (by omega) (by omega)
theorem road_bad (l : List UInt8) (pos : Nat) (s : RS) (hp : pos < l.length) (hb : (runeF l pos).2 = false) : road l pos s = ([], s.line, s.col, 4) := by
  have hwr := writ_iff l pos hp
  rw [rune_at l pos hp] at hb
  simp only [Bool.or_eq_false_iff, Bool.not_eq_false', decide_eq_true_eq] at hb
  unfold road
  obtain ⟨g, hg⟩ : ∃ k, l.length + 1 - pos = k + 1 := ⟨l.length - pos, by omega⟩
  rw [hg, scanF, if_pos hp, if_pos ⟨hb.1, by rw [hwr hb.1]; exact hb.2⟩]
theorem road_err (l : List UInt8) (pos c n : Nat) (s : RS) (e : Int) (hp : pos < l.length) (hd : Utf8.decode ⟨l.toArray⟩ pos = (c, n)) (hb : (runeF l pos).2 = true) (hr : (stepF s c).2 = e) (he : e ≠ 0) : road l pos s = ([], s.line, s.col, e) := by
  have hwr := writ_iff l pos hp
  rw [rune_at l pos hp] at hb
  rw [hd] at hb hwr
  simp only at hb hwr
  obtain ⟨f1, f2, _, _⟩ := step_facts s c
  have h1 : readF s c = stepF s c := by
    unfold readF
    rw [if_neg (by rw [hr]; exact he)]
  unfold road
  obtain ⟨g, hg⟩ : ∃ k, l.length + 1 - pos = k + 1 := ⟨l.length - pos, by omega⟩
  rw [hg, scanF, if_pos hp, hd]
  simp only
  rw [if_neg (by
    rintro ⟨h, k⟩
    rw [hwr h] at k
    subst h
    simp at hb k
    omega), h1, if_neg (by rw [hr]; exact he), f1, f2, hr]
theorem road_fin (l : List UInt8) (pos : Nat) (s s1 : RS) (hp : ¬ pos < l.length) (hi : pos ≤ l.length) (hr : stepF s 10 = (s1, 0)) : road l pos s = (s1.words, 0, 0, 0) := by
  have h1 : readF s 10 = (advF s1 10, 0) := by
    unfold readF
    rw [hr, if_pos rfl]
  unfold road
  obtain ⟨g, hg⟩ : ∃ k, l.length + 1 - pos = k + 1 := ⟨l.length - pos, by omega⟩
  rw [hg, scanF, if_neg hp, h1, if_pos rfl]
  rfl
theorem road_out (l : List UInt8) (pos : Nat) (s : RS) (e : Int) (hp : ¬ pos < l.length) (hi : pos ≤ l.length) (hr : (stepF s 10).2 = e) (he : e ≠ 0) : road l pos s = ([], s.line, s.col, e) := by
  obtain ⟨f1, f2, _, _⟩ := step_facts s 10
  have h1 : readF s 10 = stepF s 10 := by
    unfold readF
    rw [if_neg (by rw [hr]; exact he)]
  unfold road
  obtain ⟨g, hg⟩ : ∃ k, l.length + 1 - pos = k + 1 := ⟨l.length - pos, by omega⟩
  rw [hg, scanF, if_neg hp, h1, if_neg (by rw [hr]; exact he), f1, f2, hr]

/-- The rune that is read at a place; at the end: a line's end. -/
def nextC (l : List UInt8) (pos : Nat) : Nat := if pos < l.length then (Utf8.decode ⟨l.toArray⟩ pos).1 else 10
/-- Two that make the same step of it go the same way. -/
theorem road_swap (l : List UInt8) (pos : Nat) (s t : RS) (h : stepF s (nextC l pos) = stepF t (nextC l pos)) (h1 : s.line = t.line) (h2 : s.col = t.col) : road l pos s = road l pos t := by
  unfold nextC at h
  have hr : readF s (nextC l pos) = readF t (nextC l pos) := by
    unfold readF nextC
    rw [h]
  unfold nextC at hr
  unfold road
  rcases hg : l.length + 1 - pos with _ | g
  · rfl
  rw [scanF, scanF, h1, h2]
  by_cases hp : pos < l.length
  · rw [if_pos hp] at hr
    rw [if_pos hp, if_pos hp, hr]
  · rw [if_neg hp] at hr
    rw [if_neg hp, if_neg hp, hr]
end Go.Proofs.YthbplchbolghjaaGreatDoor.Sc

namespace Go.Proofs.YthbplchbolghjaaGreatDoor.Sc
open Go.RowKit

def smI (c : Int) : Bool := decide (97 ≤ c ∧ c ≤ 122)
def dgI (c : Int) : Bool := decide (48 ≤ c ∧ c ≤ 57)
def sgI (c : Int) : Bool := decide (c = 123 ∨ c = 125 ∨ c = 58 ∨ c = 59 ∨ c = 42)
def goI (m : Bool) (c : Int) : Bool := smI c || dgI c || (if m = true then decide (c = 45) else decide (65 ≤ c ∧ c ≤ 90) || decide (c = 46) || decide (c = 37))
def enI (c : Int) : Bool := decide (c < 0 ∨ c = 32 ∨ c = 9 ∨ c = 10 ∨ c = 35) || sgI c
theorem rsmall_any (c : Int) (w : World) : Calls Tryz.prog 106 #[.int .i64 c] w fun e w' => e = .returned (.bool (smI c)) ∧ w = w' := by
  go_enter Tryz.func106, Tryz.ntmps106
  go_wp2
  all_goals
    go_ret
    refine ⟨retB ?_, rfl⟩
    unfold smI
    rw [Bool.eq_iff_iff]
    simp
    try omega
theorem rdigit_any (c : Int) (w : World) : Calls Tryz.prog 107 #[.int .i64 c] w fun e w' => e = .returned (.bool (dgI c)) ∧ w = w' := by
  go_enter Tryz.func107, Tryz.ntmps107
  go_wp2
  all_goals
    go_ret
    refine ⟨retB ?_, rfl⟩
    unfold dgI
    rw [Bool.eq_iff_iff]
    simp
    try omega
theorem rsign_any (c : Int) (w : World) : Calls Tryz.prog 108 #[.int .i64 c] w fun e w' => e = .returned (.bool (sgI c)) ∧ w = w' := by
  go_enter Tryz.func108, Tryz.ntmps108
  go_wp2
  all_goals
    go_ret
    refine ⟨retB ?_, rfl⟩
    unfold sgI
    rw [Bool.eq_iff_iff]
    simp at *
    omega
set_option maxHeartbeats 1000000 in
theorem goes1_any (c : Int) (w : World) : Calls Tryz.prog 131 #[.int .i64 c, .int .i64 1] w fun e w' => e = .returned (.bool (goI true c)) ∧ w = w' := by
  cases h1 : smI c <;> cases h2 : dgI c <;> cases h3 : (c == 45) <;>
  (go_enter Tryz.func131, Tryz.ntmps131
   go_wp2_with (first | ((with_reducible refine (rsmall_any _ _).mono ?_); rintro e w9 ⟨rfl, rfl⟩) | ((with_reducible refine (rdigit_any _ _).mono ?_); rintro e w9 ⟨rfl, rfl⟩))
   go_ret
   refine ⟨retB ?_, rfl⟩
   unfold goI
   first | (have h3' : c = 45 := by simpa using h3) | (have h3' : ¬ c = 45 := by simpa using h3)
   simp [h1, h2, h3'])
set_option maxHeartbeats 1000000 in
theorem goes2_any (c : Int) (w : World) : Calls Tryz.prog 131 #[.int .i64 c, .int .i64 2] w fun e w' => e = .returned (.bool (goI false c)) ∧ w = w' := by
  cases h1 : smI c <;> cases h2 : dgI c <;>
  (go_enter Tryz.func131, Tryz.ntmps131
   go_wp2_with (first | ((with_reducible refine (rsmall_any _ _).mono ?_); rintro e w9 ⟨rfl, rfl⟩) | ((with_reducible refine (rdigit_any _ _).mono ?_); rintro e w9 ⟨rfl, rfl⟩))
   all_goals
     go_ret
     refine ⟨retB ?_, rfl⟩
     unfold goI
     first
       | decide
       | (rw [h1, h2, Bool.eq_iff_iff]
          simp
          try omega))
set_option maxHeartbeats 1000000 in
theorem ends_any (c : Int) (w : World) : Calls Tryz.prog 132 #[.int .i64 c] w fun e w' => e = .returned (.bool (enI c)) ∧ w = w' := by
  cases h1 : sgI c <;>
  (go_enter Tryz.func132, Tryz.ntmps132
   go_wp2_with (first | ((with_reducible refine (rsign_any _ _).mono ?_); rintro e w9 ⟨rfl, rfl⟩))
   all_goals
     go_ret
     refine ⟨retB ?_, rfl⟩
     unfold enI
     rw [h1, Bool.eq_iff_iff]
     simp at *
     try omega)
def escS (c : Int) : List UInt8 × Bool := if c = 34 then ([34], true) else if c = 92 then ([92], true) else if c = 110 then ([10], true) else ([], false)
theorem rescape_any (c : Int) (w : World) : Calls Tryz.prog 130 #[.int .i64 c] w fun e w' => e = .returned (.tuple #[strV (escS c).1, .bool (escS c).2]) ∧ w = w' := by
  unfold escS
  by_cases h1 : c = 34
  · subst h1
    go_enter Tryz.func130, Tryz.ntmps130
    go_wp2
    go_ret2
    exact ⟨rfl, rfl⟩
  by_cases h2 : c = 92
  · subst h2
    go_enter Tryz.func130, Tryz.ntmps130
    go_wp2
    go_ret2
    exact ⟨rfl, rfl⟩
  by_cases h3 : c = 110
  · subst h3
    go_enter Tryz.func130, Tryz.ntmps130
    go_wp2
    go_ret2
    exact ⟨rfl, rfl⟩
  have q1 : (c == 34) = false := by simpa using h1
  have q2 : (c == 92) = false := by simpa using h2
  have q3 : (c == 110) = false := by simpa using h3
  rw [if_neg h1, if_neg h2, if_neg h3]
  have H1 := Lib.hid h1
  have H2 := Lib.hid h2
  have H3 := Lib.hid h3
  clear h1 h2 h3
  go_enter Tryz.func130, Tryz.ntmps130
  go_wp2
  go_ret2
  exact ⟨rfl, rfl⟩

/- Mathematics: a name, or a number, goes on and ends. -/
theorem go_nam (c : Nat) : goI true (c : Int) = namB c := by
  unfold goI namB smI dgI smB dgB
  rw [Bool.eq_iff_iff]
  simp
  omega
theorem go_num2 (c : Nat) : goI false (c : Int) = numB c := by
  unfold goI numB smI dgI smB dgB cpB
  rw [Bool.eq_iff_iff]
  simp
  omega
theorem en_nat (c : Nat) : enI (c : Int) = true ↔ blB c = true ∨ sgB c = true ∨ c = 35 ∨ c = 10 := by
  unfold enI sgI blB sgB
  simp
  omega
def wmode (m : Bool) : Mode := if m = true then .nam else .num
theorem step_word (m : Bool) (t : RS) (c : Nat) (ht : t.mode = wmode m) : stepF t c = goF t c (goI m (c : Int)) := by
  unfold stepF
  rw [ht]
  cases m
  · rw [go_num2]
    rfl
  · rw [go_nam]
    rfl

/-- The reader stands at p; at p0 it stood as s. -/
structure OnW (l : List UInt8) (p0 : Nat) (s : RS) (p : Nat) (t : RS) : Prop where
  le : p0 ≤ p
  here : p ≤ l.length
  line : t.line ≤ p + 1
  col : t.col ≤ p + 1
  mode : t.mode = s.mode
  kind : t.kind = s.kind
  wl : t.wl = s.wl
  wc : t.wc = s.wc
  words : t.words = s.words
  road : Proofs.YthbplchbolghjaaGreatDoor.Sc.road l p0 s = Proofs.YthbplchbolghjaaGreatDoor.Sc.road l p t

theorem go_low (m : Bool) (c : Int) (h : goI m c = true) : 37 ≤ c ∧ c ≤ 122 := by
  unfold goI smI dgI at h
  cases m <;> simp at h <;> omega
theorem OnW.next {l : List UInt8} {p0 p c n : Nat} {s t t1 : RS} (h : OnW l p0 s p t) (hp : p < l.length) (hd : Utf8.decode ⟨l.toArray⟩ p = (c, n)) (hb : (runeF l p).2 = true) (hr : stepF t c = (t1, 0)) (hm : t1.mode = s.mode) (hk : t1.kind = s.kind) (h1 : t1.wl = s.wl) (h2 : t1.wc = s.wc) (h3 : t1.words = s.words) :
    OnW l p0 s (p + n) (advF t1 c) := by
  have hw := Lib.decode_width_pos ⟨l.toArray⟩ p hp
  have hi := dec_in l p hp
  obtain ⟨f1, f2, _, _⟩ := step_facts t c
  rw [hr] at f1 f2
  rw [hd] at hw hi
  simp only at f1 f2 hw hi
  have := h.line
  have := h.col
  have := h.le
  refine ⟨by omega, hi, ?_, ?_, hm, hk, h1, h2, h3, ?_⟩
  · show (if c = 10 then t1.line + 1 else t1.line) ≤ _
    split <;> omega
  · show (if c = 10 then 1 else t1.col + 1) ≤ _
    split <;> omega
  · rw [h.road]
    exact road_step l p c n t t1 hp hd hb hr

theorem enc_take (l : List UInt8) (p c n : Nat) (hp : p < l.length) (hd : Utf8.decode ⟨l.toArray⟩ p = (c, n)) (hv : ¬ (c = 65533 ∧ n = 1)) : Lib.encodeRune (c : Int) = (l.drop p).take n := by
  have hne : l.drop p ≠ [] := by
    intro e
    have := congrArg List.length e
    simp at this
    omega
  have hdd := dec_drop l p
  have h := Lib.encode_decode (l.drop p) hne (by rw [hdd, hd]; exact hv)
  rw [hdd, hd] at h
  exact h
theorem take_more (l : List UInt8) (p0 p n : Nat) (h : p0 ≤ p) : (l.drop p0).take (p - p0) ++ (l.drop p).take n = (l.drop p0).take (p + n - p0) := by
  rw [show p + n - p0 = (p - p0) + n by omega, List.take_add, List.drop_drop, show p0 + (p - p0) = p by omega]
theorem rune_ok (l : List UInt8) (p c n : Nat) (hp : p < l.length) (hd : Utf8.decode ⟨l.toArray⟩ p = (c, n)) (hc : c ≠ 65533) : runeF l p = ((c : Int), true) := by
  rw [rune_at l p hp, hd]
  simp [hc]

theorem plain_step {l : List UInt8} {p0 p c n : Nat} {s t : RS} (m : Bool) (h : OnW l p0 s p t) (hm : s.mode = wmode m) (ht : t.text = (l.drop p0).take (p - p0)) (hp : p < l.length) (hd : Utf8.decode ⟨l.toArray⟩ p = (c, n)) (hg : goI m (c : Int) = true) :
    OnW l p0 s (p + n) (advF (addF t (c : Int)) c) ∧ (advF (addF t (c : Int)) c).text = (l.drop p0).take (p + n - p0) := by
  have hlow := go_low m _ hg
  have hc : c ≠ 65533 := by omega
  refine ⟨h.next hp hd (by rw [rune_ok l p c n hp hd hc]) ?_ h.mode h.kind h.wl h.wc h.words, ?_⟩
  · rw [step_word m t c (by rw [h.mode, hm]), hg]
    rfl
  · show t.text ++ Lib.encodeRune (c : Int) = _
    rw [ht, enc_take l p c n hp hd (by omega), take_more l p0 p n h.le]

theorem plain_end {l : List UInt8} {p0 p : Nat} {s t : RS} (m : Bool) (h : OnW l p0 s p t) (hm : s.mode = wmode m) (hg : goI m (runeF l p).1 = false) :
    (enI (runeF l p).1 = true → road l p0 s = road l p (endF t)) ∧ (enI (runeF l p).1 = false → road l p0 s = ([], t.line, t.col, 4)) := by
  rw [h.road]
  by_cases hp : p < l.length
  · obtain ⟨c, n, hd⟩ : ∃ c n, Utf8.decode ⟨l.toArray⟩ p = (c, n) := ⟨_, _, rfl⟩
    have hr := rune_at l p hp
    rw [hd] at hr
    simp only at hr
    have hr1 : (runeF l p).1 = (c : Int) := by rw [hr]
    rw [hr1] at hg ⊢
    have hst := step_word m t c (by rw [h.mode, hm])
    rw [hg] at hst
    unfold goF at hst
    rw [if_neg (by simp)] at hst
    constructor
    · intro he
      have hen := (en_nat c).1 he
      rw [if_neg (by
        rintro ⟨a1, a2, a3, a4⟩
        rcases hen with k | k | k | k
        · rw [a1] at k; cases k
        · rw [a2] at k; cases k
        · exact a3 k
        · exact a4 k)] at hst
      refine road_swap l p t (endF t) ?_ rfl rfl
      unfold nextC
      rw [if_pos hp, hd]
      simp only
      rw [hst]
      rfl
    · intro he
      cases hb : (runeF l p).2
      · exact road_bad l p t hp hb
      · refine road_err l p c n t 4 hp hd hb ?_ (by decide)
        rw [if_pos ?_] at hst
        · rw [hst]
        · have hen : ¬ (blB c = true ∨ sgB c = true ∨ c = 35 ∨ c = 10) := fun k => by
            rw [(en_nat c).2 k] at he
            cases he
          simp only [not_or, Bool.not_eq_true] at hen
          exact ⟨hen.1, hen.2.1, hen.2.2.1, hen.2.2.2⟩
  · rw [rune_end l p hp]
    constructor
    · intro _
      refine road_swap l p t (endF t) ?_ rfl rfl
      unfold nextC
      rw [if_neg hp]
      have hst := step_word m t 10 (by rw [h.mode, hm])
      rw [show goI m ((10 : Nat) : Int) = false by cases m <;> rfl] at hst
      rw [hst]
      rfl
    · intro he
      cases he
end Go.Proofs.YthbplchbolghjaaGreatDoor.Sc

namespace Go.Proofs.YthbplchbolghjaaGreatDoor.Sc
open Go.RowKit

def kdI (m : Bool) : Int := if m = true then 1 else 2
theorem goes_any (m : Bool) (c : Int) (w : World) : Calls Tryz.prog 131 #[.int .i64 c, .int .i64 (kdI m)] w fun e w' => e = .returned (.bool (goI m c)) ∧ w = w' := by
  cases m
  · exact goes2_any c w
  · exact goes1_any c w

set_option maxRecDepth 100000 in
set_option maxHeartbeats 4000000 in
theorem plain_any (m : Bool) (b p0 : Nat) (l : List UInt8) (s : RS) (w : World) (hl : l.length ≤ 1000) (hm : s.mode = wmode m) (ht : s.text = []) (h0 : OnW l p0 s p0 s) (h : RfAt w b l p0 s.line s.col) (hT : ∀ w', w.grownBy w' (some b) → Utab w') :
    Calls Tryz.prog 110 #[.pointer (some ⟨b, 0, none⟩), .int .i64 (kdI m)] w fun e w' => ∃ p t, OnW l p0 s p t ∧ t.text = (l.drop p0).take (p - p0) ∧ RfAt w' b l p t.line t.col ∧ w.grownBy w' (some b) ∧ goI m (runeF l p).1 = false ∧ e = .returned (.tuple #[strV t.text, .bool (enI (runeF l p).1)]) := by
  have hbl := Blk.lt h
  have c1 : w.cell? ⟨b, 1, none⟩ = some (.int .i64 (p0 : Int)) := Blk.cell h 1
  have KR := Lib.hid (rune_any b l p0 s.line s.col w (by omega) h (hT w (World.grownBy.refl _ _)))
  have H := Lib.hid h
  have HT := Lib.hid hT
  have H0 := Lib.hid h0
  have HTx := Lib.hid ht
  have hp0 := h0.here
  generalize hkk : kdI m = kk
  have HKK := Lib.hid hkk
  clear h hT h0 ht hkk
  go_enter Tryz.func110, Tryz.ntmps110
  go_wp2_with fail
  refine KR.out.mono ?_
  rintro e w1 ⟨rfl, hb1⟩
  have HB1 := Lib.hid (grown_of_below hb1 (some b))
  have HR1 := Lib.hid (Blk.below (show Blk w _ _ _ from H.out) hb1 hbl)
  clear hb1 KR
  go_wp2_with fail
  go_loopw [7] (fun v wr => ∃ p t, v = .int .i64 (runeF l p).1 ∧ OnW l p0 s p t ∧ t.text = (l.drop p0).take (p - p0) ∧ RfAt wr b l p t.line t.col ∧ w.grownBy wr (some b)) (fun _ wr => l.length - (intOf ((wr.cell? ⟨b, 1, none⟩).getD (.int .i64 0))).toNat)
  case atStart => exact ⟨p0, s, rfl, H0.out, by rw [HTx.out, Nat.sub_self]; rfl, HR1.out, HB1.out⟩
  case round =>
    obtain ⟨p, t, rfl, hw, htx, hrf, hg⟩ := hrel
    have KG := Lib.hid (fun w => goes_any m (runeF l p).1 w)
    have hbr := Blk.lt hrf
    have HW := Lib.hid hw
    have HX := Lib.hid htx
    have HF := Lib.hid hrf
    have HG := Lib.hid hg
    have hph := hw.here
    have hpl := hw.line
    have hpc := hw.col
    have hp0p := hw.le
    clear hw htx hrf hg
    rw [HKK.out] at KG
    cases hgo : goI m (runeF l p).1
    · -- the end
      rw [hgo] at KG
      have HGo := Lib.hid hgo
      have a0 : wr.cell? ⟨b, 0, none⟩ = some (strV l) := Blk.cell HF.out 0
      have a1 : wr.cell? ⟨b, 1, none⟩ = some (.int .i64 (p : Int)) := Blk.cell HF.out 1
      have n0 : (0 : Int) ≤ (p0 : Int) := by omega
      have n1 : (p0 : Int) ≤ (p : Int) := by omega
      have n2 : (p : Int) ≤ (l.length : Int) := by omega
      clear hgo
      go_wp2_with (first | ((with_reducible refine (KG.out _).mono ?_); rintro e w9 ⟨rfl, rfl⟩) | ((with_reducible refine (ends_any _ _).mono ?_); rintro e w9 ⟨rfl, rfl⟩))
      go_region_held3 (fun w' => w'.cell? ⟨b, 0, none⟩ = some (strV l) ∧ w'.cell? ⟨b, 1, none⟩ = some (.int .i64 (p : Int)))
        (first | exact ⟨a0, a1⟩ | exact ⟨by assumption, by assumption⟩ | go_keep)
        (first | ((with_reducible refine (ends_any _ _).mono ?_); rintro e w3 ⟨rfl, rfl⟩))
      all_goals
        go_wp2_with fail
        go_ret2
        refine ⟨p, t, HW.out, HX.out, Blk.drew HF.out, grown_drew HG.out, HGo.out, ?_⟩
        rw [cut_mid, HX.out]
        rfl
    · -- on
      have hlow := go_low m _ hgo
      have hp : p < l.length := by
        rcases Nat.lt_or_ge p l.length with h | h
        · exact h
        · rw [rune_end l p (by omega)] at hlow
          omega
      obtain ⟨c, n, hd⟩ : ∃ c n, Utf8.decode ⟨l.toArray⟩ p = (c, n) := ⟨_, _, rfl⟩
      have hr1 : (runeF l p).1 = (c : Int) := by rw [rune_at l p hp, hd]
      rw [hgo] at KG
      rw [hr1] at KG hgo ⊢
      obtain ⟨st1, st2⟩ := plain_step m HW.out hm HX.out hp hd hgo
      have KO := on_any b l p t.line t.col wr (by omega) (by omega) (by omega) hp HF.out (HT.out _ HG.out)
      rw [hd] at KO
      simp only at KO
      have hpn := st1.here
      have hpw := Lib.decode_width_pos ⟨l.toArray⟩ p hp
      rw [hd] at hpw
      simp only at hpw
      generalize ht2 : advF (addF t (c : Int)) c = t2 at st1 st2
      have KO2 : Hid (Calls Tryz.prog 104 #[.pointer (some ⟨b, 0, none⟩)] wr fun e w' => e = .returned (.tuple #[]) ∧ RfAt w' b l (p + n) t2.line t2.col ∧ wr.grownBy w' (some b)) := Lib.hid (by rw [← ht2]; exact KO)
      have C1 : Hid (wr.cell? ⟨b, 1, none⟩ = some (.int .i64 (p : Int))) := Blk.cell HF.out 1
      obtain ⟨p2, hp2⟩ : ∃ q, p + n = q := ⟨_, rfl⟩
      rw [hp2] at KO2 st1 st2 hpn
      have S1 := Lib.hid st1
      have S2 := Lib.hid st2
      have hl2 := st1.line
      have hc2 := st1.col
      have HP2 : Hid (p < p2) := Lib.hid (by omega)
      clear hp2 KO st1 st2 hgo hd hr1 ht2
      go_wp2_with ((with_reducible refine (KG.out _).mono ?_); rintro e w9 ⟨rfl, rfl⟩)
      refine KO2.out.mono ?_
      rintro e w3 ⟨rfl, hr3, hg3⟩
      have G3 := Lib.hid (grown_trans HG.out hg3)
      have R3 := Lib.hid hr3
      have hb3 := Blk.lt hr3
      have KR3 := Lib.hid (rune_any b l p2 t2.line t2.col w3 (by omega) hr3 (HT.out _ G3.out))
      clear hr3 hg3 KO2
      go_wp2_with fail
      refine KR3.out.mono ?_
      rintro e w4 ⟨rfl, hb4⟩
      have G4 := Lib.hid (grown_below G3.out hb4)
      have R4 := Lib.hid (Blk.below (show Blk w3 _ _ _ from R3.out) hb4 hb3)
      clear hb4 KR3
      have C4 : Hid (w4.cell? ⟨b, 1, none⟩ = some (.int .i64 (p2 : Int))) := Blk.cell R4.out 1
      go_wp2_with fail
      go_roundw
      case rel => exact ⟨p2, t2, rfl, S1.out, S2.out, R4.out, G4.out⟩
      case measure =>
        have := HP2.out
        simp only [C1.out, C4.out, Option.getD_some, intOf]
        omega
end Go.Proofs.YthbplchbolghjaaGreatDoor.Sc

namespace Go.Proofs.YthbplchbolghjaaGreatDoor.Sc
open Go.RowKit

theorem tel_out (l : List UInt8) (p : Nat) (t : RS) (e : Int) (hi : p ≤ l.length) (h : (runeF l p).1 < 0 ∨ (runeF l p).1 = 10) (hs : (stepF t 10).2 = e) (he : e ≠ 0) : road l p t = ([], t.line, t.col, e) := by
  by_cases hp : p < l.length
  · obtain ⟨c, n, hd⟩ : ∃ c n, Utf8.decode ⟨l.toArray⟩ p = (c, n) := ⟨_, _, rfl⟩
    have hr := rune_at l p hp
    rw [hd] at hr
    simp only at hr
    rw [hr] at h
    simp only at h
    have hc : c = 10 := by omega
    subst hc
    exact road_err l p 10 n t e hp hd (by rw [hr]; rfl) hs he
  · exact road_out l p t e hp hi hs he
theorem tel_bad (l : List UInt8) (p c n : Nat) (t : RS) (hp : p < l.length) (hd : Utf8.decode ⟨l.toArray⟩ p = (c, n)) (h : (runeF l p).2 = false ∨ (stepF t c).2 = 4) : road l p t = ([], t.line, t.col, 4) := by
  cases hb : (runeF l p).2
  · exact road_bad l p t hp hb
  · rcases h with h | h
    · rw [hb] at h
      cases h
    · exact road_err l p c n t 4 hp hd hb h (by decide)
theorem step_str (t : RS) (c : Nat) (h : t.mode = .str) : stepF t c = strF t c := by
  unfold stepF
  rw [h]
theorem step_esc (t : RS) (c : Nat) (h : t.mode = .esc) : stepF t c = escF t c := by
  unfold stepF
  rw [h]
theorem str_ten (t : RS) (h : t.mode = .str) : (stepF t 10).2 = 3 := by
  rw [step_str t 10 h]
  rfl
theorem esc_ten (t : RS) (h : t.mode = .esc) : (stepF t 10).2 = 3 := by
  rw [step_esc t 10 h]
  rfl
theorem str_low (t : RS) (c : Nat) (h : t.mode = .str) (h1 : c < 32) (h2 : c ≠ 10) : (stepF t c).2 = 4 := by
  rw [step_str t c h]
  unfold strF ctB
  rw [if_neg h2, if_pos (by simpa using h1)]
theorem str_quo (t : RS) (h : t.mode = .str) : stepF t 34 = (endF t, 0) := by
  rw [step_str t 34 h]
  rfl
theorem str_bsl (t : RS) (h : t.mode = .str) : stepF t 92 = ({ t with mode := .esc }, 0) := by
  rw [step_str t 92 h]
  rfl
theorem str_any (t : RS) (c : Nat) (h : t.mode = .str) (h1 : ¬ c < 32) (h2 : c ≠ 34) (h3 : c ≠ 92) : stepF t c = (addF t (c : Int), 0) := by
  rw [step_str t c h]
  unfold strF ctB
  rw [if_neg (by omega), if_neg (by simpa using h1), if_neg h2, if_neg h3]
theorem esc_no (t : RS) (c : Nat) (h : t.mode = .esc) (h1 : (escS (c : Int)).2 = false) (h2 : c ≠ 10) : (stepF t c).2 = 4 := by
  rw [step_esc t c h]
  have h34 : c ≠ 34 := by rintro rfl; cases h1
  have h92 : c ≠ 92 := by rintro rfl; cases h1
  have h110 : c ≠ 110 := by rintro rfl; cases h1
  unfold escF
  rw [if_neg h2, if_neg (by omega), if_neg h110]
theorem esc_yes (t : RS) (c : Nat) (h : t.mode = .esc) (h1 : (escS (c : Int)).2 = true) : c ≠ 65533 ∧ c ≠ 10 ∧ ∃ t1 : RS, stepF t c = (t1, 0) ∧ t1.mode = .str ∧ t1.text = t.text ++ (escS (c : Int)).1 ∧ (escS (c : Int)).1.length = 1 ∧ t1.kind = t.kind ∧ t1.wl = t.wl ∧ t1.wc = t.wc ∧ t1.words = t.words ∧ t1.line = t.line ∧ t1.col = t.col := by
  have hc : c = 34 ∨ c = 92 ∨ c = 110 := by
    unfold escS at h1
    split at h1
    · left; omega
    · split at h1
      · right; left; omega
      · split at h1
        · right; right; omega
        · cases h1
  rw [step_esc t c h]
  rcases hc with rfl | rfl | rfl
  · exact ⟨by decide, by decide, _, rfl, rfl, rfl, rfl, rfl, rfl, rfl, rfl, rfl, rfl⟩
  · exact ⟨by decide, by decide, _, rfl, rfl, rfl, rfl, rfl, rfl, rfl, rfl, rfl, rfl⟩
  · exact ⟨by decide, by decide, _, rfl, rfl, rfl, rfl, rfl, rfl, rfl, rfl, rfl, rfl⟩

theorem run_joinQ (P : Program) (w : World) (s t : List UInt8) (h : s.length + t.length ≤ 100000) : (Op.stringOp .add ⟨s.toArray⟩ ⟨t.toArray⟩).run P w = .ok (strV (s ++ t)) w := by
  have h2 : (⟨s.toArray⟩ : ByteArray).size + (⟨t.toArray⟩ : ByteArray).size ≤ 9223372036854775807 := by
    show s.toArray.size + t.toArray.size ≤ _
    simp
    omega
  have e : (⟨s.toArray⟩ : ByteArray) ++ (⟨t.toArray⟩ : ByteArray) = ⟨(s ++ t).toArray⟩ := by
    apply ByteArray.ext
    simp [ByteArray.data_append]
  rw [run_string_add_sum _ _ _ h2, e]

/-- What quoted leaves. -/
def QuR (l : List UInt8) (p0 : Nat) (s : RS) (w : World) (b : Nat) (e : Ending) (w' : World) : Prop :=
  ∃ p t, p0 ≤ p ∧ p ≤ l.length ∧ t.line ≤ p + 1 ∧ t.col ≤ p + 1 ∧ RfAt w' b l p t.line t.col ∧ w.grownBy w' (some b) ∧
    ((∃ x, x.length ≤ p - p0 ∧ e = .returned (.tuple #[strV x, .int .i64 0]) ∧ t.mode = .btw ∧ t.words = s.words ++ [(s.kind, x, s.wl, s.wc)] ∧ road l p0 s = road l p t) ∨
     (∃ er : Int, er ≠ 0 ∧ e = .returned (.tuple #[strV [], .int .i64 er]) ∧ road l p0 s = ([], t.line, t.col, er)))

set_option maxRecDepth 100000 in
set_option maxHeartbeats 8000000 in
theorem quoted_any (b p0 : Nat) (l : List UInt8) (s : RS) (w : World) (hl : l.length ≤ 1000) (hm : s.mode = .str) (ht : s.text = []) (h0 : OnW l p0 s p0 s) (h : RfAt w b l p0 s.line s.col) (hT : ∀ w', w.grownBy w' (some b) → Utab w') :
    Calls Tryz.prog 109 #[.pointer (some ⟨b, 0, none⟩)] w (QuR l p0 s w b) := by
  have H := Lib.hid h
  have HT := Lib.hid hT
  have H0 := Lib.hid h0
  have HTx := Lib.hid ht
  clear h hT h0 ht
  go_enter Tryz.func109, Tryz.ntmps109
  go_wp2_with fail
  go_loopw [4] (fun v wr => ∃ p t, v = strV t.text ∧ OnW l p0 s p t ∧ t.text.length ≤ p - p0 ∧ RfAt wr b l p t.line t.col ∧ w.grownBy wr (some b)) (fun _ wr => l.length - (intOf ((wr.cell? ⟨b, 1, none⟩).getD (.int .i64 0))).toNat)
  case atStart => exact ⟨p0, s, by rw [HTx.out], H0.out, by rw [HTx.out]; simp, H.out, World.grownBy.refl _ _⟩
  case round =>
    obtain ⟨p, t, rfl, hw, htx, hrf, hg⟩ := hrel
    have hbr := Blk.lt hrf
    have hmt : t.mode = .str := hw.mode.trans hm
    have HMt := Lib.hid hmt
    have HW := Lib.hid hw
    have HF := Lib.hid hrf
    have HG := Lib.hid hg
    have hph := hw.here
    have hpl := hw.line
    have hpc := hw.col
    have hp0p := hw.le
    have KR := rune_any b l p t.line t.col wr (by omega) hrf (HT.out _ hg)
    have C1 : Hid (wr.cell? ⟨b, 1, none⟩ = some (.int .i64 (p : Int))) := Blk.cell hrf 1
    clear hw hrf hg hmt
    by_cases hp : p < l.length
    · obtain ⟨c, n, hd⟩ : ∃ c n, Utf8.decode ⟨l.toArray⟩ p = (c, n) := ⟨_, _, rfl⟩
      have hrr := rune_at l p hp
      rw [hd] at hrr
      simp only at hrr
      have KO := Lib.hid (fun w' (h : RfAt w' b l p t.line t.col) (hT : Utab w') => on_any b l p t.line t.col w' (by omega) (by omega) (by omega) hp h hT)
      have hpw := Lib.decode_width_pos ⟨l.toArray⟩ p hp
      have hpi := dec_in l p hp
      have hdl := decode_le ⟨l.toArray⟩ p
      rw [hd] at KO hpw hpi hdl
      simp only at KO hpw hpi hdl
      have hc0 : ¬ ((c : Int) < 0) := by omega
      have HD := Lib.hid hd
      by_cases h10 : c = 10
      · subst h10
        have hr : runeF l p = (10, true) := by rw [hrr]; rfl
        have HR : Hid (road l p0 s = ([], t.line, t.col, 3)) := Lib.hid (by rw [HW.out.road]; exact tel_out l p t 3 hph (.inr (by rw [hr])) (str_ten t HMt.out) (by decide))
        rw [hr] at KR
        clear hd hrr KO hr
        replace KR := Lib.hid KR
        go_wp2_with fail
        refine KR.out.mono ?_
        rintro e w3 ⟨rfl, hb3⟩
        have G3 := Lib.hid (grown_below HG.out hb3)
        have R3 := Lib.hid (Blk.below (show Blk wr _ _ _ from HF.out) hb3 hbr)
        have hb3s := Blk.lt R3.out
        clear hb3 KR
        go_wp2
        go_ret2
        exact ⟨p, t, hp0p, hph, hpl, hpc, R3.out, G3.out, .inr ⟨3, by decide, rfl, HR.out⟩⟩
      have q10 : ((c : Int) == 10) = false := by simp; omega
      cases his : (runeF l p).2
      · have hr : runeF l p = ((c : Int), false) := by rw [← his, hrr]
        have HR : Hid (road l p0 s = ([], t.line, t.col, 4)) := Lib.hid (by rw [HW.out.road]; exact tel_bad l p c n t hp HD.out (.inl his))
        rw [hr] at KR
        have H10 := Lib.hid h10
        clear hd hrr KO hr his h10
        replace KR := Lib.hid KR
        go_wp2_with fail
        refine KR.out.mono ?_
        rintro e w3 ⟨rfl, hb3⟩
        have G3 := Lib.hid (grown_below HG.out hb3)
        have R3 := Lib.hid (Blk.below (show Blk wr _ _ _ from HF.out) hb3 hbr)
        have hb3s := Blk.lt R3.out
        clear hb3 KR
        go_wp2
        go_ret2
        exact ⟨p, t, hp0p, hph, hpl, hpc, R3.out, G3.out, .inr ⟨4, by decide, rfl, HR.out⟩⟩
      have hr : runeF l p = ((c : Int), true) := by rw [← his, hrr]
      rw [hr] at KR
      have HIs := Lib.hid his
      clear hd hrr hr his
      replace KR := Lib.hid KR
      by_cases h32 : c < 32
      · have q32 : (c : Int) < 32 := by omega
        have HR : Hid (road l p0 s = ([], t.line, t.col, 4)) := Lib.hid (by rw [HW.out.road]; exact tel_bad l p c n t hp HD.out (.inr (str_low t c HMt.out h32 h10)))
        have H10 := Lib.hid h10
        clear KO h10 h32
        go_wp2_with fail
        refine KR.out.mono ?_
        rintro e w3 ⟨rfl, hb3⟩
        have G3 := Lib.hid (grown_below HG.out hb3)
        have R3 := Lib.hid (Blk.below (show Blk wr _ _ _ from HF.out) hb3 hbr)
        have hb3s := Blk.lt R3.out
        clear hb3 KR
        go_wp2
        go_ret2
        exact ⟨p, t, hp0p, hph, hpl, hpc, R3.out, G3.out, .inr ⟨4, by decide, rfl, HR.out⟩⟩
      have q32 : ¬ (c : Int) < 32 := by omega
      by_cases h34 : c = 34
      · subst h34
        have st := road_step l p 34 n t _ hp HD.out HIs.out (str_quo t HMt.out)
        have HR : Hid (road l p0 s = road l (p + n) (advF (endF t) 34)) := Lib.hid (by rw [HW.out.road]; exact st)
        obtain ⟨p2, hp2⟩ : ∃ q, p + n = q := ⟨_, rfl⟩
        rw [hp2] at KO HR hpi
        clear st h10 h32
        go_wp2_with fail
        refine KR.out.mono ?_
        rintro e w3 ⟨rfl, hb3⟩
        have G3 := Lib.hid (grown_below HG.out hb3)
        have R3 := Lib.hid (Blk.below (show Blk wr _ _ _ from HF.out) hb3 hbr)
        have hb3s := Blk.lt R3.out
        clear hb3 KR
        have KO3 := Lib.hid (KO.out _ R3.out (HT.out _ G3.out))
        go_wp2_with fail
        refine KO3.out.mono ?_
        rintro e w4 ⟨rfl, hr4, hg4⟩
        have G4 := Lib.hid (grown_trans G3.out hg4)
        have R4 := Lib.hid (show RfAt w4 b l p2 (advF (endF t) 34).line (advF (endF t) 34).col from hr4)
        clear hr4 hg4 KO3
        go_wp2
        go_ret2
        exact ⟨p2, advF (endF t) 34, by omega, hpi, by show t.line ≤ _; omega, by show t.col + 1 ≤ _; omega, R4.out, G4.out, .inl ⟨t.text, by omega, rfl, rfl, by show t.words ++ [(t.kind, t.text, t.wl, t.wc)] = _; rw [HW.out.words, HW.out.kind, HW.out.wl, HW.out.wc], HR.out⟩⟩
      have q34 : ((c : Int) == 34) = false := by simp; omega
      by_cases h92 : c = 92
      · subst h92
        have st := road_step l p 92 n t _ hp HD.out HIs.out (str_bsl t HMt.out)
        have hroad : road l p0 s = road l (p + n) (advF { t with mode := .esc } 92) := by rw [HW.out.road]; exact st
        obtain ⟨p2, hp2⟩ : ∃ q, p + n = q := ⟨_, rfl⟩
        rw [hp2] at KO hroad hpi
        obtain ⟨t2, ht2⟩ : ∃ q : RS, advF { t with mode := .esc } 92 = q := ⟨_, rfl⟩
        rw [ht2] at hroad
        have t2m : t2.mode = .esc := by rw [← ht2]; rfl
        have t2x : t2.text = t.text := by rw [← ht2]; rfl
        have t2k : t2.kind = t.kind := by rw [← ht2]; rfl
        have t2l : t2.wl = t.wl := by rw [← ht2]; rfl
        have t2c : t2.wc = t.wc := by rw [← ht2]; rfl
        have t2w : t2.words = t.words := by rw [← ht2]; rfl
        have t2li : t2.line ≤ p2 + 1 := by rw [← ht2]; show t.line ≤ _; omega
        have t2co : t2.col ≤ p2 + 1 := by rw [← ht2]; show t.col + 1 ≤ _; omega
        have HRo := Lib.hid hroad
        have HM2 := Lib.hid t2m
        have HX2 := Lib.hid t2x
        have HK2 := Lib.hid (And.intro t2k (And.intro t2l (And.intro t2c t2w)))
        have KO' : Hid (∀ w', RfAt w' b l p t.line t.col → Utab w' → Calls Tryz.prog 104 #[.pointer (some ⟨b, 0, none⟩)] w' fun e w'' => e = .returned (.tuple #[]) ∧ RfAt w'' b l p2 t2.line t2.col ∧ w'.grownBy w'' (some b)) := Lib.hid (fun w' h hT => by rw [← ht2]; exact KO.out w' h hT)
        have KR' := Lib.hid (fun w' (h : RfAt w' b l p2 t2.line t2.col) (hT : Utab w') => rune_any b l p2 t2.line t2.col w' (by omega) h hT)
        have HP2 : Hid (p < p2) := Lib.hid (by omega)
        have hpp2 : p < p2 := by omega
        clear st h10 h32 hroad KO ht2 t2m t2x t2k t2l t2c t2w hp2
        by_cases hpp : p2 < l.length
        · obtain ⟨c2, n2, hd2⟩ : ∃ c n, Utf8.decode ⟨l.toArray⟩ p2 = (c, n) := ⟨_, _, rfl⟩
          have hrr2 := rune_at l p2 hpp
          rw [hd2] at hrr2
          simp only at hrr2
          have KO2 := Lib.hid (fun w' (h : RfAt w' b l p2 t2.line t2.col) (hT : Utab w') => on_any b l p2 t2.line t2.col w' (by omega) (by omega) (by omega) hpp h hT)
          have hpw2 := Lib.decode_width_pos ⟨l.toArray⟩ p2 hpp
          have hpi2 := dec_in l p2 hpp
          have hdl2 := decode_le ⟨l.toArray⟩ p2
          rw [hd2] at KO2 hpw2 hpi2 hdl2
          simp only at KO2 hpw2 hpi2 hdl2
          have hc20 : ¬ ((c2 : Int) < 0) := by omega
          have HD2 := Lib.hid hd2
          have hr2 : (runeF l p2).1 = (c2 : Int) := by rw [hrr2]
          by_cases h210 : c2 = 10
          · subst h210
            have HR : Hid (road l p0 s = ([], t2.line, t2.col, 3)) := Lib.hid (by rw [HRo.out]; exact tel_out l p2 t2 3 hpi (.inr hr2) (esc_ten t2 HM2.out) (by decide))
            rw [hr2] at KR'
            clear hd2 hrr2 KO2 hr2
            go_wp2_with fail
            refine KR.out.mono ?_
            rintro e w3 ⟨rfl, hb3⟩
            have G3 := Lib.hid (grown_below HG.out hb3)
            have R3 := Lib.hid (Blk.below (show Blk wr _ _ _ from HF.out) hb3 hbr)
            have hb3s := Blk.lt R3.out
            clear hb3 KR
            have KO3 := Lib.hid (KO'.out _ R3.out (HT.out _ G3.out))
            go_wp2_with fail
            refine KO3.out.mono ?_
            rintro e w4 ⟨rfl, hr4, hg4⟩
            have G4 := Lib.hid (grown_trans G3.out hg4)
            have R4 := Lib.hid hr4
            have hb4 := Blk.lt hr4
            clear hr4 hg4 KO3
            have KR5 := Lib.hid (KR'.out _ R4.out (HT.out _ G4.out))
            go_wp2_with fail
            refine KR5.out.mono ?_
            rintro e w5 ⟨rfl, hb5⟩
            have G5 := Lib.hid (grown_below G4.out hb5)
            have R5 := Lib.hid (Blk.below (show Blk w4 _ _ _ from R4.out) hb5 hb4)
            clear hb5 KR5
            go_wp2
            go_ret2
            exact ⟨p2, t2, by omega, hpi, t2li, t2co, R5.out, G5.out, .inr ⟨3, by decide, rfl, HR.out⟩⟩
          have q210 : ((c2 : Int) == 10) = false := by simp; omega
          rw [hr2] at KR'
          have KE := Lib.hid (fun w => rescape_any (c2 : Int) w)
          cases hes : (escS (c2 : Int)).2
          · have HR : Hid (road l p0 s = ([], t2.line, t2.col, 4)) := Lib.hid (by rw [HRo.out]; exact tel_bad l p2 c2 n2 t2 hpp HD2.out (.inr (esc_no t2 c2 HM2.out hes h210)))
            rw [hes] at KE
            have H210 := Lib.hid h210
            clear hd2 hrr2 KO2 hr2 hes h210
            go_wp2_with fail
            refine KR.out.mono ?_
            rintro e w3 ⟨rfl, hb3⟩
            have G3 := Lib.hid (grown_below HG.out hb3)
            have R3 := Lib.hid (Blk.below (show Blk wr _ _ _ from HF.out) hb3 hbr)
            have hb3s := Blk.lt R3.out
            clear hb3 KR
            have KO3 := Lib.hid (KO'.out _ R3.out (HT.out _ G3.out))
            go_wp2_with fail
            refine KO3.out.mono ?_
            rintro e w4 ⟨rfl, hr4, hg4⟩
            have G4 := Lib.hid (grown_trans G3.out hg4)
            have R4 := Lib.hid hr4
            have hb4 := Blk.lt hr4
            clear hr4 hg4 KO3
            have KR5 := Lib.hid (KR'.out _ R4.out (HT.out _ G4.out))
            go_wp2_with fail
            refine KR5.out.mono ?_
            rintro e w5 ⟨rfl, hb5⟩
            have G5 := Lib.hid (grown_below G4.out hb5)
            have R5 := Lib.hid (Blk.below (show Blk w4 _ _ _ from R4.out) hb5 hb4)
            clear hb5 KR5
            go_wp2_with ((with_reducible refine (KE.out _).mono ?_); rintro e w9 ⟨rfl, rfl⟩)
            go_ret2
            exact ⟨p2, t2, by omega, hpi, t2li, t2co, R5.out, G5.out, .inr ⟨4, by decide, rfl, HR.out⟩⟩
          · obtain ⟨z1, z2, t3, z3, z4, z5, z6, z7, z8, z9, z10, z11, z12⟩ := esc_yes t2 c2 HM2.out hes
            have st := road_step l p2 c2 n2 t2 t3 hpp HD2.out (by rw [rune_ok l p2 c2 n2 hpp HD2.out z1]) z3
            rw [hes] at KE
            generalize hex : (escS (c2 : Int)).1 = ex at KE z5 z6
            obtain ⟨p3, hp3⟩ : ∃ q, p2 + n2 = q := ⟨_, rfl⟩
            rw [hp3] at KO2 st hpi2
            obtain ⟨t4, ht4⟩ : ∃ q : RS, advF t3 c2 = q := ⟨_, rfl⟩
            rw [ht4] at st
            have e4l : t4.line = (if c2 = 10 then t2.line + 1 else t2.line) := by rw [← ht4, ← z11]; rfl
            have e4c : t4.col = (if c2 = 10 then 1 else t2.col + 1) := by rw [← ht4, ← z12]; rfl
            have OW : OnW l p0 s p3 t4 := by
              refine ⟨by omega, hpi2, ?_, ?_, ?_, ?_, ?_, ?_, ?_, ?_⟩
              · rw [e4l, if_neg z2]; omega
              · rw [e4c, if_neg z2]; omega
              · rw [← ht4]; show t3.mode = _; rw [z4, hm]
              · rw [← ht4]; show t3.kind = _; rw [z7, HK2.out.1, HW.out.kind]
              · rw [← ht4]; show t3.wl = _; rw [z8, HK2.out.2.1, HW.out.wl]
              · rw [← ht4]; show t3.wc = _; rw [z9, HK2.out.2.2.1, HW.out.wc]
              · rw [← ht4]; show t3.words = _; rw [z10, HK2.out.2.2.2, HW.out.words]
              · rw [HRo.out]; exact st
            have e4x : t4.text = t.text ++ ex := by rw [← ht4]; show t3.text = _; rw [z5, HX2.out]
            have KO2' : Hid (∀ w', RfAt w' b l p2 t2.line t2.col → Utab w' → Calls Tryz.prog 104 #[.pointer (some ⟨b, 0, none⟩)] w' fun e w'' => e = .returned (.tuple #[]) ∧ RfAt w'' b l p3 t4.line t4.col ∧ w'.grownBy w'' (some b)) := Lib.hid (fun w' h hT => by rw [e4l, e4c]; exact KO2.out w' h hT)
            have HOW := Lib.hid OW
            have HP3 : Hid (p2 < p3) := Lib.hid (by omega)
            have H4x := Lib.hid e4x
            have hx1 : t.text.length + ex.length ≤ 2000 := by omega
            have hx2 : t.text.length + 1 ≤ p3 - p0 := by omega
            have H6 := Lib.hid z6
            clear z1 z2 z3 z4 z5 z7 z8 z9 z10 z11 z12 st hex hes h210 hd2 hrr2 hr2 KO2 e4l e4c OW ht4 hp3 e4x
            go_wp2_with fail
            refine KR.out.mono ?_
            rintro e w3 ⟨rfl, hb3⟩
            have G3 := Lib.hid (grown_below HG.out hb3)
            have R3 := Lib.hid (Blk.below (show Blk wr _ _ _ from HF.out) hb3 hbr)
            have hb3s := Blk.lt R3.out
            clear hb3 KR
            have KO3 := Lib.hid (KO'.out _ R3.out (HT.out _ G3.out))
            go_wp2_with fail
            refine KO3.out.mono ?_
            rintro e w4 ⟨rfl, hr4, hg4⟩
            have G4 := Lib.hid (grown_trans G3.out hg4)
            have R4 := Lib.hid hr4
            have hb4 := Blk.lt hr4
            clear hr4 hg4 KO3
            have KR5 := Lib.hid (KR'.out _ R4.out (HT.out _ G4.out))
            go_wp2_with fail
            refine KR5.out.mono ?_
            rintro e w5 ⟨rfl, hb5⟩
            have G5 := Lib.hid (grown_below G4.out hb5)
            have R5 := Lib.hid (Blk.below (show Blk w4 _ _ _ from R4.out) hb5 hb4)
            clear hb5 KR5
            go_wp2_with ((with_reducible refine (KE.out _).mono ?_); rintro e w9 ⟨rfl, rfl⟩)
            have KO6 := Lib.hid (KO2'.out _ R5.out (HT.out _ G5.out))
            refine KO6.out.mono ?_
            rintro e w6 ⟨rfl, hr6, hg6⟩
            have G6 := Lib.hid (grown_trans G5.out hg6)
            have R6 := Lib.hid hr6
            have hb6 := Blk.lt hr6
            have C6 : Hid (w6.cell? ⟨b, 1, none⟩ = some (.int .i64 (p3 : Int))) := Blk.cell hr6 1
            clear hr6 hg6 KO6
            have hjoin := fun w => run_joinQ Tryz.prog w t.text ex (by omega)
            go_wp2_with fail
            go_roundw
            case rel => exact ⟨p3, t4, by rw [H4x.out], HOW.out, by rw [H4x.out, List.length_append, H6.out]; exact hx2, R6.out, G6.out⟩
            case measure =>
              have := HP2.out
              have := HP3.out
              simp only [C1.out, C6.out, Option.getD_some, intOf]
              omega
        · have hr2 : (runeF l p2).1 = -1 := by rw [rune_end l p2 hpp]
          have HR : Hid (road l p0 s = ([], t2.line, t2.col, 3)) := Lib.hid (by rw [HRo.out]; exact tel_out l p2 t2 3 hpi (.inl (by rw [hr2]; decide)) (esc_ten t2 HM2.out) (by decide))
          rw [hr2] at KR'
          clear hr2
          go_wp2_with fail
          refine KR.out.mono ?_
          rintro e w3 ⟨rfl, hb3⟩
          have G3 := Lib.hid (grown_below HG.out hb3)
          have R3 := Lib.hid (Blk.below (show Blk wr _ _ _ from HF.out) hb3 hbr)
          have hb3s := Blk.lt R3.out
          clear hb3 KR
          have KO3 := Lib.hid (KO'.out _ R3.out (HT.out _ G3.out))
          go_wp2_with fail
          refine KO3.out.mono ?_
          rintro e w4 ⟨rfl, hr4, hg4⟩
          have G4 := Lib.hid (grown_trans G3.out hg4)
          have R4 := Lib.hid hr4
          have hb4 := Blk.lt hr4
          clear hr4 hg4 KO3
          have KR5 := Lib.hid (KR'.out _ R4.out (HT.out _ G4.out))
          go_wp2_with fail
          refine KR5.out.mono ?_
          rintro e w5 ⟨rfl, hb5⟩
          have G5 := Lib.hid (grown_below G4.out hb5)
          have R5 := Lib.hid (Blk.below (show Blk w4 _ _ _ from R4.out) hb5 hb4)
          clear hb5 KR5
          go_wp2
          go_ret2
          exact ⟨p2, t2, by omega, hpi, t2li, t2co, R5.out, G5.out, .inr ⟨3, by decide, rfl, HR.out⟩⟩
      · -- any other
        have q92 : ((c : Int) == 92) = false := by simp; omega
        have OW := HW.out.next hp HD.out HIs.out (str_any t c HMt.out h32 h34 h92) (HMt.out.trans hm.symm) HW.out.kind HW.out.wl HW.out.wc HW.out.words
        have hv : ¬ (c = 65533 ∧ n = 1) := by
          rintro ⟨rfl, rfl⟩
          have := HIs.out
          rw [rune_at l p hp, HD.out] at this
          cases this
        have htk := enc_take l p c n hp HD.out hv
        have e2x : (advF (addF t (c : Int)) c).text = t.text ++ (l.drop p).take n := by
          show t.text ++ Lib.encodeRune (c : Int) = _
          rw [htk]
        obtain ⟨p2, hp2⟩ : ∃ q, p + n = q := ⟨_, rfl⟩
        obtain ⟨t2, ht2⟩ : ∃ q : RS, advF (addF t (c : Int)) c = q := ⟨_, rfl⟩
        have hn : n = p2 - p := by omega
        rw [hp2] at KO OW hpi
        rw [ht2] at OW e2x
        rw [hn] at e2x
        have KO' : Hid (∀ w', RfAt w' b l p t.line t.col → Utab w' → Calls Tryz.prog 104 #[.pointer (some ⟨b, 0, none⟩)] w' fun e w'' => e = .returned (.tuple #[]) ∧ RfAt w'' b l p2 t2.line t2.col ∧ w'.grownBy w'' (some b)) := Lib.hid (fun w' h hT => by rw [← ht2]; exact KO.out w' h hT)
        have HOW := Lib.hid OW
        have H2x := Lib.hid e2x
        have HP2 : Hid (p < p2) := Lib.hid (by omega)
        have hx0 : ((l.drop p).take (p2 - p)).length = p2 - p := by rw [List.length_take, List.length_drop]; omega
        have hx1 : t.text.length + ((l.drop p).take (p2 - p)).length ≤ 2000 := by omega
        have hx2 : t.text.length + (p2 - p) ≤ p2 - p0 := by omega
        have HX0 := Lib.hid hx0
        have n0 : (0 : Int) ≤ (p : Int) := by omega
        have n1 : (p : Int) ≤ (p2 : Int) := by omega
        have n2 : (p2 : Int) ≤ (l.length : Int) := by omega
        have H10 := Lib.hid h10
        have H34 := Lib.hid h34
        have H92 := Lib.hid h92
        have H32 := Lib.hid h32
        clear OW hv htk e2x KO ht2 hp2 hn hx0 h10 h34 h92 h32
        go_wp2_with fail
        refine KR.out.mono ?_
        rintro e w3 ⟨rfl, hb3⟩
        have G3 := Lib.hid (grown_below HG.out hb3)
        have R3 := Lib.hid (Blk.below (show Blk wr _ _ _ from HF.out) hb3 hbr)
        have hb3s := Blk.lt R3.out
        clear hb3 KR
        have KO3 := Lib.hid (KO'.out _ R3.out (HT.out _ G3.out))
        have a1 : w3.cell? ⟨b, 1, none⟩ = some (.int .i64 (p : Int)) := Blk.cell R3.out 1
        go_wp2_with fail
        refine KO3.out.mono ?_
        rintro e w4 ⟨rfl, hr4, hg4⟩
        have G4 := Lib.hid (grown_trans G3.out hg4)
        have R4 := Lib.hid hr4
        have a0 : w4.cell? ⟨b, 0, none⟩ = some (strV l) := Blk.cell hr4 0
        have a2 : w4.cell? ⟨b, 1, none⟩ = some (.int .i64 (p2 : Int)) := Blk.cell hr4 1
        have C4 := Lib.hid a2
        clear hr4 hg4 KO3 a1
        go_wp2_with fail
        go_quiet (fail)
        go_wp2_with fail
        go_roundw
        case rel =>
          refine ⟨p2, t2, ?_, HOW.out, by rw [H2x.out, List.length_append, HX0.out]; exact hx2, Blk.drewN R4.out _, grown_drewN G4.out _⟩
          rw [H2x.out]
          first
            | exact strEqR (by rw [cut_mid]; exact join_baR _ _)
            | exact strEqR (join_baR _ _)
            | rfl
        case measure =>
          have := HP2.out
          simp only [World.cell?_drewN, C1.out, C4.out, Option.getD_some, intOf]
          omega
    · have hr : runeF l p = (-1, true) := rune_end l p hp
      have HR : Hid (road l p0 s = ([], t.line, t.col, 3)) := Lib.hid (by rw [HW.out.road]; exact tel_out l p t 3 hph (.inl (by rw [hr]; decide)) (str_ten t HMt.out) (by decide))
      rw [hr] at KR
      clear hr
      replace KR := Lib.hid KR
      go_wp2_with fail
      refine KR.out.mono ?_
      rintro e w3 ⟨rfl, hb3⟩
      have G3 := Lib.hid (grown_below HG.out hb3)
      have R3 := Lib.hid (Blk.below (show Blk wr _ _ _ from HF.out) hb3 hbr)
      have hb3s := Blk.lt R3.out
      clear hb3 KR
      go_wp2
      go_ret2
      exact ⟨p, t, hp0p, hph, hpl, hpc, R3.out, G3.out, .inr ⟨3, by decide, rfl, HR.out⟩⟩
end Go.Proofs.YthbplchbolghjaaGreatDoor.Sc

namespace Go.Proofs.YthbplchbolghjaaGreatDoor.Sc
open Go.RowKit

theorem step_btw (t : RS) (c : Nat) (h : t.mode = .btw) : stepF t c = betF t c := by
  unfold stepF
  rw [h]
theorem step_com (t : RS) (c : Nat) (h : t.mode = .com) : stepF t c = comF t c := by
  unfold stepF
  rw [h]
theorem step_blank (t : RS) (c : Nat) (h : t.mode = .btw) (hc : c = 32 ∨ c = 9 ∨ c = 10) : stepF t c = (t, 0) := by
  rw [step_btw t c h]
  unfold betF blB
  rw [if_pos (by
    rcases hc with rfl | rfl | rfl
    · exact .inr rfl
    · exact .inr rfl
    · exact .inl rfl)]
theorem com_in (l : List UInt8) (p n : Nat) (t : RS) (h : t.mode = .btw) (hp : p < l.length) (hd : Utf8.decode ⟨l.toArray⟩ p = (35, n)) : road l p t = road l p { t with mode := .com } := by
  refine road_swap l p _ _ ?_ rfl rfl
  unfold nextC
  rw [if_pos hp, hd]
  simp only
  rw [step_btw t 35 h, step_com _ 35 rfl]
  rfl
theorem com_out (l : List UInt8) (p : Nat) (t : RS) (h : t.mode = .com) (hc : (runeF l p).1 < 0 ∨ (runeF l p).1 = 10) : road l p t = road l p { t with mode := .btw } := by
  refine road_swap l p _ _ ?_ rfl rfl
  have hn : nextC l p = 10 := by
    unfold nextC
    by_cases hp : p < l.length
    · rw [if_pos hp]
      rw [rune_at l p hp] at hc
      simp only at hc
      omega
    · rw [if_neg hp]
  rw [hn, step_com t 10 h, step_btw _ 10 rfl]
  rfl
theorem com_step (t : RS) (c : Nat) (h : t.mode = .com) (hc : c ≠ 10) : stepF t c = (t, 0) := by
  rw [step_com t c h]
  unfold comF
  rw [if_neg hc]

theorem RfAt.c1 {w : World} {b : Nat} {l : List UInt8} {a ln cl : Nat} (h : RfAt w b l a ln cl) : w.cell? ⟨b, 1, none⟩ = some (.int .i64 (a : Int)) := Blk.cell h 1
/-- What skip leaves. -/
def SkR (l : List UInt8) (p0 : Nat) (s : RS) (w : World) (b : Nat) (e : Ending) (w' : World) : Prop :=
  ∃ p t, p0 ≤ p ∧ p ≤ l.length ∧ t.line ≤ p + 1 ∧ t.col ≤ p + 1 ∧ RfAt w' b l p t.line t.col ∧ w.grownBy w' (some b) ∧
    ((e = .returned (.bool true) ∧ t.mode = .btw ∧ t.words = s.words ∧ road l p0 s = road l p t ∧ (runeF l p).1 ≠ 35 ∧ (runeF l p).1 ≠ 32 ∧ (runeF l p).1 ≠ 9 ∧ (runeF l p).1 ≠ 10) ∨
     (e = .returned (.bool false) ∧ road l p0 s = ([], t.line, t.col, 4)))

set_option maxRecDepth 100000 in
set_option maxHeartbeats 8000000 in
theorem skip_any (b p0 : Nat) (l : List UInt8) (s : RS) (w : World) (hl : l.length ≤ 1000) (hm : s.mode = .btw) (h0 : OnW l p0 s p0 s) (h : RfAt w b l p0 s.line s.col) (hT : ∀ w', w.grownBy w' (some b) → Utab w') :
    Calls Tryz.prog 73 #[.pointer (some ⟨b, 0, none⟩)] w (SkR l p0 s w b) := by
  have H := Lib.hid h
  have HT := Lib.hid hT
  have H0 := Lib.hid h0
  clear h hT h0
  go_enter Tryz.func73, Tryz.ntmps73
  go_wp2_with fail
  go_loopw [] (fun wr => ∃ p t, OnW l p0 s p t ∧ RfAt wr b l p t.line t.col ∧ w.grownBy wr (some b)) (fun wr => l.length - (intOf ((wr.cell? ⟨b, 1, none⟩).getD (.int .i64 0))).toNat)
  case atStart => exact ⟨p0, s, H0.out, H.out, World.grownBy.refl _ _⟩
  case round =>
    obtain ⟨p, t, hw, hrf, hg⟩ := hrel
    have hbr := Blk.lt hrf
    have HMt : Hid (t.mode = .btw) := Lib.hid (hw.mode.trans hm)
    have HW := Lib.hid hw
    have HF := Lib.hid hrf
    have HG := Lib.hid hg
    have hph := hw.here
    have hpl := hw.line
    have hpc := hw.col
    have hp0p := hw.le
    have KR := rune_any b l p t.line t.col wr (by omega) hrf (HT.out _ hg)
    have C1 : Hid (wr.cell? ⟨b, 1, none⟩ = some (.int .i64 (p : Int))) := Blk.cell hrf 1
    clear hw hrf hg
    by_cases hp : p < l.length
    · obtain ⟨c, n, hd⟩ : ∃ c n, Utf8.decode ⟨l.toArray⟩ p = (c, n) := ⟨_, _, rfl⟩
      have hrr := rune_at l p hp
      rw [hd] at hrr
      simp only at hrr
      have KO := Lib.hid (fun w' (h : RfAt w' b l p t.line t.col) (hT : Utab w') => on_any b l p t.line t.col w' (by omega) (by omega) (by omega) hp h hT)
      have hpw := Lib.decode_width_pos ⟨l.toArray⟩ p hp
      have hpi := dec_in l p hp
      have hdl := decode_le ⟨l.toArray⟩ p
      rw [hd] at KO hpw hpi hdl
      simp only at KO hpw hpi hdl
      have HD := Lib.hid hd
      by_cases h35 : c = 35
      · subst h35
        have hr : runeF l p = (35, true) := by rw [hrr]; rfl
        have hrc : road l p0 s = road l p { t with mode := .com } := by rw [HW.out.road]; exact com_in l p n t HMt.out hp HD.out
        have HRo := Lib.hid hrc
        have HR1 := Lib.hid hr
        rw [hr] at KR
        clear hd hrr KO hr hrc
        replace KR := Lib.hid KR
        go_wp2_with fail
        refine KR.out.mono ?_
        rintro e w3 ⟨rfl, hb3⟩
        have G3 := Lib.hid (grown_below HG.out hb3)
        have R3 := Lib.hid (Blk.below (show Blk wr _ _ _ from HF.out) hb3 hbr)
        have hb3s := Blk.lt R3.out
        clear hb3 KR
        go_wp2_with fail
        go_loopw [3, 4] (fun vc vi wq => ∃ q u, vc = .int .i64 (runeF l q).1 ∧ vi = .bool (runeF l q).2 ∧ OnW l p { t with mode := .com } q u ∧ RfAt wq b l q u.line u.col ∧ w.grownBy wq (some b)) (fun _ _ wq => l.length - (intOf ((wq.cell? ⟨b, 1, none⟩).getD (.int .i64 0))).toNat)
        case atStart => exact ⟨p, { t with mode := .com }, by rw [HR1.out], by rw [HR1.out], ⟨Nat.le_refl _, hph, hpl, hpc, rfl, rfl, rfl, rfl, rfl, rfl⟩, R3.out, G3.out⟩
        case round =>
          obtain ⟨q, u, rfl, rfl, hu, hrq, hgq⟩ := hrel
          have hbq := Blk.lt hrq
          have hum : u.mode = .com := hu.mode
          have HU := Lib.hid hu
          have HM2 := Lib.hid hum
          have HF2 := Lib.hid hrq
          have HG2 := Lib.hid hgq
          have hqh := hu.here
          have hql := hu.line
          have hqc := hu.col
          have hpq := hu.le
          have C2 := Lib.hid (RfAt.c1 hrq)
          clear hu hrq hgq hum
          by_cases hq : q < l.length
          · obtain ⟨c2, n2, hd2⟩ : ∃ c n, Utf8.decode ⟨l.toArray⟩ q = (c, n) := ⟨_, _, rfl⟩
            have hrr2 := rune_at l q hq
            rw [hd2] at hrr2
            simp only at hrr2
            have hpw2 := Lib.decode_width_pos ⟨l.toArray⟩ q hq
            have hpi2 := dec_in l q hq
            have KO2 := Lib.hid (fun w' (h : RfAt w' b l q u.line u.col) (hT : Utab w') => on_any b l q u.line u.col w' (by omega) (by omega) (by omega) hq h hT)
            rw [hd2] at hpw2 hpi2 KO2
            simp only at hpw2 hpi2 KO2
            have HD2 := Lib.hid hd2
            have hc20 : (0 : Int) ≤ (c2 : Int) := by omega
            have hc21 : ¬ (c2 : Int) < 0 := by omega
            by_cases h210 : c2 = 10
            · subst h210
              have hr2 : runeF l q = (10, true) := by rw [hrr2]; rfl
              have hpq2 : p < q := by
                rcases Nat.lt_or_ge p q with h | h
                · exact h
                · exfalso
                  have e : p = q := by omega
                  have h3 := HR1.out
                  rw [e, hr2] at h3
                  cases h3
              have hro : road l p0 s = road l q { u with mode := .btw } := by rw [HRo.out, HU.out.road]; exact com_out l q u HM2.out (.inr (by rw [hr2]))
              have HRq := Lib.hid hro
              rw [hr2]
              clear hd2 hrr2 KO2 hr2 hro
              go_wp2_with fail
              go_roundw
              case rel => exact ⟨q, { u with mode := .btw }, ⟨by omega, hqh, hql, hqc, hm.symm, HU.out.kind.trans HW.out.kind, HU.out.wl.trans HW.out.wl, HU.out.wc.trans HW.out.wc, HU.out.words.trans HW.out.words, HRq.out⟩, HF2.out, HG2.out⟩
              case measure =>
                simp only [C1.out, C2.out, Option.getD_some, intOf]
                omega
            have q210 : ((c2 : Int) != 10) = true := by simp; omega
            cases his : (runeF l q).2
            · have hr2 : runeF l q = ((c2 : Int), false) := by rw [← his, hrr2]
              have HR : Hid (road l p0 s = ([], u.line, u.col, 4)) := Lib.hid (by rw [HRo.out, HU.out.road]; exact road_bad l q u hq his)
              rw [hr2]
              have H210 := Lib.hid h210
              clear hd2 hrr2 KO2 hr2 his h210
              go_wp2_with fail
              go_ret
              exact ⟨q, u, by omega, hqh, hql, hqc, HF2.out, HG2.out, .inr ⟨rfl, HR.out⟩⟩
            · have hr2 : runeF l q = ((c2 : Int), true) := by rw [← his, hrr2]
              have OW := HU.out.next hq HD2.out his (com_step u c2 HM2.out h210) HU.out.mode HU.out.kind HU.out.wl HU.out.wc HU.out.words
              obtain ⟨q2, hq2⟩ : ∃ z, q + n2 = z := ⟨_, rfl⟩
              obtain ⟨u2, hu2⟩ : ∃ z : RS, advF u c2 = z := ⟨_, rfl⟩
              rw [hq2, hu2] at OW
              rw [hq2] at KO2 hpi2
              have KO' : Hid (∀ w', RfAt w' b l q u.line u.col → Utab w' → Calls Tryz.prog 104 #[.pointer (some ⟨b, 0, none⟩)] w' fun e w'' => e = .returned (.tuple #[]) ∧ RfAt w'' b l q2 u2.line u2.col ∧ w'.grownBy w'' (some b)) := Lib.hid (fun w' h hT => by rw [← hu2]; exact KO2.out w' h hT)
              have KO3 := Lib.hid (KO'.out _ HF2.out (HT.out _ HG2.out))
              have HOW := Lib.hid OW
              have HP2 : Hid (q < q2) := Lib.hid (by omega)
              have hl2 := OW.line
              have hc2 := OW.col
              rw [hr2]
              have H210 := Lib.hid h210
              clear hd2 hrr2 KO2 KO' hr2 his h210 OW hu2 hq2
              go_wp2_with fail
              refine KO3.out.mono ?_
              rintro e w4 ⟨rfl, hr4, hg4⟩
              have G4 := Lib.hid (grown_trans HG2.out hg4)
              have R4 := Lib.hid hr4
              have hb4 := Blk.lt hr4
              have KR5 := Lib.hid (rune_any b l q2 u2.line u2.col w4 (by omega) hr4 (HT.out _ G4.out))
              clear hr4 hg4 KO3
              go_wp2_with fail
              refine KR5.out.mono ?_
              rintro e w5 ⟨rfl, hb5⟩
              have G5 := Lib.hid (grown_below G4.out hb5)
              have R5 := Lib.hid (Blk.below (show Blk w4 _ _ _ from R4.out) hb5 hb4)
              have C5 : Hid (w5.cell? ⟨b, 1, none⟩ = some (.int .i64 (q2 : Int))) := Blk.cell R5.out 1
              clear hb5 KR5
              go_wp2_with fail
              go_roundw
              case rel => exact ⟨q2, u2, rfl, rfl, HOW.out, R5.out, G5.out⟩
              case measure =>
                have := HP2.out
                simp only [C2.out, C5.out, Option.getD_some, intOf]
                omega
          · have hr2 : runeF l q = (-1, true) := rune_end l q hq
            have hpq2 : p < q := by
              rcases Nat.lt_or_ge p q with h | h
              · exact h
              · exfalso
                have e : p = q := by omega
                have h3 := HR1.out
                rw [e, hr2] at h3
                cases h3
            have hro : road l p0 s = road l q { u with mode := .btw } := by rw [HRo.out, HU.out.road]; exact com_out l q u HM2.out (.inl (by rw [hr2]; decide))
            have HRq := Lib.hid hro
            rw [hr2]
            clear hr2 hro
            go_wp2_with fail
            go_roundw
            case rel => exact ⟨q, { u with mode := .btw }, ⟨by omega, hqh, hql, hqc, hm.symm, HU.out.kind.trans HW.out.kind, HU.out.wl.trans HW.out.wl, HU.out.wc.trans HW.out.wc, HU.out.words.trans HW.out.words, HRq.out⟩, HF2.out, HG2.out⟩
            case measure =>
              simp only [C1.out, C2.out, Option.getD_some, intOf]
              omega
      have q35 : ((c : Int) == 35) = false := by simp; omega
      have hr1 : (runeF l p).1 = (c : Int) := by rw [hrr]
      by_cases hbl : c = 32 ∨ c = 9 ∨ c = 10
      · have his : (runeF l p).2 = true := by rw [rune_ok l p c n hp hd (by omega)]
        have OW := HW.out.next hp HD.out his (step_blank t c HMt.out hbl) HW.out.mode HW.out.kind HW.out.wl HW.out.wc HW.out.words
        obtain ⟨p2, hp2⟩ : ∃ z, p + n = z := ⟨_, rfl⟩
        obtain ⟨t2, ht2⟩ : ∃ z : RS, advF t c = z := ⟨_, rfl⟩
        rw [hp2, ht2] at OW
        rw [hp2] at KO hpi
        have KO' : Hid (∀ w', RfAt w' b l p t.line t.col → Utab w' → Calls Tryz.prog 104 #[.pointer (some ⟨b, 0, none⟩)] w' fun e w'' => e = .returned (.tuple #[]) ∧ RfAt w'' b l p2 t2.line t2.col ∧ w'.grownBy w'' (some b)) := Lib.hid (fun w' h hT => by rw [← ht2]; exact KO.out w' h hT)
        have HOW := Lib.hid OW
        have HP2 : Hid (p < p2) := Lib.hid (by omega)
        rw [hr1] at KR
        replace KR := Lib.hid KR
        have H35 := Lib.hid h35
        clear hd hrr KO hr1 his OW ht2 hp2 h35
        rcases hbl with rfl | rfl | rfl
        all_goals
          go_wp2_with fail
          refine KR.out.mono ?_
          rintro e w3 ⟨rfl, hb3⟩
          have G3 := Lib.hid (grown_below HG.out hb3)
          have R3 := Lib.hid (Blk.below (show Blk wr _ _ _ from HF.out) hb3 hbr)
          have hb3s := Blk.lt R3.out
          clear hb3 KR
          have KO3 := Lib.hid (KO'.out _ R3.out (HT.out _ G3.out))
          go_wp2_with fail
          refine KO3.out.mono ?_
          rintro e w4 ⟨rfl, hr4, hg4⟩
          have G4 := Lib.hid (grown_trans G3.out hg4)
          have R4 := Lib.hid hr4
          have C4 : Hid (w4.cell? ⟨b, 1, none⟩ = some (.int .i64 (p2 : Int))) := Blk.cell hr4 1
          clear hr4 hg4 KO3
          go_wp2_with fail
          go_roundw
          case rel => exact ⟨p2, t2, HOW.out, R4.out, G4.out⟩
          case measure =>
            have := HP2.out
            simp only [C1.out, C4.out, Option.getD_some, intOf]
            omega
      · have q1 : ((c : Int) != 32) = true := by simp; omega
        have q2 : ((c : Int) != 9) = true := by simp; omega
        have q3 : ((c : Int) != 10) = true := by simp; omega
        have HN : Hid ((runeF l p).1 ≠ 35 ∧ (runeF l p).1 ≠ 32 ∧ (runeF l p).1 ≠ 9 ∧ (runeF l p).1 ≠ 10) := Lib.hid (by rw [hr1]; omega)
        rw [hr1] at KR
        replace KR := Lib.hid KR
        have H35 := Lib.hid h35
        have HBl := Lib.hid hbl
        clear hd hrr KO hr1 h35 hbl
        go_wp2_with fail
        refine KR.out.mono ?_
        rintro e w3 ⟨rfl, hb3⟩
        have G3 := Lib.hid (grown_below HG.out hb3)
        have R3 := Lib.hid (Blk.below (show Blk wr _ _ _ from HF.out) hb3 hbr)
        have hb3s := Blk.lt R3.out
        clear hb3 KR
        go_wp2
        go_ret
        exact ⟨p, t, hp0p, hph, hpl, hpc, R3.out, G3.out, .inl ⟨rfl, HMt.out, HW.out.words, HW.out.road, HN.out⟩⟩
    · have hr : runeF l p = (-1, true) := rune_end l p hp
      have HN : Hid ((runeF l p).1 ≠ 35 ∧ (runeF l p).1 ≠ 32 ∧ (runeF l p).1 ≠ 9 ∧ (runeF l p).1 ≠ 10) := Lib.hid (by rw [hr]; decide)
      rw [hr] at KR
      clear hr
      replace KR := Lib.hid KR
      go_wp2_with fail
      refine KR.out.mono ?_
      rintro e w3 ⟨rfl, hb3⟩
      have G3 := Lib.hid (grown_below HG.out hb3)
      have R3 := Lib.hid (Blk.below (show Blk wr _ _ _ from HF.out) hb3 hbr)
      have hb3s := Blk.lt R3.out
      clear hb3 KR
      go_wp2
      go_ret
      exact ⟨p, t, hp0p, hph, hpl, hpc, R3.out, G3.out, .inl ⟨rfl, HMt.out, HW.out.words, HW.out.road, HN.out⟩⟩
end Go.Proofs.YthbplchbolghjaaGreatDoor.Sc

namespace Go.Proofs.YthbplchbolghjaaGreatDoor.Sc
open Go.RowKit

theorem sm_nat (c : Nat) : smI (c : Int) = smB c := by
  unfold smI smB
  rw [Bool.eq_iff_iff]
  simp
  omega
theorem dg_nat (c : Nat) : dgI (c : Int) = dgB c := by
  unfold dgI dgB
  rw [Bool.eq_iff_iff]
  simp
  omega
theorem sg_nat (c : Nat) : sgI (c : Int) = sgB c := by
  unfold sgI sgB
  rw [Bool.eq_iff_iff]
  simp
  omega
theorem btw_word (m : Bool) (s : RS) (c : Nat) (h : s.mode = .btw) (h1 : (if m = true then smB c else dgB c) = true) : stepF s c = stepF (beginF s (kdI m) (wmode m)) c := by
  rw [step_btw s c h, step_word m _ c rfl]
  have hg : goI m (c : Int) = true := by
    unfold goI
    cases m
    · rw [dg_nat, show dgB c = true from h1]
      simp
    · rw [sm_nat, show smB c = true from h1]
      simp
  rw [hg]
  have hr : 48 ≤ c ∧ c ≤ 57 ∨ 97 ≤ c ∧ c ≤ 122 := by
    cases m
    · left
      simpa [dgB] using h1
    · right
      simpa [smB] using h1
  unfold betF goF
  rw [if_neg (by simp [blB]; omega), if_neg (by omega), if_neg (by omega), if_neg (by simp [sgB]; omega), if_pos rfl]
  cases m
  · rw [if_neg (by simp [smB]; have : dgB c = true := h1; simp [dgB] at this; omega), if_pos (show dgB c = true from h1)]
    rfl
  · rw [if_pos (show smB c = true from h1)]
    rfl
theorem btw_sign (s : RS) (c : Nat) (h : s.mode = .btw) (h1 : sgB c = true) : stepF s c = (endF (addF (beginF s 4 .btw) (c : Int)), 0) := by
  have hr : c = 123 ∨ c = 125 ∨ c = 58 ∨ c = 59 ∨ c = 42 := by simpa [sgB] using h1
  rw [step_btw s c h]
  unfold betF
  rw [if_neg (by simp [blB]; omega), if_neg (by omega), if_neg (by omega), if_pos h1]
theorem btw_quo (s : RS) (h : s.mode = .btw) : stepF s 34 = (beginF s 3 .str, 0) := by
  rw [step_btw s 34 h]
  rfl
theorem btw_no (s : RS) (c : Nat) (h : s.mode = .btw) (h1 : smB c = false) (h2 : dgB c = false) (h3 : sgB c = false) (h4 : c ≠ 34) (h5 : c ≠ 35) (h6 : c ≠ 32) (h7 : c ≠ 9) (h8 : c ≠ 10) : (stepF s c).2 = 4 := by
  rw [step_btw s c h]
  unfold betF
  rw [if_neg (by simp [blB]; omega), if_neg h5, if_neg h4, if_neg (by rw [h3]; simp), if_neg (by rw [h1]; simp), if_neg (by rw [h2]; simp)]

/-- A row and a word are handed back. -/
theorem results_rowW {P : Program} {fn : Func} {p s : Tmp} {ty : TypeId} (h : fn.results = #[.cell p ty, .tmp s]) (tmps : Array Value) (w : World) (g : Nat) (t : TypeId) (cs : Array Value) (fr : Nat × Nat) (d : TypeDesc) (v : Value)
    (hp : tmps.getD p undef = .pointer (some ⟨g, 0, none⟩)) (hs : tmps.getD s undef = v) (hg : w.heap[g]? = some (.cells cs t fr))
    (hu : P.underlying ty = some d) (hd : (match d with | .struct _ | .array _ _ => true | _ => false) = true) (hi : (P.info? ty).map (·.size) = some cs.size) :
    (results fn tmps).run P w = .ok (.tuple #[.agg cs, v]) w := by
  have hp' : tmps[p]?.getD undef = .pointer (some ⟨g, 0, none⟩) := by simpa using hp
  have hs' : tmps[s]?.getD undef = v := by simpa using hs
  simp [results, h, hp', hs', asAddr, run_loadVar_row w g t ty cs fr d hg hu hd hi]
theorem bodyPost_rowW {P : Program} {fn : Func} {p s : Tmp} {ty : TypeId} {R : Ending → World → Prop} {a : Act} {w : World} (h : fn.results = #[.cell p ty, .tmp s]) (g : Nat) (t : TypeId) (cs : Array Value) (fr : Nat × Nat) (d : TypeDesc) (v : Value)
    (hd0 : a.defers = []) (hp : a.tmps.getD p undef = .pointer (some ⟨g, 0, none⟩)) (hs : a.tmps.getD s undef = v) (hg : w.heap[g]? = some (.cells cs t fr))
    (hu : P.underlying ty = some d) (hd : (match d with | .struct _ | .array _ _ => true | _ => false) = true) (hi : (P.info? ty).map (·.size) = some cs.size)
    (hR : R (.returned (.tuple #[.agg cs, v])) w) : bodyPost P fn R .ret a w :=
  bodyPost_ret (results_rowW h a.tmps w g t cs fr d v hp hs hg hu hd hi) hd0 hR
theorem word_size : (Tryz.prog.info? 83).map (·.size) = some 4 := by kernel_rfl

/-- What word leaves. -/
def WoR (l : List UInt8) (p0 : Nat) (s : RS) (w : World) (b : Nat) (e : Ending) (w' : World) : Prop :=
  ∃ p t, p0 ≤ p ∧ p ≤ l.length ∧ t.line ≤ p + 1 ∧ t.col ≤ p + 1 ∧ RfAt w' b l p t.line t.col ∧ w.grownBy w' (some b) ∧
    ((∃ k x, p0 < p ∧ x.length ≤ l.length ∧ e = .returned (.tuple #[worV (k, x, s.line, s.col), .int .i64 0]) ∧ t.mode = .btw ∧ t.words = s.words ++ [(k, x, s.line, s.col)] ∧ road l p0 s = road l p t) ∨
     (∃ (k : Int) (x : List UInt8) (er : Int), er ≠ 0 ∧ e = .returned (.tuple #[worV (k, x, s.line, s.col), .int .i64 er]) ∧ road l p0 s = ([], t.line, t.col, er)))

/-- The world behind a word's beginning. -/
def wW (w : World) (s : RS) (k : Int) : World := ((w.alloc (.cells #[.int .i64 0, .string ⟨#[]⟩, .int .i64 0, .int .i64 0] 83)).alloc (.cells #[.int .i64 k, .string ⟨#[]⟩, .int .i64 (s.line : Int), .int .i64 (s.col : Int)] 83)).drew
theorem wW_grown (w : World) (s : RS) (k : Int) (b : Nat) : w.grownBy (wW w s k) (some b) := grown_drew (grown_alloc (grown_alloc (World.grownBy.refl _ _) _) _)
theorem wW_rf {w : World} {b : Nat} {l : List UInt8} {a ln cl : Nat} (h : RfAt w b l a ln cl) (s : RS) (k : Int) : RfAt (wW w s k) b l a ln cl := Blk.drew (Blk.alloc (Blk.alloc h _) _)
theorem wW_res (w : World) (s : RS) (k : Int) : Blk (wW w s k) w.heap.size #[.int .i64 0, .string ⟨#[]⟩, .int .i64 0, .int .i64 0] 83 := Blk.drew (Blk.alloc (Blk.new w _ _) _)
theorem wW_word (w : World) (s : RS) (k : Int) : Blk (wW w s k) (w.heap.size + 1) #[.int .i64 k, .string ⟨#[]⟩, .int .i64 (s.line : Int), .int .i64 (s.col : Int)] 83 := by
  have h := Blk.drew (Blk.new (w.alloc (.cells #[.int .i64 0, .string ⟨#[]⟩, .int .i64 0, .int .i64 0] 83)) #[.int .i64 k, .string ⟨#[]⟩, .int .i64 (s.line : Int), .int .i64 (s.col : Int)] 83)
  rw [show (w.alloc (.cells #[.int .i64 0, .string ⟨#[]⟩, .int .i64 0, .int .i64 0] 83)).heap.size = w.heap.size + 1 by simp] at h
  exact h

set_option maxRecDepth 100000 in
set_option maxHeartbeats 8000000 in
theorem word_plain (m : Bool) (b p c n : Nat) (l : List UInt8) (s : RS) (w : World) (hl : l.length ≤ 1000) (hm : s.mode = .btw) (hp : p < l.length) (h0 : OnW l p s p s) (hd : Utf8.decode ⟨l.toArray⟩ p = (c, n)) (hc : (if m = true then smB c else dgB c) = true) (h : RfAt w b l p s.line s.col) (hT : ∀ w', w.grownBy w' (some b) → Utab w') :
    Calls Tryz.prog 75 #[.pointer (some ⟨b, 0, none⟩), .int .i64 (c : Int)] w (WoR l p s w b) := by
  have hbl := Blk.lt h
  have a2 : w.cell? ⟨b, 2, none⟩ = some (.int .i64 (s.line : Int)) := Blk.cell h 2
  have a3 : w.cell? ⟨b, 3, none⟩ = some (.int .i64 (s.col : Int)) := Blk.cell h 3
  have hsw := road_swap l p s (beginF s (kdI m) (wmode m)) (by unfold nextC; rw [if_pos hp, hd]; exact btw_word m s c hm hc) rfl rfl
  have KP := Lib.hid (fun w' (h : RfAt w' b l p s.line s.col) (hT : ∀ w'', w'.grownBy w'' (some b) → Utab w'') => plain_any m b p l (beginF s (kdI m) (wmode m)) w' hl rfl rfl ⟨Nat.le_refl _, h0.here, h0.line, h0.col, rfl, rfl, rfl, rfl, rfl, rfl⟩ h hT)
  have hrg : goI m (runeF l p).1 = true := by
    rw [rune_at l p hp, hd]
    simp only
    unfold goI
    cases m
    · rw [dg_nat, show dgB c = true from hc]; simp
    · rw [sm_nat, show smB c = true from hc]; simp
  have HSw := Lib.hid hsw
  have HRg := Lib.hid hrg
  have H := Lib.hid h
  have HT := Lib.hid hT
  have H0 := Lib.hid h0
  have HDc := Lib.hid hd
  have hsm : smI (c : Int) = m := by
    rw [sm_nat]
    cases m
    · have : dgB c = true := hc
      simp [dgB] at this
      simp [smB]
      omega
    · exact hc
  have hdg : m = false → dgI (c : Int) = true := by
    rintro rfl
    rw [dg_nat]
    exact hc
  clear h hT h0 hd hsw hrg hc
  cases m
  all_goals
    have hdg' := hdg
    simp only [reduceCtorEq, forall_const, false_implies] at hdg'
    clear hdg
    simp only [kdI, Bool.false_eq_true, if_false, if_true] at KP
    go_enter Tryz.func75, Tryz.ntmps75
    go_wp2_with fail
    go_region
    go_wp2_with (first | ((with_reducible refine (rsmall_any _ _).mono ?_); rintro e w9 ⟨rfl, rfl⟩) | ((with_reducible refine (rdigit_any _ _).mono ?_); rintro e w9 ⟨rfl, rfl⟩))
    first
      | change Calls _ _ _ (wW w s 1) _
      | change Calls _ _ _ (wW w s 2) _
    refine (KP.out _ (wW_rf H.out s _) (fun w'' h => HT.out w'' (grown_trans (wW_grown w s _ b) h))).mono ?_
    rintro e w2 ⟨q, t, hq, htx, hrf, hg, hgo, rfl⟩
    have B0 := Lib.hid ((wW_res w s _).kept hg (by simp; omega))
    have B1 := Lib.hid ((wW_word w s _).kept hg (by simp; omega))
    have G2 := Lib.hid (grown_trans (wW_grown w s _ b) hg)
    have R2 := Lib.hid hrf
    have HQ := Lib.hid hq
    obtain ⟨e1, e2⟩ := plain_end _ hq rfl hgo
    have hqh := hq.here
    have hql := hq.line
    have hqc := hq.col
    have hqp := hq.le
    have hpq : p < q := by
      rcases Nat.lt_or_ge p q with h | h
      · exact h
      · exfalso
        have e : p = q := by omega
        have h3 := HRg.out
        rw [e, hgo] at h3
        cases h3
    have htl : t.text.length ≤ l.length := by rw [htx, List.length_take, List.length_drop]; omega
    have E1 := Lib.hid e1
    have E2 := Lib.hid e2
    have z0 := Blk.cell B1.out 0
    have z1 := Blk.cell B1.out 1
    have z2 := Blk.cell B1.out 2
    have z3 := Blk.cell B1.out 3
    have f0 := Blk.free B1.out 0
    have f1 := Blk.free B1.out 1
    have f2 := Blk.free B1.out 2
    have f3 := Blk.free B1.out 3
    have y0 := Blk.cell B0.out 0
    have y1 := Blk.cell B0.out 1
    have y2 := Blk.cell B0.out 2
    have y3 := Blk.cell B0.out 3
    have g0 := Blk.free B0.out 0
    have g1 := Blk.free B0.out 1
    have g2 := Blk.free B0.out 2
    have g3 := Blk.free B0.out 3
    simp only [List.getElem?_toArray, List.getElem?_cons_zero, List.getElem?_cons_succ] at z0 z1 z2 z3 y0 y1 y2 y3
    clear hq hrf hg hgo KP e1 e2 htx
    have e6 := word_size
    cases hen : enI (runeF l q).1
    · have HR : Hid (road l p s = ([], t.line, t.col, 4)) := Lib.hid (by rw [HSw.out]; exact E2.out hen)
      clear hen E1 E2
      go_wp2_with fail
      refine bodyPost_rowW Tryz.results75 w.heap.size _ _ _ _ (.int .i64 4) ?d1 ?p1 ?s1 ((((B0.out.set 0 _).set 1 _).set 2 _).set 3 _) Tryz.underlying83 rfl word_size ?_
      case d1 => rfl
      case p1 => rfl
      case s1 => rfl
      exact ⟨q, t, hqp, hqh, hql, hqc, (((Blk.oth R2.out (by omega) _ _).oth (by omega) _ _).oth (by omega) _ _).oth (by omega) _ _, grown_set_new (grown_set_new (grown_set_new (grown_set_new G2.out (Nat.le_refl _) _ _) (Nat.le_refl _) _ _) (Nat.le_refl _) _ _) (Nat.le_refl _) _ _, .inr (by first | exact ⟨1, [], 4, by decide, rfl, HR.out⟩ | exact ⟨2, [], 4, by decide, rfl, HR.out⟩)⟩
    · have HR : Hid (road l p s = road l q (endF t)) := Lib.hid (by rw [HSw.out]; exact E1.out hen)
      clear hen E1 E2
      go_wp2_with fail
      refine bodyPost_rowW Tryz.results75 w.heap.size _ _ _ _ (.int .i64 0) ?d2 ?p2 ?s2 (((((B0.out.oth (by omega) 1 _).set 0 _).set 1 _).set 2 _).set 3 _) Tryz.underlying83 rfl word_size ?_
      case d2 => rfl
      case p2 => rfl
      case s2 => rfl
      refine ⟨q, endF t, hqp, hqh, hql, hqc, ((((Blk.oth R2.out (by omega) _ _).oth (by omega) _ _).oth (by omega) _ _).oth (by omega) _ _).oth (by omega) _ _, grown_set_new (grown_set_new (grown_set_new (grown_set_new (grown_set_new G2.out (Nat.le_succ _) _ _) (Nat.le_refl _) _ _) (Nat.le_refl _) _ _) (Nat.le_refl _) _ _) (Nat.le_refl _) _ _, .inl ⟨t.kind, t.text, hpq, htl, ?_, rfl, ?_, HR.out⟩⟩
      · rw [HQ.out.kind]
        rfl
      · show t.words ++ [(t.kind, t.text, t.wl, t.wc)] = _
        rw [HQ.out.words, HQ.out.wl, HQ.out.wc]
        rfl

theorem dec_low (l : List UInt8) (p c n : Nat) (hp : p < l.length) (hd : Utf8.decode ⟨l.toArray⟩ p = (c, n)) (hc : c < 128) : n = 1 := by
  have hdd := dec_drop l p
  rw [hd] at hdd
  have hne : l.drop p ≠ [] := by
    intro e
    have := congrArg List.length e
    simp at this
    omega
  obtain ⟨b, t, e, eb⟩ := small_rune (l.drop p) hne (by rw [hdd]; rintro ⟨h, _⟩; simp only at h; omega) (by rw [hdd]; exact hc)
  rw [hdd] at eb
  have := Lib.decodeL_ascii b t (by rw [eb]; exact hc)
  rw [← e, hdd] at this
  exact (Prod.mk.inj this).2

set_option maxRecDepth 100000 in
set_option maxHeartbeats 8000000 in
theorem word_sign (b p c n : Nat) (l : List UInt8) (s : RS) (w : World) (hl : l.length ≤ 1000) (hm : s.mode = .btw) (hp : p < l.length) (h0 : OnW l p s p s) (hd : Utf8.decode ⟨l.toArray⟩ p = (c, n)) (hc : sgB c = true) (h : RfAt w b l p s.line s.col) (hT : ∀ w', w.grownBy w' (some b) → Utab w') :
    Calls Tryz.prog 75 #[.pointer (some ⟨b, 0, none⟩), .int .i64 (c : Int)] w (WoR l p s w b) := by
  have hbl := Blk.lt h
  have a2 : w.cell? ⟨b, 2, none⟩ = some (.int .i64 (s.line : Int)) := Blk.cell h 2
  have a3 : w.cell? ⟨b, 3, none⟩ = some (.int .i64 (s.col : Int)) := Blk.cell h 3
  have hr : c = 123 ∨ c = 125 ∨ c = 58 ∨ c = 59 ∨ c = 42 := by simpa [sgB] using hc
  have hn := dec_low l p c n hp hd (by omega)
  subst hn
  have hrk : (runeF l p).2 = true := by rw [rune_ok l p c 1 hp hd (by omega)]
  have hst := btw_sign s c hm hc
  have hro := road_step l p c 1 s _ hp hd hrk hst
  have OW : OnW l p (advF (endF (addF (beginF s 4 .btw) (c : Int))) c) p (advF (endF (addF (beginF s 4 .btw) (c : Int))) c) → True := fun _ => trivial
  have hen := enc_take l p c 1 hp hd (by omega)
  obtain ⟨t, ht⟩ : ∃ z : RS, advF (endF (addF (beginF s 4 .btw) (c : Int))) c = z := ⟨_, rfl⟩
  rw [ht] at hro
  have tl : t.line = s.line := by rw [← ht]; show (if c = 10 then s.line + 1 else s.line) = _; rw [if_neg (by omega)]
  have tc : t.col = s.col + 1 := by rw [← ht]; show (if c = 10 then 1 else s.col + 1) = _; rw [if_neg (by omega)]
  have tm : t.mode = .btw := by rw [← ht]; rfl
  have tw : t.words = s.words ++ [(4, (l.drop p).take 1, s.line, s.col)] := by
    rw [← ht, ← hen]
    rfl
  have KO : Hid (∀ w', RfAt w' b l p s.line s.col → Utab w' → Calls Tryz.prog 104 #[.pointer (some ⟨b, 0, none⟩)] w' fun e w'' => e = .returned (.tuple #[]) ∧ RfAt w'' b l (p + 1) t.line t.col ∧ w'.grownBy w'' (some b)) := Lib.hid (fun w' h hT => by
    have k := on_any b l p s.line s.col w' (by omega) (by have := h0.line; omega) (by have := h0.col; omega) hp h hT
    rw [hd] at k
    simp only at k
    rw [if_neg (by omega), if_neg (by omega)] at k
    rw [tl, tc]
    exact k)
  have b1 : smI (c : Int) = false := by rw [sm_nat]; simp [smB]; omega
  have b2 : dgI (c : Int) = false := by rw [dg_nat]; simp [dgB]; omega
  have b3 : sgI (c : Int) = true := by rw [sg_nat]; exact hc
  have HRo := Lib.hid hro
  have HTm := Lib.hid tm
  have HTw := Lib.hid tw
  have HTl := Lib.hid tl
  have HTc := Lib.hid tc
  have H := Lib.hid h
  have HT := Lib.hid hT
  have h0l := h0.line
  have h0c := h0.col
  clear h hT h0 hd hc hr hrk hst hro OW hen ht tl tc tm tw
  go_enter Tryz.func75, Tryz.ntmps75
  go_wp2_with fail
  go_region
  go_wp2_with (first | ((with_reducible refine (rsmall_any _ _).mono ?_); rintro e w9 ⟨rfl, rfl⟩) | ((with_reducible refine (rdigit_any _ _).mono ?_); rintro e w9 ⟨rfl, rfl⟩) | ((with_reducible refine (rsign_any _ _).mono ?_); rintro e w9 ⟨rfl, rfl⟩))
  change Code.wp _ _ _ _ (wW w s 4)
  have B0 := Lib.hid (wW_res w s 4)
  have B1 := Lib.hid (wW_word w s 4)
  have G2 := Lib.hid (wW_grown w s 4 b)
  have R2 := Lib.hid (wW_rf H.out s 4)
  generalize wW w s 4 = w2 at B0 B1 G2 R2 ⊢
  clear a2 a3
  have c0 : w2.cell? ⟨b, 0, none⟩ = some (strV l) := Blk.cell R2.out 0
  have c1 : w2.cell? ⟨b, 1, none⟩ = some (.int .i64 (p : Int)) := Blk.cell R2.out 1
  have n0 : (0 : Int) ≤ (p : Int) := by omega
  have n1 : (p : Int) ≤ (p : Int) + 1 := by omega
  have n2 : (p : Int) + 1 ≤ (l.length : Int) := by omega
  have z1 := Blk.cell B1.out 1
  have f1 := Blk.free B1.out 1
  simp only [List.getElem?_toArray, List.getElem?_cons_zero, List.getElem?_cons_succ] at z1
  have hb1 : ¬ b = w.heap.size + 1 := by omega
  have hb2 : ¬ w.heap.size + 1 = b := by omega
  go_region
  rw [cut_mid, show p + 1 - p = 1 by omega]
  have B0a := Lib.hid (Blk.drew (B0.out.oth (g := w.heap.size + 1) (by omega) 1 (strV ((l.drop p).take 1))))
  have B1a := Lib.hid (Blk.drew (B1.out.set 1 (strV ((l.drop p).take 1))))
  have R3 := Lib.hid (Blk.drew (Blk.oth R2.out (g := w.heap.size + 1) (by omega) 1 (strV ((l.drop p).take 1))))
  have G3 := Lib.hid (grown_drew (grown_set_new G2.out (Nat.le_succ w.heap.size) 1 (strV ((l.drop p).take 1))))
  change Exit.then _ _ _ _ (w2.setCell ⟨w.heap.size + 1, 1, none⟩ (strV ((l.drop p).take 1))).drew
  clear c0 c1 z1 f1 B0 B1 R2 G2
  generalize (w2.setCell ⟨w.heap.size + 1, 1, none⟩ (strV ((l.drop p).take 1))).drew = w3 at B0a B1a R3 G3 ⊢
  go_wp2_with fail
  refine (KO.out _ R3.out (HT.out _ G3.out)).mono ?_
  rintro e w4 ⟨rfl, hr4, hg4⟩
  have B0' := Lib.hid (B0a.out.kept hg4 (by simp; omega))
  have B1' := Lib.hid (B1a.out.kept hg4 (by simp; omega))
  have G4 := Lib.hid (grown_trans G3.out hg4)
  have R4 := Lib.hid hr4
  simp only [List.setIfInBounds_toArray, List.set_cons_succ, List.set_cons_zero] at B0' B1'
  have z0 := Blk.cell B1'.out 0
  have z1 := Blk.cell B1'.out 1
  have z2 := Blk.cell B1'.out 2
  have z3 := Blk.cell B1'.out 3
  have f0 := Blk.free B1'.out 0
  have f1 := Blk.free B1'.out 1
  have f2 := Blk.free B1'.out 2
  have f3 := Blk.free B1'.out 3
  have y0 := Blk.cell B0'.out 0
  have y1 := Blk.cell B0'.out 1
  have y2 := Blk.cell B0'.out 2
  have y3 := Blk.cell B0'.out 3
  have g0 := Blk.free B0'.out 0
  have g1 := Blk.free B0'.out 1
  have g2 := Blk.free B0'.out 2
  have g3 := Blk.free B0'.out 3
  simp only [List.getElem?_toArray, List.getElem?_cons_zero, List.getElem?_cons_succ] at z0 z1 z2 z3 y0 y1 y2 y3
  clear hr4 hg4 B0a B1a G3 R3 KO
  go_wp2_with fail
  refine bodyPost_rowW Tryz.results75 w.heap.size _ _ _ _ (.int .i64 0) ?d1 ?p1 ?s1 ((((B0'.out.set 0 _).set 1 _).set 2 _).set 3 _) Tryz.underlying83 rfl word_size ?_
  case d1 => rfl
  case p1 => rfl
  case s1 => rfl
  exact ⟨p + 1, t, by omega, by omega, by rw [HTl.out]; omega, by rw [HTc.out]; omega, (((Blk.oth R4.out (by omega) _ _).oth (by omega) _ _).oth (by omega) _ _).oth (by omega) _ _, grown_set_new (grown_set_new (grown_set_new (grown_set_new G4.out (Nat.le_refl _) _ _) (Nat.le_refl _) _ _) (Nat.le_refl _) _ _) (Nat.le_refl _) _ _, .inl ⟨4, (l.drop p).take 1, by omega, by rw [List.length_take]; omega, rfl, HTm.out, HTw.out, HRo.out⟩⟩

set_option maxRecDepth 100000 in
set_option maxHeartbeats 8000000 in
theorem word_quote (b p n : Nat) (l : List UInt8) (s : RS) (w : World) (hl : l.length ≤ 1000) (hm : s.mode = .btw) (hp : p < l.length) (h0 : OnW l p s p s) (hd : Utf8.decode ⟨l.toArray⟩ p = (34, n)) (h : RfAt w b l p s.line s.col) (hT : ∀ w', w.grownBy w' (some b) → Utab w') :
    Calls Tryz.prog 75 #[.pointer (some ⟨b, 0, none⟩), .int .i64 ((34 : Nat) : Int)] w (WoR l p s w b) := by
  have hbl := Blk.lt h
  have a2 : w.cell? ⟨b, 2, none⟩ = some (.int .i64 (s.line : Int)) := Blk.cell h 2
  have a3 : w.cell? ⟨b, 3, none⟩ = some (.int .i64 (s.col : Int)) := Blk.cell h 3
  have hn := dec_low l p 34 n hp hd (by omega)
  subst hn
  have hro := road_step l p 34 1 s _ hp hd (by rw [rune_ok l p 34 1 hp hd (by omega)]) (btw_quo s hm)
  obtain ⟨t, ht⟩ : ∃ z : RS, advF (beginF s 3 .str) 34 = z := ⟨_, rfl⟩
  rw [ht] at hro
  have tl : t.line = s.line := by rw [← ht]; rfl
  have tc : t.col = s.col + 1 := by rw [← ht]; rfl
  have tm : t.mode = .str := by rw [← ht]; rfl
  have tx : t.text = [] := by rw [← ht]; rfl
  have tk : t.kind = 3 := by rw [← ht]; rfl
  have twl : t.wl = s.line := by rw [← ht]; rfl
  have twc : t.wc = s.col := by rw [← ht]; rfl
  have tw : t.words = s.words := by rw [← ht]; rfl
  have h0l := h0.line
  have h0c := h0.col
  have KO : Hid (∀ w', RfAt w' b l p s.line s.col → Utab w' → Calls Tryz.prog 104 #[.pointer (some ⟨b, 0, none⟩)] w' fun e w'' => e = .returned (.tuple #[]) ∧ RfAt w'' b l (p + 1) t.line t.col ∧ w'.grownBy w'' (some b)) := Lib.hid (fun w' h hT => by
    have k := on_any b l p s.line s.col w' (by omega) (by omega) (by omega) hp h hT
    rw [hd] at k
    simp only at k
    rw [if_neg (by omega), if_neg (by omega)] at k
    rw [tl, tc]
    exact k)
  have KQ : Hid (∀ w', RfAt w' b l (p + 1) t.line t.col → (∀ w'', w'.grownBy w'' (some b) → Utab w'') → Calls Tryz.prog 109 #[.pointer (some ⟨b, 0, none⟩)] w' (QuR l (p + 1) t w' b)) :=
    Lib.hid (fun w' h hT => quoted_any b (p + 1) l t w' hl tm tx ⟨Nat.le_refl _, by omega, by rw [tl]; omega, by rw [tc]; omega, rfl, rfl, rfl, rfl, rfl, rfl⟩ h hT)
  have HRo := Lib.hid hro
  have HX := Lib.hid (And.intro tk (And.intro twl (And.intro twc tw)))
  have H := Lib.hid h
  have HT := Lib.hid hT
  clear h hT h0 hd hro ht tl tc tm tx tk twl twc tw
  go_enter Tryz.func75, Tryz.ntmps75
  go_wp2_with fail
  go_region
  have b1 : smI ((34 : Nat) : Int) = false := by decide
  have b2 : dgI ((34 : Nat) : Int) = false := by decide
  have b3 : sgI ((34 : Nat) : Int) = false := by decide
  have b4 : ((34 : Nat) : Int) = 34 := rfl
  rw [b4] at b1 b2 b3
  go_wp2_with (first | ((with_reducible refine (rsmall_any _ _).mono ?_); rintro e w9 ⟨rfl, rfl⟩) | ((with_reducible refine (rdigit_any _ _).mono ?_); rintro e w9 ⟨rfl, rfl⟩) | ((with_reducible refine (rsign_any _ _).mono ?_); rintro e w9 ⟨rfl, rfl⟩))
  change Calls _ _ _ (wW w s 3) _
  have B0 := Lib.hid (wW_res w s 3)
  have B1 := Lib.hid (wW_word w s 3)
  have G2 := Lib.hid (wW_grown w s 3 b)
  have R2 := Lib.hid (wW_rf H.out s 3)
  clear a2 a3
  generalize wW w s 3 = w2 at B0 B1 G2 R2 ⊢
  refine (KO.out _ R2.out (HT.out _ G2.out)).mono ?_
  rintro e w3 ⟨rfl, hr3, hg3⟩
  have B0a := Lib.hid (B0.out.kept hg3 (by simp; omega))
  have B1a := Lib.hid (B1.out.kept hg3 (by simp; omega))
  have G3 := Lib.hid (grown_trans G2.out hg3)
  have R3 := Lib.hid hr3
  clear hr3 hg3 B0 B1 G2 R2 KO
  go_wp2_with fail
  refine (KQ.out _ R3.out (fun w'' h => HT.out w'' (grown_trans G3.out h))).mono ?_
  rintro e w4 ⟨q, u, q1, q2, q3, q4, hr4, hg4, hq⟩
  have B0' := Lib.hid (B0a.out.kept hg4 (by simp; omega))
  have B1' := Lib.hid (B1a.out.kept hg4 (by simp; omega))
  have G4 := Lib.hid (grown_trans G3.out hg4)
  have R4 := Lib.hid hr4
  have z0 := Blk.cell B1'.out 0
  have z1 := Blk.cell B1'.out 1
  have z2 := Blk.cell B1'.out 2
  have z3 := Blk.cell B1'.out 3
  have f0 := Blk.free B1'.out 0
  have f1 := Blk.free B1'.out 1
  have f2 := Blk.free B1'.out 2
  have f3 := Blk.free B1'.out 3
  have y0 := Blk.cell B0'.out 0
  have y1 := Blk.cell B0'.out 1
  have y2 := Blk.cell B0'.out 2
  have y3 := Blk.cell B0'.out 3
  have g0 := Blk.free B0'.out 0
  have g1 := Blk.free B0'.out 1
  have g2 := Blk.free B0'.out 2
  have g3 := Blk.free B0'.out 3
  simp only [List.getElem?_toArray, List.getElem?_cons_zero, List.getElem?_cons_succ] at z0 z1 z2 z3 y0 y1 y2 y3
  clear hr4 hg4 B0a B1a G3 R3 KQ
  rcases hq with ⟨x, x1, rfl, x2, x3, x4⟩ | ⟨er, x1, rfl, x2⟩
  · have X1 : Hid (x.length ≤ l.length) := Lib.hid (by omega)
    have X2 := Lib.hid x2
    have X3 : Hid (u.words = s.words ++ [(3, x, s.line, s.col)]) := Lib.hid (by rw [x3, HX.out.1, HX.out.2.1, HX.out.2.2.1, HX.out.2.2.2])
    have X4 : Hid (road l p s = road l q u) := Lib.hid (by rw [HRo.out]; exact x4)
    clear x1 x2 x3 x4
    simp only
    go_wp2_with fail
    refine bodyPost_rowW Tryz.results75 w.heap.size _ _ _ _ (.int .i64 0) ?d1 ?p1 ?s1 (((((B0'.out.oth (g := w.heap.size + 1) (by omega) 1 _).set 0 _).set 1 _).set 2 _).set 3 _) Tryz.underlying83 rfl word_size ?_
    case d1 => rfl
    case p1 => rfl
    case s1 => rfl
    exact ⟨q, u, by omega, q2, q3, q4, ((((Blk.oth R4.out (by omega) _ _).oth (by omega) _ _).oth (by omega) _ _).oth (by omega) _ _).oth (by omega) _ _, grown_set_new (grown_set_new (grown_set_new (grown_set_new (grown_set_new G4.out (Nat.le_succ _) _ _) (Nat.le_refl _) _ _) (Nat.le_refl _) _ _) (Nat.le_refl _) _ _) (Nat.le_refl _) _ _, .inl ⟨3, x, by omega, X1.out, rfl, X2.out, X3.out, X4.out⟩⟩
  · have X1 := Lib.hid x1
    have X4 : Hid (road l p s = ([], u.line, u.col, er)) := Lib.hid (by rw [HRo.out]; exact x2)
    clear x1 x2
    simp only
    go_wp2_with fail
    refine bodyPost_rowW Tryz.results75 w.heap.size _ _ _ _ (.int .i64 er) ?d2 ?p2 ?s2 (((((B0'.out.oth (g := w.heap.size + 1) (by omega) 1 _).set 0 _).set 1 _).set 2 _).set 3 _) Tryz.underlying83 rfl word_size ?_
    case d2 => rfl
    case p2 => rfl
    case s2 => rfl
    exact ⟨q, u, by omega, q2, q3, q4, ((((Blk.oth R4.out (by omega) _ _).oth (by omega) _ _).oth (by omega) _ _).oth (by omega) _ _).oth (by omega) _ _, grown_set_new (grown_set_new (grown_set_new (grown_set_new (grown_set_new G4.out (Nat.le_succ _) _ _) (Nat.le_refl _) _ _) (Nat.le_refl _) _ _) (Nat.le_refl _) _ _) (Nat.le_refl _) _ _, .inr ⟨3, [], er, X1.out, rfl, X4.out⟩⟩

set_option maxRecDepth 100000 in
set_option maxHeartbeats 8000000 in
theorem word_none (b p c : Nat) (l : List UInt8) (s : RS) (w : World) (hl : l.length ≤ 1000) (h0 : OnW l p s p s) (b1 : smI (c : Int) = false) (b2 : dgI (c : Int) = false) (b3 : sgI (c : Int) = false) (h34 : c ≠ 34) (hr : road l p s = ([], s.line, s.col, 4)) (h : RfAt w b l p s.line s.col) :
    Calls Tryz.prog 75 #[.pointer (some ⟨b, 0, none⟩), .int .i64 (c : Int)] w (WoR l p s w b) := by
  have hbl := Blk.lt h
  have a2 : w.cell? ⟨b, 2, none⟩ = some (.int .i64 (s.line : Int)) := Blk.cell h 2
  have a3 : w.cell? ⟨b, 3, none⟩ = some (.int .i64 (s.col : Int)) := Blk.cell h 3
  have q34 : ((c : Int) == 34) = false := by simp; omega
  have H := Lib.hid h
  have HR := Lib.hid hr
  have H0 := Lib.hid h0
  clear h hr h0 h34
  go_enter Tryz.func75, Tryz.ntmps75
  go_wp2_with fail
  go_region
  go_wp2_with (first | ((with_reducible refine (rsmall_any _ _).mono ?_); rintro e w9 ⟨rfl, rfl⟩) | ((with_reducible refine (rdigit_any _ _).mono ?_); rintro e w9 ⟨rfl, rfl⟩) | ((with_reducible refine (rsign_any _ _).mono ?_); rintro e w9 ⟨rfl, rfl⟩))
  refine bodyPost_rowW Tryz.results75 w.heap.size _ _ _ _ (.int .i64 4) ?d1 ?p1 ?s1 (Blk.drew (Blk.alloc (Blk.new w _ _) _)) Tryz.underlying83 rfl word_size ?_
  case d1 => rfl
  case p1 => rfl
  case s1 => rfl
  exact ⟨p, s, Nat.le_refl _, H0.out.here, H0.out.line, H0.out.col, Blk.drew (Blk.alloc (Blk.alloc H.out _) _), grown_drew (grown_alloc (grown_alloc (World.grownBy.refl _ _) _) _), .inr ⟨0, [], 4, by decide, rfl, HR.out⟩⟩

theorem word_any (b p c n : Nat) (l : List UInt8) (s : RS) (w : World) (hl : l.length ≤ 1000) (hm : s.mode = .btw) (hp : p < l.length) (h0 : OnW l p s p s) (hd : Utf8.decode ⟨l.toArray⟩ p = (c, n)) (h5 : c ≠ 35) (h6 : c ≠ 32) (h7 : c ≠ 9) (h8 : c ≠ 10) (h : RfAt w b l p s.line s.col) (hT : ∀ w', w.grownBy w' (some b) → Utab w') :
    Calls Tryz.prog 75 #[.pointer (some ⟨b, 0, none⟩), .int .i64 (c : Int)] w (WoR l p s w b) := by
  cases h1 : smB c
  · cases h2 : dgB c
    · cases h3 : sgB c
      · by_cases h4 : c = 34
        · subst h4
          exact word_quote b p n l s w hl hm hp h0 hd h hT
        · exact word_none b p c l s w hl h0 (by rw [sm_nat, h1]) (by rw [dg_nat, h2]) (by rw [sg_nat, h3]) h4 (tel_bad l p c n s hp hd (.inr (btw_no s c hm h1 h2 h3 h4 h5 h6 h7 h8))) h
      · exact word_sign b p c n l s w hl hm hp h0 hd h3 h hT
    · exact word_plain false b p c n l s w hl hm hp h0 hd h2 h hT
  · exact word_plain true b p c n l s w hl hm hp h0 hd h1 h hT
end Go.Proofs.YthbplchbolghjaaGreatDoor.Sc

namespace Go.Proofs.YthbplchbolghjaaGreatDoor.Sc
open Go.RowKit

theorem own_grownQ {w w' : World} {base : Nat} {e : TypeId} {size : Nat} {v : Value} {n : Nat} {xs : List Value} {row : Option Nat} (h : w.ownsRow base e size v n xs) (hg : w.grownBy w' row) (hne : v.ownBlock = none ∨ v.ownBlock ≠ row) : w'.ownsRow base e size v n xs := by
  obtain ⟨h1, h2⟩ := h
  refine ⟨h1, ?_⟩
  rcases h2 with h2 | ⟨g, cap, cur, rfl, hB, hc, h3⟩
  · exact .inl h2
  · refine .inr ⟨g, cap, cur, rfl, hB, ?_, h3⟩
    rw [hg.block g (Array.getElem?_eq_some_iff.1 hc).1 (by
      rcases hne with h | h
      · simp [Value.ownBlock] at h
      · simpa [Value.ownBlock] using h)]
    exact hc
theorem own_geQ {w : World} {base : Nat} {e : TypeId} {size : Nat} {v : Value} {n : Nat} {xs : List Value} (h : w.ownsRow base e size v n xs) (k : Nat) (hk : v.ownBlock = some k) : base ≤ k := by
  rcases h.2 with ⟨rfl, _⟩ | ⟨g, cap, cur, rfl, hg, _⟩
  · simp [Value.ownBlock] at hk
  · simp [Value.ownBlock] at hk
    omega

set_option maxRecDepth 100000 in
set_option maxHeartbeats 8000000 in
theorem rwords_any (l : List UInt8) (w : World) (hl : l.length ≤ 1000) (hT : Utab w) :
    Calls Tryz.prog 41 #[strV l] w (WordsR w (wordsF l)) := by
  have hi : ¬ (65536 : Int) < (l.length : Int) := by omega
  rw [words_road l (by omega)]
  obtain ⟨i0, hi0, hz0, hz1, hz2⟩ := info_parts info_W
  have HT := Lib.hid hT
  clear hT
  go_enter Tryz.func41, Tryz.ntmps41
  go_wp2_with fail
  go_loopw [7] (fun v wr => ∃ p s, s.mode = .btw ∧ p ≤ l.length ∧ s.line ≤ p + 1 ∧ s.col ≤ p + 1 ∧ s.words.length ≤ p ∧ RfAt wr w.heap.size l p s.line s.col ∧ wr.ownsRow w.heap.size 83 4 v s.words.length (cellsW s.words) ∧ Below w.heap.size w wr ∧ road l 0 rs0 = road l p s) (fun _ wr => l.length - (intOf ((wr.cell? ⟨w.heap.size, 1, none⟩).getD (.int .i64 0))).toNat)
  case atStart => exact ⟨0, rs0, rfl, Nat.zero_le _, by decide, by decide, by decide, Blk.new w _ _, World.ownsRow_nil _ _ _ _, below1 w _, rfl⟩
  case round =>
    obtain ⟨p, s, hm, hp, hln, hcl, hwl, hrf, hown, hbw, hro⟩ := hrel
    obtain ⟨A, cp, rfl, hcp, hcm⟩ := own_sliceS hown
    have hsz := Blk.lt hrf
    have C1 := Lib.hid (RfAt.c1 hrf)
    have KS := skip_any w.heap.size p l s wr hl hm ⟨Nat.le_refl _, hp, hln, hcl, rfl, rfl, rfl, rfl, rfl, rfl⟩ hrf (fun w' hg => HT.out.below (hbw.grown hg hbw.size (fun k hk => by cases hk; exact Nat.le_refl _)))
    have Hown := Lib.hid hown
    have Hbw := Lib.hid hbw
    have Hrf := Lib.hid hrf
    have Hro := Lib.hid hro
    have HM := Lib.hid hm
    replace KS := Lib.hid KS
    clear hown hbw hrf hro hm
    go_wp2_with fail
    refine KS.out.mono ?_
    rintro e w3 ⟨q, t, q1, q2, q3, q4, hr3, hg3, hq⟩
    have O3 := Lib.hid (own_grownQ Hown.out hg3 (.inr (own_notS Hown.out Hrf.out (by decide))))
    have B3 := Lib.hid (Hbw.out.grown hg3 Hbw.out.size (fun k hk => by cases hk; exact Nat.le_refl _))
    have R3 := Lib.hid hr3
    have hb3 := Blk.lt hr3
    clear hr3 hg3 KS
    rcases hq with ⟨rfl, hm3, hw3, hro3, h35, h32, h9, h10⟩ | ⟨rfl, hro3⟩
    · have KR := Lib.hid (rune_any w.heap.size l q t.line t.col w3 (by omega) R3.out (HT.out.below B3.out))
      have HW3 := Lib.hid hw3
      have HRo3 := Lib.hid hro3
      have HM3 := Lib.hid hm3
      clear hw3 hro3 hm3
      by_cases hql : q < l.length
      · obtain ⟨c, n, hd⟩ : ∃ c n, Utf8.decode ⟨l.toArray⟩ q = (c, n) := ⟨_, _, rfl⟩
        have hr1 : (runeF l q).1 = (c : Int) := by rw [rune_at l q hql, hd]
        rw [hr1] at h35 h32 h9 h10
        have KW := Lib.hid (fun w' (h : RfAt w' w.heap.size l q t.line t.col) (hT : ∀ w'', w'.grownBy w'' (some w.heap.size) → Utab w'') => word_any w.heap.size q c n l t w' hl HM3.out hql ⟨Nat.le_refl _, q2, q3, q4, rfl, rfl, rfl, rfl, rfl, rfl⟩ hd (by omega) (by omega) (by omega) (by omega) h hT)
        have hc0 : ¬ (c : Int) < 0 := by omega
        replace KR := KR.out
        rw [hr1] at KR
        replace KR := Lib.hid KR
        clear hd hr1 h35 h32 h9 h10
        go_wp2_with fail
        refine KR.out.mono ?_
        rintro e w4 ⟨rfl, hb4⟩
        have O4 := Lib.hid (own_below O3.out hb4)
        have B4 := Lib.hid (B3.out.trans (hb4.mono B3.out.size))
        have R4 := Lib.hid (Blk.below (show Blk w3 _ _ _ from R3.out) hb4 hb3)
        have hb4s := Blk.lt R4.out
        clear hb4 KR
        go_wp2_with fail
        refine (KW.out _ R4.out (fun w'' hg => HT.out.below (B4.out.grown hg B4.out.size (fun k hk => by cases hk; exact Nat.le_refl _)))).mono ?_
        rintro e w5 ⟨q', u, u1, u2, u3, u4, hr5, hg5, hu⟩
        have O5 := Lib.hid (own_grownQ O4.out hg5 (.inr (own_notS O4.out R4.out (by decide))))
        have B5 := Lib.hid (B4.out.grown hg5 B4.out.size (fun k hk => by cases hk; exact Nat.le_refl _))
        have R5 := Lib.hid hr5
        have hb5 := Blk.lt hr5
        clear hr5 hg5 KW
        rcases hu with ⟨k, x, x0, x1, rfl, x2, x3, x4⟩ | ⟨k, x, er, x1, rfl, x2⟩
        · have X2 := Lib.hid x2
          have X3 : Hid (u.words = s.words ++ [(k, x, t.line, t.col)]) := Lib.hid (by rw [x3, HW3.out])
          have X4 : Hid (road l 0 rs0 = road l q' u) := Lib.hid (by rw [Hro.out, HRo3.out]; exact x4)
          have HX0 := Lib.hid x0
          clear x2 x3 x4
          simp only
          have hx4 : u.words.length = s.words.length + 1 := by rw [X3.out]; simp
          go_wp2_with (at_builtin; refine wpList_append_own _ rfl _ _ 70 rfl w.heap.size 83 i0 (.agg #[.int .i64 0, .string ⟨#[]⟩, .int .i64 0, .int .i64 0]) 4 40 Tryz.underlying70 hi0 hz0 hz1 hz2 rfl (by decide) _ _ _ rfl ((O5.out.alloc _).alloc _) ⟨w5.heap.size + 1, 0, none⟩ 1 1 [.int .i64 k, strV x, .int .i64 (t.line : Int), .int .i64 (t.col : Int)] rfl rfl ?a1 ?b1 ?c1 ?d1 ?e1 ?_)
          case a1 =>
            intro j u hj
            match j, hj with
            | 0, hj => simp at hj; subst hj; first | (simp [Addr.add, go_sem]; done) | exact Blk.cell (Blk.new _ _ _) 0
            | 1, hj => simp at hj; subst hj; first | (simp [Addr.add, go_sem]; done) | exact Blk.cell (Blk.new _ _ _) 1
            | 2, hj => simp at hj; subst hj; first | (simp [Addr.add, go_sem]; done) | exact Blk.cell (Blk.new _ _ _) 2
            | 3, hj => simp at hj; subst hj; first | (simp [Addr.add, go_sem]; done) | exact Blk.cell (Blk.new _ _ _) 3
          case b1 => intro u hu; simp at hu; rcases hu with rfl | rfl | rfl | rfl <;> rfl
          case c1 => unfold maxLen; omega
          case d1 => omega
          case e1 => have := B5.out.size; simp at this ⊢; omega
          intro v' w6 hown' hgrow' _
          obtain ⟨A4, c4, rfl, _⟩ := own_sliceS hown'
          have B5'' := Lib.hid ((B5.out.alloc B5.out.size (.cells #[.int .i64 k, strV x, .int .i64 (t.line : Int), .int .i64 (t.col : Int)] 83)).alloc (by have := B5.out.size; simp; omega) (.cells #[.int .i64 k, strV x, .int .i64 (t.line : Int), .int .i64 (t.col : Int)] 83))
          have B6 := Lib.hid (B5''.out.grown hgrow' B5''.out.size (fun k hk => own_geQ O5.out k hk))
          have R6 := Lib.hid (Blk.kept (Blk.alloc (Blk.alloc (show Blk w5 _ _ _ from R5.out) _) _) hgrow' (Ne.symm (own_notS O5.out R5.out (by decide))))
          have O6 : Hid (w6.ownsRow w.heap.size 83 4 (.slice A4 (s.words.length + 1) c4) u.words.length (cellsW u.words)) := Lib.hid (by
            have e : (s.words ++ [(k, x, t.line, t.col)]).length = s.words.length + 1 := by simp
            rw [X3.out, cellsW_snoc, e]
            exact hown')
          have C6 := Lib.hid (RfAt.c1 (show RfAt w6 w.heap.size l q' u.line u.col from R6.out))
          clear hown' hgrow'
          go_wp2_with fail
          go_roundw
          case rel => exact ⟨q', u, X2.out, u2, u3, u4, by rw [hx4]; omega, R6.out, O6.out, B6.out, X4.out⟩
          case measure =>
            simp only [C1.out, C6.out, Option.getD_some, intOf]
            omega
        · have HR : Hid (road l 0 rs0 = ([], u.line, u.col, er)) := Lib.hid (by rw [Hro.out, HRo3.out]; exact x2)
          have heb : (er != 0) = true := by simpa using x1
          have X1 := Lib.hid x1
          have d2 : w5.cell? ⟨w.heap.size, 2, none⟩ = some (.int .i64 (u.line : Int)) := Blk.cell R5.out 2
          have d3 : w5.cell? ⟨w.heap.size, 3, none⟩ = some (.int .i64 (u.col : Int)) := Blk.cell R5.out 3
          clear x1 x2
          simp only
          go_wp2_with fail
          go_quiet (fail)
          go_wp2
          refine ret4 Tryz.results41 _ _ _ _ rfl rfl rfl rfl rfl ?_
          rw [HR.out]
          exact ⟨_, rfl, World.ownsRow_nil _ _ _ _, belowN (B5.out.alloc B5.out.size _) _⟩
      · have hr1 : (runeF l q).1 = -1 := by rw [rune_end l q hql]
        have HR : Hid (road l 0 rs0 = (s.words, 0, 0, 0)) := Lib.hid (by
          have e := road_fin l q t t hql q2 (step_blank t 10 HM3.out (.inr (.inr rfl)))
          rw [Hro.out, HRo3.out, e, HW3.out])
        replace KR := KR.out
        rw [hr1] at KR
        replace KR := Lib.hid KR
        clear hr1
        go_wp2_with fail
        refine KR.out.mono ?_
        rintro e w4 ⟨rfl, hb4⟩
        have O4 := Lib.hid (own_below O3.out hb4)
        have B4 := Lib.hid (B3.out.trans (hb4.mono B3.out.size))
        clear hb4 KR
        go_wp2
        refine ret4 Tryz.results41 _ _ _ _ rfl rfl rfl rfl rfl ?_
        rw [HR.out]
        exact ⟨_, rfl, O4.out, B4.out⟩
    · have HR : Hid (road l 0 rs0 = ([], t.line, t.col, 4)) := Lib.hid (by rw [Hro.out]; exact hro3)
      have d2 : w3.cell? ⟨w.heap.size, 2, none⟩ = some (.int .i64 (t.line : Int)) := Blk.cell R3.out 2
      have d3 : w3.cell? ⟨w.heap.size, 3, none⟩ = some (.int .i64 (t.col : Int)) := Blk.cell R3.out 3
      clear hro3
      go_wp2_with fail
      go_quiet (fail)
      go_wp2
      refine ret4 Tryz.results41 _ _ _ _ rfl rfl rfl rfl rfl ?_
      rw [HR.out]
      exact ⟨_, rfl, World.ownsRow_nil _ _ _ _, belowN B3.out _⟩
end Go.Proofs.YthbplchbolghjaaGreatDoor.Sc

namespace Go.Proofs.YthbplchbolghjaaGreatDoor.Sc
open Go.RowKit

/-- The words' lines rise, up to the word at hand. -/
def Based (s : RS) : Prop := s.words.Pairwise (fun x y => x.2.2.1 ≤ y.2.2.1) ∧ ∀ x ∈ s.words, x.2.2.1 ≤ s.line
def Rise (s : RS) : Prop := Based s ∧ (s.mode ≠ .btw → s.mode ≠ .com → (∀ x ∈ s.words, x.2.2.1 ≤ s.wl) ∧ s.wl ≤ s.line)
theorem rise_begin (s : RS) (k : Int) (m : Mode) (h : Based s) : Rise (beginF s k m) := ⟨h, fun _ _ => ⟨h.2, Nat.le_refl _⟩⟩
theorem rise_add (s : RS) (c : Int) (h : Rise s) : Rise (addF s c) := h
theorem rise_mode (s : RS) (m : Mode) (h : Rise s) (h1 : s.mode ≠ .btw) (h2 : s.mode ≠ .com) : Rise { s with mode := m } := ⟨h.1, fun _ _ => h.2 h1 h2⟩
theorem based_end (s : RS) (h : Based s) (h1 : ∀ x ∈ s.words, x.2.2.1 ≤ s.wl) (h2 : s.wl ≤ s.line) : Based (endF s) := by
  refine ⟨List.pairwise_append.2 ⟨h.1, List.pairwise_singleton _ _, fun x hx y hy => ?_⟩, fun x hx => ?_⟩
  · simp only [List.mem_singleton] at hy
    subst hy
    exact h1 x hx
  · rcases List.mem_append.1 hx with hx | hx
    · exact h.2 x hx
    · simp only [List.mem_singleton] at hx
      subst hx
      exact h2
theorem rise_btw (s : RS) (h : Based s) (hm : s.mode = .btw) : Rise s := ⟨h, fun k => absurd hm k⟩
theorem rise_end (s : RS) (h : Rise s) (h1 : s.mode ≠ .btw) (h2 : s.mode ≠ .com) : Rise (endF s) := rise_btw _ (based_end s h.1 (h.2 h1 h2).1 (h.2 h1 h2).2) rfl
theorem rise_bet (s : RS) (c : Nat) (h : Based s) (hm : s.mode = .btw) : Rise (betF s c).1 := by
  unfold betF
  split
  · exact rise_btw s h hm
  split
  · exact ⟨h, fun _ k => absurd rfl k⟩
  split
  · exact rise_begin s _ _ h
  split
  · exact rise_btw _ (based_end _ h h.2 (Nat.le_refl _)) rfl
  split
  · exact rise_add _ _ (rise_begin s _ _ h)
  split
  · exact rise_add _ _ (rise_begin s _ _ h)
  · exact rise_btw s h hm
theorem rise_go (s : RS) (c : Nat) (b : Bool) (h : Rise s) (h1 : s.mode ≠ .btw) (h2 : s.mode ≠ .com) : Rise (goF s c b).1 := by
  unfold goF
  split
  · exact rise_add s _ h
  split
  · exact h
  · exact rise_bet _ c (rise_end s h h1 h2).1 rfl
theorem rise_step (s : RS) (c : Nat) (h : Rise s) : Rise (stepF s c).1 := by
  unfold stepF
  cases hm : s.mode
  all_goals simp only
  · exact rise_bet s c h.1 hm
  · exact rise_go s c _ h (by rw [hm]; intro k; cases k) (by rw [hm]; intro k; cases k)
  · exact rise_go s c _ h (by rw [hm]; intro k; cases k) (by rw [hm]; intro k; cases k)
  · unfold strF
    split
    · exact h
    split
    · exact h
    split
    · exact rise_end s h (by rw [hm]; intro k; cases k) (by rw [hm]; intro k; cases k)
    split
    · exact rise_mode s _ h (by rw [hm]; intro k; cases k) (by rw [hm]; intro k; cases k)
    · exact rise_add s _ h
  · unfold escF
    split
    · exact h
    split
    · exact rise_mode _ _ (rise_add s _ h) (by show s.mode ≠ _; rw [hm]; intro k; cases k) (by show s.mode ≠ _; rw [hm]; intro k; cases k)
    split
    · exact rise_mode _ _ (rise_add s _ h) (by show s.mode ≠ _; rw [hm]; intro k; cases k) (by show s.mode ≠ _; rw [hm]; intro k; cases k)
    · exact h
  · unfold comF
    split
    · exact rise_btw _ h.1 rfl
    · exact h
theorem rise_adv (s : RS) (c : Nat) (h : Rise s) : Rise (advF s c) := by
  have hl : s.line ≤ (advF s c).line := by
    show s.line ≤ (if c = 10 then s.line + 1 else s.line)
    split <;> omega
  exact ⟨⟨h.1.1, fun x hx => Nat.le_trans (h.1.2 x hx) hl⟩, fun h1 h2 => ⟨(h.2 h1 h2).1, Nat.le_trans (h.2 h1 h2).2 hl⟩⟩
theorem rise_read (s : RS) (c : Nat) (h : Rise s) : Rise (readF s c).1 := by
  unfold readF
  split
  · exact rise_adv _ c (rise_step s c h)
  · exact rise_step s c h
theorem rise_scan (l : List UInt8) : ∀ (f pos : Nat) (s : RS), Rise s → (scanF l f pos s).1.Pairwise (fun x y => x.2.2.1 ≤ y.2.2.1) := by
  intro f
  induction f with
  | zero => intro pos s h; exact List.Pairwise.nil
  | succ f ih =>
    intro pos s h
    rw [scanF]
    split
    · split
      · exact List.Pairwise.nil
      split
      · exact ih _ _ (rise_read s _ h)
      · exact List.Pairwise.nil
    · split
      · exact (rise_read s 10 h).1.1
      · exact List.Pairwise.nil
theorem words_rise (l : List UInt8) : (wordsF l).1.Pairwise (fun x y => x.2.2.1 ≤ y.2.2.1) := by
  unfold wordsF
  split
  · exact List.Pairwise.nil
  · exact rise_scan l _ _ _ ⟨⟨List.Pairwise.nil, fun x hx => by cases hx⟩, fun h => absurd rfl h⟩

/-- How many of these come first. -/
theorem tw_at {α : Type} (p : α → Bool) : ∀ (u : List α) (k : Nat), (k < (u.takeWhile p).length → ∃ y, u[k]? = some y ∧ p y = true) ∧ (k = (u.takeWhile p).length → u[k]? = none ∨ ∃ y, u[k]? = some y ∧ p y = false) := by
  intro u
  induction u with
  | nil => intro k; exact ⟨fun h => by simp at h, fun _ => .inl (by simp)⟩
  | cons a t ih =>
    intro k
    cases hp : p a
    · rw [List.takeWhile_cons_of_neg (by simp [hp])]
      refine ⟨fun h => by simp at h, ?_⟩
      rintro rfl
      exact .inr ⟨a, rfl, hp⟩
    · rw [List.takeWhile_cons_of_pos hp]
      cases k with
      | zero => exact ⟨fun _ => ⟨a, rfl, hp⟩, fun h => by simp at h⟩
      | succ k =>
        obtain ⟨i1, i2⟩ := ih k
        exact ⟨fun h => i1 (by simpa using h), fun h => i2 (by simpa using h)⟩
theorem filter_tw (a : Nat) : ∀ (u : List W4), u.Pairwise (fun x y => x.2.2.1 ≤ y.2.2.1) → (∀ x ∈ u, a ≤ x.2.2.1) → u.filter (lineB a) = u.takeWhile (lineB a) := by
  intro u
  induction u with
  | nil => intro _ _; rfl
  | cons x t ih =>
    intro hp hx
    obtain ⟨h1, h2⟩ := List.pairwise_cons.1 hp
    cases hl : lineB a x
    · rw [List.takeWhile_cons_of_neg (by simp [hl]), List.filter_cons_of_neg (by simp [hl])]
      rw [List.filter_eq_nil_iff]
      intro y hy
      have e1 := hx x (by simp)
      have e2 := h1 y hy
      have e3 : x.2.2.1 ≠ a := by simpa [lineB] using hl
      simp [lineB]
      omega
    · rw [List.takeWhile_cons_of_pos hl, List.filter_cons_of_pos hl, ih h2 (fun y hy => hx y (by simp [hy]))]
theorem line_tw (l : List W4) (h : l.Pairwise (fun x y => x.2.2.1 ≤ y.2.2.1)) (fr : Nat) (x : W4) (hx : l[fr]? = some x) : lineF l fr = ((l.drop fr).takeWhile (lineB x.2.2.1)).length := by
  unfold lineF
  rw [hx]
  simp only
  have hp := h.drop (i := fr)
  rw [filter_tw _ _ hp]
  intro y hy
  obtain ⟨hf, he⟩ := List.getElem?_eq_some_iff.1 hx
  rw [List.drop_eq_getElem_cons hf] at hp hy
  rcases List.mem_cons.1 hy with hy | hy
  · rw [hy, he]
    exact Nat.le_refl _
  · have := (List.pairwise_cons.1 hp).1 y hy
    rw [he] at this
    exact this
end Go.Proofs.YthbplchbolghjaaGreatDoor.Sc

namespace Go.Proofs.YthbplchbolghjaaGreatDoor.Sc
open Go.RowKit

theorem scan_len (l : List UInt8) : ∀ (f pos : Nat) (s : RS), (scanF l f pos s).1.length ≤ s.words.length + 2 * f := by
  intro f
  induction f with
  | zero => intro pos s; simp [scanF]
  | succ f ih =>
    intro pos s
    rw [scanF]
    split
    · split
      · simp
      split
      · have h1 := ih (pos + (Utf8.decode ⟨l.toArray⟩ pos).2) (readF s (Utf8.decode ⟨l.toArray⟩ pos).1).1
        obtain ⟨_, _, _, h2⟩ := read_facts s (Utf8.decode ⟨l.toArray⟩ pos).1
        omega
      · simp
    · split
      · obtain ⟨_, _, _, h2⟩ := read_facts s 10
        simp only
        omega
      · simp
theorem words_len (l : List UInt8) : (wordsF l).1.length ≤ 2 * l.length + 2 := by
  unfold wordsF
  split
  · simp
  · have := scan_len l (l.length + 1) 0 rs0
    have e : rs0.words.length = 0 := rfl
    omega

def lineI (l : List W4) (fr : Int) : Int := if fr < 0 then 0 else (lineF l fr.toNat : Int)
theorem lineF_far (l : List W4) (fr : Nat) (h : l.length ≤ fr) : lineF l fr = 0 := by
  unfold lineF
  rw [List.getElem?_eq_none h]

set_option maxRecDepth 100000 in
set_option maxHeartbeats 2000000 in
theorem lineI_any (A : Option Addr) (c : Nat) (fr : Int) (l : List W4) (w : World) (hc : l.length ≤ c) (hcm : c ≤ maxLen) (hlen : l.length ≤ 1000000) (hs : SlAt w A (cellsW l)) :
    Calls Tryz.prog 103 #[.slice A l.length c, .int .i64 fr] w fun e w' => e = .returned (.int .i64 (lineI l fr)) ∧ Below w.heap.size w w' := by
  unfold lineI
  by_cases h0 : fr < 0
  · rw [if_pos h0]
    go_enter Tryz.func103, Tryz.ntmps103
    go_wp2
    go_ret
    exact ⟨rfl, Below.refl _ _⟩
  · rw [if_neg h0]
    obtain ⟨n, rfl⟩ : ∃ n : Nat, fr = (n : Int) := ⟨fr.toNat, by omega⟩
    rw [Int.toNat_natCast]
    by_cases hn : n ≤ 4611686018427387904
    · exact line_any A c n l w hc hcm hn hs
    · unfold maxLen at hcm
      rw [lineF_far l n (by omega)]
      have hge : decide (l.length ≤ n) = true := by simp; omega
      have hge2 : ((l.length : Int) ≤ (n : Int)) := by omega
      clear hs hn
      go_enter Tryz.func103, Tryz.ntmps103
      go_wp2
      go_ret
      exact ⟨rfl, Below.refl _ _⟩

set_option maxRecDepth 100000 in
set_option maxHeartbeats 2000000 in
theorem rlineI_any (A : Option Addr) (c : Nat) (fr : Int) (l : List W4) (w : World) (hc : l.length ≤ c) (hcm : c ≤ maxLen) (hlen : l.length ≤ 1000000) (hf : fr ≤ 9223372036854775807) (hr : l.Pairwise (fun x y => x.2.2.1 ≤ y.2.2.1)) (hs : SlAt w A (cellsW l)) :
    Calls Tryz.prog 42 #[.slice A l.length c, .int .i64 fr] w fun e w' => e = .returned (.int .i64 (lineI l fr)) ∧ Below w.heap.size w w' := by
  unfold maxLen at hcm
  unfold lineI
  by_cases h0 : fr < 0
  · rw [if_pos h0]
    have h0' : ¬ 0 ≤ fr := by omega
    clear hs hr
    go_enter Tryz.func42, Tryz.ntmps42
    go_wp2_with fail
    go_loopw [5] (fun n wr => n = .int .i64 0 ∧ Below w.heap.size w wr) (fun _ _ => 0)
    case atStart => exact ⟨rfl, Below.refl _ _⟩
    case round =>
      obtain ⟨rfl, hbw⟩ := hrel
      have q0 : decide (0 ≤ fr) = false := by simp; omega
      go_wp2_with fail
      go_quiet (fail)
      go_wp2
      go_ret
      exact ⟨rfl, belowN hbw _⟩
  · rw [if_neg h0]
    obtain ⟨fr, rfl⟩ : ∃ n : Nat, fr = (n : Int) := ⟨fr.toNat, by omega⟩
    rw [Int.toNat_natCast]
    have h1 : (0 : Int) ≤ (fr : Int) := by omega
    by_cases hlt : fr < l.length
    · obtain ⟨x, hx⟩ : ∃ x, l[fr]? = some x := ⟨l[fr], List.getElem?_eq_getElem hlt⟩
      rw [line_tw l hr fr x hx]
      have htw := tw_at (lineB x.2.2.1) (l.drop fr)
      have hle : ((l.drop fr).takeWhile (lineB x.2.2.1)).length ≤ l.length - fr := by
        have := (List.takeWhile_sublist (l := l.drop fr) (lineB x.2.2.1)).length_le
        rw [List.length_drop] at this
        exact this
      generalize ((l.drop fr).takeWhile (lineB x.2.2.1)).length = R at htw hle ⊢
      obtain ⟨b, o, hA, hb, _, _, u2, _⟩ := SlAt.wor hs hx
      subst hA
      have HS := Lib.hid hs
      have HX := Lib.hid hx
      have HTw := Lib.hid htw
      have U2 := Lib.hid u2
      clear hs hx htw hr u2
      go_enter Tryz.func42, Tryz.ntmps42
      go_wp2_with fail
      go_loopw [5] (fun n wr => ∃ k : Nat, k ≤ R ∧ n = .int .i64 k ∧ Below w.heap.size w wr) (fun n _ => l.length - (intOf n).toNat)
      case atStart => exact ⟨0, by omega, rfl, Below.refl _ _⟩
      case round =>
        obtain ⟨k, hk, rfl, hbw⟩ := hrel
        have Hb := Lib.hid hbw
        clear hbw
        obtain ⟨t1, t2⟩ := HTw.out k
        have m0 : (0 : Int) ≤ (fr : Int) + (k : Int) := by omega
        by_cases hkr : k < R
        · obtain ⟨y, hy, hyl⟩ := t1 hkr
          rw [List.getElem?_drop] at hy
          obtain ⟨_, _, _, z2, _⟩ := slat_at (HS.out.below Hb.out) rfl hy
          have x2 : (wr).cell? ⟨b, o + fr * 4 + 2, none⟩ = some (.int .i64 (x.2.2.1 : Int)) := (Hb.out.cell (p := ⟨b, o + fr * 4 + 2, none⟩) hb).trans U2.out
          have hq : ((y.2.2.1 : Int) == (x.2.2.1 : Int)) = true := by
            have : y.2.2.1 = x.2.2.1 := by simpa [lineB] using hyl
            simp [this]
          have m1 : (fr : Int) + (k : Int) < (l.length : Int) := by omega
          have q0 : decide ((0 : Int) ≤ (fr : Int)) = true := by simp
          have q1 : decide ((fr : Int) + (k : Int) < (l.length : Int)) = true := by simp; omega
          clear t1 t2 hyl hy
          go_wp2_with fail
          go_quiet (fail)
          go_wp2
          go_roundw
          case rel => exact ⟨k + 1, by omega, by go_num, belowN Hb.out _⟩
          case measure => simp [intOf]; omega
        · obtain rfl : k = R := by omega
          have q0 : decide ((0 : Int) ≤ (fr : Int)) = true := by simp
          rcases t2 rfl with hy | ⟨y, hy, hyl⟩
          · rw [List.getElem?_drop, List.getElem?_eq_none_iff] at hy
            have q1 : decide ((fr : Int) + (k : Int) < (l.length : Int)) = false := by simp; omega
            clear t1 t2
            go_wp2_with fail
            go_quiet (fail)
            go_wp2
            go_ret
            exact ⟨rfl, belowN Hb.out _⟩
          · rw [List.getElem?_drop] at hy
            have hfk : fr + k < l.length := by
              rcases Nat.lt_or_ge (fr + k) l.length with h | h
              · exact h
              · rw [List.getElem?_eq_none h] at hy
                cases hy
            obtain ⟨_, _, _, z2, _⟩ := slat_at (HS.out.below Hb.out) rfl hy
            have x2 : (wr).cell? ⟨b, o + fr * 4 + 2, none⟩ = some (.int .i64 (x.2.2.1 : Int)) := (Hb.out.cell (p := ⟨b, o + fr * 4 + 2, none⟩) hb).trans U2.out
            have hq : ((y.2.2.1 : Int) == (x.2.2.1 : Int)) = false := by
              have : y.2.2.1 ≠ x.2.2.1 := by simpa [lineB] using hyl
              simp
              omega
            have m1 : (fr : Int) + (k : Int) < (l.length : Int) := by omega
            have q1 : decide ((fr : Int) + (k : Int) < (l.length : Int)) = true := by simp; omega
            clear t1 t2 hyl hy
            go_wp2_with fail
            go_quiet (fail)
            go_wp2
            go_ret
            exact ⟨rfl, belowN Hb.out _⟩
    · rw [lineF_far l fr (by omega)]
      have m1 : ¬ (fr : Int) < (l.length : Int) := by omega
      clear hs hr hlt
      go_enter Tryz.func42, Tryz.ntmps42
      go_wp2_with fail
      go_loopw [5] (fun n wr => ∃ k : Nat, k = 0 ∧ n = .int .i64 k ∧ Below w.heap.size w wr) (fun _ _ => 0)
      case atStart => exact ⟨0, rfl, rfl, Below.refl _ _⟩
      case round =>
        obtain ⟨k, hk, rfl, hbw⟩ := hrel
        have q0 : decide ((0 : Int) ≤ (fr : Int)) = true := by simp
        have q1 : decide ((fr : Int) + (k : Int) < (l.length : Int)) = false := by simp; omega
        have q2 : (fr : Int) + (k : Int) ≤ 9223372036854775807 := by omega
        have HK := Lib.hid hk
        clear hk
        go_wp2_with fail
        go_quiet (fail)
        go_wp2
        go_ret
        exact ⟨retI (by have := HK.out; omega), belowN hbw _⟩
end Go.Proofs.YthbplchbolghjaaGreatDoor.Sc

namespace Go.Proofs.YthbplchbolghjaaGreatDoor
open Go.RowKit

theorem ord_pos {t : List UInt8} (h : 0 < ordF t) : ∃ i, i < 7 ∧ t = keysL.getD i [] ∧ ordF t = (i : Int) + 1 := by
  by_cases hh : ∃ (q : Nat) (y : List UInt8), keysL[q]? = some y ∧ y = t
  · obtain ⟨q, y, hq, rfl⟩ := hh
    have hq7 : q < 7 := (List.getElem?_eq_some_iff.1 hq).1
    exact ⟨q, hq7, by rw [List.getD_eq_getElem?_getD, hq]; rfl, ord_at hq⟩
  · have := ord_no (fun q y hq e => hh ⟨q, y, hq, e⟩)
    omega
theorem Keep2.blk {b g k : Nat} {w w' : World} {cs : Array Value} {t : TypeId} (h : Keep2 b g w w') (hb : Blk w k cs t) (h1 : k ≠ b) (h2 : k ≠ g) : Blk w' k cs t := (h.block k (Blk.lt hb) h1 h2).trans hb
theorem Keep2.cell {b g : Nat} {w w' : World} (h : Keep2 b g w w') {p : Addr} {v : Value} (hp : w.cell? p = some v) (h1 : p.block ≠ b) (h2 : p.block ≠ g) : w'.cell? p = some v := by
  have hb := h.block p.block (World.block_lt_of_cell? w p hp) h1 h2
  rw [← hp]
  unfold World.cell?
  rw [hb]
theorem Keep2.below {b g B : Nat} {w w' : World} (h : Keep2 b g w w') (hB : B ≤ b) (hG : B ≤ g) (hs : B ≤ w.heap.size) : Below B w w' := ⟨h.os, h.tape, h.output, h.size, fun k hk => h.block k (by omega) (by omega) (by omega)⟩

theorem rdoes_key (i : Nat) (hi : i < 7) (b g : Nat) (A : Option Addr) (c : Nat) (l : List Sc.W4) (s : PR) (x : Sc.W4) (w : World) (hm : RowM w b A c l 0 0 0 0) (hg : GoalM w g s.goal) (hbg : b ≠ g) (hA : ∀ q o, A = some ⟨q, o, none⟩ → q ≠ g ∧ q < w.heap.size) (hx : l[0]? = some x) (h1 : x.1 = 1) (h2 : x.2.1 = keysL.getD i []) (hfew : l.length ≤ 100000) (hbig : ∀ x ∈ l, x.2.1.length ≤ 5000) (hdig : ∀ x ∈ l, x.1 = 2 → DigHead x.2.1) (hs : s.line = l) (hat : s.at_ = 1) (hon : i ≤ 2 → s.goal.on = 0) (hdn : i ≤ 3 → s.goal.drain = []) :
    Calls Tryz.prog 44 #[.pointer (some ⟨b, 0, none⟩), .pointer (some ⟨g, 0, none⟩)] w fun e w' => (∃ n, e = .returned (.int .i64 n) ∧ ((lineP i s).1 = true → n = (i : Int) + 1)) ∧ DoesR w b g A c l (lineP i s) w' := by
  obtain rfl | rfl | rfl | rfl | rfl | rfl | rfl : i = 0 ∨ i = 1 ∨ i = 2 ∨ i = 3 ∨ i = 4 ∨ i = 5 ∨ i = 6 := by omega
  · exact rdoes_low b g A c l s x w hm hg hbg hA hx h1 h2 hfew hbig hdig hs hat
  · exact rdoes_high b g A c l s x w hm hg hbg hA hx h1 h2 hfew hbig hdig hs hat
  · exact rdoes_on b g A c l s x w hm hg hbg hA hx h1 h2 hfew hbig hdig hs hat (hon (by omega))
  · exact rdoes_drain b g A c l s x w hm hg hbg hA hx h1 h2 hfew hbig hdig hs hat (hdn (by omega))
  · exact rdoes_moves b g A c l s x w hm hg hbg hA hx h1 h2 hfew hbig hdig hs hat
  · exact rdoes_tries b g A c l s x w hm hg hbg hA hx h1 h2 hfew hbig hdig hs hat
  · exact rdoes_roll b g A c l s x w hm hg hbg hA hx h1 h2 hfew hbig hdig hs hat

/-- Where a line's reading goes on. -/
def GoesOn (T : Pol × Int × Int × Int) (g : Nat) (l rest : List Sc.W4) (w' : World) (i : Nat) (z : PR) : Prop :=
  GoalM w' g z.goal ∧ z.line = l ∧ z.rest = rest ∧ 0 ≤ z.goal.on ∧ z.goal.on < 32 ∧ (i + 1 ≤ 2 → z.goal.on = 0) ∧ (i + 1 ≤ 3 → z.goal.drain = []) ∧ T = (match endP z with
    | (false, y) => finP (false, y)
    | (true, y) => contF (7 - (i + 1)) (i + 1) y)
/-- What a line's reading has done. -/
def DoneP (T : Pol × Int × Int × Int) (w' : World) (b g : Nat) (A : Option Addr) (c : Nat) (l rest : List Sc.W4) (n : Int) (k : Nat) (ln cl er : Int) : Prop :=
  RowM w' b A c l k ln cl er ∧ ((er ≠ 0 ∧ T = (pol0, ln, cl, er)) ∨ (er = 0 ∧ ∃ (i : Nat) (z : PR), n = (i : Int) + 1 ∧ i < 7 ∧ k = z.at_ ∧ GoesOn T g l rest w' i z))

theorem does_all (T : Pol × Int × Int × Int) (j : Nat) (s : PR) (x : Sc.W4) (b g : Nat) (A : Option Addr) (c : Nat) (w : World) (hj : j ≤ 7) (hx : s.rest[0]? = some x) (hm : RowM w b A c (s.rest.take (Sc.lineF s.rest 0)) 0 0 0 0) (hg : GoalM w g s.goal) (hbg : b ≠ g) (hA : ∀ q o, A = some ⟨q, o, none⟩ → q ≠ g ∧ q < w.heap.size) (hfew : s.rest.length ≤ 5000) (hbig : ∀ x ∈ s.rest, x.2.1.length ≤ 5000) (hdig : ∀ x ∈ s.rest, x.1 = 2 → DigHead x.2.1) (on0 : 0 ≤ s.goal.on) (on1 : s.goal.on < 32) (hon : j ≤ 2 → s.goal.on = 0) (hdn : j ≤ 3 → s.goal.drain = []) (hT : contF (7 - j) j s = T) (hok : ¬ (x.1 = 1 ∧ 0 < ordF x.2.1 ∧ ordF x.2.1 ≤ (j : Int))) :
    Calls Tryz.prog 44 #[.pointer (some ⟨b, 0, none⟩), .pointer (some ⟨g, 0, none⟩)] w fun e w' => Keep2 b g w w' ∧ ∃ n k ln cl er, e = .returned (.int .i64 n) ∧ DoneP T w' b g A c (s.rest.take (Sc.lineF s.rest 0)) (s.rest.drop (Sc.lineF s.rest 0)) n k ln cl er := by
  have hn := lineF_pos hx
  have hx' : (s.rest.take (Sc.lineF s.rest 0))[0]? = some x := by rw [List.getElem?_take, if_pos (by omega)]; exact hx
  have hl' : (s.rest.take (Sc.lineF s.rest 0)).length ≤ 5000 := by rw [List.length_take]; omega
  by_cases hk : x.1 = 1 ∧ 0 < ordF x.2.1
  · obtain ⟨i, hi, h2, h3⟩ := ord_pos hk.2
    have hji : j ≤ i := by
      by_cases hh : ordF x.2.1 ≤ (j : Int)
      · exact absurd ⟨hk.1, hk.2, hh⟩ hok
      · omega
    have ht := cont_key hx hji hi hk.1 h2
    rw [hT] at ht
    have K := rdoes_key i hi b g A c (s.rest.take (Sc.lineF s.rest 0)) { s with line := s.rest.take (Sc.lineF s.rest 0), at_ := 1, rest := s.rest.drop (Sc.lineF s.rest 0) } x w hm hg hbg hA hx' hk.1 h2 (by omega) (fun y hy => hbig y (List.mem_of_mem_take hy)) (fun y hy => hdig y (List.mem_of_mem_take hy)) rfl rfl (fun h => hon (by omega)) (fun h => hdn (by omega))
    have LK := line_keeps i { s with line := s.rest.take (Sc.lineF s.rest 0), at_ := 1, rest := s.rest.drop (Sc.lineF s.rest 0) } on0 on1
    have LS : i ≤ 1 → (lineP i { s with line := s.rest.take (Sc.lineF s.rest 0), at_ := 1, rest := s.rest.drop (Sc.lineF s.rest 0) }).2.goal.on = s.goal.on := by
      intro hi1
      obtain rfl | rfl : i = 0 ∨ i = 1 := by omega
      · exact (same_shares same_putLow _ 2).on
      · exact (same_shares same_putHigh _ 2).on
    refine K.mono ?_
    rintro e w' ⟨⟨n, rfl, hn2⟩, hk2, hr⟩
    generalize lineP i { s with line := s.rest.take (Sc.lineF s.rest 0), at_ := 1, rest := s.rest.drop (Sc.lineF s.rest 0) } = LP at *
    obtain ⟨bb, z⟩ := LP
    cases bb with
    | false =>
      obtain ⟨he, k, hm'⟩ := hr
      exact ⟨hk2, n, k, z.wl, z.wc, z.we, rfl, hm', .inl ⟨he, ht⟩⟩
    | true =>
      obtain ⟨hm', hg'⟩ := hr
      obtain ⟨l1, l2, l3, l4, l5⟩ := LK
      exact ⟨hk2, n, z.at_, 0, 0, 0, rfl, hm', .inr ⟨rfl, i, z, hn2 rfl, hi, rfl, hg', l1, l2, l3, l4, fun h => (LS (by omega)).trans (hon (by omega)), fun h => (l5 (by omega)).trans (hdn (by omega)), ht⟩⟩
  · have hno : ∀ q, q < 7 → ¬ (x.1 = 1 ∧ x.2.1 = keysL.getD q []) := by
      rintro q hq ⟨h1, h2⟩
      refine hk ⟨h1, ?_⟩
      rw [h2, ord_all ⟨q, hq⟩]
      simp only
      omega
    have ht := cont_odd hx hj (fun q _ h => hno q h)
    rw [hT] at ht
    refine (rdoes_odd b g A c _ x w hm hx' hno).mono ?_
    rintro e w' ⟨⟨n, rfl⟩, ⟨k, hm'⟩, hk2⟩
    exact ⟨Keep2.ofB hk2, n, k, _, _, 4, rfl, hm', .inl ⟨by decide, ht⟩⟩
end Go.Proofs.YthbplchbolghjaaGreatDoor

namespace Go.Proofs.YthbplchbolghjaaGreatDoor
open Go.RowKit

def lenV : Value → Nat
  | .slice _ n _ => n
  | _ => 0
abbrev zero9 : Array Value := #[.int .i64 0, .int .i64 0, .int .i64 0, .int .i64 0, .int .i64 0, .slice none 0 0, .int .i64 0, .int .i64 0, .bool false]
/-- What holds ahead of a line. -/
structure PAt (w wr : World) (g : Nat) (T : Pol × Int × Int × Int) (A : Option Addr) (c j : Nat) (s : PR) : Prop where
  j7 : j ≤ 7
  sl : Sc.SlAt wr A (Sc.cellsW s.rest)
  ne : ∀ q o, A = some ⟨q, o, none⟩ → q ≠ g ∧ q < wr.heap.size
  lc : s.rest.length ≤ c ∧ c ≤ 9223372036854775807
  few : s.rest.length ≤ 5000
  big : ∀ x ∈ s.rest, x.2.1.length ≤ 5000
  dig : ∀ x ∈ s.rest, x.1 = 2 → DigHead x.2.1
  up : s.rest.Pairwise (fun x y => x.2.2.1 ≤ y.2.2.1)
  gm : GoalM wr g s.goal
  on0 : 0 ≤ s.goal.on
  on1 : s.goal.on < 32
  onz : j ≤ 2 → s.goal.on = 0
  drz : j ≤ 3 → s.goal.drain = []
  q0 : Blk wr w.heap.size zero9 25
  bw : Below w.heap.size w wr
  wg : w.heap.size < g
  tl : contF (7 - j) j s = T
theorem PAt.below {w wr w' : World} {g : Nat} {T : Pol × Int × Int × Int} {A : Option Addr} {c j : Nat} {s : PR} (h : PAt w wr g T A c j s) (hb : Below wr.heap.size wr w') : PAt w w' g T A c j s := by
  obtain ⟨Ag, cg, h1, h2⟩ := h.gm
  exact ⟨h.j7, h.sl.below hb, fun q o e => ⟨(h.ne q o e).1, Nat.lt_of_lt_of_le (h.ne q o e).2 hb.size⟩, h.lc, h.few, h.big, h.dig, h.up, ⟨Ag, cg, Blk.below h1 hb (Blk.lt h1), h2.below hb⟩, h.on0, h.on1, h.onz, h.drz, Blk.below h.q0 hb (Blk.lt h.q0), h.bw.trans (hb.mono h.bw.size), h.wg, h.tl⟩
/-- What the document's Parse leaves. -/
def RParseR (w : World) (x : Pol × Int × Int × Int) (e : Ending) (w' : World) : Prop :=
  ∃ A c, e = .returned (.tuple #[valG x.1 A c, .int .i64 x.2.1, .int .i64 x.2.2.1, .int .i64 x.2.2.2]) ∧ NamesAt w' A c x.1.drain ∧ Below w.heap.size w w'
theorem names_nil (w : World) : NamesAt w none 0 [] := ⟨fun j y hj => by simp [strC] at hj, Nat.le_refl _, by omega, fun x hx => by cases hx⟩
/-- Is it a line that may not come here? -/
def missF (x : Sc.W4) (j : Nat) : Bool := decide (x.1 = 1) && (decide (0 < ordF x.2.1) && decide (ordF x.2.1 ≤ (j : Int)))
theorem miss_no {x : Sc.W4} {j : Nat} (h : missF x j = false) : ¬ (x.1 = 1 ∧ 0 < ordF x.2.1 ∧ ordF x.2.1 ≤ (j : Int)) := by
  rintro ⟨h1, h2, h3⟩
  simp [missF, h1, h2, h3] at h
theorem miss_yes {s : PR} {x : Sc.W4} {j : Nat} (hx : s.rest[0]? = some x) (hj : j ≤ 7) (h : missF x j = true) : contF (7 - j) j s = (pol0, (x.2.2.1 : Int), (x.2.2.2 : Int), 4) := by
  simp only [missF, Bool.and_eq_true, decide_eq_true_eq] at h
  refine cont_odd hx hj (fun q h1 h2 hh => ?_)
  have := ord_all ⟨q, h2⟩
  simp only at this
  rw [hh.2, this] at h
  omega
theorem slice_drop {w : World} {b o n : Nat} {l : List Sc.W4} (h : Sc.SlAt w (some ⟨b, o, none⟩) (Sc.cellsW l)) {c : Nat} (hn : n ≤ l.length) (hc : l.length ≤ c) {A : Option Addr} (hA : (if c = n then some ⟨b, o, none⟩ else some ⟨b, o + n * 4, none⟩) = A) : Sc.SlAt w A (Sc.cellsW (l.drop n)) := by
  rw [← hA]
  split
  · rw [List.drop_eq_nil_of_le (by omega)]
    exact Sc.SlAt.nil _ _
  · exact slat_drop h n
theorem Keep2.sl {b g : Nat} {w w' : World} (h : Keep2 b g w w') {A : Option Addr} {xs : List Value} (hs : Sc.SlAt w A xs) (hA : ∀ q o, A = some ⟨q, o, none⟩ → q ≠ b ∧ q ≠ g) : Sc.SlAt w' A xs := by
  intro k y hk
  obtain ⟨q, o, hq, hc⟩ := hs k y hk
  exact ⟨q, o, hq, h.cell hc (hA q o hq).1 (hA q o hq).2⟩
theorem gapZ {w : World} {b i : Nat} {t : List UInt8} (hb : Blk w b zero9 25) (hc : w.cell? ⟨b, i, none⟩ = some (strV t)) : False := by
  by_cases hi : i < 9
  · obtain rfl | rfl | rfl | rfl | rfl | rfl | rfl | rfl | rfl : i = 0 ∨ i = 1 ∨ i = 2 ∨ i = 3 ∨ i = 4 ∨ i = 5 ∨ i = 6 ∨ i = 7 ∨ i = 8 := by omega
    · have := Blk.cell hb 0; rw [this] at hc; cases hc
    · have := Blk.cell hb 1; rw [this] at hc; cases hc
    · have := Blk.cell hb 2; rw [this] at hc; cases hc
    · have := Blk.cell hb 3; rw [this] at hc; cases hc
    · have := Blk.cell hb 4; rw [this] at hc; cases hc
    · have := Blk.cell hb 5; rw [this] at hc; cases hc
    · have := Blk.cell hb 6; rw [this] at hc; cases hc
    · have := Blk.cell hb 7; rw [this] at hc; cases hc
    · have := Blk.cell hb 8; rw [this] at hc; cases hc
  · unfold Blk at hb
    have hs : (zero9)[i]? = none := Array.getElem?_eq_none (by simp [zero9]; omega)
    simp [World.cell?, hb, hs] at hc
theorem goes_bad {T : Pol × Int × Int × Int} {g : Nat} {l rest : List Sc.W4} {w' : World} {i : Nat} {z : PR} {y : Sc.W4} (h : GoesOn T g l rest w' i z) (hy : l[z.at_]? = some y) : T = (pol0, (y.2.2.1 : Int), (y.2.2.2 : Int), 4) := by
  obtain ⟨_, hl, _, _, _, _, _, hT⟩ := h
  rw [hT]
  unfold endP
  rw [hl, hy]
  rfl
theorem goes_on {T : Pol × Int × Int × Int} {g : Nat} {l rest : List Sc.W4} {w' : World} {i : Nat} {z : PR} (h : GoesOn T g l rest w' i z) (hy : l[z.at_]? = none) : contF (7 - (i + 1)) (i + 1) z = T := by
  obtain ⟨_, hl, _, _, _, _, _, hT⟩ := h
  rw [hT]
  unfold endP
  rw [hl, hy]
set_option maxRecDepth 100000 in
set_option maxHeartbeats 8000000 in
theorem rparse_any (t : List UInt8) (w : World) (hU : Sc.Utab w) (ht : t.length ≤ 1000) :
    Calls Tryz.prog 17 #[strV t] w (RParseR w (parseP t)) := by
  have KW := Lib.hid (fun w h => Sc.rwords_any t w ht h)
  have h5 := Lib.hid (words_5000 t ht)
  have hdg := Lib.hid (words_dig t)
  have hup := Lib.hid (Sc.words_rise t)
  obtain ⟨T, hT⟩ : ∃ T, parseP t = T := ⟨_, rfl⟩
  have hT2 := hT
  rw [parse_cont] at hT2
  rw [hT]
  clear hT
  generalize Sc.wordsF t = W at KW h5 hdg hup hT2
  obtain ⟨ws, wl, wc, we⟩ := W
  simp only at hT2
  have HT := Lib.hid hT2
  clear hT2
  have B0 : Hid (Below w.heap.size w (w.alloc (.cells zero9 25))) := Lib.hid (below1 w _)
  have Q0 : Hid (Blk (w.alloc (.cells zero9 25)) w.heap.size zero9 25) := Lib.hid (Blk.new w _ _)
  have U0 : Hid (Sc.Utab (w.alloc (.cells zero9 25))) := Lib.hid (hU.below (below1 w _))
  clear hU
  go_enter Tryz.func17, Tryz.ntmps17
  go_upto_region 1 with fail
  change Code.wp _ _ _ _ (w.alloc (.cells zero9 25))
  generalize (w.alloc (.cells zero9 25)) = W1 at B0 Q0 U0 ⊢
  have hl1 := Blk.lt Q0.out
  go_wp2_with fail
  refine (KW.out _ U0.out).mono ?_
  rintro e w2 ⟨vw, rfl, how, hb2⟩
  simp only at how
  obtain ⟨A2, c2, rfl, hc2⟩ := Sc.own_sliceS how
  have HO := Lib.hid how
  have Q2 := Lib.hid (Blk.below Q0.out hb2 hl1)
  have B2 := Lib.hid (B0.out.trans (hb2.mono (Nat.le_of_lt hl1)))
  have hW1 : W1.heap.size ≤ w2.heap.size := hb2.size
  clear how hb2 KW Q0 B0 U0
  have hl2 := Blk.lt Q2.out
  by_cases h0 : we = 0
  · subst h0
    have HT2 : Hid (contF 7 0 (pr0 ws) = T) := Lib.hid (by rw [← HT.out]; simp)
    have P0 : Hid (PAt w (w2.alloc (.cells zero9 25)) w2.heap.size T A2 c2 0 (pr0 ws)) := Lib.hid
      ⟨by omega, (Sc.own_slat HO.out).below (below1 w2 _), fun q o e => ⟨Nat.ne_of_lt (own_lt HO.out e), Nat.lt_of_lt_of_le (own_lt HO.out e) (below1 w2 _).size⟩, hc2, h5.out.1, h5.out.2, hdg.out, hup.out, ⟨none, 0, Blk.new w2 _ _, names_nil _⟩, Int.le_refl 0, by show (0 : Int) < 32; omega, fun _ => rfl, fun _ => rfl, Blk.alloc Q2.out _, B2.out.alloc B2.out.size _, hl2, HT2.out⟩
    clear HT HT2 h5 hdg hup HO Q2 B2
    go_wp2_with fail
    change Code.wp _ _ _ _ (w2.alloc (.cells zero9 25))
    generalize (w2.alloc (.cells zero9 25)) = w3 at P0 ⊢
    generalize w2.heap.size = g at P0 ⊢
    go_loopw [6, 11] (fun v u wr => ∃ (A : Option Addr) (c j : Nat) (s : PR), v = .slice A s.rest.length c ∧ u = .int .i64 (j : Int) ∧ PAt w wr g T A c j s) (fun v _ _ => lenV v)
    case atStart => exact ⟨A2, c2, 0, pr0 ws, rfl, rfl, P0.out⟩
    case round =>
      obtain ⟨A, c, j, s, rfl, rfl, hp⟩ := hrel
      have HP := Lib.hid hp
      have hlc := hp.lc
      have hfew := hp.few
      have hwg := hp.wg
      clear hp P0
      by_cases hlt : 0 < s.rest.length
      · obtain ⟨x, hx⟩ : ∃ x, s.rest[0]? = some x := ⟨s.rest[0], List.getElem?_eq_getElem hlt⟩
        obtain ⟨b, o, hA, hbl, _, _, _, _⟩ := Sc.SlAt.wor HP.out.sl hx
        subst hA
        have hn := lineF_pos hx
        have hI : Sc.lineI s.rest 0 = ((Sc.lineF s.rest 0 : Nat) : Int) := by rw [Sc.lineI, if_neg (by decide)]; rfl
        have KL := Lib.hid (Sc.rlineI_any (some ⟨b, o, none⟩) c 0 s.rest wr hlc.1 (by unfold maxLen; exact hlc.2) (by omega) (by omega) HP.out.up HP.out.sl)
        rw [hI] at KL
        have DA := Lib.hid (fun b' w' => does_all T j s x b' g (some ⟨b, o, none⟩) c w' HP.out.j7 hx)
        have HX := Lib.hid hx
        have hl1 : (s.rest.take (Sc.lineF s.rest 0)).length = Sc.lineF s.rest 0 := by rw [List.length_take]; omega
        have hl2 : (s.rest.drop (Sc.lineF s.rest 0)).length = s.rest.length - Sc.lineF s.rest 0 := by rw [List.length_drop]
        have k1 : (0 : Int) < (s.rest.length : Int) := by omega
        have hpos : 0 < (s.rest.take (Sc.lineF s.rest 0)).length := by omega
        generalize Sc.lineF s.rest 0 = n at hn KL DA hl1 hl2 hpos
        clear hI hx
        go_wp2_with fail
        refine KL.out.mono ?_
        rintro e w4 ⟨rfl, hb4⟩
        have P4 := Lib.hid (HP.out.below hb4)
        clear hb4 KL HP
        have n0 : (0 : Int) ≤ (n : Int) := by omega
        have n1 : (n : Int) ≤ (s.rest.length : Int) := by omega
        have n2 : (n : Int) ≤ (c : Int) := by omega
        have n3 : (s.rest.length : Int) ≤ (c : Int) := by omega
        have hbg := (P4.out.ne b o rfl).1
        have hb4 := (P4.out.ne b o rfl).2
        have hg4 : g < w4.heap.size := by
          obtain ⟨Ag, cg, hgb, _⟩ := P4.out.gm
          exact Blk.lt hgb
        have R5 : Hid (RowM (w4.alloc (.cells #[.slice (some ⟨b, o, none⟩) n c, .int .i64 0, .int .i64 0, .int .i64 0, .int .i64 0] 81)) w4.heap.size (some ⟨b, o, none⟩) c (s.rest.take n) 0 0 0 0) := Lib.hid
          ⟨by
            have := Blk.new w4 #[.slice (some ⟨b, o, none⟩) n c, .int .i64 0, .int .i64 0, .int .i64 0, .int .i64 0] 81
            unfold cellsRow
            rw [hl1]
            exact this, (slat_take P4.out.sl n).below (below1 w4 _), fun q o' e => by cases e; omega, by omega, by omega, hlc.2⟩
        have P5 : Hid (PAt w (w4.alloc (.cells #[.slice (some ⟨b, o, none⟩) n c, .int .i64 0, .int .i64 0, .int .i64 0, .int .i64 0] 81)) g T (some ⟨b, o, none⟩) c j s) := Lib.hid (P4.out.below (below1 w4 _))
        clear P4
        go_upto_region 9 with fail
        change Code.wp _ _ _ _ (w4.alloc (.cells #[.slice (some ⟨b, o, none⟩) n c, .int .i64 0, .int .i64 0, .int .i64 0, .int .i64 0] 81))
        generalize (w4.alloc (.cells #[.slice (some ⟨b, o, none⟩) n c, .int .i64 0, .int .i64 0, .int .i64 0, .int .i64 0] 81)) = w5 at R5 P5 ⊢
        generalize hr : w4.heap.size = r at R5 hb4 hg4 ⊢
        clear hr
        go_cut [59] (fun v wc => v = .bool (missF x j) ∧ Below w5.heap.size w5 wc)
        case first =>
          have KO := Lib.hid (fun w' => rorder_any x.2.1 w')
          obtain ⟨b', o', hA', _, e0, e1, e2, e3⟩ := Sc.SlAt.wor P5.out.sl HX.out
          cases hA'
          simp only [Nat.zero_mul, Nat.add_zero] at e0 e1 e2 e3
          have HM : Hid (missF x j = (decide (x.1 = 1) && (decide (0 < ordF x.2.1) && decide (ordF x.2.1 ≤ (j : Int))))) := Lib.hid rfl
          obtain ⟨M, hMx⟩ : ∃ M, missF x j = M := ⟨_, rfl⟩
          have HMx := Lib.hid hMx
          rw [hMx] at HM
          clear hMx
          generalize ordF x.2.1 = q at KO HM
          clear DA R5 HX
          obtain ⟨kd, tx, ln, cl⟩ := x
          simp only at e0 e1 e2 e3 HM KO
          by_cases hk : kd = 1
          · subst hk
            have HM2 : Hid (M = (decide (0 < q) && decide (q ≤ (j : Int)))) := Lib.hid (by rw [HM.out]; simp)
            clear HM
            by_cases hq : 0 < q
            · by_cases hj : q ≤ (j : Int)
              · have HM3 : Hid (M = true) := Lib.hid (by rw [HM2.out]; simp [hq, hj])
                clear HM2
                go_wp2_with fail
                refine (KO.out _).mono ?_
                rintro e w6 ⟨rfl, hb6⟩
                have B6 := Lib.hid hb6
                have f1 := (hb6.cell (World.block_lt_of_cell? w5 _ e1)).trans e1
                clear e0 e1 e2 e3 hb6
                go_wp2_with fail
                refine (KO.out _).mono ?_
                rintro e w7 ⟨rfl, hb7⟩
                have B7 := Lib.hid hb7
                clear hb7
                go_wp2
                go_meet
                exact ⟨by rw [HMx.out, HM3.out], B6.out.trans (B7.out.mono B6.out.size)⟩
              · have HM3 : Hid (M = false) := Lib.hid (by rw [HM2.out]; simp [hj])
                clear HM2
                go_wp2_with fail
                refine (KO.out _).mono ?_
                rintro e w6 ⟨rfl, hb6⟩
                have B6 := Lib.hid hb6
                have f1 := (hb6.cell (World.block_lt_of_cell? w5 _ e1)).trans e1
                clear e0 e1 e2 e3 hb6
                go_wp2_with fail
                refine (KO.out _).mono ?_
                rintro e w7 ⟨rfl, hb7⟩
                have B7 := Lib.hid hb7
                clear hb7
                go_wp2
                go_meet
                exact ⟨by rw [HMx.out, HM3.out, decide_eq_false (by omega : ¬ q ≤ (j : Int))], B6.out.trans (B7.out.mono B6.out.size)⟩
            · have HM3 : Hid (M = false) := Lib.hid (by rw [HM2.out]; simp [hq])
              clear HM2
              go_wp2_with fail
              refine (KO.out _).mono ?_
              rintro e w6 ⟨rfl, hb6⟩
              have B6 := Lib.hid hb6
              clear e0 e1 e2 e3 hb6
              go_wp2
              go_meet
              exact ⟨by rw [HMx.out, HM3.out], B6.out⟩
          · have HM3 : Hid (M = false) := Lib.hid (by rw [HM.out]; simp [hk])
            have e4 : (kd == 1) = false := by simpa using hk
            clear HM hk
            go_wp2
            go_meet
            exact ⟨by rw [HMx.out, HM3.out], Below.refl _ _⟩
        case rest =>
          obtain ⟨rfl, hb⟩ := hcut
          have P6 := Lib.hid (P5.out.below hb)
          have R6 := Lib.hid (R5.out.below hb)
          clear P5 R5 hb
          generalize wc = w6 at P6 R6 ⊢
          cases hM : missF x j with
          | true =>
            have HZ : Hid (T = (pol0, (x.2.2.1 : Int), (x.2.2.2 : Int), 4)) := Lib.hid (by rw [← P6.out.tl]; exact miss_yes HX.out P6.out.j7 hM)
            obtain ⟨b', o', hA', _, e0, e1, e2, e3⟩ := Sc.SlAt.wor P6.out.sl HX.out
            cases hA'
            simp only [Nat.zero_mul, Nat.add_zero] at e0 e1 e2 e3
            obtain ⟨kd, tx, ln, cl⟩ := x
            simp only at e0 e1 e2 e3 HZ
            have Q6 := Lib.hid P6.out.q0
            have B6 := Lib.hid P6.out.bw
            have hne : b ≠ w.heap.size := fun e => by
              rw [e] at e1
              exact gapZ Q6.out e1
            have hl6 := Blk.lt Q6.out
            have z0 : w6.cell? ⟨w.heap.size, 0, none⟩ = some (.int .i64 0) := Blk.cell Q6.out 0
            have z1 : w6.cell? ⟨w.heap.size, 1, none⟩ = some (.int .i64 0) := Blk.cell Q6.out 1
            have z2 : w6.cell? ⟨w.heap.size, 2, none⟩ = some (.int .i64 0) := Blk.cell Q6.out 2
            have z3 : w6.cell? ⟨w.heap.size, 3, none⟩ = some (.int .i64 0) := Blk.cell Q6.out 3
            have z4 : w6.cell? ⟨w.heap.size, 4, none⟩ = some (.int .i64 0) := Blk.cell Q6.out 4
            have z5 : w6.cell? ⟨w.heap.size, 5, none⟩ = some (.slice none 0 0) := Blk.cell Q6.out 5
            have z6 : w6.cell? ⟨w.heap.size, 6, none⟩ = some (.int .i64 0) := Blk.cell Q6.out 6
            have z7 : w6.cell? ⟨w.heap.size, 7, none⟩ = some (.int .i64 0) := Blk.cell Q6.out 7
            have z8 : w6.cell? ⟨w.heap.size, 8, none⟩ = some (.bool false) := Blk.cell Q6.out 8
            have zf0 : w6.frozen? ⟨w.heap.size, 0, none⟩ = false := Blk.free Q6.out 0
            have zf1 : w6.frozen? ⟨w.heap.size, 1, none⟩ = false := Blk.free Q6.out 1
            have zf2 : w6.frozen? ⟨w.heap.size, 2, none⟩ = false := Blk.free Q6.out 2
            have zf3 : w6.frozen? ⟨w.heap.size, 3, none⟩ = false := Blk.free Q6.out 3
            have zf4 : w6.frozen? ⟨w.heap.size, 4, none⟩ = false := Blk.free Q6.out 4
            have zf5 : w6.frozen? ⟨w.heap.size, 5, none⟩ = false := Blk.free Q6.out 5
            have zf6 : w6.frozen? ⟨w.heap.size, 6, none⟩ = false := Blk.free Q6.out 6
            have zf7 : w6.frozen? ⟨w.heap.size, 7, none⟩ = false := Blk.free Q6.out 7
            have zf8 : w6.frozen? ⟨w.heap.size, 8, none⟩ = false := Blk.free Q6.out 8
            clear DA R6 HX P6 hM
            go_wp2_with fail
            go_region
            go_wp2_with fail
            refine bodyPost_row4 Tryz.results17 w.heap.size _ _ _ _ (.int .i64 (ln : Int)) (.int .i64 (cl : Int)) (.int .i64 4) ?d1 ?p1 ?s1 ?u1 ?t1 (Blk.drew (blk9 Q6.out (.int .i64 0) (.int .i64 0) (.int .i64 0) (.int .i64 0) (.int .i64 0) (.slice none 0 0) (.int .i64 0) (.int .i64 0) (.bool false))) Tryz.underlying25 rfl goal_size ?_
            case d1 => rfl
            case p1 => rfl
            case s1 => rfl
            case u1 => rfl
            case t1 => rfl
            rw [HZ.out]
            exact ⟨none, 0, rfl, names_nil _, (below9 B6.out (Nat.le_refl _) _ _ _ _ _ _ _ _ _).drew⟩
          | false =>
            have hrg : r ≠ g := by omega
            have KD := Lib.hid (DA.out r w6 R6.out P6.out.gm hrg (fun q o' e => P6.out.ne q o' e) P6.out.few P6.out.big P6.out.dig P6.out.on0 P6.out.on1 P6.out.onz P6.out.drz P6.out.tl (miss_no hM))
            clear DA R6 hM
            go_wp2_with fail
            refine KD.out.mono ?_
            rintro e w7 ⟨hk2, n7, k, ln, cl, er, rfl, hr7, hcase⟩
            have R7 := Lib.hid hr7
            have hs7 := hk2.size
            have hkle := hr7.le
            rw [hl1] at hkle
            have Q7 := Lib.hid (hk2.blk P6.out.q0 (by omega) (by omega))
            have B7 := Lib.hid (P6.out.bw.trans (hk2.below (by omega) (by omega) P6.out.bw.size))
            have S7 := Lib.hid (hk2.sl P6.out.sl (fun q o' e => by cases e; exact ⟨by omega, hbg⟩))
            have HC := Lib.hid hcase
            have hb7 : b < w7.heap.size := Nat.lt_of_lt_of_le (P6.out.ne b o rfl).2 hs7
            have d0 : w7.cell? ⟨r, 0, none⟩ = some (.slice (some ⟨b, o, none⟩) (s.rest.take n).length c) := Blk.cell hr7.blk 0
            rw [hl1] at d0
            have d1 : w7.cell? ⟨r, 1, none⟩ = some (.int .i64 (k : Int)) := Blk.cell hr7.blk 1
            clear hk2 hr7 hcase KD
            rcases HC.out with ⟨her, hTT⟩ | ⟨her, i, z, hn7, hi, hkz, hgo⟩
            · have HZ := Lib.hid hTT
              have HER := Lib.hid her
              have e1 : (er != 0) = true := by simpa using her
              clear her hTT HC P6 S7
              by_cases hkn : k < n
              · have m1 : (k : Int) < (n : Int) := by omega
                have m2 : decide (k < n) = true := decide_eq_true hkn
                go_wp2_with fail
                go_quiet (fail)
                have BN := below_drewN w7.heap.size w7 nq
                generalize w7.drewN nq = w8 at BN ⊢
                have R8 := Lib.hid (R7.out.below BN)
                have Q8 := Lib.hid (Blk.below Q7.out BN (Blk.lt Q7.out))
                have B8 := Lib.hid (B7.out.trans (BN.mono B7.out.size))
                clear R7 Q7 B7 BN d0 d1
                have KF := Lib.hid (rfail_bad r (some ⟨b, o, none⟩) c (s.rest.take n) k ln cl er 4 w8 R8.out HER.out)
                go_wp2_with fail
                refine KF.out.mono ?_
                rintro e w9 ⟨⟨v, rfl⟩, rfl⟩
                clear KF
                have d2 := Blk.cell R8.out.blk 2
                have d3 := Blk.cell R8.out.blk 3
                have d4 := Blk.cell R8.out.blk 4
                have hl8 := Blk.lt Q8.out
                have z0 : w9.cell? ⟨w.heap.size, 0, none⟩ = some (.int .i64 0) := Blk.cell Q8.out 0
                have z1 : w9.cell? ⟨w.heap.size, 1, none⟩ = some (.int .i64 0) := Blk.cell Q8.out 1
                have z2 : w9.cell? ⟨w.heap.size, 2, none⟩ = some (.int .i64 0) := Blk.cell Q8.out 2
                have z3 : w9.cell? ⟨w.heap.size, 3, none⟩ = some (.int .i64 0) := Blk.cell Q8.out 3
                have z4 : w9.cell? ⟨w.heap.size, 4, none⟩ = some (.int .i64 0) := Blk.cell Q8.out 4
                have z5 : w9.cell? ⟨w.heap.size, 5, none⟩ = some (.slice none 0 0) := Blk.cell Q8.out 5
                have z6 : w9.cell? ⟨w.heap.size, 6, none⟩ = some (.int .i64 0) := Blk.cell Q8.out 6
                have z7 : w9.cell? ⟨w.heap.size, 7, none⟩ = some (.int .i64 0) := Blk.cell Q8.out 7
                have z8 : w9.cell? ⟨w.heap.size, 8, none⟩ = some (.bool false) := Blk.cell Q8.out 8
                have zf0 : w9.frozen? ⟨w.heap.size, 0, none⟩ = false := Blk.free Q8.out 0
                have zf1 : w9.frozen? ⟨w.heap.size, 1, none⟩ = false := Blk.free Q8.out 1
                have zf2 : w9.frozen? ⟨w.heap.size, 2, none⟩ = false := Blk.free Q8.out 2
                have zf3 : w9.frozen? ⟨w.heap.size, 3, none⟩ = false := Blk.free Q8.out 3
                have zf4 : w9.frozen? ⟨w.heap.size, 4, none⟩ = false := Blk.free Q8.out 4
                have zf5 : w9.frozen? ⟨w.heap.size, 5, none⟩ = false := Blk.free Q8.out 5
                have zf6 : w9.frozen? ⟨w.heap.size, 6, none⟩ = false := Blk.free Q8.out 6
                have zf7 : w9.frozen? ⟨w.heap.size, 7, none⟩ = false := Blk.free Q8.out 7
                have zf8 : w9.frozen? ⟨w.heap.size, 8, none⟩ = false := Blk.free Q8.out 8
                go_wp2_with fail
                go_region
                go_wp2_with fail
                refine bodyPost_row4 Tryz.results17 w.heap.size _ _ _ _ (.int .i64 ln) (.int .i64 cl) (.int .i64 er) ?d1 ?p1 ?s1 ?u1 ?t1 (Blk.drew (blk9 Q8.out (.int .i64 0) (.int .i64 0) (.int .i64 0) (.int .i64 0) (.int .i64 0) (.slice none 0 0) (.int .i64 0) (.int .i64 0) (.bool false))) Tryz.underlying25 rfl goal_size ?_
                case d1 => rfl
                case p1 => rfl
                case s1 => rfl
                case u1 => rfl
                case t1 => rfl
                rw [HZ.out]
                exact ⟨none, 0, rfl, names_nil _, (below9 B8.out (Nat.le_refl _) _ _ _ _ _ _ _ _ _).drew⟩
              · have m1 : ¬ (k : Int) < (n : Int) := by omega
                have m2 : decide (k < n) = false := decide_eq_false hkn
                have m3 : decide ((k : Int) < (n : Int)) = false := by simp; omega
                go_wp2_with fail
                go_quiet (fail)
                have BN := below_drewN w7.heap.size w7 nq
                generalize w7.drewN nq = w8 at BN ⊢
                have R8 := Lib.hid (R7.out.below BN)
                have Q8 := Lib.hid (Blk.below Q7.out BN (Blk.lt Q7.out))
                have B8 := Lib.hid (B7.out.trans (BN.mono B7.out.size))
                clear R7 Q7 B7 BN d0 d1
                have d2 := Blk.cell R8.out.blk 2
                have d3 := Blk.cell R8.out.blk 3
                have d4 := Blk.cell R8.out.blk 4
                have hl8 := Blk.lt Q8.out
                have z0 : w8.cell? ⟨w.heap.size, 0, none⟩ = some (.int .i64 0) := Blk.cell Q8.out 0
                have z1 : w8.cell? ⟨w.heap.size, 1, none⟩ = some (.int .i64 0) := Blk.cell Q8.out 1
                have z2 : w8.cell? ⟨w.heap.size, 2, none⟩ = some (.int .i64 0) := Blk.cell Q8.out 2
                have z3 : w8.cell? ⟨w.heap.size, 3, none⟩ = some (.int .i64 0) := Blk.cell Q8.out 3
                have z4 : w8.cell? ⟨w.heap.size, 4, none⟩ = some (.int .i64 0) := Blk.cell Q8.out 4
                have z5 : w8.cell? ⟨w.heap.size, 5, none⟩ = some (.slice none 0 0) := Blk.cell Q8.out 5
                have z6 : w8.cell? ⟨w.heap.size, 6, none⟩ = some (.int .i64 0) := Blk.cell Q8.out 6
                have z7 : w8.cell? ⟨w.heap.size, 7, none⟩ = some (.int .i64 0) := Blk.cell Q8.out 7
                have z8 : w8.cell? ⟨w.heap.size, 8, none⟩ = some (.bool false) := Blk.cell Q8.out 8
                have zf0 : w8.frozen? ⟨w.heap.size, 0, none⟩ = false := Blk.free Q8.out 0
                have zf1 : w8.frozen? ⟨w.heap.size, 1, none⟩ = false := Blk.free Q8.out 1
                have zf2 : w8.frozen? ⟨w.heap.size, 2, none⟩ = false := Blk.free Q8.out 2
                have zf3 : w8.frozen? ⟨w.heap.size, 3, none⟩ = false := Blk.free Q8.out 3
                have zf4 : w8.frozen? ⟨w.heap.size, 4, none⟩ = false := Blk.free Q8.out 4
                have zf5 : w8.frozen? ⟨w.heap.size, 5, none⟩ = false := Blk.free Q8.out 5
                have zf6 : w8.frozen? ⟨w.heap.size, 6, none⟩ = false := Blk.free Q8.out 6
                have zf7 : w8.frozen? ⟨w.heap.size, 7, none⟩ = false := Blk.free Q8.out 7
                have zf8 : w8.frozen? ⟨w.heap.size, 8, none⟩ = false := Blk.free Q8.out 8
                go_wp2_with fail
                go_region
                go_wp2_with fail
                refine bodyPost_row4 Tryz.results17 w.heap.size _ _ _ _ (.int .i64 ln) (.int .i64 cl) (.int .i64 er) ?d1 ?p1 ?s1 ?u1 ?t1 (Blk.drew (blk9 Q8.out (.int .i64 0) (.int .i64 0) (.int .i64 0) (.int .i64 0) (.int .i64 0) (.slice none 0 0) (.int .i64 0) (.int .i64 0) (.bool false))) Tryz.underlying25 rfl goal_size ?_
                case d1 => rfl
                case p1 => rfl
                case s1 => rfl
                case u1 => rfl
                case t1 => rfl
                rw [HZ.out]
                exact ⟨none, 0, rfl, names_nil _, (below9 B8.out (Nat.le_refl _) _ _ _ _ _ _ _ _ _).drew⟩
            · subst her
              have HG := Lib.hid hgo
              clear hgo HC
              by_cases hkn : k < n
              · have m1 : (k : Int) < (n : Int) := by omega
                have m2 : decide (k < n) = true := decide_eq_true hkn
                obtain ⟨y, hy⟩ : ∃ y, (s.rest.take n)[k]? = some y := ⟨(s.rest.take n)[k]'(by omega), List.getElem?_eq_getElem _⟩
                have HZ : Hid (T = (pol0, (y.2.2.1 : Int), (y.2.2.2 : Int), 4)) := Lib.hid (goes_bad HG.out (by rw [← hkz]; exact hy))
                have HY := Lib.hid hy
                clear hy HG P6 S7
                go_wp2_with fail
                go_quiet (fail)
                have BN := below_drewN w7.heap.size w7 nq
                generalize w7.drewN nq = w8 at BN ⊢
                have R8 := Lib.hid (R7.out.below BN)
                have Q8 := Lib.hid (Blk.below Q7.out BN (Blk.lt Q7.out))
                have B8 := Lib.hid (B7.out.trans (BN.mono B7.out.size))
                clear R7 Q7 B7 BN d0 d1
                have KF := Lib.hid (rfail_in r (some ⟨b, o, none⟩) c (s.rest.take n) k ln cl 4 y w8 R8.out HY.out)
                have hs8 := B8.out.size
                have hr8 := Blk.lt R8.out.blk
                go_wp2_with fail
                refine KF.out.mono ?_
                rintro e w9 ⟨⟨v, rfl⟩, hr9, hk9⟩
                have R9 := Lib.hid hr9
                have Q9 := Lib.hid (hk9.blk Q8.out (by omega))
                have B9 := Lib.hid (B8.out.trans (hk9.below (by omega) (Nat.le_of_lt hr8)))
                clear KF R8 Q8 B8 hr9 hk9
                have d2 := Blk.cell R9.out.blk 2
                have d3 := Blk.cell R9.out.blk 3
                have d4 := Blk.cell R9.out.blk 4
                have hl9 := Blk.lt Q9.out
                obtain ⟨kdy, txy, lny, cly⟩ := y
                simp only at d2 d3 HZ
                have z0 : w9.cell? ⟨w.heap.size, 0, none⟩ = some (.int .i64 0) := Blk.cell Q9.out 0
                have z1 : w9.cell? ⟨w.heap.size, 1, none⟩ = some (.int .i64 0) := Blk.cell Q9.out 1
                have z2 : w9.cell? ⟨w.heap.size, 2, none⟩ = some (.int .i64 0) := Blk.cell Q9.out 2
                have z3 : w9.cell? ⟨w.heap.size, 3, none⟩ = some (.int .i64 0) := Blk.cell Q9.out 3
                have z4 : w9.cell? ⟨w.heap.size, 4, none⟩ = some (.int .i64 0) := Blk.cell Q9.out 4
                have z5 : w9.cell? ⟨w.heap.size, 5, none⟩ = some (.slice none 0 0) := Blk.cell Q9.out 5
                have z6 : w9.cell? ⟨w.heap.size, 6, none⟩ = some (.int .i64 0) := Blk.cell Q9.out 6
                have z7 : w9.cell? ⟨w.heap.size, 7, none⟩ = some (.int .i64 0) := Blk.cell Q9.out 7
                have z8 : w9.cell? ⟨w.heap.size, 8, none⟩ = some (.bool false) := Blk.cell Q9.out 8
                have zf0 : w9.frozen? ⟨w.heap.size, 0, none⟩ = false := Blk.free Q9.out 0
                have zf1 : w9.frozen? ⟨w.heap.size, 1, none⟩ = false := Blk.free Q9.out 1
                have zf2 : w9.frozen? ⟨w.heap.size, 2, none⟩ = false := Blk.free Q9.out 2
                have zf3 : w9.frozen? ⟨w.heap.size, 3, none⟩ = false := Blk.free Q9.out 3
                have zf4 : w9.frozen? ⟨w.heap.size, 4, none⟩ = false := Blk.free Q9.out 4
                have zf5 : w9.frozen? ⟨w.heap.size, 5, none⟩ = false := Blk.free Q9.out 5
                have zf6 : w9.frozen? ⟨w.heap.size, 6, none⟩ = false := Blk.free Q9.out 6
                have zf7 : w9.frozen? ⟨w.heap.size, 7, none⟩ = false := Blk.free Q9.out 7
                have zf8 : w9.frozen? ⟨w.heap.size, 8, none⟩ = false := Blk.free Q9.out 8
                go_wp2_with fail
                go_region
                go_wp2_with fail
                refine bodyPost_row4 Tryz.results17 w.heap.size _ _ _ _ (.int .i64 (lny : Int)) (.int .i64 (cly : Int)) (.int .i64 4) ?d1 ?p1 ?s1 ?u1 ?t1 (Blk.drew (blk9 Q9.out (.int .i64 0) (.int .i64 0) (.int .i64 0) (.int .i64 0) (.int .i64 0) (.slice none 0 0) (.int .i64 0) (.int .i64 0) (.bool false))) Tryz.underlying25 rfl goal_size ?_
                case d1 => rfl
                case p1 => rfl
                case s1 => rfl
                case u1 => rfl
                case t1 => rfl
                rw [HZ.out]
                exact ⟨none, 0, rfl, names_nil _, (below9 B9.out (Nat.le_refl _) _ _ _ _ _ _ _ _ _).drew⟩
              · have m1 : ¬ (k : Int) < (n : Int) := by omega
                have m2 : decide (k < n) = false := decide_eq_false hkn
                have m3 : decide ((k : Int) < (n : Int)) = false := by simp; omega
                have hnone : (s.rest.take n)[z.at_]? = none := List.getElem?_eq_none (by omega)
                have HTL := Lib.hid (goes_on HG.out hnone)
                have hn7' := hn7
                subst hn7
                go_wp2_with fail
                go_quiet (fail)
                have BN := below_drewN w7.heap.size w7 nq
                generalize w7.drewN nq = w8 at BN ⊢
                have R8 := Lib.hid (R7.out.below BN)
                have Q8 := Lib.hid (Blk.below Q7.out BN (Blk.lt Q7.out))
                have B8 := Lib.hid (B7.out.trans (BN.mono B7.out.size))
                have S8 := Lib.hid (S7.out.below BN)
                have HG8 : Hid (GoalM w8 g z.goal) := Lib.hid (by
                  obtain ⟨Ag, cg, q1, q2⟩ := HG.out.1
                  exact ⟨Ag, cg, Blk.below q1 BN (Blk.lt q1), q2.below BN⟩)
                have hs8 := BN.size
                clear R7 Q7 B7 BN d0 d1 S7
                have d4 := Blk.cell R8.out.blk 4
                go_wp2_with fail
                go_roundw
                case rel =>
                  obtain ⟨_, hzl, hzr, hz0, hz1, hz2, hz3, _⟩ := HG.out
                  have hlz : z.rest.length = s.rest.length - n := by rw [hzr, hl2]
                  refine ⟨_, c - n, i + 1, z, by rw [hlz], by go_num, ?_⟩
                  exact ⟨by omega, by rw [hzr]; exact slice_drop S8.out (by omega) hlc.1 rfl, fun q o' e => by
                    split at e <;> (cases e; exact ⟨hbg, by omega⟩), by rw [hlz]; omega, by rw [hlz]; omega, by rw [hzr]; exact fun y hy => P6.out.big y (List.mem_of_mem_drop hy), by rw [hzr]; exact fun y hy => P6.out.dig y (List.mem_of_mem_drop hy), by rw [hzr]; exact P6.out.up.drop, HG8.out, hz0, hz1, hz2, hz3, Q8.out, B8.out, hwg, HTL.out⟩
                case measure => simp [lenV]; omega
      · have hz : s.rest = [] := List.eq_nil_of_length_eq_zero (by omega)
        have HT3 : Hid (T = if checkG s.goal = 0 then (s.goal, 0, 0, 0) else (pol0, 0, 0, checkG s.goal)) := Lib.hid (by rw [← HP.out.tl, cont_end hz, finP, hz]; rfl)
        obtain ⟨Ag, cg, hgb, hgn⟩ := HP.out.gm
        have KC := Lib.hid (rcheck_any s.goal Ag cg wr hgn)
        have HB := Lib.hid hgb
        have HN := Lib.hid hgn
        have Q4 := Lib.hid HP.out.q0
        have B4 := Lib.hid HP.out.bw
        have k1 : ¬ (0 : Int) < (s.rest.length : Int) := by omega
        have k2 : decide ((0 : Int) < (s.rest.length : Int)) = false := decide_eq_false k1
        have hl4 := Blk.lt Q4.out
        have hlg := Blk.lt hgb
        have g0 : wr.cell? ⟨g, 0, none⟩ = some (.int .i64 s.goal.l0) := Blk.cell HB.out 0
        have g1 : wr.cell? ⟨g, 1, none⟩ = some (.int .i64 s.goal.l1) := Blk.cell HB.out 1
        have g2 : wr.cell? ⟨g, 2, none⟩ = some (.int .i64 s.goal.h0) := Blk.cell HB.out 2
        have g3 : wr.cell? ⟨g, 3, none⟩ = some (.int .i64 s.goal.h1) := Blk.cell HB.out 3
        have g4 : wr.cell? ⟨g, 4, none⟩ = some (.int .i64 s.goal.on) := Blk.cell HB.out 4
        have g5 : wr.cell? ⟨g, 5, none⟩ = some (.slice Ag s.goal.drain.length cg) := Blk.cell HB.out 5
        have g6 : wr.cell? ⟨g, 6, none⟩ = some (.int .i64 s.goal.mx) := Blk.cell HB.out 6
        have g7 : wr.cell? ⟨g, 7, none⟩ = some (.int .i64 s.goal.tr) := Blk.cell HB.out 7
        have g8 : wr.cell? ⟨g, 8, none⟩ = some (.bool s.goal.rb) := Blk.cell HB.out 8
        clear hgb hgn HP hz
        generalize checkG s.goal = ck at KC HT3
        go_wp2_with fail
        refine KC.out.mono ?_
        rintro e w5 ⟨rfl, hb5⟩
        have Q5 := Lib.hid (Blk.below Q4.out hb5 hl4)
        have B5 := Lib.hid (B4.out.trans (hb5.mono (Nat.le_of_lt hl4)))
        have HB5 := Lib.hid (Blk.below HB.out hb5 hlg)
        have HN5 := Lib.hid (HN.out.below hb5)
        clear hb5 KC g0 g1 g2 g3 g4 g5 g6 g7 g8 HB HN Q4 B4
        have hl5 := Blk.lt Q5.out
        have z0 : w5.cell? ⟨w.heap.size, 0, none⟩ = some (.int .i64 0) := Blk.cell Q5.out 0
        have z1 : w5.cell? ⟨w.heap.size, 1, none⟩ = some (.int .i64 0) := Blk.cell Q5.out 1
        have z2 : w5.cell? ⟨w.heap.size, 2, none⟩ = some (.int .i64 0) := Blk.cell Q5.out 2
        have z3 : w5.cell? ⟨w.heap.size, 3, none⟩ = some (.int .i64 0) := Blk.cell Q5.out 3
        have z4 : w5.cell? ⟨w.heap.size, 4, none⟩ = some (.int .i64 0) := Blk.cell Q5.out 4
        have z5 : w5.cell? ⟨w.heap.size, 5, none⟩ = some (.slice none 0 0) := Blk.cell Q5.out 5
        have z6 : w5.cell? ⟨w.heap.size, 6, none⟩ = some (.int .i64 0) := Blk.cell Q5.out 6
        have z7 : w5.cell? ⟨w.heap.size, 7, none⟩ = some (.int .i64 0) := Blk.cell Q5.out 7
        have z8 : w5.cell? ⟨w.heap.size, 8, none⟩ = some (.bool false) := Blk.cell Q5.out 8
        have zf0 : w5.frozen? ⟨w.heap.size, 0, none⟩ = false := Blk.free Q5.out 0
        have zf1 : w5.frozen? ⟨w.heap.size, 1, none⟩ = false := Blk.free Q5.out 1
        have zf2 : w5.frozen? ⟨w.heap.size, 2, none⟩ = false := Blk.free Q5.out 2
        have zf3 : w5.frozen? ⟨w.heap.size, 3, none⟩ = false := Blk.free Q5.out 3
        have zf4 : w5.frozen? ⟨w.heap.size, 4, none⟩ = false := Blk.free Q5.out 4
        have zf5 : w5.frozen? ⟨w.heap.size, 5, none⟩ = false := Blk.free Q5.out 5
        have zf6 : w5.frozen? ⟨w.heap.size, 6, none⟩ = false := Blk.free Q5.out 6
        have zf7 : w5.frozen? ⟨w.heap.size, 7, none⟩ = false := Blk.free Q5.out 7
        have zf8 : w5.frozen? ⟨w.heap.size, 8, none⟩ = false := Blk.free Q5.out 8
        have g0 : w5.cell? ⟨g, 0, none⟩ = some (.int .i64 s.goal.l0) := Blk.cell HB5.out 0
        have g1 : w5.cell? ⟨g, 1, none⟩ = some (.int .i64 s.goal.l1) := Blk.cell HB5.out 1
        have g2 : w5.cell? ⟨g, 2, none⟩ = some (.int .i64 s.goal.h0) := Blk.cell HB5.out 2
        have g3 : w5.cell? ⟨g, 3, none⟩ = some (.int .i64 s.goal.h1) := Blk.cell HB5.out 3
        have g4 : w5.cell? ⟨g, 4, none⟩ = some (.int .i64 s.goal.on) := Blk.cell HB5.out 4
        have g5 : w5.cell? ⟨g, 5, none⟩ = some (.slice Ag s.goal.drain.length cg) := Blk.cell HB5.out 5
        have g6 : w5.cell? ⟨g, 6, none⟩ = some (.int .i64 s.goal.mx) := Blk.cell HB5.out 6
        have g7 : w5.cell? ⟨g, 7, none⟩ = some (.int .i64 s.goal.tr) := Blk.cell HB5.out 7
        have g8 : w5.cell? ⟨g, 8, none⟩ = some (.bool s.goal.rb) := Blk.cell HB5.out 8
        by_cases hck : ck = 0
        · subst hck
          have HZ : Hid (T = (s.goal, 0, 0, 0)) := Lib.hid (by rw [HT3.out]; simp)
          clear HT3
          go_wp2_with fail
          refine bodyPost_row4 Tryz.results17 w.heap.size _ _ _ _ (.int .i64 0) (.int .i64 0) (.int .i64 0) ?d1 ?p1 ?s1 ?u1 ?t1 (blk9 Q5.out (.int .i64 s.goal.l0) (.int .i64 s.goal.l1) (.int .i64 s.goal.h0) (.int .i64 s.goal.h1) (.int .i64 s.goal.on) (.slice Ag s.goal.drain.length cg) (.int .i64 s.goal.mx) (.int .i64 s.goal.tr) (.bool s.goal.rb)) Tryz.underlying25 rfl goal_size ?_
          case d1 => rfl
          case p1 => rfl
          case s1 => rfl
          case u1 => rfl
          case t1 => rfl
          rw [HZ.out]
          exact ⟨Ag, cg, rfl, names_keepR HN5.out (keep9 w5 w.heap.size _ _ _ _ _ _ _ _ _) (fun i t hc => gapZ Q5.out hc), below9 B5.out (Nat.le_refl _) _ _ _ _ _ _ _ _ _⟩
        · have HZ : Hid (T = (pol0, 0, 0, ck)) := Lib.hid (by rw [HT3.out, if_neg hck])
          have e2 : (ck == 0) = false := by simpa using hck
          have e3 : (ck != 0) = true := by simpa using hck
          clear HT3 hck g0 g1 g2 g3 g4 g5 g6 g7 g8
          go_wp2_with fail
          refine bodyPost_row4 Tryz.results17 w.heap.size _ _ _ _ (.int .i64 0) (.int .i64 0) (.int .i64 ck) ?d1 ?p1 ?s1 ?u1 ?t1 (blk9 Q5.out (.int .i64 0) (.int .i64 0) (.int .i64 0) (.int .i64 0) (.int .i64 0) (.slice none 0 0) (.int .i64 0) (.int .i64 0) (.bool false)) Tryz.underlying25 rfl goal_size ?_
          case d1 => rfl
          case p1 => rfl
          case s1 => rfl
          case u1 => rfl
          case t1 => rfl
          rw [HZ.out]
          exact ⟨none, 0, rfl, names_nil _, below9 B5.out (Nat.le_refl _) _ _ _ _ _ _ _ _ _⟩
  · have HZ : Hid (T = (pol0, (wl : Int), (wc : Int), we)) := Lib.hid (by rw [← HT.out, if_pos h0])
    have e1 : decide (we = 0) = false := by simpa using h0
    have e2 : (we == 0) = false := by simpa using h0
    have e3 : (we != 0) = true := by simpa using h0
    have z0 : w2.cell? ⟨w.heap.size, 0, none⟩ = some (.int .i64 0) := Blk.cell Q2.out 0
    have z1 : w2.cell? ⟨w.heap.size, 1, none⟩ = some (.int .i64 0) := Blk.cell Q2.out 1
    have z2 : w2.cell? ⟨w.heap.size, 2, none⟩ = some (.int .i64 0) := Blk.cell Q2.out 2
    have z3 : w2.cell? ⟨w.heap.size, 3, none⟩ = some (.int .i64 0) := Blk.cell Q2.out 3
    have z4 : w2.cell? ⟨w.heap.size, 4, none⟩ = some (.int .i64 0) := Blk.cell Q2.out 4
    have z5 : w2.cell? ⟨w.heap.size, 5, none⟩ = some (.slice none 0 0) := Blk.cell Q2.out 5
    have z6 : w2.cell? ⟨w.heap.size, 6, none⟩ = some (.int .i64 0) := Blk.cell Q2.out 6
    have z7 : w2.cell? ⟨w.heap.size, 7, none⟩ = some (.int .i64 0) := Blk.cell Q2.out 7
    have z8 : w2.cell? ⟨w.heap.size, 8, none⟩ = some (.bool false) := Blk.cell Q2.out 8
    have zf0 : w2.frozen? ⟨w.heap.size, 0, none⟩ = false := Blk.free Q2.out 0
    have zf1 : w2.frozen? ⟨w.heap.size, 1, none⟩ = false := Blk.free Q2.out 1
    have zf2 : w2.frozen? ⟨w.heap.size, 2, none⟩ = false := Blk.free Q2.out 2
    have zf3 : w2.frozen? ⟨w.heap.size, 3, none⟩ = false := Blk.free Q2.out 3
    have zf4 : w2.frozen? ⟨w.heap.size, 4, none⟩ = false := Blk.free Q2.out 4
    have zf5 : w2.frozen? ⟨w.heap.size, 5, none⟩ = false := Blk.free Q2.out 5
    have zf6 : w2.frozen? ⟨w.heap.size, 6, none⟩ = false := Blk.free Q2.out 6
    have zf7 : w2.frozen? ⟨w.heap.size, 7, none⟩ = false := Blk.free Q2.out 7
    have zf8 : w2.frozen? ⟨w.heap.size, 8, none⟩ = false := Blk.free Q2.out 8
    clear HT h5 hdg hup h0
    go_wp2_with fail
    refine bodyPost_row4 Tryz.results17 w.heap.size _ _ _ _ (.int .i64 (wl : Int)) (.int .i64 (wc : Int)) (.int .i64 we) ?d1 ?p1 ?s1 ?u1 ?t1 (blk9 Q2.out (.int .i64 0) (.int .i64 0) (.int .i64 0) (.int .i64 0) (.int .i64 0) (.slice none 0 0) (.int .i64 0) (.int .i64 0) (.bool false)) Tryz.underlying25 rfl goal_size ?_
    case d1 => rfl
    case p1 => rfl
    case s1 => rfl
    case u1 => rfl
    case t1 => rfl
    rw [HZ.out]
    exact ⟨none, 0, rfl, names_nil _, below9 B2.out (Nat.le_refl _) _ _ _ _ _ _ _ _ _⟩
end Go.Proofs.YthbplchbolghjaaGreatDoor

namespace Go.Proofs.YthbplchbolghjaaGreatDoor
open Go.RowKit

theorem check_pol0 : checkG pol0 = 0 := by decide +kernel
theorem parse_may (t : List UInt8) : checkG (parseP t).1 = 0 := by
  unfold parseP
  simp only
  split
  · exact check_pol0
  · split
    · exact check_pol0
    · split
      · assumption
      · exact check_pol0
theorem pcut (T : List UInt8) (m : Nat) : (⟨T.toArray⟩ : ByteArray).extract 0 m = ⟨(T.take m).toArray⟩ := by
  apply ByteArray.ext
  apply Array.toList_inj.1
  simp
theorem pjoin (a b : List UInt8) : (⟨a.toArray⟩ : ByteArray) ++ (⟨b.toArray⟩ : ByteArray) = ⟨(a ++ b).toArray⟩ := by
  apply ByteArray.ext
  simp [ByteArray.data_append]
theorem may_big {g : Pol} (h : checkG g = 0) : ∀ x ∈ g.drain, x.length ≤ 9223372036854775807 := fun x hx => by
  obtain ⟨_, _, ⟨_, hn⟩, _⟩ := polB_all h
  have := (names_15 hn x hx).2
  omega
theorem parse_names (t : List UInt8) (w : World) (he : Env w) (ht : t.length ≤ 20000) {g : Pol} {a b e0 : Int} (hP : parseP t = (g, a, b, e0)) :
    Calls Tryz.prog 16 #[strV t] w fun e w' => ∃ A' c', e = .returned (.tuple #[.agg #[.int .i64 g.l0, .int .i64 g.l1, .int .i64 g.h0, .int .i64 g.h1, .int .i64 g.on, .slice A' g.drain.length c', .int .i64 g.mx, .int .i64 g.tr, .bool g.rb], .int .i64 a, .int .i64 b, .int .i64 e0]) ∧ NamesAt w' A' c' g.drain ∧ Below w.heap.size w w' := by
  have hc := parse_may t
  have k := parse_any t w he ht
  rw [hP] at k hc
  refine k.mono ?_
  rintro e w'' ⟨A', c', rfl, ho, hb''⟩
  exact ⟨A', c', rfl, ⟨fun j y hj => Sc.own_slat ho j y hj, (Sc.own_cap ho).1, (Sc.own_cap ho).2, may_big hc⟩, hb''⟩

set_option maxRecDepth 100000 in
set_option maxHeartbeats 2000000 in
/-- The document's Same says so of a policy and itself, wherever its names lie. -/
theorem rsame_yes (g : Pol) (A B : Option Addr) (c d : Nat) (w : World) (h1 : NamesAt w A c g.drain) (h2 : NamesAt w B d g.drain) :
    Calls Tryz.prog 18 #[valG g A c, valG g B d] w fun e w' => e = .returned (.bool true) ∧ Below w.heap.size w w' := by
  have H1 := Lib.hid h1
  have H2 := Lib.hid h2
  have hl := Nat.le_trans h1.le h1.most
  have HB0 : Hid (Below w.heap.size w ((w.alloc (.cells (cellsG g A c) 25)).alloc (.cells (cellsG g B d) 25))) := Lib.hid ((below1 w _).alloc (by simp) _)
  have QA : Hid (Blk ((w.alloc (.cells (cellsG g A c) 25)).alloc (.cells (cellsG g B d) 25)) w.heap.size (cellsG g A c) 25) := Lib.hid (Blk.alloc (Blk.new w _ _) _)
  have QB : Hid (Blk ((w.alloc (.cells (cellsG g A c) 25)).alloc (.cells (cellsG g B d) 25)) (w.heap.size + 1) (cellsG g B d) 25) := Lib.hid (blk2a w _ _ _)
  have q1 := arr2_eq g.l0 g.l1
  have q2 := arr2_eq g.h0 g.h1
  have q3 := arr2_guard
  have b0 : ((g.drain.length : Int) == (g.drain.length : Int)) = true := by simp
  have b1 : (g.on == g.on) = true := by simp
  have b2 : (g.mx == g.mx) = true := by simp
  have b3 : (g.tr == g.tr) = true := by simp
  have b4 : (g.rb == g.rb) = true := by simp
  clear h1 h2
  go_enter Tryz.func18, Tryz.ntmps18
  go_upto_region 1 with fail
  change Code.wp _ _ _ _ ((w.alloc (.cells (cellsG g A c) 25)).alloc (.cells (cellsG g B d) 25))
  generalize ((w.alloc (.cells (cellsG g A c) 25)).alloc (.cells (cellsG g B d) 25)) = W at HB0 QA QB ⊢
  have hlW := Blk.lt QB.out
  have a0 : W.cell? ⟨w.heap.size, 0, none⟩ = some (.int .i64 g.l0) := Blk.cell QA.out 0
  have a1 : W.cell? ⟨w.heap.size, 1, none⟩ = some (.int .i64 g.l1) := Blk.cell QA.out 1
  have a2 : W.cell? ⟨w.heap.size, 2, none⟩ = some (.int .i64 g.h0) := Blk.cell QA.out 2
  have a3 : W.cell? ⟨w.heap.size, 3, none⟩ = some (.int .i64 g.h1) := Blk.cell QA.out 3
  have a4 : W.cell? ⟨w.heap.size, 4, none⟩ = some (.int .i64 g.on) := Blk.cell QA.out 4
  have a5 : W.cell? ⟨w.heap.size, 5, none⟩ = some (.slice A g.drain.length c) := Blk.cell QA.out 5
  have a6 : W.cell? ⟨w.heap.size, 6, none⟩ = some (.int .i64 g.mx) := Blk.cell QA.out 6
  have a7 : W.cell? ⟨w.heap.size, 7, none⟩ = some (.int .i64 g.tr) := Blk.cell QA.out 7
  have a8 : W.cell? ⟨w.heap.size, 8, none⟩ = some (.bool g.rb) := Blk.cell QA.out 8
  have e0 : W.cell? ⟨w.heap.size + 1, 0, none⟩ = some (.int .i64 g.l0) := Blk.cell QB.out 0
  have e1 : W.cell? ⟨w.heap.size + 1, 1, none⟩ = some (.int .i64 g.l1) := Blk.cell QB.out 1
  have e2 : W.cell? ⟨w.heap.size + 1, 2, none⟩ = some (.int .i64 g.h0) := Blk.cell QB.out 2
  have e3 : W.cell? ⟨w.heap.size + 1, 3, none⟩ = some (.int .i64 g.h1) := Blk.cell QB.out 3
  have e4 : W.cell? ⟨w.heap.size + 1, 4, none⟩ = some (.int .i64 g.on) := Blk.cell QB.out 4
  have e5 : W.cell? ⟨w.heap.size + 1, 5, none⟩ = some (.slice B g.drain.length d) := Blk.cell QB.out 5
  have e6 : W.cell? ⟨w.heap.size + 1, 6, none⟩ = some (.int .i64 g.mx) := Blk.cell QB.out 6
  have e7 : W.cell? ⟨w.heap.size + 1, 7, none⟩ = some (.int .i64 g.tr) := Blk.cell QB.out 7
  have e8 : W.cell? ⟨w.heap.size + 1, 8, none⟩ = some (.bool g.rb) := Blk.cell QB.out 8
  go_wp2_with fail
  have QA5 := Lib.hid a5
  have QB5 := Lib.hid e5
  clear a0 a1 a2 a3 a4 a5 a6 a7 a8 e0 e1 e2 e3 e4 e5 e6 e7 e8 q1 q2 q3 b1 b2 b3 b4
  go_loopw [5] (fun i wr => ∃ k : Nat, k ≤ g.drain.length ∧ i = .int .i64 k ∧ Below W.heap.size W wr) (fun i _ => g.drain.length - (intOf i).toNat)
  case atStart => exact ⟨0, by omega, rfl, Below.refl _ _⟩
  case round =>
    obtain ⟨k, hk, rfl, hbw⟩ := hrel
    have HB := Lib.hid hbw
    have HBW := Lib.hid (HB0.out.trans (hbw.mono HB0.out.size))
    have a5 : wr.cell? ⟨w.heap.size, 5, none⟩ = some (.slice A g.drain.length c) := (hbw.cell (by simp only; omega)).trans QA5.out
    have e5 : wr.cell? ⟨w.heap.size + 1, 5, none⟩ = some (.slice B g.drain.length d) := (hbw.cell (by simp only; omega)).trans QB5.out
    clear hbw
    by_cases hlt : k < g.drain.length
    · obtain ⟨t, ht⟩ : ∃ t, g.drain[k]? = some t := ⟨g.drain[k], List.getElem?_eq_getElem hlt⟩
      obtain ⟨b1, o1, hA, hl1, hc1⟩ := strC_at (H1.out.below HBW.out).cells ht
      obtain ⟨b2, o2, hB, hl2, hc2⟩ := strC_at (H2.out.below HBW.out).cells ht
      subst hA hB
      have k0 : (0 : Int) ≤ (k : Int) := by omega
      have k1 : (k : Int) < (g.drain.length : Int) := by omega
      have tt : (t == t) = true := by simp
      have hcA := H1.out.le
      have hcB := H2.out.le
      clear ht
      go_wp2_with fail
      go_quiet (fail)
      go_wp2
      go_roundw
      case rel => exact ⟨k + 1, by omega, by go_num, belowN HB.out _⟩
      case measure => simp [intOf]; omega
    · obtain rfl : k = g.drain.length := by omega
      go_wp2
      go_ret
      exact ⟨rfl, HBW.out⟩


set_option maxRecDepth 100000 in
set_option maxHeartbeats 4000000 in
theorem parses_law (T : List UInt8) (w : World) (he : Env w) (hu : Sc.Utab w) (hT : T.length ≤ 9223372036854775807) :
    Calls Tryz.prog 4 #[strV T] w fun e w' => e = .returned (.bool true) ∧ Below w.heap.size w w' := by
  have HE := Lib.hid he
  have HU := Lib.hid hu
  obtain ⟨m, hm⟩ : ∃ m, min T.length 1000 = m := ⟨_, rfl⟩
  have hml : m ≤ T.length := by omega
  have hmi : min (T.length : Int) 1000 = (m : Int) := by omega
  have hmk : m ≤ 1000 := by omega
  have hmt : (T.take m).length ≤ 1000 := by rw [List.length_take]; omega
  rcases hP : parseP (T.take m) with ⟨g, x, y, e0⟩
  have KP : Hid (∀ w', Below w.heap.size w w' → Calls Tryz.prog 16 #[.string ((⟨T.toArray⟩ : ByteArray).extract 0 m)] w' fun e w'' => ∃ A' c', e = .returned (.tuple #[.agg #[.int .i64 g.l0, .int .i64 g.l1, .int .i64 g.h0, .int .i64 g.h1, .int .i64 g.on, .slice A' g.drain.length c', .int .i64 g.mx, .int .i64 g.tr, .bool g.rb], .int .i64 x, .int .i64 y, .int .i64 e0]) ∧ NamesAt w'' A' c' g.drain ∧ Below w'.heap.size w' w'') := Lib.hid (fun w' hb => by
    rw [pcut]
    exact parse_names _ w' (HE.out.below hb) (by omega) hP)
  have KR : Hid (∀ w', Below w.heap.size w w' → Calls Tryz.prog 17 #[.string ((⟨T.toArray⟩ : ByteArray).extract 0 m)] w' fun e w'' => ∃ A' c', e = .returned (.tuple #[.agg #[.int .i64 g.l0, .int .i64 g.l1, .int .i64 g.h0, .int .i64 g.h1, .int .i64 g.on, .slice A' g.drain.length c', .int .i64 g.mx, .int .i64 g.tr, .bool g.rb], .int .i64 x, .int .i64 y, .int .i64 e0]) ∧ NamesAt w'' A' c' g.drain ∧ Below w'.heap.size w' w'') := Lib.hid (fun w' hb => by
    rw [pcut]
    have k := rparse_any (T.take m) w' (HU.out.below hb) hmt
    rw [hP] at k
    exact k)
  have KS := Lib.hid (fun w' A B c d h1 h2 => rsame_yes g A B c d w' h1 h2)
  have KK := Lib.hid (fun w' (hb : Below w.heap.size w w') => gworks_any w' (HE.out.below hb))
  have b1 : (x == x) = true := by simp
  have b2 : (y == y) = true := by simp
  have b3 : (e0 == e0) = true := by simp
  clear he hu hP hm hmt hmk HE HU
  go_enter Tryz.func4, Tryz.ntmps4
  go_wp2_with fail
  refine (KP.out _ (Below.refl _ _)).mono ?_
  rintro e w1 ⟨A1, c1, rfl, hn1, hb1⟩
  have B1 := Lib.hid hb1
  have N1 := Lib.hid hn1
  clear hn1 hb1 KP
  go_upto_region 3 with fail
  change Code.wp _ _ _ _ (w1.alloc (.cells (cellsG g A1 c1) 25))
  have B2 : Hid (Below w.heap.size w (w1.alloc (.cells (cellsG g A1 c1) 25))) := Lib.hid (B1.out.alloc B1.out.size _)
  have Q2 : Hid (Blk (w1.alloc (.cells (cellsG g A1 c1) 25)) w1.heap.size (cellsG g A1 c1) 25) := Lib.hid (Blk.new w1 _ _)
  have N2 : Hid (NamesAt (w1.alloc (.cells (cellsG g A1 c1) 25)) A1 c1 g.drain) := Lib.hid (N1.out.below (below1 w1 _))
  generalize (w1.alloc (.cells (cellsG g A1 c1) 25)) = w2 at B2 Q2 N2 ⊢
  generalize w1.heap.size = q at Q2 ⊢
  clear B1 N1
  have hl2 := Blk.lt Q2.out
  go_wp2_with fail
  refine (KR.out _ B2.out).mono ?_
  rintro e w3 ⟨A3, c3, rfl, hn3, hb3⟩
  have B3 := Lib.hid (B2.out.trans (hb3.mono B2.out.size))
  have N3 := Lib.hid hn3
  have N3' := Lib.hid (N2.out.below hb3)
  have Q3 := Lib.hid (Blk.below Q2.out hb3 hl2)
  clear hn3 hb3 KR B2 Q2 N2 hl2
  have hl3 := Blk.lt Q3.out
  go_upto_region 4 with fail
  change Code.wp _ _ _ _ (w3.alloc (.cells (cellsG g A3 c3) 25))
  have B4 : Hid (Below w.heap.size w (w3.alloc (.cells (cellsG g A3 c3) 25))) := Lib.hid (B3.out.alloc B3.out.size _)
  have Q4 : Hid (Blk (w3.alloc (.cells (cellsG g A3 c3) 25)) w3.heap.size (cellsG g A3 c3) 25) := Lib.hid (Blk.new w3 _ _)
  have Q4' : Hid (Blk (w3.alloc (.cells (cellsG g A3 c3) 25)) q (cellsG g A1 c1) 25) := Lib.hid (Blk.alloc Q3.out _)
  have N4 : Hid (NamesAt (w3.alloc (.cells (cellsG g A3 c3) 25)) A3 c3 g.drain) := Lib.hid (N3.out.below (below1 w3 _))
  have N4' : Hid (NamesAt (w3.alloc (.cells (cellsG g A3 c3) 25)) A1 c1 g.drain) := Lib.hid (N3'.out.below (below1 w3 _))
  generalize (w3.alloc (.cells (cellsG g A3 c3) 25)) = w4 at B4 Q4 Q4' N4 N4' ⊢
  generalize w3.heap.size = p at Q4 hl3 ⊢
  clear B3 N3 N3' Q3
  have KS4 := Lib.hid (KS.out w4 A1 A3 c1 c3 N4'.out N4.out)
  have a0 : w4.cell? ⟨q, 0, none⟩ = some (.int .i64 g.l0) := Blk.cell Q4'.out 0
  have a1 : w4.cell? ⟨q, 1, none⟩ = some (.int .i64 g.l1) := Blk.cell Q4'.out 1
  have a2 : w4.cell? ⟨q, 2, none⟩ = some (.int .i64 g.h0) := Blk.cell Q4'.out 2
  have a3 : w4.cell? ⟨q, 3, none⟩ = some (.int .i64 g.h1) := Blk.cell Q4'.out 3
  have a4 : w4.cell? ⟨q, 4, none⟩ = some (.int .i64 g.on) := Blk.cell Q4'.out 4
  have a5 : w4.cell? ⟨q, 5, none⟩ = some (.slice A1 g.drain.length c1) := Blk.cell Q4'.out 5
  have a6 : w4.cell? ⟨q, 6, none⟩ = some (.int .i64 g.mx) := Blk.cell Q4'.out 6
  have a7 : w4.cell? ⟨q, 7, none⟩ = some (.int .i64 g.tr) := Blk.cell Q4'.out 7
  have a8 : w4.cell? ⟨q, 8, none⟩ = some (.bool g.rb) := Blk.cell Q4'.out 8
  have d0 : w4.cell? ⟨p, 0, none⟩ = some (.int .i64 g.l0) := Blk.cell Q4.out 0
  have d1 : w4.cell? ⟨p, 1, none⟩ = some (.int .i64 g.l1) := Blk.cell Q4.out 1
  have d2 : w4.cell? ⟨p, 2, none⟩ = some (.int .i64 g.h0) := Blk.cell Q4.out 2
  have d3 : w4.cell? ⟨p, 3, none⟩ = some (.int .i64 g.h1) := Blk.cell Q4.out 3
  have d4 : w4.cell? ⟨p, 4, none⟩ = some (.int .i64 g.on) := Blk.cell Q4.out 4
  have d5 : w4.cell? ⟨p, 5, none⟩ = some (.slice A3 g.drain.length c3) := Blk.cell Q4.out 5
  have d6 : w4.cell? ⟨p, 6, none⟩ = some (.int .i64 g.mx) := Blk.cell Q4.out 6
  have d7 : w4.cell? ⟨p, 7, none⟩ = some (.int .i64 g.tr) := Blk.cell Q4.out 7
  have d8 : w4.cell? ⟨p, 8, none⟩ = some (.bool g.rb) := Blk.cell Q4.out 8
  go_wp2_with fail
  refine KS4.out.mono ?_
  rintro e w5 ⟨rfl, hb5⟩
  have B5 := Lib.hid (B4.out.trans (hb5.mono B4.out.size))
  clear hb5 KS4 a0 a1 a2 a3 a4 a5 a6 a7 a8 d0 d1 d2 d3 d4 d5 d6 d7 d8
  go_wp2_with fail
  refine (KK.out _ B5.out).mono ?_
  rintro e w6 ⟨rfl, hb6⟩
  have B6 := Lib.hid (B5.out.trans (hb6.mono B5.out.size))
  clear hb6
  go_wp2
  go_ret
  exact ⟨rfl, B6.out⟩
end Go.Proofs.YthbplchbolghjaaGreatDoor

namespace Go.Proofs.YthbplchbolghjaaGreatDoor
open Go.ChangeShapes Go.WideShapes Go.ChangeAt Go.RowKit Go.Deep

theorem first_data : Rows.laid_unicode_utf8_first = Lib.firstData := by kernel_rfl
theorem accept_data : (Rows.laid_unicode_utf8_acceptRanges : DataW Unit) = Lib.acceptData := by kernel_rfl
/-- What the rows list. -/
def laid9 : List (String × DataW Unit) := [("math/bits.deBruijn32tab", Rows.laid_math_bits_deBruijn32tab), ("math/bits.deBruijn64tab", Rows.laid_math_bits_deBruijn64tab), ("internal/strconv.uint64pow10", Rows.laid_internal_strconv_uint64pow10), ("unicode/utf8.acceptRanges", Rows.laid_unicode_utf8_acceptRanges), ("strconv.ErrRange", Rows.laid_strconv_ErrRange), ("strconv.ErrSyntax", Rows.laid_strconv_ErrSyntax), ("drayage/policy.keys", Rows.laid_drayage_policy_keys), ("drayage/policy.looks", Rows.laid_drayage_policy_looks), ("unicode/utf8.first", Rows.laid_unicode_utf8_first)]
theorem env_of9 {W : World} (h : laidMetH Tryz.prog laid9 W) : Env W := by
  have h1 := h.filter (fun x => !(x.1 == "unicode/utf8.acceptRanges" || x.1 == "unicode/utf8.first"))
  have e : (laid9.filter (fun x => !(x.1 == "unicode/utf8.acceptRanges" || x.1 == "unicode/utf8.first"))) = laid7 := by
    unfold laid9 laid7
    rfl
  rw [e] at h1
  exact env_of7 h1
theorem utab_of9 {W : World} (h : laidMetH Tryz.prog laid9 W) : Sc.Utab W := by
  have h1 := h.filter (fun x => x.1 == "unicode/utf8.first")
  have e1 : (laid9.filter (fun x => x.1 == "unicode/utf8.first")) = [("unicode/utf8.first", Lib.firstData)] := by
    rw [← first_data]
    unfold laid9
    rfl
  rw [e1] at h1
  have h2 := h.filter (fun x => x.1 == "unicode/utf8.acceptRanges")
  have e2 : (laid9.filter (fun x => x.1 == "unicode/utf8.acceptRanges")) = [("unicode/utf8.acceptRanges", Lib.acceptData)] := by
    rw [← accept_data]
    unfold laid9
    rfl
  rw [e2] at h2
  have L : U8Types Tryz.prog Tryz.lays197_ren := { Tryz.lays197 with }
  exact utf8Tabs_of_readsT L ⟨by kernel_rfl, by kernel_rfl, by kernel_rfl, by kernel_rfl, by kernel_rfl, by kernel_rfl, by kernel_rfl⟩ (Lib.laidMet.reads (laidMetH_iff.1 h1).1 (.head _)) (Lib.laidMet.reads (laidMetH_iff.1 h2).1 (.head _))
/-- The settled world, with the nine as their initialisers lay them. -/
noncomputable def laidWorldU (os : Os) : World :=
  { laidWorldG os with heap :=
      ((laidWorldG os).heap.modify 3 (putCells (Lib.firstTab.map fun z => Value.int .u8 z).toArray)).modify 4 (putCells ((List.range 16).flatMap fun i => [Value.int .u8 (Lib.accLo i), Value.int .u8 (Lib.accHi i)]).toArray) }
end Go.Proofs.YthbplchbolghjaaGreatDoor
