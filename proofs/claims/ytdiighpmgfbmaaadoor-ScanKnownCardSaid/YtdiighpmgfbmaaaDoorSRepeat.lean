/- strings.Repeat of a letter and a blank, 32768 times. No conditions. -/
import Derived.Test.YtdiighpmgfbmaaaDoorSBuildG
import Derived.Test.YtdiighpmgfbmaaaDoorSKnownM
import Derived.Lib.RepeatB
import Derived.Deep.LoopGhost
import Derived.Deep.DeepFit
import Derived.Deep.CutBlock
namespace Go.Proofs.YtdiighpmgfbmaaaDoor
open Go.RowKit

theorem run_min3 {P : Program} {w : World} (ts : Array TypeId) (t : TypeId) (k k' k'' : IntKind) (x y z : Int) :
    (Builtin.min_ ts t #[.int k x, .int k' y, .int k'' z]).run P w = .ok (.int k (if z < (if y < x then y else x) then z else (if y < x then y else x))) w := by
  simp [Builtin.min_, Builtin.min2]

set_option maxHeartbeats 1000000 in
set_option maxRecDepth 100000 in
theorem repeat_any (n : Nat) (hn : n = 32768) (w : World) :
    Calls Tryd.prog 16 #[.string ⟨#[97, 32]⟩, .int .i64 32768] w fun e w' => e = .returned (strV (Lib.repeatL aB n)) ∧ Below w.heap.size w w' := by
  have HN := Lib.hid hn
  clear hn
  have hMul := Tryd.bits_Mul 2 32768 (by omega) (by omega) w
  simp only [Nat.reduceMul, Nat.reduceDiv, Nat.reduceMod] at hMul
  go_enter Tryd.func16, Tryd.ntmps16
  go_wp2_with (go_at_call 27; refine hMul.mono ?_; rintro e w9 ⟨rfl, hw⟩; rw [hw])
  have b0 : Below w.heap.size w (w.alloc (.cells #[.pointer none, .slice none 0 0] 64)) := (Below.refl _ w).alloc (Nat.le_refl _) _
  refine (growF w.heap.size w.heap.size 65536 (w.alloc (.cells #[.pointer none, .slice none 0 0] 64)) (Nat.le_refl _) (heap_alloc_new w _) b0.size (by omega)).mono ?_
  rintro e W1 ⟨rfl, h1, b1⟩
  have H1 := Lib.hid h1
  have B1 := Lib.hid (b0.trans b1)
  clear h1 b1 b0 hMul
  go_wp2_with fail
  refine (writeStringF w.heap.size w.heap.size [] ⟨#[97, 32]⟩ W1 (Lib.IsBuilderF.of (Or.inr H1.out)) (by decide) B1.out.size).mono ?_
  rintro e W2 ⟨rfl, h2, b2⟩
  have h2' : Lib.IsBuilderF 64 5 w.heap.size w.heap.size (Lib.byteCells (Lib.repeatL aB 1)) W2 := by
    rw [List.nil_append, Lib.strCells_eq] at h2
    rw [Lib.repeatL_one]
    exact Or.inr h2
  have H2 := Lib.hid h2'
  have B2 := Lib.hid (B1.out.trans b2)
  clear h2 h2' b2 H1 B1
  go_wp2_with fail
  go_loopg [] (n - 1) (fun g wx => ∃ q : Nat, 1 ≤ q ∧ q + g = n ∧ Lib.IsBuilderF 64 5 w.heap.size w.heap.size (Lib.byteCells (Lib.repeatL aB q)) wx ∧ Below w.heap.size w wx)
  case atStart => exact ⟨1, Nat.le_refl _, by have := HN.out; omega, H2.out, B2.out⟩
  case round =>
    obtain ⟨q, hq1, hqg, hB, hbx⟩ := hrel
    have hlq : (Lib.byteCells (Lib.repeatL aB q)).length = q * 2 := by rw [Lib.byteCells_length, Lib.repeatL_length]; rfl
    have cLen := Tryd.Builder_Len_f w.heap.size w.heap.size _ wr hB
    rw [hlq] at cLen
    have cStr := Tryd.Builder_String_any_f w.heap.size w.heap.size (Lib.repeatL aB q) wr hB hbx.size
    obtain ⟨S, hS⟩ : ∃ S : ByteArray, (⟨(Lib.repeatL aB q).toArray⟩ : ByteArray) = S := ⟨_, rfl⟩
    have hSd : S.data.toList = Lib.repeatL aB q := by rw [← hS]
    have hSz : S.size = q * 2 := by rw [Lib.size_eq, hSd, Lib.repeatL_length]; rfl
    rw [hS] at cStr
    obtain ⟨Q, hQ⟩ : ∃ Q, q * 2 = Q := ⟨_, rfl⟩
    rw [hQ] at cLen hSz hlq
    have CL := Lib.hid cLen
    have CS := Lib.hid cStr
    have HB := Lib.hid hB
    have HX := Lib.hid hbx
    have HSd := Lib.hid hSd
    have HS := Lib.hid hS
    have HQ := Lib.hid hQ
    clear cLen cStr hB hbx hSd hS
    cases gk with
    | zero =>
      obtain rfl : q = n := by omega
      obtain rfl : Q = 65536 := by have := HN.out; omega
      clear hQ hqg hSz hlq
      go_wp2_with (first
        | (refine CL.out.mono ?_; rintro e w' ⟨rfl, hw⟩; rw [hw])
        | (refine CS.out.mono ?_; rintro e W3 ⟨rfl, h3, b3⟩))
      go_ret
      exact ⟨by rw [← HS.out]; rfl, HX.out.trans b3⟩
    | succ g =>
      have hqc : q < n := by omega
      obtain ⟨k, hk1, hkq, hkc, hmin⟩ := Lib.chunk_ok n q 4096 2 hq1 hqc (by omega)
      have hnn : n * 2 = 65536 := by rw [HN.out]
      rw [hnn] at hmin
      have hQn : (Q : Int) < 65536 := by omega
      have hmin3 : ∀ (ts : Array TypeId) (t : TypeId) (W : World), (Builtin.min_ ts t #[.int .i64 (65536 - (Q : Int)), .int .i64 (Q : Int), .int .i64 8192]).run Tryd.prog W = .ok (.int .i64 ((k * 2 : Nat) : Int)) W := fun ts t W => by
        rw [run_min3]
        congr 2
        rw [← hmin]
        omega
      obtain ⟨CH, hCH⟩ : ∃ CH, k * 2 = CH := ⟨_, rfl⟩
      rw [hCH] at hmin3
      have hCHQ : CH ≤ Q := by omega
      have HCH := Lib.hid hCH
      clear hmin hQ hCH
      go_wp2_with (first
        | (refine CL.out.mono ?_; rintro e w' ⟨rfl, hw⟩; rw [hw])
        | (refine CS.out.mono ?_; rintro e W3 ⟨rfl, h3, b3⟩))
      refine (writeStringF w.heap.size w.heap.size _ (S.extract 0 CH) W3 h3 (by
        rw [hlq, Lib.size_eq, Lib.extract_data, HSd.out]
        simp only [List.drop_zero, Nat.sub_zero, List.length_take, Lib.repeatL_length]
        omega) (Nat.le_trans HX.out.size b3.size)).mono ?_
      rintro e W4 ⟨rfl, h4, b4⟩
      rw [Lib.strCells_eq, ← Lib.byteCells_append, Lib.extract_data, HSd.out] at h4
      simp only [List.drop_zero, Nat.sub_zero] at h4
      rw [← HCH.out, show k * 2 = k * aB.length from rfl, Lib.step_ok _ _ _ hkq] at h4
      have H4 := Lib.hid h4
      have B4 := Lib.hid (HX.out.trans (b3.trans b4))
      clear h4 b3 b4 h3
      go_wp2_with fail
      go_roundg (n - (q + k))
      case measure => omega
      case rel => exact ⟨q + k, by omega, by omega, Or.inr H4.out, B4.out⟩
end Go.Proofs.YtdiighpmgfbmaaaDoor
