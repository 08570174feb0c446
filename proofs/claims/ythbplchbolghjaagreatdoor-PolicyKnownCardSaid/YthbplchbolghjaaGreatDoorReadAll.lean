/- What reading a whole text comes to, for any table of suffixes: as a plain function of its bytes. Conditions: at most three places, no long suffix, a text that can lie in memory. -/
import Derived.Test.YthbplchbolghjaaGreatDoorRead
namespace Go.Proofs.YthbplchbolghjaaGreatDoor.Qu
open Go.RowKit

def rd0 : Rd := ⟨0, false, false, 0, []⟩

/-- Rune by rune, from a place on: what was read of all of it, or where it is wrong. -/
def scanF (s : ByteArray) (P : Nat) (m : List (List UInt8 × Int)) : Nat → Nat → Rd → Option Rd × Nat
  | 0, pos, r => (some r, pos)
  | f + 1, pos, r => if pos < s.size then (match r.take (Utf8.decode s pos).1 P m with
      | none => (none, pos)
      | some r' => scanF s P m f (pos + (Utf8.decode s pos).2) r') else (some r, pos)

/-- Value, scale, place, error. -/
def readL (s : ByteArray) (P : Nat) (m : List (List UInt8 × Int)) : Int × Int × Int × Int :=
  match scanF s P m s.size 0 rd0 with
  | (none, pos) => (0, 0, (pos : Int), 4)
  | (some r, _) => if r.num = false ∨ (look m r.s).getD 0 = 0 then (0, 0, (s.size : Int), 3) else (r.v * 10 ^ (P - r.k), (look m r.s).getD 0, 0, 0)

theorem wide_pos (s : ByteArray) (pos : Nat) (h : pos < s.size) : 1 ≤ (Utf8.decode s pos).2 := by
  by_cases ha : (s[pos]'h).toNat < 128
  · rw [decode_ascii s pos h ha]
    exact Nat.le_refl _
  · exact (decode_high s pos h (by omega)).2

theorem scan_end (s : ByteArray) (P : Nat) (m : List (List UInt8 × Int)) (f pos : Nat) (r : Rd) (h : ¬ pos < s.size) : scanF s P m f pos r = (some r, pos) := by
  cases f with
  | zero => rfl
  | succ f => simp [scanF, h]

theorem val_lt {r : Rd} {P j : Nat} (h : r.Ok P) (hj : r.k ≤ j) : 0 ≤ r.v * 10 ^ (j - r.k) ∧ r.v * 10 ^ (j - r.k) < 1125899906842625 * 10 ^ j := by
  have h0 := h.v0
  have h1 := h.v1
  have hp : (0 : Int) < 10 ^ (j - r.k) := Int.pow_pos (by decide)
  have e : (10 : Int) ^ j = 10 ^ r.k * 10 ^ (j - r.k) := by rw [← Int.pow_add]; congr 1; omega
  refine ⟨Int.mul_nonneg h0 (Int.le_of_lt hp), ?_⟩
  rw [e, ← Int.mul_assoc]
  exact Int.mul_lt_mul_of_pos_right h1 hp
theorem val_small {r : Rd} {P j : Nat} (h : r.Ok P) (hj : r.k ≤ j) (hP : P ≤ 3) (hlt : j < P) : r.v * 10 ^ (j - r.k) ≤ 112589990684262500 := by
  have h1 := (val_lt h hj).2
  have : j = 0 ∨ j = 1 ∨ j = 2 := by omega
  generalize r.v * 10 ^ (j - r.k) = x at *
  rcases this with rfl | rfl | rfl <;> omega

set_option maxHeartbeats 1000000 in
theorem read_any (s : ByteArray) (P M : Nat) (m : List (List UInt8 × Int)) (w : World) (hM : MapAt w M m) (hm : ∀ k x, look m k = some x → k.length ≤ 100) (hP : P ≤ 3) :
    Calls Tryz.prog 142 #[.string s, .agg #[.int .i64 (P : Int), .map (some M)]] w fun e w' =>
      e = .returned (.tuple #[.int .i64 (readL s P m).1, .int .i64 (readL s P m).2.1, .int .i64 (readL s P m).2.2.1, .int .i64 (readL s P m).2.2.2]) ∧ Below w.heap.size w w' := by
  have HM := Lib.hid hM
  have Hm := Lib.hid hm
  clear hM hm
  go_enter Tryz.func142, Tryz.ntmps142
  go_wp2
  go_loopw [] (fun wr => ∃ (pos fuel : Nat) (r : Rd), RdAt wr (w.heap.size + 1) r ∧ wr.heap[w.heap.size + 1 + 1]? = some (.stringIter s pos) ∧ GrAt wr w.heap.size P M ∧ Below w.heap.size w wr ∧ r.Ok P ∧ scanF s P m fuel pos r = scanF s P m s.size 0 rd0 ∧ s.size ≤ pos + fuel) (fun wr => s.size - wr.iterPos (w.heap.size + 1 + 1))
  case atStart =>
    refine ⟨0, s.size, rd0, ?_, ?_, ?_, ?_, ⟨by decide, by simp [rd0], fun _ => rfl, by decide, by simp [rd0]⟩, rfl, by omega⟩
    · have h := (MapKept.heap_alloc (w.alloc (.cells #[.int .i64 (P : Int), .map (some M)] 154)) (.cells #[.int .i64 0, .bool false, .bool false, .int .i64 0, .string ⟨#[]⟩] 166)).1
      have h2 : RdAt ((w.alloc (.cells #[.int .i64 (P : Int), .map (some M)] 154)).alloc (.cells #[.int .i64 0, .bool false, .bool false, .int .i64 0, .string ⟨#[]⟩] 166)) (w.heap.size + 1) rd0 := by
        unfold RdAt rd0
        simpa using h
      exact h2.alloc _
    · have h := World.iter_heap ((w.alloc (.cells #[.int .i64 (P : Int), .map (some M)] 154)).alloc (.cells #[.int .i64 0, .bool false, .bool false, .int .i64 0, .string ⟨#[]⟩] 166)) s 0
      simpa using h
    · have h : GrAt (w.alloc (.cells #[.int .i64 (P : Int), .map (some M)] 154)) w.heap.size P M := (MapKept.heap_alloc w _).1
      exact (h.kept (World.grownBy_alloc _ _ none) (by simp)).kept (World.grownBy_alloc _ _ none) (by simp)
    · exact (((Below.refl _ _).alloc (Nat.le_refl _) _).alloc (by simp) _).alloc (by simp; omega) _
  case round =>
    obtain ⟨pos, fuel, r, hR, hit, hG, hbw, hok, hsc, hfu⟩ := hrel
    have hsz : w.heap.size + 1 + 1 < wr.heap.size := (Array.getElem?_eq_some_iff.1 hit).1
    have hMw := HM.out.below hbw HM.out.lt
    have Hsc := Lib.hid hsc
    clear hsc
    have hMB := HM.out.lt
    by_cases hp : pos < s.size
    · have hnx : ∀ ty, (Instr.next (.pointer (some ⟨w.heap.size + 1 + 1, 0, none⟩)) true ty).run Tryz.prog wr = _ := fun ty => Lib.run_next_any_at wr (w.heap.size + 1 + 1) s pos ty hit hp
      have hwd := wide_pos s pos hp
      have hd1 := decode_le s pos
      obtain ⟨f, rfl⟩ : ∃ f, fuel = f + 1 := ⟨fuel - 1, by omega⟩
      have Hstep : Hid (scanF s P m (f + 1) pos r = (match r.take (Utf8.decode s pos).1 P m with
        | none => (none, pos)
        | some r' => scanF s P m f (pos + (Utf8.decode s pos).2) r')) := by
        show scanF s P m (f + 1) pos r = _
        rw [scanF, if_pos hp]
      generalize hq : Utf8.decode s pos = q at hnx hwd hd1 Hstep
      clear hq
      obtain ⟨c, wd⟩ := q
      simp only at hnx hwd hd1
      have hR1 : RdAt (wr.iterAt (w.heap.size + 1 + 1) s (pos + wd)) (w.heap.size + 1) r := (Lib.iterAt_other wr _ _ s _ (by omega)).trans hR
      have hG1 : GrAt (wr.iterAt (w.heap.size + 1 + 1) s (pos + wd)) w.heap.size P M := (Lib.iterAt_other wr _ _ s _ (by omega)).trans hG
      have hM1 : MapAt (wr.iterAt (w.heap.size + 1 + 1) s (pos + wd)) M m := (Lib.iterAt_other wr _ _ s _ (by omega)).trans hMw
      have hit1 := Lib.iterAt_heap wr (w.heap.size + 1 + 1) s pos (pos + wd) hit
      have hb1 := Lib.below_iterAt hbw (k := w.heap.size + 1 + 1) (by omega) s (pos + wd)
      have g0 := hG1.c0
      have g1 := hG1.c1
      have HR1 := Lib.hid hR1
      have HG1 := Lib.hid hG1
      have HM1 := Lib.hid hM1
      have Hit1 := Lib.hid hit1
      have Hb1 := Lib.hid hb1
      have Hok := Lib.hid hok
      have Hit := Lib.hid hit
      clear hR1 hG1 hM1 hit1 hb1 hok hit hR hG hMw
      cases ht : r.take c P m
      · have Ht := Lib.hid ht
        clear ht
        go_wp2_with fail
        refine (take_any (w.heap.size + 1) M r c P m _ HR1.out HM1.out Hok.out hP hd1).mono ?_
        rintro e w' ⟨rfl, hat, hg⟩
        rw [Ht.out]
        have Hrl : Hid (readL s P m = (0, 0, (pos : Int), 4)) := by
          show readL s P m = _
          unfold readL
          rw [← Hsc.out, Hstep.out, Ht.out]
        have Hbe := Lib.hid (Hb1.out.grown hg (by rw [Lib.iterAt_size]; omega) (fun j hj => by cases hj; omega))
        go_wp2
        refine bodyPost_ret (v := .tuple #[.int .i64 0, .int .i64 0, .int .i64 (pos : Int), .int .i64 4]) (by simp [results, Tryz.results142, go_sem]) rfl ⟨?_, Hbe.out⟩
        rw [Hrl.out]
      · rename_i r'
        have Ht := Lib.hid ht
        clear ht
        go_wp2_with fail
        refine (take_any (w.heap.size + 1) M r c P m _ HR1.out HM1.out Hok.out hP hd1).mono ?_
        rintro e w' ⟨rfl, hat, hg⟩
        rw [Ht.out] at hat ⊢
        have hit2 : w'.heap[w.heap.size + 1 + 1]? = some (.stringIter s (pos + wd)) := (hg.block _ (by rw [Lib.iterAt_size]; omega) (by simp)).trans Hit1.out
        have Hit2 := Lib.hid hit2
        have Hat := Lib.hid hat
        have Hg := Lib.hid hg
        clear hit2 hat hg
        go_wp2
        go_roundw
        case rel =>
          refine ⟨pos + wd, f, r', Hat.out, Hit2.out, HG1.out.kept Hg.out (by simp), Hb1.out.grown Hg.out (by rw [Lib.iterAt_size]; omega) (fun j hj => by cases hj; omega), take_ok Hok.out Hm.out Ht.out, ?_, by omega⟩
          have h := Hstep.out
          rw [Ht.out] at h
          rw [← Hsc.out, h]
        case measure =>
          simp only [World.iterPos, Hit2.out, Hit.out]
          omega
    · have hnx : ∀ ty, (Instr.next (.pointer (some ⟨w.heap.size + 1 + 1, 0, none⟩)) true ty).run Tryz.prog wr = _ := fun ty => Lib.run_next_end_at wr (w.heap.size + 1 + 1) s pos ty hit hp
      have Hrl : Hid (readL s P m = if r.num = false ∨ (look m r.s).getD 0 = 0 then (0, 0, (s.size : Int), 3) else (r.v * 10 ^ (P - r.k), (look m r.s).getD 0, 0, 0)) := by
        show readL s P m = _
        unfold readL
        rw [← Hsc.out, scan_end s P m fuel pos r hp]
      have hlook := run_look wr M m r.s hMw
      have g0 := hG.c0
      have g1 := hG.c1
      have c0 := hR.c0
      have c3 := hR.c3
      have c4 := hR.c4
      have HR := Lib.hid hR
      have HG := Lib.hid hG
      have HMw := Lib.hid hMw
      have Hbw := Lib.hid hbw
      have Hok := Lib.hid hok
      clear hR hG hMw hbw hok hit
      generalize hsc : (look m r.s).getD 0 = sc at hlook Hrl
      clear hsc
      cases hn : r.num
      · have Hn := Lib.hid hn
        clear hn
        go_wp2_with (go_at_call 152; refine (isNumber_any (w.heap.size + 1) r _ HR.out).mono ?_; rintro e w' ⟨rfl, rfl⟩; rw [Hn.out])
        refine bodyPost_ret (v := .tuple #[.int .i64 0, .int .i64 0, .int .i64 (s.size : Int), .int .i64 3]) (by simp [results, Tryz.results142, go_sem]) rfl ⟨?_, Hbw.out⟩
        rw [Hrl.out, if_pos (Or.inl Hn.out)]
      · have Hn := Lib.hid hn
        clear hn
        by_cases hz : sc = 0
        · have hzb : (sc == 0) = true := by simpa using hz
          have Hz := Lib.hid hz
          clear hz
          go_wp2_with (go_at_call 152; refine (isNumber_any (w.heap.size + 1) r _ HR.out).mono ?_; rintro e w' ⟨rfl, rfl⟩; rw [Hn.out])
          refine bodyPost_ret (v := .tuple #[.int .i64 0, .int .i64 0, .int .i64 (s.size : Int), .int .i64 3]) (by simp [results, Tryz.results142, go_sem]) rfl ⟨?_, Hbw.out⟩
          rw [Hrl.out, if_pos (Or.inr Hz.out)]
        · have hzb : (sc == 0) = false := by simpa using hz
          have Hz := Lib.hid hz
          clear hz
          go_wp2_with (go_at_call 152; refine (isNumber_any (w.heap.size + 1) r _ HR.out).mono ?_; rintro e w' ⟨rfl, rfl⟩; rw [Hn.out])
          obtain ⟨wo, rfl⟩ : ∃ wo : World, wo = wr := ⟨_, rfl⟩
          go_loopw [4] (fun v wr => ∃ j : Nat, r.k ≤ j ∧ j ≤ P ∧ v = .int .i64 (r.v * 10 ^ (j - r.k)) ∧ RdAt wr (w.heap.size + 1) { r with k := j } ∧ GrAt wr w.heap.size P M ∧ Below w.heap.size w wr) (fun _ wr => P - (intOf ((wr.cell? ⟨w.heap.size + 1, 3, none⟩).getD (.int .i64 0))).toNat)
          case atStart => exact ⟨r.k, Nat.le_refl _, Hok.out.kP, by simp, HR.out, HG.out, Hbw.out⟩
          case round =>
            obtain ⟨j, hj, hjP, rfl, hR, hG, hbw⟩ := hrel
            clear g0 g1 c0 c3 c4 hlook
            have g0 := hG.c0
            have c3 := hR.c3
            have f3 := hR.free 3
            simp only at c3
            have HR2 := Lib.hid hR
            have HG2 := Lib.hid hG
            have Hbw2 := Lib.hid hbw
            clear hR hG hbw
            have hx := (val_lt Hok.out hj).1
            by_cases hlt : j < P
            · have hx2 := val_small Hok.out hj hP hlt
              have Hx : Hid (r.v * 10 ^ (j + 1 - r.k) = r.v * 10 ^ (j - r.k) * 10) := by
                show r.v * 10 ^ (j + 1 - r.k) = r.v * 10 ^ (j - r.k) * 10
                rw [show j + 1 - r.k = (j - r.k) + 1 by omega, Int.pow_succ, Int.mul_assoc]
              generalize r.v * 10 ^ (j - r.k) = x at hx hx2 Hx ⊢
              have ilt : (j : Int) < (P : Int) := by omega
              go_wp2
              go_roundw
              case rel =>
                refine ⟨j + 1, by omega, by omega, by rw [Hx.out], ?_, HG2.out.kept (one_set (World.grownBy.refl _ _) 3 _) (by simp), Hbw2.out.setCell (by simp) _⟩
                have := HR2.out.set3 (j + 1)
                simpa using this
              case measure =>
                simp only [World.cell?_setCell_same' _ _ _ (by rw [c3]; rfl), c3]
                simp [intOf]
                omega
            · have ilt : ¬ (j : Int) < (P : Int) := by omega
              go_wp2
              obtain rfl : j = P := by omega
              refine bodyPost_ret (v := .tuple #[.int .i64 (r.v * 10 ^ (j - r.k)), .int .i64 sc, .int .i64 0, .int .i64 0]) (by simp [results, Tryz.results142, go_sem]) rfl ⟨?_, Hbw2.out⟩
              rw [Hrl.out, if_neg (by rw [Hn.out]; simp; exact Hz.out)]

end Go.Proofs.YthbplchbolghjaaGreatDoor.Qu
