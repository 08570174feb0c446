/- A policy that may be, made out of any one: the walk of the law's own function. Condition: the names lie in memory. -/
import Derived.Test.YthbplchbolghjaaGreatDoorGBackA
import Derived.Test.YthbplchbolghjaaGreatDoorBring
import Derived.Test.YthbplchbolghjaaGreatDoorGWorks
import Derived.Laws.IdiomStrings
namespace Go.Proofs.YthbplchbolghjaaGreatDoor
open Go.RowKit

theorem brG (i n : Int) (w : World) (hn : 0 < n) (hn' : n ≤ 4611686018427387904) :
    Calls Tryz.prog 46 #[.int .i64 i, .int .i64 n] w fun e w' => e = .returned (.int .i64 (i % n)) ∧ w = w' := Qu.bring_any i n w hn hn'

/-- What stands in memory when the policy is laid. -/
def MadeCut (W : World) (g : Pol) (v : Value) (wc : World) : Prop :=
  v = .pointer (some ⟨W.heap.size, 0, none⟩) ∧ Blk wc W.heap.size #[.int .i64 0, .int .i64 0, .int .i64 0, .int .i64 0, .int .i64 (g.on % 32), .slice none 0 0, .int .i64 (g.mx % 49), .int .i64 (g.tr % 9), .bool g.rb] 25 ∧ Below W.heap.size W wc
theorem mleafA (W : World) (g : Pol) : MadeCut W g (.pointer (some ⟨W.heap.size, 0, none⟩)) ((W.alloc (.cells #[.int .i64 0, .int .i64 0, .int .i64 0, .int .i64 0, .int .i64 (g.on % 32), .slice none 0 0, .int .i64 (g.mx % 49), .int .i64 (g.tr % 9), .bool g.rb] 25)).drew) :=
  ⟨rfl, Blk.new W _ _, ((Below.refl W.heap.size W).alloc (Nat.le_refl _) _).drew⟩

/-- The policy's cells on the way. -/
def madeC (g : Pol) (k : Nat) : Array Value := #[.int .i64 (if 0 < k then min (g.l0 % 1001) (g.h0 % 1001) else 0), .int .i64 (if 1 < k then min (g.l1 % 1001) (g.h1 % 1001) else 0), .int .i64 (if 0 < k then max (g.l0 % 1001) (g.h0 % 1001) else 0), .int .i64 (if 1 < k then max (g.l1 % 1001) (g.h1 % 1001) else 0), .int .i64 (g.on % 32), .slice none 0 0, .int .i64 (g.mx % 49), .int .i64 (g.tr % 9), .bool g.rb]

/-- The same, with names. -/
def madeD (g : Pol) (A : Option Addr) (n c : Nat) : Array Value := #[.int .i64 (min (g.l0 % 1001) (g.h0 % 1001)), .int .i64 (min (g.l1 % 1001) (g.h1 % 1001)), .int .i64 (max (g.l0 % 1001) (g.h0 % 1001)), .int .i64 (max (g.l1 % 1001) (g.h1 % 1001)), .int .i64 (g.on % 32), .slice A n c, .int .i64 (g.mx % 49), .int .i64 (g.tr % 9), .bool g.rb]
theorem madeD_C (g : Pol) : madeC g 2 = madeD g none 0 0 := rfl
theorem drainM_len (l : List (List UInt8)) : ∀ k, (drainM l k).length ≤ k
  | 0 => Nat.le_refl _
  | k + 1 => by
    have := drainM_len l k
    rw [drainM, List.length_append]
    split
    · split <;> simp <;> omega
    · simp; omega
theorem drainM_yes {l : List (List UInt8)} {k : Nat} {t : List UInt8} (h : l[k]? = some t) (ht : 0 < t.length % 3) : drainM l (k + 1) = drainM l k ++ [[110, UInt8.ofNat (97 + k)]] := by rw [drainM, h]; simp only; rw [if_pos ht]
theorem drainM_no {l : List (List UInt8)} {k : Nat} {t : List UInt8} (h : l[k]? = some t) (ht : ¬ 0 < t.length % 3) : drainM l (k + 1) = drainM l k := by rw [drainM, h]; simp only; rw [if_neg ht, List.append_nil]
theorem drainM_two (l : List (List UInt8)) : ∀ k, ∀ x ∈ drainM l k, x.length = 2
  | 0, x, h => by cases h
  | k + 1, x, h => by
    rw [drainM] at h
    rcases List.mem_append.1 h with h | h
    · exact drainM_two l k x h
    · split at h
      · split at h
        · rw [List.mem_singleton] at h
          rw [h]
          rfl
        · cases h
      · cases h
theorem conv1 (W : World) (q : Nat) (x : UInt8) (h0 : W.cell? ⟨q, 0, none⟩ = some (.int .u8 (x.toNat : Int))) :
    (convert 51 9 (.slice (some ⟨q, 0, none⟩) 1 1)).run Tryz.prog W = .ok (.string ⟨#[x]⟩) W := by
  refine run_convert_bytes_back (P := Tryz.prog) W 51 9 5 ⟨q, 0, none⟩ 1 [x] Tryz.underlying51 Tryz.underlying5 Tryz.underlying9 ?_
  intro j hj
  rw [WideShapes.add_plain, Nat.zero_add]
  match j, hj with
  | 0, _ => exact h0
theorem rem3 (t : List UInt8) : ((t.length : Nat) : Int).tmod 3 = ((t.length % 3 : Nat) : Int) := by
  rw [Int.tmod_eq_emod_of_nonneg (by omega)]
  omega

set_option maxRecDepth 100000 in
set_option maxHeartbeats 4000000 in
theorem made_any (g : Pol) (A : Option Addr) (c : Nat) (w : World) (h : NamesAt w A c g.drain) :
    Calls Tryz.prog 20 #[valG g A c] w fun e w' => ∃ A' c', e = .returned (valG (madeG g) A' c') ∧ NamesAt w' A' c' (madeG g).drain ∧ Below w.heap.size w w' := by
  have HN := Lib.hid h
  have hcl := h.le
  have hcm := h.most
  obtain ⟨i0, hi0, hz0, hz1, hz2⟩ := info_parts gstr_info
  have B0 : Hid (Below w.heap.size w ((w.alloc (.cells (cellsG g A c) 25)).alloc (.cells #[.int .i64 0, .int .i64 0, .int .i64 0, .int .i64 0, .int .i64 0, .slice none 0 0, .int .i64 0, .int .i64 0, .bool false] 25))) := Lib.hid ((below1 w _).alloc (by simp) _)
  have Q0 : Hid (Blk ((w.alloc (.cells (cellsG g A c) 25)).alloc (.cells #[.int .i64 0, .int .i64 0, .int .i64 0, .int .i64 0, .int .i64 0, .slice none 0 0, .int .i64 0, .int .i64 0, .bool false] 25)) w.heap.size (cellsG g A c) 25) := Lib.hid (Blk.alloc (Blk.new w _ _) _)
  have R0 : Hid (Blk ((w.alloc (.cells (cellsG g A c) 25)).alloc (.cells #[.int .i64 0, .int .i64 0, .int .i64 0, .int .i64 0, .int .i64 0, .slice none 0 0, .int .i64 0, .int .i64 0, .bool false] 25)) (w.heap.size + 1) #[.int .i64 0, .int .i64 0, .int .i64 0, .int .i64 0, .int .i64 0, .slice none 0 0, .int .i64 0, .int .i64 0, .bool false] 25) := Lib.hid (blk2a w _ _ _)
  have KB1 := Lib.hid (fun w => brG g.on 32 w (by decide) (by decide))
  have KB2 := Lib.hid (fun w => brG g.mx 49 w (by decide) (by decide))
  have KB3 := Lib.hid (fun w => brG g.tr 9 w (by decide) (by decide))
  have KL0 := Lib.hid (fun w => brG g.l0 1001 w (by decide) (by decide))
  have KL1 := Lib.hid (fun w => brG g.l1 1001 w (by decide) (by decide))
  have KH0 := Lib.hid (fun w => brG g.h0 1001 w (by decide) (by decide))
  have KH1 := Lib.hid (fun w => brG g.h1 1001 w (by decide) (by decide))
  clear h
  go_enter Tryz.func20, Tryz.ntmps20
  go_upto_region 1 with fail
  change Code.wp _ _ _ _ ((w.alloc (.cells (cellsG g A c) 25)).alloc (.cells #[.int .i64 0, .int .i64 0, .int .i64 0, .int .i64 0, .int .i64 0, .slice none 0 0, .int .i64 0, .int .i64 0, .bool false] 25))
  generalize ((w.alloc (.cells (cellsG g A c) 25)).alloc (.cells #[.int .i64 0, .int .i64 0, .int .i64 0, .int .i64 0, .int .i64 0, .slice none 0 0, .int .i64 0, .int .i64 0, .bool false] 25)) = W at B0 Q0 R0 ⊢
  have S0 : W.drew.cell? ⟨w.heap.size, 4, none⟩ = some (.int .i64 g.on) ∧ W.drew.cell? ⟨w.heap.size, 6, none⟩ = some (.int .i64 g.mx) ∧ W.drew.cell? ⟨w.heap.size, 7, none⟩ = some (.int .i64 g.tr) ∧ W.drew.cell? ⟨w.heap.size, 8, none⟩ = some (.bool g.rb) := ⟨Blk.cell Q0.out 4, Blk.cell Q0.out 6, Blk.cell Q0.out 7, Blk.cell Q0.out 8⟩
  have S1 : W.cell? ⟨w.heap.size, 4, none⟩ = some (.int .i64 g.on) ∧ W.cell? ⟨w.heap.size, 6, none⟩ = some (.int .i64 g.mx) ∧ W.cell? ⟨w.heap.size, 7, none⟩ = some (.int .i64 g.tr) ∧ W.cell? ⟨w.heap.size, 8, none⟩ = some (.bool g.rb) := ⟨Blk.cell Q0.out 4, Blk.cell Q0.out 6, Blk.cell Q0.out 7, Blk.cell Q0.out 8⟩
  have hlW := Blk.lt R0.out
  go_cut [3] (fun v wc => MadeCut W g v wc)
  case first =>
    go_region_held3 (fun w' => w'.cell? ⟨w.heap.size, 4, none⟩ = some (.int .i64 g.on) ∧ w'.cell? ⟨w.heap.size, 6, none⟩ = some (.int .i64 g.mx) ∧ w'.cell? ⟨w.heap.size, 7, none⟩ = some (.int .i64 g.tr) ∧ w'.cell? ⟨w.heap.size, 8, none⟩ = some (.bool g.rb))
      (first | (with_reducible exact S0) | (with_reducible exact S1) | go_keep)
      (first
        | (go_at_call 46; (with_reducible refine (KB1.out _).mono ?_); rintro e w3 ⟨rfl, rfl⟩)
        | (go_at_call 46; (with_reducible refine (KB2.out _).mono ?_); rintro e w3 ⟨rfl, rfl⟩)
        | (go_at_call 46; (with_reducible refine (KB3.out _).mono ?_); rintro e w3 ⟨rfl, rfl⟩)
        | skip)
    all_goals
      go_wp2_with fail
      go_meet
      exact mleafA W g
  case rest =>
    obtain ⟨rfl, hq, hb⟩ := hcut
    have Q1 := Lib.hid (Blk.below Q0.out hb (Nat.lt_of_succ_lt hlW))
    have R1 := Lib.hid (Blk.below R0.out hb hlW)
    have B1 := Lib.hid (B0.out.trans (hb.mono B0.out.size))
    have O1 := Lib.hid hq
    clear hq hb Q0 R0 B0 S0 S1 KB1 KB2 KB3
    have hWc := Blk.lt O1.out
    obtain ⟨o, ho⟩ : ∃ o, W.heap.size = o := ⟨_, rfl⟩
    rw [ho] at O1 hWc hlW ⊢
    clear ho
    have hgs : w.heap.size < o := by omega
    go_wp2_with fail
    go_loopw [4] (fun i wr => ∃ k : Nat, k ≤ 2 ∧ i = .int .i64 k ∧ Blk wr o (madeC g k) 25 ∧ Below o wc wr) (fun i _ => 2 - (intOf i).toNat)
    case atStart => exact ⟨0, by omega, rfl, O1.out, Below.refl _ _⟩
    case round =>
    obtain ⟨k, hk, rfl, ho2, hbw⟩ := hrel
    have O2 := Lib.hid ho2
    have HB := Lib.hid hbw
    have hlo := Blk.lt ho2
    have Q2 := Lib.hid (Blk.below Q1.out hbw hgs)
    clear ho2 hbw
    obtain rfl | rfl | rfl : k = 0 ∨ k = 1 ∨ k = 2 := by omega
    · have a0 : wr.cell? ⟨w.heap.size, 0, none⟩ = some (.int .i64 g.l0) := Blk.cell Q2.out 0
      have a2 : wr.cell? ⟨w.heap.size, 2, none⟩ = some (.int .i64 g.h0) := Blk.cell Q2.out 2
      have S2 : wr.drew.cell? ⟨w.heap.size, 0, none⟩ = some (.int .i64 g.l0) ∧ wr.drew.cell? ⟨w.heap.size, 2, none⟩ = some (.int .i64 g.h0) := ⟨a0, a2⟩
      have S3 : wr.cell? ⟨w.heap.size, 0, none⟩ = some (.int .i64 g.l0) ∧ wr.cell? ⟨w.heap.size, 2, none⟩ = some (.int .i64 g.h0) := ⟨a0, a2⟩
      go_wp2_with fail
      go_region_held3 (fun w' => w'.cell? ⟨w.heap.size, 0, none⟩ = some (.int .i64 g.l0) ∧ w'.cell? ⟨w.heap.size, 2, none⟩ = some (.int .i64 g.h0))
        (first | (with_reducible exact S2) | (with_reducible exact S3) | go_keep)
        (first
          | (go_at_call 46; (with_reducible refine (KL0.out _).mono ?_); rintro e w3 ⟨rfl, rfl⟩)
          | (go_at_call 46; (with_reducible refine (KH0.out _).mono ?_); rintro e w3 ⟨rfl, rfl⟩)
          | skip)
      have b0 : wr.cell? ⟨o, 0, none⟩ = some (.int .i64 0) := Blk.cell O2.out 0
      have b2 : wr.cell? ⟨o, 2, none⟩ = some (.int .i64 0) := Blk.cell O2.out 2
      have f0 : wr.frozen? ⟨o, 0, none⟩ = false := Blk.free O2.out 0
      have f2 : wr.frozen? ⟨o, 2, none⟩ = false := Blk.free O2.out 2
      have O3 : Hid (Blk ((wr.setCell ⟨o, 0, none⟩ (.int .i64 (min (g.l0 % 1001) (g.h0 % 1001)))).setCell ⟨o, 2, none⟩ (.int .i64 (max (g.l0 % 1001) (g.h0 % 1001)))) o (madeC g 1) 25) := Lib.hid (Blk.set (Blk.set O2.out 0 (.int .i64 (min (g.l0 % 1001) (g.h0 % 1001)))) 2 (.int .i64 (max (g.l0 % 1001) (g.h0 % 1001))))
      have B3 : Hid (Below o wc ((wr.setCell ⟨o, 0, none⟩ (.int .i64 (min (g.l0 % 1001) (g.h0 % 1001)))).setCell ⟨o, 2, none⟩ (.int .i64 (max (g.l0 % 1001) (g.h0 % 1001))))) := Lib.hid ((HB.out.setCell (p := ⟨o, 0, none⟩) (Nat.le_refl _) _).setCell (p := ⟨o, 2, none⟩) (Nat.le_refl _) _)
      go_wp2_with fail
      exact ⟨⟨1, by omega, rfl, O3.out, B3.out.drew⟩, by simp [intOf]⟩
    · have a0 : wr.cell? ⟨w.heap.size, 1, none⟩ = some (.int .i64 g.l1) := Blk.cell Q2.out 1
      have a2 : wr.cell? ⟨w.heap.size, 3, none⟩ = some (.int .i64 g.h1) := Blk.cell Q2.out 3
      have S2 : wr.drew.cell? ⟨w.heap.size, 1, none⟩ = some (.int .i64 g.l1) ∧ wr.drew.cell? ⟨w.heap.size, 3, none⟩ = some (.int .i64 g.h1) := ⟨a0, a2⟩
      have S3 : wr.cell? ⟨w.heap.size, 1, none⟩ = some (.int .i64 g.l1) ∧ wr.cell? ⟨w.heap.size, 3, none⟩ = some (.int .i64 g.h1) := ⟨a0, a2⟩
      go_wp2_with fail
      go_region_held3 (fun w' => w'.cell? ⟨w.heap.size, 1, none⟩ = some (.int .i64 g.l1) ∧ w'.cell? ⟨w.heap.size, 3, none⟩ = some (.int .i64 g.h1))
        (first | (with_reducible exact S2) | (with_reducible exact S3) | go_keep)
        (first
          | (go_at_call 46; (with_reducible refine (KL1.out _).mono ?_); rintro e w3 ⟨rfl, rfl⟩)
          | (go_at_call 46; (with_reducible refine (KH1.out _).mono ?_); rintro e w3 ⟨rfl, rfl⟩)
          | skip)
      have b1 : wr.cell? ⟨o, 1, none⟩ = some (.int .i64 0) := Blk.cell O2.out 1
      have b3 : wr.cell? ⟨o, 3, none⟩ = some (.int .i64 0) := Blk.cell O2.out 3
      have f1 : wr.frozen? ⟨o, 1, none⟩ = false := Blk.free O2.out 1
      have f3 : wr.frozen? ⟨o, 3, none⟩ = false := Blk.free O2.out 3
      have O3 : Hid (Blk ((wr.setCell ⟨o, 1, none⟩ (.int .i64 (min (g.l1 % 1001) (g.h1 % 1001)))).setCell ⟨o, 3, none⟩ (.int .i64 (max (g.l1 % 1001) (g.h1 % 1001)))) o (madeC g 2) 25) := Lib.hid (Blk.set (Blk.set O2.out 1 (.int .i64 (min (g.l1 % 1001) (g.h1 % 1001)))) 3 (.int .i64 (max (g.l1 % 1001) (g.h1 % 1001))))
      have B3 : Hid (Below o wc ((wr.setCell ⟨o, 1, none⟩ (.int .i64 (min (g.l1 % 1001) (g.h1 % 1001)))).setCell ⟨o, 3, none⟩ (.int .i64 (max (g.l1 % 1001) (g.h1 % 1001))))) := Lib.hid ((HB.out.setCell (p := ⟨o, 1, none⟩) (Nat.le_refl _) _).setCell (p := ⟨o, 3, none⟩) (Nat.le_refl _) _)
      go_wp2_with fail
      exact ⟨⟨2, by omega, rfl, O3.out, B3.out.drew⟩, by simp [intOf]⟩
    · have HBW := Lib.hid (B1.out.trans (HB.out.mono (by have := B1.out.size; omega)))
      have hgw : w.heap.size ≤ o := by omega
      have R2 := Lib.hid (Blk.below R1.out HB.out hlW)
      clear KL0 KL1 KH0 KH1 HB Q1 O1 R1 B1
      have Q3 := Lib.hid (Blk.below Q2.out (Below.refl o wr) hgs)
      have O3 : Hid (Blk wr o (madeD g none 0 0) 25) := Lib.hid (by rw [← madeD_C]; exact O2.out)
      have R3 := Lib.hid (Blk.below R2.out (Below.refl o wr) hlW)
      clear O2 Q2 R2
      generalize wr = V at O3 Q3 R3 HBW ⊢
      go_wp2_with fail
      go_loopw [7] (fun i U => ∃ (k : Nat) (A' : Option Addr) (c' : Nat), k ≤ min g.drain.length 8 ∧ i = .int .i64 k ∧ Blk U o (madeD g A' (drainM g.drain k).length c') 25 ∧ U.ownsRow (o + 1) 9 1 (.slice A' (drainM g.drain k).length c') (drainM g.drain k).length (strC (drainM g.drain k)) ∧ Below o V U) (fun i _ => 8 - (intOf i).toNat)
      case atStart => exact ⟨0, none, 0, by omega, rfl, O3.out, World.ownsRow_nil _ _ _ _, Below.refl _ _⟩
      case round =>
      obtain ⟨k, A', c', hk, rfl, ho4, how, hbw⟩ := hrel
      have HO := Lib.hid how
      have O4 := Lib.hid ho4
      have HB := Lib.hid hbw
      have hlU := Blk.lt ho4
      have Q4 := Lib.hid (Blk.below Q3.out hbw hgs)
      have R4 := Lib.hid (Blk.below R3.out hbw hlW)
      have HBU := Lib.hid (HBW.out.trans (hbw.mono hgw))
      clear ho4 how hbw
      have hlV := Blk.lt O3.out
      have d5 : wr.cell? ⟨w.heap.size, 5, none⟩ = some (.slice A g.drain.length c) := Blk.cell Q4.out 5
      by_cases hlt : k < min g.drain.length 8
      · obtain ⟨t, ht⟩ : ∃ t, g.drain[k]? = some t := ⟨g.drain[k]'(by omega), List.getElem?_eq_getElem (by omega)⟩
        obtain ⟨b, o1, hA, hb0, htc⟩ := strC_at (HN.out.below HBU.out).cells ht
        subst hA
        have hFl := drainM_len g.drain k
        have hrem := rem3 t
        have hk1 : (k : Int) < (g.drain.length : Int) := by omega
        obtain ⟨F, hF⟩ : ∃ F, drainM g.drain k = F := ⟨_, rfl⟩
        obtain rfl | rfl | rfl | rfl | rfl | rfl | rfl | rfl : k = 0 ∨ k = 1 ∨ k = 2 ∨ k = 3 ∨ k = 4 ∨ k = 5 ∨ k = 6 ∨ k = 7 := by omega
        · have hcb : ∀ V : World, V.cell? ⟨wr.heap.size, 0, none⟩ = some (.int .u8 97) → (convert 51 9 (.slice (some ⟨wr.heap.size, 0, none⟩) 1 1)).run Tryz.prog V = .ok (.string ⟨#[97]⟩) V := fun V h => conv1 V wr.heap.size 97 h
          have hcb1 := hcb (wr.alloc (.cells #[.int .u8 97] 5)) (Blk.cell (Blk.new wr _ _) 0)
          have hjn : ∀ V : World, (Op.stringOp .add ⟨#[110]⟩ ⟨#[97]⟩).run Tryz.prog V = .ok (strV [110, 97]) V := fun V => by kernel_rfl
          have hwr : IntKind.u8.wrap 97 = 97 := by decide
          rw [hF] at HO O4 hFl
          have htc0 : wr.cell? ⟨b, o1, none⟩ = some (strV t) := htc
          have e5 : wr.cell? ⟨o, 5, none⟩ = some (.slice A' F.length c') := Blk.cell O4.out 5
          have hne : some o ≠ (Value.slice A' F.length c').ownBlock := fun e => by have := own_block HO.out e.symm; omega
          have hlU2 : o ≤ (wr.alloc (.cells #[.int .u8 97] 5)).heap.size := by simp; omega
          by_cases ht3 : 0 < t.length % 3
          · have HF2 := Lib.hid (show drainM g.drain 1 = F ++ [[110, 97]] by rw [← hF]; exact drainM_yes ht ht3)
            have hgt : (0 : Int) < ((t.length : Nat) : Int).tmod 3 := by rw [hrem]; omega
            have hwr2 : IntKind.i64.wrap (((t.length : Nat) : Int).tmod 3) = ((t.length : Nat) : Int).tmod 3 := IntWalk.i64_in _ (by rw [hrem]; omega)
            have hgt3 : (0 : Int) < ((t.length : Nat) : Int) % 3 := by omega
            have hgt2 : (0 : Int) < IntKind.i64.wrap (((t.length : Nat) : Int).tmod 3) := by rw [hwr2]; exact hgt
            have h63 : F.length + 1 ≤ maxLen := by unfold maxLen; omega
            have h47 : (F.length + 1) * 16 ≤ 140737488355328 := by omega
            clear hrem ht ht3
            go_wp2_with (at_builtin; refine wpList_append_lies _ rfl _ _ 23 rfl (o + 1) 9 i0 (.string ⟨#[]⟩) 1 16 Tryz.underlying23 hi0 hz0 hz1 hz2 rfl (by decide) (.slice A' F.length c') F.length (strC F) rfl ((HO.out.alloc _).alloc _) ⟨wr.heap.size + 1, 0, none⟩ 1 1 [strV [110, 97]] rfl rfl (World.news_of_block (cs := #[strV [110, 97]]) (t := 9) (fr := (0, 0)) (blk2a wr _ _ _)) (by simp [Value.oneCell']) (by omega) h63 h47 (by simp; omega) _ rfl ?_; intro gg cap w4 hown' hgrow' hat hlt4; have HO4 := Lib.hid hown'; have O5 := Lib.hid (Blk.kept (Blk.alloc (Blk.alloc O4.out _) _) hgrow' hne); have c5 : w4.cell? ⟨o, 5, none⟩ = some (.slice A' F.length c') := Blk.cell O5.out 5; have f5 : w4.frozen? ⟨o, 5, none⟩ = false := Blk.free O5.out 5; have B5 := Lib.hid (below_grown ((HB.out.alloc (Nat.le_of_lt hlU) _).alloc hlU2 _) (Nat.le_of_lt hlV) hgrow' (fun q hq => Nat.le_of_succ_le (own_block HO.out hq))); clear hown' hgrow' hat hlt4)
            have h2 : drainM g.drain 1 = F ++ [[110, 97]] := HF2.out
            have h3 : (F ++ [[110, 97]]).length = F.length + 1 := by simp
            have h4 : strC (F ++ [[110, 97]]) = strC F ++ [strV [110, 97]] := by simp [strC]
            go_roundw
            case rel =>
              repeat (apply Exists.intro (α := Value))
              refine ⟨?_, rfl⟩
              exact ⟨1, some ⟨gg, 0, none⟩, cap, by omega, by go_num, by rw [h2, h3]; exact Blk.set O5.out 5 _, by rw [h2, h3, h4]; exact ((KeepR.refl o w4).setCell 5 _).own HO4.out (Nat.lt_succ_self o), B5.out.setCell (p := ⟨o, 5, none⟩) (Nat.le_refl _) _⟩
            case measure => simp [intOf]
          · have HF2 := Lib.hid (show drainM g.drain 1 = F by rw [← hF]; exact drainM_no ht ht3)
            have hgt : ¬ (0 : Int) < ((t.length : Nat) : Int).tmod 3 := by rw [hrem]; omega
            have hwr2 : IntKind.i64.wrap (((t.length : Nat) : Int).tmod 3) = ((t.length : Nat) : Int).tmod 3 := IntWalk.i64_in _ (by rw [hrem]; omega)
            have hgt3 : ¬ (0 : Int) < ((t.length : Nat) : Int) % 3 := by omega
            have hgt2 : ¬ (0 : Int) < IntKind.i64.wrap (((t.length : Nat) : Int).tmod 3) := by rw [hwr2]; exact hgt
            clear hrem ht ht3
            go_wp2_with fail
            have h2 : drainM g.drain 1 = F := HF2.out
            go_roundw
            case rel => exact ⟨1, by omega, by first | rfl | go_num, A', c', by rw [h2]; exact O4.out, by rw [h2]; exact HO.out, HB.out⟩
            case measure => simp [intOf]
        · have hcb : ∀ V : World, V.cell? ⟨wr.heap.size, 0, none⟩ = some (.int .u8 98) → (convert 51 9 (.slice (some ⟨wr.heap.size, 0, none⟩) 1 1)).run Tryz.prog V = .ok (.string ⟨#[98]⟩) V := fun V h => conv1 V wr.heap.size 98 h
          have hcb1 := hcb (wr.alloc (.cells #[.int .u8 98] 5)) (Blk.cell (Blk.new wr _ _) 0)
          have hjn : ∀ V : World, (Op.stringOp .add ⟨#[110]⟩ ⟨#[98]⟩).run Tryz.prog V = .ok (strV [110, 98]) V := fun V => by kernel_rfl
          have hwr : IntKind.u8.wrap 98 = 98 := by decide
          rw [hF] at HO O4 hFl
          have htc0 : wr.cell? ⟨b, o1 + 1, none⟩ = some (strV t) := htc
          have e5 : wr.cell? ⟨o, 5, none⟩ = some (.slice A' F.length c') := Blk.cell O4.out 5
          have hne : some o ≠ (Value.slice A' F.length c').ownBlock := fun e => by have := own_block HO.out e.symm; omega
          have hlU2 : o ≤ (wr.alloc (.cells #[.int .u8 98] 5)).heap.size := by simp; omega
          by_cases ht3 : 0 < t.length % 3
          · have HF2 := Lib.hid (show drainM g.drain 2 = F ++ [[110, 98]] by rw [← hF]; exact drainM_yes ht ht3)
            have hgt : (0 : Int) < ((t.length : Nat) : Int).tmod 3 := by rw [hrem]; omega
            have hwr2 : IntKind.i64.wrap (((t.length : Nat) : Int).tmod 3) = ((t.length : Nat) : Int).tmod 3 := IntWalk.i64_in _ (by rw [hrem]; omega)
            have hgt3 : (0 : Int) < ((t.length : Nat) : Int) % 3 := by omega
            have hgt2 : (0 : Int) < IntKind.i64.wrap (((t.length : Nat) : Int).tmod 3) := by rw [hwr2]; exact hgt
            have h63 : F.length + 1 ≤ maxLen := by unfold maxLen; omega
            have h47 : (F.length + 1) * 16 ≤ 140737488355328 := by omega
            clear hrem ht ht3
            go_wp2_with (at_builtin; refine wpList_append_lies _ rfl _ _ 23 rfl (o + 1) 9 i0 (.string ⟨#[]⟩) 1 16 Tryz.underlying23 hi0 hz0 hz1 hz2 rfl (by decide) (.slice A' F.length c') F.length (strC F) rfl ((HO.out.alloc _).alloc _) ⟨wr.heap.size + 1, 0, none⟩ 1 1 [strV [110, 98]] rfl rfl (World.news_of_block (cs := #[strV [110, 98]]) (t := 9) (fr := (0, 0)) (blk2a wr _ _ _)) (by simp [Value.oneCell']) (by omega) h63 h47 (by simp; omega) _ rfl ?_; intro gg cap w4 hown' hgrow' hat hlt4; have HO4 := Lib.hid hown'; have O5 := Lib.hid (Blk.kept (Blk.alloc (Blk.alloc O4.out _) _) hgrow' hne); have c5 : w4.cell? ⟨o, 5, none⟩ = some (.slice A' F.length c') := Blk.cell O5.out 5; have f5 : w4.frozen? ⟨o, 5, none⟩ = false := Blk.free O5.out 5; have B5 := Lib.hid (below_grown ((HB.out.alloc (Nat.le_of_lt hlU) _).alloc hlU2 _) (Nat.le_of_lt hlV) hgrow' (fun q hq => Nat.le_of_succ_le (own_block HO.out hq))); clear hown' hgrow' hat hlt4)
            have h2 : drainM g.drain 2 = F ++ [[110, 98]] := HF2.out
            have h3 : (F ++ [[110, 98]]).length = F.length + 1 := by simp
            have h4 : strC (F ++ [[110, 98]]) = strC F ++ [strV [110, 98]] := by simp [strC]
            go_roundw
            case rel =>
              repeat (apply Exists.intro (α := Value))
              refine ⟨?_, rfl⟩
              exact ⟨2, some ⟨gg, 0, none⟩, cap, by omega, by go_num, by rw [h2, h3]; exact Blk.set O5.out 5 _, by rw [h2, h3, h4]; exact ((KeepR.refl o w4).setCell 5 _).own HO4.out (Nat.lt_succ_self o), B5.out.setCell (p := ⟨o, 5, none⟩) (Nat.le_refl _) _⟩
            case measure => simp [intOf]
          · have HF2 := Lib.hid (show drainM g.drain 2 = F by rw [← hF]; exact drainM_no ht ht3)
            have hgt : ¬ (0 : Int) < ((t.length : Nat) : Int).tmod 3 := by rw [hrem]; omega
            have hwr2 : IntKind.i64.wrap (((t.length : Nat) : Int).tmod 3) = ((t.length : Nat) : Int).tmod 3 := IntWalk.i64_in _ (by rw [hrem]; omega)
            have hgt3 : ¬ (0 : Int) < ((t.length : Nat) : Int) % 3 := by omega
            have hgt2 : ¬ (0 : Int) < IntKind.i64.wrap (((t.length : Nat) : Int).tmod 3) := by rw [hwr2]; exact hgt
            clear hrem ht ht3
            go_wp2_with fail
            have h2 : drainM g.drain 2 = F := HF2.out
            go_roundw
            case rel => exact ⟨2, by omega, by first | rfl | go_num, A', c', by rw [h2]; exact O4.out, by rw [h2]; exact HO.out, HB.out⟩
            case measure => simp [intOf]
        · have hcb : ∀ V : World, V.cell? ⟨wr.heap.size, 0, none⟩ = some (.int .u8 99) → (convert 51 9 (.slice (some ⟨wr.heap.size, 0, none⟩) 1 1)).run Tryz.prog V = .ok (.string ⟨#[99]⟩) V := fun V h => conv1 V wr.heap.size 99 h
          have hcb1 := hcb (wr.alloc (.cells #[.int .u8 99] 5)) (Blk.cell (Blk.new wr _ _) 0)
          have hjn : ∀ V : World, (Op.stringOp .add ⟨#[110]⟩ ⟨#[99]⟩).run Tryz.prog V = .ok (strV [110, 99]) V := fun V => by kernel_rfl
          have hwr : IntKind.u8.wrap 99 = 99 := by decide
          rw [hF] at HO O4 hFl
          have htc0 : wr.cell? ⟨b, o1 + 2, none⟩ = some (strV t) := htc
          have e5 : wr.cell? ⟨o, 5, none⟩ = some (.slice A' F.length c') := Blk.cell O4.out 5
          have hne : some o ≠ (Value.slice A' F.length c').ownBlock := fun e => by have := own_block HO.out e.symm; omega
          have hlU2 : o ≤ (wr.alloc (.cells #[.int .u8 99] 5)).heap.size := by simp; omega
          by_cases ht3 : 0 < t.length % 3
          · have HF2 := Lib.hid (show drainM g.drain 3 = F ++ [[110, 99]] by rw [← hF]; exact drainM_yes ht ht3)
            have hgt : (0 : Int) < ((t.length : Nat) : Int).tmod 3 := by rw [hrem]; omega
            have hwr2 : IntKind.i64.wrap (((t.length : Nat) : Int).tmod 3) = ((t.length : Nat) : Int).tmod 3 := IntWalk.i64_in _ (by rw [hrem]; omega)
            have hgt3 : (0 : Int) < ((t.length : Nat) : Int) % 3 := by omega
            have hgt2 : (0 : Int) < IntKind.i64.wrap (((t.length : Nat) : Int).tmod 3) := by rw [hwr2]; exact hgt
            have h63 : F.length + 1 ≤ maxLen := by unfold maxLen; omega
            have h47 : (F.length + 1) * 16 ≤ 140737488355328 := by omega
            clear hrem ht ht3
            go_wp2_with (at_builtin; refine wpList_append_lies _ rfl _ _ 23 rfl (o + 1) 9 i0 (.string ⟨#[]⟩) 1 16 Tryz.underlying23 hi0 hz0 hz1 hz2 rfl (by decide) (.slice A' F.length c') F.length (strC F) rfl ((HO.out.alloc _).alloc _) ⟨wr.heap.size + 1, 0, none⟩ 1 1 [strV [110, 99]] rfl rfl (World.news_of_block (cs := #[strV [110, 99]]) (t := 9) (fr := (0, 0)) (blk2a wr _ _ _)) (by simp [Value.oneCell']) (by omega) h63 h47 (by simp; omega) _ rfl ?_; intro gg cap w4 hown' hgrow' hat hlt4; have HO4 := Lib.hid hown'; have O5 := Lib.hid (Blk.kept (Blk.alloc (Blk.alloc O4.out _) _) hgrow' hne); have c5 : w4.cell? ⟨o, 5, none⟩ = some (.slice A' F.length c') := Blk.cell O5.out 5; have f5 : w4.frozen? ⟨o, 5, none⟩ = false := Blk.free O5.out 5; have B5 := Lib.hid (below_grown ((HB.out.alloc (Nat.le_of_lt hlU) _).alloc hlU2 _) (Nat.le_of_lt hlV) hgrow' (fun q hq => Nat.le_of_succ_le (own_block HO.out hq))); clear hown' hgrow' hat hlt4)
            have h2 : drainM g.drain 3 = F ++ [[110, 99]] := HF2.out
            have h3 : (F ++ [[110, 99]]).length = F.length + 1 := by simp
            have h4 : strC (F ++ [[110, 99]]) = strC F ++ [strV [110, 99]] := by simp [strC]
            go_roundw
            case rel =>
              repeat (apply Exists.intro (α := Value))
              refine ⟨?_, rfl⟩
              exact ⟨3, some ⟨gg, 0, none⟩, cap, by omega, by go_num, by rw [h2, h3]; exact Blk.set O5.out 5 _, by rw [h2, h3, h4]; exact ((KeepR.refl o w4).setCell 5 _).own HO4.out (Nat.lt_succ_self o), B5.out.setCell (p := ⟨o, 5, none⟩) (Nat.le_refl _) _⟩
            case measure => simp [intOf]
          · have HF2 := Lib.hid (show drainM g.drain 3 = F by rw [← hF]; exact drainM_no ht ht3)
            have hgt : ¬ (0 : Int) < ((t.length : Nat) : Int).tmod 3 := by rw [hrem]; omega
            have hwr2 : IntKind.i64.wrap (((t.length : Nat) : Int).tmod 3) = ((t.length : Nat) : Int).tmod 3 := IntWalk.i64_in _ (by rw [hrem]; omega)
            have hgt3 : ¬ (0 : Int) < ((t.length : Nat) : Int) % 3 := by omega
            have hgt2 : ¬ (0 : Int) < IntKind.i64.wrap (((t.length : Nat) : Int).tmod 3) := by rw [hwr2]; exact hgt
            clear hrem ht ht3
            go_wp2_with fail
            have h2 : drainM g.drain 3 = F := HF2.out
            go_roundw
            case rel => exact ⟨3, by omega, by first | rfl | go_num, A', c', by rw [h2]; exact O4.out, by rw [h2]; exact HO.out, HB.out⟩
            case measure => simp [intOf]
        · have hcb : ∀ V : World, V.cell? ⟨wr.heap.size, 0, none⟩ = some (.int .u8 100) → (convert 51 9 (.slice (some ⟨wr.heap.size, 0, none⟩) 1 1)).run Tryz.prog V = .ok (.string ⟨#[100]⟩) V := fun V h => conv1 V wr.heap.size 100 h
          have hcb1 := hcb (wr.alloc (.cells #[.int .u8 100] 5)) (Blk.cell (Blk.new wr _ _) 0)
          have hjn : ∀ V : World, (Op.stringOp .add ⟨#[110]⟩ ⟨#[100]⟩).run Tryz.prog V = .ok (strV [110, 100]) V := fun V => by kernel_rfl
          have hwr : IntKind.u8.wrap 100 = 100 := by decide
          rw [hF] at HO O4 hFl
          have htc0 : wr.cell? ⟨b, o1 + 3, none⟩ = some (strV t) := htc
          have e5 : wr.cell? ⟨o, 5, none⟩ = some (.slice A' F.length c') := Blk.cell O4.out 5
          have hne : some o ≠ (Value.slice A' F.length c').ownBlock := fun e => by have := own_block HO.out e.symm; omega
          have hlU2 : o ≤ (wr.alloc (.cells #[.int .u8 100] 5)).heap.size := by simp; omega
          by_cases ht3 : 0 < t.length % 3
          · have HF2 := Lib.hid (show drainM g.drain 4 = F ++ [[110, 100]] by rw [← hF]; exact drainM_yes ht ht3)
            have hgt : (0 : Int) < ((t.length : Nat) : Int).tmod 3 := by rw [hrem]; omega
            have hwr2 : IntKind.i64.wrap (((t.length : Nat) : Int).tmod 3) = ((t.length : Nat) : Int).tmod 3 := IntWalk.i64_in _ (by rw [hrem]; omega)
            have hgt3 : (0 : Int) < ((t.length : Nat) : Int) % 3 := by omega
            have hgt2 : (0 : Int) < IntKind.i64.wrap (((t.length : Nat) : Int).tmod 3) := by rw [hwr2]; exact hgt
            have h63 : F.length + 1 ≤ maxLen := by unfold maxLen; omega
            have h47 : (F.length + 1) * 16 ≤ 140737488355328 := by omega
            clear hrem ht ht3
            go_wp2_with (at_builtin; refine wpList_append_lies _ rfl _ _ 23 rfl (o + 1) 9 i0 (.string ⟨#[]⟩) 1 16 Tryz.underlying23 hi0 hz0 hz1 hz2 rfl (by decide) (.slice A' F.length c') F.length (strC F) rfl ((HO.out.alloc _).alloc _) ⟨wr.heap.size + 1, 0, none⟩ 1 1 [strV [110, 100]] rfl rfl (World.news_of_block (cs := #[strV [110, 100]]) (t := 9) (fr := (0, 0)) (blk2a wr _ _ _)) (by simp [Value.oneCell']) (by omega) h63 h47 (by simp; omega) _ rfl ?_; intro gg cap w4 hown' hgrow' hat hlt4; have HO4 := Lib.hid hown'; have O5 := Lib.hid (Blk.kept (Blk.alloc (Blk.alloc O4.out _) _) hgrow' hne); have c5 : w4.cell? ⟨o, 5, none⟩ = some (.slice A' F.length c') := Blk.cell O5.out 5; have f5 : w4.frozen? ⟨o, 5, none⟩ = false := Blk.free O5.out 5; have B5 := Lib.hid (below_grown ((HB.out.alloc (Nat.le_of_lt hlU) _).alloc hlU2 _) (Nat.le_of_lt hlV) hgrow' (fun q hq => Nat.le_of_succ_le (own_block HO.out hq))); clear hown' hgrow' hat hlt4)
            have h2 : drainM g.drain 4 = F ++ [[110, 100]] := HF2.out
            have h3 : (F ++ [[110, 100]]).length = F.length + 1 := by simp
            have h4 : strC (F ++ [[110, 100]]) = strC F ++ [strV [110, 100]] := by simp [strC]
            go_roundw
            case rel =>
              repeat (apply Exists.intro (α := Value))
              refine ⟨?_, rfl⟩
              exact ⟨4, some ⟨gg, 0, none⟩, cap, by omega, by go_num, by rw [h2, h3]; exact Blk.set O5.out 5 _, by rw [h2, h3, h4]; exact ((KeepR.refl o w4).setCell 5 _).own HO4.out (Nat.lt_succ_self o), B5.out.setCell (p := ⟨o, 5, none⟩) (Nat.le_refl _) _⟩
            case measure => simp [intOf]
          · have HF2 := Lib.hid (show drainM g.drain 4 = F by rw [← hF]; exact drainM_no ht ht3)
            have hgt : ¬ (0 : Int) < ((t.length : Nat) : Int).tmod 3 := by rw [hrem]; omega
            have hwr2 : IntKind.i64.wrap (((t.length : Nat) : Int).tmod 3) = ((t.length : Nat) : Int).tmod 3 := IntWalk.i64_in _ (by rw [hrem]; omega)
            have hgt3 : ¬ (0 : Int) < ((t.length : Nat) : Int) % 3 := by omega
            have hgt2 : ¬ (0 : Int) < IntKind.i64.wrap (((t.length : Nat) : Int).tmod 3) := by rw [hwr2]; exact hgt
            clear hrem ht ht3
            go_wp2_with fail
            have h2 : drainM g.drain 4 = F := HF2.out
            go_roundw
            case rel => exact ⟨4, by omega, by first | rfl | go_num, A', c', by rw [h2]; exact O4.out, by rw [h2]; exact HO.out, HB.out⟩
            case measure => simp [intOf]
        · have hcb : ∀ V : World, V.cell? ⟨wr.heap.size, 0, none⟩ = some (.int .u8 101) → (convert 51 9 (.slice (some ⟨wr.heap.size, 0, none⟩) 1 1)).run Tryz.prog V = .ok (.string ⟨#[101]⟩) V := fun V h => conv1 V wr.heap.size 101 h
          have hcb1 := hcb (wr.alloc (.cells #[.int .u8 101] 5)) (Blk.cell (Blk.new wr _ _) 0)
          have hjn : ∀ V : World, (Op.stringOp .add ⟨#[110]⟩ ⟨#[101]⟩).run Tryz.prog V = .ok (strV [110, 101]) V := fun V => by kernel_rfl
          have hwr : IntKind.u8.wrap 101 = 101 := by decide
          rw [hF] at HO O4 hFl
          have htc0 : wr.cell? ⟨b, o1 + 4, none⟩ = some (strV t) := htc
          have e5 : wr.cell? ⟨o, 5, none⟩ = some (.slice A' F.length c') := Blk.cell O4.out 5
          have hne : some o ≠ (Value.slice A' F.length c').ownBlock := fun e => by have := own_block HO.out e.symm; omega
          have hlU2 : o ≤ (wr.alloc (.cells #[.int .u8 101] 5)).heap.size := by simp; omega
          by_cases ht3 : 0 < t.length % 3
          · have HF2 := Lib.hid (show drainM g.drain 5 = F ++ [[110, 101]] by rw [← hF]; exact drainM_yes ht ht3)
            have hgt : (0 : Int) < ((t.length : Nat) : Int).tmod 3 := by rw [hrem]; omega
            have hwr2 : IntKind.i64.wrap (((t.length : Nat) : Int).tmod 3) = ((t.length : Nat) : Int).tmod 3 := IntWalk.i64_in _ (by rw [hrem]; omega)
            have hgt3 : (0 : Int) < ((t.length : Nat) : Int) % 3 := by omega
            have hgt2 : (0 : Int) < IntKind.i64.wrap (((t.length : Nat) : Int).tmod 3) := by rw [hwr2]; exact hgt
            have h63 : F.length + 1 ≤ maxLen := by unfold maxLen; omega
            have h47 : (F.length + 1) * 16 ≤ 140737488355328 := by omega
            clear hrem ht ht3
            go_wp2_with (at_builtin; refine wpList_append_lies _ rfl _ _ 23 rfl (o + 1) 9 i0 (.string ⟨#[]⟩) 1 16 Tryz.underlying23 hi0 hz0 hz1 hz2 rfl (by decide) (.slice A' F.length c') F.length (strC F) rfl ((HO.out.alloc _).alloc _) ⟨wr.heap.size + 1, 0, none⟩ 1 1 [strV [110, 101]] rfl rfl (World.news_of_block (cs := #[strV [110, 101]]) (t := 9) (fr := (0, 0)) (blk2a wr _ _ _)) (by simp [Value.oneCell']) (by omega) h63 h47 (by simp; omega) _ rfl ?_; intro gg cap w4 hown' hgrow' hat hlt4; have HO4 := Lib.hid hown'; have O5 := Lib.hid (Blk.kept (Blk.alloc (Blk.alloc O4.out _) _) hgrow' hne); have c5 : w4.cell? ⟨o, 5, none⟩ = some (.slice A' F.length c') := Blk.cell O5.out 5; have f5 : w4.frozen? ⟨o, 5, none⟩ = false := Blk.free O5.out 5; have B5 := Lib.hid (below_grown ((HB.out.alloc (Nat.le_of_lt hlU) _).alloc hlU2 _) (Nat.le_of_lt hlV) hgrow' (fun q hq => Nat.le_of_succ_le (own_block HO.out hq))); clear hown' hgrow' hat hlt4)
            have h2 : drainM g.drain 5 = F ++ [[110, 101]] := HF2.out
            have h3 : (F ++ [[110, 101]]).length = F.length + 1 := by simp
            have h4 : strC (F ++ [[110, 101]]) = strC F ++ [strV [110, 101]] := by simp [strC]
            go_roundw
            case rel =>
              repeat (apply Exists.intro (α := Value))
              refine ⟨?_, rfl⟩
              exact ⟨5, some ⟨gg, 0, none⟩, cap, by omega, by go_num, by rw [h2, h3]; exact Blk.set O5.out 5 _, by rw [h2, h3, h4]; exact ((KeepR.refl o w4).setCell 5 _).own HO4.out (Nat.lt_succ_self o), B5.out.setCell (p := ⟨o, 5, none⟩) (Nat.le_refl _) _⟩
            case measure => simp [intOf]
          · have HF2 := Lib.hid (show drainM g.drain 5 = F by rw [← hF]; exact drainM_no ht ht3)
            have hgt : ¬ (0 : Int) < ((t.length : Nat) : Int).tmod 3 := by rw [hrem]; omega
            have hwr2 : IntKind.i64.wrap (((t.length : Nat) : Int).tmod 3) = ((t.length : Nat) : Int).tmod 3 := IntWalk.i64_in _ (by rw [hrem]; omega)
            have hgt3 : ¬ (0 : Int) < ((t.length : Nat) : Int) % 3 := by omega
            have hgt2 : ¬ (0 : Int) < IntKind.i64.wrap (((t.length : Nat) : Int).tmod 3) := by rw [hwr2]; exact hgt
            clear hrem ht ht3
            go_wp2_with fail
            have h2 : drainM g.drain 5 = F := HF2.out
            go_roundw
            case rel => exact ⟨5, by omega, by first | rfl | go_num, A', c', by rw [h2]; exact O4.out, by rw [h2]; exact HO.out, HB.out⟩
            case measure => simp [intOf]
        · have hcb : ∀ V : World, V.cell? ⟨wr.heap.size, 0, none⟩ = some (.int .u8 102) → (convert 51 9 (.slice (some ⟨wr.heap.size, 0, none⟩) 1 1)).run Tryz.prog V = .ok (.string ⟨#[102]⟩) V := fun V h => conv1 V wr.heap.size 102 h
          have hcb1 := hcb (wr.alloc (.cells #[.int .u8 102] 5)) (Blk.cell (Blk.new wr _ _) 0)
          have hjn : ∀ V : World, (Op.stringOp .add ⟨#[110]⟩ ⟨#[102]⟩).run Tryz.prog V = .ok (strV [110, 102]) V := fun V => by kernel_rfl
          have hwr : IntKind.u8.wrap 102 = 102 := by decide
          rw [hF] at HO O4 hFl
          have htc0 : wr.cell? ⟨b, o1 + 5, none⟩ = some (strV t) := htc
          have e5 : wr.cell? ⟨o, 5, none⟩ = some (.slice A' F.length c') := Blk.cell O4.out 5
          have hne : some o ≠ (Value.slice A' F.length c').ownBlock := fun e => by have := own_block HO.out e.symm; omega
          have hlU2 : o ≤ (wr.alloc (.cells #[.int .u8 102] 5)).heap.size := by simp; omega
          by_cases ht3 : 0 < t.length % 3
          · have HF2 := Lib.hid (show drainM g.drain 6 = F ++ [[110, 102]] by rw [← hF]; exact drainM_yes ht ht3)
            have hgt : (0 : Int) < ((t.length : Nat) : Int).tmod 3 := by rw [hrem]; omega
            have hwr2 : IntKind.i64.wrap (((t.length : Nat) : Int).tmod 3) = ((t.length : Nat) : Int).tmod 3 := IntWalk.i64_in _ (by rw [hrem]; omega)
            have hgt3 : (0 : Int) < ((t.length : Nat) : Int) % 3 := by omega
            have hgt2 : (0 : Int) < IntKind.i64.wrap (((t.length : Nat) : Int).tmod 3) := by rw [hwr2]; exact hgt
            have h63 : F.length + 1 ≤ maxLen := by unfold maxLen; omega
            have h47 : (F.length + 1) * 16 ≤ 140737488355328 := by omega
            clear hrem ht ht3
            go_wp2_with (at_builtin; refine wpList_append_lies _ rfl _ _ 23 rfl (o + 1) 9 i0 (.string ⟨#[]⟩) 1 16 Tryz.underlying23 hi0 hz0 hz1 hz2 rfl (by decide) (.slice A' F.length c') F.length (strC F) rfl ((HO.out.alloc _).alloc _) ⟨wr.heap.size + 1, 0, none⟩ 1 1 [strV [110, 102]] rfl rfl (World.news_of_block (cs := #[strV [110, 102]]) (t := 9) (fr := (0, 0)) (blk2a wr _ _ _)) (by simp [Value.oneCell']) (by omega) h63 h47 (by simp; omega) _ rfl ?_; intro gg cap w4 hown' hgrow' hat hlt4; have HO4 := Lib.hid hown'; have O5 := Lib.hid (Blk.kept (Blk.alloc (Blk.alloc O4.out _) _) hgrow' hne); have c5 : w4.cell? ⟨o, 5, none⟩ = some (.slice A' F.length c') := Blk.cell O5.out 5; have f5 : w4.frozen? ⟨o, 5, none⟩ = false := Blk.free O5.out 5; have B5 := Lib.hid (below_grown ((HB.out.alloc (Nat.le_of_lt hlU) _).alloc hlU2 _) (Nat.le_of_lt hlV) hgrow' (fun q hq => Nat.le_of_succ_le (own_block HO.out hq))); clear hown' hgrow' hat hlt4)
            have h2 : drainM g.drain 6 = F ++ [[110, 102]] := HF2.out
            have h3 : (F ++ [[110, 102]]).length = F.length + 1 := by simp
            have h4 : strC (F ++ [[110, 102]]) = strC F ++ [strV [110, 102]] := by simp [strC]
            go_roundw
            case rel =>
              repeat (apply Exists.intro (α := Value))
              refine ⟨?_, rfl⟩
              exact ⟨6, some ⟨gg, 0, none⟩, cap, by omega, by go_num, by rw [h2, h3]; exact Blk.set O5.out 5 _, by rw [h2, h3, h4]; exact ((KeepR.refl o w4).setCell 5 _).own HO4.out (Nat.lt_succ_self o), B5.out.setCell (p := ⟨o, 5, none⟩) (Nat.le_refl _) _⟩
            case measure => simp [intOf]
          · have HF2 := Lib.hid (show drainM g.drain 6 = F by rw [← hF]; exact drainM_no ht ht3)
            have hgt : ¬ (0 : Int) < ((t.length : Nat) : Int).tmod 3 := by rw [hrem]; omega
            have hwr2 : IntKind.i64.wrap (((t.length : Nat) : Int).tmod 3) = ((t.length : Nat) : Int).tmod 3 := IntWalk.i64_in _ (by rw [hrem]; omega)
            have hgt3 : ¬ (0 : Int) < ((t.length : Nat) : Int) % 3 := by omega
            have hgt2 : ¬ (0 : Int) < IntKind.i64.wrap (((t.length : Nat) : Int).tmod 3) := by rw [hwr2]; exact hgt
            clear hrem ht ht3
            go_wp2_with fail
            have h2 : drainM g.drain 6 = F := HF2.out
            go_roundw
            case rel => exact ⟨6, by omega, by first | rfl | go_num, A', c', by rw [h2]; exact O4.out, by rw [h2]; exact HO.out, HB.out⟩
            case measure => simp [intOf]
        · have hcb : ∀ V : World, V.cell? ⟨wr.heap.size, 0, none⟩ = some (.int .u8 103) → (convert 51 9 (.slice (some ⟨wr.heap.size, 0, none⟩) 1 1)).run Tryz.prog V = .ok (.string ⟨#[103]⟩) V := fun V h => conv1 V wr.heap.size 103 h
          have hcb1 := hcb (wr.alloc (.cells #[.int .u8 103] 5)) (Blk.cell (Blk.new wr _ _) 0)
          have hjn : ∀ V : World, (Op.stringOp .add ⟨#[110]⟩ ⟨#[103]⟩).run Tryz.prog V = .ok (strV [110, 103]) V := fun V => by kernel_rfl
          have hwr : IntKind.u8.wrap 103 = 103 := by decide
          rw [hF] at HO O4 hFl
          have htc0 : wr.cell? ⟨b, o1 + 6, none⟩ = some (strV t) := htc
          have e5 : wr.cell? ⟨o, 5, none⟩ = some (.slice A' F.length c') := Blk.cell O4.out 5
          have hne : some o ≠ (Value.slice A' F.length c').ownBlock := fun e => by have := own_block HO.out e.symm; omega
          have hlU2 : o ≤ (wr.alloc (.cells #[.int .u8 103] 5)).heap.size := by simp; omega
          by_cases ht3 : 0 < t.length % 3
          · have HF2 := Lib.hid (show drainM g.drain 7 = F ++ [[110, 103]] by rw [← hF]; exact drainM_yes ht ht3)
            have hgt : (0 : Int) < ((t.length : Nat) : Int).tmod 3 := by rw [hrem]; omega
            have hwr2 : IntKind.i64.wrap (((t.length : Nat) : Int).tmod 3) = ((t.length : Nat) : Int).tmod 3 := IntWalk.i64_in _ (by rw [hrem]; omega)
            have hgt3 : (0 : Int) < ((t.length : Nat) : Int) % 3 := by omega
            have hgt2 : (0 : Int) < IntKind.i64.wrap (((t.length : Nat) : Int).tmod 3) := by rw [hwr2]; exact hgt
            have h63 : F.length + 1 ≤ maxLen := by unfold maxLen; omega
            have h47 : (F.length + 1) * 16 ≤ 140737488355328 := by omega
            clear hrem ht ht3
            go_wp2_with (at_builtin; refine wpList_append_lies _ rfl _ _ 23 rfl (o + 1) 9 i0 (.string ⟨#[]⟩) 1 16 Tryz.underlying23 hi0 hz0 hz1 hz2 rfl (by decide) (.slice A' F.length c') F.length (strC F) rfl ((HO.out.alloc _).alloc _) ⟨wr.heap.size + 1, 0, none⟩ 1 1 [strV [110, 103]] rfl rfl (World.news_of_block (cs := #[strV [110, 103]]) (t := 9) (fr := (0, 0)) (blk2a wr _ _ _)) (by simp [Value.oneCell']) (by omega) h63 h47 (by simp; omega) _ rfl ?_; intro gg cap w4 hown' hgrow' hat hlt4; have HO4 := Lib.hid hown'; have O5 := Lib.hid (Blk.kept (Blk.alloc (Blk.alloc O4.out _) _) hgrow' hne); have c5 : w4.cell? ⟨o, 5, none⟩ = some (.slice A' F.length c') := Blk.cell O5.out 5; have f5 : w4.frozen? ⟨o, 5, none⟩ = false := Blk.free O5.out 5; have B5 := Lib.hid (below_grown ((HB.out.alloc (Nat.le_of_lt hlU) _).alloc hlU2 _) (Nat.le_of_lt hlV) hgrow' (fun q hq => Nat.le_of_succ_le (own_block HO.out hq))); clear hown' hgrow' hat hlt4)
            have h2 : drainM g.drain 7 = F ++ [[110, 103]] := HF2.out
            have h3 : (F ++ [[110, 103]]).length = F.length + 1 := by simp
            have h4 : strC (F ++ [[110, 103]]) = strC F ++ [strV [110, 103]] := by simp [strC]
            go_roundw
            case rel =>
              repeat (apply Exists.intro (α := Value))
              refine ⟨?_, rfl⟩
              exact ⟨7, some ⟨gg, 0, none⟩, cap, by omega, by go_num, by rw [h2, h3]; exact Blk.set O5.out 5 _, by rw [h2, h3, h4]; exact ((KeepR.refl o w4).setCell 5 _).own HO4.out (Nat.lt_succ_self o), B5.out.setCell (p := ⟨o, 5, none⟩) (Nat.le_refl _) _⟩
            case measure => simp [intOf]
          · have HF2 := Lib.hid (show drainM g.drain 7 = F by rw [← hF]; exact drainM_no ht ht3)
            have hgt : ¬ (0 : Int) < ((t.length : Nat) : Int).tmod 3 := by rw [hrem]; omega
            have hwr2 : IntKind.i64.wrap (((t.length : Nat) : Int).tmod 3) = ((t.length : Nat) : Int).tmod 3 := IntWalk.i64_in _ (by rw [hrem]; omega)
            have hgt3 : ¬ (0 : Int) < ((t.length : Nat) : Int) % 3 := by omega
            have hgt2 : ¬ (0 : Int) < IntKind.i64.wrap (((t.length : Nat) : Int).tmod 3) := by rw [hwr2]; exact hgt
            clear hrem ht ht3
            go_wp2_with fail
            have h2 : drainM g.drain 7 = F := HF2.out
            go_roundw
            case rel => exact ⟨7, by omega, by first | rfl | go_num, A', c', by rw [h2]; exact O4.out, by rw [h2]; exact HO.out, HB.out⟩
            case measure => simp [intOf]
        · have hcb : ∀ V : World, V.cell? ⟨wr.heap.size, 0, none⟩ = some (.int .u8 104) → (convert 51 9 (.slice (some ⟨wr.heap.size, 0, none⟩) 1 1)).run Tryz.prog V = .ok (.string ⟨#[104]⟩) V := fun V h => conv1 V wr.heap.size 104 h
          have hcb1 := hcb (wr.alloc (.cells #[.int .u8 104] 5)) (Blk.cell (Blk.new wr _ _) 0)
          have hjn : ∀ V : World, (Op.stringOp .add ⟨#[110]⟩ ⟨#[104]⟩).run Tryz.prog V = .ok (strV [110, 104]) V := fun V => by kernel_rfl
          have hwr : IntKind.u8.wrap 104 = 104 := by decide
          rw [hF] at HO O4 hFl
          have htc0 : wr.cell? ⟨b, o1 + 7, none⟩ = some (strV t) := htc
          have e5 : wr.cell? ⟨o, 5, none⟩ = some (.slice A' F.length c') := Blk.cell O4.out 5
          have hne : some o ≠ (Value.slice A' F.length c').ownBlock := fun e => by have := own_block HO.out e.symm; omega
          have hlU2 : o ≤ (wr.alloc (.cells #[.int .u8 104] 5)).heap.size := by simp; omega
          by_cases ht3 : 0 < t.length % 3
          · have HF2 := Lib.hid (show drainM g.drain 8 = F ++ [[110, 104]] by rw [← hF]; exact drainM_yes ht ht3)
            have hgt : (0 : Int) < ((t.length : Nat) : Int).tmod 3 := by rw [hrem]; omega
            have hwr2 : IntKind.i64.wrap (((t.length : Nat) : Int).tmod 3) = ((t.length : Nat) : Int).tmod 3 := IntWalk.i64_in _ (by rw [hrem]; omega)
            have hgt3 : (0 : Int) < ((t.length : Nat) : Int) % 3 := by omega
            have hgt2 : (0 : Int) < IntKind.i64.wrap (((t.length : Nat) : Int).tmod 3) := by rw [hwr2]; exact hgt
            have h63 : F.length + 1 ≤ maxLen := by unfold maxLen; omega
            have h47 : (F.length + 1) * 16 ≤ 140737488355328 := by omega
            clear hrem ht ht3
            go_wp2_with (at_builtin; refine wpList_append_lies _ rfl _ _ 23 rfl (o + 1) 9 i0 (.string ⟨#[]⟩) 1 16 Tryz.underlying23 hi0 hz0 hz1 hz2 rfl (by decide) (.slice A' F.length c') F.length (strC F) rfl ((HO.out.alloc _).alloc _) ⟨wr.heap.size + 1, 0, none⟩ 1 1 [strV [110, 104]] rfl rfl (World.news_of_block (cs := #[strV [110, 104]]) (t := 9) (fr := (0, 0)) (blk2a wr _ _ _)) (by simp [Value.oneCell']) (by omega) h63 h47 (by simp; omega) _ rfl ?_; intro gg cap w4 hown' hgrow' hat hlt4; have HO4 := Lib.hid hown'; have O5 := Lib.hid (Blk.kept (Blk.alloc (Blk.alloc O4.out _) _) hgrow' hne); have c5 : w4.cell? ⟨o, 5, none⟩ = some (.slice A' F.length c') := Blk.cell O5.out 5; have f5 : w4.frozen? ⟨o, 5, none⟩ = false := Blk.free O5.out 5; have B5 := Lib.hid (below_grown ((HB.out.alloc (Nat.le_of_lt hlU) _).alloc hlU2 _) (Nat.le_of_lt hlV) hgrow' (fun q hq => Nat.le_of_succ_le (own_block HO.out hq))); clear hown' hgrow' hat hlt4)
            have h2 : drainM g.drain 8 = F ++ [[110, 104]] := HF2.out
            have h3 : (F ++ [[110, 104]]).length = F.length + 1 := by simp
            have h4 : strC (F ++ [[110, 104]]) = strC F ++ [strV [110, 104]] := by simp [strC]
            go_roundw
            case rel =>
              repeat (apply Exists.intro (α := Value))
              refine ⟨?_, rfl⟩
              exact ⟨8, some ⟨gg, 0, none⟩, cap, by omega, by go_num, by rw [h2, h3]; exact Blk.set O5.out 5 _, by rw [h2, h3, h4]; exact ((KeepR.refl o w4).setCell 5 _).own HO4.out (Nat.lt_succ_self o), B5.out.setCell (p := ⟨o, 5, none⟩) (Nat.le_refl _) _⟩
            case measure => simp [intOf]
          · have HF2 := Lib.hid (show drainM g.drain 8 = F by rw [← hF]; exact drainM_no ht ht3)
            have hgt : ¬ (0 : Int) < ((t.length : Nat) : Int).tmod 3 := by rw [hrem]; omega
            have hwr2 : IntKind.i64.wrap (((t.length : Nat) : Int).tmod 3) = ((t.length : Nat) : Int).tmod 3 := IntWalk.i64_in _ (by rw [hrem]; omega)
            have hgt3 : ¬ (0 : Int) < ((t.length : Nat) : Int) % 3 := by omega
            have hgt2 : ¬ (0 : Int) < IntKind.i64.wrap (((t.length : Nat) : Int).tmod 3) := by rw [hwr2]; exact hgt
            clear hrem ht ht3
            go_wp2_with fail
            have h2 : drainM g.drain 8 = F := HF2.out
            go_roundw
            case rel => exact ⟨8, by omega, by first | rfl | go_num, A', c', by rw [h2]; exact O4.out, by rw [h2]; exact HO.out, HB.out⟩
            case measure => simp [intOf]
      · obtain rfl : k = min g.drain.length 8 := by omega
        have hFl := drainM_len g.drain (min g.drain.length 8)
        obtain ⟨F, hF⟩ : ∃ F, drainM g.drain (min g.drain.length 8) = F := ⟨_, rfl⟩
        rw [hF] at HO O4 hFl
        have HF := Lib.hid hF
        clear hF
        have z0 : wr.cell? ⟨o, 0, none⟩ = some (.int .i64 (min (g.l0 % 1001) (g.h0 % 1001))) := Blk.cell O4.out 0
        have z1 : wr.cell? ⟨o, 1, none⟩ = some (.int .i64 (min (g.l1 % 1001) (g.h1 % 1001))) := Blk.cell O4.out 1
        have z2 : wr.cell? ⟨o, 2, none⟩ = some (.int .i64 (max (g.l0 % 1001) (g.h0 % 1001))) := Blk.cell O4.out 2
        have z3 : wr.cell? ⟨o, 3, none⟩ = some (.int .i64 (max (g.l1 % 1001) (g.h1 % 1001))) := Blk.cell O4.out 3
        have z4 : wr.cell? ⟨o, 4, none⟩ = some (.int .i64 (g.on % 32)) := Blk.cell O4.out 4
        have z5 : wr.cell? ⟨o, 5, none⟩ = some (.slice A' F.length c') := Blk.cell O4.out 5
        have z6 : wr.cell? ⟨o, 6, none⟩ = some (.int .i64 (g.mx % 49)) := Blk.cell O4.out 6
        have z7 : wr.cell? ⟨o, 7, none⟩ = some (.int .i64 (g.tr % 9)) := Blk.cell O4.out 7
        have z8 : wr.cell? ⟨o, 8, none⟩ = some (.bool g.rb) := Blk.cell O4.out 8
        have hFd : Hid ((madeG g).drain = F) := HF
        have hbig : Hid (∀ x ∈ F, x.length ≤ 9223372036854775807) := Lib.hid (fun x hx => by rw [← HF.out] at hx; have := drainM_two g.drain _ x hx; omega)
        have y0 : wr.cell? ⟨w.heap.size + 1, 0, none⟩ = some (.int .i64 0) := Blk.cell R4.out 0
        have v0 : wr.frozen? ⟨w.heap.size + 1, 0, none⟩ = false := Blk.free R4.out 0
        have y1 : wr.cell? ⟨w.heap.size + 1, 1, none⟩ = some (.int .i64 0) := Blk.cell R4.out 1
        have v1 : wr.frozen? ⟨w.heap.size + 1, 1, none⟩ = false := Blk.free R4.out 1
        have y2 : wr.cell? ⟨w.heap.size + 1, 2, none⟩ = some (.int .i64 0) := Blk.cell R4.out 2
        have v2 : wr.frozen? ⟨w.heap.size + 1, 2, none⟩ = false := Blk.free R4.out 2
        have y3 : wr.cell? ⟨w.heap.size + 1, 3, none⟩ = some (.int .i64 0) := Blk.cell R4.out 3
        have v3 : wr.frozen? ⟨w.heap.size + 1, 3, none⟩ = false := Blk.free R4.out 3
        have y4 : wr.cell? ⟨w.heap.size + 1, 4, none⟩ = some (.int .i64 0) := Blk.cell R4.out 4
        have v4 : wr.frozen? ⟨w.heap.size + 1, 4, none⟩ = false := Blk.free R4.out 4
        have y5 : wr.cell? ⟨w.heap.size + 1, 5, none⟩ = some (.slice none 0 0) := Blk.cell R4.out 5
        have v5 : wr.frozen? ⟨w.heap.size + 1, 5, none⟩ = false := Blk.free R4.out 5
        have y6 : wr.cell? ⟨w.heap.size + 1, 6, none⟩ = some (.int .i64 0) := Blk.cell R4.out 6
        have v6 : wr.frozen? ⟨w.heap.size + 1, 6, none⟩ = false := Blk.free R4.out 6
        have y7 : wr.cell? ⟨w.heap.size + 1, 7, none⟩ = some (.int .i64 0) := Blk.cell R4.out 7
        have v7 : wr.frozen? ⟨w.heap.size + 1, 7, none⟩ = false := Blk.free R4.out 7
        have y8 : wr.cell? ⟨w.heap.size + 1, 8, none⟩ = some (.bool false) := Blk.cell R4.out 8
        have v8 : wr.frozen? ⟨w.heap.size + 1, 8, none⟩ = false := Blk.free R4.out 8
        by_cases h8 : g.drain.length ≤ 8
        · have hm : (min g.drain.length 8) = g.drain.length := by omega
          rw [hm]
          clear hm
          go_wp2_with fail
          refine bodyPost_row1 Tryz.results20 (w.heap.size + 1) _ _ _ _ ?d1 ?p1 (blk9 R4.out (.int .i64 (min (g.l0 % 1001) (g.h0 % 1001))) (.int .i64 (min (g.l1 % 1001) (g.h1 % 1001))) (.int .i64 (max (g.l0 % 1001) (g.h0 % 1001))) (.int .i64 (max (g.l1 % 1001) (g.h1 % 1001))) (.int .i64 (g.on % 32)) (.slice A' F.length c') (.int .i64 (g.mx % 49)) (.int .i64 (g.tr % 9)) (.bool g.rb)) Tryz.underlying25 rfl goal_size ?_
          case d1 => rfl
          case p1 => rfl
          have ho := (keep9 wr (w.heap.size + 1) (.int .i64 (min (g.l0 % 1001) (g.h0 % 1001))) (.int .i64 (min (g.l1 % 1001) (g.h1 % 1001))) (.int .i64 (max (g.l0 % 1001) (g.h0 % 1001))) (.int .i64 (max (g.l1 % 1001) (g.h1 % 1001))) (.int .i64 (g.on % 32)) (.slice A' F.length c') (.int .i64 (g.mx % 49)) (.int .i64 (g.tr % 9)) (.bool g.rb)).own HO.out (by omega)
          refine ⟨A', c', ?_, ⟨?_, ?_, ?_, ?_⟩, below9 HBU.out (Nat.le_succ _) (.int .i64 (min (g.l0 % 1001) (g.h0 % 1001))) (.int .i64 (min (g.l1 % 1001) (g.h1 % 1001))) (.int .i64 (max (g.l0 % 1001) (g.h0 % 1001))) (.int .i64 (max (g.l1 % 1001) (g.h1 % 1001))) (.int .i64 (g.on % 32)) (.slice A' F.length c') (.int .i64 (g.mx % 49)) (.int .i64 (g.tr % 9)) (.bool g.rb)⟩
          · unfold valG
            rw [hFd.out]
            rfl
          · rw [hFd.out]
            exact fun j y hj => Sc.own_slat ho j y hj
          · rw [hFd.out]
            exact (Sc.own_cap ho).1
          · exact (Sc.own_cap ho).2
          · rw [hFd.out]
            exact hbig.out
        · have hm : (min g.drain.length 8) = 8 := by omega
          have h8' : (8 : Int) < (g.drain.length : Int) := by omega
          rw [hm]
          clear hm
          go_wp2_with fail
          refine bodyPost_row1 Tryz.results20 (w.heap.size + 1) _ _ _ _ ?d1 ?p1 (blk9 R4.out (.int .i64 (min (g.l0 % 1001) (g.h0 % 1001))) (.int .i64 (min (g.l1 % 1001) (g.h1 % 1001))) (.int .i64 (max (g.l0 % 1001) (g.h0 % 1001))) (.int .i64 (max (g.l1 % 1001) (g.h1 % 1001))) (.int .i64 (g.on % 32)) (.slice A' F.length c') (.int .i64 (g.mx % 49)) (.int .i64 (g.tr % 9)) (.bool g.rb)) Tryz.underlying25 rfl goal_size ?_
          case d1 => rfl
          case p1 => rfl
          have ho := (keep9 wr (w.heap.size + 1) (.int .i64 (min (g.l0 % 1001) (g.h0 % 1001))) (.int .i64 (min (g.l1 % 1001) (g.h1 % 1001))) (.int .i64 (max (g.l0 % 1001) (g.h0 % 1001))) (.int .i64 (max (g.l1 % 1001) (g.h1 % 1001))) (.int .i64 (g.on % 32)) (.slice A' F.length c') (.int .i64 (g.mx % 49)) (.int .i64 (g.tr % 9)) (.bool g.rb)).own HO.out (by omega)
          refine ⟨A', c', ?_, ⟨?_, ?_, ?_, ?_⟩, below9 HBU.out (Nat.le_succ _) (.int .i64 (min (g.l0 % 1001) (g.h0 % 1001))) (.int .i64 (min (g.l1 % 1001) (g.h1 % 1001))) (.int .i64 (max (g.l0 % 1001) (g.h0 % 1001))) (.int .i64 (max (g.l1 % 1001) (g.h1 % 1001))) (.int .i64 (g.on % 32)) (.slice A' F.length c') (.int .i64 (g.mx % 49)) (.int .i64 (g.tr % 9)) (.bool g.rb)⟩
          · unfold valG
            rw [hFd.out]
            rfl
          · rw [hFd.out]
            exact fun j y hj => Sc.own_slat ho j y hj
          · rw [hFd.out]
            exact (Sc.own_cap ho).1
          · exact (Sc.own_cap ho).2
          · rw [hFd.out]
            exact hbig.out
end Go.Proofs.YthbplchbolghjaaGreatDoor
