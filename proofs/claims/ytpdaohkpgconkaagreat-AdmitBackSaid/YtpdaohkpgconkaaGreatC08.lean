/- The clauses of nodes, by the document's words: caps. A contract. Condition: the cluster and the numbers lie in memory. One clause of a list, by the document's words: Of, out of what All tells. A contract. Condition: the cluster and the numbers lie in memory. What of a list is broken, by the document's words: Broken, out of what All tells. A contract. Condition: the cluster and the numbers lie in memory. The clauses of a list that are about a pod, by the document's words: Pod, out of what All tells. A contract. Condition: the cluster and the numbers lie in memory. Who is near whom, by the document's words: near, about. Contracts. Condition: the cluster and the numbers lie in memory. How many are near a pod's node, by the document's words: about. A contract. Condition: the cluster and the numbers lie in memory. The clauses of a placement, by the document's words, as a list: first those of nodes, then those of pods by kinds, then those of owners; and by the program's words, subject by subject: it is the same list. In numbers and texts only. All that clauses may be about: subjects. A contract. Condition: the cluster and the numbers lie in memory. The rules of the kinds: a map of eight functions. Contracts of its maker and of its look-up. No conditions. The clause of a kind about a subject: by. Contracts: where the rule has no function for such, and where it has. Condition: what the function answers. A label, and a term, equals itself. No conditions. What Get answers, as a plain function. Condition: a list that can lie in memory. What holds where a placement may be: few labels, keys that differ, short values, names that differ, quantities in bounds; and the pods near a pod, as a list. In numbers and texts only. The program's rule for ClauseWhere: notWhere. A contract. Condition: the cluster and the numbers lie in memory, the placement may be, the pod does not wait. -/
import Derived.Test.YtpdaohkpgconkaaGreatC07
import Derived.StillTailTactics
import Derived.Carry
import Derived.MapViews
import Derived.Laws.StructEq
import Derived.Handy
import Derived.Deep.RegionHeld3

namespace Go.Proofs.YtpdaohkpgconkaaGreat
open Go.RowKit

/-- The clause of a node and a quantity. -/
def capC (ps : List PodD) (p : List Int) (n : Nat) (x : NodeD) (k : Nat) : ClT := (1, (n : Int), (k : Int), max 0 (wrap64 (addW ps (onU p (n : Int) p.length) k - x.cap k)))
def capN (ps : List PodD) (p : List Int) (n : Nat) (x : NodeD) (k : Nat) : List ClT := (List.range k).map (capC ps p n x)
def capsU (ns : List NodeD) (ps : List PodD) (p : List Int) : Nat → List ClT
  | 0 => []
  | n + 1 => capsU ns ps p n ++ (match ns[n]? with
    | some x => capN ps p n x 5
    | none => [])
theorem capN_len (ps : List PodD) (p : List Int) (n : Nat) (x : NodeD) (k : Nat) : (capN ps p n x k).length = k := by simp [capN]
theorem capN_succ (ps : List PodD) (p : List Int) (n : Nat) (x : NodeD) (k : Nat) : capN ps p n x (k + 1) = capN ps p n x k ++ [capC ps p n x k] := by
  unfold capN
  rw [List.range_succ, List.map_append]
  rfl
theorem capsU_len (ns : List NodeD) (ps : List PodD) (p : List Int) : ∀ n, (capsU ns ps p n).length ≤ 5 * n
  | 0 => Nat.le_refl _
  | n + 1 => by
    have := capsU_len ns ps p n
    rw [capsU, List.length_append]
    split
    · rw [capN_len]; omega
    · simp; omega
theorem cl_info : (Tryz.prog.info? 47).map (fun i => (i.zero, i.size, i.bytes)) = some (some (.agg #[.int .i64 0, .int .i64 0, .int .i64 0, .int .i64 0]), 4, 32) := by kernel_rfl
theorem atN_cap {w : World} {A : Option Addr} {l : List NodeD} (h : La.SlAt w A (cellsN l)) {n b o : Nat} {x : NodeD} (hA : A = some ⟨b, o, none⟩) (hn : l[n]? = some x) : ∀ j, j < 5 → w.cell? ⟨b, o + n * 10 + 1 + j, none⟩ = some (.int .i64 (x.cap j)) := fun j hj => by
  obtain ⟨b', o', hA', _, c0, c1, c2, c3, c4, c5, _⟩ := atN h hn
  rw [hA] at hA'
  cases hA'
  match j, hj with
  | 0, _ => exact c1
  | 1, _ => exact c2
  | 2, _ => exact c3
  | 3, _ => exact c4
  | 4, _ => exact c5

set_option maxRecDepth 100000 in
set_option maxHeartbeats 8000000 in
theorem caps_any (A B C P : Option Addr) (ca cb cc cp : Nat) (ns : List NodeD) (ps : List PodD) (os : List OwnD) (p : List Int) (hpl : p.length = ps.length) (w : World) (h : SnapAt w A B C ca cb cc ns ps os) (hp : IntsAt w P cp p) :
    Calls Tryz.prog 74 #[snapV A B C ca cb cc ns ps os, .slice P p.length cp] w fun e w' => ∃ v, e = .returned v ∧ w'.ownsRow w.heap.size 47 4 v (capsU ns ps p ns.length).length (cells4 (capsU ns ps p ns.length)) ∧ Below w.heap.size w w' := by
  have hln := h.ln
  have H := Lib.hid h
  have HP := Lib.hid hp
  have HPL := Lib.hid hpl
  have B0 : Hid (Below w.heap.size w (w.alloc (.cells (snapC A B C ca cb cc ns ps os) 26))) := Lib.hid (below1 w _)
  have S0 : Hid (Blk (w.alloc (.cells (snapC A B C ca cb cc ns ps os) 26)) w.heap.size (snapC A B C ca cb cc ns ps os) 26) := Lib.hid (Blk.new w _ _)
  obtain ⟨i0, hi0, hz0, hz1, hz2⟩ := info_parts cl_info
  clear h hp hpl
  go_enter Tryz.func74, Tryz.ntmps74
  go_wp2_with fail
  change Code.wp _ _ _ _ (w.alloc (.cells (snapC A B C ca cb cc ns ps os) 26))
  generalize (w.alloc (.cells (snapC A B C ca cb cc ns ps os) 26)) = W at B0 S0 ⊢
  have HZ := Lib.hid (fun W' (hb : Below W.heap.size W W') => (show W'.cell? ⟨w.heap.size, 0, none⟩ = some (.slice A ns.length ca) ∧ W'.cell? ⟨w.heap.size, 1, none⟩ = some (.slice B ps.length cb) ∧ W'.cell? ⟨w.heap.size, 2, none⟩ = some (.slice C os.length cc) from ⟨Blk.cell (S0.out.below hb S0.out.lt) 0, Blk.cell (S0.out.below hb S0.out.lt) 1, Blk.cell (S0.out.below hb S0.out.lt) 2⟩))
  have HT := Lib.hid (fun W' (hb : Below W.heap.size W W') => B0.out.trans (hb.mono B0.out.size))
  have HS := Lib.hid (fun W' (hb : Below W.heap.size W W') => H.out.below (HT.out W' hb))
  have HPp := Lib.hid (fun W' (hb : Below W.heap.size W W') => HP.out.below (HT.out W' hb))
  have HB0 := Lib.hid B0.out.size
  clear H HP B0 S0
  go_loopw [5, 6] (fun v i wr => ∃ n : Nat, n ≤ ns.length ∧ i = .int .i64 n ∧ wr.ownsRow W.heap.size 47 4 v (capsU ns ps p n).length (cells4 (capsU ns ps p n)) ∧ Below W.heap.size W wr) (fun _ i _ => ns.length - (intOf i).toNat)
  case atStart => exact ⟨0, by omega, rfl, World.ownsRow_nil _ _ _ _, Below.refl _ _⟩
  case round =>
    obtain ⟨n, hn, rfl, ho, hb⟩ := hrel
    have HO := Lib.hid ho
    have HB := Lib.hid hb
    clear ho hb
    obtain ⟨z0, z1, z2⟩ := HZ.out _ HB.out
    by_cases hlt : n < ns.length
    case neg =>
      obtain rfl : n = ns.length := by omega
      go_wp2
      go_ret
      exact ⟨_, rfl, own_base HO.out HB0.out, HT.out _ HB.out⟩
    obtain ⟨x, hx⟩ : ∃ x, ns[n]? = some x := ⟨ns[n], List.getElem?_eq_getElem hlt⟩
    have HX := Lib.hid hx
    have n0 : (0 : Int) ≤ (n : Int) := by omega
    have n1 : (n : Int) < (ns.length : Int) := by omega
    have KU := Lib.hid (usedOf7_any A B C P ca cb cc cp ns ps os p (n : Int) wr (HS.out _ HB.out) (HPp.out _ HB.out) HPL.out)
    have Hd : Hid (capsU ns ps p (n + 1) = capsU ns ps p n ++ capN ps p n x 5) := Lib.hid (by rw [capsU, HX.out])
    have hcl := capsU_len ns ps p n
    have Hc : Hid (∀ k, capC ps p n x k = (1, (n : Int), (k : Int), max 0 (wrap64 (addW ps (onU p (n : Int) p.length) k - x.cap k)))) := Lib.hid (fun k => rfl)
    clear hx
    generalize capsU ns ps p n = L at HO Hd hcl
    generalize addW ps (onU p (n : Int) p.length) = V at KU Hc
    go_wp2_with fail
    refine (KU.out).mono ?_
    rintro e w1 ⟨rfl, hb1⟩
    have HB1 := Lib.hid (HB.out.trans (hb1.mono HB.out.size))
    have HO1 := Lib.hid (La.own_below HO.out hb1)
    have N1 := Lib.hid (Blk.new w1 zer5 32)
    clear hb1 KU HO HB z0 z1 z2
    go_wp2_with (refine wpList_store_row rfl 32 (.tmp 7) (.tmp 19) rfl w1.heap.size zer5 rfl rfl 32 _ N1.out Qu.vec_size (by kernel_rfl) (by kernel_rfl) ?_)
    have D2 := Lib.hid (HB1.out.alloc HB1.out.size (.cells #[.int .i64 (V 0), .int .i64 (V 1), .int .i64 (V 2), .int .i64 (V 3), .int .i64 (V 4)] 32))
    have O2 : Hid ((w1.alloc (.cells #[.int .i64 (V 0), .int .i64 (V 1), .int .i64 (V 2), .int .i64 (V 3), .int .i64 (V 4)] 32)).ownsRow W.heap.size 47 4 u5 (L ++ capN ps p n x 0).length (cells4 (L ++ capN ps p n x 0))) := Lib.hid (by
      have := HO1.out.alloc (.cells #[.int .i64 (V 0), .int .i64 (V 1), .int .i64 (V 2), .int .i64 (V 3), .int .i64 (V 4)] 32)
      have e : L ++ capN ps p n x 0 = L := by simp [capN]
      rw [e]
      exact this)
    have R2 := Lib.hid (Qu.RowAt.new w1 V)
    generalize (w1.alloc (.cells #[.int .i64 (V 0), .int .i64 (V 1), .int .i64 (V 2), .int .i64 (V 3), .int .i64 (V 4)] 32)) = W2 at D2 O2 R2 ⊢
    generalize w1.heap.size = Vb at R2 ⊢
    clear HB1 HO1 N1
    go_wp2_with fail
    go_loopw [5, 8] (fun v i wq => ∃ k : Nat, k ≤ 5 ∧ i = .int .i64 k ∧ wq.ownsRow W.heap.size 47 4 v (L ++ capN ps p n x k).length (cells4 (L ++ capN ps p n x k)) ∧ Qu.RowAt wq Vb V ∧ Below W.heap.size W wq) (fun _ i _ => 5 - (intOf i).toNat)
    case atStart => exact ⟨0, by omega, rfl, O2.out, R2.out, D2.out⟩
    case round =>
      clear O2 R2 D2
      rename_i wq _
      obtain ⟨k, hk, rfl, ho, hr, hb⟩ := hrel
      have HO := Lib.hid ho
      have HR := Lib.hid hr
      have HB := Lib.hid hb
      clear ho hr hb
      by_cases hlk : k < 5
      case neg =>
        obtain rfl : k = 5 := by omega
        go_wp2_with fail
        go_roundw
        case rel => exact ⟨n + 1, by omega, by go_num, by rw [Hd.out]; exact HO.out, HB.out⟩
        case measure => simp [intOf]; omega
      obtain ⟨z0, z1, z2⟩ := HZ.out _ HB.out
      obtain ⟨b, o, hA, _⟩ := atN (HS.out _ HB.out).n.cells HX.out
      have cn := atN_cap (HS.out _ HB.out).n.cells hA HX.out k hlk
      subst hA
      have cu := HR.out.cell hlk
      have k0 : (0 : Int) ≤ (k : Int) := by omega
      have k1 : (k : Int) < 5 := by omega
      have hLl : (L ++ capN ps p n x k).length ≤ 5 * n + k := by rw [List.length_append, capN_len]; omega
      have HK : Hid (L ++ capN ps p n x (k + 1) = (L ++ capN ps p n x k) ++ [capC ps p n x k]) := Lib.hid (by rw [capN_succ, List.append_assoc])
      have HC := Lib.hid (Hc.out k)
      generalize capC ps p n x k = c at HK HC
      generalize L ++ capN ps p n x k = M at HO HK hLl
      have hon : Hid (World.ownsRow (wr.alloc (.cells #[.int .i64 1, .int .i64 (n : Int), .int .i64 (k : Int), .int .i64 (max 0 (IntKind.i64.wrap (V k - x.cap k)))] 47)).drew W.heap.size 47 4 u5 M.length (cells4 M)) := Lib.hid (show World.ownsRow _ _ _ _ _ _ _ from HO.out.alloc _)
      have hcl : Hid (∀ j u, ([.int .i64 1, .int .i64 (n : Int), .int .i64 (k : Int), .int .i64 (max 0 (IntKind.i64.wrap (V k - x.cap k)))] : List Value)[j]? = some u → World.cell? (wr.alloc (.cells #[.int .i64 1, .int .i64 (n : Int), .int .i64 (k : Int), .int .i64 (max 0 (IntKind.i64.wrap (V k - x.cap k)))] 47)).drew ((⟨wr.heap.size, 0, none⟩ : Addr).add j) = some u) := Lib.hid (by
        intro j u hj
        rw [WideShapes.add_plain, Nat.zero_add, ← hj, ← List.getElem?_toArray]
        exact Blk.cell (Blk.new wr _ _) j)
      have h1c : Hid (∀ u ∈ ([.int .i64 1, .int .i64 (n : Int), .int .i64 (k : Int), .int .i64 (max 0 (IntKind.i64.wrap (V k - x.cap k)))] : List Value), u.oneCell' = true) := Lib.hid (by
        intro u hu
        simp at hu
        rcases hu with rfl | rfl | rfl | rfl <;> rfl)
      have hmx : Hid (M.length + 1 ≤ maxLen) := Lib.hid (by unfold maxLen; omega)
      have hfit : Hid ((M.length + 1) * 32 ≤ 140737488355328) := Lib.hid (by omega)
      have hb9 : Hid (W.heap.size ≤ (wr.alloc (.cells #[.int .i64 1, .int .i64 (n : Int), .int .i64 (k : Int), .int .i64 (max 0 (IntKind.i64.wrap (V k - x.cap k)))] 47)).drew.heap.size) := Lib.hid (by have := HB.out.size; simp; omega)
      go_upto_region 9 with fail
      go_region_law (refine step_append_own rfl (.tmp 24) (.tmp 41) 48 rfl W.heap.size 47 i0 (.agg #[.int .i64 0, .int .i64 0, .int .i64 0, .int .i64 0]) 4 32 Tryz.underlying48 hi0 hz0 hz1 hz2 rfl (by decide) u5 M.length (cells4 M) rfl hon.out ⟨wr.heap.size, 0, none⟩ 1 1 [.int .i64 1, .int .i64 (n : Int), .int .i64 (k : Int), .int .i64 (max 0 (IntKind.i64.wrap (V k - x.cap k)))] rfl rfl hcl.out h1c.out hmx.out hfit.out hb9.out (fun v' w' hown' hgrow' => ?_))
      all_goals
        have P4 := Lib.hid hown'
        have D4 := Lib.hid ((HB.out.alloc HB.out.size (.cells #[.int .i64 1, .int .i64 (n : Int), .int .i64 (k : Int), .int .i64 (max 0 (IntKind.i64.wrap (V k - x.cap k)))] 47)).drew.grown hgrow' (by have := HB.out.size; simp; omega) (fun j hj => own_gem HO.out hj))
        have R4 : Hid (Qu.RowAt w' Vb V) := Lib.hid (Blk.kept (cs := #[.int .i64 (V 0), .int .i64 (V 1), .int .i64 (V 2), .int .i64 (V 3), .int .i64 (V 4)]) (t := 32) (Blk.drew (Blk.alloc (show Blk wr _ _ _ from HR.out) (.cells #[.int .i64 1, .int .i64 (n : Int), .int .i64 (k : Int), .int .i64 (max 0 (IntKind.i64.wrap (V k - x.cap k)))] 47))) hgrow' (fun e => by
          have he := e.symm
          rcases HO.out.2 with ⟨hv, _⟩ | ⟨g, cap, cur, hv, hbg, hg, _⟩
          · rw [hv] at he; cases he
          · rw [hv] at he
            simp only [Value.ownBlock, Option.some.injEq] at he
            subst he
            have h1 := HR.out
            unfold Qu.RowAt at h1
            rw [hg] at h1
            cases h1))
        clear hown' hgrow' hon hcl h1c hmx hfit hb9 z0 z1 z2 cn cu
        go_wp2_with fail
        go_roundw
        case rel =>
          refine ⟨k + 1, by omega, by go_num, ?_, R4.out, D4.out⟩
          rw [HK.out, List.length_append, cells4_snoc, HC.out]
          have e : IntKind.i64.wrap (V k - x.cap k) = wrap64 (V k - x.cap k) := IntWalk.i64_left _
          rw [← e]
          exact P4.out
        case measure => simp [intOf]; omega
end Go.Proofs.YtpdaohkpgconkaaGreat

namespace Go.Proofs.YtpdaohkpgconkaaGreat
open Go.RowKit

def isC (kd a b : Int) (c : ClT) : Bool := decide (c.1 = kd ∧ c.2.1 = a ∧ c.2.2.1 = b)
/-- By how much that clause of a list is broken. -/
def findC (l : List ClT) (kd a b : Int) : Option Int := (l.find? (isC kd a b)).map (·.2.2.2)
theorem findC_at {l : List ClT} {kd a b : Int} {k : Nat} {y : ClT} (hk : l[k]? = some y) (hy : isC kd a b y = true) (hn : ∀ (j : Nat) (z : ClT), j < k → l[j]? = some z → isC kd a b z = false) : findC l kd a b = some y.2.2.2 := by
  unfold findC
  induction l generalizing k with
  | nil => simp at hk
  | cons c t ih =>
    cases k with
    | zero =>
      simp only [List.getElem?_cons_zero, Option.some.injEq] at hk
      subst hk
      rw [List.find?_cons_of_pos hy]
      rfl
    | succ k =>
      rw [List.find?_cons_of_neg (by rw [hn 0 c (by omega) rfl]; simp)]
      exact ih (k := k) (by simpa using hk) (fun j z hj hz => hn (j + 1) z (by omega) (by simpa using hz))
theorem findC_no {l : List ClT} {kd a b : Int} (hn : ∀ (j : Nat) (z : ClT), l[j]? = some z → isC kd a b z = false) : findC l kd a b = none := by
  unfold findC
  have : l.find? (isC kd a b) = none := by
    rw [List.find?_eq_none]
    intro z hz
    obtain ⟨j, hj⟩ := List.mem_iff_getElem?.1 hz
    rw [hn j z hj]
    simp
  rw [this]
  rfl

end Go.Proofs.YtpdaohkpgconkaaGreat

namespace Go.Proofs.YtpdaohkpgconkaaGreat
open Go.RowKit

def brokC (c : ClT) : Bool := decide (0 < c.2.2.2)
theorem filt_snoc {l : List ClT} {k : Nat} {y : ClT} (f : ClT → Bool) (hy : l[k]? = some y) : (l.take (k + 1)).filter f = (l.take k).filter f ++ (if f y then [y] else []) := by
  rw [List.take_add_one, hy, List.filter_append]
  cases h : f y <;> simp [h]

end Go.Proofs.YtpdaohkpgconkaaGreat

namespace Go.Proofs.YtpdaohkpgconkaaGreat
open Go.RowKit

def podC (pod : Int) (c : ClT) : Bool := decide (2 ≤ c.1 ∧ c.1 ≤ 6 ∧ c.2.1 = pod)

end Go.Proofs.YtpdaohkpgconkaaGreat

namespace Go.Proofs.YtpdaohkpgconkaaGreat
open Go.RowKit

/-- Whether two nodes have the same value for a key. -/
def nearO (a b : NodeD) (key : List UInt8) : Bool := match valK a key, valK b key with
  | some u, some v => decide (u = v)
  | _, _ => false

set_option maxRecDepth 100000 in
set_option maxHeartbeats 2000000 in
theorem near_any (A B C : Option Addr) (ca cb cc : Nat) (ns : List NodeD) (ps : List PodD) (os : List OwnD) (a b : Nat) (xa xb : NodeD) (ha : ns[a]? = some xa) (hb : ns[b]? = some xb) (key : List UInt8) (w : World) (h : SnapAt w A B C ca cb cc ns ps os) :
    Calls Tryz.prog 134 #[snapV A B C ca cb cc ns ps os, .int .i64 (a : Int), .int .i64 (b : Int), strV key] w fun e w' => e = .returned (.bool (nearO xa xb key)) ∧ Below w.heap.size w w' := by
  have H := Lib.hid h
  have B0 : Hid (Below w.heap.size w (w.alloc (.cells (snapC A B C ca cb cc ns ps os) 26))) := Lib.hid (below1 w _)
  have S0 : Hid (Blk (w.alloc (.cells (snapC A B C ca cb cc ns ps os) 26)) w.heap.size (snapC A B C ca cb cc ns ps os) 26) := Lib.hid (Blk.new w _ _)
  have a0 : (0 : Int) ≤ (a : Int) := by omega
  have a1 : (a : Int) < (ns.length : Int) := by have := (List.getElem?_eq_some_iff.1 ha).1; omega
  have b0 : (0 : Int) ≤ (b : Int) := by omega
  have b1 : (b : Int) < (ns.length : Int) := by have := (List.getElem?_eq_some_iff.1 hb).1; omega
  have HA := Lib.hid ha
  have HBn := Lib.hid hb
  have KV := Lib.hid (fun W (hB : Below w.heap.size w W) (x : NodeD) (hx : x ∈ ns) => valueOf_any x key W ((h.below hB).n.fit x hx))
  have E : Hid (nearO xa xb key = match valK xa key, valK xb key with | some u, some v => decide (u = v) | _, _ => false) := Lib.hid rfl
  have K1 := Lib.hid (KV.out _ B0.out xa (List.mem_of_getElem? ha))
  have K2 := Lib.hid (fun W hB => KV.out W hB xb (List.mem_of_getElem? hb))
  generalize nearO xa xb key = R at E ⊢
  generalize valK xa key = VA at K1 E
  generalize valK xb key = VB at K2 E
  clear h ha hb KV
  go_enter Tryz.func134, Tryz.ntmps134
  obtain ⟨W, hW⟩ : ∃ W, (w.alloc (.cells (snapC A B C ca cb cc ns ps os) 26)) = W := ⟨_, rfl⟩
  rw [hW] at B0 S0 K1
  go_upto_region 1 with fail
  try rw [show (w.alloc (.cells #[.slice A ns.length ca, .slice B ps.length cb, .slice C os.length cc] 26)) = W from hW]
  clear hW
  have s0 : W.cell? ⟨w.heap.size, 0, none⟩ = some (.slice A ns.length ca) := Blk.cell S0.out 0
  obtain ⟨bn, on, hAn, hbl, c0, c1, c2, c3, c4, c5, c6, c7, c8, c9⟩ := atN (H.out.below B0.out).n.cells HA.out
  subst hAn
  go_wp2_with fail
  refine (K1.out).mono ?_
  rintro e w1 ⟨rfl, hb⟩
  have B1 := Lib.hid (B0.out.trans (hb.mono B0.out.size))
  have S1 := Lib.hid (S0.out.below hb S0.out.lt)
  have K3 := Lib.hid (K2.out _ B1.out)
  clear hb K1 K2 s0 c0 c1 c2 c3 c4 c5 c6 c7 c8 c9 S0
  have s0 : w1.cell? ⟨w.heap.size, 0, none⟩ = some (.slice (some ⟨bn, on, none⟩) ns.length ca) := Blk.cell S1.out 0
  obtain ⟨bn', on', hAn', hbl', c0, c1, c2, c3, c4, c5, c6, c7, c8, c9⟩ := atN (H.out.below B1.out).n.cells HBn.out
  cases hAn'
  cases VA with
  | none =>
    have HE : Hid (R = false) := E
    clear E
    go_wp2_with fail
    refine (K3.out).mono ?_
    rintro e w2 ⟨rfl, hb⟩
    have B2 := Lib.hid (B1.out.trans (hb.mono B1.out.size))
    clear hb K3 s0 c0 c1 c2 c3 c4 c5 c6 c7 c8 c9
    go_wp2
    go_ret
    exact ⟨La.retB HE.out.symm, B2.out⟩
  | some u =>
    go_wp2_with fail
    refine (K3.out).mono ?_
    rintro e w2 ⟨rfl, hb⟩
    have B2 := Lib.hid (B1.out.trans (hb.mono B1.out.size))
    clear hb K3 s0 c0 c1 c2 c3 c4 c5 c6 c7 c8 c9
    cases VB with
    | none =>
      have HE : Hid (R = false) := E
      clear E
      go_wp2
      go_ret
      exact ⟨La.retB HE.out.symm, B2.out⟩
    | some v =>
      have HE : Hid (R = decide (u = v)) := E
      clear E
      go_wp2
      go_ret
      exact ⟨La.retB (by rw [HE.out]; by_cases h : u = v <;> simp [h]), B2.out⟩

/-- Whether a pod counts near another one's node. -/
def aboutB (ns : List NodeD) (ps : List PodD) (p : List Int) (pod : Nat) (topo : List UInt8) (terms : List T3) (others : Bool) (i : Nat) : Bool := match p[i]?, p[pod]?, ps[i]? with
  | some x, some xp, some y => decide (0 ≤ x) && !(others && decide (i = pod)) && (match ns[x.toNat]?, ns[xp.toNat]? with | some a, some b => nearO a b topo | _, _ => false) && holdsO terms y.labels
  | _, _, _ => false
def aboutU (ns : List NodeD) (ps : List PodD) (p : List Int) (pod : Nat) (topo : List UInt8) (terms : List T3) (others : Bool) : Nat → Nat
  | 0 => 0
  | k + 1 => aboutU ns ps p pod topo terms others k + (if aboutB ns ps p pod topo terms others k then 1 else 0)
theorem aboutU_le (ns : List NodeD) (ps : List PodD) (p : List Int) (pod : Nat) (topo : List UInt8) (terms : List T3) (others : Bool) : ∀ k, aboutU ns ps p pod topo terms others k ≤ k
  | 0 => Nat.le_refl _
  | k + 1 => by
    have := aboutU_le ns ps p pod topo terms others k
    rw [aboutU]
    split <;> omega
end Go.Proofs.YtpdaohkpgconkaaGreat

namespace Go.Proofs.YtpdaohkpgconkaaGreat
open Go.RowKit

set_option maxRecDepth 100000 in
set_option maxHeartbeats 8000000 in
theorem about_any (A B C P AT : Option Addr) (ca cb cc cp ct : Nat) (ns : List NodeD) (ps : List PodD) (os : List OwnD) (p : List Int) (pod qp : Nat) (topo : List UInt8) (terms : List T3) (others : Bool) (w : World) (h : SnapAt w A B C ca cb cc ns ps os) (hp : IntsAt w P cp p) (hE : placeE ns ps os p = 0) (hpod : p[pod]? = some (qp : Int)) (hT : La.SlAt w AT (La.cellsT terms)) (hTl : terms.length ≤ 9223372036854775807) :
    Calls Tryz.prog 98 #[snapV A B C ca cb cc ns ps os, .slice P p.length cp, .int .i64 (pod : Int), .agg #[strV topo, .slice AT terms.length ct], .bool others] w fun e w' => e = .returned (.int .i64 (aboutU ns ps p pod topo terms others p.length : Int)) ∧ Below w.heap.size w w' := by
  have hlp := h.lp
  have HPL := Lib.hid (placeE_len hE)
  have HON : Hid (∀ (k : Nat) (x : Int), p[k]? = some x → x ≠ -1 → ∃ q : Nat, x = (q : Int) ∧ q < ns.length) := Lib.hid (fun k x hk hx => tpB_lt (placeE_on hE hk hx))
  obtain ⟨bp, op, hAp, _, _⟩ := atI hp.cells hpod
  subst hAp
  have hpl := (List.getElem?_eq_some_iff.1 hpod).1
  obtain ⟨y0, hy0⟩ : ∃ y, ps[pod]? = some y := ⟨ps[pod]'(by have := HPL.out; omega), List.getElem?_eq_getElem _⟩
  obtain ⟨b, o, hA, _⟩ := atP h.p.cells hy0
  subst hA
  obtain ⟨qp', e', hqp⟩ := HON.out pod _ hpod (by omega)
  have e' : qp = qp' := by omega
  subst e'
  obtain ⟨xb, hxb⟩ : ∃ x, ns[qp]? = some x := ⟨ns[qp], List.getElem?_eq_getElem hqp⟩
  have HXB := Lib.hid hxb
  have HPod := Lib.hid hpod
  have B0 : Hid (Below w.heap.size w ((w.alloc (.cells (snapC A (some ⟨b, o, none⟩) C ca cb cc ns ps os) 26)).alloc (.cells #[strV topo, .slice AT terms.length ct] 41))) := Lib.hid (Qu.below2 w _ _)
  have S0 : Hid (Blk ((w.alloc (.cells (snapC A (some ⟨b, o, none⟩) C ca cb cc ns ps os) 26)).alloc (.cells #[strV topo, .slice AT terms.length ct] 41)) w.heap.size (snapC A (some ⟨b, o, none⟩) C ca cb cc ns ps os) 26) := Lib.hid (Blk.alloc (Blk.new w _ _) _)
  have N0 : Hid (Blk ((w.alloc (.cells (snapC A (some ⟨b, o, none⟩) C ca cb cc ns ps os) 26)).alloc (.cells #[strV topo, .slice AT terms.length ct] 41)) (w.heap.size + 1) #[strV topo, .slice AT terms.length ct] 41) := Lib.hid (blk2 w _ _ _)
  have HT0 := Lib.hid (hT.below B0.out)
  have HS0 := Lib.hid (h.below B0.out)
  have HP0 := Lib.hid (hp.below B0.out)
  have q0 : (0 : Int) ≤ (pod : Int) := by omega
  have q1 : (pod : Int) < (p.length : Int) := by omega
  clear h hp hE hpod hT hy0 hxb hqp
  go_enter Tryz.func98, Tryz.ntmps98
  go_wp2_with fail
  change Code.wp _ _ _ _ ((w.alloc (.cells (snapC A (some ⟨b, o, none⟩) C ca cb cc ns ps os) 26)).alloc (.cells #[strV topo, .slice AT terms.length ct] 41))
  generalize ((w.alloc (.cells (snapC A (some ⟨b, o, none⟩) C ca cb cc ns ps os) 26)).alloc (.cells #[strV topo, .slice AT terms.length ct] 41)) = W at B0 S0 N0 HT0 HS0 HP0 ⊢
  have HZ := Lib.hid (fun W' (hb : Below W.heap.size W W') => (show W'.cell? ⟨w.heap.size, 0, none⟩ = some (.slice A ns.length ca) ∧ W'.cell? ⟨w.heap.size, 1, none⟩ = some (.slice (some ⟨b, o, none⟩) ps.length cb) ∧ W'.cell? ⟨w.heap.size, 2, none⟩ = some (.slice C os.length cc) ∧ W'.cell? ⟨w.heap.size + 1, 0, none⟩ = some (strV topo) ∧ W'.cell? ⟨w.heap.size + 1, 1, none⟩ = some (.slice AT terms.length ct) from ⟨Blk.cell (S0.out.below hb S0.out.lt) 0, Blk.cell (S0.out.below hb S0.out.lt) 1, Blk.cell (S0.out.below hb S0.out.lt) 2, Blk.cell (N0.out.below hb N0.out.lt) 0, Blk.cell (N0.out.below hb N0.out.lt) 1⟩))
  have HSN := Lib.hid (fun W' (hb : Below W.heap.size W W') => HS0.out.below hb)
  have HTM := Lib.hid (fun W' (hb : Below W.heap.size W W') => HT0.out.below hb)
  have HW := Lib.hid (fun W' (hb : Below W.heap.size W W') => B0.out.trans (hb.mono B0.out.size))
  have HPC : Hid (∀ W', Below W.heap.size W W' → ∀ (k : Nat) (x : Int), p[k]? = some x → W'.cell? ⟨bp, op + k, none⟩ = some (.int .i64 x)) := Lib.hid (fun W' hb k x hx => by
    obtain ⟨b', o', hA', _, hc⟩ := atI (HP0.out.below hb).cells hx
    cases hA'
    exact hc)
  have HYC : Hid (∀ W', Below W.heap.size W W' → ∀ (k : Nat) (y : PodD), ps[k]? = some y → W'.cell? ⟨b, o + k * 15 + 7, none⟩ = some (.slice y.al y.labels.length y.cl)) := Lib.hid (fun W' hb k y hy => by
    obtain ⟨b', o', hA', _, c0, c1, c2, c3, c4, c5, c6, c7, _⟩ := atP (HS0.out.below hb).p.cells hy
    cases hA'
    exact c7)
  clear B0 S0 N0 HT0 HS0 HP0
  go_loopw [11, 12] (fun n i wr => ∃ k : Nat, k ≤ p.length ∧ i = .int .i64 k ∧ n = .int .i64 (aboutU ns ps p pod topo terms others k : Int) ∧ Below W.heap.size W wr) (fun _ i _ => p.length - (intOf i).toNat)
  case atStart => exact ⟨0, by omega, rfl, rfl, Below.refl _ _⟩
  case round =>
    obtain ⟨k, hk, rfl, rfl, hb⟩ := hrel
    have HB := Lib.hid hb
    clear hb
    by_cases hlt : k < p.length
    case neg =>
      obtain rfl : k = p.length := by omega
      have D := Lib.hid (HW.out _ HB.out)
      go_wp2
      go_ret
      exact ⟨rfl, D.out⟩
    obtain ⟨x, hx⟩ : ∃ x, p[k]? = some x := ⟨p[k], List.getElem?_eq_getElem hlt⟩
    obtain ⟨y, hy⟩ : ∃ y, ps[k]? = some y := ⟨ps[k]'(by have := HPL.out; omega), List.getElem?_eq_getElem _⟩
    have HX := Lib.hid hx
    have HY := Lib.hid hy
    have Hd : Hid (aboutU ns ps p pod topo terms others (k + 1) = aboutU ns ps p pod topo terms others k + (if aboutB ns ps p pod topo terms others k then 1 else 0)) := Lib.hid rfl
    have Hb : Hid (aboutB ns ps p pod topo terms others k = (decide (0 ≤ x) && !(others && decide (k = pod)) && (match ns[x.toNat]? with | some a => nearO a xb topo | none => false) && holdsO terms y.labels)) := Lib.hid (by
      unfold aboutB
      rw [HX.out, HPod.out, HY.out]
      dsimp only
      rw [Int.toNat_natCast, HXB.out]
      cases ns[x.toNat]? <;> rfl)
    have hal := aboutU_le ns ps p pod topo terms others k
    have k0 : (0 : Int) ≤ (k : Int) := by omega
    have k1 : (k : Int) < (p.length : Int) := by omega
    have k2 : (k : Int) < (ps.length : Int) := by have := HPL.out; omega
    clear hx hy
    generalize aboutU ns ps p pod topo terms others k = M at Hd hal ⊢
    generalize aboutB ns ps p pod topo terms others k = T at Hd Hb
    have hwm : IntKind.i64.wrap ((M : Int) + 1) = (M : Int) + 1 := IntWalk.i64_in _ (by have := HPL.out; omega)
    have pk := HPC.out _ HB.out k x HX.out
    have pq := HPC.out _ HB.out pod _ HPod.out
    obtain ⟨z0, z1, z2, n0, n1⟩ := HZ.out _ HB.out
    by_cases hxn : x = -1
    case pos =>
      subst hxn
      have HE : Hid (aboutU ns ps p pod topo terms others (k + 1) = M) := Lib.hid (by rw [Hd.out, Hb.out]; simp)
      have e1 : (-1 : Int) < 0 := by omega
      clear Hd Hb
      go_wp2_with fail
      go_region
      go_wp2_with fail
      go_roundw
      case rel => exact ⟨k + 1, by omega, by go_num, by rw [HE.out], HB.out.drew⟩
      case measure => simp [intOf]; omega
    obtain ⟨q, rfl, hq⟩ := HON.out k x HX.out hxn
    obtain ⟨xa, hxa⟩ : ∃ x, ns[q]? = some x := ⟨ns[q], List.getElem?_eq_getElem hq⟩
    have Hb2 : Hid (T = (!(others && decide (k = pod)) && nearO xa xb topo && holdsO terms y.labels)) := Lib.hid (by
      rw [Hb.out, Int.toNat_natCast, hxa, decide_eq_true (by omega : (0 : Int) ≤ (q : Int))]
      simp)
    have KN := Lib.hid (fun W' (hb : Below W.heap.size W W') => near_any A (some ⟨b, o, none⟩) C ca cb cc ns ps os q qp xa xb hxa HXB.out topo W' (HSN.out W' hb))
    have KH := Lib.hid (fun W' (hb : Below W.heap.size W W') => holdsR_any AT y.al ct y.cl terms y.labels W' hTl (by have := (HSN.out W' hb).p.fit y (List.mem_of_getElem? HY.out); exact Nat.le_trans this.l.le this.l.most) (HTM.out W' hb) ((HSN.out W' hb).p.fit y (List.mem_of_getElem? HY.out)).l.cells)
    have e1 : ¬ ((q : Int) < 0) := by omega
    clear Hb hxa
    generalize nearO xa xb topo = NB at KN Hb2
    generalize holdsO terms y.labels = HBo at KH Hb2
    by_cases hskip : others = true ∧ k = pod
    case pos =>
      obtain ⟨rfl, hkp⟩ := hskip
      have HE : Hid (aboutU ns ps p pod topo terms true (k + 1) = M) := Lib.hid (by rw [Hd.out, Hb2.out, decide_eq_true hkp]; simp)
      have e2 : ((k : Int) == (pod : Int)) = true := by simp [hkp]
      have e3 : (k == pod) = true := by simp [hkp]
      have e4 : decide (k = pod) = true := decide_eq_true hkp
      have e5 : (k : Int) = (pod : Int) := by omega
      clear Hd Hb2 KN KH
      subst hkp
      clear e3 e4 e5
      go_upto_region 5 with fail
      go_quiet (fail)
      go_wp2_with fail
      go_roundw
      case rel => exact ⟨k + 1, by omega, by go_num, by rw [HE.out], below_drewN HB.out _⟩
      case measure => simp [intOf]; omega
    have Hb3 : Hid (T = (NB && HBo)) := Lib.hid (by
      rw [Hb2.out]
      cases others with
      | false => simp
      | true => rw [decide_eq_false (fun h => hskip ⟨rfl, h⟩)]; simp)
    have e2 : others = true → ((k : Int) == (pod : Int)) = false := fun h => by
      have : k ≠ pod := fun hh => hskip ⟨h, hh⟩
      simp; omega
    have HPk : Hid (∀ W', Below W.heap.size W W' → W'.cell? ⟨bp, op + k, none⟩ = some (.int .i64 (q : Int))) := Lib.hid (fun W' hb => HPC.out W' hb k _ HX.out)
    have HPq : Hid (∀ W', Below W.heap.size W W' → W'.cell? ⟨bp, op + pod, none⟩ = some (.int .i64 (qp : Int))) := Lib.hid (fun W' hb => HPC.out W' hb pod _ HPod.out)
    have HYk : Hid (∀ W', Below W.heap.size W W' → W'.cell? ⟨b, o + k * 15 + 7, none⟩ = some (.slice y.al y.labels.length y.cl)) := Lib.hid (fun W' hb => HYC.out W' hb k y HY.out)
    clear Hb2 hskip z0 z1 z2 n0 n1 pk pq
    have HB : Hid (Below W.heap.size W wr.drew) := Lib.hid HB.out.drew
    obtain ⟨z0, z1, z2, n0, n1⟩ := HZ.out _ HB.out
    have pk := HPk.out _ HB.out
    have pq := HPq.out _ HB.out
    go_upto_region 5 with fail
    go_cut [46] (fun v wc => v = .bool (!NB) ∧ Below W.heap.size W wc)
    case first =>
      cases others with
      | false =>
          clear e2
          go_still_tail 25, (by kernel_rfl)
          change wpList _ _ _ _ _ wr.drew
          go_wp2_with fail
          refine (KN.out _ HB.out).mono ?_
          rintro e wA ⟨rfl, hbA⟩
          have HB := Lib.hid (HB.out.trans (hbA.mono HB.out.size))
          clear hbA
          go_wp2_with fail
          go_meet
          exact ⟨by first | rfl | trivial, HB.out⟩
      | true =>
          have e2 := e2 rfl
          have e3 : ¬ k = pod := fun h => by simp [h] at e2
          have e4 : (k == pod) = false := by simpa using e3
          have e5 : decide (k = pod) = false := decide_eq_false e3
          have e6 : ¬ (k : Int) = (pod : Int) := by omega
          go_still_tail 25, (by kernel_rfl)
          change wpList _ _ _ _ _ wr.drew
          go_wp2_with fail
          refine (KN.out _ HB.out).mono ?_
          rintro e wA ⟨rfl, hbA⟩
          have HB := Lib.hid (HB.out.trans (hbA.mono HB.out.size))
          clear hbA
          go_wp2_with fail
          go_meet
          exact ⟨by first | rfl | trivial, HB.out⟩
    case rest =>
      obtain ⟨rfl, hbc⟩ := hcut
      clear HB z0 z1 z2 n0 n1 pk pq e2
      have HBC := Lib.hid hbc
      clear hbc
      cases NB with
      | false =>
        have HE : Hid (aboutU ns ps p pod topo terms others (k + 1) = M) := Lib.hid (by rw [Hd.out, Hb3.out]; simp)
        clear Hd Hb3
        go_wp2_with fail
        go_roundw
        case rel => exact ⟨k + 1, by omega, by go_num, by rw [HE.out], HBC.out⟩
        case measure => simp [intOf]; omega
      | true =>
        have HE : Hid (aboutU ns ps p pod topo terms others (k + 1) = M + (if HBo then 1 else 0)) := Lib.hid (by rw [Hd.out, Hb3.out]; simp)
        clear Hd Hb3
        have HB : Hid (Below W.heap.size W wc.drew) := Lib.hid HBC.out.drew
        obtain ⟨z0, z1, z2, n0, n1⟩ := HZ.out _ HB.out
        have yk := HYk.out _ HB.out
        go_upto_region 6 with fail
        go_still_tail 8, (by kernel_rfl)
        change wpList _ _ _ _ _ wc.drew
        go_wp2_with fail
        refine (KH.out _ HB.out).mono ?_
        rintro e wA ⟨rfl, hbA⟩
        have HB := Lib.hid (HB.out.trans (hbA.mono HB.out.size))
        clear hbA
        all_goals
          cases HBo with
          | true =>
            go_wp2_with fail
            go_roundw
            case rel => exact ⟨k + 1, by omega, by go_num, by rw [HE.out]; simp, HB.out⟩
            case measure => simp [intOf]; omega
          | false =>
            go_wp2_with fail
            go_roundw
            case rel => exact ⟨k + 1, by omega, by go_num, by rw [HE.out]; simp, HB.out⟩
            case measure => simp [intOf]; omega
end Go.Proofs.YtpdaohkpgconkaaGreat

namespace Go.Proofs.YtpdaohkpgconkaaGreat
open Go.RowKit

/-- By how much a clause about a pod is broken; none: there is none. -/
def ofU (ns : List NodeD) (ps : List PodD) (os : List OwnD) (p : List Int) (kind i : Nat) : Option Nat := match p[i]?, ps[i]? with
  | some q, some x => if q < 0 then none else match ns[q.toNat]? with
    | some n => if kind = 2 then some (termsO x.whr n.labels) else if kind = 3 then some (taintsO n.taints x.bears)
      else if kind = 4 then (if x.wt = [] then none else some (1 - aboutU ns ps p i x.wt x.wtm false p.length))
      else if kind = 5 then (if x.ap = [] then none else some (aboutU ns ps p i x.ap x.apm true p.length))
      else if x.owner = [] then none else if singleO os x.owner then some (doubU ps p i p.length) else none
    | none => none
  | _, _ => none
theorem ofU_at {ns : List NodeD} {ps : List PodD} {os : List OwnD} {p : List Int} {kind i q : Nat} {x : PodD} {n : NodeD} (hi : p[i]? = some (q : Int)) (hx : ps[i]? = some x) (hn : ns[q]? = some n) : ofU ns ps os p kind i = if kind = 2 then some (termsO x.whr n.labels) else if kind = 3 then some (taintsO n.taints x.bears)
      else if kind = 4 then (if x.wt = [] then none else some (1 - aboutU ns ps p i x.wt x.wtm false p.length))
      else if kind = 5 then (if x.ap = [] then none else some (aboutU ns ps p i x.ap x.apm true p.length))
      else if x.owner = [] then none else if singleO os x.owner then some (doubU ps p i p.length) else none := by
  unfold ofU
  rw [hi, hx]
  dsimp only
  rw [if_neg (by omega), Int.toNat_natCast, hn]
theorem ofU_wait {ns : List NodeD} {ps : List PodD} {os : List OwnD} {p : List Int} {kind i : Nat} (hi : p[i]? = some (-1)) : ofU ns ps os p kind i = none := by
  unfold ofU
  rw [hi]
  cases ps[i]? with
  | none => rfl
  | some x =>
    dsimp only
    rw [if_pos (by omega)]

/-- The clause of a pod, in a list. -/
def podR (ns : List NodeD) (ps : List PodD) (os : List OwnD) (p : List Int) (kind i : Nat) : List ClT := match ofU ns ps os p kind i with
  | some b => [((kind : Int), (i : Int), 0, (b : Int))]
  | none => []
def podsU (ns : List NodeD) (ps : List PodD) (os : List OwnD) (p : List Int) (kind : Nat) : Nat → List ClT
  | 0 => []
  | i + 1 => podsU ns ps os p kind i ++ podR ns ps os p kind i
/-- The kinds of 2 on, so many. -/
def kindsU (ns : List NodeD) (ps : List PodD) (os : List OwnD) (p : List Int) : Nat → List ClT
  | 0 => []
  | k + 1 => kindsU ns ps os p k ++ podsU ns ps os p (k + 2) p.length
def spreadR (ns : List NodeD) (ps : List PodD) (os : List OwnD) (p : List Int) (i : Nat) : List ClT := match os[i]? with
  | some o => if o.topo = [] then [] else [(7, (i : Int), 0, skewO (spreadF ns ps os p (i : Int)) o.skew)]
  | none => []
def spreadsU (ns : List NodeD) (ps : List PodD) (os : List OwnD) (p : List Int) : Nat → List ClT
  | 0 => []
  | i + 1 => spreadsU ns ps os p i ++ spreadR ns ps os p i
def minR (ns : List NodeD) (ps : List PodD) (os : List OwnD) (p : List Int) (i : Nat) : List ClT := match os[i]? with
  | some o => [(8, (i : Int), 0, max 0 (wrap64 (o.min - placedF ns ps os p (i : Int))))]
  | none => []
def minsU (ns : List NodeD) (ps : List PodD) (os : List OwnD) (p : List Int) : Nat → List ClT
  | 0 => []
  | i + 1 => minsU ns ps os p i ++ minR ns ps os p i
/-- All clauses of a placement that may be. -/
def allU (ns : List NodeD) (ps : List PodD) (os : List OwnD) (p : List Int) : List ClT := capsU ns ps p ns.length ++ kindsU ns ps os p 5 ++ spreadsU ns ps os p os.length ++ minsU ns ps os p os.length
/-- What All tells: nothing, where the placement may not be. -/
def all8 (ns : List NodeD) (ps : List PodD) (os : List OwnD) (p : List Int) : List ClT := if placeE ns ps os p = 0 then allU ns ps os p else []

theorem podR_len (ns : List NodeD) (ps : List PodD) (os : List OwnD) (p : List Int) (kind i : Nat) : (podR ns ps os p kind i).length ≤ 1 := by
  unfold podR
  split <;> simp
theorem podsU_len (ns : List NodeD) (ps : List PodD) (os : List OwnD) (p : List Int) (kind : Nat) : ∀ i, (podsU ns ps os p kind i).length ≤ i
  | 0 => Nat.le_refl _
  | i + 1 => by
    have := podsU_len ns ps os p kind i
    have := podR_len ns ps os p kind i
    rw [podsU, List.length_append]
    omega
theorem kindsU_len (ns : List NodeD) (ps : List PodD) (os : List OwnD) (p : List Int) : ∀ k, (kindsU ns ps os p k).length ≤ k * p.length
  | 0 => by simp [kindsU]
  | k + 1 => by
    have := kindsU_len ns ps os p k
    have := podsU_len ns ps os p (k + 2) p.length
    rw [kindsU, List.length_append, Nat.succ_mul]
    omega
theorem spreadR_len (ns : List NodeD) (ps : List PodD) (os : List OwnD) (p : List Int) (i : Nat) : (spreadR ns ps os p i).length ≤ 1 := by
  unfold spreadR
  split
  · split <;> simp
  · simp
theorem spreadsU_len (ns : List NodeD) (ps : List PodD) (os : List OwnD) (p : List Int) : ∀ i, (spreadsU ns ps os p i).length ≤ i
  | 0 => Nat.le_refl _
  | i + 1 => by
    have := spreadsU_len ns ps os p i
    have := spreadR_len ns ps os p i
    rw [spreadsU, List.length_append]
    omega
theorem minsU_len (ns : List NodeD) (ps : List PodD) (os : List OwnD) (p : List Int) : ∀ i, (minsU ns ps os p i).length ≤ i
  | 0 => Nat.le_refl _
  | i + 1 => by
    have := minsU_len ns ps os p i
    rw [minsU, List.length_append]
    unfold minR
    split <;> simp <;> omega
theorem allU_len (ns : List NodeD) (ps : List PodD) (os : List OwnD) (p : List Int) : (allU ns ps os p).length ≤ 5 * ns.length + 5 * p.length + 2 * os.length := by
  have := capsU_len ns ps p ns.length
  have := kindsU_len ns ps os p 5
  have := spreadsU_len ns ps os p os.length
  have := minsU_len ns ps os p os.length
  unfold allU
  simp only [List.length_append]
  omega
theorem all8_len (ns : List NodeD) (ps : List PodD) (os : List OwnD) (p : List Int) : (all8 ns ps os p).length ≤ 5 * ns.length + 5 * p.length + 2 * os.length := by
  unfold all8
  split
  · exact allU_len ns ps os p
  · simp

/-- What a clause is about, by the program's words. -/
inductive Sub
  | node (n q : Nat)
  | pod (i : Nat)
  | owner (o : Nat)
def Sub.a : Sub → Nat
  | .node n _ => n
  | .pod i => i
  | .owner o => o
def Sub.b : Sub → Nat
  | .node _ q => q
  | _ => 0
def nodesS : Nat → List Sub
  | 0 => []
  | n + 1 => nodesS n ++ (List.range 5).map (Sub.node n)
def podS (p : List Int) (i : Nat) : List Sub := if p[i]? = some (-1) then [] else [.pod i]
def podsS (p : List Int) : Nat → List Sub
  | 0 => []
  | i + 1 => podsS p i ++ podS p i
def ownersS : Nat → List Sub
  | 0 => []
  | o + 1 => ownersS o ++ [.owner o]
def subsU (ns : List NodeD) (os : List OwnD) (p : List Int) : List Sub := nodesS ns.length ++ podsS p p.length ++ ownersS os.length
/-- By how much the clause of a kind about a subject is broken; none: there is none. -/
def byU (ns : List NodeD) (ps : List PodD) (os : List OwnD) (p : List Int) (kind : Nat) : Sub → Option Int
  | .node n q => if kind = 1 then (match ns[n]? with | some x => some (max 0 (wrap64 (addW ps (onU p (n : Int) p.length) q - x.cap q))) | none => none) else none
  | .pod i => if 2 ≤ kind ∧ kind ≤ 6 then (ofU ns ps os p kind i).map (fun b => (b : Int)) else none
  | .owner o => if kind = 7 then (match os[o]? with | some x => if x.topo = [] then none else some (skewO (spreadF ns ps os p (o : Int)) x.skew) | none => none) else if kind = 8 then (match os[o]? with | some x => some (max 0 (wrap64 (x.min - placedF ns ps os p (o : Int)))) | none => none) else none
def clauseK (ns : List NodeD) (ps : List PodD) (os : List OwnD) (p : List Int) (kind : Nat) (s : Sub) : Option ClT := (byU ns ps os p kind s).map fun b => ((kind : Int), (s.a : Int), (s.b : Int), b)
def lookK (ns : List NodeD) (ps : List PodD) (os : List OwnD) (p : List Int) : Nat → List ClT
  | 0 => []
  | k + 1 => lookK ns ps os p k ++ (subsU ns os p).filterMap (clauseK ns ps os p (k + 1))

theorem nodes_no {f : Sub → Option ClT} (h : ∀ n q, f (.node n q) = none) : ∀ k, (nodesS k).filterMap f = []
  | 0 => rfl
  | k + 1 => by
    rw [nodesS, List.filterMap_append, nodes_no h k, List.nil_append, List.filterMap_eq_nil_iff]
    intro s hs
    obtain ⟨q, _, rfl⟩ := List.mem_map.1 hs
    exact h k q
theorem pods_no {f : Sub → Option ClT} (p : List Int) (h : ∀ i, f (.pod i) = none) : ∀ k, (podsS p k).filterMap f = []
  | 0 => rfl
  | k + 1 => by
    rw [podsS, List.filterMap_append, pods_no p h k, List.nil_append, podS]
    split
    · rfl
    · simp [h]
theorem owners_no {f : Sub → Option ClT} (h : ∀ o, f (.owner o) = none) : ∀ k, (ownersS k).filterMap f = []
  | 0 => rfl
  | k + 1 => by
    rw [ownersS, List.filterMap_append, owners_no h k, List.nil_append]
    simp [h]
theorem caps_are (ns : List NodeD) (ps : List PodD) (os : List OwnD) (p : List Int) : ∀ k, k ≤ ns.length → (nodesS k).filterMap (clauseK ns ps os p 1) = capsU ns ps p k
  | 0, _ => rfl
  | k + 1, h => by
    obtain ⟨x, hx⟩ : ∃ x, ns[k]? = some x := ⟨ns[k], List.getElem?_eq_getElem h⟩
    rw [nodesS, List.filterMap_append, caps_are ns ps os p k (by omega), capsU, hx]
    congr 1
    dsimp only
    unfold capN
    rw [List.filterMap_map, ← List.filterMap_eq_map]
    congr 1
    funext q
    simp [clauseK, byU, hx, capC, Sub.a, Sub.b]
theorem pods_are (ns : List NodeD) (ps : List PodD) (os : List OwnD) (p : List Int) (kind : Nat) (h2 : 2 ≤ kind) (h6 : kind ≤ 6) : ∀ k, (podsS p k).filterMap (clauseK ns ps os p kind) = podsU ns ps os p kind k
  | 0 => rfl
  | k + 1 => by
    rw [podsS, List.filterMap_append, pods_are ns ps os p kind h2 h6 k, podsU]
    congr 1
    unfold podS podR
    by_cases hw : p[k]? = some (-1)
    · rw [if_pos hw, ofU_wait hw]
      rfl
    · rw [if_neg hw]
      cases hq : ofU ns ps os p kind k <;> simp [clauseK, byU, h2, h6, hq, Sub.a, Sub.b]
theorem spreads_are (ns : List NodeD) (ps : List PodD) (os : List OwnD) (p : List Int) : ∀ k, (ownersS k).filterMap (clauseK ns ps os p 7) = spreadsU ns ps os p k
  | 0 => rfl
  | k + 1 => by
    rw [ownersS, List.filterMap_append, spreads_are ns ps os p k, spreadsU]
    congr 1
    unfold spreadR
    cases ho : os[k]? with
    | none => simp [clauseK, byU, ho]
    | some o =>
      by_cases ht : o.topo = []
      · simp [clauseK, byU, ho, ht]
      · simp [clauseK, byU, ho, ht, Sub.a, Sub.b]
theorem mins_are (ns : List NodeD) (ps : List PodD) (os : List OwnD) (p : List Int) : ∀ k, (ownersS k).filterMap (clauseK ns ps os p 8) = minsU ns ps os p k
  | 0 => rfl
  | k + 1 => by
    rw [ownersS, List.filterMap_append, mins_are ns ps os p k, minsU]
    congr 1
    unfold minR
    cases ho : os[k]? with
    | none => simp [clauseK, byU, ho]
    | some o => simp [clauseK, byU, ho, Sub.a, Sub.b]
/-- Subject by subject it is the same list. -/
theorem look_is (ns : List NodeD) (ps : List PodD) (os : List OwnD) (p : List Int) : lookK ns ps os p 8 = allU ns ps os p := by
  have h1 : (subsU ns os p).filterMap (clauseK ns ps os p 1) = capsU ns ps p ns.length := by
    unfold subsU
    rw [List.filterMap_append, List.filterMap_append, caps_are ns ps os p _ (Nat.le_refl _), pods_no p (fun i => by simp [clauseK, byU]), owners_no (fun i => by simp [clauseK, byU]), List.append_nil, List.append_nil]
  have h2 : ∀ kind, 2 ≤ kind → kind ≤ 6 → (subsU ns os p).filterMap (clauseK ns ps os p kind) = podsU ns ps os p kind p.length := fun kind a b => by
    have a1 : kind ≠ 1 := by omega
    have a7 : kind ≠ 7 := by omega
    have a8 : kind ≠ 8 := by omega
    unfold subsU
    rw [List.filterMap_append, List.filterMap_append, nodes_no (fun n q => by simp [clauseK, byU, a1]), pods_are ns ps os p kind a b, owners_no (fun i => by simp [clauseK, byU, a7, a8]), List.append_nil, List.nil_append]
  have h7 : (subsU ns os p).filterMap (clauseK ns ps os p 7) = spreadsU ns ps os p os.length := by
    unfold subsU
    rw [List.filterMap_append, List.filterMap_append, nodes_no (fun n q => by simp [clauseK, byU]), pods_no p (fun i => by simp [clauseK, byU]), spreads_are, List.append_nil, List.nil_append]
  have h8 : (subsU ns os p).filterMap (clauseK ns ps os p 8) = minsU ns ps os p os.length := by
    unfold subsU
    rw [List.filterMap_append, List.filterMap_append, nodes_no (fun n q => by simp [clauseK, byU]), pods_no p (fun i => by simp [clauseK, byU]), mins_are, List.append_nil, List.nil_append]
  simp only [lookK, List.nil_append]
  rw [h1, h2 2 (by omega) (by omega), h2 3 (by omega) (by omega), h2 4 (by omega) (by omega), h2 5 (by omega) (by omega), h2 6 (by omega) (by omega), h7, h8]
  unfold allU
  simp only [kindsU, List.nil_append, List.append_assoc]
end Go.Proofs.YtpdaohkpgconkaaGreat

namespace Go.Proofs.YtpdaohkpgconkaaGreat
open Go.RowKit

/-- A subject, as a value. -/
def subV : Sub → Value
  | .node n q => .iface 132 (.agg #[.int .i64 (n : Int), .int .i64 (q : Int)])
  | .pod i => .iface 134 (.agg #[.int .i64 (i : Int)])
  | .owner o => .iface 136 (.agg #[.int .i64 (o : Int)])
theorem su_info : (Tryz.prog.info? 111).map (fun i => (i.zero, i.size, i.bytes)) = some (some .nilIface, 1, 16) := by kernel_rfl
theorem nodesS_len : ∀ k, (nodesS k).length = 5 * k
  | 0 => rfl
  | k + 1 => by
    rw [nodesS, List.length_append, nodesS_len k]
    simp
    omega
theorem podsS_len (p : List Int) : ∀ k, (podsS p k).length ≤ k
  | 0 => Nat.le_refl _
  | k + 1 => by
    have := podsS_len p k
    rw [podsS, List.length_append]
    unfold podS
    split <;> simp <;> omega
theorem ownersS_len : ∀ k, (ownersS k).length = k
  | 0 => rfl
  | k + 1 => by
    rw [ownersS, List.length_append, ownersS_len k]
    rfl
theorem subsU_len (ns : List NodeD) (os : List OwnD) (p : List Int) : (subsU ns os p).length ≤ 5 * ns.length + p.length + os.length := by
  have := nodesS_len ns.length
  have := podsS_len p p.length
  have := ownersS_len os.length
  unfold subsU
  simp only [List.length_append]
  omega
theorem qs_succ (n k : Nat) : (List.range (k + 1)).map (Sub.node n) = (List.range k).map (Sub.node n) ++ [.node n k] := by
  rw [List.range_succ, List.map_append]
  rfl

set_option maxRecDepth 100000 in
set_option maxHeartbeats 8000000 in
theorem subjects_any (A B C P : Option Addr) (ca cb cc cp : Nat) (ns : List NodeD) (ps : List PodD) (os : List OwnD) (p : List Int) (hln : ns.length ≤ 1000) (hlp : p.length ≤ 1000) (hlo : os.length ≤ 1000) (w : World) (hp : IntsAt w P cp p) :
    Calls Tryz.prog 69 #[viewV A B C P ca cb cc cp ns ps os p] w fun e w' => ∃ v, e = .returned v ∧ w'.ownsRow w.heap.size 111 1 v (subsU ns os p).length ((subsU ns os p).map subV) ∧ Below w.heap.size w w' := by
  have HP := Lib.hid hp
  have B0 : Hid (Below w.heap.size w (w.alloc (.cells (viewC A B C P ca cb cc cp ns ps os p) 105))) := Lib.hid (below1 w _)
  have S0 : Hid (Blk (w.alloc (.cells (viewC A B C P ca cb cc cp ns ps os p) 105)) w.heap.size (viewC A B C P ca cb cc cp ns ps os p) 105) := Lib.hid (Blk.new w _ _)
  obtain ⟨i0, hi0, hz0, hz1, hz2⟩ := info_parts su_info
  have HA : Hid (subsU ns os p = nodesS ns.length ++ podsS p p.length ++ ownersS os.length) := Lib.hid rfl
  generalize subsU ns os p = SU at HA ⊢
  clear hp
  go_enter Tryz.func69, Tryz.ntmps69
  obtain ⟨W, hW⟩ : ∃ W, (w.alloc (.cells (viewC A B C P ca cb cc cp ns ps os p) 105)) = W := ⟨_, rfl⟩
  rw [hW] at B0 S0
  go_upto_region 2 with fail
  try rw [show (w.alloc (.cells #[.slice A ns.length ca, .slice B ps.length cb, .slice C os.length cc, .slice P p.length cp] 105)) = W from hW]
  clear hW
  have HZ := Lib.hid (fun W' (hb : Below W.heap.size W W') => (show W'.cell? ⟨w.heap.size, 0, none⟩ = some (.slice A ns.length ca) ∧ W'.cell? ⟨w.heap.size, 1, none⟩ = some (.slice B ps.length cb) ∧ W'.cell? ⟨w.heap.size, 2, none⟩ = some (.slice C os.length cc) ∧ W'.cell? ⟨w.heap.size, 3, none⟩ = some (.slice P p.length cp) from ⟨Blk.cell (S0.out.below hb S0.out.lt) 0, Blk.cell (S0.out.below hb S0.out.lt) 1, Blk.cell (S0.out.below hb S0.out.lt) 2, Blk.cell (S0.out.below hb S0.out.lt) 3⟩))
  have HT := Lib.hid (fun W' (hb : Below W.heap.size W W') => B0.out.trans (hb.mono B0.out.size))
  have HPp := Lib.hid (fun W' (hb : Below W.heap.size W W') => HP.out.below (HT.out W' hb))
  have HB0 := Lib.hid B0.out.size
  obtain ⟨z0, z1, z2, z3⟩ := HZ.out _ (Below.refl _ W)
  clear HP B0 S0
  go_wp2_with fail
  go_loopw [3, 13] (fun v i wr => ∃ n : Nat, n ≤ ns.length ∧ i = .int .i64 (n : Int) ∧ wr.ownsRow W.heap.size 111 1 v (nodesS n).length ((nodesS n).map subV) ∧ Below W.heap.size W wr) (fun _ i _ => ns.length - (intOf i).toNat)
  case atStart => exact ⟨0, by omega, rfl, World.ownsRow_nil _ _ _ _, Below.refl _ _⟩
  case round =>
    clear z0 z1 z2 z3
    obtain ⟨n, hn, rfl, ho, hb⟩ := hrel
    have HO := Lib.hid ho
    have HB := Lib.hid hb
    clear ho hb
    have hnl := nodesS_len n
    by_cases hlt : n < ns.length
    case neg =>
      obtain rfl : n = ns.length := by omega
      obtain ⟨z0, z1, z2, z3⟩ := HZ.out _ HB.out
      generalize nodesS ns.length = NS at HO HA hnl
      go_wp2_with fail
      go_loopw [3, 31] (fun v i wr => ∃ k : Nat, k ≤ p.length ∧ i = .int .i64 (k : Int) ∧ wr.ownsRow W.heap.size 111 1 v (NS ++ podsS p k).length ((NS ++ podsS p k).map subV) ∧ Below W.heap.size W wr) (fun _ i _ => p.length - (intOf i).toNat)
      case atStart => exact ⟨0, by omega, rfl, by rw [show NS ++ podsS p 0 = NS from List.append_nil _]; exact HO.out, HB.out⟩
      case round =>
        clear HO HB z0 z1 z2 z3
        obtain ⟨k, hk, rfl, ho, hb⟩ := hrel
        have HO := Lib.hid ho
        have HB := Lib.hid hb
        clear ho hb
        have hpl := podsS_len p k
        have hpl2 : (NS ++ podsS p k).length ≤ 7000 := by rw [List.length_append]; omega
        by_cases hlk : k < p.length
        case neg =>
          obtain rfl : k = p.length := by omega
          obtain ⟨z0, z1, z2, z3⟩ := HZ.out _ HB.out
          generalize NS ++ podsS p p.length = PS at HO HA hpl2
          clear hk hlk
          go_wp2_with fail
          go_loopw [3, 49] (fun v i wr => ∃ o : Nat, o ≤ os.length ∧ i = .int .i64 (o : Int) ∧ wr.ownsRow W.heap.size 111 1 v (PS ++ ownersS o).length ((PS ++ ownersS o).map subV) ∧ Below W.heap.size W wr) (fun _ i _ => os.length - (intOf i).toNat)
          case atStart => exact ⟨0, by omega, rfl, by rw [show PS ++ ownersS 0 = PS from List.append_nil _]; exact HO.out, HB.out⟩
          case round =>
            clear HO HB z0 z1 z2 z3
            obtain ⟨o, ho', rfl, ho, hb⟩ := hrel
            have HO := Lib.hid ho
            have HB := Lib.hid hb
            clear ho hb
            have hol := ownersS_len o
            have hol2 : (PS ++ ownersS o).length ≤ 8000 := by rw [List.length_append]; omega
            by_cases hlo2 : o < os.length
            case neg =>
              obtain rfl : o = os.length := by omega
              go_wp2
              go_ret
              rw [HA.out]
              exact ⟨_, rfl, own_base HO.out HB0.out, HT.out _ HB.out⟩
            have Hd : Hid (PS ++ ownersS (o + 1) = (PS ++ ownersS o) ++ [.owner o]) := Lib.hid (by rw [ownersS, List.append_assoc])
            generalize PS ++ ownersS o = M at HO Hd hol2
            have o1 : (o : Int) < (os.length : Int) := by omega
            clear hol
            go_wp2_with (at_builtin; refine wpList_append_own _ rfl _ _ 106 rfl W.heap.size 111 i0 .nilIface 1 16 Tryz.underlying106 hi0 hz0 hz1 hz2 rfl (by decide) _ _ _ rfl (show World.ownsRow _ _ _ _ _ _ _ from HO.out.alloc _) ⟨wr.heap.size, 0, none⟩ 1 1 [.iface 136 (.agg #[.int .i64 (o : Int)])] rfl rfl ?c1c ?c2c ?c3c ?c4c ?c5c ?_)
            case c1c =>
              intro j u hj
              match j, hj with
              | 0, hj => simp at hj; subst hj; simp [Addr.add]
            case c2c => first | rfl | (intro u hu; simp at hu; subst hu; rfl)
            case c3c => unfold maxLen; omega
            case c4c => omega
            case c5c => have := HB.out.size; simp; omega
            intro v4 w4 hown4 hgrow4 _
            have P4 := Lib.hid hown4
            have D4 := Lib.hid ((HB.out.alloc HB.out.size (.cells #[.iface 136 (.agg #[.int .i64 (o : Int)])] 111)).grown hgrow4 (by have := HB.out.size; simp; omega) (fun j hj => own_gem HO.out hj))
            clear hown4 hgrow4
            go_wp2_with fail
            go_roundw
            case rel =>
              refine ⟨o + 1, by omega, by go_num, ?_, D4.out⟩
              rw [Hd.out, List.length_append, List.map_append]
              exact P4.out
            case measure => simp [intOf]; omega
        obtain ⟨x, hx⟩ : ∃ x, p[k]? = some x := ⟨p[k], List.getElem?_eq_getElem hlk⟩
        obtain ⟨bp, op, hAp, _, pk⟩ := atI (HPp.out _ HB.out).cells hx
        subst hAp
        have k0 : (0 : Int) ≤ (k : Int) := by omega
        have k1 : (k : Int) < (p.length : Int) := by omega
        by_cases hw : x = -1
        case pos =>
          subst hw
          have hE2 : Hid (NS ++ podsS p (k + 1) = NS ++ podsS p k) := Lib.hid (by rw [podsS, podS, if_pos hx, List.append_nil])
          generalize NS ++ podsS p k = M at HO hE2 hpl2
          clear hx hpl
          go_wp2_with fail
          go_roundw
          case rel => exact ⟨k + 1, by omega, by go_num, by rw [hE2.out]; exact HO.out, HB.out⟩
          case measure => simp [intOf]; omega
        have hE2 : Hid (NS ++ podsS p (k + 1) = (NS ++ podsS p k) ++ [.pod k]) := Lib.hid (by rw [podsS, podS, if_neg (by rw [hx]; intro h; exact hw (Option.some.inj h)), List.append_assoc])
        generalize NS ++ podsS p k = M at HO hE2 hpl2
        have hwb : (x != -1) = true := by simpa using hw
        have hwd : decide (x = -1) = false := decide_eq_false hw
        have hwe : (x == -1) = false := by simpa using hw
        clear hx hpl
        go_wp2_with (at_builtin; refine wpList_append_own _ rfl _ _ 106 rfl W.heap.size 111 i0 .nilIface 1 16 Tryz.underlying106 hi0 hz0 hz1 hz2 rfl (by decide) _ _ _ rfl (show World.ownsRow _ _ _ _ _ _ _ from HO.out.alloc _) ⟨wr.heap.size, 0, none⟩ 1 1 [.iface 134 (.agg #[.int .i64 (k : Int)])] rfl rfl ?c1b ?c2b ?c3b ?c4b ?c5b ?_)
        case c1b =>
          intro j u hj
          match j, hj with
          | 0, hj => simp at hj; subst hj; simp [Addr.add]
        case c2b => first | rfl | (intro u hu; simp at hu; subst hu; rfl)
        case c3b => unfold maxLen; omega
        case c4b => omega
        case c5b => have := HB.out.size; simp; omega
        intro v4 w4 hown4 hgrow4 _
        have P4 := Lib.hid hown4
        have D4 := Lib.hid ((HB.out.alloc HB.out.size (.cells #[.iface 134 (.agg #[.int .i64 (k : Int)])] 111)).grown hgrow4 (by have := HB.out.size; simp; omega) (fun j hj => own_gem HO.out hj))
        clear hown4 hgrow4
        go_wp2_with fail
        go_roundw
        case rel =>
          refine ⟨k + 1, by omega, by go_num, ?_, D4.out⟩
          rw [hE2.out, List.length_append, List.map_append]
          exact P4.out
        case measure => simp [intOf]; omega
    have Hd : Hid (nodesS (n + 1) = nodesS n ++ (List.range 5).map (Sub.node n)) := Lib.hid rfl
    generalize nodesS n = NS at HO Hd hnl
    have n1 : (n : Int) < (ns.length : Int) := by omega
    go_wp2_with fail
    go_loopw [3, 16] (fun v i wr => ∃ k : Nat, k ≤ 5 ∧ i = .int .i64 (k : Int) ∧ wr.ownsRow W.heap.size 111 1 v (NS ++ (List.range k).map (Sub.node n)).length ((NS ++ (List.range k).map (Sub.node n)).map subV) ∧ Below W.heap.size W wr) (fun _ i _ => 5 - (intOf i).toNat)
    case atStart => exact ⟨0, by omega, rfl, by rw [show NS ++ (List.range 0).map (Sub.node n) = NS from List.append_nil _]; exact HO.out, HB.out⟩
    case round =>
      clear HO HB
      obtain ⟨k, hk, rfl, ho, hb⟩ := hrel
      have HO := Lib.hid ho
      have HB := Lib.hid hb
      clear ho hb
      have hkl : (NS ++ (List.range k).map (Sub.node n)).length ≤ 6000 := by simp; omega
      by_cases hlk : k < 5
      case neg =>
        obtain rfl : k = 5 := by omega
        go_wp2_with fail
        go_roundw
        case rel => exact ⟨n + 1, by omega, by go_num, by rw [Hd.out]; exact HO.out, HB.out⟩
        case measure => simp [intOf]; omega
      have hE2 : Hid (NS ++ (List.range (k + 1)).map (Sub.node n) = (NS ++ (List.range k).map (Sub.node n)) ++ [.node n k]) := Lib.hid (by rw [qs_succ, List.append_assoc])
      generalize NS ++ (List.range k).map (Sub.node n) = M at HO hE2 hkl
      have k1 : (k : Int) < 5 := by omega
      go_wp2_with (at_builtin; refine wpList_append_own _ rfl _ _ 106 rfl W.heap.size 111 i0 .nilIface 1 16 Tryz.underlying106 hi0 hz0 hz1 hz2 rfl (by decide) _ _ _ rfl (show World.ownsRow _ _ _ _ _ _ _ from HO.out.alloc _) ⟨wr.heap.size, 0, none⟩ 1 1 [.iface 132 (.agg #[.int .i64 (n : Int), .int .i64 (k : Int)])] rfl rfl ?c1a ?c2a ?c3a ?c4a ?c5a ?_)
      case c1a =>
        intro j u hj
        match j, hj with
        | 0, hj => simp at hj; subst hj; simp [Addr.add]
      case c2a => first | rfl | (intro u hu; simp at hu; subst hu; rfl)
      case c3a => unfold maxLen; omega
      case c4a => omega
      case c5a => have := HB.out.size; simp; omega
      intro v4 w4 hown4 hgrow4 _
      have P4 := Lib.hid hown4
      have D4 := Lib.hid ((HB.out.alloc HB.out.size (.cells #[.iface 132 (.agg #[.int .i64 (n : Int), .int .i64 (k : Int)])] 111)).grown hgrow4 (by have := HB.out.size; simp; omega) (fun j hj => own_gem HO.out hj))
      clear hown4 hgrow4
      go_wp2_with fail
      go_roundw
      case rel =>
        refine ⟨k + 1, by omega, by go_num, ?_, D4.out⟩
        rw [hE2.out, List.length_append, List.map_append]
        exact P4.out
      case measure => simp [intOf]; omega
end Go.Proofs.YtpdaohkpgconkaaGreat

namespace Go.Proofs.YtpdaohkpgconkaaGreat
open Go.RowKit

/-- The rule of a kind, as a value. -/
def ruleV : Nat → Value
  | 1 => .agg #[.func (Fn.func 87) #[] #[], .nilFunc, .nilFunc]
  | 2 => .agg #[.nilFunc, .func (Fn.func 88) #[] #[], .nilFunc]
  | 3 => .agg #[.nilFunc, .func (Fn.func 89) #[] #[], .nilFunc]
  | 4 => .agg #[.nilFunc, .func (Fn.func 90) #[] #[], .nilFunc]
  | 5 => .agg #[.nilFunc, .func (Fn.func 91) #[] #[], .nilFunc]
  | 6 => .agg #[.nilFunc, .func (Fn.func 92) #[] #[], .nilFunc]
  | 7 => .agg #[.nilFunc, .nilFunc, .func (Fn.func 93) #[] #[]]
  | 8 => .agg #[.nilFunc, .nilFunc, .func (Fn.func 94) #[] #[]]
  | _ => .agg #[.nilFunc, .nilFunc, .nilFunc]
def entsR (k : Nat) : List MapEntry := (List.range k).map fun (j : Nat) => ⟨.int .i64 ((j : Int) + 1), ruleV (j + 1), j⟩
theorem entsR_succ (k : Nat) : entsR (k + 1) = entsR k ++ [⟨.int .i64 ((k : Int) + 1), ruleV (k + 1), k⟩] := by
  unfold entsR
  rw [List.range_succ, List.map_append]
  rfl
theorem isKey_i64 (x : Int) : MapKept.IsKey (.int .i64) (.int .i64 x) := by simp [MapKept.IsKey]
theorem find_no9 : ∀ k : Nat, k < 8 → Instr.findNow (.int .i64) (.int .i64 ((k : Int) + 1)) (entsR k) 0 = some none := by
  intro k hk
  match k, hk with
  | 0, _ => rfl
  | 1, _ => rfl
  | 2, _ => rfl
  | 3, _ => rfl
  | 4, _ => rfl
  | 5, _ => rfl
  | 6, _ => rfl
  | 7, _ => rfl
theorem find_at9 : ∀ k : Nat, k < 8 → Instr.findNow (.int .i64) (.int .i64 ((k : Int) + 1)) (entsR 8) 0 = some (some (k, ruleV (k + 1))) := by
  intro k hk
  match k, hk with
  | 0, _ => rfl
  | 1, _ => rfl
  | 2, _ => rfl
  | 3, _ => rfl
  | 4, _ => rfl
  | 5, _ => rfl
  | 6, _ => rfl
  | 7, _ => rfl

/-- One more rule in a map that is the last block. -/
theorem run_rule (w : World) (k : Nat) (_hk : k < 8) (h1 : Instr.findNow (.int .i64) (.int .i64 ((k : Int) + 1)) (entsR k) 0 = some none) :
    (Instr.mapUpdate 108 (.map (some w.heap.size)) (.int .i64 ((k : Int) + 1)) (ruleV (k + 1))).run Tryz.prog (w.alloc (.map (entsR k).toArray k)) =
      .ok () (w.alloc (.map (entsR (k + 1)).toArray (k + 1))) := by
  have hb := (MapKept.heap_alloc w (.map (entsR k).toArray k)).1
  have hset : ∀ o : Obj, { w.alloc (.map (entsR k).toArray k) with heap := (w.alloc (.map (entsR k).toArray k)).heap.setIfInBounds w.heap.size o } = w.alloc o := by
    intro o
    simp only [World.alloc]
    congr 1
    apply Array.ext'
    simp [Array.setIfInBounds, Array.toList_push]
  rw [entsR_succ]
  generalize w.alloc (.map (entsR k).toArray k) = W at hb hset
  unfold Instr.mapUpdate
  simp only [Sem.run_bind, run_underlying Tryz.underlying108, Result.andThen]
  simp [getObj, Sem.run, hb, MapKept.run_checkKey Tryz.underlying3 (isKey_i64 _), MapKept.run_findKey Tryz.underlying3 h1, MapKept.run_setObj_map _ hb, hset]
/-- The rule of a kind is found. -/
theorem run_ruleAt (w : World) (M : Nat) (h : w.heap[M]? = some (.map (entsR 8).toArray 8)) (k : Nat) (hk : k < 8) :
    (Instr.lookup 108 (.map (some M)) (.int .i64 ((k : Int) + 1)) false).run Tryz.prog w = .ok (ruleV (k + 1)) w := by
  have h1 := find_at9 k hk
  unfold Instr.lookup
  simp only [Sem.run_bind, run_underlying Tryz.underlying108, Result.andThen]
  simp [getObj, Sem.run, h, Result.andThen, MapKept.run_checkKey Tryz.underlying3 (isKey_i64 _), MapKept.run_findKey Tryz.underlying3 h1]

set_option maxRecDepth 100000 in
set_option maxHeartbeats 2000000 in
theorem rules_any (w : World) : Calls Tryz.prog 70 #[] w fun e w' => e = .returned (.map (some w.heap.size)) ∧ w'.heap[w.heap.size]? = some (.map (entsR 8).toArray 8) ∧ Below w.heap.size w w' := by
  have hmm := @run_makeMap Tryz.prog
  have m0 : (Instr.mapUpdate 108 (.map (some w.heap.size)) (.int .i64 1) (.agg #[.func (Fn.func 87) #[] #[], .nilFunc, .nilFunc])).run Tryz.prog (w.alloc (.map #[] 0)) = .ok () (w.alloc (.map (entsR 1).toArray 1)) := run_rule w 0 (by omega) (find_no9 0 (by omega))
  have m1 : (Instr.mapUpdate 108 (.map (some w.heap.size)) (.int .i64 2) (.agg #[.nilFunc, .func (Fn.func 88) #[] #[], .nilFunc])).run Tryz.prog (w.alloc (.map (entsR 1).toArray 1)) = .ok () (w.alloc (.map (entsR 2).toArray 2)) := run_rule w 1 (by omega) (find_no9 1 (by omega))
  have m2 : (Instr.mapUpdate 108 (.map (some w.heap.size)) (.int .i64 3) (.agg #[.nilFunc, .func (Fn.func 89) #[] #[], .nilFunc])).run Tryz.prog (w.alloc (.map (entsR 2).toArray 2)) = .ok () (w.alloc (.map (entsR 3).toArray 3)) := run_rule w 2 (by omega) (find_no9 2 (by omega))
  have m3 : (Instr.mapUpdate 108 (.map (some w.heap.size)) (.int .i64 4) (.agg #[.nilFunc, .func (Fn.func 90) #[] #[], .nilFunc])).run Tryz.prog (w.alloc (.map (entsR 3).toArray 3)) = .ok () (w.alloc (.map (entsR 4).toArray 4)) := run_rule w 3 (by omega) (find_no9 3 (by omega))
  have m4 : (Instr.mapUpdate 108 (.map (some w.heap.size)) (.int .i64 5) (.agg #[.nilFunc, .func (Fn.func 91) #[] #[], .nilFunc])).run Tryz.prog (w.alloc (.map (entsR 4).toArray 4)) = .ok () (w.alloc (.map (entsR 5).toArray 5)) := run_rule w 4 (by omega) (find_no9 4 (by omega))
  have m5 : (Instr.mapUpdate 108 (.map (some w.heap.size)) (.int .i64 6) (.agg #[.nilFunc, .func (Fn.func 92) #[] #[], .nilFunc])).run Tryz.prog (w.alloc (.map (entsR 5).toArray 5)) = .ok () (w.alloc (.map (entsR 6).toArray 6)) := run_rule w 5 (by omega) (find_no9 5 (by omega))
  have m6 : (Instr.mapUpdate 108 (.map (some w.heap.size)) (.int .i64 7) (.agg #[.nilFunc, .nilFunc, .func (Fn.func 93) #[] #[]])).run Tryz.prog (w.alloc (.map (entsR 6).toArray 6)) = .ok () (w.alloc (.map (entsR 7).toArray 7)) := run_rule w 6 (by omega) (find_no9 6 (by omega))
  have m7 : (Instr.mapUpdate 108 (.map (some w.heap.size)) (.int .i64 8) (.agg #[.nilFunc, .nilFunc, .func (Fn.func 94) #[] #[]])).run Tryz.prog (w.alloc (.map (entsR 7).toArray 7)) = .ok () (w.alloc (.map (entsR 8).toArray 8)) := run_rule w 7 (by omega) (find_no9 7 (by omega))
  have hb := (MapKept.heap_alloc w (.map (entsR 8).toArray 8)).1
  have HB := Lib.hid hb
  have B0 : Hid (Below w.heap.size w (w.alloc (.map (entsR 8).toArray 8))) := Lib.hid (below1 w _)
  clear hb
  generalize entsR 8 = E8 at m7 HB B0 ⊢
  generalize entsR 7 = E7 at m6 m7
  generalize entsR 6 = E6 at m5 m6
  generalize entsR 5 = E5 at m4 m5
  generalize entsR 4 = E4 at m3 m4
  generalize entsR 3 = E3 at m2 m3
  generalize entsR 2 = E2 at m1 m2
  generalize entsR 1 = E1 at m0 m1
  go_enter Tryz.func70, Tryz.ntmps70
  go_wp2_with fail
  go_ret
  exact ⟨rfl, HB.out, B0.out⟩
end Go.Proofs.YtpdaohkpgconkaaGreat

namespace Go.Proofs.YtpdaohkpgconkaaGreat
open Go.RowKit

set_option maxRecDepth 100000 in
set_option maxHeartbeats 4000000 in
theorem byNode_no (A B C P : Option Addr) (ca cb cc cp : Nat) (ns : List NodeD) (ps : List PodD) (os : List OwnD) (p : List Int) (f1 f2 : Value) (n q : Nat) (w : World) :
    Calls Tryz.prog 71 #[.agg #[.nilFunc, f1, f2], viewV A B C P ca cb cc cp ns ps os p, .iface 132 (.agg #[.int .i64 (n : Int), .int .i64 (q : Int)])] w fun e w' => e = .returned (.tuple #[.int .i64 0, .bool false]) ∧ Below w.heap.size w w' := by
  have B0 : Hid (Below w.heap.size w ((w.alloc (.cells #[.nilFunc, f1, f2] 117)).alloc (.cells (viewC A B C P ca cb cc cp ns ps os p) 105))) := Lib.hid (Qu.below2 w _ _)
  have S0 : Hid (Blk ((w.alloc (.cells #[.nilFunc, f1, f2] 117)).alloc (.cells (viewC A B C P ca cb cc cp ns ps os p) 105)) w.heap.size #[.nilFunc, f1, f2] 117) := Lib.hid (Blk.alloc (Blk.new w _ _) _)
  have S1 : Hid (Blk ((w.alloc (.cells #[.nilFunc, f1, f2] 117)).alloc (.cells (viewC A B C P ca cb cc cp ns ps os p) 105)) (w.heap.size + 1) (viewC A B C P ca cb cc cp ns ps os p) 105) := Lib.hid (blk2 w _ _ _)
  have hafN : ∀ w : World, (Instr.typeAssert (.iface 132 (.agg #[.int .i64 (n : Int), .int .i64 (q : Int)])) 111 132 true).run Tryz.prog w = .ok (.tuple #[.agg #[.int .i64 (n : Int), .int .i64 (q : Int)], .bool true]) w := fun w => by kernel_rfl
  have hbn : ∀ w : World, (binOp .neq 114 .nilFunc .nilFunc).run Tryz.prog w = .ok (.bool false) w := fun w => by kernel_rfl
  go_enter Tryz.func71, Tryz.ntmps71
  obtain ⟨W, hW⟩ : ∃ W, ((w.alloc (.cells #[.nilFunc, f1, f2] 117)).alloc (.cells (viewC A B C P ca cb cc cp ns ps os p) 105)) = W := ⟨_, rfl⟩
  rw [hW] at B0 S0 S1
  go_upto_region 1 with fail
  try rw [show ((w.alloc (.cells #[.nilFunc, f1, f2] 117)).alloc (.cells #[.slice A ns.length ca, .slice B ps.length cb, .slice C os.length cc, .slice P p.length cp] 105)) = W from hW]
  clear hW
  have B1 : Hid (Below w.heap.size w (W.alloc (.cells #[.int .i64 (n : Int), .int .i64 (q : Int)] 132))) := Lib.hid (B0.out.alloc B0.out.size _)
  have S2 : Hid (Blk (W.alloc (.cells #[.int .i64 (n : Int), .int .i64 (q : Int)] 132)) w.heap.size #[.nilFunc, f1, f2] 117) := Lib.hid (Blk.alloc S0.out _)
  have S3 : Hid (Blk (W.alloc (.cells #[.int .i64 (n : Int), .int .i64 (q : Int)] 132)) (w.heap.size + 1) (viewC A B C P ca cb cc cp ns ps os p) 105) := Lib.hid (Blk.alloc S1.out _)
  have S4 : Hid (Blk (W.alloc (.cells #[.int .i64 (n : Int), .int .i64 (q : Int)] 132)) W.heap.size #[.int .i64 (n : Int), .int .i64 (q : Int)] 132) := Lib.hid (Blk.new W _ _)
  clear B0 S0 S1
  go_upto_region 4 with fail
  try change Code.wp _ _ _ _ (W.alloc (.cells #[.int .i64 (n : Int), .int .i64 (q : Int)] 132))
  generalize (W.alloc (.cells #[.int .i64 (n : Int), .int .i64 (q : Int)] 132)) = V at B1 S2 S3 S4 ⊢
  generalize W.heap.size = Nb at S4 ⊢
  have r0 : V.cell? ⟨w.heap.size, 0, none⟩ = some (.nilFunc) := Blk.cell S2.out 0
  have z0 : V.cell? ⟨w.heap.size + 1, 0, none⟩ = some (.slice A ns.length ca) := Blk.cell S3.out 0
  have z1 : V.cell? ⟨w.heap.size + 1, 1, none⟩ = some (.slice B ps.length cb) := Blk.cell S3.out 1
  have z2 : V.cell? ⟨w.heap.size + 1, 2, none⟩ = some (.slice C os.length cc) := Blk.cell S3.out 2
  have z3 : V.cell? ⟨w.heap.size + 1, 3, none⟩ = some (.slice P p.length cp) := Blk.cell S3.out 3
  have k0 : V.cell? ⟨Nb, 0, none⟩ = some (.int .i64 (n : Int)) := Blk.cell S4.out 0
  have k1 : V.cell? ⟨Nb, 1, none⟩ = some (.int .i64 (q : Int)) := Blk.cell S4.out 1
  go_wp2
  go_ret2
  exact ⟨rfl, B1.out⟩

set_option maxRecDepth 100000 in
set_option maxHeartbeats 4000000 in
theorem byNode_any (A B C P : Option Addr) (ca cb cc cp : Nat) (ns : List NodeD) (ps : List PodD) (os : List OwnD) (p : List Int) (f1 f2 : Value) (n q : Nat) (g : FuncId) (hg : ∀ (args : Array Value) (w : World), (callFunc g args).run Tryz.prog w = .ok (.enter g args) w) (b : Int) (is : Bool) (w : World) (hcl : ∀ w', Below w.heap.size w w' → Calls Tryz.prog g #[viewV A B C P ca cb cc cp ns ps os p, .int .i64 (n : Int), .int .i64 (q : Int)] w' fun e w'' => e = .returned (.tuple #[.int .i64 b, .bool is]) ∧ Below w'.heap.size w' w'') :
    Calls Tryz.prog 71 #[.agg #[.func (Fn.func g) #[] #[], f1, f2], viewV A B C P ca cb cc cp ns ps os p, .iface 132 (.agg #[.int .i64 (n : Int), .int .i64 (q : Int)])] w fun e w' => e = .returned (.tuple #[.int .i64 b, .bool is]) ∧ Below w.heap.size w w' := by
  have B0 : Hid (Below w.heap.size w ((w.alloc (.cells #[.func (Fn.func g) #[] #[], f1, f2] 117)).alloc (.cells (viewC A B C P ca cb cc cp ns ps os p) 105))) := Lib.hid (Qu.below2 w _ _)
  have S0 : Hid (Blk ((w.alloc (.cells #[.func (Fn.func g) #[] #[], f1, f2] 117)).alloc (.cells (viewC A B C P ca cb cc cp ns ps os p) 105)) w.heap.size #[.func (Fn.func g) #[] #[], f1, f2] 117) := Lib.hid (Blk.alloc (Blk.new w _ _) _)
  have S1 : Hid (Blk ((w.alloc (.cells #[.func (Fn.func g) #[] #[], f1, f2] 117)).alloc (.cells (viewC A B C P ca cb cc cp ns ps os p) 105)) (w.heap.size + 1) (viewC A B C P ca cb cc cp ns ps os p) 105) := Lib.hid (blk2 w _ _ _)
  have HCL := Lib.hid hcl
  clear hcl
  have hafN : ∀ w : World, (Instr.typeAssert (.iface 132 (.agg #[.int .i64 (n : Int), .int .i64 (q : Int)])) 111 132 true).run Tryz.prog w = .ok (.tuple #[.agg #[.int .i64 (n : Int), .int .i64 (q : Int)], .bool true]) w := fun w => by kernel_rfl
  have hbn : ∀ w : World, (binOp .neq 114 (.func (Fn.func g) #[] #[]) .nilFunc).run Tryz.prog w = .ok (.bool true) w := fun w => by kernel_rfl
  go_enter Tryz.func71, Tryz.ntmps71
  obtain ⟨W, hW⟩ : ∃ W, ((w.alloc (.cells #[.func (Fn.func g) #[] #[], f1, f2] 117)).alloc (.cells (viewC A B C P ca cb cc cp ns ps os p) 105)) = W := ⟨_, rfl⟩
  rw [hW] at B0 S0 S1
  go_upto_region 1 with fail
  try rw [show ((w.alloc (.cells #[.func (Fn.func g) #[] #[], f1, f2] 117)).alloc (.cells #[.slice A ns.length ca, .slice B ps.length cb, .slice C os.length cc, .slice P p.length cp] 105)) = W from hW]
  clear hW
  have B1 : Hid (Below w.heap.size w (W.alloc (.cells #[.int .i64 (n : Int), .int .i64 (q : Int)] 132))) := Lib.hid (B0.out.alloc B0.out.size _)
  have S2 : Hid (Blk (W.alloc (.cells #[.int .i64 (n : Int), .int .i64 (q : Int)] 132)) w.heap.size #[.func (Fn.func g) #[] #[], f1, f2] 117) := Lib.hid (Blk.alloc S0.out _)
  have S3 : Hid (Blk (W.alloc (.cells #[.int .i64 (n : Int), .int .i64 (q : Int)] 132)) (w.heap.size + 1) (viewC A B C P ca cb cc cp ns ps os p) 105) := Lib.hid (Blk.alloc S1.out _)
  have S4 : Hid (Blk (W.alloc (.cells #[.int .i64 (n : Int), .int .i64 (q : Int)] 132)) W.heap.size #[.int .i64 (n : Int), .int .i64 (q : Int)] 132) := Lib.hid (Blk.new W _ _)
  clear B0 S0 S1
  go_upto_region 4 with fail
  try change Code.wp _ _ _ _ (W.alloc (.cells #[.int .i64 (n : Int), .int .i64 (q : Int)] 132))
  generalize (W.alloc (.cells #[.int .i64 (n : Int), .int .i64 (q : Int)] 132)) = V at B1 S2 S3 S4 ⊢
  generalize W.heap.size = Nb at S4 ⊢
  have r0 : V.cell? ⟨w.heap.size, 0, none⟩ = some (.func (Fn.func g) #[] #[]) := Blk.cell S2.out 0
  have z0 : V.cell? ⟨w.heap.size + 1, 0, none⟩ = some (.slice A ns.length ca) := Blk.cell S3.out 0
  have z1 : V.cell? ⟨w.heap.size + 1, 1, none⟩ = some (.slice B ps.length cb) := Blk.cell S3.out 1
  have z2 : V.cell? ⟨w.heap.size + 1, 2, none⟩ = some (.slice C os.length cc) := Blk.cell S3.out 2
  have z3 : V.cell? ⟨w.heap.size + 1, 3, none⟩ = some (.slice P p.length cp) := Blk.cell S3.out 3
  have k0 : V.cell? ⟨Nb, 0, none⟩ = some (.int .i64 (n : Int)) := Blk.cell S4.out 0
  have k1 : V.cell? ⟨Nb, 1, none⟩ = some (.int .i64 (q : Int)) := Blk.cell S4.out 1
  go_wp2_with fail
  refine (HCL.out _ B1.out).mono ?_
  rintro e w2 ⟨rfl, hb2⟩
  have B2 := Lib.hid (B1.out.trans (hb2.mono B1.out.size))
  clear hb2
  go_wp2
  go_ret2
  exact ⟨rfl, B2.out⟩

set_option maxRecDepth 100000 in
set_option maxHeartbeats 4000000 in
theorem byPod_no (A B C P : Option Addr) (ca cb cc cp : Nat) (ns : List NodeD) (ps : List PodD) (os : List OwnD) (p : List Int) (f0 f2 : Value) (i : Nat) (w : World) :
    Calls Tryz.prog 71 #[.agg #[f0, .nilFunc, f2], viewV A B C P ca cb cc cp ns ps os p, .iface 134 (.agg #[.int .i64 (i : Int)])] w fun e w' => e = .returned (.tuple #[.int .i64 0, .bool false]) ∧ Below w.heap.size w w' := by
  have B0 : Hid (Below w.heap.size w ((w.alloc (.cells #[f0, .nilFunc, f2] 117)).alloc (.cells (viewC A B C P ca cb cc cp ns ps os p) 105))) := Lib.hid (Qu.below2 w _ _)
  have S0 : Hid (Blk ((w.alloc (.cells #[f0, .nilFunc, f2] 117)).alloc (.cells (viewC A B C P ca cb cc cp ns ps os p) 105)) w.heap.size #[f0, .nilFunc, f2] 117) := Lib.hid (Blk.alloc (Blk.new w _ _) _)
  have S1 : Hid (Blk ((w.alloc (.cells #[f0, .nilFunc, f2] 117)).alloc (.cells (viewC A B C P ca cb cc cp ns ps os p) 105)) (w.heap.size + 1) (viewC A B C P ca cb cc cp ns ps os p) 105) := Lib.hid (blk2 w _ _ _)
  have hafN : ∀ w : World, (Instr.typeAssert (.iface 134 (.agg #[.int .i64 (i : Int)])) 111 132 true).run Tryz.prog w = .ok (.tuple #[.agg #[.int .i64 0, .int .i64 0], .bool false]) w := fun w => by kernel_rfl
  have hafP : ∀ w : World, (Instr.typeAssert (.iface 134 (.agg #[.int .i64 (i : Int)])) 111 134 true).run Tryz.prog w = .ok (.tuple #[.agg #[.int .i64 (i : Int)], .bool true]) w := fun w => by kernel_rfl
  have hbn : ∀ w : World, (binOp .neq 115 .nilFunc .nilFunc).run Tryz.prog w = .ok (.bool false) w := fun w => by kernel_rfl
  go_enter Tryz.func71, Tryz.ntmps71
  obtain ⟨W, hW⟩ : ∃ W, ((w.alloc (.cells #[f0, .nilFunc, f2] 117)).alloc (.cells (viewC A B C P ca cb cc cp ns ps os p) 105)) = W := ⟨_, rfl⟩
  rw [hW] at B0 S0 S1
  go_upto_region 1 with fail
  try rw [show ((w.alloc (.cells #[f0, .nilFunc, f2] 117)).alloc (.cells #[.slice A ns.length ca, .slice B ps.length cb, .slice C os.length cc, .slice P p.length cp] 105)) = W from hW]
  clear hW
  have B1 : Hid (Below w.heap.size w (W.alloc (.cells #[.int .i64 (i : Int)] 134))) := Lib.hid (B0.out.alloc B0.out.size _)
  have S2 : Hid (Blk (W.alloc (.cells #[.int .i64 (i : Int)] 134)) w.heap.size #[f0, .nilFunc, f2] 117) := Lib.hid (Blk.alloc S0.out _)
  have S3 : Hid (Blk (W.alloc (.cells #[.int .i64 (i : Int)] 134)) (w.heap.size + 1) (viewC A B C P ca cb cc cp ns ps os p) 105) := Lib.hid (Blk.alloc S1.out _)
  have S4 : Hid (Blk (W.alloc (.cells #[.int .i64 (i : Int)] 134)) W.heap.size #[.int .i64 (i : Int)] 134) := Lib.hid (Blk.new W _ _)
  clear B0 S0 S1
  go_upto_region 8 with fail
  try change Code.wp _ _ _ _ (W.alloc (.cells #[.int .i64 (i : Int)] 134))
  generalize (W.alloc (.cells #[.int .i64 (i : Int)] 134)) = V at B1 S2 S3 S4 ⊢
  generalize W.heap.size = Nb at S4 ⊢
  have r1 : V.cell? ⟨w.heap.size, 1, none⟩ = some (.nilFunc) := Blk.cell S2.out 1
  have z0 : V.cell? ⟨w.heap.size + 1, 0, none⟩ = some (.slice A ns.length ca) := Blk.cell S3.out 0
  have z1 : V.cell? ⟨w.heap.size + 1, 1, none⟩ = some (.slice B ps.length cb) := Blk.cell S3.out 1
  have z2 : V.cell? ⟨w.heap.size + 1, 2, none⟩ = some (.slice C os.length cc) := Blk.cell S3.out 2
  have z3 : V.cell? ⟨w.heap.size + 1, 3, none⟩ = some (.slice P p.length cp) := Blk.cell S3.out 3
  have k0 : V.cell? ⟨Nb, 0, none⟩ = some (.int .i64 (i : Int)) := Blk.cell S4.out 0
  go_wp2
  go_ret2
  exact ⟨rfl, B1.out⟩

set_option maxRecDepth 100000 in
set_option maxHeartbeats 4000000 in
theorem byPod_any (A B C P : Option Addr) (ca cb cc cp : Nat) (ns : List NodeD) (ps : List PodD) (os : List OwnD) (p : List Int) (f0 f2 : Value) (i : Nat) (g : FuncId) (hg : ∀ (args : Array Value) (w : World), (callFunc g args).run Tryz.prog w = .ok (.enter g args) w) (b : Int) (is : Bool) (w : World) (hcl : ∀ w', Below w.heap.size w w' → Calls Tryz.prog g #[viewV A B C P ca cb cc cp ns ps os p, .int .i64 (i : Int)] w' fun e w'' => e = .returned (.tuple #[.int .i64 b, .bool is]) ∧ Below w'.heap.size w' w'') :
    Calls Tryz.prog 71 #[.agg #[f0, .func (Fn.func g) #[] #[], f2], viewV A B C P ca cb cc cp ns ps os p, .iface 134 (.agg #[.int .i64 (i : Int)])] w fun e w' => e = .returned (.tuple #[.int .i64 b, .bool is]) ∧ Below w.heap.size w w' := by
  have B0 : Hid (Below w.heap.size w ((w.alloc (.cells #[f0, .func (Fn.func g) #[] #[], f2] 117)).alloc (.cells (viewC A B C P ca cb cc cp ns ps os p) 105))) := Lib.hid (Qu.below2 w _ _)
  have S0 : Hid (Blk ((w.alloc (.cells #[f0, .func (Fn.func g) #[] #[], f2] 117)).alloc (.cells (viewC A B C P ca cb cc cp ns ps os p) 105)) w.heap.size #[f0, .func (Fn.func g) #[] #[], f2] 117) := Lib.hid (Blk.alloc (Blk.new w _ _) _)
  have S1 : Hid (Blk ((w.alloc (.cells #[f0, .func (Fn.func g) #[] #[], f2] 117)).alloc (.cells (viewC A B C P ca cb cc cp ns ps os p) 105)) (w.heap.size + 1) (viewC A B C P ca cb cc cp ns ps os p) 105) := Lib.hid (blk2 w _ _ _)
  have HCL := Lib.hid hcl
  clear hcl
  have hafN : ∀ w : World, (Instr.typeAssert (.iface 134 (.agg #[.int .i64 (i : Int)])) 111 132 true).run Tryz.prog w = .ok (.tuple #[.agg #[.int .i64 0, .int .i64 0], .bool false]) w := fun w => by kernel_rfl
  have hafP : ∀ w : World, (Instr.typeAssert (.iface 134 (.agg #[.int .i64 (i : Int)])) 111 134 true).run Tryz.prog w = .ok (.tuple #[.agg #[.int .i64 (i : Int)], .bool true]) w := fun w => by kernel_rfl
  have hbn : ∀ w : World, (binOp .neq 115 (.func (Fn.func g) #[] #[]) .nilFunc).run Tryz.prog w = .ok (.bool true) w := fun w => by kernel_rfl
  go_enter Tryz.func71, Tryz.ntmps71
  obtain ⟨W, hW⟩ : ∃ W, ((w.alloc (.cells #[f0, .func (Fn.func g) #[] #[], f2] 117)).alloc (.cells (viewC A B C P ca cb cc cp ns ps os p) 105)) = W := ⟨_, rfl⟩
  rw [hW] at B0 S0 S1
  go_upto_region 1 with fail
  try rw [show ((w.alloc (.cells #[f0, .func (Fn.func g) #[] #[], f2] 117)).alloc (.cells #[.slice A ns.length ca, .slice B ps.length cb, .slice C os.length cc, .slice P p.length cp] 105)) = W from hW]
  clear hW
  have B1 : Hid (Below w.heap.size w (W.alloc (.cells #[.int .i64 (i : Int)] 134))) := Lib.hid (B0.out.alloc B0.out.size _)
  have S2 : Hid (Blk (W.alloc (.cells #[.int .i64 (i : Int)] 134)) w.heap.size #[f0, .func (Fn.func g) #[] #[], f2] 117) := Lib.hid (Blk.alloc S0.out _)
  have S3 : Hid (Blk (W.alloc (.cells #[.int .i64 (i : Int)] 134)) (w.heap.size + 1) (viewC A B C P ca cb cc cp ns ps os p) 105) := Lib.hid (Blk.alloc S1.out _)
  have S4 : Hid (Blk (W.alloc (.cells #[.int .i64 (i : Int)] 134)) W.heap.size #[.int .i64 (i : Int)] 134) := Lib.hid (Blk.new W _ _)
  clear B0 S0 S1
  go_upto_region 8 with fail
  try change Code.wp _ _ _ _ (W.alloc (.cells #[.int .i64 (i : Int)] 134))
  generalize (W.alloc (.cells #[.int .i64 (i : Int)] 134)) = V at B1 S2 S3 S4 ⊢
  generalize W.heap.size = Nb at S4 ⊢
  have r1 : V.cell? ⟨w.heap.size, 1, none⟩ = some (.func (Fn.func g) #[] #[]) := Blk.cell S2.out 1
  have z0 : V.cell? ⟨w.heap.size + 1, 0, none⟩ = some (.slice A ns.length ca) := Blk.cell S3.out 0
  have z1 : V.cell? ⟨w.heap.size + 1, 1, none⟩ = some (.slice B ps.length cb) := Blk.cell S3.out 1
  have z2 : V.cell? ⟨w.heap.size + 1, 2, none⟩ = some (.slice C os.length cc) := Blk.cell S3.out 2
  have z3 : V.cell? ⟨w.heap.size + 1, 3, none⟩ = some (.slice P p.length cp) := Blk.cell S3.out 3
  have k0 : V.cell? ⟨Nb, 0, none⟩ = some (.int .i64 (i : Int)) := Blk.cell S4.out 0
  go_wp2_with fail
  refine (HCL.out _ B1.out).mono ?_
  rintro e w2 ⟨rfl, hb2⟩
  have B2 := Lib.hid (B1.out.trans (hb2.mono B1.out.size))
  clear hb2
  go_wp2
  go_ret2
  exact ⟨rfl, B2.out⟩

set_option maxRecDepth 100000 in
set_option maxHeartbeats 4000000 in
theorem byOwner_no (A B C P : Option Addr) (ca cb cc cp : Nat) (ns : List NodeD) (ps : List PodD) (os : List OwnD) (p : List Int) (f0 f1 : Value) (o : Nat) (w : World) :
    Calls Tryz.prog 71 #[.agg #[f0, f1, .nilFunc], viewV A B C P ca cb cc cp ns ps os p, .iface 136 (.agg #[.int .i64 (o : Int)])] w fun e w' => e = .returned (.tuple #[.int .i64 0, .bool false]) ∧ Below w.heap.size w w' := by
  have B0 : Hid (Below w.heap.size w ((w.alloc (.cells #[f0, f1, .nilFunc] 117)).alloc (.cells (viewC A B C P ca cb cc cp ns ps os p) 105))) := Lib.hid (Qu.below2 w _ _)
  have S0 : Hid (Blk ((w.alloc (.cells #[f0, f1, .nilFunc] 117)).alloc (.cells (viewC A B C P ca cb cc cp ns ps os p) 105)) w.heap.size #[f0, f1, .nilFunc] 117) := Lib.hid (Blk.alloc (Blk.new w _ _) _)
  have S1 : Hid (Blk ((w.alloc (.cells #[f0, f1, .nilFunc] 117)).alloc (.cells (viewC A B C P ca cb cc cp ns ps os p) 105)) (w.heap.size + 1) (viewC A B C P ca cb cc cp ns ps os p) 105) := Lib.hid (blk2 w _ _ _)
  have hafN : ∀ w : World, (Instr.typeAssert (.iface 136 (.agg #[.int .i64 (o : Int)])) 111 132 true).run Tryz.prog w = .ok (.tuple #[.agg #[.int .i64 0, .int .i64 0], .bool false]) w := fun w => by kernel_rfl
  have hafP : ∀ w : World, (Instr.typeAssert (.iface 136 (.agg #[.int .i64 (o : Int)])) 111 134 true).run Tryz.prog w = .ok (.tuple #[.agg #[.int .i64 0], .bool false]) w := fun w => by kernel_rfl
  have hafO : ∀ w : World, (Instr.typeAssert (.iface 136 (.agg #[.int .i64 (o : Int)])) 111 136 true).run Tryz.prog w = .ok (.tuple #[.agg #[.int .i64 (o : Int)], .bool true]) w := fun w => by kernel_rfl
  have hbn : ∀ w : World, (binOp .neq 115 .nilFunc .nilFunc).run Tryz.prog w = .ok (.bool false) w := fun w => by kernel_rfl
  go_enter Tryz.func71, Tryz.ntmps71
  obtain ⟨W, hW⟩ : ∃ W, ((w.alloc (.cells #[f0, f1, .nilFunc] 117)).alloc (.cells (viewC A B C P ca cb cc cp ns ps os p) 105)) = W := ⟨_, rfl⟩
  rw [hW] at B0 S0 S1
  go_upto_region 1 with fail
  try rw [show ((w.alloc (.cells #[f0, f1, .nilFunc] 117)).alloc (.cells #[.slice A ns.length ca, .slice B ps.length cb, .slice C os.length cc, .slice P p.length cp] 105)) = W from hW]
  clear hW
  have B1 : Hid (Below w.heap.size w (W.alloc (.cells #[.int .i64 (o : Int)] 136))) := Lib.hid (B0.out.alloc B0.out.size _)
  have S2 : Hid (Blk (W.alloc (.cells #[.int .i64 (o : Int)] 136)) w.heap.size #[f0, f1, .nilFunc] 117) := Lib.hid (Blk.alloc S0.out _)
  have S3 : Hid (Blk (W.alloc (.cells #[.int .i64 (o : Int)] 136)) (w.heap.size + 1) (viewC A B C P ca cb cc cp ns ps os p) 105) := Lib.hid (Blk.alloc S1.out _)
  have S4 : Hid (Blk (W.alloc (.cells #[.int .i64 (o : Int)] 136)) W.heap.size #[.int .i64 (o : Int)] 136) := Lib.hid (Blk.new W _ _)
  clear B0 S0 S1
  go_upto_region 12 with fail
  try change Code.wp _ _ _ _ (W.alloc (.cells #[.int .i64 (o : Int)] 136))
  generalize (W.alloc (.cells #[.int .i64 (o : Int)] 136)) = V at B1 S2 S3 S4 ⊢
  generalize W.heap.size = Nb at S4 ⊢
  have r2 : V.cell? ⟨w.heap.size, 2, none⟩ = some (.nilFunc) := Blk.cell S2.out 2
  have z0 : V.cell? ⟨w.heap.size + 1, 0, none⟩ = some (.slice A ns.length ca) := Blk.cell S3.out 0
  have z1 : V.cell? ⟨w.heap.size + 1, 1, none⟩ = some (.slice B ps.length cb) := Blk.cell S3.out 1
  have z2 : V.cell? ⟨w.heap.size + 1, 2, none⟩ = some (.slice C os.length cc) := Blk.cell S3.out 2
  have z3 : V.cell? ⟨w.heap.size + 1, 3, none⟩ = some (.slice P p.length cp) := Blk.cell S3.out 3
  have k0 : V.cell? ⟨Nb, 0, none⟩ = some (.int .i64 (o : Int)) := Blk.cell S4.out 0
  go_wp2
  go_ret2
  exact ⟨rfl, B1.out⟩

set_option maxRecDepth 100000 in
set_option maxHeartbeats 4000000 in
theorem byOwner_any (A B C P : Option Addr) (ca cb cc cp : Nat) (ns : List NodeD) (ps : List PodD) (os : List OwnD) (p : List Int) (f0 f1 : Value) (o : Nat) (g : FuncId) (hg : ∀ (args : Array Value) (w : World), (callFunc g args).run Tryz.prog w = .ok (.enter g args) w) (b : Int) (is : Bool) (w : World) (hcl : ∀ w', Below w.heap.size w w' → Calls Tryz.prog g #[viewV A B C P ca cb cc cp ns ps os p, .int .i64 (o : Int)] w' fun e w'' => e = .returned (.tuple #[.int .i64 b, .bool is]) ∧ Below w'.heap.size w' w'') :
    Calls Tryz.prog 71 #[.agg #[f0, f1, .func (Fn.func g) #[] #[]], viewV A B C P ca cb cc cp ns ps os p, .iface 136 (.agg #[.int .i64 (o : Int)])] w fun e w' => e = .returned (.tuple #[.int .i64 b, .bool is]) ∧ Below w.heap.size w w' := by
  have B0 : Hid (Below w.heap.size w ((w.alloc (.cells #[f0, f1, .func (Fn.func g) #[] #[]] 117)).alloc (.cells (viewC A B C P ca cb cc cp ns ps os p) 105))) := Lib.hid (Qu.below2 w _ _)
  have S0 : Hid (Blk ((w.alloc (.cells #[f0, f1, .func (Fn.func g) #[] #[]] 117)).alloc (.cells (viewC A B C P ca cb cc cp ns ps os p) 105)) w.heap.size #[f0, f1, .func (Fn.func g) #[] #[]] 117) := Lib.hid (Blk.alloc (Blk.new w _ _) _)
  have S1 : Hid (Blk ((w.alloc (.cells #[f0, f1, .func (Fn.func g) #[] #[]] 117)).alloc (.cells (viewC A B C P ca cb cc cp ns ps os p) 105)) (w.heap.size + 1) (viewC A B C P ca cb cc cp ns ps os p) 105) := Lib.hid (blk2 w _ _ _)
  have HCL := Lib.hid hcl
  clear hcl
  have hafN : ∀ w : World, (Instr.typeAssert (.iface 136 (.agg #[.int .i64 (o : Int)])) 111 132 true).run Tryz.prog w = .ok (.tuple #[.agg #[.int .i64 0, .int .i64 0], .bool false]) w := fun w => by kernel_rfl
  have hafP : ∀ w : World, (Instr.typeAssert (.iface 136 (.agg #[.int .i64 (o : Int)])) 111 134 true).run Tryz.prog w = .ok (.tuple #[.agg #[.int .i64 0], .bool false]) w := fun w => by kernel_rfl
  have hafO : ∀ w : World, (Instr.typeAssert (.iface 136 (.agg #[.int .i64 (o : Int)])) 111 136 true).run Tryz.prog w = .ok (.tuple #[.agg #[.int .i64 (o : Int)], .bool true]) w := fun w => by kernel_rfl
  have hbn : ∀ w : World, (binOp .neq 115 (.func (Fn.func g) #[] #[]) .nilFunc).run Tryz.prog w = .ok (.bool true) w := fun w => by kernel_rfl
  go_enter Tryz.func71, Tryz.ntmps71
  obtain ⟨W, hW⟩ : ∃ W, ((w.alloc (.cells #[f0, f1, .func (Fn.func g) #[] #[]] 117)).alloc (.cells (viewC A B C P ca cb cc cp ns ps os p) 105)) = W := ⟨_, rfl⟩
  rw [hW] at B0 S0 S1
  go_upto_region 1 with fail
  try rw [show ((w.alloc (.cells #[f0, f1, .func (Fn.func g) #[] #[]] 117)).alloc (.cells #[.slice A ns.length ca, .slice B ps.length cb, .slice C os.length cc, .slice P p.length cp] 105)) = W from hW]
  clear hW
  have B1 : Hid (Below w.heap.size w (W.alloc (.cells #[.int .i64 (o : Int)] 136))) := Lib.hid (B0.out.alloc B0.out.size _)
  have S2 : Hid (Blk (W.alloc (.cells #[.int .i64 (o : Int)] 136)) w.heap.size #[f0, f1, .func (Fn.func g) #[] #[]] 117) := Lib.hid (Blk.alloc S0.out _)
  have S3 : Hid (Blk (W.alloc (.cells #[.int .i64 (o : Int)] 136)) (w.heap.size + 1) (viewC A B C P ca cb cc cp ns ps os p) 105) := Lib.hid (Blk.alloc S1.out _)
  have S4 : Hid (Blk (W.alloc (.cells #[.int .i64 (o : Int)] 136)) W.heap.size #[.int .i64 (o : Int)] 136) := Lib.hid (Blk.new W _ _)
  clear B0 S0 S1
  go_upto_region 12 with fail
  try change Code.wp _ _ _ _ (W.alloc (.cells #[.int .i64 (o : Int)] 136))
  generalize (W.alloc (.cells #[.int .i64 (o : Int)] 136)) = V at B1 S2 S3 S4 ⊢
  generalize W.heap.size = Nb at S4 ⊢
  have r2 : V.cell? ⟨w.heap.size, 2, none⟩ = some (.func (Fn.func g) #[] #[]) := Blk.cell S2.out 2
  have z0 : V.cell? ⟨w.heap.size + 1, 0, none⟩ = some (.slice A ns.length ca) := Blk.cell S3.out 0
  have z1 : V.cell? ⟨w.heap.size + 1, 1, none⟩ = some (.slice B ps.length cb) := Blk.cell S3.out 1
  have z2 : V.cell? ⟨w.heap.size + 1, 2, none⟩ = some (.slice C os.length cc) := Blk.cell S3.out 2
  have z3 : V.cell? ⟨w.heap.size + 1, 3, none⟩ = some (.slice P p.length cp) := Blk.cell S3.out 3
  have k0 : V.cell? ⟨Nb, 0, none⟩ = some (.int .i64 (o : Int)) := Blk.cell S4.out 0
  go_wp2_with fail
  refine (HCL.out _ B1.out).mono ?_
  rintro e w2 ⟨rfl, hb2⟩
  have B2 := Lib.hid (B1.out.trans (hb2.mono B1.out.size))
  clear hb2
  go_wp2
  go_ret2
  exact ⟨rfl, B2.out⟩

end Go.Proofs.YtpdaohkpgconkaaGreat

namespace Go.Proofs.YtpdaohkpgconkaaGreat.La
open Go.RowKit

end Go.Proofs.YtpdaohkpgconkaaGreat.La

namespace Go.Proofs.YtpdaohkpgconkaaGreat.La
open Go.RowKit

abbrev Lab := List UInt8 × List UInt8
/-- The value of a key's first label. -/
def getL (l : List Lab) (k : List UInt8) : List UInt8 × Bool :=
  match l.find? (fun x => decide (x.1 = k)) with
  | some x => (x.2, true)
  | none => ([], false)

theorem find_take {l : List Lab} {k : List UInt8} {n : Nat} {x : Lab} (hx : l[n]? = some x) (h : (l.take n).find? (fun x => decide (x.1 = k)) = none) (hk : x.1 = k) : getL l k = (x.2, true) := by
  unfold getL
  have e : l = l.take n ++ x :: l.drop (n + 1) := by
    obtain ⟨hn, e⟩ := List.getElem?_eq_some_iff.1 hx
    rw [← e, ← List.drop_eq_getElem_cons hn, List.take_append_drop]
  rw [e, List.find?_append, h]
  simp [hk]
theorem find_no {l : List Lab} {k : List UInt8} {n : Nat} {x : Lab} (hx : l[n]? = some x) (h : (l.take n).find? (fun x => decide (x.1 = k)) = none) (hk : ¬ x.1 = k) : (l.take (n + 1)).find? (fun x => decide (x.1 = k)) = none := by
  rw [List.take_add_one, hx, List.find?_append, h]
  simp [hk]

theorem clone_any (l : List UInt8) (w : World) (h : l.length ≤ 1000) : Calls Tryz.prog 196 #[strV l] w fun e w' => e = .returned (strV l) ∧ Below w.heap.size w w' := by
  have K := Lib.hid (Tryz.stringslite_Clone ⟨l.toArray⟩ w (by
    show l.toArray.size ≤ _
    simp
    omega))
  go_enter Tryz.func196, Tryz.ntmps196
  go_wp2_with fail
  refine K.out.mono ?_
  rintro e w1 ⟨rfl, hb⟩
  have HB := Lib.hid hb
  clear hb
  go_wp2
  go_ret
  exact ⟨rfl, HB.out⟩

set_option maxRecDepth 100000 in
set_option maxHeartbeats 2000000 in
theorem get_any (A : Option Addr) (c : Nat) (l : List Lab) (k : List UInt8) (w : World) (hn : l.length ≤ 1000) (_hc : l.length ≤ c) (hs : SlAt w A (cellsL l)) (hbig : ∀ x ∈ l, x.2.length ≤ 1000) :
    Calls Tryz.prog 160 #[.slice A l.length c, strV k] w fun e w' => e = .returned (.tuple #[strV (getL l k).1, .bool (getL l k).2]) ∧ Below w.heap.size w w' := by
  have HS := Lib.hid hs
  have HBig := Lib.hid hbig
  clear hs hbig
  rcases hG : getL l k with ⟨g1, g2⟩
  have HG := Lib.hid hG
  simp only
  clear hG
  go_enter Tryz.func160, Tryz.ntmps160
  go_wp2
  go_loopw [10] (fun i wr => ∃ n : Nat, n ≤ l.length ∧ i = .int .i64 n ∧ (l.take n).find? (fun x => decide (x.1 = k)) = none ∧ Below w.heap.size w wr) (fun i _ => l.length - (intOf i).toNat)
  case atStart => exact ⟨0, by omega, rfl, rfl, Below.refl _ _⟩
  case round =>
    obtain ⟨n, hnl, rfl, hno, hbw⟩ := hrel
    have HB := Lib.hid hbw
    have HNo := Lib.hid hno
    clear hbw hno
    by_cases hlt : n < l.length
    · obtain ⟨x, hx⟩ : ∃ x, l[n]? = some x := ⟨l[n], List.getElem?_eq_getElem hlt⟩
      obtain ⟨b, o, hA, hb, hy⟩ := SlAt.lab (HS.out.below HB.out) hx
      subst hA
      obtain ⟨y0, y1⟩ := hy
      have n0 : (0 : Int) ≤ (n : Int) := by omega
      have n1 : (n : Int) < (l.length : Int) := by omega
      have HX := Lib.hid hx
      have hB2 := Lib.hid (HB.out.alloc HB.out.size (.cells #[strV x.1, strV x.2] 29))
      clear hx
      by_cases hq : x.1 = k
      · have KC := Lib.hid (fun w => clone_any x.2 w (HBig.out x (List.mem_of_getElem? HX.out)))
        have hq2 := find_take HX.out HNo.out hq
        rw [HG.out] at hq2
        simp only [Prod.mk.injEq] at hq2
        obtain ⟨rfl, rfl⟩ := hq2
        subst hq
        go_wp2_with fail
        refine (KC.out _).mono ?_
        rintro e w2 ⟨rfl, hb⟩
        have HB3 := Lib.hid (hB2.out.trans (hb.mono hB2.out.size))
        clear hb
        go_wp2
        go_ret2
        exact ⟨rfl, HB3.out⟩
      · have hqb : (x.1 == k) = false := by simpa using hq
        have HF := Lib.hid (find_no HX.out HNo.out hq)
        have HQ := Lib.hid hq
        clear hq
        go_wp2
        go_roundw
        case rel => exact ⟨n + 1, by omega, by go_num, HF.out, hB2.out⟩
        case measure => simp [intOf]; omega
    · obtain rfl : n = l.length := by omega
      have e : getL l k = ([], false) := by
        have := HNo.out
        rw [List.take_length] at this
        unfold getL
        rw [this]
      rw [HG.out] at e
      simp only [Prod.mk.injEq] at e
      obtain ⟨rfl, rfl⟩ := e
      go_wp2
      go_ret2
      exact ⟨rfl, HB.out⟩
end Go.Proofs.YtpdaohkpgconkaaGreat.La

namespace Go.Proofs.YtpdaohkpgconkaaGreat
open Go.RowKit

theorem placeE_chk {ns : List NodeD} {ps : List PodD} {os : List OwnD} {p : List Int} (hE : placeE ns ps os p = 0) : checkS ns ps os = 0 := by
  unfold placeE at hE
  split at hE
  · assumption
  · exact hE
theorem getL_getO (l : List L2) (k : List UInt8) : La.getL l k = ((getO l k).getD [], (getO l k).isSome) := by
  unfold La.getL getO
  cases l.find? (fun x => decide (x.1 = k)) <;> rfl
theorem valK_up {x : NodeD} (h : x.lost = false) (k : List UInt8) : valK x k = getO x.labels k := by
  unfold valK getO
  rw [h]
  rfl
theorem tpB_up {ns : List NodeD} {q : Nat} {x : NodeD} (h : tpB ns (q : Int) = true) (hx : ns[q]? = some x) : x.lost = false := by
  unfold tpB at h
  rw [Int.toNat_natCast, hx] at h
  simp only [Bool.and_eq_true, decide_eq_true_eq] at h
  simpa using h.2
theorem node_vals {ns : List NodeD} {ps : List PodD} {os : List OwnD} (h : checkS ns ps os = 0) {x : NodeD} (hx : x ∈ ns) : ∀ y ∈ x.labels, y.2.length ≤ 1000 := by
  intro y hy
  unfold checkS at h
  split at h
  · rename_i hc
    unfold clusB at hc
    simp only [Bool.and_eq_true, List.all_eq_true] at hc
    have h1 := hc.1.1.2 x hx
    unfold nodeB at h1
    simp only [Bool.and_eq_true, beq_iff_eq] at h1
    have h2 := chkK_all h1.1.2 y hy
    unfold La.labB at h2
    simp only [Bool.and_eq_true] at h2
    have h3 := h2.2
    unfold La.valueB at h3
    simp only [Bool.and_eq_true, decide_eq_true_eq] at h3
    have := span15 La.okVal y.2 0 (by omega)
    omega
  · cases h
theorem terms_few {ns : List NodeD} {ps : List PodD} {os : List OwnD} (h : checkS ns ps os = 0) {x : PodD} (hx : x ∈ ps) : x.wtm.length ≤ 6 ∧ x.apm.length ≤ 6 := by
  unfold checkS at h
  split at h
  · rename_i hc
    unfold clusB at hc
    simp only [Bool.and_eq_true, List.all_eq_true] at hc
    have h1 := (hc.1.2 x hx).1
    unfold podB at h1
    simp only [Bool.and_eq_true, beq_iff_eq] at h1
    have hn : ∀ (t : List UInt8) (l : List T3), nearB t l = true → l.length ≤ 6 := by
      intro t l hb
      unfold nearB at hb
      split at hb
      · have : l.length = 0 := by simpa using hb
        omega
      · simp only [Bool.and_eq_true, beq_iff_eq] at hb
        exact chk_few hb.2
    exact ⟨hn _ _ h1.1.2, hn _ _ h1.2⟩
  · cases h
/-- How many terms do not hold, by the program's words. -/
theorem termsO_holds (ts : List T3) (l : List L2) (hp : l.Pairwise (fun x y => x.1 ≠ y.1)) : termsO ts l = numL (fun t => !La.holdsL [t] l) ts := by
  unfold termsO
  congr 1
  funext t
  rw [holdO_eq l hp t]
  simp [La.holdsL]

/-- The pods near a pod that are of terms, itself too, of the first k. -/
def nearP (ns : List NodeD) (ps : List PodD) (p : List Int) (pod : Nat) (topo : List UInt8) (terms : List T3) : Nat → List Int
  | 0 => []
  | k + 1 => nearP ns ps p pod topo terms k ++ (if aboutB ns ps p pod topo terms false k then [(k : Int)] else [])
theorem nearP_len (ns : List NodeD) (ps : List PodD) (p : List Int) (pod : Nat) (topo : List UInt8) (terms : List T3) : ∀ k, (nearP ns ps p pod topo terms k).length = aboutU ns ps p pod topo terms false k
  | 0 => rfl
  | k + 1 => by
    rw [nearP, aboutU, List.length_append, nearP_len ns ps p pod topo terms k]
    split <;> rfl
theorem aboutB_others (ns : List NodeD) (ps : List PodD) (p : List Int) (pod : Nat) (topo : List UInt8) (terms : List T3) (k : Nat) : aboutB ns ps p pod topo terms true k = (!decide (k = pod) && aboutB ns ps p pod topo terms false k) := by
  unfold aboutB
  cases p[k]? with
  | none => simp
  | some x =>
    cases p[pod]? with
    | none => simp
    | some xp =>
      cases ps[k]? with
      | none => simp
      | some y =>
        dsimp only
        cases decide (0 ≤ x) <;> cases decide (k = pod) <;> simp
theorem nearP_others (ns : List NodeD) (ps : List PodD) (p : List Int) (pod : Nat) (topo : List UInt8) (terms : List T3) : ∀ k, numL (fun x : Int => !decide (x = (pod : Int))) (nearP ns ps p pod topo terms k) = aboutU ns ps p pod topo terms true k
  | 0 => rfl
  | k + 1 => by
    have ih := nearP_others ns ps p pod topo terms k
    unfold numL at ih ⊢
    rw [nearP, aboutU, List.filter_append, List.length_append, ih, aboutB_others]
    by_cases hk : k = pod
    · subst hk
      cases aboutB ns ps p k topo terms false k <;> simp
    · have hk2 : ¬ (k : Int) = (pod : Int) := by omega
      cases aboutB ns ps p pod topo terms false k <;> simp [hk, hk2]
theorem nearP_none {ns : List NodeD} {ps : List PodD} {p : List Int} {pod q : Nat} {topo : List UInt8} {terms : List T3} {xb : NodeD} (hp : p[pod]? = some (q : Int)) (hb : ns[q]? = some xb) (hv : valK xb topo = none) : ∀ k, nearP ns ps p pod topo terms k = []
  | 0 => rfl
  | k + 1 => by
    have : aboutB ns ps p pod topo terms false k = false := by
      unfold aboutB
      rw [hp]
      cases p[k]? with
      | none => rfl
      | some x =>
        cases ps[k]? with
        | none => rfl
        | some y =>
          dsimp only
          rw [Int.toNat_natCast, hb]
          cases ns[x.toNat]? with
          | none => simp
          | some a =>
            have : nearO a xb topo = false := by
              unfold nearO
              rw [hv]
              cases valK a topo <;> rfl
            simp [this]
    rw [nearP, nearP_none hp hb hv k, this]
    rfl
end Go.Proofs.YtpdaohkpgconkaaGreat

namespace Go.Proofs.YtpdaohkpgconkaaGreat
open Go.RowKit

theorem slT10 {W : World} {b : Nat} {c : TypeId} (t : T3) (hb : Blk W b #[.int .i64 t.1, strV t.2.1, strV t.2.2] c) : La.SlAt W (some ⟨b, 0, none⟩) (La.cellsT [t]) := by
  intro j v hj
  refine ⟨b, 0, rfl, ?_⟩
  rw [Nat.zero_add]
  match j, hj with
  | 0, hj => rw [← show some (.int .i64 t.1) = some v from hj]; exact Blk.cell hb 0
  | 1, hj => rw [← show some (strV t.2.1) = some v from hj]; exact Blk.cell hb 1
  | 2, hj => rw [← show some (strV t.2.2) = some v from hj]; exact Blk.cell hb 2
theorem slT1 (V : World) (t : T3) (c : TypeId) : La.SlAt (V.alloc (.cells #[.int .i64 t.1, strV t.2.1, strV t.2.2] c)).drew (some ⟨V.heap.size, 0, none⟩) (La.cellsT [t]) := slT10 t (Blk.drew (Blk.new V _ _))
theorem slT1D (V : World) (t : T3) (c : TypeId) : La.SlAt (V.drew.alloc (.cells #[.int .i64 t.1, strV t.2.1, strV t.2.2] c)) (some ⟨V.drew.heap.size, 0, none⟩) (La.cellsT [t]) := slT10 t (Blk.new V.drew _ _)
theorem slT1E (V : World) (t : T3) (c : TypeId) : La.SlAt (V.alloc (.cells #[.int .i64 t.1, strV t.2.1, strV t.2.2] c)) (some ⟨V.heap.size, 0, none⟩) (La.cellsT [t]) := slT10 t (Blk.new V _ _)

set_option maxRecDepth 100000 in
set_option maxHeartbeats 8000000 in
theorem notWhere_any (A B C P : Option Addr) (ca cb cc cp : Nat) (ns : List NodeD) (ps : List PodD) (os : List OwnD) (p : List Int) (i q : Nat) (x : PodD) (n : NodeD) (hE : placeE ns ps os p = 0) (hi : p[i]? = some (q : Int)) (hx : ps[i]? = some x) (hn : ns[q]? = some n) (w : World) (h : SnapAt w A B C ca cb cc ns ps os) (hp : IntsAt w P cp p) :
    Calls Tryz.prog 88 #[viewV A B C P ca cb cc cp ns ps os p, .int .i64 (i : Int)] w fun e w' => e = .returned (.tuple #[.int .i64 (termsO x.whr n.labels : Int), .bool true]) ∧ Below w.heap.size w w' := by
  have hxm := List.mem_of_getElem? hx
  have hnm := List.mem_of_getElem? hn
  obtain ⟨nk1, nk2, nk3⟩ := node_keys (placeE_chk hE) hnm
  obtain ⟨pk1, pk2, pk3, pk4⟩ := pod_keys (placeE_chk hE) hxm
  have B0 : Hid (Below w.heap.size w (w.alloc (.cells (viewC A B C P ca cb cc cp ns ps os p) 105))) := Lib.hid (below1 w _)
  have S0 : Hid (Blk (w.alloc (.cells (viewC A B C P ca cb cc cp ns ps os p) 105)) w.heap.size (viewC A B C P ca cb cc cp ns ps os p) 105) := Lib.hid (Blk.new w _ _)
  have i0 : (0 : Int) ≤ (i : Int) := by omega
  have i1 : (i : Int) < (p.length : Int) := by have := (List.getElem?_eq_some_iff.1 hi).1; omega
  have i2 : (i : Int) < (ps.length : Int) := by have := (List.getElem?_eq_some_iff.1 hx).1; omega
  have q1 : (0 : Int) ≤ (q : Int) := by omega
  have q2 : (q : Int) < (ns.length : Int) := by have := (List.getElem?_eq_some_iff.1 hn).1; omega
  have E : Hid (termsO x.whr n.labels = numL (fun t => !La.holdsL [t] n.labels) x.whr) := Lib.hid (termsO_holds _ _ nk1)
  obtain ⟨bp, op, hAp, _, _⟩ := atI hp.cells hi
  subst hAp
  obtain ⟨b, o, hB, _⟩ := atP h.p.cells hx
  subst hB
  obtain ⟨bn, on, hA, _⟩ := atN h.n.cells hn
  subst hA
  have HPC : Hid (∀ W', Below w.heap.size w W' → W'.cell? ⟨bp, op + i, none⟩ = some (.int .i64 (q : Int))) := Lib.hid (fun W' hb => by
    obtain ⟨b', o', hA', _, hc⟩ := atI (hp.below hb).cells hi
    cases hA'
    exact hc)
  have PC := Lib.hid (fun W' (hb : Below w.heap.size w W') => (by
    obtain ⟨b', o', hA', _, c0, c1, c2, c3, c4, c5, c6, c7, c8, c9, _⟩ := atP (h.below hb).p.cells hx
    cases hA'
    exact ⟨c8, c9⟩ : W'.cell? ⟨b, o + i * 15 + 8, none⟩ = some (.slice x.aw x.whr.length x.cw) ∧ W'.cell? ⟨b, o + i * 15 + 9, none⟩ = some (.slice x.ab x.bears.length x.cb)))
  have NC := Lib.hid (fun W' (hb : Below w.heap.size w W') => (by
    obtain ⟨b', o', hA', _, c0, c1, c2, c3, c4, c5, c6, c7, _⟩ := atN (h.below hb).n.cells hn
    cases hA'
    exact ⟨c6, c7⟩ : W'.cell? ⟨bn, on + q * 10 + 6, none⟩ = some (.slice n.al n.labels.length n.cl) ∧ W'.cell? ⟨bn, on + q * 10 + 7, none⟩ = some (.slice n.at_ n.taints.length n.ct)))
  have XF := Lib.hid (fun W' (hb : Below w.heap.size w W') => (h.below hb).p.fit x hxm)
  have NF := Lib.hid (fun W' (hb : Below w.heap.size w W') => (h.below hb).n.fit n hnm)
  have HPL := Lib.hid (placeE_len hE)
  generalize termsO x.whr n.labels = R at E ⊢
  clear h hp hE hi hx hn hxm hnm
  go_enter Tryz.func88, Tryz.ntmps88
  obtain ⟨W, hW⟩ : ∃ W, (w.alloc (.cells (viewC (some ⟨bn, on, none⟩) (some ⟨b, o, none⟩) C (some ⟨bp, op, none⟩) ca cb cc cp ns ps os p) 105)) = W := ⟨_, rfl⟩
  rw [hW] at B0 S0
  go_upto_region 1 with fail
  try rw [show (w.alloc (.cells #[.slice (some ⟨bn, on, none⟩) ns.length ca, .slice (some ⟨b, o, none⟩) ps.length cb, .slice C os.length cc, .slice (some ⟨bp, op, none⟩) p.length cp] 105)) = W from hW]
  clear hW
  have HZ := Lib.hid (fun W' (hb : Below W.heap.size W W') => (show W'.cell? ⟨w.heap.size, 0, none⟩ = some (.slice (some ⟨bn, on, none⟩) ns.length ca) ∧ W'.cell? ⟨w.heap.size, 1, none⟩ = some (.slice (some ⟨b, o, none⟩) ps.length cb) ∧ W'.cell? ⟨w.heap.size, 2, none⟩ = some (.slice C os.length cc) ∧ W'.cell? ⟨w.heap.size, 3, none⟩ = some (.slice (some ⟨bp, op, none⟩) p.length cp) from ⟨Blk.cell (S0.out.below hb S0.out.lt) 0, Blk.cell (S0.out.below hb S0.out.lt) 1, Blk.cell (S0.out.below hb S0.out.lt) 2, Blk.cell (S0.out.below hb S0.out.lt) 3⟩))
  have HT := Lib.hid (fun W' (hb : Below W.heap.size W W') => B0.out.trans (hb.mono B0.out.size))
  clear B0 S0
  obtain ⟨z0, z1, z2, z3⟩ := HZ.out _ (Below.refl _ W)
  have pk := HPC.out _ (HT.out _ (Below.refl _ W))
  obtain ⟨x8, x9⟩ := PC.out _ (HT.out _ (Below.refl _ W))
  obtain ⟨n6, n7⟩ := NC.out _ (HT.out _ (Below.refl _ W))
  go_wp2_with fail

  clear z0 z1 z2 z3 pk x8 x9 n6 n7
  go_loopw [4, 16] (fun c j wr => ∃ k : Nat, k ≤ x.whr.length ∧ j = .int .i64 (k : Int) ∧ c = .int .i64 ((numL (fun t => !La.holdsL [t] n.labels) (x.whr.take k) : Nat) : Int) ∧ Below W.heap.size W wr) (fun _ j _ => x.whr.length - (intOf j).toNat)
  case atStart => exact ⟨0, by omega, rfl, rfl, by first | exact Below.refl _ _ | exact below_drewN (Below.refl _ _) _ | exact (Below.refl _ _).drew⟩
  case round =>
    obtain ⟨k, hk, rfl, rfl, hb⟩ := hrel
    have HB := Lib.hid hb
    clear hb
    by_cases hlt : k < x.whr.length
    case neg =>
      obtain rfl : k = x.whr.length := by omega
      rw [List.take_length, ← E.out]
      go_wp2
      go_ret2
      exact ⟨rfl, HT.out _ HB.out⟩
    obtain ⟨t, ht⟩ : ∃ t, x.whr[k]? = some t := ⟨x.whr[k], List.getElem?_eq_getElem hlt⟩
    have HTt := Lib.hid ht
    have HS := Lib.hid (numL_snoc (fun t => !La.holdsL [t] n.labels) ht)
    have hnl := numL_le (fun t => !La.holdsL [t] n.labels) (x.whr.take k)
    rw [List.length_take] at hnl
    generalize numL (fun t => !La.holdsL [t] n.labels) (x.whr.take k) = m at HS hnl ⊢
    have k0 : (0 : Int) ≤ (k : Int) := by omega
    have k1 : (k : Int) < (x.whr.length : Int) := by omega
    obtain ⟨bt, ot, hAt, _, t0, t1, t2⟩ := La.SlAt.ter ((XF.out _ (HT.out _ HB.out)).wh.cells) ht
    go_upto_region 4 with fail
    have TB : Hid (Blk (wr.alloc (.cells #[.int .i64 t.1, strV t.2.1, strV t.2.2] 38)) wr.heap.size #[.int .i64 t.1, strV t.2.1, strV t.2.2] 38) := Lib.hid (Blk.new wr _ _)
    have HBV : Hid (Below W.heap.size W (wr.alloc (.cells #[.int .i64 t.1, strV t.2.1, strV t.2.2] 38))) := Lib.hid (HB.out.alloc HB.out.size _)
    try change Code.wp _ _ _ _ (wr.alloc (.cells #[.int .i64 t.1, strV t.2.1, strV t.2.2] 38))
    generalize (wr.alloc (.cells #[.int .i64 t.1, strV t.2.1, strV t.2.2] 38)) = V at TB HBV ⊢
    generalize wr.heap.size = Nb at TB ⊢
    have SF : Hid (∀ w', Below V.heap.size V w' → w'.cell? ⟨Nb, 0, none⟩ = some (.int .i64 t.1) ∧ w'.cell? ⟨Nb, 1, none⟩ = some (strV t.2.1) ∧ w'.cell? ⟨Nb, 2, none⟩ = some (strV t.2.2) ∧ w'.cell? ⟨w.heap.size, 0, none⟩ = some (.slice (some ⟨bn, on, none⟩) ns.length ca) ∧ w'.cell? ⟨w.heap.size, 3, none⟩ = some (.slice (some ⟨bp, op, none⟩) p.length cp) ∧ w'.cell? ⟨bp, op + i, none⟩ = some (.int .i64 (q : Int)) ∧ w'.cell? ⟨bn, on + q * 10 + 6, none⟩ = some (.slice n.al n.labels.length n.cl)) := Lib.hid (fun w' hb => by
      have hbW := HBV.out.trans (hb.mono HBV.out.size)
      obtain ⟨z0, z1, z2, z3⟩ := HZ.out _ hbW
      have pk := HPC.out _ (HT.out _ hbW)
      obtain ⟨x8, x9⟩ := PC.out _ (HT.out _ hbW)
      obtain ⟨n6, n7⟩ := NC.out _ (HT.out _ hbW)
      exact ⟨Blk.cell (TB.out.below hb TB.out.lt) 0, Blk.cell (TB.out.below hb TB.out.lt) 1, Blk.cell (TB.out.below hb TB.out.lt) 2, z0, z3, pk, n6⟩)
    have KH := Lib.hid (fun W' (hb : Below V.heap.size V W') (N' : Nat) (hT : La.SlAt W' (some ⟨N', 0, none⟩) (La.cellsT [t])) => La.holds_any (some ⟨N', 0, none⟩) n.al 1 n.cl [t] n.labels W' (by simp) (by simp) (by omega) (NF.out _ (HT.out _ (HBV.out.trans (hb.mono HBV.out.size)))).l.le hT (NF.out _ (HT.out _ (HBV.out.trans (hb.mono HBV.out.size)))).l.cells)
    clear t0 t1 t2 hAt
    go_region_held3 (fun w' => w'.cell? ⟨Nb, 0, none⟩ = some (.int .i64 t.1) ∧ w'.cell? ⟨Nb, 1, none⟩ = some (strV t.2.1) ∧ w'.cell? ⟨Nb, 2, none⟩ = some (strV t.2.2) ∧ w'.cell? ⟨w.heap.size, 0, none⟩ = some (.slice (some ⟨bn, on, none⟩) ns.length ca) ∧ w'.cell? ⟨w.heap.size, 3, none⟩ = some (.slice (some ⟨bp, op, none⟩) p.length cp) ∧ w'.cell? ⟨bp, op + i, none⟩ = some (.int .i64 (q : Int)) ∧ w'.cell? ⟨bn, on + q * 10 + 6, none⟩ = some (.slice n.al n.labels.length n.cl)) (exact SF.out _ (by go_grown))
      (first
        | (go_at_call 124
           refine (KH.out _ (by go_grown) _ (by first | exact slT1 V t _ | exact slT1D V t _ | exact slT1E V t _)).mono ?_
           rintro e wA ⟨rfl, hbA⟩
           have D3 : Below V.heap.size V wA := Below.trans (by go_grown) (hbA.mono (by go_grown))
           clear hbA))
    all_goals
      have HB3 := Lib.hid (HBV.out.trans (D3.mono HBV.out.size))
      clear D3 SF KH TB HBV
      cases hv : La.holdsL [t] n.labels with
      | true =>
        have HE : Hid (numL (fun t => !La.holdsL [t] n.labels) (x.whr.take (k + 1)) = m) := Lib.hid (by rw [HS.out, hv]; simp)
        clear HS
        go_wp2_with fail
        go_roundw
        case rel => exact ⟨k + 1, by omega, by go_num, by rw [HE.out], HB3.out⟩
        case measure => simp [intOf]; omega
      | false =>
        have HE : Hid (numL (fun t => !La.holdsL [t] n.labels) (x.whr.take (k + 1)) = m + 1) := Lib.hid (by rw [HS.out, hv]; simp)
        have hwm : IntKind.i64.wrap ((m : Int) + 1) = (m : Int) + 1 := IntWalk.i64_in _ (by omega)
        clear HS
        go_wp2_with fail
        go_roundw
        case rel => exact ⟨k + 1, by omega, by go_num, by rw [HE.out]; simp, HB3.out⟩
        case measure => simp [intOf]; omega
end Go.Proofs.YtpdaohkpgconkaaGreat
