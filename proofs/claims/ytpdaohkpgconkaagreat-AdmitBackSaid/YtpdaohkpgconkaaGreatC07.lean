/- What Counts, Spread and Placed tell of one owner: numbers only. Condition: the placement may be. What the pods of a node ask for, as the document says it: contracts. Condition: the cluster and the numbers lie in memory. Used, Counts and Placed as the document says them: contracts. Condition: the cluster and the numbers lie in memory. Counts and Placed as the document says them: contracts. Condition: the cluster and the numbers lie in memory. What Holds and Bears answer, as plain functions. Condition: the lists lie in memory. What the document says of terms and of what is borne: contracts. Condition: the lists lie in memory. The document's word on a term is the program's, where a list's keys differ. In numbers and texts only. Of a cluster that may be, a node's and a pod's labels have keys that differ, and are few. In numbers and texts only. The program's rule for ClauseMin: belowMin. A contract. Condition: the cluster and the numbers lie in memory. What the document counts for the clauses of a pod: terms, taints, single, doubles. Contracts. Condition: the cluster and the numbers lie in memory. What the document counts for the clauses of a pod: taints, single, doubles. Contracts. Condition: the cluster and the numbers lie in memory. How many pods of an owner run in each domain: what the document sums is what the program counts. No conditions. Spread as the document says it: contracts. Condition: the cluster and the numbers lie in memory. By how much an owner's spread is too great, by the document's words: skew. A contract. Condition: the cluster and the numbers lie in memory. A list of clauses as a value; Same, by the document's words, of two that are the same. No conditions but that they lie in memory. -/
import Derived.Test.YtpdaohkpgconkaaGreatC06

namespace Go.Proofs.YtpdaohkpgconkaaGreat
open Go.RowKit Go.Shelf Go.Maps Go.Sort

theorem members_in (ps : List PodD) (name : List UInt8) : ∀ n, ∀ y ∈ membersU ps name n, 0 ≤ y ∧ y < (n : Int)
  | 0, y, h => by cases h
  | n + 1, y, h => by
    rw [membersU, List.mem_append] at h
    rcases h with h | h
    · have := members_in ps name n y h
      omega
    · cases hn : ps[n]? with
      | none => rw [hn] at h; cases h
      | some x =>
        rw [hn] at h
        dsimp only at h
        by_cases e : x.owner = name
        · rw [if_pos e] at h
          simp only [List.mem_singleton] at h
          omega
        · rw [if_neg e] at h
          cases h
theorem off_in {ns : List NodeD} {ps : List PodD} {os : List OwnD} {p : List Int} (hE : placeE ns ps os p = 0) (name : List UInt8) : ∀ y ∈ offL p (membersF ps name), ∃ x, p[y]? = some x ∧ 0 ≤ x ∧ x < (ns.length : Int) := by
  intro y hy
  unfold offL at hy
  obtain ⟨h1, h2⟩ := List.mem_filter.1 hy
  obtain ⟨z, hz, rfl⟩ := List.mem_map.1 h1
  have h3 := members_in ps name ps.length z hz
  have hl := placeE_len hE
  have hlt : z.toNat < p.length := by omega
  refine ⟨p[z.toNat], List.getElem?_eq_getElem hlt, ?_⟩
  have h4 : p[z.toNat] ≠ -1 := by
    intro e
    rw [List.getElem?_eq_getElem hlt, e] at h2
    simp at h2
  obtain ⟨n, hn, hn2⟩ := tpB_lt (placeE_on hE (List.getElem?_eq_getElem hlt) h4)
  omega

theorem sums_of {ns : List NodeD} {ps : List PodD} {os : List OwnD} {p : List Int} (hE : placeE ns ps os p = 0) (hl : ps.length ≤ 1000) {j : Nat} {x : OwnD} (hx : os[j]? = some x) :
    (countsF ns ps os p j).length = ns.length ∧ (spreadF ns ps os p j).length = (domsF ns ps os x.topo).length ∧ (countsF ns ps os p j).sum = placedF ns ps os p j ∧ placedF ns ps os p j ≤ 1000 ∧ (spreadF ns ps os p j).sum ≤ placedF ns ps os p j ∧ (∀ z ∈ countsF ns ps os p j, 0 ≤ z) ∧ ∀ z ∈ spreadF ns ps os p j, 0 ≤ z := by
  have hj := (List.getElem?_eq_some_iff.1 hx).1
  have hO : ownerB ns ps os p (j : Int) = true := by
    unfold ownerB
    rw [decide_eq_true hE, decide_eq_true (by omega)]
    rfl
  have hC : checkS ns ps os = 0 := (placeE_zero hE).1
  have e1 : ofF ps os p (j : Int) = offL p (membersF ps x.name) := by
    unfold ofF
    rw [Int.toNat_natCast, hx]
  have e2 : countsF ns ps os p (j : Int) = cntL ns.length p (offL p (membersF ps x.name)) := by
    unfold countsF
    rw [if_pos hO, e1]
  have e3 : placedF ns ps os p (j : Int) = ((offL p (membersF ps x.name)).length : Int) := by
    unfold placedF
    rw [if_pos hO, e1]
  have e4 : spreadF ns ps os p (j : Int) = rowD (spreadD ns x.topo p (offL p (membersF ps x.name))) := by
    unfold spreadF
    rw [if_pos hO, Int.toNat_natCast, hx]
  have e5 : domsF ns ps os x.topo = sortK (emptyD ns x.topo) := by
    unfold domsF
    rw [if_pos hC]
  have hle : (offL p (membersF ps x.name)).length ≤ 1000 := Nat.le_trans (offL_len _ _) (Nat.le_trans (membersU_len ps x.name ps.length) hl)
  have hS := spread_all ns x.topo p (offL p (membersF ps x.name)) hle
  have hin := off_in hE x.name
  rw [e2, e3, e4, e5]
  generalize offL p (membersF ps x.name) = ys at hle hS hin
  refine ⟨cntL_len _ _ _, ?_, cnt_sum _ _ _ hin, by omega, ?_, cnt_pos _ _ _, ?_⟩
  · unfold rowD
    rw [List.length_map]
    unfold sortK
    rw [List.length_mergeSort, List.length_mergeSort]
    exact hS.keys.length_eq
  · rw [rowD_sum]
    exact hS.sum
  · intro z hz
    unfold rowD at hz
    obtain ⟨v, _, rfl⟩ := List.mem_map.1 hz
    exact (hS.vals v).1
end Go.Proofs.YtpdaohkpgconkaaGreat

namespace Go.Proofs.YtpdaohkpgconkaaGreat
open Go.RowKit Go.Maps Go.Sort

theorem atP_req {w : World} {b o k : Nat} {x : PodD} (c2 : w.cell? ⟨b, o + k * 15 + 2, none⟩ = some (.int .i64 (x.req 0))) (c3 : w.cell? ⟨b, o + k * 15 + 3, none⟩ = some (.int .i64 (x.req 1))) (c4 : w.cell? ⟨b, o + k * 15 + 4, none⟩ = some (.int .i64 (x.req 2))) (c5 : w.cell? ⟨b, o + k * 15 + 5, none⟩ = some (.int .i64 (x.req 3))) (c6 : w.cell? ⟨b, o + k * 15 + 6, none⟩ = some (.int .i64 (x.req 4))) :
    ∀ j, j < 5 → w.cell? ⟨b, o + k * 15 + 2 + j, none⟩ = some (.int .i64 (x.req j)) := fun j hj => by
  match j, hj with
  | 0, _ => exact c2
  | 1, _ => exact c3
  | 2, _ => exact c4
  | 3, _ => exact c5
  | 4, _ => exact c6

set_option maxRecDepth 100000 in
set_option maxHeartbeats 4000000 in
theorem usedOf7_any (A B C P : Option Addr) (ca cb cc cp : Nat) (ns : List NodeD) (ps : List PodD) (os : List OwnD) (p : List Int) (node : Int) (w : World) (h : SnapAt w A B C ca cb cc ns ps os) (hp : IntsAt w P cp p) (hpl : p.length = ps.length) :
    Calls Tryz.prog 95 #[snapV A B C ca cb cc ns ps os, .slice P p.length cp, .int .i64 node] w fun e w' => e = .returned (rowV (addW ps (onU p node p.length))) ∧ Below w.heap.size w w' := by
  have hlp := h.lp
  have H := Lib.hid h
  have HP := Lib.hid hp
  have B0 : Hid (Below w.heap.size w (((w.alloc (.cells (snapC A B C ca cb cc ns ps os) 26)).alloc (.cells zer5 32)).alloc (.cells zer5 32))) := Lib.hid ((Qu.below2 w _ _).alloc (by simp; omega) _)
  have S0 : Hid (Blk (((w.alloc (.cells (snapC A B C ca cb cc ns ps os) 26)).alloc (.cells zer5 32)).alloc (.cells zer5 32)) w.heap.size (snapC A B C ca cb cc ns ps os) 26) := Lib.hid (Blk.alloc (Blk.alloc (Blk.new w _ _) _) _)
  have R0 : Hid (Blk (((w.alloc (.cells (snapC A B C ca cb cc ns ps os) 26)).alloc (.cells zer5 32)).alloc (.cells zer5 32)) (w.heap.size + 1) zer5 32) := Lib.hid (Blk.alloc (blk2 w _ _ _) _)
  have U0 : Hid (Qu.RowAt (((w.alloc (.cells (snapC A B C ca cb cc ns ps os) 26)).alloc (.cells zer5 32)).alloc (.cells zer5 32)) (w.heap.size + 1 + 1) (addW ps (onU p node 0))) := Lib.hid (blk3 w _ _ _ _)
  clear h hp
  go_enter Tryz.func95, Tryz.ntmps95
  go_wp2_with fail
  change Code.wp _ _ _ _ (((w.alloc (.cells (snapC A B C ca cb cc ns ps os) 26)).alloc (.cells zer5 32)).alloc (.cells zer5 32))
  generalize (((w.alloc (.cells (snapC A B C ca cb cc ns ps os) 26)).alloc (.cells zer5 32)).alloc (.cells zer5 32)) = W0 at B0 S0 R0 U0 ⊢
  go_loopw [8] (fun i wr => ∃ k : Nat, k ≤ p.length ∧ i = .int .i64 k ∧ Blk wr w.heap.size (snapC A B C ca cb cc ns ps os) 26 ∧ Blk wr (w.heap.size + 1) zer5 32 ∧ Qu.RowAt wr (w.heap.size + 1 + 1) (addW ps (onU p node k)) ∧ Below w.heap.size w wr) (fun i _ => p.length - (intOf i).toNat)
  case atStart => exact ⟨0, by omega, rfl, S0.out, R0.out, U0.out, B0.out⟩
  case round =>
    clear S0 R0 U0 B0
    obtain ⟨k, hk, rfl, hS, hR, hU, hB⟩ := hrel
    have HS := Lib.hid hS
    have HR := Lib.hid hR
    have HU := Lib.hid hU
    have HB := Lib.hid hB
    clear hS hR hU hB
    by_cases hlt : k < p.length
    case neg =>
      obtain rfl : k = p.length := by omega
      go_wp2_with (first | refine wpList_load_row rfl 32 (.tmp 7) rfl (w.heap.size + 1 + 1) rfl 32 _ (0, 0) _ HU.out Tryz.underlying32 rfl Qu.vec_size ?_ | refine wpList_store_row rfl 32 (.tmp 6) (.tmp 42) rfl (w.heap.size + 1) _ rfl rfl 32 _ HR.out Qu.vec_size (by kernel_rfl) (by kernel_rfl) ?_)
      refine bodyPost_row1 Tryz.results95 (w.heap.size + 1) _ _ _ _ ?d1 ?p1 (Blk.put HR.out #[.int .i64 (addW ps (onU p node p.length) 0), .int .i64 (addW ps (onU p node p.length) 1), .int .i64 (addW ps (onU p node p.length) 2), .int .i64 (addW ps (onU p node p.length) 3), .int .i64 (addW ps (onU p node p.length) 4)]) Tryz.underlying32 rfl Qu.vec_size ?_
      case d1 => rfl
      case p1 => rfl
      exact ⟨rfl, below_setRow HB.out (by omega) _⟩
    obtain ⟨x, hx⟩ : ∃ x, p[k]? = some x := ⟨p[k], List.getElem?_eq_getElem hlt⟩
    obtain ⟨bp, op, hAp, hbp, hcp⟩ := atI (HP.out.below HB.out).cells hx
    subst hAp
    obtain ⟨y, hy⟩ : ∃ y, ps[k]? = some y := ⟨ps[k]'(by omega), List.getElem?_eq_getElem _⟩
    obtain ⟨b, o, hA, hbl, c0, c1, c2, c3, c4, c5, c6, c7, c8, c9, c10, c11, c12, c13, c14⟩ := atP (H.out.below HB.out).p.cells hy
    subst hA
    have k0 : (0 : Int) ≤ (k : Int) := by omega
    have k1 : (k : Int) < (p.length : Int) := by omega
    have k2 : (k : Int) < (ps.length : Int) := by omega
    have HX := Lib.hid hx
    have HY := Lib.hid hy
    clear hx hy c0 c1 c2 c3 c4 c5 c6 c7 c8 c9 c10 c11 c12 c13 c14
    by_cases hxn : x = node
    case neg =>
      have hxb : (x == node) = false := by simpa using hxn
      have HE : Hid (onU p node (k + 1) = onU p node k) := Lib.hid (by
        rw [onU, HX.out, if_neg (by simpa using hxn), List.append_nil])
      go_wp2_with fail
      go_loopw [9] (fun i wq => wr = wq ∧ i = .int .i64 0) (fun i _ => 0)
      case atStart => exact ⟨rfl, rfl⟩
      case round =>
        obtain ⟨rfl, rfl⟩ := hrel
        go_wp2_with fail
        go_roundw
        case rel => exact ⟨k + 1, by omega, by go_num, HS.out, HR.out, by rw [HE.out]; exact HU.out, HB.out⟩
        case measure => simp [intOf]; omega
    case pos =>
      subst hxn
      have HE : Hid (onU p x (k + 1) = onU p x k ++ [k]) := Lib.hid (by
        rw [onU, HX.out, if_pos rfl])
      have HQ : Hid (∀ j, addW ps (onU p x (k + 1)) j = wrap64 (addW ps (onU p x k) j + y.req j)) := Lib.hid (fun j => by
        rw [HE.out, addW_snoc ps _ k y HY.out])
      generalize addW ps (onU p x k) = a at HU HQ
      have hxb : (x == x) = true := by simp
      go_wp2_with fail
      go_loopw [9] (fun i wq => ∃ j : Nat, j ≤ 5 ∧ i = .int .i64 j ∧ Blk wq w.heap.size (snapC A (some ⟨b, o, none⟩) C ca cb cc ns ps os) 26 ∧ Blk wq (w.heap.size + 1) zer5 32 ∧ Qu.RowAt wq (w.heap.size + 1 + 1) (addR a y.req j) ∧ Below w.heap.size w wq) (fun i _ => 5 - (intOf i).toNat)
      case atStart => exact ⟨0, by omega, rfl, HS.out, HR.out, by rw [addR_zero]; exact HU.out, HB.out⟩
      case round =>
        clear HS HR HU HB hcp
        rename_i wq _
        obtain ⟨j, hj, rfl, hS, hR, hU, hB⟩ := hrel
        have HS := Lib.hid hS
        have HR := Lib.hid hR
        have HU := Lib.hid hU
        have HB := Lib.hid hB
        clear hS hR hU hB
        by_cases hlj : j < 5
        case neg =>
          obtain rfl : j = 5 := by omega
          go_wp2_with fail
          go_roundw
          case rel =>
            refine ⟨k + 1, by omega, by go_num, HS.out, HR.out, RowAt_congr HU.out (fun q hq => ?_), HB.out⟩
            rw [HQ.out]
            unfold addR
            rw [if_pos hq]
          case measure => simp [intOf]; omega
        obtain ⟨bp', op', hAp', _, hcp⟩ := atI (HP.out.below HB.out).cells HX.out
        cases hAp'
        obtain ⟨b', o', hA', _, c0, c1, c2, c3, c4, c5, c6, _⟩ := atP (H.out.below HB.out).p.cells HY.out
        cases hA'
        have cr := atP_req c2 c3 c4 c5 c6 j hlj
        have cu := HU.out.cell hlj
        rw [addR_at] at cu
        have fu := HU.out.free j
        have s1 : wr.cell? ⟨w.heap.size, 1, none⟩ = some (.slice (some ⟨b, o, none⟩) ps.length cb) := Blk.cell HS.out 1
        have j0 : (0 : Int) ≤ (j : Int) := by omega
        have j1 : (j : Int) < 5 := by omega
        clear c0 c1 c2 c3 c4 c5 c6
        go_wp2_with fail
        go_region
        go_wp2_with fail
        go_roundw
        case rel => exact ⟨j + 1, by omega, by go_num, (show Blk wr.drew _ _ _ from HS.out).oth (by omega) _ _, (show Blk wr.drew _ _ _ from HR.out).oth (by omega) _ _, by rw [← addR_step]; exact (show Qu.RowAt wr.drew _ _ from HU.out).set hlj _, HB.out.drew.setCell (by simp; omega) _⟩
        case measure => simp [intOf]; omega
end Go.Proofs.YtpdaohkpgconkaaGreat

namespace Go.Proofs.YtpdaohkpgconkaaGreat
open Go.RowKit Go.Maps Go.Sort

theorem off_snoc (ps : List PodD) (p : List Int) (name : List UInt8) (k : Nat) (y : PodD) (x : Int) (hy : ps[k]? = some y) (hx : p[k]? = some x) : offL p (membersU ps name (k + 1)) = offL p (membersU ps name k) ++ (if y.owner = name ∧ x ≠ -1 then [k] else []) := by
  rw [membersU, hy]
  dsimp only
  unfold offL
  rw [List.map_append, List.filter_append]
  congr 1
  by_cases h1 : y.owner = name
  · by_cases h2 : x = -1
    · rw [if_pos h1, if_neg (fun h => h.2 h2)]
      simp [hx, h2]
    · rw [if_pos h1, if_pos ⟨h1, h2⟩]
      simp [hx, h2]
  · rw [if_neg h1, if_neg (fun h => h1 h.1)]
    rfl

set_option maxRecDepth 100000 in
set_option maxHeartbeats 4000000 in
theorem counts7_any (A B C P : Option Addr) (ca cb cc cp : Nat) (ns : List NodeD) (ps : List PodD) (os : List OwnD) (p : List Int) (ko : Nat) (xo : OwnD) (hxo : os[ko]? = some xo) (hE : placeE ns ps os p = 0) (w : World) (h : SnapAt w A B C ca cb cc ns ps os) (hp : IntsAt w P cp p) :
    Calls Tryz.prog 102 #[snapV A B C ca cb cc ns ps os, .slice P p.length cp, .int .i64 (ko : Int)] w fun e w' => ∃ v, e = .returned v ∧ w'.ownsRow w.heap.size 3 1 v ns.length (intsC (cntL ns.length p (offL p (membersF ps xo.name)))) ∧ Below w.heap.size w w' := by
  have hlp := h.lp
  have hln := h.ln
  have HPL := Lib.hid (placeE_len hE)
  have H := Lib.hid h
  have HP := Lib.hid hp
  have HXO := Lib.hid hxo
  have hko : ko < os.length := (List.getElem?_eq_some_iff.1 hxo).1
  have HON : Hid (∀ (k : Nat) (x : Int), p[k]? = some x → x ≠ -1 → ∃ q : Nat, x = (q : Int) ∧ q < ns.length) := Lib.hid (fun k x hk hx => tpB_lt (placeE_on hE hk hx))
  have B0 : Hid (Below w.heap.size w (w.alloc (.cells (snapC A B C ca cb cc ns ps os) 26))) := Lib.hid (below1 w _)
  have S0 : Hid (Blk (w.alloc (.cells (snapC A B C ca cb cc ns ps os) 26)) w.heap.size (snapC A B C ca cb cc ns ps os) 26) := Lib.hid (Blk.new w _ _)
  have HF : Hid (membersF ps xo.name = membersU ps xo.name p.length) := Lib.hid (by rw [HPL.out]; rfl)
  clear h hp hxo hE
  go_enter Tryz.func102, Tryz.ntmps102
  go_upto_region 1 with fail
  change Code.wp _ _ _ _ (w.alloc (.cells (snapC A B C ca cb cc ns ps os) 26))
  obtain ⟨W, hW⟩ : ∃ W, (w.alloc (.cells (snapC A B C ca cb cc ns ps os) 26)) = W := ⟨_, rfl⟩
  rw [hW] at B0 S0 ⊢
  clear hW
  have s0 : W.cell? ⟨w.heap.size, 0, none⟩ = some (.slice A ns.length ca) := Blk.cell S0.out 0
  have hmk := run_ints W ns.length (by omega)
  have O1 : Hid ((W.alloc (.cells (madeCells #[.int .i64 0] ns.length) 3)).ownsRow w.heap.size 3 1 (.slice (some ⟨W.heap.size, 0, none⟩) ns.length ns.length) ns.length (intsC (cntL ns.length p (offL p (membersU ps xo.name 0))))) := Lib.hid (own_made W ns.length w.heap.size (by omega) B0.out.size)
  have S1 := Lib.hid (Blk.alloc S0.out (.cells (madeCells #[.int .i64 0] ns.length) 3))
  have B1 := Lib.hid (B0.out.alloc B0.out.size (.cells (madeCells #[.int .i64 0] ns.length) 3))
  obtain ⟨G, hG⟩ : ∃ G, W.heap.size = G := ⟨_, rfl⟩
  have hwG : w.heap.size < G := by have := S0.out.lt; omega
  rw [hG] at O1
  go_wp2_with fail
  try rw [hG]
  generalize (W.alloc (.cells (madeCells #[.int .i64 0] ns.length) 3)) = W1 at O1 S1 B1 ⊢
  clear S0 B0 s0 hmk hG
  go_loopw [8] (fun i wr => ∃ k : Nat, k ≤ p.length ∧ i = .int .i64 k ∧ wr.ownsRow w.heap.size 3 1 (.slice (some ⟨G, 0, none⟩) ns.length ns.length) ns.length (intsC (cntL ns.length p (offL p (membersU ps xo.name k)))) ∧ Blk wr w.heap.size (snapC A B C ca cb cc ns ps os) 26 ∧ Below w.heap.size w wr) (fun i _ => p.length - (intOf i).toNat)
  case atStart => exact ⟨0, by omega, rfl, O1.out, S1.out, B1.out⟩
  case round =>
    clear O1 S1 B1
    obtain ⟨k, hk, rfl, hO, hS, hB⟩ := hrel
    have HO := Lib.hid hO
    have HS := Lib.hid hS
    have HB := Lib.hid hB
    clear hO hS hB
    by_cases hlt : k < p.length
    case neg =>
      obtain rfl : k = p.length := by omega
      go_wp2
      go_ret
      exact ⟨_, rfl, by rw [HF.out]; exact HO.out, HB.out⟩
    obtain ⟨x, hx⟩ : ∃ x, p[k]? = some x := ⟨p[k], List.getElem?_eq_getElem hlt⟩
    obtain ⟨bp, op, hAp, hbp, hcp⟩ := atI (HP.out.below HB.out).cells hx
    obtain ⟨y, hy⟩ : ∃ y, ps[k]? = some y := ⟨ps[k]'(by have := HPL.out; omega), List.getElem?_eq_getElem _⟩
    obtain ⟨b, o, hA, hbl, c0, c1, c2, c3, c4, c5, c6, c7, c8, c9, c10, c11, c12, c13, c14⟩ := atP (H.out.below HB.out).p.cells hy
    obtain ⟨bo, oo, hAo, hbo, d0, d1, d2, d3, d4⟩ := atO (H.out.below HB.out).o HXO.out
    have s1 : wr.cell? ⟨w.heap.size, 1, none⟩ = some (.slice B ps.length cb) := Blk.cell HS.out 1
    have s2 : wr.cell? ⟨w.heap.size, 2, none⟩ = some (.slice C os.length cc) := Blk.cell HS.out 2
    subst hA
    subst hAo
    subst hAp
    have Hd := Lib.hid (off_snoc ps p xo.name k y x hy hx)
    have k0 : (0 : Int) ≤ (k : Int) := by omega
    have k1 : (k : Int) < (p.length : Int) := by omega
    have k2 : (k : Int) < (ps.length : Int) := by have := HPL.out; omega
    have q0 : (0 : Int) ≤ (ko : Int) := by omega
    have q1 : (ko : Int) < (os.length : Int) := by omega
    have HX := Lib.hid hx
    clear hx hy c0 c2 c3 c4 c5 c6 c7 c8 c9 c10 c11 c12 c13 c14 d1 d2 d3 d4
    by_cases hxn : x = -1
    case pos =>
      subst hxn
      have HE : Hid (offL p (membersU ps xo.name (k + 1)) = offL p (membersU ps xo.name k)) := Lib.hid (by rw [Hd.out, if_neg (fun h => h.2 rfl), List.append_nil])
      have hneg : ¬ (0 : Int) ≤ -1 := by omega
      clear Hd
      go_wp2_with fail
      go_region
      go_wp2_with fail
      go_roundw
      case rel => exact ⟨k + 1, by omega, by go_num, by rw [HE.out]; exact HO.out, HS.out, HB.out.drew⟩
      case measure => simp [intOf]; omega
    obtain ⟨q, rfl, hq⟩ := HON.out k x HX.out hxn
    have q2 : (0 : Int) ≤ (q : Int) := by omega
    have q3 : (q : Int) < (ns.length : Int) := by omega
    by_cases hyo : y.owner = xo.name
    case neg =>
      have HE : Hid (offL p (membersU ps xo.name (k + 1)) = offL p (membersU ps xo.name k)) := Lib.hid (by rw [Hd.out, if_neg (fun h => hyo h.1), List.append_nil])
      have hyb : (y.owner == xo.name) = false := by simpa using hyo
      clear Hd
      go_wp2_with fail
      go_region
      go_wp2_with fail
      go_roundw
      case rel => exact ⟨k + 1, by omega, by go_num, by rw [HE.out]; exact HO.out, HS.out, HB.out.drew⟩
      case measure => simp [intOf]; omega
    have HE : Hid (offL p (membersU ps xo.name (k + 1)) = offL p (membersU ps xo.name k) ++ [k]) := Lib.hid (by rw [Hd.out, if_pos ⟨hyo, hxn⟩])
    have HE2 : Hid (cntL ns.length p (offL p (membersU ps xo.name (k + 1))) = (cntL ns.length p (offL p (membersU ps xo.name k))).set q ((cntL ns.length p (offL p (membersU ps xo.name k))).getD q 0 + 1)) := Lib.hid (by
      rw [HE.out, cntL_snoc _ _ _ _ _ HX.out, Int.toNat_natCast])
    have hyb : (y.owner == xo.name) = true := by simpa using hyo
    have hcl := cntL_len ns.length p (offL p (membersU ps xo.name k))
    have hle := cntL_le ns.length p (offL p (membersU ps xo.name k)) q
    have hol := Nat.le_trans (offL_len p (membersU ps xo.name k)) (membersU_len ps xo.name k)
    generalize cntL ns.length p (offL p (membersU ps xo.name k)) = L at HO HE2 hcl hle
    obtain ⟨c, hcc⟩ : ∃ c, L[q]? = some c := ⟨_, List.getElem?_eq_getElem (by omega)⟩
    obtain ⟨g', cur, hA', _, hgb, hgc⟩ := own_blk HO.out (k := q) (y := .int .i64 c) (by unfold intsC; rw [List.getElem?_map, hcc]; rfl)
    cases hA'
    rw [List.getD_eq_getElem?_getD, hcc] at hle
    simp only [Option.getD_some] at hle
    have g0 : wr.cell? ⟨G, q, none⟩ = some (.int .i64 c) := (Blk.cell hgb q).trans hgc
    have g1 : wr.frozen? ⟨G, q, none⟩ = false := Blk.free hgb q
    have hwr : wrap64 (c + 1) = c + 1 := IntWalk.wrap64_in _ (by have := HPL.out; omega)
    have hwi : IntKind.i64.wrap (c + 1) = c + 1 := (IntWalk.i64_left _).trans hwr
    have HCC := Lib.hid hcc
    clear Hd HE hle hcc hgb hgc hcl
    go_wp2_with fail
    go_region
    go_wp2_with fail
    go_roundw
    case rel =>
      refine ⟨k + 1, by omega, by go_num, ?_, (show Blk wr.drew _ _ _ from HS.out).oth (by omega) _ _, HB.out.drew.setCell (by simp; omega) _⟩
      rw [HE2.out, List.getD_eq_getElem?_getD, HCC.out]
      have h1 := own_put (show wr.drew.ownsRow _ _ _ _ _ _ from HO.out) q (.int .i64 (c + 1))
      rw [ints_set] at h1
      exact h1
    case measure => simp [intOf]; omega
end Go.Proofs.YtpdaohkpgconkaaGreat

namespace Go.Proofs.YtpdaohkpgconkaaGreat
open Go.RowKit Go.Maps Go.Sort

/-- What is told of an owner that is asked for. -/
theorem owned_is {ns : List NodeD} {ps : List PodD} {os : List OwnD} {p : List Int} {k : Int} (h : ownerB ns ps os p k = true) :
    ∃ (ko : Nat) (xo : OwnD), k = (ko : Int) ∧ os[ko]? = some xo ∧ placeE ns ps os p = 0 ∧ countsF ns ps os p k = cntL ns.length p (offL p (membersF ps xo.name)) ∧ placedF ns ps os p k = ((offL p (membersF ps xo.name)).length : Int) ∧ spreadF ns ps os p k = rowD (spreadD ns xo.topo p (offL p (membersF ps xo.name))) := by
  obtain ⟨h1, n, x, rfl, hx⟩ := ownerB_parts h
  have ho : ofF ps os p (n : Int) = offL p (membersF ps x.name) := by
    unfold ofF
    rw [Int.toNat_natCast, hx]
  refine ⟨n, x, rfl, hx, h1, ?_, ?_, ?_⟩
  · unfold countsF
    rw [if_pos h, ho]
  · unfold placedF
    rw [if_pos h, ho]
  · unfold spreadF
    rw [if_pos h, Int.toNat_natCast, hx]

set_option maxRecDepth 100000 in
set_option maxHeartbeats 2000000 in
theorem placedOf7_any (A B C P : Option Addr) (ca cb cc cp : Nat) (ns : List NodeD) (ps : List PodD) (os : List OwnD) (p : List Int) (ko : Nat) (xo : OwnD) (hxo : os[ko]? = some xo) (hE : placeE ns ps os p = 0) (w : World) (h : SnapAt w A B C ca cb cc ns ps os) (hp : IntsAt w P cp p) :
    Calls Tryz.prog 77 #[snapV A B C ca cb cc ns ps os, .slice P p.length cp, .int .i64 (ko : Int)] w fun e w' => e = .returned (.int .i64 ((offL p (membersF ps xo.name)).length : Int)) ∧ Below w.heap.size w w' := by
  have hln := h.ln
  have hol : (offL p (membersF ps xo.name)).length ≤ 1000 := Nat.le_trans (offL_len p _) (Nat.le_trans (membersU_len ps xo.name _) h.lp)
  have B0 : Hid (Below w.heap.size w (w.alloc (.cells (snapC A B C ca cb cc ns ps os) 26))) := Lib.hid (below1 w _)
  have S0 : Hid (Blk (w.alloc (.cells (snapC A B C ca cb cc ns ps os) 26)) w.heap.size (snapC A B C ca cb cc ns ps os) 26) := Lib.hid (Blk.new w _ _)
  have KC := Lib.hid (counts7_any A B C P ca cb cc cp ns ps os p ko xo hxo hE _ (h.below B0.out) (hp.below B0.out))
  have HL := Lib.hid (cntL_len ns.length p (offL p (membersF ps xo.name)))
  have HSum := Lib.hid (cnt_sum ns.length p (offL p (membersF ps xo.name)) (off_in hE xo.name))
  have HT := Lib.hid (take_sum _ (cnt_pos ns.length p (offL p (membersF ps xo.name))))
  clear h hp hE hxo
  generalize cntL ns.length p (offL p (membersF ps xo.name)) = L at KC HL HSum HT
  generalize (offL p (membersF ps xo.name)).length = M at HSum hol ⊢
  go_enter Tryz.func77, Tryz.ntmps77
  go_wp2_with fail
  refine (KC.out).mono ?_
  rintro e w1 ⟨v, rfl, ho, hb⟩
  obtain ⟨G, cg, rfl, _⟩ := La.own_slice ho
  have O1 := Lib.hid (La.own_slat ho)
  have B1 := Lib.hid (B0.out.trans (hb.mono B0.out.size))
  clear ho hb KC B0 S0
  go_wp2_with fail
  go_loopw [7, 9] (fun s i wr => w1 = wr ∧ ∃ j : Nat, j ≤ ns.length ∧ i = .int .i64 j ∧ s = .int .i64 (L.take j).sum) (fun _ i _ => ns.length - (intOf i).toNat)
  case atStart => exact ⟨rfl, 0, by omega, rfl, rfl⟩
  case round =>
    obtain ⟨rfl, j, hj, rfl, rfl⟩ := hrel
    by_cases hlt : j < ns.length
    case neg =>
      obtain rfl : j = ns.length := by omega
      have HF : Hid ((L.take ns.length).sum = (M : Int)) := Lib.hid (by rw [← HL.out, List.take_length, HSum.out])
      go_wp2
      go_ret
      rw [HF.out]
      exact ⟨rfl, B1.out⟩
    obtain ⟨c, hc⟩ : ∃ c, L[j]? = some c := ⟨L[j]'(by have := HL.out; omega), List.getElem?_eq_getElem _⟩
    obtain ⟨g, o, hG, hcell⟩ := O1.out j (.int .i64 c) (by unfold intsC; rw [List.getElem?_map, hc]; rfl)
    subst hG
    have hst : (L.take (j + 1)).sum = (L.take j).sum + c := by
      obtain ⟨hj', he⟩ := List.getElem?_eq_some_iff.1 hc
      rw [List.take_succ_eq_append_getElem hj', he, List.sum_append]
      simp
    have t1 := HT.out (j + 1)
    rw [HSum.out, hst] at t1
    have hwr : wrap64 ((L.take j).sum + c) = (L.take j).sum + c := IntWalk.wrap64_in _ (by omega)
    have hwi : IntKind.i64.wrap ((L.take j).sum + c) = (L.take j).sum + c := (IntWalk.i64_left _).trans hwr
    have HST := Lib.hid hst
    have j0 : (0 : Int) ≤ (j : Int) := by omega
    have j1 : (j : Int) < (ns.length : Int) := by omega
    clear hst t1 hc
    go_wp2_with fail
    go_roundw
    case rel => exact ⟨by first | rfl | trivial, j + 1, by omega, by go_num, by rw [HST.out]⟩
    case measure => simp [intOf]; omega

end Go.Proofs.YtpdaohkpgconkaaGreat

namespace Go.Proofs.YtpdaohkpgconkaaGreat.La
open Go.RowKit

set_option maxRecDepth 100000 in
set_option maxHeartbeats 1000000 in
theorem indexFunc_any (p : List UInt8 × List UInt8 → Bool) (g : FuncId) (q : Value) (A : Option Addr) (c : Nat) (l : List (List UInt8 × List UInt8)) (w : World) (hn : l.length ≤ 1000) (_hc : l.length ≤ c) (hs : SlAt w A (cellsL l))
    (hg1 : ∀ (args : Array Value) (w : World), (callFunc g args).run Tryz.prog w = .ok (.enter g args) w)
    (hcl : ∀ (x : List UInt8 × List UInt8) (w' : World), Below w.heap.size w w' → Calls Tryz.prog g #[labV x, q] w' fun e w'' => e = .returned (.bool (p x)) ∧ Below w'.heap.size w' w'') :
    Calls Tryz.prog 195 #[.slice A l.length c, .func (Fn.func g) #[] #[q]] w fun e w' => (∃ i : Int, e = .returned (.int .i64 i) ∧ -1 ≤ i ∧ i ≤ 1000 ∧ (decide (0 ≤ i) = l.any p)) ∧ Below w.heap.size w w' := by
  have HS := Lib.hid hs
  have Hcl := Lib.hid hcl
  clear hs hcl
  go_enter Tryz.func195, Tryz.ntmps195
  go_wp2
  go_loopw [8] (fun i wr => ∃ k : Nat, k ≤ l.length ∧ i = .int .i64 k ∧ (l.take k).any p = false ∧ Below w.heap.size w wr) (fun i _ => l.length - (intOf i).toNat)
  case atStart => exact ⟨0, by omega, rfl, rfl, Below.refl _ _⟩
  case round =>
    obtain ⟨k, hk, rfl, hp, hbw⟩ := hrel
    have Hp := Lib.hid hp
    have Hbw := Lib.hid hbw
    clear hp hbw
    by_cases hlt : k < l.length
    · obtain ⟨x, hxk⟩ : ∃ x, l[k]? = some x := ⟨l[k], List.getElem?_eq_getElem hlt⟩
      obtain ⟨b0, o0, hA, hb0, hx⟩ := SlAt.lab (HS.out.below Hbw.out) hxk
      have ht : l.take (k + 1) = l.take k ++ [x] := by rw [List.take_add_one, hxk]; rfl
      subst hA
      have hx0 : wr.cell? ⟨b0, o0 + k * 2, none⟩ = some (strV x.1) := hx.1
      have hx1 : wr.cell? ⟨b0, o0 + k * 2 + 1, none⟩ = some (strV x.2) := hx.2
      have Hx := Lib.hid hx
      have Hk := Lib.hid hxk
      have Ht := Lib.hid ht
      clear hx hxk ht
      cases hpx : p x
      · have K := Lib.hid (Hcl.out x wr Hbw.out)
        rw [hpx] at K
        have Hpx := Lib.hid hpx
        clear hpx
        go_wp2_with fail
        refine K.out.mono ?_
        rintro e w2 ⟨rfl, hb2⟩
        have Hbw2 := Lib.hid (Hbw.out.trans (hb2.mono Hbw.out.size))
        clear hb2
        go_wp2
        go_roundw
        case rel => exact ⟨k + 1, by omega, by go_num, by rw [Ht.out, List.any_append, Hp.out]; simp [Hpx.out], Hbw2.out⟩
        case measure => simp [intOf]; omega
      · have K := Lib.hid (Hcl.out x wr Hbw.out)
        rw [hpx] at K
        have Hpx := Lib.hid hpx
        clear hpx
        go_wp2_with fail
        refine K.out.mono ?_
        rintro e w2 ⟨rfl, hb2⟩
        have Hbw2 := Lib.hid (Hbw.out.trans (hb2.mono Hbw.out.size))
        clear hb2
        go_wp2
        go_ret
        refine ⟨⟨(k : Int), rfl, by omega, by omega, ?_⟩, Hbw2.out⟩
        have : l.any p = true := List.any_eq_true.2 ⟨x, List.mem_of_getElem? Hk.out, Hpx.out⟩
        rw [this]
        simp
    · obtain rfl : k = l.length := by omega
      go_wp2
      go_ret
      refine ⟨⟨-1, rfl, by omega, by omega, ?_⟩, Hbw.out⟩
      have := Hp.out
      rw [List.take_length] at this
      rw [this]
      simp

set_option maxHeartbeats 400000 in
theorem containsFunc_any (p : List UInt8 × List UInt8 → Bool) (g : FuncId) (q : Value) (A : Option Addr) (c : Nat) (l : List (List UInt8 × List UInt8)) (w : World) (hn : l.length ≤ 1000) (hc : l.length ≤ c) (hs : SlAt w A (cellsL l))
    (hg1 : ∀ (args : Array Value) (w : World), (callFunc g args).run Tryz.prog w = .ok (.enter g args) w)
    (hcl : ∀ (x : List UInt8 × List UInt8) (w' : World), Below w.heap.size w w' → Calls Tryz.prog g #[labV x, q] w' fun e w'' => e = .returned (.bool (p x)) ∧ Below w'.heap.size w' w'') :
    Calls Tryz.prog 159 #[.slice A l.length c, .func (Fn.func g) #[] #[q]] w fun e w' => e = .returned (.bool (l.any p)) ∧ Below w.heap.size w w' := by
  have K := Lib.hid (indexFunc_any p g q A c l w hn hc hs hg1 hcl)
  clear hs hcl hg1
  go_enter Tryz.func159, Tryz.ntmps159
  go_wp2_with fail
  refine K.out.mono ?_
  rintro e w1 ⟨⟨i, rfl, hi0, hi1, hi⟩, hb⟩
  have HB := Lib.hid hb
  have Hi := Lib.hid hi
  clear hb hi
  go_wp2
  go_ret
  exact ⟨retB (by rw [← Hi.out]), HB.out⟩

def keyP (t : Int × List UInt8 × List UInt8) (x : List UInt8 × List UInt8) : Bool := decide (x.1 = t.2.1)
def bothP (t : Int × List UInt8 × List UInt8) (x : List UInt8 × List UInt8) : Bool := decide (x.1 = t.2.1) && decide (x.2 = t.2.2)
def holdL (t : Int × List UInt8 × List UInt8) (l : List (List UInt8 × List UInt8)) : Bool :=
  if t.1 = 1 then l.any (bothP t) else if t.1 = 2 then !l.any (bothP t) else if t.1 = 3 then l.any (keyP t) else !l.any (keyP t)

set_option maxHeartbeats 400000 in
theorem hold1_any (t : Int × List UInt8 × List UInt8) (x : List UInt8 × List UInt8) (b : Nat) (w : World) (h : Blk w b #[.int .i64 t.1, strV t.2.1, strV t.2.2] 38) :
    Calls Tryz.prog 193 #[labV x, .pointer (some ⟨b, 0, none⟩)] w fun e w' => e = .returned (.bool (keyP t x)) ∧ Below w.heap.size w w' := by
  obtain ⟨d0, d1, d2, f0, f1, f2⟩ := Blk.c3 h
  have hlt := h.lt
  clear h
  go_enter Tryz.func193, Tryz.ntmps193
  go_wp2
  go_ret
  refine ⟨retB ?_, below1 _ _⟩
  unfold keyP
  rw [Bool.eq_iff_iff]
  simp

set_option maxHeartbeats 400000 in
theorem hold2_any (t : Int × List UInt8 × List UInt8) (x : List UInt8 × List UInt8) (b : Nat) (w : World) (h : Blk w b #[.int .i64 t.1, strV t.2.1, strV t.2.2] 38) :
    Calls Tryz.prog 194 #[labV x, .pointer (some ⟨b, 0, none⟩)] w fun e w' => e = .returned (.bool (bothP t x)) ∧ Below w.heap.size w w' := by
  obtain ⟨d0, d1, d2, f0, f1, f2⟩ := Blk.c3 h
  have hlt := h.lt
  clear h
  go_enter Tryz.func194, Tryz.ntmps194
  go_wp2
  all_goals
    go_ret
    refine ⟨retB ?_, below1 _ _⟩
    unfold bothP
    rw [Bool.eq_iff_iff]
    simp_all

set_option maxHeartbeats 1000000 in
theorem holds1_any (t : Int × List UInt8 × List UInt8) (A : Option Addr) (c : Nat) (l : List (List UInt8 × List UInt8)) (w : World) (hn : l.length ≤ 1000) (hc : l.length ≤ c) (hs : SlAt w A (cellsL l)) :
    Calls Tryz.prog 157 #[terV t, .slice A l.length c] w fun e w' => e = .returned (.bool (holdL t l)) ∧ Below w.heap.size w w' := by
  have hS := hs.below (below1 w (.cells #[.int .i64 t.1, strV t.2.1, strV t.2.2] 38))
  have hT := Blk.new w #[.int .i64 t.1, strV t.2.1, strV t.2.2] 38
  have K1 := Lib.hid (containsFunc_any (keyP t) 193 (.pointer (some ⟨w.heap.size, 0, none⟩)) A c l _ hn hc hS (fun _ _ => by kernel_rfl) (fun x w' hb => hold1_any t x w.heap.size w' (hT.below hb hT.lt)))
  have K2 := Lib.hid (containsFunc_any (bothP t) 194 (.pointer (some ⟨w.heap.size, 0, none⟩)) A c l _ hn hc hS (fun _ _ => by kernel_rfl) (fun x w' hb => hold2_any t x w.heap.size w' (hT.below hb hT.lt)))
  have HB := Lib.hid (below1 w (.cells #[.int .i64 t.1, strV t.2.1, strV t.2.2] 38))
  clear hs hS hT
  obtain ⟨k, a, b⟩ := t
  simp only at K1 K2 HB
  by_cases h1 : k = 1
  · have hb1 : (k == 1) = true := by simpa using h1
    have E : Hid (holdL (k, a, b) l = l.any (bothP (k, a, b))) := by show holdL _ _ = _; unfold holdL; rw [if_pos h1]
    have H1 := Lib.hid h1
    clear h1
    go_enter Tryz.func157, Tryz.ntmps157
    go_wp2_with fail
    refine K2.out.mono ?_
    rintro e w1 ⟨rfl, hb⟩
    have HB2 := Lib.hid (HB.out.trans (hb.mono HB.out.size))
    clear hb
    go_wp2
    go_ret
    exact ⟨retB (by rw [E.out]), HB2.out⟩
  · have hb1 : (k == 1) = false := by simpa using h1
    have H1 := Lib.hid h1
    clear h1
    by_cases h2 : k = 2
    · have hb2 : (k == 2) = true := by simpa using h2
      have E : Hid (holdL (k, a, b) l = !l.any (bothP (k, a, b))) := by show holdL _ _ = _; unfold holdL; rw [if_neg H1.out, if_pos h2]
      have H2 := Lib.hid h2
      clear h2
      go_enter Tryz.func157, Tryz.ntmps157
      go_wp2_with fail
      refine K2.out.mono ?_
      rintro e w1 ⟨rfl, hb⟩
      have HB2 := Lib.hid (HB.out.trans (hb.mono HB.out.size))
      clear hb
      go_wp2
      go_ret
      exact ⟨retB (by rw [E.out]), HB2.out⟩
    · have hb2 : (k == 2) = false := by simpa using h2
      have H2 := Lib.hid h2
      clear h2
      by_cases h3 : k = 3
      · have hb3 : (k == 3) = true := by simpa using h3
        have E : Hid (holdL (k, a, b) l = l.any (keyP (k, a, b))) := by show holdL _ _ = _; unfold holdL; rw [if_neg H1.out, if_neg H2.out, if_pos h3]
        have H3 := Lib.hid h3
        clear h3
        go_enter Tryz.func157, Tryz.ntmps157
        go_wp2_with fail
        refine K1.out.mono ?_
        rintro e w1 ⟨rfl, hb⟩
        have HB2 := Lib.hid (HB.out.trans (hb.mono HB.out.size))
        clear hb
        go_wp2
        go_ret
        exact ⟨retB (by rw [E.out]), HB2.out⟩
      · have hb3 : (k == 3) = false := by simpa using h3
        have E : Hid (holdL (k, a, b) l = !l.any (keyP (k, a, b))) := by show holdL _ _ = _; unfold holdL; rw [if_neg H1.out, if_neg H2.out, if_neg h3]
        have H3 := Lib.hid h3
        clear h3
        go_enter Tryz.func157, Tryz.ntmps157
        go_wp2_with fail
        refine K1.out.mono ?_
        rintro e w1 ⟨rfl, hb⟩
        have HB2 := Lib.hid (HB.out.trans (hb.mono HB.out.size))
        clear hb
        go_wp2
        go_ret
        exact ⟨retB (by rw [E.out]), HB2.out⟩

def holdsL (ts : List (Int × List UInt8 × List UInt8)) (l : List (List UInt8 × List UInt8)) : Bool := ts.all (fun t => holdL t l)

set_option maxHeartbeats 1000000 in
theorem holds_any (A1 A2 : Option Addr) (c1 c2 : Nat) (ts : List (Int × List UInt8 × List UInt8)) (l : List (List UInt8 × List UInt8)) (w : World) (hn1 : ts.length ≤ 1000) (_hc1 : ts.length ≤ c1) (hn : l.length ≤ 1000) (hc : l.length ≤ c2) (ht : SlAt w A1 (cellsT ts)) (hs : SlAt w A2 (cellsL l)) :
    Calls Tryz.prog 124 #[.slice A1 ts.length c1, .slice A2 l.length c2] w fun e w' => e = .returned (.bool (holdsL ts l)) ∧ Below w.heap.size w w' := by
  have HT := Lib.hid ht
  have HS := Lib.hid hs
  clear ht hs
  go_enter Tryz.func124, Tryz.ntmps124
  go_wp2
  go_loopw [9] (fun i wr => ∃ k : Nat, k ≤ ts.length ∧ i = .int .i64 k ∧ (ts.take k).all (fun t => holdL t l) = true ∧ Below w.heap.size w wr) (fun i _ => ts.length - (intOf i).toNat)
  case atStart => exact ⟨0, by omega, rfl, rfl, Below.refl _ _⟩
  case round =>
    obtain ⟨k, hk, rfl, hp, hbw⟩ := hrel
    have Hp := Lib.hid hp
    have Hbw := Lib.hid hbw
    clear hp hbw
    by_cases hlt : k < ts.length
    · obtain ⟨x, hxk⟩ : ∃ x, ts[k]? = some x := ⟨ts[k], List.getElem?_eq_getElem hlt⟩
      obtain ⟨b0, o0, hA, hb0, hx⟩ := SlAt.ter (HT.out.below Hbw.out) hxk
      have htk : ts.take (k + 1) = ts.take k ++ [x] := by rw [List.take_add_one, hxk]; rfl
      subst hA
      have hx0 : wr.cell? ⟨b0, o0 + k * 3, none⟩ = some (.int .i64 x.1) := hx.1
      have hx1 : wr.cell? ⟨b0, o0 + k * 3 + 1, none⟩ = some (strV x.2.1) := hx.2.1
      have hx2 : wr.cell? ⟨b0, o0 + k * 3 + 2, none⟩ = some (strV x.2.2) := hx.2.2
      have Hk := Lib.hid hxk
      have Ht := Lib.hid htk
      clear hx hxk htk
      have K := Lib.hid (holds1_any x A2 c2 l _ hn hc ((HS.out.below Hbw.out).below (below1 wr (.cells #[.int .i64 x.1, strV x.2.1, strV x.2.2] 38))))
      have Hbw1 := Lib.hid (Hbw.out.alloc Hbw.out.size (.cells #[.int .i64 x.1, strV x.2.1, strV x.2.2] 38))
      cases hpx : holdL x l
      · rw [hpx] at K
        have Hpx := Lib.hid hpx
        clear hpx
        go_wp2_with fail
        refine K.out.mono ?_
        rintro e w2 ⟨rfl, hb2⟩
        have Hbw2 := Lib.hid (Hbw1.out.trans (hb2.mono Hbw1.out.size))
        clear hb2
        go_wp2
        go_ret
        refine ⟨retB ?_, Hbw2.out⟩
        symm
        unfold holdsL
        rw [List.all_eq_false]
        exact ⟨x, List.mem_of_getElem? Hk.out, by rw [Hpx.out]; simp⟩
      · rw [hpx] at K
        have Hpx := Lib.hid hpx
        clear hpx
        go_wp2_with fail
        refine K.out.mono ?_
        rintro e w2 ⟨rfl, hb2⟩
        have Hbw2 := Lib.hid (Hbw1.out.trans (hb2.mono Hbw1.out.size))
        clear hb2
        go_wp2
        go_roundw
        case rel => exact ⟨k + 1, by omega, by go_num, by rw [Ht.out, List.all_append, Hp.out]; simp [Hpx.out], Hbw2.out⟩
        case measure => simp [intOf]; omega
    · obtain rfl : k = ts.length := by omega
      go_wp2
      go_ret
      refine ⟨retB ?_, Hbw.out⟩
      have := Hp.out
      rw [List.take_length] at this
      exact this.symm

def bearP (t x : List UInt8 × List UInt8) : Bool := decide (x.1 = t.1) && (decide (x.2 = t.2) || decide (x.2 = [42]))
def bearsL (bs ts : List (List UInt8 × List UInt8)) : Bool := ts.all (fun t => bs.any (bearP t))

set_option maxHeartbeats 400000 in
theorem bear1_any (t x : List UInt8 × List UInt8) (b : Nat) (w : World) (h : Blk w b #[strV t.1, strV t.2] 29) :
    Calls Tryz.prog 158 #[labV x, .pointer (some ⟨b, 0, none⟩)] w fun e w' => e = .returned (.bool (bearP t x)) ∧ Below w.heap.size w w' := by
  obtain ⟨d0, d1, f0, f1⟩ := Blk.c2 h
  have hlt := h.lt
  clear h
  go_enter Tryz.func158, Tryz.ntmps158
  go_wp2
  all_goals
    go_ret
    refine ⟨retB ?_, below1 _ _⟩
    unfold bearP
    rw [Bool.eq_iff_iff]
    simp_all

set_option maxHeartbeats 1000000 in
theorem bears_any (A1 A2 : Option Addr) (c1 c2 : Nat) (bs ts : List (List UInt8 × List UInt8)) (w : World) (hn1 : bs.length ≤ 1000) (hc1 : bs.length ≤ c1) (hn : ts.length ≤ 1000) (_hc : ts.length ≤ c2) (hb : SlAt w A1 (cellsL bs)) (ht : SlAt w A2 (cellsL ts)) :
    Calls Tryz.prog 125 #[.slice A1 bs.length c1, .slice A2 ts.length c2] w fun e w' => e = .returned (.bool (bearsL bs ts)) ∧ Below w.heap.size w w' := by
  have HT := Lib.hid ht
  have HS := Lib.hid hb
  clear ht hb
  go_enter Tryz.func125, Tryz.ntmps125
  go_wp2
  go_loopw [10] (fun i wr => ∃ k : Nat, k ≤ ts.length ∧ i = .int .i64 k ∧ (ts.take k).all (fun t => bs.any (bearP t)) = true ∧ Below w.heap.size w wr) (fun i _ => ts.length - (intOf i).toNat)
  case atStart => exact ⟨0, by omega, rfl, rfl, Below.refl _ _⟩
  case round =>
    obtain ⟨k, hk, rfl, hp, hbw⟩ := hrel
    have Hp := Lib.hid hp
    have Hbw := Lib.hid hbw
    clear hp hbw
    by_cases hlt : k < ts.length
    · obtain ⟨x, hxk⟩ : ∃ x, ts[k]? = some x := ⟨ts[k], List.getElem?_eq_getElem hlt⟩
      obtain ⟨b0, o0, hA, hb0, hx⟩ := SlAt.lab (HT.out.below Hbw.out) hxk
      have htk : ts.take (k + 1) = ts.take k ++ [x] := by rw [List.take_add_one, hxk]; rfl
      subst hA
      have hx0 : wr.cell? ⟨b0, o0 + k * 2, none⟩ = some (strV x.1) := hx.1
      have hx1 : wr.cell? ⟨b0, o0 + k * 2 + 1, none⟩ = some (strV x.2) := hx.2
      have Hk := Lib.hid hxk
      have Ht := Lib.hid htk
      clear hx hxk htk
      have hT := Blk.new wr #[strV x.1, strV x.2] 29
      have K := Lib.hid (containsFunc_any (bearP x) 158 (.pointer (some ⟨wr.heap.size, 0, none⟩)) A1 c1 bs _ hn1 hc1 ((HS.out.below Hbw.out).below (below1 wr (.cells #[strV x.1, strV x.2] 29))) (fun _ _ => by kernel_rfl) (fun y w' hb => bear1_any x y wr.heap.size w' (hT.below hb hT.lt)))
      have Hbw1 := Lib.hid (Hbw.out.alloc Hbw.out.size (.cells #[strV x.1, strV x.2] 29))
      clear hT
      cases hpx : bs.any (bearP x)
      · rw [hpx] at K
        have Hpx := Lib.hid hpx
        clear hpx
        go_wp2_with fail
        refine K.out.mono ?_
        rintro e w2 ⟨rfl, hb2⟩
        have Hbw2 := Lib.hid (Hbw1.out.trans (hb2.mono Hbw1.out.size))
        clear hb2
        go_wp2
        go_ret
        refine ⟨retB ?_, Hbw2.out⟩
        symm
        unfold bearsL
        rw [List.all_eq_false]
        exact ⟨x, List.mem_of_getElem? Hk.out, by rw [Hpx.out]; simp⟩
      · rw [hpx] at K
        have Hpx := Lib.hid hpx
        clear hpx
        go_wp2_with fail
        refine K.out.mono ?_
        rintro e w2 ⟨rfl, hb2⟩
        have Hbw2 := Lib.hid (Hbw1.out.trans (hb2.mono Hbw1.out.size))
        clear hb2
        go_wp2
        go_roundw
        case rel => exact ⟨k + 1, by omega, by go_num, by rw [Ht.out, List.all_append, Hp.out]; simp [Hpx.out], Hbw2.out⟩
        case measure => simp [intOf]; omega
    · obtain rfl : k = ts.length := by omega
      go_wp2
      go_ret
      refine ⟨retB ?_, Hbw.out⟩
      have := Hp.out
      rw [List.take_length] at this
      exact this.symm

end Go.Proofs.YtpdaohkpgconkaaGreat.La

namespace Go.Proofs.YtpdaohkpgconkaaGreat
open Go.RowKit

/-- The value of the first of that key. -/
def getO (l : List L2) (k : List UInt8) : Option (List UInt8) := (l.find? (fun y => decide (y.1 = k))).map (·.2)
/-- Whether a term holds, by the document's words. -/
def holdO (t : T3) (l : List L2) : Bool := if t.1 = 1 then decide (getO l t.2.1 = some t.2.2) else if t.1 = 2 then !decide (getO l t.2.1 = some t.2.2) else if t.1 = 3 then (getO l t.2.1).isSome else !(getO l t.2.1).isSome
def holdsO (ts : List T3) (l : List L2) : Bool := ts.all (fun t => holdO t l)

set_option maxRecDepth 100000 in
set_option maxHeartbeats 2000000 in
theorem getR_any (A : Option Addr) (c : Nat) (l : List L2) (key : List UInt8) (w : World) (hl : l.length ≤ 9223372036854775807) (hs : La.SlAt w A (La.cellsL l)) :
    Calls Tryz.prog 202 #[.slice A l.length c, strV key] w fun e w' => e = .returned (.tuple #[strV ((getO l key).getD []), .bool (getO l key).isSome]) ∧ w = w' := by
  have HS := Lib.hid hs
  have E : Hid (getO l key = (l.find? (fun y => decide (y.1 = key))).map (·.2)) := Lib.hid rfl
  generalize getO l key = R at E ⊢
  clear hs
  go_enter Tryz.func202, Tryz.ntmps202
  go_wp2_with fail
  go_loopw [6] (fun i wr => w = wr ∧ ∃ k : Nat, k ≤ l.length ∧ i = .int .i64 k ∧ (∀ (j : Nat) (z : L2), j < k → l[j]? = some z → z.1 ≠ key)) (fun i _ => l.length - (intOf i).toNat)
  case atStart => exact ⟨rfl, 0, by omega, rfl, fun j z h => by omega⟩
  case round =>
    obtain ⟨rfl, k, hk, rfl, hn⟩ := hrel
    have HN := Lib.hid hn
    clear hn
    by_cases hlt : k < l.length
    · obtain ⟨y, hy⟩ : ∃ y, l[k]? = some y := ⟨l[k], List.getElem?_eq_getElem hlt⟩
      obtain ⟨b, o, hA, hbl, c0, c1⟩ := La.SlAt.lab HS.out hy
      subst hA
      have k0 : (0 : Int) ≤ (k : Int) := by omega
      have k1 : (k : Int) < (l.length : Int) := by omega
      have HY := Lib.hid hy
      clear hy
      by_cases hq : y.1 = key
      · have hqb : (y.1 == key) = true := by simpa using hq
        have HE : Hid (R = some y.2) := Lib.hid (by
          rw [E.out, find_at HY.out hq HN.out]
          rfl)
        clear hq
        go_wp2
        go_ret2
        rw [HE.out]
        exact ⟨rfl, rfl⟩
      · have hqb : (y.1 == key) = false := by simpa using hq
        have HQ := Lib.hid hq
        clear hq
        go_wp2_with fail
        go_roundw
        case rel => exact ⟨by first | rfl | trivial, k + 1, by omega, by go_num, fun j z hj hz => by
          by_cases hjk : j = k
          · subst hjk
            rw [HY.out] at hz
            cases hz
            exact HQ.out
          · exact HN.out j z (by omega) hz⟩
        case measure => simp [intOf]; omega
    · obtain rfl : k = l.length := by omega
      have HE : Hid (R = none) := Lib.hid (by
        rw [E.out, find_none (fun j z hz => HN.out j z (List.getElem?_eq_some_iff.1 hz).1 hz)]
        rfl)
      go_wp2
      go_ret2
      rw [HE.out]
      exact ⟨rfl, rfl⟩

set_option maxRecDepth 100000 in
set_option maxHeartbeats 2000000 in
theorem holdR_any (t : T3) (A : Option Addr) (c : Nat) (l : List L2) (w : World) (hl : l.length ≤ 9223372036854775807) (hs : La.SlAt w A (La.cellsL l)) :
    Calls Tryz.prog 169 #[La.terV t, .slice A l.length c] w fun e w' => e = .returned (.bool (holdO t l)) ∧ Below w.heap.size w w' := by
  have B0 : Hid (Below w.heap.size w (w.alloc (.cells #[.int .i64 t.1, strV t.2.1, strV t.2.2] 38))) := Lib.hid (below1 w _)
  have T0 := Lib.hid (Blk.new w #[.int .i64 t.1, strV t.2.1, strV t.2.2] 38)
  have KG := Lib.hid (getR_any A c l t.2.1 _ hl (hs.below B0.out))
  have E : Hid (holdO t l = if t.1 = 1 then decide (getO l t.2.1 = some t.2.2) else if t.1 = 2 then !decide (getO l t.2.1 = some t.2.2) else if t.1 = 3 then (getO l t.2.1).isSome else !(getO l t.2.1).isSome) := Lib.hid rfl
  generalize holdO t l = R at E ⊢
  generalize getO l t.2.1 = G at KG E
  clear hs
  obtain ⟨kd, ky, vl⟩ := t
  dsimp only at *
  go_enter Tryz.func169, Tryz.ntmps169
  go_wp2_with fail
  generalize (w.alloc (.cells #[.int .i64 kd, strV ky, strV vl] 38)) = W at B0 T0 KG ⊢
  have t0 : W.cell? ⟨w.heap.size, 0, none⟩ = some (.int .i64 kd) := Blk.cell T0.out 0
  have t1 : W.cell? ⟨w.heap.size, 1, none⟩ = some (strV ky) := Blk.cell T0.out 1
  have t2 : W.cell? ⟨w.heap.size, 2, none⟩ = some (strV vl) := Blk.cell T0.out 2
  refine (KG.out).mono ?_
  rintro e w1 ⟨rfl, rfl⟩
  clear KG T0
  by_cases h1 : kd = 1
  · subst h1
    cases G with
    | none =>
      have HE : Hid (R = false) := Lib.hid (by rw [E.out]; simp)
      clear E
      go_wp2
      go_ret
      exact ⟨La.retB HE.out.symm, B0.out⟩
    | some y =>
      have HE : Hid (R = (y == vl)) := Lib.hid (by rw [E.out]; by_cases h : y = vl <;> simp [h])
      clear E
      go_wp2
      go_ret
      exact ⟨La.retB HE.out.symm, B0.out⟩
  by_cases h2 : kd = 2
  · subst h2
    cases G with
    | none =>
      have HE : Hid (R = true) := Lib.hid (by rw [E.out]; simp)
      clear E
      go_wp2
      go_ret
      exact ⟨La.retB HE.out.symm, B0.out⟩
    | some y =>
      have HE : Hid (R = (y != vl)) := Lib.hid (by rw [E.out]; by_cases h : y = vl <;> simp [h])
      clear E
      go_wp2
      go_ret
      exact ⟨La.retB HE.out.symm, B0.out⟩
  by_cases h3 : kd = 3
  · subst h3
    have HE : Hid (R = G.isSome) := Lib.hid (by rw [E.out]; simp)
    clear E
    go_wp2
    go_ret
    exact ⟨La.retB HE.out.symm, B0.out⟩
  · have HE : Hid (R = !G.isSome) := Lib.hid (by rw [E.out, if_neg h1, if_neg h2, if_neg h3])
    clear E
    go_wp2
    go_ret
    exact ⟨La.retB (by rw [HE.out]; cases G <;> rfl), B0.out⟩

set_option maxRecDepth 100000 in
set_option maxHeartbeats 2000000 in
theorem holdsR_any (A1 A2 : Option Addr) (c1 c2 : Nat) (ts : List T3) (l : List L2) (w : World) (ht : ts.length ≤ 9223372036854775807) (hl : l.length ≤ 9223372036854775807) (hT : La.SlAt w A1 (La.cellsT ts)) (hs : La.SlAt w A2 (La.cellsL l)) :
    Calls Tryz.prog 132 #[.slice A1 ts.length c1, .slice A2 l.length c2] w fun e w' => e = .returned (.bool (holdsO ts l)) ∧ Below w.heap.size w w' := by
  have HT := Lib.hid hT
  have HS := Lib.hid hs
  have E : Hid (holdsO ts l = ts.all (fun t => holdO t l)) := Lib.hid rfl
  generalize holdsO ts l = R at E ⊢
  clear hT hs
  go_enter Tryz.func132, Tryz.ntmps132
  go_wp2_with fail
  go_loopw [5] (fun i wr => ∃ k : Nat, k ≤ ts.length ∧ i = .int .i64 k ∧ (∀ (j : Nat) (z : T3), j < k → ts[j]? = some z → holdO z l = true) ∧ Below w.heap.size w wr) (fun i _ => ts.length - (intOf i).toNat)
  case atStart => exact ⟨0, by omega, rfl, fun j z h => by omega, Below.refl _ _⟩
  case round =>
    obtain ⟨k, hk, rfl, hn, hb⟩ := hrel
    have HN := Lib.hid hn
    have HB := Lib.hid hb
    clear hn hb
    by_cases hlt : k < ts.length
    · obtain ⟨y, hy⟩ : ∃ y, ts[k]? = some y := ⟨ts[k], List.getElem?_eq_getElem hlt⟩
      obtain ⟨b, o, hA, hbl, d0, d1, d2⟩ := La.SlAt.ter (HT.out.below HB.out) hy
      subst hA
      have KH := Lib.hid (holdR_any y A2 c2 l wr hl (HS.out.below HB.out))
      have k0 : (0 : Int) ≤ (k : Int) := by omega
      have k1 : (k : Int) < (ts.length : Int) := by omega
      have HY := Lib.hid hy
      clear hy
      cases hq : holdO y l with
      | true =>
        rw [hq] at KH
        have HQ := Lib.hid hq
        clear hq
        go_wp2_with fail
        refine (KH.out).mono ?_
        rintro e w1 ⟨rfl, hb⟩
        have B1 := Lib.hid (HB.out.trans (hb.mono HB.out.size))
        clear hb KH d0 d1 d2
        go_wp2_with fail
        go_roundw
        case rel => exact ⟨k + 1, by omega, by go_num, fun j z hj hz => by
          by_cases hjk : j = k
          · subst hjk
            rw [HY.out] at hz
            cases hz
            exact HQ.out
          · exact HN.out j z (by omega) hz, B1.out⟩
        case measure => simp [intOf]; omega
      | false =>
        rw [hq] at KH
        have HE : Hid (R = false) := Lib.hid (by
          rw [E.out, List.all_eq_false]
          exact ⟨y, List.mem_of_getElem? HY.out, by simp [hq]⟩)
        clear hq
        go_wp2_with fail
        refine (KH.out).mono ?_
        rintro e w1 ⟨rfl, hb⟩
        have B1 := Lib.hid (HB.out.trans (hb.mono HB.out.size))
        clear hb KH d0 d1 d2
        go_wp2
        go_ret
        exact ⟨La.retB HE.out.symm, B1.out⟩
    · obtain rfl : k = ts.length := by omega
      have HE : Hid (R = true) := Lib.hid (by
        rw [E.out, List.all_eq_true]
        intro z hz
        obtain ⟨j, hj⟩ := List.mem_iff_getElem?.1 hz
        exact HN.out j z (List.getElem?_eq_some_iff.1 hj).1 hj)
      go_wp2
      go_ret
      exact ⟨La.retB HE.out.symm, HB.out⟩

theorem any_snoc {l : List L2} {k : Nat} {y : L2} (hy : l[k]? = some y) (f : L2 → Bool) : (l.take (k + 1)).any f = ((l.take k).any f || f y) := by
  rw [List.take_add_one, hy, List.any_append]
  simp

set_option maxRecDepth 100000 in
set_option maxHeartbeats 4000000 in
theorem bearsR_any (A1 A2 : Option Addr) (c1 c2 : Nat) (bs ts : List L2) (w : World) (hb1 : bs.length ≤ 9223372036854775807) (ht1 : ts.length ≤ 9223372036854775807) (hB : La.SlAt w A1 (La.cellsL bs)) (hT : La.SlAt w A2 (La.cellsL ts)) :
    Calls Tryz.prog 133 #[.slice A1 bs.length c1, .slice A2 ts.length c2] w fun e w' => e = .returned (.bool (La.bearsL bs ts)) ∧ Below w.heap.size w w' := by
  have HS := Lib.hid hB
  have HT := Lib.hid hT
  have E : Hid (La.bearsL bs ts = ts.all (fun t => bs.any (La.bearP t))) := Lib.hid rfl
  generalize La.bearsL bs ts = R at E ⊢
  clear hB hT
  go_enter Tryz.func133, Tryz.ntmps133
  go_wp2_with fail
  go_loopw [5] (fun i wr => ∃ k : Nat, k ≤ ts.length ∧ i = .int .i64 k ∧ (∀ (j : Nat) (z : L2), j < k → ts[j]? = some z → bs.any (La.bearP z) = true) ∧ Below w.heap.size w wr) (fun i _ => ts.length - (intOf i).toNat)
  case atStart => exact ⟨0, by omega, rfl, fun j z h => by omega, Below.refl _ _⟩
  case round =>
    obtain ⟨k, hk, rfl, hn, hb⟩ := hrel
    have HN := Lib.hid hn
    have HB := Lib.hid hb
    clear hn hb
    by_cases hlt : k < ts.length
    case neg =>
      obtain rfl : k = ts.length := by omega
      have HE : Hid (R = true) := Lib.hid (by
        rw [E.out, List.all_eq_true]
        intro z hz
        obtain ⟨j, hj⟩ := List.mem_iff_getElem?.1 hz
        exact HN.out j z (List.getElem?_eq_some_iff.1 hj).1 hj)
      go_wp2
      go_ret
      exact ⟨La.retB HE.out.symm, HB.out⟩
    obtain ⟨y, hy⟩ : ∃ y, ts[k]? = some y := ⟨ts[k], List.getElem?_eq_getElem hlt⟩
    obtain ⟨bt, ot, hAt, hbt, t0, t1⟩ := La.SlAt.lab (HT.out.below HB.out) hy
    subst hAt
    have k0 : (0 : Int) ≤ (k : Int) := by omega
    have k1 : (k : Int) < (ts.length : Int) := by omega
    have HY := Lib.hid hy
    clear hy t0 t1
    go_wp2_with fail
    go_loopw [6, 7] (fun v i wq => ∃ m : Nat, m ≤ bs.length ∧ i = .int .i64 m ∧ v = .bool ((bs.take m).any (La.bearP y)) ∧ Below w.heap.size w wq) (fun _ i _ => bs.length - (intOf i).toNat)
    case atStart => exact ⟨0, by omega, rfl, rfl, HB.out⟩
    case round =>
      clear HB
      rename_i wq _
      obtain ⟨m, hm, rfl, rfl, hb⟩ := hrel
      have HB := Lib.hid hb
      clear hb
      by_cases hlm : m < bs.length
      case neg =>
        obtain rfl : m = bs.length := by omega
        rw [List.take_length]
        cases hq : bs.any (La.bearP y) with
        | true =>
          have HQ := Lib.hid hq
          clear hq
          go_wp2_with fail
          go_roundw
          case rel => exact ⟨k + 1, by omega, by go_num, fun j z hj hz => by
            by_cases hjk : j = k
            · subst hjk
              rw [HY.out] at hz
              cases hz
              exact HQ.out
            · exact HN.out j z (by omega) hz, HB.out⟩
          case measure => simp [intOf]; omega
        | false =>
          have HE : Hid (R = false) := Lib.hid (by
            rw [E.out, List.all_eq_false]
            exact ⟨y, List.mem_of_getElem? HY.out, by simp [hq]⟩)
          clear hq
          go_wp2
          go_ret
          exact ⟨La.retB HE.out.symm, HB.out⟩
      obtain ⟨z, hz⟩ : ∃ z, bs[m]? = some z := ⟨bs[m], List.getElem?_eq_getElem hlm⟩
      obtain ⟨b, o, hA, hbl, c0, c1⟩ := La.SlAt.lab (HS.out.below HB.out) hz
      obtain ⟨bt', ot', hAt', hbt', t0, t1⟩ := La.SlAt.lab (HT.out.below HB.out) HY.out
      subst hA
      cases hAt'
      have m0 : (0 : Int) ≤ (m : Int) := by omega
      have m1 : (m : Int) < (bs.length : Int) := by omega
      have HE := Lib.hid (any_snoc hz (La.bearP y))
      have hbp : Hid (La.bearP y z = (decide (z.1 = y.1) && (decide (z.2 = y.2) || decide (z.2 = [42])))) := Lib.hid rfl
      clear hz
      cases ha : (bs.take m).any (La.bearP y) with
      | true =>
        have HE2 : Hid ((bs.take (m + 1)).any (La.bearP y) = true) := Lib.hid (by rw [HE.out, ha]; rfl)
        clear ha
        go_wp2_with fail
        go_region
        go_wp2_with fail
        go_roundw
        case rel => exact ⟨m + 1, by omega, by go_num, by rw [HE2.out], HB.out.drew⟩
        case measure => simp [intOf]; omega
      | false =>
        have HE1 : Hid ((bs.take (m + 1)).any (La.bearP y) = La.bearP y z) := Lib.hid (by rw [HE.out, ha]; rfl)
        clear ha
        by_cases h1 : z.1 = y.1
        case neg =>
          have HE2 : Hid ((bs.take (m + 1)).any (La.bearP y) = false) := Lib.hid (by rw [HE1.out, hbp.out, decide_eq_false h1]; rfl)
          have h1b : (z.1 == y.1) = false := by simpa using h1
          go_wp2_with fail
          go_region
          go_wp2_with fail
          go_roundw
          case rel => exact ⟨m + 1, by omega, by go_num, by rw [HE2.out], HB.out.drew⟩
          case measure => simp [intOf]; omega
        have h1b : (z.1 == y.1) = true := by simpa using h1
        by_cases h2 : z.2 = y.2
        · have HE2 : Hid ((bs.take (m + 1)).any (La.bearP y) = true) := Lib.hid (by rw [HE1.out, hbp.out, decide_eq_true h1, decide_eq_true h2]; rfl)
          have h2b : (z.2 == y.2) = true := by simpa using h2
          clear h1 h2
          go_wp2_with fail
          go_region
          go_wp2_with fail
          go_roundw
          case rel => exact ⟨m + 1, by omega, by go_num, by rw [HE2.out], HB.out.drew⟩
          case measure => simp [intOf]; omega
        · have h2b : (z.2 == y.2) = false := by simpa using h2
          by_cases h3 : z.2 = [42]
          · have HE2 : Hid ((bs.take (m + 1)).any (La.bearP y) = true) := Lib.hid (by rw [HE1.out, hbp.out, decide_eq_true h1, decide_eq_true h3]; simp)
            have h3b : (z.2 == [42]) = true := by simpa using h3
            clear h1 h2 h3
            go_wp2_with fail
            go_region
            go_wp2_with fail
            go_roundw
            case rel => exact ⟨m + 1, by omega, by go_num, by rw [HE2.out], HB.out.drew⟩
            case measure => simp [intOf]; omega
          · have HE2 : Hid ((bs.take (m + 1)).any (La.bearP y) = false) := Lib.hid (by rw [HE1.out, hbp.out, decide_eq_true h1, decide_eq_false h2, decide_eq_false h3]; rfl)
            have h3b : (z.2 == [42]) = false := by simpa using h3
            clear h1 h2 h3
            go_wp2_with fail
            go_region
            go_wp2_with fail
            go_roundw
            case rel => exact ⟨m + 1, by omega, by go_num, by rw [HE2.out], HB.out.drew⟩
            case measure => simp [intOf]; omega
end Go.Proofs.YtpdaohkpgconkaaGreat

namespace Go.Proofs.YtpdaohkpgconkaaGreat
open Go.RowKit

theorem getO_cons (y : L2) (t : List L2) (k : List UInt8) : getO (y :: t) k = if y.1 = k then some y.2 else getO t k := by
  unfold getO
  by_cases h : y.1 = k
  · rw [List.find?_cons_of_pos (by simpa using h), if_pos h]
    rfl
  · rw [List.find?_cons_of_neg (by simpa using h), if_neg h]
theorem getO_key (l : List L2) (k : List UInt8) : (getO l k).isSome = l.any (fun x => decide (x.1 = k)) := by
  induction l with
  | nil => rfl
  | cons y t ih =>
    rw [getO_cons, List.any_cons]
    by_cases h : y.1 = k
    · rw [if_pos h, decide_eq_true h]
      rfl
    · rw [if_neg h, decide_eq_false h, ih, Bool.false_or]
theorem getO_both (l : List L2) (hp : l.Pairwise (fun x y => x.1 ≠ y.1)) (k v : List UInt8) : decide (getO l k = some v) = l.any (fun x => decide (x.1 = k) && decide (x.2 = v)) := by
  induction l with
  | nil => rfl
  | cons y t ih =>
    obtain ⟨h1, h2⟩ := List.pairwise_cons.1 hp
    rw [getO_cons, List.any_cons]
    by_cases h : y.1 = k
    · have hr : t.any (fun x => decide (x.1 = k) && decide (x.2 = v)) = false := by
        rw [List.any_eq_false]
        intro z hz
        have : z.1 ≠ k := fun e => h1 z hz (h.trans e.symm)
        simp [this]
      rw [if_pos h, decide_eq_true h, hr]
      simp
    · rw [if_neg h, decide_eq_false h, Bool.false_and, Bool.false_or, ih h2]
theorem holdO_eq (l : List L2) (hp : l.Pairwise (fun x y => x.1 ≠ y.1)) (t : T3) : holdO t l = La.holdL t l := by
  unfold holdO La.holdL
  rw [getO_both l hp, getO_key]
  rfl
theorem holdsO_eq (l : List L2) (hp : l.Pairwise (fun x y => x.1 ≠ y.1)) (ts : List T3) : holdsO ts l = La.holdsL ts l := by
  unfold holdsO La.holdsL
  congr 1
  funext t
  exact holdO_eq l hp t
end Go.Proofs.YtpdaohkpgconkaaGreat

namespace Go.Proofs.YtpdaohkpgconkaaGreat
open Go.RowKit

theorem chk_few {α : Type} {mb : α → Bool} {ri : α → α → Bool} {l : List α} (h : La.chkA mb ri l = 0) : l.length ≤ 6 := by
  unfold La.chkA at h
  split at h
  · cases h
  · rename_i hc
    omega
theorem chk_step {α : Type} {mb : α → Bool} {ri : α → α → Bool} {l : List α} (h : La.chkA mb ri l = 0) {k : Nat} {x y : α} (hk : l[k]? = some x) (hy : l[k + 1]? = some y) : ri x y = true := by
  unfold La.chkA at h
  split at h
  · cases h
  · rename_i hc
    have hlt := (List.getElem?_eq_some_iff.1 hy).1
    have h2 : La.chkK mb ri l (k + 1 + 1) = true := by
      cases hq : La.chkK mb ri l (k + 1 + 1) with
      | true => rfl
      | false => exact absurd (.inr (La.chkK_false hq (by omega))) hc
    rw [La.chkK, hy] at h2
    simp only [Bool.and_eq_true] at h2
    have h3 := h2.2
    unfold La.okAt at h3
    have h4 : mb y = true ∧ ri x y = true := by simpa [hk] using h3
    exact h4.2
theorem keys_ahead {mb : L2 → Bool} {l : List L2} (h : La.chkA mb La.keyR l = 0) : ∀ (d k : Nat) (x y : L2), l[k]? = some x → l[k + 1 + d]? = some y → Ahead x.1 y.1
  | 0, k, x, y, hx, hy => less_ahead (chk_step h hx hy)
  | d + 1, k, x, y, hx, hy => by
    have hlt := (List.getElem?_eq_some_iff.1 hy).1
    obtain ⟨z, hz⟩ : ∃ z, l[k + 1 + d]? = some z := ⟨l[k + 1 + d]'(by omega), List.getElem?_eq_getElem _⟩
    exact (keys_ahead h d k x z hx hz).trans (less_ahead (chk_step h hz hy))
theorem keys_differ {mb : L2 → Bool} {l : List L2} (h : La.chkA mb La.keyR l = 0) : l.Pairwise (fun x y => x.1 ≠ y.1) := by
  rw [List.pairwise_iff_getElem]
  intro i j hi hj hij
  refine (keys_ahead h (j - i - 1) i l[i] l[j] (List.getElem?_eq_getElem hi) ?_).2
  rw [show i + 1 + (j - i - 1) = j by omega]
  exact List.getElem?_eq_getElem hj
theorem node_keys {ns : List NodeD} {ps : List PodD} {os : List OwnD} (h : checkS ns ps os = 0) {x : NodeD} (hx : x ∈ ns) : x.labels.Pairwise (fun a b => a.1 ≠ b.1) ∧ x.labels.length ≤ 6 ∧ x.taints.length ≤ 6 := by
  unfold checkS at h
  split at h
  · rename_i hc
    unfold clusB at hc
    simp only [Bool.and_eq_true, List.all_eq_true] at hc
    have h1 := hc.1.1.2 x hx
    unfold nodeB at h1
    simp only [Bool.and_eq_true, beq_iff_eq] at h1
    exact ⟨keys_differ h1.1.2, chk_few h1.1.2, chk_few h1.2⟩
  · cases h
theorem pod_keys {ns : List NodeD} {ps : List PodD} {os : List OwnD} (h : checkS ns ps os = 0) {x : PodD} (hx : x ∈ ps) : x.labels.Pairwise (fun a b => a.1 ≠ b.1) ∧ x.labels.length ≤ 6 ∧ x.whr.length ≤ 6 ∧ x.bears.length ≤ 6 := by
  unfold checkS at h
  split at h
  · rename_i hc
    unfold clusB at hc
    simp only [Bool.and_eq_true, List.all_eq_true] at hc
    have h1 := (hc.1.2 x hx).1
    unfold podB at h1
    simp only [Bool.and_eq_true, beq_iff_eq] at h1
    exact ⟨keys_differ h1.1.1.1.1.2, chk_few h1.1.1.1.1.2, chk_few h1.1.1.1.2, chk_few h1.1.1.2⟩
  · cases h
end Go.Proofs.YtpdaohkpgconkaaGreat

namespace Go.Proofs.YtpdaohkpgconkaaGreat
open Go.RowKit

abbrev viewV (A B C P : Option Addr) (ca cb cc cp : Nat) (ns : List NodeD) (ps : List PodD) (os : List OwnD) (p : List Int) : Value := .agg #[.slice A ns.length ca, .slice B ps.length cb, .slice C os.length cc, .slice P p.length cp]
abbrev viewC (A B C P : Option Addr) (ca cb cc cp : Nat) (ns : List NodeD) (ps : List PodD) (os : List OwnD) (p : List Int) : Array Value := #[.slice A ns.length ca, .slice B ps.length cb, .slice C os.length cc, .slice P p.length cp]

set_option maxRecDepth 100000 in
set_option maxHeartbeats 4000000 in
theorem belowMin_any (A B C P : Option Addr) (ca cb cc cp : Nat) (ns : List NodeD) (ps : List PodD) (os : List OwnD) (p : List Int) (ko : Nat) (xo : OwnD) (hxo : os[ko]? = some xo) (w : World) (h : SnapAt w A B C ca cb cc ns ps os) (hp : IntsAt w P cp p) :
    Calls Tryz.prog 94 #[viewV A B C P ca cb cc cp ns ps os p, .int .i64 (ko : Int)] w fun e w' => e = .returned (.tuple #[.int .i64 (max 0 (wrap64 (xo.min - placedF ns ps os p (ko : Int)))), .bool true]) ∧ Below w.heap.size w w' := by
  have q0 : (0 : Int) ≤ (ko : Int) := by omega
  have q1 : (ko : Int) < (os.length : Int) := by have := (List.getElem?_eq_some_iff.1 hxo).1; omega
  have B0 : Hid (Below w.heap.size w (w.alloc (.cells (viewC A B C P ca cb cc cp ns ps os p) 105))) := Lib.hid (below1 w _)
  have S0 : Hid (Blk (w.alloc (.cells (viewC A B C P ca cb cc cp ns ps os p) 105)) w.heap.size (viewC A B C P ca cb cc cp ns ps os p) 105) := Lib.hid (Blk.new w _ _)
  obtain ⟨bo, oo, hAo, hbo, d0, d1, d2, d3, d4⟩ := atO (h.below B0.out).o hxo
  subst hAo
  have HO : Hid (∀ W', Below w.heap.size w W' → W'.cell? ⟨bo, oo + ko * 5 + 1, none⟩ = some (.int .i64 xo.min)) := Lib.hid (fun W' hb => by
    obtain ⟨b', o', hA', _, _, e1, _⟩ := atO (h.below hb).o hxo
    cases hA'
    exact e1)
  have KP := Lib.hid (fun W' (hb : Below w.heap.size w W') => placed_any A B (some ⟨bo, oo, none⟩) P ca cb cc cp ns ps os p (ko : Int) W' (h.below hb) (hp.below hb))
  generalize placedF ns ps os p (ko : Int) = m at KP ⊢
  clear h hp hxo d0 d1 d2 d3 d4
  go_enter Tryz.func94, Tryz.ntmps94
  go_upto_region 1 with fail
  change Code.wp _ _ _ _ (w.alloc (.cells (viewC A B (some ⟨bo, oo, none⟩) P ca cb cc cp ns ps os p) 105))
  generalize (w.alloc (.cells (viewC A B (some ⟨bo, oo, none⟩) P ca cb cc cp ns ps os p) 105)) = W at B0 S0 ⊢
  have HZ := Lib.hid (fun W' (hb : Below W.heap.size W W') => (show W'.cell? ⟨w.heap.size, 0, none⟩ = some (.slice A ns.length ca) ∧ W'.cell? ⟨w.heap.size, 1, none⟩ = some (.slice B ps.length cb) ∧ W'.cell? ⟨w.heap.size, 2, none⟩ = some (.slice (some ⟨bo, oo, none⟩) os.length cc) ∧ W'.cell? ⟨w.heap.size, 3, none⟩ = some (.slice P p.length cp) from ⟨Blk.cell (S0.out.below hb S0.out.lt) 0, Blk.cell (S0.out.below hb S0.out.lt) 1, Blk.cell (S0.out.below hb S0.out.lt) 2, Blk.cell (S0.out.below hb S0.out.lt) 3⟩))
  have HT := Lib.hid (fun W' (hb : Below W.heap.size W W') => B0.out.trans (hb.mono B0.out.size))
  have HB : Hid (Below W.heap.size W W.drew) := Lib.hid (Below.refl _ _).drew
  obtain ⟨z0, z1, z2, z3⟩ := HZ.out _ HB.out
  have z4 := HO.out _ (HT.out _ HB.out)
  clear B0 S0
  go_region_held3 (fun w' => w'.cell? ⟨w.heap.size, 0, none⟩ = some (.slice A ns.length ca) ∧ w'.cell? ⟨w.heap.size, 1, none⟩ = some (.slice B ps.length cb) ∧ w'.cell? ⟨w.heap.size, 2, none⟩ = some (.slice (some ⟨bo, oo, none⟩) os.length cc) ∧ w'.cell? ⟨w.heap.size, 3, none⟩ = some (.slice P p.length cp) ∧ w'.cell? ⟨bo, oo + ko * 5 + 1, none⟩ = some (.int .i64 xo.min)) (first | exact ⟨z0, z1, z2, z3, z4⟩ | exact ⟨by assumption, by assumption, by assumption, by assumption, by assumption⟩)
    (first
      | (go_at_call 131
         with_reducible refine (KP.out _ (HT.out _ HB.out)).mono ?_
         rintro e wA ⟨rfl, hbA⟩
         have HB := Lib.hid (HB.out.trans (hbA.mono HB.out.size))
         obtain ⟨z0, z1, z2, z3⟩ := HZ.out _ HB.out
         have z4 := HO.out _ (HT.out _ HB.out)
         clear hbA))
  all_goals
    have D := Lib.hid (HT.out _ HB.out)
    go_wp2
    go_ret2
    have e : wrap64 (xo.min - m) = IntKind.i64.wrap (xo.min - m) := (IntWalk.i64_left _).symm
    exact ⟨by rw [e]; rfl, D.out⟩
end Go.Proofs.YtpdaohkpgconkaaGreat

namespace Go.Proofs.YtpdaohkpgconkaaGreat
open Go.RowKit

theorem subT {w : World} {A : Option Addr} {ts : List T3} {k b o : Nat} {t : T3} (h : La.SlAt w A (La.cellsT ts)) (hA : A = some ⟨b, o, none⟩) (hk : ts[k]? = some t) : La.SlAt w (some ⟨b, o + k * 3, none⟩) (La.cellsT [t]) := by
  obtain ⟨b', o', hA', _, c0, c1, c2⟩ := La.SlAt.ter h hk
  rw [hA] at hA'
  cases hA'
  intro j y hj
  refine ⟨b, o + k * 3, rfl, ?_⟩
  match j, hj with
  | 0, hj => rw [← show some (Value.int .i64 t.1) = some y from hj]; exact c0
  | 1, hj => rw [← show some (strV t.2.1) = some y from hj]; exact c1
  | 2, hj => rw [← show some (strV t.2.2) = some y from hj]; exact c2
theorem subL {w : World} {A : Option Addr} {ts : List L2} {k b o : Nat} {t : L2} (h : La.SlAt w A (La.cellsL ts)) (hA : A = some ⟨b, o, none⟩) (hk : ts[k]? = some t) : La.SlAt w (some ⟨b, o + k * 2, none⟩) (La.cellsL [t]) := by
  obtain ⟨b', o', hA', _, c0, c1⟩ := La.SlAt.lab h hk
  rw [hA] at hA'
  cases hA'
  intro j y hj
  refine ⟨b, o + k * 2, rfl, ?_⟩
  match j, hj with
  | 0, hj => rw [← show some (strV t.1) = some y from hj]; exact c0
  | 1, hj => rw [← show some (strV t.2) = some y from hj]; exact c1

/-- How many of a list are so. -/
def numL {α : Type} (f : α → Bool) (l : List α) : Nat := (l.filter f).length
theorem numL_snoc {α : Type} (f : α → Bool) {l : List α} {k : Nat} {y : α} (hy : l[k]? = some y) : numL f (l.take (k + 1)) = numL f (l.take k) + (if f y then 1 else 0) := by
  unfold numL
  rw [List.take_add_one, hy, List.filter_append, List.length_append]
  cases h : f y <;> simp [h]
theorem numL_le {α : Type} (f : α → Bool) (l : List α) : numL f l ≤ l.length := List.length_filter_le _ _
def termsO (ts : List T3) (l : List L2) : Nat := numL (fun t => !holdO t l) ts
def taintsO (ts bs : List L2) : Nat := numL (fun t => !La.bearsL bs [t]) ts

set_option maxRecDepth 100000 in
set_option maxHeartbeats 2000000 in
theorem terms_any (A1 A2 : Option Addr) (c1 c2 : Nat) (ts : List T3) (l : List L2) (w : World) (hle : ts.length ≤ c1) (hmost : c1 ≤ 9223372036854775807) (hl : l.length ≤ 9223372036854775807) (hT : La.SlAt w A1 (La.cellsT ts)) (hs : La.SlAt w A2 (La.cellsL l)) :
    Calls Tryz.prog 96 #[.slice A1 ts.length c1, .slice A2 l.length c2] w fun e w' => e = .returned (.int .i64 (termsO ts l : Int)) ∧ Below w.heap.size w w' := by
  have HT := Lib.hid hT
  have HS := Lib.hid hs
  have E : Hid (termsO ts l = numL (fun t => !holdO t l) ts) := Lib.hid rfl
  generalize termsO ts l = R at E ⊢
  clear hT hs
  go_enter Tryz.func96, Tryz.ntmps96
  go_wp2_with fail
  go_loopw [5, 6] (fun n i wr => ∃ k : Nat, k ≤ ts.length ∧ i = .int .i64 k ∧ n = .int .i64 ((numL (fun t => !holdO t l) (ts.take k) : Nat) : Int) ∧ Below w.heap.size w wr) (fun _ i _ => ts.length - (intOf i).toNat)
  case atStart => exact ⟨0, by omega, rfl, rfl, Below.refl _ _⟩
  case round =>
    obtain ⟨k, hk, rfl, rfl, hb⟩ := hrel
    have HB := Lib.hid hb
    clear hb
    by_cases hlt : k < ts.length
    · obtain ⟨y, hy⟩ : ∃ y, ts[k]? = some y := ⟨ts[k], List.getElem?_eq_getElem hlt⟩
      obtain ⟨b, o, hA, hbl, d0, d1, d2⟩ := La.SlAt.ter (HT.out.below HB.out) hy
      have HSub := Lib.hid (subT (HT.out.below HB.out) hA hy)
      subst hA
      have KH := Lib.hid (fun c => holdsR_any (some ⟨b, o + k * 3, none⟩) A2 c c2 [y] l wr (by simp) hl HSub.out (HS.out.below HB.out))
      have HN := Lib.hid (numL_snoc (fun t => !holdO t l) hy)
      have HNl := numL_le (fun t => !holdO t l) (ts.take k)
      rw [List.length_take] at HNl
      have k0 : (0 : Int) ≤ (k : Int) := by omega
      have k1 : (k : Int) < (ts.length : Int) := by omega
      have k2 : (k : Int) + 1 ≤ (c1 : Int) := by omega
      have k3 : (k : Int) ≤ (k : Int) + 1 := by omega
      have k4 : k ≤ k + 1 := by omega
      have k5 : k + 1 ≤ c1 := by omega
      have k6 : decide (k + 1 ≤ c1) = true := decide_eq_true k5
      have hwk : IntKind.i64.wrap ((k : Int) + 1) = (k : Int) + 1 := IntWalk.i64_in _ (by omega)
      have HY := Lib.hid hy
      clear hy
      have hho : Hid (holdsO [y] l = holdO y l) := Lib.hid (by simp [holdsO])
      rw [hho.out] at KH
      generalize numL (fun t => !holdO t l) (ts.take k) = M at HN HNl ⊢
      have hwm : IntKind.i64.wrap ((M : Int) + 1) = (M : Int) + 1 := IntWalk.i64_in _ (by omega)
      cases hq : holdO y l with
      | true =>
        rw [hq] at KH HN
        clear hq
        go_wp2_with fail
        refine (KH.out _).mono ?_
        rintro e w1 ⟨rfl, hb⟩
        have B1 := Lib.hid (HB.out.trans (hb.mono HB.out.size))
        clear hb KH d0 d1 d2
        go_wp2_with fail
        go_roundw
        case rel => exact ⟨k + 1, by omega, by go_num, by rw [HN.out]; simp, B1.out⟩
        case measure => simp [intOf]; omega
      | false =>
        rw [hq] at KH HN
        clear hq
        go_wp2_with fail
        refine (KH.out _).mono ?_
        rintro e w1 ⟨rfl, hb⟩
        have B1 := Lib.hid (HB.out.trans (hb.mono HB.out.size))
        clear hb KH d0 d1 d2
        go_wp2_with fail
        go_roundw
        case rel => exact ⟨k + 1, by omega, by go_num, by rw [HN.out]; simp, B1.out⟩
        case measure => simp [intOf]; omega
    · obtain rfl : k = ts.length := by omega
      have HE : Hid (((numL (fun t => !holdO t l) (ts.take ts.length) : Nat) : Int) = (R : Int)) := Lib.hid (by rw [E.out, List.take_length])
      go_wp2
      go_ret
      rw [HE.out]
      exact ⟨rfl, HB.out⟩
end Go.Proofs.YtpdaohkpgconkaaGreat

namespace Go.Proofs.YtpdaohkpgconkaaGreat
open Go.RowKit

set_option maxRecDepth 100000 in
set_option maxHeartbeats 2000000 in
theorem taints_any (A1 A2 : Option Addr) (c1 c2 : Nat) (ts bs : List L2) (w : World) (hle : ts.length ≤ c1) (hmost : c1 ≤ 9223372036854775807) (hl : bs.length ≤ 9223372036854775807) (hT : La.SlAt w A1 (La.cellsL ts)) (hs : La.SlAt w A2 (La.cellsL bs)) :
    Calls Tryz.prog 97 #[.slice A1 ts.length c1, .slice A2 bs.length c2] w fun e w' => e = .returned (.int .i64 (taintsO ts bs : Int)) ∧ Below w.heap.size w w' := by
  have HT := Lib.hid hT
  have HS := Lib.hid hs
  have E : Hid (taintsO ts bs = numL (fun t => !La.bearsL bs [t]) ts) := Lib.hid rfl
  generalize taintsO ts bs = R at E ⊢
  clear hT hs
  go_enter Tryz.func97, Tryz.ntmps97
  go_wp2_with fail
  go_loopw [5, 6] (fun n i wr => ∃ k : Nat, k ≤ ts.length ∧ i = .int .i64 k ∧ n = .int .i64 ((numL (fun t => !La.bearsL bs [t]) (ts.take k) : Nat) : Int) ∧ Below w.heap.size w wr) (fun _ i _ => ts.length - (intOf i).toNat)
  case atStart => exact ⟨0, by omega, rfl, rfl, Below.refl _ _⟩
  case round =>
    obtain ⟨k, hk, rfl, rfl, hb⟩ := hrel
    have HB := Lib.hid hb
    clear hb
    by_cases hlt : k < ts.length
    · obtain ⟨y, hy⟩ : ∃ y, ts[k]? = some y := ⟨ts[k], List.getElem?_eq_getElem hlt⟩
      obtain ⟨b, o, hA, hbl, d0, d1⟩ := La.SlAt.lab (HT.out.below HB.out) hy
      have HSub := Lib.hid (subL (HT.out.below HB.out) hA hy)
      subst hA
      have KH := Lib.hid (fun c => bearsR_any A2 (some ⟨b, o + k * 2, none⟩) c2 c bs [y] wr hl (by simp) (HS.out.below HB.out) HSub.out)
      have HN := Lib.hid (numL_snoc (fun t => !La.bearsL bs [t]) hy)
      have HNl := numL_le (fun t => !La.bearsL bs [t]) (ts.take k)
      rw [List.length_take] at HNl
      have k0 : (0 : Int) ≤ (k : Int) := by omega
      have k1 : (k : Int) < (ts.length : Int) := by omega
      have k2 : (k : Int) + 1 ≤ (c1 : Int) := by omega
      have k3 : (k : Int) ≤ (k : Int) + 1 := by omega
      have k4 : k ≤ k + 1 := by omega
      have k5 : k + 1 ≤ c1 := by omega
      have k6 : decide (k + 1 ≤ c1) = true := decide_eq_true k5
      have hwk : IntKind.i64.wrap ((k : Int) + 1) = (k : Int) + 1 := IntWalk.i64_in _ (by omega)
      clear hy
      generalize numL (fun t => !La.bearsL bs [t]) (ts.take k) = M at HN HNl ⊢
      have hwm : IntKind.i64.wrap ((M : Int) + 1) = (M : Int) + 1 := IntWalk.i64_in _ (by omega)
      cases hq : La.bearsL bs [y] with
      | true =>
        rw [hq] at KH HN
        clear hq
        go_wp2_with fail
        refine (KH.out _).mono ?_
        rintro e w1 ⟨rfl, hb⟩
        have B1 := Lib.hid (HB.out.trans (hb.mono HB.out.size))
        clear hb KH d0 d1
        go_wp2_with fail
        go_roundw
        case rel => exact ⟨k + 1, by omega, by go_num, by rw [HN.out]; simp, B1.out⟩
        case measure => simp [intOf]; omega
      | false =>
        rw [hq] at KH HN
        clear hq
        go_wp2_with fail
        refine (KH.out _).mono ?_
        rintro e w1 ⟨rfl, hb⟩
        have B1 := Lib.hid (HB.out.trans (hb.mono HB.out.size))
        clear hb KH d0 d1
        go_wp2_with fail
        go_roundw
        case rel => exact ⟨k + 1, by omega, by go_num, by rw [HN.out]; simp, B1.out⟩
        case measure => simp [intOf]; omega
    · obtain rfl : k = ts.length := by omega
      have HE : Hid (((numL (fun t => !La.bearsL bs [t]) (ts.take ts.length) : Nat) : Int) = (R : Int)) := Lib.hid (by rw [E.out, List.take_length])
      go_wp2
      go_ret
      rw [HE.out]
      exact ⟨rfl, HB.out⟩

/-- Whether the owner of that name is single. -/
def singleO (os : List OwnD) (name : List UInt8) : Bool := match os.find? (fun o => decide (o.name = name)) with
  | some o => o.single
  | none => false
theorem findO_at {l : List OwnD} {name : List UInt8} {k : Nat} {y : OwnD} (hk : l[k]? = some y) (hy : y.name = name) (hn : ∀ (j : Nat) (z : OwnD), j < k → l[j]? = some z → z.name ≠ name) : l.find? (fun o => decide (o.name = name)) = some y := by
  induction l generalizing k with
  | nil => simp at hk
  | cons a t ih =>
    cases k with
    | zero =>
      simp only [List.getElem?_cons_zero, Option.some.injEq] at hk
      subst hk
      rw [List.find?_cons_of_pos (by simpa using hy)]
    | succ k =>
      rw [List.find?_cons_of_neg (by simpa using hn 0 a (by omega) rfl)]
      exact ih (k := k) (by simpa using hk) (fun j z hj hz => hn (j + 1) z (by omega) (by simpa using hz))

set_option maxRecDepth 100000 in
set_option maxHeartbeats 2000000 in
theorem single_any (A B C : Option Addr) (ca cb cc : Nat) (ns : List NodeD) (ps : List PodD) (os : List OwnD) (name : List UInt8) (w : World) (h : SnapAt w A B C ca cb cc ns ps os) :
    Calls Tryz.prog 99 #[snapV A B C ca cb cc ns ps os, strV name] w fun e w' => e = .returned (.bool (singleO os name)) ∧ Below w.heap.size w w' := by
  have H := Lib.hid h
  have hlo := h.lo
  have B0 : Hid (Below w.heap.size w (w.alloc (.cells (snapC A B C ca cb cc ns ps os) 26))) := Lib.hid (below1 w _)
  have S0 : Hid (Blk (w.alloc (.cells (snapC A B C ca cb cc ns ps os) 26)) w.heap.size (snapC A B C ca cb cc ns ps os) 26) := Lib.hid (Blk.new w _ _)
  have E : Hid (singleO os name = match os.find? (fun o => decide (o.name = name)) with | some o => o.single | none => false) := Lib.hid rfl
  generalize singleO os name = R at E ⊢
  clear h
  go_enter Tryz.func99, Tryz.ntmps99
  go_wp2_with fail
  change Code.wp _ _ _ _ (w.alloc (.cells (snapC A B C ca cb cc ns ps os) 26))
  generalize (w.alloc (.cells (snapC A B C ca cb cc ns ps os) 26)) = W at B0 S0 ⊢
  go_loopw [5] (fun i wr => W = wr ∧ ∃ k : Nat, k ≤ os.length ∧ i = .int .i64 k ∧ (∀ (j : Nat) (z : OwnD), j < k → os[j]? = some z → z.name ≠ name)) (fun i _ => os.length - (intOf i).toNat)
  case atStart => exact ⟨rfl, 0, by omega, rfl, fun j z h => by omega⟩
  case round =>
    obtain ⟨rfl, k, hk, rfl, hn⟩ := hrel
    have HN := Lib.hid hn
    clear hn
    have s2 : W.cell? ⟨w.heap.size, 2, none⟩ = some (.slice C os.length cc) := Blk.cell S0.out 2
    by_cases hlt : k < os.length
    · obtain ⟨y, hy⟩ : ∃ y, os[k]? = some y := ⟨os[k], List.getElem?_eq_getElem hlt⟩
      obtain ⟨b, o, hA, hbl, d0, d1, d2, d3, d4⟩ := atO (H.out.below B0.out).o hy
      subst hA
      have k0 : (0 : Int) ≤ (k : Int) := by omega
      have k1 : (k : Int) < (os.length : Int) := by omega
      have HY := Lib.hid hy
      clear hy
      by_cases hq : y.name = name
      · have hqb : (y.name == name) = true := by simpa using hq
        have HE : Hid (R = y.single) := Lib.hid (by rw [E.out, findO_at HY.out hq HN.out])
        clear hq
        go_wp2
        go_ret
        exact ⟨La.retB HE.out.symm, B0.out⟩
      · have hqb : (y.name == name) = false := by simpa using hq
        have HQ := Lib.hid hq
        clear hq
        go_wp2_with fail
        go_roundw
        case rel => exact ⟨by first | rfl | trivial, k + 1, by omega, by go_num, fun j z hj hz => by
          by_cases hjk : j = k
          · subst hjk
            rw [HY.out] at hz
            cases hz
            exact HQ.out
          · exact HN.out j z (by omega) hz⟩
        case measure => simp [intOf]; omega
    · obtain rfl : k = os.length := by omega
      have HE : Hid (R = false) := Lib.hid (by
        rw [E.out]
        have : os.find? (fun o => decide (o.name = name)) = none := by
          rw [List.find?_eq_none]
          intro z hz
          obtain ⟨j, hj⟩ := List.mem_iff_getElem?.1 hz
          simpa using HN.out j z (List.getElem?_eq_some_iff.1 hj).1 hj
        rw [this])
      go_wp2
      go_ret
      exact ⟨La.retB HE.out.symm, B0.out⟩

/-- How many of the first k other pods stand where that one stands, and are of its owner. -/
def doubU (ps : List PodD) (p : List Int) (pod : Nat) : Nat → Nat
  | 0 => 0
  | k + 1 => doubU ps p pod k + (if k ≠ pod ∧ p[k]? = p[pod]? ∧ (ps[k]?).map (·.owner) = (ps[pod]?).map (·.owner) then 1 else 0)
theorem doubU_le (ps : List PodD) (p : List Int) (pod : Nat) : ∀ k, doubU ps p pod k ≤ k
  | 0 => Nat.le_refl _
  | k + 1 => by
    have := doubU_le ps p pod k
    rw [doubU]
    split <;> omega

set_option maxRecDepth 100000 in
set_option maxHeartbeats 4000000 in
theorem doubles_any (A B C P : Option Addr) (ca cb cc cp : Nat) (ns : List NodeD) (ps : List PodD) (os : List OwnD) (p : List Int) (pod : Nat) (w : World) (h : SnapAt w A B C ca cb cc ns ps os) (hp : IntsAt w P cp p) (hpl : p.length = ps.length) (hpod : pod < p.length) :
    Calls Tryz.prog 100 #[snapV A B C ca cb cc ns ps os, .slice P p.length cp, .int .i64 (pod : Int)] w fun e w' => e = .returned (.int .i64 (doubU ps p pod p.length : Int)) ∧ Below w.heap.size w w' := by
  have hlp := h.lp
  have H := Lib.hid h
  have HP := Lib.hid hp
  have HPL := Lib.hid hpl
  have B0 : Hid (Below w.heap.size w (w.alloc (.cells (snapC A B C ca cb cc ns ps os) 26))) := Lib.hid (below1 w _)
  have S0 : Hid (Blk (w.alloc (.cells (snapC A B C ca cb cc ns ps os) 26)) w.heap.size (snapC A B C ca cb cc ns ps os) 26) := Lib.hid (Blk.new w _ _)
  obtain ⟨xp, hxp⟩ : ∃ x, p[pod]? = some x := ⟨p[pod], List.getElem?_eq_getElem hpod⟩
  obtain ⟨yp, hyp⟩ : ∃ y, ps[pod]? = some y := ⟨ps[pod]'(by omega), List.getElem?_eq_getElem _⟩
  have HXP := Lib.hid hxp
  have HYP := Lib.hid hyp
  have q0 : (0 : Int) ≤ (pod : Int) := by omega
  have q1 : (pod : Int) < (p.length : Int) := by omega
  have q2 : (pod : Int) < (ps.length : Int) := by omega
  clear h hp hpl hxp hyp
  go_enter Tryz.func100, Tryz.ntmps100
  go_wp2_with fail
  change Code.wp _ _ _ _ (w.alloc (.cells (snapC A B C ca cb cc ns ps os) 26))
  generalize (w.alloc (.cells (snapC A B C ca cb cc ns ps os) 26)) = W at B0 S0 ⊢
  go_loopw [7, 8] (fun n i wr => ∃ k : Nat, k ≤ p.length ∧ i = .int .i64 k ∧ n = .int .i64 (doubU ps p pod k : Int) ∧ Blk wr w.heap.size (snapC A B C ca cb cc ns ps os) 26 ∧ Below w.heap.size w wr) (fun _ i _ => p.length - (intOf i).toNat)
  case atStart => exact ⟨0, by omega, rfl, rfl, S0.out, B0.out⟩
  case round =>
    clear S0 B0
    obtain ⟨k, hk, rfl, rfl, hS, hB⟩ := hrel
    have HS := Lib.hid hS
    have HB := Lib.hid hB
    clear hS hB
    by_cases hlt : k < p.length
    case neg =>
      obtain rfl : k = p.length := by omega
      go_wp2
      go_ret
      exact ⟨rfl, HB.out⟩
    obtain ⟨x, hx⟩ : ∃ x, p[k]? = some x := ⟨p[k], List.getElem?_eq_getElem hlt⟩
    obtain ⟨y, hy⟩ : ∃ y, ps[k]? = some y := ⟨ps[k]'(by have := HPL.out; omega), List.getElem?_eq_getElem _⟩
    obtain ⟨bp, op, hAp, hbp, hcp⟩ := atI (HP.out.below HB.out).cells hx
    obtain ⟨bp', op', hAp', hbp', hcq⟩ := atI (HP.out.below HB.out).cells HXP.out
    obtain ⟨b, o, hA, hbl, c0, c1, _⟩ := atP (H.out.below HB.out).p.cells hy
    obtain ⟨b', o', hA', hbl', e0, e1, _⟩ := atP (H.out.below HB.out).p.cells HYP.out
    subst hAp
    cases hAp'
    subst hA
    cases hA'
    have s1 : wr.cell? ⟨w.heap.size, 1, none⟩ = some (.slice (some ⟨b, o, none⟩) ps.length cb) := Blk.cell HS.out 1
    have Hd : Hid (doubU ps p pod (k + 1) = doubU ps p pod k + (if k ≠ pod ∧ x = xp ∧ y.owner = yp.owner then 1 else 0)) := Lib.hid (by
      rw [doubU, hx, hy, HXP.out, HYP.out]
      simp)
    have hdl := doubU_le ps p pod k
    have k0 : (0 : Int) ≤ (k : Int) := by omega
    have k1 : (k : Int) < (p.length : Int) := by omega
    have k2 : (k : Int) < (ps.length : Int) := by have := HPL.out; omega
    clear hx hy c0 e0
    generalize doubU ps p pod k = M at Hd hdl ⊢
    have hwm : IntKind.i64.wrap ((M : Int) + 1) = (M : Int) + 1 := IntWalk.i64_in _ (by have := HPL.out; omega)
    by_cases h1 : k = pod
    · have h1b : ((k : Int) != (pod : Int)) = false := by simp [h1]
      have HE : Hid (doubU ps p pod (k + 1) = M) := Lib.hid (by rw [Hd.out, if_neg (fun h => h.1 h1)]; rfl)
      clear Hd h1
      go_wp2_with fail
      go_region
      go_wp2_with fail
      go_roundw
      case rel => exact ⟨k + 1, by omega, by go_num, by rw [HE.out], HS.out, HB.out.drew⟩
      case measure => simp [intOf]; omega
    have h1b : ((k : Int) != (pod : Int)) = true := by simp; omega
    by_cases h2 : x = xp
    case neg =>
      have h2b : (x == xp) = false := by simpa using h2
      have HE : Hid (doubU ps p pod (k + 1) = M) := Lib.hid (by rw [Hd.out, if_neg (fun h => h2 h.2.1)]; rfl)
      clear Hd h2 h1
      go_wp2_with fail
      go_region
      go_wp2_with fail
      go_roundw
      case rel => exact ⟨k + 1, by omega, by go_num, by rw [HE.out], HS.out, HB.out.drew⟩
      case measure => simp [intOf]; omega
    have h2b : (x == xp) = true := by simpa using h2
    by_cases h3 : y.owner = yp.owner
    · have h3b : (y.owner == yp.owner) = true := by simpa using h3
      have HE : Hid (doubU ps p pod (k + 1) = M + 1) := Lib.hid (by rw [Hd.out, if_pos ⟨h1, h2, h3⟩])
      clear Hd h1 h2 h3
      go_wp2_with fail
      go_region
      go_wp2_with fail
      go_roundw
      case rel => exact ⟨k + 1, by omega, by go_num, by rw [HE.out]; simp, HS.out, HB.out.drew⟩
      case measure => simp [intOf]; omega
    · have h3b : (y.owner == yp.owner) = false := by simpa using h3
      have HE : Hid (doubU ps p pod (k + 1) = M) := Lib.hid (by rw [Hd.out, if_neg (fun h => h3 h.2.2)]; rfl)
      clear Hd h1 h2 h3
      go_wp2_with fail
      go_region
      go_wp2_with fail
      go_roundw
      case rel => exact ⟨k + 1, by omega, by go_num, by rw [HE.out], HS.out, HB.out.drew⟩
      case measure => simp [intOf]; omega
end Go.Proofs.YtpdaohkpgconkaaGreat

namespace Go.Proofs.YtpdaohkpgconkaaGreat
open Go.RowKit Go.Maps Go.Sort

/-- What those of the first nodes have together that have that value. -/
def sumV (ns : List NodeD) (key : List UInt8) (L : List Int) (v : List UInt8) : Nat → Int
  | 0 => 0
  | k + 1 => sumV ns key L v k + (if domF ns (k : Int) key = some v then L.getD k 0 else 0)
theorem sumV_zero (ns : List NodeD) (key v : List UInt8) (L : List Int) (h : ∀ k, L.getD k 0 = 0) : ∀ k, sumV ns key L v k = 0
  | 0 => rfl
  | k + 1 => by
    rw [sumV, sumV_zero ns key v L h k, h]
    split <;> rfl
theorem sumV_set (ns : List NodeD) (key v : List UInt8) (L : List Int) (q : Nat) (hq : q < L.length) : ∀ k, sumV ns key (L.set q (L.getD q 0 + 1)) v k = sumV ns key L v k + (if q < k ∧ domF ns (q : Int) key = some v then 1 else 0)
  | 0 => by
    rw [if_neg (by omega)]
    rfl
  | k + 1 => by
    rw [sumV, sumV, sumV_set ns key v L q hq k]
    by_cases e : q = k
    · subst e
      rw [if_neg (fun h => by omega)]
      by_cases hd : domF ns (q : Int) key = some v
      · rw [if_pos hd, if_pos hd, if_pos ⟨by omega, hd⟩]
        rw [List.getD_eq_getElem?_getD, List.getElem?_set_self hq]
        simp
        omega
      · rw [if_neg hd, if_neg hd, if_neg (fun h => hd h.2)]
    · have h1 : (L.set q (L.getD q 0 + 1)).getD k 0 = L.getD k 0 := by
        rw [List.getD_eq_getElem?_getD, List.getElem?_set_ne e, ← List.getD_eq_getElem?_getD]
      have h2 : (if q < k + 1 ∧ domF ns (q : Int) key = some v then (1 : Int) else 0) = if q < k ∧ domF ns (q : Int) key = some v then 1 else 0 := by
        by_cases hk : q < k ∧ domF ns (q : Int) key = some v
        · rw [if_pos hk, if_pos ⟨by omega, hk.2⟩]
        · rw [if_neg hk, if_neg (fun h => hk ⟨by omega, h.2⟩)]
      rw [h1, h2]
      omega
theorem two_from (ns : List NodeD) (key : List UInt8) (p : List Int) : ∀ (ys : List Nat) (D : DataW Unit) (L : List Int) (c : Nat), SpreadAt ns key D c → c + ys.length ≤ 1000 → L.length = ns.length → (∀ y ∈ ys, ∃ x, p[y]? = some x ∧ 0 ≤ x ∧ x < (ns.length : Int)) → (∀ v, valD D v = sumV ns key L v ns.length) → ∀ v, valD (ys.foldl (spreadS ns key p) D) v = sumV ns key (ys.foldl (fun l y => match p[y]? with | some x => l.set x.toNat (l.getD x.toNat 0 + 1) | none => l) L) v ns.length
  | [], _, _, _, _, _, _, _, hv => hv
  | y :: t, D, L, c, h, hc, hL, hy, hv => by
    rw [List.length_cons] at hc
    obtain ⟨x, hx, hx0, hx1⟩ := hy y (by simp)
    obtain ⟨q, rfl⟩ : ∃ q : Nat, x = (q : Int) := ⟨x.toNat, by omega⟩
    have hs : SpreadAt ns key (spreadS ns key p D y) (c + 1) := spread_from ns key p [y] D c h (by simp; omega)
    rw [List.foldl_cons, List.foldl_cons]
    have hst : (match p[y]? with | some x => L.set x.toNat (L.getD x.toNat 0 + 1) | none => L) = L.set q (L.getD q 0 + 1) := by
      rw [hx]
      simp
    rw [hst]
    refine two_from ns key p t _ _ (c + 1) hs (by omega) (by rw [List.length_set, hL]) (fun z hz => hy z (by simp [hz])) (fun v => ?_)
    rw [sumV_set ns key v L q (by omega), ← hv]
    have hq : q < ns.length := by omega
    unfold spreadS
    rw [hx]
    dsimp only
    cases hd : domF ns (q : Int) key with
    | none =>
      rw [if_neg (fun h => by have := h.2; cases this)]
      simp
    | some u =>
      dsimp only
      have hw : wrap64 (valD D u + 1) = valD D u + 1 := IntWalk.wrap64_in _ (by have := h.vals u; omega)
      have e : bumpD D u = D.put (.string u) (.lit (.int .i64 (valD D u + 1))) := by
        rw [← hw]
        rfl
      rw [e, val_put h.keyed]
      by_cases huv : v = u
      · subst huv
        rw [if_pos rfl, if_pos ⟨hq, rfl⟩]
        rfl
      · rw [if_neg huv, if_neg (fun h => huv (by have := h.2; cases this; rfl))]
        omega

theorem repl_getD (n k : Nat) : (List.replicate n (0 : Int)).getD k 0 = 0 := by
  rw [List.getD_eq_getElem?_getD, List.getElem?_replicate]
  split <;> rfl

theorem spread_is (ns : List NodeD) (key : List UInt8) (p : List Int) (ys : List Nat) (hl : ys.length ≤ 1000) (hy : ∀ y ∈ ys, ∃ x, p[y]? = some x ∧ 0 ≤ x ∧ x < (ns.length : Int)) :
    rowD (spreadD ns key p ys) = (domsR ns key ns.length).map (fun v => sumV ns key (cntL ns.length p ys) v ns.length) := by
  have hA := spread_all ns key p ys hl
  have hk : sortK (spreadD ns key p ys) = domsR ns key ns.length := by
    rw [← doms_sort]
    exact mergeSort_of_perm hA.keys
  unfold rowD
  rw [hk]
  refine List.map_congr_left (fun v _ => ?_)
  exact two_from ns key p ys _ _ 0 (spread_zero ns key) (by omega) (List.length_replicate ..) hy (fun u => by
    rw [sumV_zero ns key u _ (repl_getD ns.length)]
    exact (keyed_doms ns key ns.length).2 u) v

/-- What is summed is no more than all. -/
theorem sumV_le (ns : List NodeD) (key v : List UInt8) (L : List Int) (h : ∀ x ∈ L, 0 ≤ x) : ∀ k, k ≤ L.length → 0 ≤ sumV ns key L v k ∧ sumV ns key L v k ≤ (L.take k).sum
  | 0, _ => by simp [sumV]
  | k + 1, hk => by
    have ih := sumV_le ns key v L h k (by omega)
    have hkl : k < L.length := by omega
    rw [sumV, List.take_succ_eq_append_getElem hkl, List.sum_append]
    have h0 := h L[k] (List.getElem_mem hkl)
    have h1 : L.getD k 0 = L[k] := by rw [List.getD_eq_getElem?_getD, List.getElem?_eq_getElem hkl]; rfl
    rw [h1]
    simp only [List.sum_cons, List.sum_nil]
    split <;> omega
end Go.Proofs.YtpdaohkpgconkaaGreat

namespace Go.Proofs.YtpdaohkpgconkaaGreat
open Go.RowKit Go.Maps Go.Sort

set_option maxRecDepth 100000 in
set_option maxHeartbeats 8000000 in
theorem spreadOf7_any (A B C P : Option Addr) (ca cb cc cp : Nat) (ns : List NodeD) (ps : List PodD) (os : List OwnD) (p : List Int) (ko : Nat) (xo : OwnD) (hxo : os[ko]? = some xo) (hE : placeE ns ps os p = 0) (w : World) (h : SnapAt w A B C ca cb cc ns ps os) (hp : IntsAt w P cp p) :
    Calls Tryz.prog 101 #[snapV A B C ca cb cc ns ps os, .slice P p.length cp, .int .i64 (ko : Int)] w fun e w' => ∃ v, e = .returned v ∧ w'.ownsRow w.heap.size 3 1 v (rowD (spreadD ns xo.topo p (offL p (membersF ps xo.name)))).length (intsC (rowD (spreadD ns xo.topo p (offL p (membersF ps xo.name))))) ∧ Below w.heap.size w w' := by
  have hln := h.ln
  have hol : (offL p (membersF ps xo.name)).length ≤ 1000 := Nat.le_trans (offL_len p _) (Nat.le_trans (membersU_len ps xo.name _) h.lp)
  have H := Lib.hid h
  have HXO := Lib.hid hxo
  have q0 : (0 : Int) ≤ (ko : Int) := by omega
  have q1 : (ko : Int) < (os.length : Int) := by have := (List.getElem?_eq_some_iff.1 hxo).1; omega
  have B0 : Hid (Below w.heap.size w (w.alloc (.cells (snapC A B C ca cb cc ns ps os) 26))) := Lib.hid (below1 w _)
  have S0 : Hid (Blk (w.alloc (.cells (snapC A B C ca cb cc ns ps os) 26)) w.heap.size (snapC A B C ca cb cc ns ps os) 26) := Lib.hid (Blk.new w _ _)
  have KC := Lib.hid (counts7_any A B C P ca cb cc cp ns ps os p ko xo hxo hE _ (h.below B0.out) (hp.below B0.out))
  have KD := Lib.hid (fun w' (hb : Below w.heap.size w w') => domains7_any A B C ca cb cc ns ps os xo.topo w' (h.below hb))
  have HL := Lib.hid (cntL_len ns.length p (offL p (membersF ps xo.name)))
  have HSum := cnt_sum ns.length p (offL p (membersF ps xo.name)) (off_in hE xo.name)
  have HPos := cnt_pos ns.length p (offL p (membersF ps xo.name))
  have HT := take_sum _ HPos
  have HSB : Hid (∀ u m, m ≤ ns.length → 0 ≤ sumV ns xo.topo (cntL ns.length p (offL p (membersF ps xo.name))) u m ∧ sumV ns xo.topo (cntL ns.length p (offL p (membersF ps xo.name))) u m ≤ 1000) := Lib.hid (fun u m hm => by
    have h1 := sumV_le ns xo.topo u _ HPos m (by rw [cntL_len]; exact hm)
    have h2 := (HT m).2
    omega)
  have HR := Lib.hid (spread_is ns xo.topo p (offL p (membersF ps xo.name)) hol (off_in hE xo.name))
  have hDl := Nat.le_trans (domsR_len ns xo.topo ns.length) hln
  obtain ⟨i0, hi0, hz0, hz1, hz2⟩ := info_parts Qu.int_info
  clear h hp hxo hE HSum HPos HT hol
  generalize rowD (spreadD ns xo.topo p (offL p (membersF ps xo.name))) = R at HR ⊢
  generalize cntL ns.length p (offL p (membersF ps xo.name)) = L at KC HL HSB HR
  generalize domsR ns xo.topo ns.length = D at KD HR hDl
  go_enter Tryz.func101, Tryz.ntmps101
  go_wp2_with fail
  refine (KC.out).mono ?_
  rintro e w1 ⟨v, rfl, ho, hb⟩
  obtain ⟨G, cg, rfl, _⟩ := La.own_slice ho
  have O1 := Lib.hid ho
  have S1 := Lib.hid (S0.out.below hb S0.out.lt)
  have B1 := Lib.hid (B0.out.trans (hb.mono B0.out.size))
  clear ho hb KC B0 S0
  have K2 := Lib.hid (KD.out w1 B1.out)
  obtain ⟨bo, oo, hAo, hbo, d0, d1, d2, d3, d4⟩ := atO (H.out.below B1.out).o HXO.out
  subst hAo
  have s0 : w1.cell? ⟨w.heap.size, 0, none⟩ = some (.slice A ns.length ca) := Blk.cell S1.out 0
  have s1 : w1.cell? ⟨w.heap.size, 1, none⟩ = some (.slice B ps.length cb) := Blk.cell S1.out 1
  have s2 : w1.cell? ⟨w.heap.size, 2, none⟩ = some (.slice (some ⟨bo, oo, none⟩) os.length cc) := Blk.cell S1.out 2
  clear d0 d1 d3 d4 KD
  go_wp2_with fail
  refine (K2.out).mono ?_
  rintro e w2 ⟨v, rfl, ho, hb⟩
  obtain ⟨Q, cq, rfl, _⟩ := La.own_slice ho
  have OD := Lib.hid ho
  have OL := Lib.hid (La.own_below O1.out hb)
  have S2 := Lib.hid (S1.out.below hb S1.out.lt)
  have B2 := Lib.hid (B1.out.trans (hb.mono B1.out.size))
  clear ho hb K2 O1 B1 S1 s0 s1 s2 d2
  have HCL := Lib.hid (fun W (hb : Below w2.heap.size w2 W) => La.own_slat (La.own_below OL.out hb))
  have HCD := Lib.hid (fun W (hb : Below w2.heap.size w2 W) => La.own_slat (La.own_below OD.out hb))
  have HSS := Lib.hid (fun W (hb : Below w2.heap.size w2 W) => Blk.cell (S2.out.below hb S2.out.lt) 0)
  have HT2 := Lib.hid (fun W (hb : Below w2.heap.size w2 W) => H.out.below (B2.out.trans (hb.mono B2.out.size)))
  clear OL OD S2 H
  go_wp2_with fail
  go_loopw [7, 11] (fun v i wr => ∃ k : Nat, k ≤ D.length ∧ i = .int .i64 k ∧ wr.ownsRow w2.heap.size 3 1 v k (intsC (R.take k)) ∧ Below w2.heap.size w2 wr) (fun _ i _ => D.length - (intOf i).toNat)
  case atStart => exact ⟨0, by omega, rfl, World.ownsRow_nil _ _ _ _, Below.refl _ _⟩
  case round =>
    obtain ⟨k, hk, rfl, ho, hb⟩ := hrel
    have HO := Lib.hid ho
    have HB := Lib.hid hb
    clear ho hb
    by_cases hlt : k < D.length
    case neg =>
      obtain rfl : k = D.length := by omega
      have hRl : Hid (R.length = D.length ∧ R.take D.length = R) := Lib.hid (by
        have : R.length = D.length := by rw [HR.out, List.length_map]
        exact ⟨this, by rw [← this, List.take_length]⟩)
      go_wp2
      go_ret
      rw [hRl.out.1, ← hRl.out.2]
      refine ⟨_, rfl, ?_, B2.out.trans (HB.out.mono B2.out.size)⟩
      rw [hRl.out.2]
      have := own_base HO.out B2.out.size
      rwa [hRl.out.2] at this
    obtain ⟨u, hu⟩ : ∃ u, D[k]? = some u := ⟨D[k], List.getElem?_eq_getElem hlt⟩
    have HU := Lib.hid hu
    have HRk : Hid (R.take (k + 1) = R.take k ++ [sumV ns xo.topo L u ns.length]) := Lib.hid (by
      have hRu : R[k]? = some (sumV ns xo.topo L u ns.length) := by
        rw [HR.out, List.getElem?_map, HU.out]
        rfl
      obtain ⟨hj', he⟩ := List.getElem?_eq_some_iff.1 hRu
      rw [List.take_succ_eq_append_getElem hj', he])
    have k0 : (0 : Int) ≤ (k : Int) := by omega
    have k1 : (k : Int) < (D.length : Int) := by omega
    clear hu
    go_wp2_with fail
    go_loopw [12, 13] (fun n i wq => ∃ m : Nat, m ≤ ns.length ∧ i = .int .i64 m ∧ n = .int .i64 (sumV ns xo.topo L u m) ∧ Below wr.heap.size wr wq) (fun _ i _ => ns.length - (intOf i).toNat)
    case atStart => exact ⟨0, by omega, rfl, rfl, Below.refl _ _⟩
    case round =>
      rename_i wq _
      obtain ⟨m, hm, rfl, rfl, hbq⟩ := hrel
      have HBQ := Lib.hid hbq
      clear hbq
      have BQ := Lib.hid (HB.out.trans (HBQ.out.mono HB.out.size))
      by_cases hlm : m < ns.length
      case neg =>
        obtain rfl : m = ns.length := by omega
        have O2 := Lib.hid (La.own_below HO.out HBQ.out)
        generalize sumV ns xo.topo L u ns.length = c at HRk
        go_wp2_with (at_builtin; refine wpList_append_own _ rfl _ _ 44 rfl w2.heap.size 3 i0 (.int .i64 0) 1 8 Tryz.underlying44 hi0 hz0 hz1 hz2 rfl (by decide) _ _ _ rfl (show World.ownsRow _ _ _ _ _ _ _ from O2.out.alloc _) ⟨wr.heap.size, 0, none⟩ 1 1 [.int .i64 c] rfl rfl ?c1 ?c2 ?c3 ?c4 ?c5 ?_)
        case c1 =>
          intro j u hj
          match j, hj with
          | 0, hj => simp at hj; subst hj; simp [Addr.add]
        case c2 => first | rfl | (intro u hu; simp at hu; subst hu; rfl)
        case c3 => unfold maxLen; omega
        case c4 => omega
        case c5 => have := BQ.out.size; simp; omega
        intro v' w4 hown' hgrow' _
        have P4 := Lib.hid hown'
        have D4 := Lib.hid ((BQ.out.alloc BQ.out.size (.cells #[.int .i64 c] 3)).grown hgrow' (by have := BQ.out.size; simp; omega) (fun j hj => own_gem O2.out hj))
        clear hown' hgrow'
        go_wp2_with fail
        go_roundw
        case rel =>
          refine ⟨k + 1, by omega, by go_num, ?_, D4.out⟩
          rw [HRk.out]
          simpa [intsC] using P4.out
        case measure => simp [intOf]; omega
      obtain ⟨x, hx⟩ : ∃ x, ns[m]? = some x := ⟨ns[m], List.getElem?_eq_getElem hlm⟩
      have KV := Lib.hid (valueOf_any x xo.topo wr ((HT2.out _ BQ.out).n.fit x (List.mem_of_getElem? hx)))
      obtain ⟨b, o, hA, hbl, c0, c1, c2, c3, c4, c5, c6, c7, c8, c9⟩ := atN (HT2.out _ BQ.out).n.cells hx
      subst hA
      have s0 := HSS.out _ BQ.out
      have Hd : Hid (sumV ns xo.topo L u (m + 1) = sumV ns xo.topo L u m + (if valK x xo.topo = some u then L.getD m 0 else 0)) := Lib.hid (by rw [sumV, domF_at hx])
      have m0 : (0 : Int) ≤ (m : Int) := by omega
      have m1 : (m : Int) < (ns.length : Int) := by omega
      obtain ⟨c, hc⟩ : ∃ c, L[m]? = some c := ⟨L[m]'(by have := HL.out; omega), List.getElem?_eq_getElem _⟩
      have Hc : Hid (L.getD m 0 = c) := Lib.hid (by rw [List.getD_eq_getElem?_getD, hc]; rfl)
      have HC := Lib.hid hc
      clear hx hc
      generalize valK x xo.topo = V at KV Hd
      go_wp2_with fail
      refine (KV.out).mono ?_
      rintro e w3 ⟨rfl, hb⟩
      have B3 := Lib.hid (HBQ.out.trans (hb.mono HBQ.out.size))
      have D3 := Lib.hid (HB.out.trans (B3.out.mono HB.out.size))
      obtain ⟨g1, o1, hG, hcell⟩ := HCL.out _ D3.out m (.int .i64 c) (by unfold intsC; rw [List.getElem?_map, HC.out]; rfl)
      obtain ⟨g2, o2, hQ, hcellD⟩ := HCD.out _ D3.out k (strV u) (by unfold strC; rw [List.getElem?_map, HU.out]; rfl)
      subst hG
      subst hQ
      clear hb KV s0 c0 c1 c2 c3 c4 c5 c6 c7 c8 c9
      cases V with
      | none =>
        have HE : Hid (sumV ns xo.topo L u (m + 1) = sumV ns xo.topo L u m) := Lib.hid (by rw [Hd.out, if_neg (by simp)]; omega)
        clear Hd
        go_wp2_with fail
        go_roundw
        case rel => exact ⟨m + 1, by omega, by go_num, by rw [HE.out], B3.out⟩
        case measure => simp [intOf]; omega
      | some y =>
        by_cases hyu : y = u
        case neg =>
          have HE : Hid (sumV ns xo.topo L u (m + 1) = sumV ns xo.topo L u m) := Lib.hid (by rw [Hd.out, if_neg (by simpa using hyu)]; omega)
          have hyb : (y == u) = false := by simpa using hyu
          clear Hd
          go_wp2_with fail
          go_roundw
          case rel => exact ⟨m + 1, by omega, by go_num, by rw [HE.out], B3.out⟩
          case measure => simp [intOf]; omega
        subst hyu
        have HE : Hid (sumV ns xo.topo L y (m + 1) = sumV ns xo.topo L y m + c) := Lib.hid (by rw [Hd.out, if_pos rfl, Hc.out])
        have hyb : (y == y) = true := by simp
        have hsb := HSB.out y (m + 1) (by omega)
        rw [HE.out] at hsb
        have hwr : wrap64 (sumV ns xo.topo L y m + c) = sumV ns xo.topo L y m + c := IntWalk.wrap64_in _ (by omega)
        have hwi : IntKind.i64.wrap (sumV ns xo.topo L y m + c) = sumV ns xo.topo L y m + c := (IntWalk.i64_left _).trans hwr
        clear Hd hsb
        go_wp2_with fail
        go_roundw
        case rel => exact ⟨m + 1, by omega, by go_num, by rw [HE.out], B3.out⟩
        case measure => simp [intOf]; omega
end Go.Proofs.YtpdaohkpgconkaaGreat

namespace Go.Proofs.YtpdaohkpgconkaaGreat
open Go.RowKit

def minL (l : List Int) : Int := l.foldl min (l.headD 0)
def maxL (l : List Int) : Int := l.foldl max (l.headD 0)
/-- By how much it is too great. -/
def skewO (l : List Int) (skew : Int) : Int := if l = [] then 0 else max 0 (wrap64 (wrap64 (maxL l - minL l) - skew))
theorem fold_snoc (f : Int → Int → Int) (a : Int) {l : List Int} {k : Nat} {c : Int} (hc : l[k]? = some c) : (l.take (k + 1)).foldl f a = f ((l.take k).foldl f a) c := by
  rw [List.take_add_one, hc, List.foldl_append]
  rfl

set_option maxRecDepth 100000 in
set_option maxHeartbeats 4000000 in
theorem skew_any (A B C P : Option Addr) (ca cb cc cp : Nat) (ns : List NodeD) (ps : List PodD) (os : List OwnD) (p : List Int) (ko : Nat) (xo : OwnD) (hxo : os[ko]? = some xo) (hE : placeE ns ps os p = 0) (w : World) (h : SnapAt w A B C ca cb cc ns ps os) (hp : IntsAt w P cp p) :
    Calls Tryz.prog 76 #[snapV A B C ca cb cc ns ps os, .slice P p.length cp, .int .i64 (ko : Int)] w fun e w' => e = .returned (.int .i64 (skewO (spreadF ns ps os p (ko : Int)) xo.skew)) ∧ Below w.heap.size w w' := by
  have H := Lib.hid h
  have HXO := Lib.hid hxo
  have hkl := (List.getElem?_eq_some_iff.1 hxo).1
  have q0 : (0 : Int) ≤ (ko : Int) := by omega
  have q1 : (ko : Int) < (os.length : Int) := by omega
  have B0 : Hid (Below w.heap.size w (w.alloc (.cells (snapC A B C ca cb cc ns ps os) 26))) := Lib.hid (below1 w _)
  have S0 : Hid (Blk (w.alloc (.cells (snapC A B C ca cb cc ns ps os) 26)) w.heap.size (snapC A B C ca cb cc ns ps os) 26) := Lib.hid (Blk.new w _ _)
  have hR : ownerB ns ps os p (ko : Int) = true := by
    unfold ownerB
    rw [decide_eq_true hE, decide_eq_true (⟨q0, q1⟩ : 0 ≤ (ko : Int) ∧ (ko : Int) < (os.length : Int))]
    rfl
  have hsp : spreadF ns ps os p (ko : Int) = rowD (spreadD ns xo.topo p (offL p (membersF ps xo.name))) := by
    unfold spreadF
    rw [if_pos hR, Int.toNat_natCast, hxo]
  have KS := Lib.hid (spreadOf7_any A B C P ca cb cc cp ns ps os p ko xo hxo hE _ (h.below B0.out) (hp.below B0.out))
  have hLl : (rowD (spreadD ns xo.topo p (offL p (membersF ps xo.name)))).length ≤ 1000 := by
    rw [spread_is ns xo.topo p (offL p (membersF ps xo.name)) (Nat.le_trans (offL_len p _) (Nat.le_trans (membersU_len ps xo.name _) h.lp)) (off_in hE xo.name), List.length_map]
    exact Nat.le_trans (domsR_len ns xo.topo ns.length) h.ln
  rw [hsp]
  generalize rowD (spreadD ns xo.topo p (offL p (membersF ps xo.name))) = L at KS hLl ⊢
  clear h hp hxo hE hR hsp hkl
  have E : Hid (skewO L xo.skew = if L = [] then 0 else max 0 (wrap64 (wrap64 (maxL L - minL L) - xo.skew))) := Lib.hid rfl
  generalize skewO L xo.skew = R at E ⊢
  go_enter Tryz.func76, Tryz.ntmps76
  go_wp2_with fail
  refine (KS.out).mono ?_
  rintro e w1 ⟨v, rfl, ho, hb⟩
  obtain ⟨G, cg, rfl, _⟩ := La.own_slice ho
  have O1 := Lib.hid (La.own_slat ho)
  have B1 := Lib.hid (B0.out.trans (hb.mono B0.out.size))
  have S1 := Lib.hid (S0.out.below hb S0.out.lt)
  clear ho hb KS B0 S0
  cases hL : L with
  | nil =>
    subst hL
    have HE : Hid (R = 0) := Lib.hid (by rw [E.out, if_pos rfl])
    clear E
    simp only [List.length_nil]
    go_wp2
    go_ret
    rw [HE.out]
    exact ⟨rfl, B1.out⟩
  | cons c0 t =>
    have h0 : L[0]? = some c0 := by rw [hL]; rfl
    have hpos : 0 < L.length := by rw [hL]; simp
    have HE : Hid (R = max 0 (wrap64 (wrap64 ((L.take L.length).foldl max c0 - (L.take L.length).foldl min c0) - xo.skew))) := Lib.hid (by
      rw [E.out, if_neg (by rw [hL]; simp), List.take_length]
      unfold maxL minL
      rw [hL]
      rfl)
    rw [← hL]
    clear hL E
    obtain ⟨g, o, hG, hc0⟩ := O1.out 0 (.int .i64 c0) (by unfold intsC; rw [List.getElem?_map, h0]; rfl)
    subst hG
    rw [Nat.add_zero] at hc0
    have l0 : ¬ (L.length : Int) = 0 := by omega
    have l1 : (0 : Int) < (L.length : Int) := by omega
    have l4 : ¬ L.length = 0 := by omega
    have l2 : (L.length == 0) = false := by simpa using l4
    have l3 : ((L.length : Int) == 0) = false := by simpa using l4
    clear h0
    go_wp2_with fail
    go_region
    go_wp2_with fail
    go_loopw [8, 9, 10] (fun a b i wr => w1.drew = wr ∧ ∃ j : Nat, j ≤ L.length ∧ i = .int .i64 j ∧ a = .int .i64 ((L.take j).foldl min c0) ∧ b = .int .i64 ((L.take j).foldl max c0)) (fun _ _ i _ => L.length - (intOf i).toNat)
    case atStart => exact ⟨rfl, 0, by omega, rfl, rfl, rfl⟩
    case round =>
      obtain ⟨rfl, j, hj, rfl, rfl, rfl⟩ := hrel
      by_cases hlt : j < L.length
      case neg =>
        obtain rfl : j = L.length := by omega
        have s2 : w1.drew.cell? ⟨w.heap.size, 2, none⟩ = some (.slice C os.length cc) := Blk.cell S1.out 2
        obtain ⟨bo, oo, hAo, hbo, d0, d1, d2, d3, d4⟩ := atO (H.out.below B1.out).o HXO.out
        subst hAo
        have d5 : w1.drew.cell? ⟨bo, oo + ko * 5 + 3, none⟩ = some (.int .i64 xo.skew) := d3
        generalize (L.take L.length).foldl min c0 = a at HE ⊢
        generalize (L.take L.length).foldl max c0 = b at HE ⊢
        go_wp2
        go_ret
        rw [HE.out]
        exact ⟨rfl, B1.out.drew⟩
      obtain ⟨c, hc⟩ : ∃ c, L[j]? = some c := ⟨L[j], List.getElem?_eq_getElem hlt⟩
      obtain ⟨g', o', hG', hcell⟩ := O1.out j (.int .i64 c) (by unfold intsC; rw [List.getElem?_map, hc]; rfl)
      cases hG'
      have hcd : w1.drew.cell? ⟨g, o + j, none⟩ = some (.int .i64 c) := hcell
      have H1 := Lib.hid (fold_snoc min c0 hc)
      have H2 := Lib.hid (fold_snoc max c0 hc)
      have j0 : (0 : Int) ≤ (j : Int) := by omega
      have j1 : (j : Int) < (L.length : Int) := by omega
      clear hc
      generalize (L.take j).foldl min c0 = a at H1 ⊢
      generalize (L.take j).foldl max c0 = b at H2 ⊢
      go_wp2_with fail
      go_roundw
      case rel => exact ⟨by first | rfl | trivial, j + 1, by omega, by go_num, by rw [H1.out], by rw [H2.out]⟩
      case measure => simp [intOf]; omega
end Go.Proofs.YtpdaohkpgconkaaGreat

namespace Go.Proofs.YtpdaohkpgconkaaGreat
open Go.RowKit

/-- A clause: its kind, A, B, By. -/
abbrev ClT := Int × Int × Int × Int
abbrev clV (x : ClT) : Value := .agg #[.int .i64 x.1, .int .i64 x.2.1, .int .i64 x.2.2.1, .int .i64 x.2.2.2]
def cells4 (l : List ClT) : List Value := l.flatMap fun x => [.int .i64 x.1, .int .i64 x.2.1, .int .i64 x.2.2.1, .int .i64 x.2.2.2]
theorem cells4_snoc (l : List ClT) (x : ClT) : cells4 (l ++ [x]) = cells4 l ++ [.int .i64 x.1, .int .i64 x.2.1, .int .i64 x.2.2.1, .int .i64 x.2.2.2] := by simp [cells4]
theorem cells4_at : ∀ (l : List ClT) (k : Nat) (x : ClT), l[k]? = some x → (cells4 l)[k * 4]? = some (.int .i64 x.1) ∧ (cells4 l)[k * 4 + 1]? = some (.int .i64 x.2.1) ∧ (cells4 l)[k * 4 + 2]? = some (.int .i64 x.2.2.1) ∧ (cells4 l)[k * 4 + 3]? = some (.int .i64 x.2.2.2)
  | [], k, x, h => by simp at h
  | y :: t, 0, x, h => by
    simp only [List.getElem?_cons_zero, Option.some.injEq] at h
    subst h
    exact ⟨rfl, rfl, rfl, rfl⟩
  | y :: t, k + 1, x, h => by
    obtain ⟨h0, h1, h2, h3⟩ := cells4_at t k x (by simpa using h)
    have e : cells4 (y :: t) = [.int .i64 y.1, .int .i64 y.2.1, .int .i64 y.2.2.1, .int .i64 y.2.2.2] ++ cells4 t := rfl
    rw [e]
    refine ⟨?_, ?_, ?_, ?_⟩
    · rw [List.getElem?_append_right (by simp; omega), ← h0]; congr 1; simp; omega
    · rw [List.getElem?_append_right (by simp; omega), ← h1]; congr 1; simp; omega
    · rw [List.getElem?_append_right (by simp; omega), ← h2]; congr 1; simp; omega
    · rw [List.getElem?_append_right (by simp; omega), ← h3]; congr 1; simp; omega
theorem atC {w : World} {A : Option Addr} {l : List ClT} (h : La.SlAt w A (cells4 l)) {k : Nat} {x : ClT} (hk : l[k]? = some x) :
    ∃ b o, A = some ⟨b, o, none⟩ ∧ b < w.heap.size ∧ w.cell? ⟨b, o + k * 4, none⟩ = some (.int .i64 x.1) ∧ w.cell? ⟨b, o + k * 4 + 1, none⟩ = some (.int .i64 x.2.1) ∧ w.cell? ⟨b, o + k * 4 + 2, none⟩ = some (.int .i64 x.2.2.1) ∧ w.cell? ⟨b, o + k * 4 + 3, none⟩ = some (.int .i64 x.2.2.2) := by
  obtain ⟨h0, h1, h2, h3⟩ := cells4_at l k x hk
  obtain ⟨b, o, hA, c0⟩ := h _ _ h0
  obtain ⟨b', o', hA', c1⟩ := h _ _ h1
  rw [hA] at hA'
  cases hA'
  obtain ⟨b', o', hA', c2⟩ := h _ _ h2
  rw [hA] at hA'
  cases hA'
  obtain ⟨b', o', hA', c3⟩ := h _ _ h3
  rw [hA] at hA'
  cases hA'
  exact ⟨b, o, hA, World.block_lt_of_cell? w _ c0, c0, c1, c2, c3⟩

theorem part_cl0 (a b c d : Int) (w : World) : (Go.part 3 #[.int .i64 a, .int .i64 b, .int .i64 c, .int .i64 d] 0).run Tryz.prog w = .ok (.int .i64 a) w := by kernel_rfl
theorem part_cl1 (a b c d : Int) (w : World) : (Go.part 3 #[.int .i64 a, .int .i64 b, .int .i64 c, .int .i64 d] 1).run Tryz.prog w = .ok (.int .i64 b) w := by kernel_rfl
theorem part_cl2 (a b c d : Int) (w : World) : (Go.part 3 #[.int .i64 a, .int .i64 b, .int .i64 c, .int .i64 d] 2).run Tryz.prog w = .ok (.int .i64 c) w := by kernel_rfl
theorem part_cl3 (a b c d : Int) (w : World) : (Go.part 3 #[.int .i64 a, .int .i64 b, .int .i64 c, .int .i64 d] 3).run Tryz.prog w = .ok (.int .i64 d) w := by kernel_rfl
theorem eq_cl_in (n : Nat) (a b c d : Int) (w : World) : (Op.equalIn (n + 2) 47 (.agg #[.int .i64 a, .int .i64 b, .int .i64 c, .int .i64 d]) (.agg #[.int .i64 a, .int .i64 b, .int .i64 c, .int .i64 d])).run Tryz.prog w = .ok true w := by
  rw [Op.equalIn]
  simp only [Sem.run_bind, run_underlying Tryz.underlying47, Result.andThen_ok]
  simp [Sem.run_bind, part_cl0, part_cl1, part_cl2, part_cl3, Qu.eq_int]
theorem eq_cl (a b c d : Int) (w : World) : (Op.equalIn 10000 47 (.agg #[.int .i64 a, .int .i64 b, .int .i64 c, .int .i64 d]) (.agg #[.int .i64 a, .int .i64 b, .int .i64 c, .int .i64 d])).run Tryz.prog w = .ok true w := eq_cl_in 9998 a b c d w
theorem cl_guard : Tryz.prog.eqGuardType Tryz.prog.depth 47 = false := by kernel_rfl

set_option maxRecDepth 100000 in
set_option maxHeartbeats 2000000 in
theorem same_cl (A B : Option Addr) (ca cb n : Nat) (l : List ClT) (w : World) (hn : l.length = n) (hl : n ≤ 1000) (ha : La.SlAt w A (cells4 l)) (hb : La.SlAt w B (cells4 l)) :
    Calls Tryz.prog 27 #[.slice A n ca, .slice B n cb] w fun e w' => e = .returned (.bool true) ∧ Below w.heap.size w w' := by
  subst hn
  have HA := Lib.hid ha
  have HB := Lib.hid hb
  clear ha hb
  have hmg := cl_guard
  go_enter Tryz.func27, Tryz.ntmps27
  go_wp2_with fail
  go_loopw [5] (fun i wr => ∃ k : Nat, k ≤ l.length ∧ i = .int .i64 k ∧ Below w.heap.size w wr) (fun i _ => l.length - (intOf i).toNat)
  case atStart => exact ⟨0, by omega, rfl, Below.refl _ _⟩
  case round =>
    obtain ⟨k, hk, rfl, hbw⟩ := hrel
    have HW := Lib.hid hbw
    clear hbw
    by_cases hlt : k < l.length
    · obtain ⟨x, hx⟩ : ∃ x, l[k]? = some x := ⟨l[k], List.getElem?_eq_getElem hlt⟩
      obtain ⟨b1, o1, hA1, _, c0, c1, c2, c3⟩ := atC (HA.out.below HW.out) hx
      obtain ⟨b2, o2, hA2, _, d0, d1, d2, d3⟩ := atC (HB.out.below HW.out) hx
      subst hA1 hA2
      have k0 : (0 : Int) ≤ (k : Int) := by omega
      have k1 : (k : Int) < (l.length : Int) := by omega
      have hmq := fun w => eq_cl x.1 x.2.1 x.2.2.1 x.2.2.2 w
      clear hx
      go_wp2_with fail
      go_region
      go_wp2
      go_roundw
      case rel => exact ⟨k + 1, by omega, by go_num, by first | exact HW.out | exact HW.out.drew | exact belowN HW.out _⟩
      case measure => simp [intOf]; omega
    · obtain rfl : k = l.length := by omega
      go_wp2
      go_ret
      exact ⟨rfl, HW.out⟩
end Go.Proofs.YtpdaohkpgconkaaGreat
