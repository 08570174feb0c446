/- Which values nodes have for a key, as the document says it. Contracts, and what of it is the program's. Condition: the cluster lies in memory. All values that nodes have for a key, rising, as the document says it: a list into which each is put where it belongs, and that it is the keys of a map, sorted. Condition: the cluster lies in memory. Domain and Domains answer as the document says: the law's walk. Condition: the arguments lie in memory. What the pods of a node ask for, as the document says it: contracts. Condition: the cluster and the numbers lie in memory. Used, Counts and Placed as the document says them: contracts. Condition: the cluster and the numbers lie in memory. Counts and Placed as the document says them: contracts. Condition: the cluster and the numbers lie in memory. How many pods of an owner run in each domain: what the document sums is what the program counts. No conditions. Spread as the document says it: contracts. Condition: the cluster and the numbers lie in memory. -/
import Derived.Test.YtoankplhahbgkaaGreatC09
import Derived.Laws.AppendOwnNone

namespace Go.Proofs.YtoankplhahbgkaaGreat
open Go.RowKit Go.Maps Go.Sort

/-- Which value a node has for a key. -/
def valK (x : NodeD) (key : List UInt8) : Option (List UInt8) := if x.lost then none else (x.labels.find? (fun y => decide (y.1 = key))).map (·.2)
theorem domF_at {ns : List NodeD} {n : Nat} {x : NodeD} (h : ns[n]? = some x) (key : List UInt8) : domF ns (n : Int) key = valK x key := by
  unfold domF tpB valK
  rw [Int.toNat_natCast, h, decide_eq_true (Int.natCast_nonneg n), Bool.true_and]
  show (if (!x.lost) = true then (x.labels.find? (fun y => decide (y.1 = key))).map (·.2) else none) = _
  cases x.lost <;> rfl
theorem find_at {l : List L2} {key : List UInt8} {k : Nat} {y : L2} (hk : l[k]? = some y) (hy : y.1 = key) (hn : ∀ (j : Nat) (z : L2), j < k → l[j]? = some z → z.1 ≠ key) : l.find? (fun y => decide (y.1 = key)) = some y := by
  induction l generalizing k with
  | nil => simp at hk
  | cons a t ih =>
    cases k with
    | zero =>
      simp only [List.getElem?_cons_zero, Option.some.injEq] at hk
      subst hk
      rw [List.find?_cons_of_pos (by simpa using hy)]
    | succ k =>
      rw [List.find?_cons_of_neg (by simpa using hn 0 a (by omega) rfl)]
      exact ih (k := k) (by simpa using hk) (fun j z hj hz => hn (j + 1) z (by omega) (by simpa using hz))
theorem find_none {l : List L2} {key : List UInt8} (hn : ∀ (j : Nat) (z : L2), l[j]? = some z → z.1 ≠ key) : l.find? (fun y => decide (y.1 = key)) = none := by
  rw [List.find?_eq_none]
  intro z hz
  obtain ⟨j, hj⟩ := List.mem_iff_getElem?.1 hz
  simpa using hn j z hj

set_option maxRecDepth 100000 in
set_option maxHeartbeats 2000000 in
theorem valueOf_any (x : NodeD) (key : List UInt8) (w : World) (hx : x.fit w) :
    Calls Tryz.prog 84 #[valN x, strV key] w fun e w' => e = .returned (.tuple #[strV ((valK x key).getD []), .bool (valK x key).isSome]) ∧ Below w.heap.size w w' := by
  have HX := Lib.hid hx
  have hle := hx.l.le
  have hmost := hx.l.most
  have B0 : Hid (Below w.heap.size w (w.alloc (.cells (cellsN [x]).toArray 83))) := Lib.hid (below1 w _)
  have Q0 : Hid (Blk (w.alloc (.cells (cellsN [x]).toArray 83)) w.heap.size (cellsN [x]).toArray 83) := Lib.hid (Blk.new w _ _)
  have E : Hid (valK x key = if x.lost then none else (x.labels.find? (fun y => decide (y.1 = key))).map (·.2)) := Lib.hid rfl
  generalize valK x key = R at E ⊢
  clear hx
  go_enter Tryz.func84, Tryz.ntmps84
  go_wp2_with fail
  change Code.wp _ _ _ _ (w.alloc (.cells (cellsN [x]).toArray 83))
  generalize (w.alloc (.cells (cellsN [x]).toArray 83)) = W at B0 Q0 ⊢
  go_loopw [6] (fun i wr => wr = W ∧ ∃ k : Nat, k ≤ x.labels.length ∧ i = .int .i64 k ∧ (x.lost = false → ∀ (j : Nat) (z : L2), j < k → x.labels[j]? = some z → z.1 ≠ key)) (fun i _ => x.labels.length - (intOf i).toNat)
  case atStart => exact ⟨rfl, 0, by omega, rfl, fun _ j z h => by omega⟩
  case round =>
    obtain ⟨rfl, k, hk, rfl, hn⟩ := hrel
    have HN := Lib.hid hn
    clear hn
    have q6 : wr.cell? ⟨w.heap.size, 6, none⟩ = some (.slice x.al x.labels.length x.cl) := Blk.cell Q0.out 6
    have q9 : wr.cell? ⟨w.heap.size, 9, none⟩ = some (.bool x.lost) := Blk.cell Q0.out 9
    by_cases hlt : k < x.labels.length
    · obtain ⟨y, hy⟩ : ∃ y, x.labels[k]? = some y := ⟨x.labels[k], List.getElem?_eq_getElem hlt⟩
      obtain ⟨b, o, hA, hbl, c0, c1⟩ := La.SlAt.lab (HX.out.below B0.out).l.cells hy
      have k0 : (0 : Int) ≤ (k : Int) := by omega
      have k1 : (k : Int) < (x.labels.length : Int) := by omega
      have HY := Lib.hid hy
      rw [hA] at q6
      clear hy
      have go : Hid ((x.lost = false → y.1 ≠ key) → (x.lost = false → ∀ (j : Nat) (z : L2), j < k + 1 → x.labels[j]? = some z → z.1 ≠ key)) := Lib.hid (fun h1 h2 j z hj hz => by
        by_cases hjk : j = k
        · subst hjk
          rw [HY.out] at hz
          cases hz
          exact h1 h2
        · exact HN.out h2 j z (by omega) hz)
      by_cases hq : y.1 = key
      · have hqb : (y.1 == key) = true := by simpa using hq
        cases hl : x.lost
        · have HE : Hid (R = some y.2) := Lib.hid (by
            rw [E.out, hl, find_at HY.out hq (HN.out hl)]
            rfl)
          rw [hl] at q9
          clear hq go
          go_wp2
          go_ret2
          rw [HE.out]
          exact ⟨rfl, B0.out⟩
        · have HL := Lib.hid hl
          rw [hl] at q9
          clear hq hl
          go_wp2_with fail
          go_roundw
          case rel => exact ⟨by first | rfl | trivial, k + 1, by omega, by go_num, by first | exact go.out (fun e => by rw [HL.out] at e; cases e) | (intro e; cases e)⟩
          case measure => simp [intOf]; omega
      · have hqb : (y.1 == key) = false := by simpa using hq
        have HQ := Lib.hid hq
        clear hq
        go_wp2_with fail
        go_roundw
        case rel => exact ⟨by first | rfl | trivial, k + 1, by omega, by go_num, go.out (fun _ => HQ.out)⟩
        case measure => simp [intOf]; omega
    · obtain rfl : k = x.labels.length := by omega
      have HE : Hid (R = none) := Lib.hid (by
        rw [E.out]
        cases hl : x.lost
        · rw [find_none (fun j z hz => HN.out hl j z (List.getElem?_eq_some_iff.1 hz).1 hz)]
          rfl
        · rfl)
      go_wp2
      go_ret2
      rw [HE.out]
      exact ⟨rfl, B0.out⟩

set_option maxRecDepth 100000 in
set_option maxHeartbeats 2000000 in
theorem domain7_any (A B C : Option Addr) (ca cb cc : Nat) (ns : List NodeD) (ps : List PodD) (os : List OwnD) (k : Int) (key : List UInt8) (w : World) (h : SnapAt w A B C ca cb cc ns ps os) :
    Calls Tryz.prog 31 #[snapV A B C ca cb cc ns ps os, .int .i64 k, strV key] w fun e w' => e = .returned (.tuple #[strV ((domE ns ps os k key).getD []), .bool (domE ns ps os k key).isSome]) ∧ Below w.heap.size w w' := by
  have H := Lib.hid h
  have hln := h.ln
  have B0 : Hid (Below w.heap.size w (w.alloc (.cells (snapC A B C ca cb cc ns ps os) 26))) := Lib.hid (below1 w _)
  have S0 : Hid (Blk (w.alloc (.cells (snapC A B C ca cb cc ns ps os) 26)) w.heap.size (snapC A B C ca cb cc ns ps os) 26) := Lib.hid (Blk.new w _ _)
  have KC := Lib.hid (check5_any A B C ca cb cc ns ps os _ (h.below B0.out))
  have E : Hid (domE ns ps os k key = if checkS ns ps os = 0 then domF ns k key else none) := Lib.hid rfl
  generalize domE ns ps os k key = R at E ⊢
  generalize checkS ns ps os = v0 at KC E
  clear h
  have s0 : (w.alloc (.cells (snapC A B C ca cb cc ns ps os) 26)).cell? ⟨w.heap.size, 0, none⟩ = some (.slice A ns.length ca) := Blk.cell S0.out 0
  by_cases h0 : k < 0
  · have HE : Hid (R = none) := Lib.hid (by
      rw [E.out]
      unfold domF tpB
      rw [decide_eq_false (show ¬ 0 ≤ k by omega)]
      simp)
    have h0b : decide (k < 0) = true := decide_eq_true h0
    go_enter Tryz.func31, Tryz.ntmps31
    go_wp2
    go_ret2
    rw [HE.out]
    exact ⟨rfl, B0.out⟩
  have h0b : decide (k < 0) = false := decide_eq_false h0
  obtain ⟨n, rfl⟩ : ∃ n : Nat, k = (n : Int) := ⟨k.toNat, by omega⟩
  by_cases h1 : ns.length ≤ n
  · have HE : Hid (R = none) := Lib.hid (by
      rw [E.out]
      unfold domF tpB
      rw [Int.toNat_natCast, List.getElem?_eq_none h1]
      simp)
    have h1b : decide (ns.length ≤ n) = true := decide_eq_true h1
    go_enter Tryz.func31, Tryz.ntmps31
    go_wp2
    go_ret2
    rw [HE.out]
    exact ⟨rfl, B0.out⟩
  have h1b : decide (ns.length ≤ n) = false := decide_eq_false h1
  obtain ⟨x, hx⟩ : ∃ x, ns[n]? = some x := ⟨ns[n]'(by omega), List.getElem?_eq_getElem (by omega)⟩
  have HX := Lib.hid hx
  have n0 : (0 : Int) ≤ (n : Int) := by omega
  have n1 : (n : Int) < (ns.length : Int) := by omega
  clear hx
  go_enter Tryz.func31, Tryz.ntmps31
  go_wp2_with fail
  refine (KC.out).mono ?_
  rintro e w1 ⟨rfl, hb⟩
  clear KC s0
  have S1 := Lib.hid (S0.out.below hb S0.out.lt)
  have B1 := Lib.hid (B0.out.trans (hb.mono B0.out.size))
  clear hb
  have s0 : w1.cell? ⟨w.heap.size, 0, none⟩ = some (.slice A ns.length ca) := Blk.cell S1.out 0
  by_cases hv : v0 = 0
  case neg =>
    have HE : Hid (R = none) := Lib.hid (by rw [E.out, if_neg hv])
    have hvb : (v0 != 0) = true := by simpa using hv
    go_wp2
    go_ret2
    rw [HE.out]
    exact ⟨rfl, B1.out⟩
  subst hv
  have HE : Hid (R = valK x key) := Lib.hid (by rw [E.out, if_pos rfl, domF_at HX.out])
  have KV := Lib.hid (valueOf_any x key w1 ((H.out.below B1.out).n.fit x (List.mem_of_getElem? HX.out)))
  obtain ⟨b, o, hA, hbl, c0, c1, c2, c3, c4, c5, c6, c7, c8, c9⟩ := atN (H.out.below B1.out).n.cells HX.out
  subst hA
  generalize valK x key = V at KV HE
  go_wp2_with fail
  refine (KV.out).mono ?_
  rintro e w2 ⟨rfl, hb⟩
  have B2 := Lib.hid (B1.out.trans (hb.mono B1.out.size))
  clear hb KV
  go_wp2
  go_ret2
  rw [HE.out]
  exact ⟨rfl, B2.out⟩
end Go.Proofs.YtoankplhahbgkaaGreat

namespace Go.Proofs.YtoankplhahbgkaaGreat
open Go.RowKit Go.Maps Go.Sort

theorem flat_take1 {l : List Value} {n j : Nat} {y : Value} (h : (l.take n)[j]? = some y) : l[j]? = some y := by
  rw [List.getElem?_take] at h
  split at h
  · exact h
  · cases h
/-- A text put where it belongs, unless it is there. -/
def insS (v : List UInt8) : List (List UInt8) → List (List UInt8)
  | [] => [v]
  | x :: t => if Op.bytesLess x v then x :: insS v t else if x = v then x :: t else v :: x :: t
theorem ins_at (v : List UInt8) : ∀ (l : List (List UInt8)) (k : Nat), k ≤ l.length → (∀ (j : Nat) (x : List UInt8), j < k → l[j]? = some x → Op.bytesLess x v = true) → (∀ x, l[k]? = some x → Op.bytesLess x v = false) →
    insS v l = if l[k]? = some v then l else l.take k ++ v :: l.drop k
  | [], k, hk, _, _ => by
    obtain rfl : k = 0 := by simpa using hk
    rfl
  | x :: t, 0, _, _, h2 => by
    have hx := h2 x rfl
    rw [insS, hx]
    simp only [Bool.false_eq_true, if_false, List.getElem?_cons_zero, Option.some.injEq, List.take_zero, List.drop_zero, List.nil_append]
  | x :: t, k + 1, hk, h1, h2 => by
    have hx := h1 0 x (by omega) rfl
    have ih := ins_at v t k (by simpa using hk) (fun j y hj hy => h1 (j + 1) y (by omega) (by simpa using hy)) (fun y hy => h2 y (by simpa using hy))
    rw [insS, hx, if_pos rfl, ih]
    simp only [List.getElem?_cons_succ, List.take_succ_cons, List.drop_succ_cons, List.cons_append]
    split <;> rfl
def domsR (ns : List NodeD) (key : List UInt8) : Nat → List (List UInt8)
  | 0 => []
  | k + 1 => match domF ns (k : Int) key with
    | some v => insS v (domsR ns key k)
    | none => domsR ns key k
theorem ins_mem (v u : List UInt8) : ∀ l, u ∈ insS v l ↔ u = v ∨ u ∈ l
  | [] => by simp [insS]
  | x :: t => by
    have ih := ins_mem v u t
    rw [insS]
    split
    · rw [List.mem_cons, ih, List.mem_cons]
      constructor
      · rintro (h | h | h)
        · exact .inr (.inl h)
        · exact .inl h
        · exact .inr (.inr h)
      · rintro (h | h | h)
        · exact .inr (.inl h)
        · exact .inl h
        · exact .inr (.inr h)
    · split
      · rename_i _ e
        subst e
        rw [List.mem_cons]
        constructor
        · exact .inr
        · rintro (h | h)
          · exact .inl h
          · exact h
      · rw [List.mem_cons]
theorem ins_len (v : List UInt8) : ∀ l, (insS v l).length ≤ l.length + 1
  | [] => by simp [insS]
  | x :: t => by
    have ih := ins_len v t
    rw [insS]
    split
    · simp only [List.length_cons]; omega
    · split <;> simp
theorem domsR_len (ns : List NodeD) (key : List UInt8) : ∀ k, (domsR ns key k).length ≤ k
  | 0 => Nat.le_refl _
  | k + 1 => by
    have ih := domsR_len ns key k
    rw [domsR]
    split
    · have := ins_len ‹_› (domsR ns key k)
      omega
    · omega
/-- One stands ahead of another. -/
def Ahead (a b : List UInt8) : Prop := a ≤ b ∧ a ≠ b
theorem less_ahead {a b : List UInt8} (h : Op.bytesLess a b = true) : Ahead a b := by
  rw [Proofs.bytesLess_eq, decide_eq_true_eq] at h
  exact ⟨List.le_of_lt h, fun e => List.lt_irrefl _ (e ▸ h)⟩
theorem less_not {a b : List UInt8} (h : Op.bytesLess a b = false) : b ≤ a := by
  rw [Proofs.bytesLess_eq, decide_eq_false_iff_not] at h
  exact List.not_lt.1 h
theorem Ahead.trans {a b c : List UInt8} (h : Ahead a b) (k : Ahead b c) : Ahead a c :=
  ⟨List.le_trans h.1 k.1, fun e => h.2 (List.le_antisymm h.1 (e ▸ k.1))⟩
theorem ins_rises (v : List UInt8) : ∀ l : List (List UInt8), l.Pairwise Ahead → (insS v l).Pairwise Ahead
  | [], _ => by simp [insS]
  | x :: t, h => by
    obtain ⟨h1, h2⟩ := List.pairwise_cons.1 h
    rw [insS]
    split
    · rename_i hl
      refine List.pairwise_cons.2 ⟨fun u hu => ?_, ins_rises v t h2⟩
      rcases (ins_mem v u t).1 hu with rfl | hm
      · exact less_ahead hl
      · exact h1 u hm
    · rename_i hl
      split
      · exact h
      · rename_i hne
        have hv : Ahead v x := ⟨less_not (by simpa using hl), fun e => hne e.symm⟩
        exact List.pairwise_cons.2 ⟨fun u hu => by
          rcases List.mem_cons.1 hu with rfl | hm
          · exact hv
          · exact hv.trans (h1 u hm), h⟩
theorem doms_same (ns : List NodeD) (key : List UInt8) : ∀ k, (domsR ns key k).Pairwise Ahead ∧ ∀ u, u ∈ domsR ns key k ↔ u ∈ strKeys (domsU ns key k)
  | 0 => ⟨List.Pairwise.nil, fun u => by
    show u ∈ [] ↔ u ∈ strKeys (.map [])
    simp [strKeys]⟩
  | k + 1 => by
    obtain ⟨h1, h2⟩ := doms_same ns key k
    rw [domsR, domsU]
    cases hd : domF ns (k : Int) key with
    | none => exact ⟨h1, h2⟩
    | some v =>
      refine ⟨ins_rises v _ h1, fun u => ?_⟩
      dsimp only
      rw [ins_mem, mem_put (keyed_doms ns key k).1, h2]
theorem doms_sort (ns : List NodeD) (key : List UInt8) (k : Nat) : sortK (domsU ns key k) = domsR ns key k := by
  obtain ⟨h1, h2⟩ := doms_same ns key k
  have hnd : (domsR ns key k).Nodup := h1.imp (fun h => h.2)
  have hp : (domsR ns key k).Perm (strKeys (domsU ns key k)) := (List.perm_ext_iff_of_nodup hnd (keyed_doms ns key k).1.once).2 h2
  have e := mergeSort_of_perm hp
  unfold sortK
  rw [← e]
  exact List.mergeSort_of_pairwise (h1.imp (fun h => decide_eq_true h.1))
theorem domsF_eq (ns : List NodeD) (ps : List PodD) (os : List OwnD) (key : List UInt8) : domsF ns ps os key = if checkS ns ps os = 0 then domsR ns key ns.length else [] := by
  unfold domsF emptyD
  rw [doms_sort]

set_option maxRecDepth 100000 in
set_option maxHeartbeats 8000000 in
theorem domains7_any (A B C : Option Addr) (ca cb cc : Nat) (ns : List NodeD) (ps : List PodD) (os : List OwnD) (key : List UInt8) (w : World) (h : SnapAt w A B C ca cb cc ns ps os) :
    Calls Tryz.prog 85 #[snapV A B C ca cb cc ns ps os, strV key] w fun e w' => ∃ v, e = .returned v ∧ w'.ownsRow w.heap.size 9 1 v (domsR ns key ns.length).length (strC (domsR ns key ns.length)) ∧ Below w.heap.size w w' := by
  have H := Lib.hid h
  have hln := h.ln
  have B0 : Hid (Below w.heap.size w (w.alloc (.cells (snapC A B C ca cb cc ns ps os) 26))) := Lib.hid (below1 w _)
  have S0 : Hid (Blk (w.alloc (.cells (snapC A B C ca cb cc ns ps os) 26)) w.heap.size (snapC A B C ca cb cc ns ps os) 26) := Lib.hid (Blk.new w _ _)
  obtain ⟨is, his, hzs0, hzs1, hzs2⟩ := info_parts str_infoD
  clear h
  go_enter Tryz.func85, Tryz.ntmps85
  go_wp2_with fail
  generalize (w.alloc (.cells (snapC A B C ca cb cc ns ps os) 26)) = W at B0 S0 ⊢
  go_loopw [6, 5] (fun i v wr => ∃ k : Nat, k ≤ ns.length ∧ i = .int .i64 k ∧ wr.ownsRow w.heap.size 9 1 v (domsR ns key k).length (strC (domsR ns key k)) ∧ Below w.heap.size w wr ∧ Blk wr w.heap.size (snapC A B C ca cb cc ns ps os) 26) (fun i _ _ => ns.length - (intOf i).toNat)
  case atStart => exact ⟨0, by omega, rfl, World.ownsRow_nil _ _ _ _, B0.out, S0.out⟩
  case round =>
    clear B0 S0
    obtain ⟨k, hk, rfl, hown, hbw, hsk⟩ := hrel
    have HO := Lib.hid hown
    have HB := Lib.hid hbw
    have HS := Lib.hid hsk
    clear hown hbw hsk
    have s0 : wr.cell? ⟨w.heap.size, 0, none⟩ = some (.slice A ns.length ca) := Blk.cell HS.out 0
    by_cases hlt : k < ns.length
    case neg =>
      obtain rfl : k = ns.length := by omega
      go_wp2
      go_ret
      exact ⟨_, rfl, HO.out, HB.out⟩
    obtain ⟨x, hx⟩ : ∃ x, ns[k]? = some x := ⟨ns[k], List.getElem?_eq_getElem hlt⟩
    have HX := Lib.hid hx
    have KV := Lib.hid (valueOf_any x key wr ((H.out.below HB.out).n.fit x (List.mem_of_getElem? hx)))
    obtain ⟨b, o, hA, hbl, c0, c1, c2, c3, c4, c5, c6, c7, c8, c9⟩ := atN (H.out.below HB.out).n.cells hx
    subst hA
    have Hd : Hid (domsR ns key (k + 1) = match valK x key with | some v => insS v (domsR ns key k) | none => domsR ns key k) := Lib.hid (by rw [domsR, domF_at HX.out])
    have k0 : (0 : Int) ≤ (k : Int) := by omega
    have k1 : (k : Int) < (ns.length : Int) := by omega
    have hDl := domsR_len ns key k
    clear hx
    generalize valK x key = V at KV Hd
    generalize domsR ns key k = D at HO Hd hDl
    go_wp2_with fail
    refine (KV.out).mono ?_
    rintro e w1 ⟨rfl, hb⟩
    have B1 := Lib.hid (HB.out.trans (hb.mono HB.out.size))
    have S1 := Lib.hid (HS.out.below hb HS.out.lt)
    have O1 := Lib.hid (La.own_below HO.out hb)
    clear hb KV HO HB HS s0 c0 c1 c2 c3 c4 c5 c6 c7 c8 c9
    obtain ⟨Q, cq, rfl, _⟩ := La.own_slice O1.out
    cases V with
    | none =>
      have HE : Hid (domsR ns key (k + 1) = D) := Hd
      go_wp2_with fail
      go_roundw
      case rel => exact ⟨k + 1, by omega, by go_num, by rw [HE.out]; exact O1.out, B1.out, S1.out⟩
      case measure => simp [intOf]; omega
    | some v =>
      have HE : Hid (domsR ns key (k + 1) = insS v D) := Hd
      clear Hd
      cases Q with
      | none =>
        obtain rfl : D = [] := by
          cases D with
          | nil => rfl
          | cons z t =>
            obtain ⟨b', o', hA, _⟩ := La.own_slat O1.out 0 (strV z) rfl
            cases hA
        obtain rfl : cq = 0 := by
          rcases O1.out.2 with ⟨hv, _⟩ | ⟨g, cap, cur, hv, _⟩
          · simp only [Value.slice.injEq] at hv
            exact hv.2.2
          · cases hv
        simp only [List.length_nil]
        go_wp2_with fail
        go_loopw [9] (fun i wq => w1 = wq ∧ i = .int .i64 0) (fun i _ => 0)
        case atStart => exact ⟨rfl, rfl⟩
        case round =>
          obtain ⟨rfl, rfl⟩ := hrel
          have e9 : ¬ (0 : Int) < 0 := by omega
          go_wp2_with (at_builtin; first | (refine wpList_append_own_none rfl _ _ 40 rfl w1.heap.size 9 is 1 Tryz.underlying40 his _ _ _ rfl (World.ownsRow_nil _ _ _ _) rfl ?_) | (refine wpList_append_own _ rfl _ _ 40 rfl w1.heap.size 9 is (.string ⟨#[]⟩) 1 16 Tryz.underlying40 his hzs0 hzs1 hzs2 rfl (by decide) _ _ _ rfl (World.ownsRow_nil _ _ _ _) ⟨w1.heap.size, 0, none⟩ 1 1 [strV v] rfl rfl ?d1_1 ?d2_1 ?d3_1 ?d4_1 ?d5_1 ?_))
          try (case d1_1 => (intro j u hj; match j, hj with | 0, hj => simp at hj; subst hj; first | (simp [Addr.add, go_sem]; done) | exact Blk.cell (Blk.new _ _ _) 0))
          try (case d2_1 => (first | rfl | (intro u hu; simp at hu; subst hu; rfl)))
          try (case d3_1 => (unfold maxLen; omega))
          try (case d4_1 => omega)
          try (case d5_1 => simp)
          intro v3 w3 hown3 hgrow3 _
          have P3 := Lib.hid hown3
          have D3 := Lib.hid (((Below.refl w1.heap.size w1).alloc (Nat.le_refl _) (.cells #[strV v] 9)).grown hgrow3 (by simp) (fun j hj => by cases hj))
          have B4 := Lib.hid (B1.out.trans (D3.out.mono B1.out.size))
          have S4 := Lib.hid (S1.out.below D3.out S1.out.lt)
          clear hown3 hgrow3
          go_wp2_with (at_builtin; refine wpList_append_own_none rfl _ _ 40 rfl w1.heap.size 9 is 1 Tryz.underlying40 his _ _ _ rfl P3.out rfl ?_)
          go_wp2_with fail
          go_roundw
          case rel =>
            refine ⟨k + 1, by omega, by go_num, ?_, B4.out, S4.out⟩
            rw [HE.out]
            have q := own_base P3.out B1.out.size
            exact q
          case measure => simp [intOf]; omega
      | some ad =>
        obtain ⟨g, hg⟩ : ∃ g, ad = ⟨g, 0, none⟩ := by
          rcases O1.out.2 with ⟨hv, _⟩ | ⟨g, cap, cur, hv, _⟩
          · cases hv
          · exact ⟨g, by simp only [Value.slice.injEq, Option.some.injEq] at hv; exact hv.1⟩
        subst hg
        have hcap := (capOwn O1.out).1
        have hcap2 := (capOwn O1.out).2
        go_wp2_with fail
        go_loopw [9] (fun i wq => w1 = wq ∧ ∃ m : Nat, m ≤ D.length ∧ i = .int .i64 m ∧ (∀ (j : Nat) (y : List UInt8), j < m → D[j]? = some y → Op.bytesLess y v = true)) (fun i _ => D.length - (intOf i).toNat)
        case atStart => exact ⟨rfl, 0, by omega, rfl, fun j y h => by omega⟩
        case round =>
          obtain ⟨rfl, m, hm, rfl, hn⟩ := hrel
          have HN := Lib.hid hn
          clear hn
          have m0 : (0 : Int) ≤ (m : Int) := by omega
          have m3 : (m : Int) ≤ (cq : Int) := by omega
          have m4 : (D.length : Int) ≤ (cq : Int) := by omega
          have m5 : (m : Int) ≤ (D.length : Int) := by omega
          have m6 : m ≤ cq := by omega
          have m7 : decide (m ≤ cq) = true := decide_eq_true m6
          have m8 : decide (m ≤ D.length) = true := decide_eq_true hm
          by_cases hml : m < D.length
          case neg =>
            have hmD : m = D.length := by omega
            have e1 : ¬ (m : Int) < (D.length : Int) := by omega
            have e2 : decide (m < D.length) = false := decide_eq_false hml
            have HE2 : Hid (domsR ns key (k + 1) = D.take m ++ v :: D.drop m) := Lib.hid (by
              rw [HE.out, ins_at v D m hm HN.out (fun z hz => by rw [List.getElem?_eq_none (by omega)] at hz; cases hz), List.getElem?_eq_none (by omega)]
              simp)
            have HmD := Lib.hid hmD
            clear hmD
            go_wp2_with (at_builtin; refine wpList_append_own _ rfl _ _ 40 rfl w1.heap.size 9 is (.string ⟨#[]⟩) 1 16 Tryz.underlying40 his hzs0 hzs1 hzs2 rfl (by decide) _ _ _ rfl (World.ownsRow_nil _ _ _ _) ⟨g, 0, none⟩ m cq (strC (D.take m)) rfl ?c0_2 ?c1_2 ?c2_2 ?c3_2 ?c4_2 ?c5_2 ?_)
            try (case c0_2 => (simp [strC]; omega))
            case c1_2 =>
              intro j u hj
              have hj' : (strC D)[j]? = some u := by first | exact flat_take1 hj | exact flat_take1 (by simpa [strC] using hj)
              obtain ⟨b', o', hA, hc⟩ := La.own_slat O1.out j u hj'
              cases hA
              first | exact hc | (rw [WideShapes.add_plain]; exact hc) | simpa using hc | (rw [WideShapes.add_plain]; simpa using hc)
            case c2_2 =>
              intro u hu
              obtain ⟨z, _, rfl⟩ := List.mem_map.1 (by first | exact List.mem_of_mem_take hu | exact List.mem_of_mem_take (by simpa [strC] using hu) : u ∈ List.map strV D)
              rfl
            try (case c3_2 => (unfold maxLen; omega))
            try (case c4_2 => omega)
            try (case c5_2 => exact Nat.le_refl _)
            intro v2 w2 hown2 hgrow2 _
            have P2 := Lib.hid hown2
            have D2 := Lib.hid ((Below.refl w1.heap.size w1).grown hgrow2 (Nat.le_refl _) (fun j hj => by cases hj))
            clear hown2 hgrow2
            go_wp2_with (at_builtin; refine wpList_append_own _ rfl _ _ 40 rfl w1.heap.size 9 is (.string ⟨#[]⟩) 1 16 Tryz.underlying40 his hzs0 hzs1 hzs2 rfl (by decide) _ _ _ rfl (P2.out.alloc _) ⟨w2.heap.size, 0, none⟩ 1 1 [strV v] rfl rfl ?d1_2 ?d2_2 ?d3_2 ?d4_2 ?d5_2 ?_)
            case d1_2 =>
              intro j u hj
              match j, hj with
              | 0, hj => simp at hj; subst hj; first | (simp [Addr.add, go_sem]; done) | exact Blk.cell (Blk.new _ _ _) 0
            case d2_2 => first | rfl | (intro u hu; simp at hu; subst hu; rfl)
            case d3_2 => unfold maxLen; omega
            case d4_2 => omega
            case d5_2 => have := D2.out.size; simp; omega
            intro v3 w3 hown3 hgrow3 _
            have P3 := Lib.hid hown3
            have D3 := Lib.hid ((D2.out.alloc D2.out.size (.cells #[strV v] 9)).grown hgrow3 (by have := D2.out.size; simp; omega) (fun j hj => own_gem P2.out hj))
            have Q3 := Lib.hid (La.own_slat (La.own_below O1.out D3.out))
            clear hown3 hgrow3 P2
            by_cases hmc : m = cq
            · have hmci : (m : Int) = (cq : Int) := by omega
              go_wp2_with (at_builtin; refine wpList_append_own _ rfl _ _ 40 rfl w1.heap.size 9 is (.string ⟨#[]⟩) 1 16 Tryz.underlying40 his hzs0 hzs1 hzs2 rfl (by decide) _ _ _ rfl P3.out ⟨g, 0, none⟩ 0 0 [] rfl ?f0_2 ?f1_2 ?f2_2 ?f3_2 ?f4_2 ?f5_2 ?_)
              try (case f0_2 => simp)
              case f1_2 => (intro j u hj; simp at hj)
              case f2_2 => (intro u hu; simp at hu)
              try (case f3_2 => (unfold maxLen; omega))
              try (case f4_2 => omega)
              try (case f5_2 => exact D3.out.size)
              intro v4 w4 hown4 hgrow4 _
              have P4 := Lib.hid hown4
              have D4 := Lib.hid (D3.out.grown hgrow4 D3.out.size (fun j hj => own_gem P3.out hj))
              have B4 := Lib.hid (B1.out.trans (D4.out.mono B1.out.size))
              have S4 := Lib.hid (S1.out.below D4.out S1.out.lt)
              clear hown4 hgrow4
              go_wp2_with fail
              go_roundw
              case rel =>
                refine ⟨k + 1, by omega, by go_num, ?_, B4.out, S4.out⟩
                rw [HE2.out]
                have q := own_base P4.out B1.out.size
                have e1 : (D.take m ++ v :: D.drop m).length = m + 1 := by have := HmD.out; simp; omega
                rw [e1]
                have e3 : D.drop m = [] := List.drop_eq_nil_of_le (by have := HmD.out; omega)
                rw [e3]
                first | exact q | simpa [strC] using q | simpa [strC, hmc] using q | (rw [hmc]; simpa [strC] using q)
              case measure => simp [intOf]; omega
            · have hmci : ¬ (m : Int) = (cq : Int) := by omega
              have hmcb : (m == cq) = false := by simpa using hmc
              go_wp2_with (at_builtin; refine wpList_append_own _ rfl _ _ 40 rfl w1.heap.size 9 is (.string ⟨#[]⟩) 1 16 Tryz.underlying40 his hzs0 hzs1 hzs2 rfl (by decide) _ _ _ rfl P3.out ⟨g, m, none⟩ (D.length - m) (cq - m) (strC (D.drop m)) rfl ?e0_2 ?e1_2 ?e2_2 ?e3_2 ?e4_2 ?e5_2 ?_)
              try (case e0_2 => simp [strC])
              case e1_2 =>
                intro j u hj
                have hj' : (strC D)[m + j]? = some u := by first | (rw [List.getElem?_drop] at hj; exact hj) | (rw [strC, List.map_drop, List.getElem?_drop] at hj; exact hj) | exact hj | (have q : ((strC D).drop m)[j]? = some u := (by simpa [strC] using hj); rwa [List.getElem?_drop] at q)
                obtain ⟨b', o', hA, hc⟩ := Q3.out (m + j) u hj'
                cases hA
                rw [Nat.zero_add] at hc
                first | exact hc | (rw [WideShapes.add_plain]; exact hc) | simpa using hc
              case e2_2 =>
                intro u hu
                obtain ⟨z, _, rfl⟩ := List.mem_map.1 (by first | exact List.mem_of_mem_drop hu | exact List.mem_of_mem_drop (by simpa [strC] using hu) : u ∈ List.map strV D)
                rfl
              try (case e3_2 => (unfold maxLen; omega))
              try (case e4_2 => omega)
              try (case e5_2 => exact D3.out.size)
              intro v4 w4 hown4 hgrow4 _
              have P4 := Lib.hid hown4
              have D4 := Lib.hid (D3.out.grown hgrow4 D3.out.size (fun j hj => own_gem P3.out hj))
              have B4 := Lib.hid (B1.out.trans (D4.out.mono B1.out.size))
              have S4 := Lib.hid (S1.out.below D4.out S1.out.lt)
              clear hown4 hgrow4
              go_wp2_with fail
              go_roundw
              case rel =>
                refine ⟨k + 1, by omega, by go_num, ?_, B4.out, S4.out⟩
                rw [HE2.out]
                have q := own_base P4.out B1.out.size
                have e1 : (D.take m ++ v :: D.drop m).length = m + 1 + (D.length - m) := by simp; omega
                rw [e1]
                first | exact q | simpa [strC] using q
              case measure => simp [intOf]; omega
          obtain ⟨y, hy⟩ : ∃ y, D[m]? = some y := ⟨D[m], List.getElem?_eq_getElem hml⟩
          obtain ⟨b2, o2, hA2, hbl2, hcy⟩ := strC_at (La.own_slat O1.out) hy
          cases hA2
          rw [Nat.zero_add] at hcy
          have m1 : (m : Int) < (D.length : Int) := by omega
          have m2 : decide (m < D.length) = true := decide_eq_true hml
          have HY := Lib.hid hy
          clear hy
          cases hl : Op.bytesLess y v
          case true =>
            have HL := Lib.hid hl
            go_wp2_with fail
            go_roundw
            case rel =>
              refine ⟨by first | rfl | trivial, m + 1, by omega, by go_num, fun j z hj hz => ?_⟩
              by_cases hjm : j = m
              · subst hjm
                rw [HY.out] at hz
                cases hz
                exact HL.out
              · exact HN.out j z (by omega) hz
            case measure => simp [intOf]; omega
          have HI : Hid (insS v D = if y = v then D else D.take m ++ v :: D.drop m) := Lib.hid (by
            rw [ins_at v D m (by omega) HN.out (fun z hz => by rw [HY.out] at hz; cases hz; exact hl), HY.out]
            simp only [Option.some.injEq])
          by_cases hyv : y = v
          · have hyb : (y == v) = true := by simpa using hyv
            have HE2 : Hid (domsR ns key (k + 1) = D) := Lib.hid (by rw [HE.out, HI.out, if_pos hyv])
            clear hyv
            go_wp2_with fail
            go_roundw
            case rel => exact ⟨k + 1, by omega, by go_num, by rw [HE2.out]; exact O1.out, B1.out, S1.out⟩
            case measure => simp [intOf]; omega
          have hyb : (y == v) = false := by simpa using hyv
          have HE2 : Hid (domsR ns key (k + 1) = D.take m ++ v :: D.drop m) := Lib.hid (by rw [HE.out, HI.out, if_neg hyv])
          clear hyv
          go_wp2_with (at_builtin; refine wpList_append_own _ rfl _ _ 40 rfl w1.heap.size 9 is (.string ⟨#[]⟩) 1 16 Tryz.underlying40 his hzs0 hzs1 hzs2 rfl (by decide) _ _ _ rfl (World.ownsRow_nil _ _ _ _) ⟨g, 0, none⟩ m cq (strC (D.take m)) rfl ?c0_3 ?c1_3 ?c2_3 ?c3_3 ?c4_3 ?c5_3 ?_)
          try (case c0_3 => (simp [strC]; omega))
          case c1_3 =>
            intro j u hj
            have hj' : (strC D)[j]? = some u := by first | exact flat_take1 hj | exact flat_take1 (by simpa [strC] using hj)
            obtain ⟨b', o', hA, hc⟩ := La.own_slat O1.out j u hj'
            cases hA
            first | exact hc | (rw [WideShapes.add_plain]; exact hc) | simpa using hc | (rw [WideShapes.add_plain]; simpa using hc)
          case c2_3 =>
            intro u hu
            obtain ⟨z, _, rfl⟩ := List.mem_map.1 (by first | exact List.mem_of_mem_take hu | exact List.mem_of_mem_take (by simpa [strC] using hu) : u ∈ List.map strV D)
            rfl
          try (case c3_3 => (unfold maxLen; omega))
          try (case c4_3 => omega)
          try (case c5_3 => exact Nat.le_refl _)
          intro v2 w2 hown2 hgrow2 _
          have P2 := Lib.hid hown2
          have D2 := Lib.hid ((Below.refl w1.heap.size w1).grown hgrow2 (Nat.le_refl _) (fun j hj => by cases hj))
          clear hown2 hgrow2
          go_wp2_with (at_builtin; refine wpList_append_own _ rfl _ _ 40 rfl w1.heap.size 9 is (.string ⟨#[]⟩) 1 16 Tryz.underlying40 his hzs0 hzs1 hzs2 rfl (by decide) _ _ _ rfl (P2.out.alloc _) ⟨w2.heap.size, 0, none⟩ 1 1 [strV v] rfl rfl ?d1_3 ?d2_3 ?d3_3 ?d4_3 ?d5_3 ?_)
          case d1_3 =>
            intro j u hj
            match j, hj with
            | 0, hj => simp at hj; subst hj; first | (simp [Addr.add, go_sem]; done) | exact Blk.cell (Blk.new _ _ _) 0
          case d2_3 => first | rfl | (intro u hu; simp at hu; subst hu; rfl)
          case d3_3 => unfold maxLen; omega
          case d4_3 => omega
          case d5_3 => have := D2.out.size; simp; omega
          intro v3 w3 hown3 hgrow3 _
          have P3 := Lib.hid hown3
          have D3 := Lib.hid ((D2.out.alloc D2.out.size (.cells #[strV v] 9)).grown hgrow3 (by have := D2.out.size; simp; omega) (fun j hj => own_gem P2.out hj))
          have Q3 := Lib.hid (La.own_slat (La.own_below O1.out D3.out))
          clear hown3 hgrow3 P2
          go_wp2_with (at_builtin; refine wpList_append_own _ rfl _ _ 40 rfl w1.heap.size 9 is (.string ⟨#[]⟩) 1 16 Tryz.underlying40 his hzs0 hzs1 hzs2 rfl (by decide) _ _ _ rfl P3.out ⟨g, m, none⟩ (D.length - m) (cq - m) (strC (D.drop m)) rfl ?e0_3 ?e1_3 ?e2_3 ?e3_3 ?e4_3 ?e5_3 ?_)
          try (case e0_3 => simp [strC])
          case e1_3 =>
            intro j u hj
            have hj' : (strC D)[m + j]? = some u := by first | (rw [List.getElem?_drop] at hj; exact hj) | (rw [strC, List.map_drop, List.getElem?_drop] at hj; exact hj) | exact hj | (have q : ((strC D).drop m)[j]? = some u := (by simpa [strC] using hj); rwa [List.getElem?_drop] at q)
            obtain ⟨b', o', hA, hc⟩ := Q3.out (m + j) u hj'
            cases hA
            rw [Nat.zero_add] at hc
            first | exact hc | (rw [WideShapes.add_plain]; exact hc) | simpa using hc
          case e2_3 =>
            intro u hu
            obtain ⟨z, _, rfl⟩ := List.mem_map.1 (by first | exact List.mem_of_mem_drop hu | exact List.mem_of_mem_drop (by simpa [strC] using hu) : u ∈ List.map strV D)
            rfl
          try (case e3_3 => (unfold maxLen; omega))
          try (case e4_3 => omega)
          try (case e5_3 => exact D3.out.size)
          intro v4 w4 hown4 hgrow4 _
          have P4 := Lib.hid hown4
          have D4 := Lib.hid (D3.out.grown hgrow4 D3.out.size (fun j hj => own_gem P3.out hj))
          have B4 := Lib.hid (B1.out.trans (D4.out.mono B1.out.size))
          have S4 := Lib.hid (S1.out.below D4.out S1.out.lt)
          clear hown4 hgrow4
          go_wp2_with fail
          go_roundw
          case rel =>
            refine ⟨k + 1, by omega, by go_num, ?_, B4.out, S4.out⟩
            rw [HE2.out]
            have q := own_base P4.out B1.out.size
            have e1 : (D.take m ++ v :: D.drop m).length = m + 1 + (D.length - m) := by simp; omega
            rw [e1]
            first | exact q | simpa [strC] using q
          case measure => simp [intOf]; omega

set_option maxHeartbeats 1000000 in
theorem domainsR_any (A B C : Option Addr) (ca cb cc : Nat) (ns : List NodeD) (ps : List PodD) (os : List OwnD) (key : List UInt8) (w : World) (h : SnapAt w A B C ca cb cc ns ps os) :
    Calls Tryz.prog 34 #[snapV A B C ca cb cc ns ps os, strV key] w fun e w' => ∃ v, e = .returned v ∧ w'.ownsRow w.heap.size 9 1 v (domsF ns ps os key).length (strC (domsF ns ps os key)) ∧ Below w.heap.size w w' := by
  have B0 : Hid (Below w.heap.size w (w.alloc (.cells (snapC A B C ca cb cc ns ps os) 26))) := Lib.hid (below1 w _)
  have S0 : Hid (Blk (w.alloc (.cells (snapC A B C ca cb cc ns ps os) 26)) w.heap.size (snapC A B C ca cb cc ns ps os) 26) := Lib.hid (Blk.new w _ _)
  have KC := Lib.hid (check5_any A B C ca cb cc ns ps os _ (h.below B0.out))
  have KD := Lib.hid (fun w' (hb : Below w.heap.size w w') => domains7_any A B C ca cb cc ns ps os key w' (h.below hb))
  have E := Lib.hid (domsF_eq ns ps os key)
  generalize domsF ns ps os key = R at E ⊢
  generalize checkS ns ps os = v0 at KC E
  generalize domsR ns key ns.length = D at KD E
  clear h
  go_enter Tryz.func34, Tryz.ntmps34
  go_wp2_with fail
  refine (KC.out).mono ?_
  rintro e w1 ⟨rfl, hb⟩
  have S1 := Lib.hid (S0.out.below hb S0.out.lt)
  have B1 := Lib.hid (B0.out.trans (hb.mono B0.out.size))
  clear hb KC S0 B0
  have s0 : w1.cell? ⟨w.heap.size, 0, none⟩ = some (.slice A ns.length ca) := Blk.cell S1.out 0
  have s1 : w1.cell? ⟨w.heap.size, 1, none⟩ = some (.slice B ps.length cb) := Blk.cell S1.out 1
  have s2 : w1.cell? ⟨w.heap.size, 2, none⟩ = some (.slice C os.length cc) := Blk.cell S1.out 2
  by_cases hv : v0 = 0
  · have HE : Hid (R = D) := Lib.hid (by rw [E.out, if_pos hv])
    subst hv
    go_wp2_with fail
    refine (KD.out _ B1.out).mono ?_
    rintro e w2 ⟨v, rfl, ho, hb⟩
    have O2 := Lib.hid (own_base ho B1.out.size)
    have B2 := Lib.hid (B1.out.trans (hb.mono B1.out.size))
    clear ho hb
    go_wp2
    go_ret
    rw [HE.out]
    exact ⟨_, rfl, O2.out, B2.out⟩
  · have HE : Hid (R = []) := Lib.hid (by rw [E.out, if_neg hv])
    have hvb : (v0 != 0) = true := by simpa using hv
    go_wp2
    go_ret
    rw [HE.out]
    exact ⟨_, rfl, World.ownsRow_nil _ _ _ _, B1.out⟩
end Go.Proofs.YtoankplhahbgkaaGreat

namespace Go.Proofs.YtoankplhahbgkaaGreat
open Go.RowKit Go.Maps Go.Sort

abbrev bRack : List UInt8 := [114, 97, 99, 107]
abbrev keysL (key : List UInt8) : List (List UInt8) := [key, [], bZone, bRack]
theorem domsF_few (ns : List NodeD) (ps : List PodD) (os : List OwnD) (key : List UInt8) : (domsF ns ps os key).length ≤ ns.length := by
  rw [domsF_eq]
  split
  · exact domsR_len ns key ns.length
  · simp

set_option maxRecDepth 100000 in
set_option maxHeartbeats 8000000 in
theorem domains_law (A B C : Option Addr) (ca cb cc : Nat) (ns : List NodeD) (ps : List PodD) (os : List OwnD) (node : Int) (key : List UInt8) (w : World) (h : SnapIn w A B C ca cb cc ns ps os) :
    Calls Tryz.prog 4 #[snapV A B C ca cb cc ns ps os, .int .i64 node, strV key] w fun e w' => e = .returned (.bool true) ∧ Below w.heap.size w w' := by
  have B0 : Hid (Below w.heap.size w (w.alloc (.cells (snapC A B C ca cb cc ns ps os) 26))) := Lib.hid (below1 w _)
  have S0 : Hid (Blk (w.alloc (.cells (snapC A B C ca cb cc ns ps os) 26)) w.heap.size (snapC A B C ca cb cc ns ps os) 26) := Lib.hid (Blk.new w _ _)
  have H := Lib.hid (h.take)
  have KW := Lib.hid works_any
  have KC := Lib.hid (cut_any A B C ca cb cc ns ps os _ (h.below B0.out))
  generalize ns.take 12 = n1 at H KC
  generalize ps.take 30 = p1 at H KC
  generalize os.take 12 = o1 at H KC
  clear h
  go_enter Tryz.func4, Tryz.ntmps4
  go_wp2_with fail
  refine (KC.out).mono ?_
  rintro e w2 ⟨rfl, hb2⟩
  have S2 : Hid (Blk w2 w.heap.size (snapC A B C ca cb cc ns ps os) 26) := Lib.hid (S0.out.below hb2 S0.out.lt)
  have B2 : Hid (Below w.heap.size w w2) := Lib.hid (B0.out.trans (hb2.mono B0.out.size))
  clear hb2 S0 B0 KC
  have r0 : w2.cell? ⟨w.heap.size, 0, none⟩ = some (.slice A ns.length ca) := Blk.cell S2.out 0
  have r1 : w2.cell? ⟨w.heap.size, 1, none⟩ = some (.slice B ps.length cb) := Blk.cell S2.out 1
  have r2 : w2.cell? ⟨w.heap.size, 2, none⟩ = some (.slice C os.length cc) := Blk.cell S2.out 2
  have f0 := Blk.free S2.out 0
  have f1 := Blk.free S2.out 1
  have f2 := Blk.free S2.out 2
  have S3 : Hid (Blk (((w2.setCell ⟨w.heap.size, 0, none⟩ (.slice A n1.length ca)).setCell ⟨w.heap.size, 1, none⟩ (.slice B p1.length cb)).setCell ⟨w.heap.size, 2, none⟩ (.slice C o1.length cc)) w.heap.size (snapC A B C ca cb cc n1 p1 o1) 26) := Lib.hid (((S2.out.set 0 _).set 1 _).set 2 _)
  have B3 : Hid (Below w.heap.size w (((w2.setCell ⟨w.heap.size, 0, none⟩ (.slice A n1.length ca)).setCell ⟨w.heap.size, 1, none⟩ (.slice B p1.length cb)).setCell ⟨w.heap.size, 2, none⟩ (.slice C o1.length cc))) := Lib.hid (((B2.out.setCell (p := ⟨w.heap.size, 0, none⟩) (Nat.le_refl _) _).setCell (p := ⟨w.heap.size, 1, none⟩) (Nat.le_refl _) _).setCell (p := ⟨w.heap.size, 2, none⟩) (Nat.le_refl _) _)
  go_upto_region 2 with fail
  clear r0 r1 r2 f0 f1 f2
  generalize (((w2.setCell ⟨w.heap.size, 0, none⟩ (.slice A n1.length ca)).setCell ⟨w.heap.size, 1, none⟩ (.slice B p1.length cb)).setCell ⟨w.heap.size, 2, none⟩ (.slice C o1.length cc)) = W at S3 B3 ⊢
  clear S2 B2
  have HW := Lib.hid (fun W' (hb : Below W.heap.size W W') => (show W'.cell? ⟨w.heap.size, 0, none⟩ = some (.slice A n1.length ca) ∧ W'.cell? ⟨w.heap.size, 1, none⟩ = some (.slice B p1.length cb) ∧ W'.cell? ⟨w.heap.size, 2, none⟩ = some (.slice C o1.length cc) from ⟨Blk.cell (S3.out.below hb S3.out.lt) 0, Blk.cell (S3.out.below hb S3.out.lt) 1, Blk.cell (S3.out.below hb S3.out.lt) 2⟩))
  have HG : Hid (w.heap.size < W.heap.size) := Lib.hid S3.out.lt
  have HT := Lib.hid (fun W' (hb : Below W.heap.size W W') => B3.out.trans (hb.mono B3.out.size))
  have HS := Lib.hid (fun W' (hb : Below W.heap.size W W') => H.out.below (HT.out W' hb))
  have hln := H.out.ln
  have hlp := H.out.lp
  clear H B3 S3
  have K2 : Hid (Blk (W.alloc (.cells ((keysL key).map strV).toArray 9)) W.heap.size ((keysL key).map strV).toArray 9) := Lib.hid (Blk.new W _ _)
  have D2 : Hid (Below W.heap.size W (W.alloc (.cells ((keysL key).map strV).toArray 9))) := Lib.hid (below1 W _)
  go_upto_region 3 with fail
  change Code.wp _ _ _ _ (W.alloc (.cells ((keysL key).map strV).toArray 9))
  generalize (W.alloc (.cells ((keysL key).map strV).toArray 9)) = W2 at K2 D2 ⊢
  have HK := Lib.hid (fun W' (hb : Below W2.heap.size W2 W') (k : Nat) (y : List UInt8) (hk : (keysL key)[k]? = some y) => (show W'.cell? ⟨W.heap.size, k, none⟩ = some (strV y) from by
    rw [Blk.cell (K2.out.below hb K2.out.lt) k, List.getElem?_toArray, List.getElem?_map, hk]
    rfl))
  have HKl := Lib.hid K2.out.lt
  have HW2 := Lib.hid (fun W' (hb : Below W2.heap.size W2 W') => D2.out.trans (hb.mono D2.out.size))
  clear K2
  go_wp2_with fail
  go_loopw [8] (fun i wr => ∃ k : Nat, k ≤ 4 ∧ i = .int .i64 k ∧ Below W2.heap.size W2 wr) (fun i _ => 4 - (intOf i).toNat)
  case atStart => exact ⟨0, by omega, rfl, Below.refl _ _⟩
  case round =>
    obtain ⟨k, hk, rfl, hbw⟩ := hrel
    have HB := Lib.hid hbw
    clear hbw
    by_cases hlt : k < 4
    case neg =>
      obtain rfl : k = 4 := by omega
      have KW2 := Lib.hid (KW.out wr)
      go_wp2_with fail
      refine (KW2.out).mono ?_
      rintro e w9 ⟨rfl, hb9⟩
      have D9 := Lib.hid (HT.out _ (HW2.out _ (HB.out.trans (hb9.mono HB.out.size))))
      clear hb9
      go_wp2
      go_ret
      exact ⟨rfl, D9.out⟩
    obtain ⟨y, hy⟩ : ∃ y, (keysL key)[k]? = some y := ⟨(keysL key)[k]'(by simpa using hlt), List.getElem?_eq_getElem _⟩
    have HY := Lib.hid hy
    have k0 : (0 : Int) ≤ (k : Int) := by omega
    have k1 : (k : Int) < 4 := by omega
    have k3 : decide (k < 4) = true := decide_eq_true hlt
    clear hy
    have D := Lib.hid (HW2.out _ HB.out)
    obtain ⟨z0, z1, z2⟩ := HW.out wr D.out
    have z3 := HK.out wr HB.out k y HY.out
    have Hg := Lib.hid (show w.heap.size < wr.heap.size from Nat.lt_of_lt_of_le HG.out D.out.size)
    have Hk := Lib.hid (show W.heap.size < wr.heap.size from Nat.lt_of_lt_of_le HKl.out HB.out.size)
    have K1 := Lib.hid (domain_any A B C ca cb cc n1 p1 o1 node y wr.drew (HS.out _ D.out.drew) (fun hc => short_of hc))
    have K3 := Lib.hid (fun w' (hb : Below W.heap.size W w') => domain7_any A B C ca cb cc n1 p1 o1 node y w' (HS.out w' hb))
    have KA := Lib.hid (fun w' (hb : Below W.heap.size W w') => domains_any A B C ca cb cc n1 p1 o1 y w' (HS.out w' hb))
    have KR := Lib.hid (fun w' (hb : Below W.heap.size W w') => domainsR_any A B C ca cb cc n1 p1 o1 y w' (HS.out w' hb))
    have hDl : (domsF n1 p1 o1 y).length ≤ 1000 := Nat.le_trans (domsF_few n1 p1 o1 y) hln
    generalize domsF n1 p1 o1 y = L at KA KR hDl
    have KE := Lib.hid (fun (QA QB : Option Addr) (cA cB : Nat) (w' : World) (hA : TextsAt w' QA cA L) (hB : TextsAt w' QB cB L) => by
      have q := eqTexts_any QA QB cA cB L L w' hDl hA hB
      rwa [decide_eq_true (rfl : L = L)] at q)
    generalize domE n1 p1 o1 node y = V at K1 K3
    generalize V.getD [] = T at K1 K3
    generalize V.isSome = X at K1 K3
    go_upto_region 6 with fail
    go_region_held3 (fun w' => w'.cell? ⟨w.heap.size, 0, none⟩ = some (.slice A n1.length ca) ∧ w'.cell? ⟨w.heap.size, 1, none⟩ = some (.slice B p1.length cb) ∧ w'.cell? ⟨w.heap.size, 2, none⟩ = some (.slice C o1.length cc) ∧ w'.cell? ⟨W.heap.size, k, none⟩ = some (strV y)) (first | exact ⟨z0, z1, z2, z3⟩ | exact ⟨y0, y1, y2, y3⟩)
      (first | ((with_reducible refine (K1.out).mono ?_); rintro e w3 ⟨rfl, hb3⟩; have y0 := (hb3.cell (p := ⟨w.heap.size, 0, none⟩) Hg.out).trans z0; have y1 := (hb3.cell (p := ⟨w.heap.size, 1, none⟩) Hg.out).trans z1; have y2 := (hb3.cell (p := ⟨w.heap.size, 2, none⟩) Hg.out).trans z2; have y3 := (hb3.cell (p := ⟨W.heap.size, k, none⟩) Hk.out).trans z3; have HB3 := Lib.hid hb3; clear hb3))
    have B3 := Lib.hid (La.below_of HB.out HB3.out)
    have D3 := Lib.hid (HW2.out _ B3.out)
    have Hg3 := Lib.hid (show w.heap.size < w3.heap.size from Nat.lt_of_lt_of_le HG.out D3.out.size)
    have Hk3 := Lib.hid (show W.heap.size < w3.heap.size from Nat.lt_of_lt_of_le HKl.out B3.out.size)
    have K4 := Lib.hid (K3.out w3.drew D3.out.drew)
    clear K1 K3 HB3 z0 z1 z2 z3 Hg Hk
    go_upto_region 7 with fail
    go_region_held3 (fun w' => w'.cell? ⟨w.heap.size, 0, none⟩ = some (.slice A n1.length ca) ∧ w'.cell? ⟨w.heap.size, 1, none⟩ = some (.slice B p1.length cb) ∧ w'.cell? ⟨w.heap.size, 2, none⟩ = some (.slice C o1.length cc) ∧ w'.cell? ⟨W.heap.size, k, none⟩ = some (strV y)) (first | exact ⟨y0, y1, y2, y3⟩ | exact ⟨z0, z1, z2, z3⟩)
      (first | ((with_reducible refine (K4.out).mono ?_); rintro e w4 ⟨rfl, hb3⟩; have z0 := (hb3.cell (p := ⟨w.heap.size, 0, none⟩) Hg3.out).trans y0; have z1 := (hb3.cell (p := ⟨w.heap.size, 1, none⟩) Hg3.out).trans y1; have z2 := (hb3.cell (p := ⟨w.heap.size, 2, none⟩) Hg3.out).trans y2; have z3 := (hb3.cell (p := ⟨W.heap.size, k, none⟩) Hk3.out).trans y3; have HB4 := Lib.hid hb3; clear hb3))
    have B4 := Lib.hid (La.below_of B3.out HB4.out)
    have D4 := Lib.hid (HW2.out _ B4.out)
    have Hg4 := Lib.hid (show w.heap.size < w4.heap.size from Nat.lt_of_lt_of_le HG.out D4.out.size)
    have Hk4 := Lib.hid (show W.heap.size < w4.heap.size from Nat.lt_of_lt_of_le HKl.out B4.out.size)
    have BD := Lib.hid (show Below w4.heap.size w4 w4.drew from (Below.refl _ _).drew)
    clear K4 HB4 y0 y1 y2 y3 Hg3 Hk3
    have hTT : (T != T) = false := by simp
    have hXX : (X != X) = false := by simp
    have z4 : w4.drew.cell? ⟨w.heap.size, 0, none⟩ = some (.slice A n1.length ca) := z0
    go_upto_region 8 with fail
    go_region_held3 (fun w' => w'.cell? ⟨w.heap.size, 0, none⟩ = some (.slice A n1.length ca) ∧ w'.cell? ⟨w.heap.size, 1, none⟩ = some (.slice B p1.length cb) ∧ w'.cell? ⟨w.heap.size, 2, none⟩ = some (.slice C o1.length cc) ∧ w'.cell? ⟨W.heap.size, k, none⟩ = some (strV y)) (first | exact ⟨v0, v1, v2, v3⟩ | exact ⟨x0, x1, x2, x3⟩ | exact ⟨y0, y1, y2, y3⟩ | exact ⟨z0, z1, z2, z3⟩)
      (first
        | (go_at_call 33
           first
             | (refine (KA.out _ (D4.out.trans (BY.out.mono D4.out.size))).mono ?_
                rintro e wA ⟨vA, rfl, hoA, hbA⟩
                obtain ⟨QA, cA, rfl, _⟩ := La.own_slice hoA
                have TA := Lib.hid (TextsAt.own hoA)
                have TB2 := Lib.hid (TB.out.below hbA)
                have BX := Lib.hid (BY.out.trans (hbA.mono BY.out.size))
                have x0 := (hbA.cell (p := ⟨w.heap.size, 0, none⟩) (Nat.lt_of_lt_of_le Hg4.out BY.out.size)).trans y0
                have x1 := (hbA.cell (p := ⟨w.heap.size, 1, none⟩) (Nat.lt_of_lt_of_le Hg4.out BY.out.size)).trans y1
                have x2 := (hbA.cell (p := ⟨w.heap.size, 2, none⟩) (Nat.lt_of_lt_of_le Hg4.out BY.out.size)).trans y2
                have x3 := (hbA.cell (p := ⟨W.heap.size, k, none⟩) (Nat.lt_of_lt_of_le Hk4.out BY.out.size)).trans y3
                clear hoA hbA)
             | (refine (KA.out _ (D4.out.trans (BD.out.mono D4.out.size))).mono ?_
                rintro e wA ⟨vA, rfl, hoA, hbA⟩
                obtain ⟨QA, cA, rfl, _⟩ := La.own_slice hoA
                have TA := Lib.hid (TextsAt.own hoA)
                have BY := Lib.hid (BD.out.trans (hbA.mono BD.out.size))
                have y0 := (hbA.cell (p := ⟨w.heap.size, 0, none⟩) Hg4.out).trans z0
                have y1 := (hbA.cell (p := ⟨w.heap.size, 1, none⟩) Hg4.out).trans z1
                have y2 := (hbA.cell (p := ⟨w.heap.size, 2, none⟩) Hg4.out).trans z2
                have y3 := (hbA.cell (p := ⟨W.heap.size, k, none⟩) Hk4.out).trans z3
                clear hoA hbA))
        | (go_at_call 34
           first
             | (refine (KR.out _ (D4.out.trans (BY.out.mono D4.out.size))).mono ?_
                rintro e wA ⟨vA, rfl, hoA, hbA⟩
                obtain ⟨QB, cB, rfl, _⟩ := La.own_slice hoA
                have TB := Lib.hid (TextsAt.own hoA)
                have TA2 := Lib.hid (TA.out.below hbA)
                have BX := Lib.hid (BY.out.trans (hbA.mono BY.out.size))
                have x0 := (hbA.cell (p := ⟨w.heap.size, 0, none⟩) (Nat.lt_of_lt_of_le Hg4.out BY.out.size)).trans y0
                have x1 := (hbA.cell (p := ⟨w.heap.size, 1, none⟩) (Nat.lt_of_lt_of_le Hg4.out BY.out.size)).trans y1
                have x2 := (hbA.cell (p := ⟨w.heap.size, 2, none⟩) (Nat.lt_of_lt_of_le Hg4.out BY.out.size)).trans y2
                have x3 := (hbA.cell (p := ⟨W.heap.size, k, none⟩) (Nat.lt_of_lt_of_le Hk4.out BY.out.size)).trans y3
                clear hoA hbA)
             | (refine (KR.out _ (D4.out.trans (BD.out.mono D4.out.size))).mono ?_
                rintro e wA ⟨vA, rfl, hoA, hbA⟩
                obtain ⟨QB, cB, rfl, _⟩ := La.own_slice hoA
                have TB := Lib.hid (TextsAt.own hoA)
                have BY := Lib.hid (BD.out.trans (hbA.mono BD.out.size))
                have y0 := (hbA.cell (p := ⟨w.heap.size, 0, none⟩) Hg4.out).trans z0
                have y1 := (hbA.cell (p := ⟨w.heap.size, 1, none⟩) Hg4.out).trans z1
                have y2 := (hbA.cell (p := ⟨w.heap.size, 2, none⟩) Hg4.out).trans z2
                have y3 := (hbA.cell (p := ⟨W.heap.size, k, none⟩) Hk4.out).trans z3
                clear hoA hbA))
        | (go_at_call 32
           refine (KE.out _ _ _ _ _ (by first | exact TA2.out | exact TA.out) (by first | exact TB2.out | exact TB.out)).mono ?_
           rintro e wE ⟨rfl, hbE⟩
           have BE := Lib.hid (BX.out.trans (hbE.mono BX.out.size))
           have v0 := (hbE.cell (p := ⟨w.heap.size, 0, none⟩) (Nat.lt_of_lt_of_le Hg4.out BX.out.size)).trans x0
           have v1 := (hbE.cell (p := ⟨w.heap.size, 1, none⟩) (Nat.lt_of_lt_of_le Hg4.out BX.out.size)).trans x1
           have v2 := (hbE.cell (p := ⟨w.heap.size, 2, none⟩) (Nat.lt_of_lt_of_le Hg4.out BX.out.size)).trans x2
           have v3 := (hbE.cell (p := ⟨W.heap.size, k, none⟩) (Nat.lt_of_lt_of_le Hk4.out BX.out.size)).trans x3
           clear hbE))
    all_goals
      have B9 := Lib.hid (B4.out.trans (BE.out.mono B4.out.size))
      go_wp2_with fail
      go_roundw
      case rel => exact ⟨k + 1, by omega, by go_num, B9.out⟩
      case measure => simp [intOf]; omega
end Go.Proofs.YtoankplhahbgkaaGreat

namespace Go.Proofs.YtoankplhahbgkaaGreat
open Go.RowKit Go.Maps Go.Sort

theorem atP_req {w : World} {b o k : Nat} {x : PodD} (c2 : w.cell? ⟨b, o + k * 15 + 2, none⟩ = some (.int .i64 (x.req 0))) (c3 : w.cell? ⟨b, o + k * 15 + 3, none⟩ = some (.int .i64 (x.req 1))) (c4 : w.cell? ⟨b, o + k * 15 + 4, none⟩ = some (.int .i64 (x.req 2))) (c5 : w.cell? ⟨b, o + k * 15 + 5, none⟩ = some (.int .i64 (x.req 3))) (c6 : w.cell? ⟨b, o + k * 15 + 6, none⟩ = some (.int .i64 (x.req 4))) :
    ∀ j, j < 5 → w.cell? ⟨b, o + k * 15 + 2 + j, none⟩ = some (.int .i64 (x.req j)) := fun j hj => by
  match j, hj with
  | 0, _ => exact c2
  | 1, _ => exact c3
  | 2, _ => exact c4
  | 3, _ => exact c5
  | 4, _ => exact c6

set_option maxRecDepth 100000 in
set_option maxHeartbeats 4000000 in
theorem usedOf7_any (A B C P : Option Addr) (ca cb cc cp : Nat) (ns : List NodeD) (ps : List PodD) (os : List OwnD) (p : List Int) (node : Int) (w : World) (h : SnapAt w A B C ca cb cc ns ps os) (hp : IntsAt w P cp p) (hpl : p.length = ps.length) :
    Calls Tryz.prog 72 #[snapV A B C ca cb cc ns ps os, .slice P p.length cp, .int .i64 node] w fun e w' => e = .returned (rowV (addW ps (onU p node p.length))) ∧ Below w.heap.size w w' := by
  have hlp := h.lp
  have H := Lib.hid h
  have HP := Lib.hid hp
  have B0 : Hid (Below w.heap.size w (((w.alloc (.cells (snapC A B C ca cb cc ns ps os) 26)).alloc (.cells zer5 33)).alloc (.cells zer5 33))) := Lib.hid ((Qu.below2 w _ _).alloc (by simp; omega) _)
  have S0 : Hid (Blk (((w.alloc (.cells (snapC A B C ca cb cc ns ps os) 26)).alloc (.cells zer5 33)).alloc (.cells zer5 33)) w.heap.size (snapC A B C ca cb cc ns ps os) 26) := Lib.hid (Blk.alloc (Blk.alloc (Blk.new w _ _) _) _)
  have R0 : Hid (Blk (((w.alloc (.cells (snapC A B C ca cb cc ns ps os) 26)).alloc (.cells zer5 33)).alloc (.cells zer5 33)) (w.heap.size + 1) zer5 33) := Lib.hid (Blk.alloc (blk2 w _ _ _) _)
  have U0 : Hid (Qu.RowAt (((w.alloc (.cells (snapC A B C ca cb cc ns ps os) 26)).alloc (.cells zer5 33)).alloc (.cells zer5 33)) (w.heap.size + 1 + 1) (addW ps (onU p node 0))) := Lib.hid (blk3 w _ _ _ _)
  clear h hp
  go_enter Tryz.func72, Tryz.ntmps72
  go_wp2_with fail
  change Code.wp _ _ _ _ (((w.alloc (.cells (snapC A B C ca cb cc ns ps os) 26)).alloc (.cells zer5 33)).alloc (.cells zer5 33))
  generalize (((w.alloc (.cells (snapC A B C ca cb cc ns ps os) 26)).alloc (.cells zer5 33)).alloc (.cells zer5 33)) = W0 at B0 S0 R0 U0 ⊢
  go_loopw [8] (fun i wr => ∃ k : Nat, k ≤ p.length ∧ i = .int .i64 k ∧ Blk wr w.heap.size (snapC A B C ca cb cc ns ps os) 26 ∧ Blk wr (w.heap.size + 1) zer5 33 ∧ Qu.RowAt wr (w.heap.size + 1 + 1) (addW ps (onU p node k)) ∧ Below w.heap.size w wr) (fun i _ => p.length - (intOf i).toNat)
  case atStart => exact ⟨0, by omega, rfl, S0.out, R0.out, U0.out, B0.out⟩
  case round =>
    clear S0 R0 U0 B0
    obtain ⟨k, hk, rfl, hS, hR, hU, hB⟩ := hrel
    have HS := Lib.hid hS
    have HR := Lib.hid hR
    have HU := Lib.hid hU
    have HB := Lib.hid hB
    clear hS hR hU hB
    by_cases hlt : k < p.length
    case neg =>
      obtain rfl : k = p.length := by omega
      go_wp2_with (first | refine wpList_load_row rfl 33 (.tmp 7) rfl (w.heap.size + 1 + 1) rfl 33 _ (0, 0) _ HU.out Tryz.underlying33 rfl Qu.vec_size ?_ | refine wpList_store_row rfl 33 (.tmp 6) (.tmp 42) rfl (w.heap.size + 1) _ rfl rfl 33 _ HR.out Qu.vec_size (by kernel_rfl) (by kernel_rfl) ?_)
      refine bodyPost_row1 Tryz.results72 (w.heap.size + 1) _ _ _ _ ?d1 ?p1 (Blk.put HR.out #[.int .i64 (addW ps (onU p node p.length) 0), .int .i64 (addW ps (onU p node p.length) 1), .int .i64 (addW ps (onU p node p.length) 2), .int .i64 (addW ps (onU p node p.length) 3), .int .i64 (addW ps (onU p node p.length) 4)]) Tryz.underlying33 rfl Qu.vec_size ?_
      case d1 => rfl
      case p1 => rfl
      exact ⟨rfl, below_setRow HB.out (by omega) _⟩
    obtain ⟨x, hx⟩ : ∃ x, p[k]? = some x := ⟨p[k], List.getElem?_eq_getElem hlt⟩
    obtain ⟨bp, op, hAp, hbp, hcp⟩ := atI (HP.out.below HB.out).cells hx
    subst hAp
    obtain ⟨y, hy⟩ : ∃ y, ps[k]? = some y := ⟨ps[k]'(by omega), List.getElem?_eq_getElem _⟩
    obtain ⟨b, o, hA, hbl, c0, c1, c2, c3, c4, c5, c6, c7, c8, c9, c10, c11, c12, c13, c14⟩ := atP (H.out.below HB.out).p.cells hy
    subst hA
    have k0 : (0 : Int) ≤ (k : Int) := by omega
    have k1 : (k : Int) < (p.length : Int) := by omega
    have k2 : (k : Int) < (ps.length : Int) := by omega
    have HX := Lib.hid hx
    have HY := Lib.hid hy
    clear hx hy c0 c1 c2 c3 c4 c5 c6 c7 c8 c9 c10 c11 c12 c13 c14
    by_cases hxn : x = node
    case neg =>
      have hxb : (x == node) = false := by simpa using hxn
      have HE : Hid (onU p node (k + 1) = onU p node k) := Lib.hid (by
        rw [onU, HX.out, if_neg (by simpa using hxn), List.append_nil])
      go_wp2_with fail
      go_loopw [9] (fun i wq => wr = wq ∧ i = .int .i64 0) (fun i _ => 0)
      case atStart => exact ⟨rfl, rfl⟩
      case round =>
        obtain ⟨rfl, rfl⟩ := hrel
        go_wp2_with fail
        go_roundw
        case rel => exact ⟨k + 1, by omega, by go_num, HS.out, HR.out, by rw [HE.out]; exact HU.out, HB.out⟩
        case measure => simp [intOf]; omega
    case pos =>
      subst hxn
      have HE : Hid (onU p x (k + 1) = onU p x k ++ [k]) := Lib.hid (by
        rw [onU, HX.out, if_pos rfl])
      have HQ : Hid (∀ j, addW ps (onU p x (k + 1)) j = wrap64 (addW ps (onU p x k) j + y.req j)) := Lib.hid (fun j => by
        rw [HE.out, addW_snoc ps _ k y HY.out])
      generalize addW ps (onU p x k) = a at HU HQ
      have hxb : (x == x) = true := by simp
      go_wp2_with fail
      go_loopw [9] (fun i wq => ∃ j : Nat, j ≤ 5 ∧ i = .int .i64 j ∧ Blk wq w.heap.size (snapC A (some ⟨b, o, none⟩) C ca cb cc ns ps os) 26 ∧ Blk wq (w.heap.size + 1) zer5 33 ∧ Qu.RowAt wq (w.heap.size + 1 + 1) (addR a y.req j) ∧ Below w.heap.size w wq) (fun i _ => 5 - (intOf i).toNat)
      case atStart => exact ⟨0, by omega, rfl, HS.out, HR.out, by rw [addR_zero]; exact HU.out, HB.out⟩
      case round =>
        clear HS HR HU HB hcp
        rename_i wq _
        obtain ⟨j, hj, rfl, hS, hR, hU, hB⟩ := hrel
        have HS := Lib.hid hS
        have HR := Lib.hid hR
        have HU := Lib.hid hU
        have HB := Lib.hid hB
        clear hS hR hU hB
        by_cases hlj : j < 5
        case neg =>
          obtain rfl : j = 5 := by omega
          go_wp2_with fail
          go_roundw
          case rel =>
            refine ⟨k + 1, by omega, by go_num, HS.out, HR.out, RowAt_congr HU.out (fun q hq => ?_), HB.out⟩
            rw [HQ.out]
            unfold addR
            rw [if_pos hq]
          case measure => simp [intOf]; omega
        obtain ⟨bp', op', hAp', _, hcp⟩ := atI (HP.out.below HB.out).cells HX.out
        cases hAp'
        obtain ⟨b', o', hA', _, c0, c1, c2, c3, c4, c5, c6, _⟩ := atP (H.out.below HB.out).p.cells HY.out
        cases hA'
        have cr := atP_req c2 c3 c4 c5 c6 j hlj
        have cu := HU.out.cell hlj
        rw [addR_at] at cu
        have fu := HU.out.free j
        have s1 : wr.cell? ⟨w.heap.size, 1, none⟩ = some (.slice (some ⟨b, o, none⟩) ps.length cb) := Blk.cell HS.out 1
        have j0 : (0 : Int) ≤ (j : Int) := by omega
        have j1 : (j : Int) < 5 := by omega
        clear c0 c1 c2 c3 c4 c5 c6
        go_wp2_with fail
        go_region
        go_wp2_with fail
        go_roundw
        case rel => exact ⟨j + 1, by omega, by go_num, (show Blk wr.drew _ _ _ from HS.out).oth (by omega) _ _, (show Blk wr.drew _ _ _ from HR.out).oth (by omega) _ _, by rw [← addR_step]; exact (show Qu.RowAt wr.drew _ _ from HU.out).set hlj _, HB.out.drew.setCell (by simp; omega) _⟩
        case measure => simp [intOf]; omega
end Go.Proofs.YtoankplhahbgkaaGreat

namespace Go.Proofs.YtoankplhahbgkaaGreat
open Go.RowKit Go.Maps Go.Sort

set_option maxRecDepth 100000 in
set_option maxHeartbeats 2000000 in
theorem used7_any (A B C P : Option Addr) (ca cb cc cp : Nat) (ns : List NodeD) (ps : List PodD) (os : List OwnD) (p : List Int) (node : Int) (w : World) (h : SnapAt w A B C ca cb cc ns ps os) (hp : IntsAt w P cp p) :
    Calls Tryz.prog 21 #[snapV A B C ca cb cc ns ps os, .slice P p.length cp, .int .i64 node] w fun e w' => e = .returned (rowV (usedF ns ps os p node)) ∧ Below w.heap.size w w' := by
  have B0 : Hid (Below w.heap.size w ((w.alloc (.cells (snapC A B C ca cb cc ns ps os) 26)).alloc (.cells zer5 33))) := Lib.hid (Qu.below2 w _ _)
  have S0 : Hid (Blk ((w.alloc (.cells (snapC A B C ca cb cc ns ps os) 26)).alloc (.cells zer5 33)) w.heap.size (snapC A B C ca cb cc ns ps os) 26) := Lib.hid (Blk.alloc (Blk.new w _ _) _)
  have R0 : Hid (Blk ((w.alloc (.cells (snapC A B C ca cb cc ns ps os) 26)).alloc (.cells zer5 33)) (w.heap.size + 1) zer5 33) := Lib.hid (blk2 w _ _ _)
  have KC := Lib.hid (check7_any A B C P ca cb cc cp ns ps os p _ (h.below B0.out) (hp.below B0.out))
  have hl0 := Blk.lt R0.out
  have KU : Hid (placeE ns ps os p = 0 → ∀ w', Below w.heap.size w w' → _) := Lib.hid (fun hE w' hb => usedOf7_any A B C P ca cb cc cp ns ps os p node w' (h.below hb) (hp.below hb) (placeE_len hE))
  have E : Hid (∀ k, usedF ns ps os p node k = if placeE ns ps os p = 0 ∧ 0 ≤ node ∧ node < (ns.length : Int) then addW ps (onU p node p.length) k else 0) := Lib.hid (fun _ => rfl)
  generalize usedF ns ps os p node = R at E ⊢
  generalize placeE ns ps os p = v0 at KC KU E
  generalize addW ps (onU p node p.length) = V at KU E
  clear h hp
  go_enter Tryz.func21, Tryz.ntmps21
  go_wp2_with fail
  refine (KC.out).mono ?_
  rintro e w1 ⟨rfl, hb⟩
  clear KC
  have S1 := Lib.hid (S0.out.below hb (by omega))
  have R1 := Lib.hid (R0.out.below hb (by omega))
  have B1 := Lib.hid (B0.out.trans (hb.mono B0.out.size))
  clear hb S0 R0 B0
  have s0 : w1.cell? ⟨w.heap.size, 0, none⟩ = some (.slice A ns.length ca) := Blk.cell S1.out 0
  have s1 : w1.cell? ⟨w.heap.size, 1, none⟩ = some (.slice B ps.length cb) := Blk.cell S1.out 1
  have s2 : w1.cell? ⟨w.heap.size, 2, none⟩ = some (.slice C os.length cc) := Blk.cell S1.out 2
  by_cases hok : v0 = 0 ∧ 0 ≤ node ∧ node < (ns.length : Int)
  case neg =>
    have HR : Hid (R = fun _ => 0) := Lib.hid (by funext k; rw [E.out, if_neg hok])
    have fin : Hid (Below w.heap.size w (w1.setRow (w.heap.size + 1) zer5)) := Lib.hid (below_setRow B1.out (by omega) _)
    clear KU E
    by_cases h1 : v0 = 0
    · subst h1
      by_cases h2 : node < 0
      · go_wp2_with (refine wpList_store_row rfl 33 (.tmp 6) (.tmp 22) rfl (w.heap.size + 1) zer5 rfl rfl 33 _ R1.out Qu.vec_size (by kernel_rfl) (by kernel_rfl) ?_)
        refine bodyPost_row1 Tryz.results21 (w.heap.size + 1) _ _ _ _ (by rfl) (by rfl) (Blk.put R1.out zer5) Tryz.underlying33 rfl Qu.vec_size ?_
        rw [HR.out]
        exact ⟨rfl, fin.out⟩
      · have h3 : (ns.length : Int) ≤ node := by
          have : ¬ (0 ≤ node ∧ node < (ns.length : Int)) := fun h => hok ⟨rfl, h⟩
          omega
        clear hok
        go_wp2_with (refine wpList_store_row rfl 33 (.tmp 6) (.tmp 22) rfl (w.heap.size + 1) zer5 rfl rfl 33 _ R1.out Qu.vec_size (by kernel_rfl) (by kernel_rfl) ?_)
        refine bodyPost_row1 Tryz.results21 (w.heap.size + 1) _ _ _ _ (by rfl) (by rfl) (Blk.put R1.out zer5) Tryz.underlying33 rfl Qu.vec_size ?_
        rw [HR.out]
        exact ⟨rfl, fin.out⟩
    · have hvb : (v0 != 0) = true := by simpa using h1
      clear hok
      go_wp2_with (refine wpList_store_row rfl 33 (.tmp 6) (.tmp 22) rfl (w.heap.size + 1) zer5 rfl rfl 33 _ R1.out Qu.vec_size (by kernel_rfl) (by kernel_rfl) ?_)
      refine bodyPost_row1 Tryz.results21 (w.heap.size + 1) _ _ _ _ (by rfl) (by rfl) (Blk.put R1.out zer5) Tryz.underlying33 rfl Qu.vec_size ?_
      rw [HR.out]
      exact ⟨rfl, fin.out⟩
  case pos =>
    have HR : Hid (R = V) := Lib.hid (by funext k; rw [E.out, if_pos hok])
    obtain ⟨rfl, h1, h2⟩ := hok
    have h1' : ¬ node < 0 := by omega
    have h2' : ¬ (ns.length : Int) ≤ node := by omega
    have K2 := Lib.hid (KU.out rfl w1 B1.out)
    clear KU E
    go_wp2_with fail
    refine (K2.out).mono ?_
    rintro e w2 ⟨rfl, hb⟩
    have R2 := Lib.hid (R1.out.below hb (R1.out.lt))
    have B2 := Lib.hid (B1.out.trans (hb.mono B1.out.size))
    clear hb R1 B1 S1 s0 s1 s2
    go_wp2_with (refine wpList_store_row rfl 33 (.tmp 6) (.tmp 26) rfl (w.heap.size + 1) _ rfl rfl 33 _ R2.out Qu.vec_size (by kernel_rfl) (by kernel_rfl) ?_)
    refine bodyPost_row1 Tryz.results21 (w.heap.size + 1) _ _ _ _ ?d1 ?p1 (Blk.put R2.out #[.int .i64 (V 0), .int .i64 (V 1), .int .i64 (V 2), .int .i64 (V 3), .int .i64 (V 4)]) Tryz.underlying33 rfl Qu.vec_size ?_
    case d1 => rfl
    case p1 => rfl
    rw [HR.out]
    exact ⟨rfl, below_setRow B2.out (by omega) _⟩

set_option maxRecDepth 100000 in
set_option maxHeartbeats 2000000 in
theorem asked7_any (A B C P : Option Addr) (ca cb cc cp : Nat) (ns : List NodeD) (ps : List PodD) (os : List OwnD) (p : List Int) (k : Int) (w : World) (h : SnapAt w A B C ca cb cc ns ps os) (hp : IntsAt w P cp p) :
    Calls Tryz.prog 75 #[snapV A B C ca cb cc ns ps os, .slice P p.length cp, .int .i64 k] w fun e w' => e = .returned (.bool (ownerB ns ps os p k)) ∧ Below w.heap.size w w' := by
  have B0 : Hid (Below w.heap.size w (w.alloc (.cells (snapC A B C ca cb cc ns ps os) 26))) := Lib.hid (below1 w _)
  have S0 : Hid (Blk (w.alloc (.cells (snapC A B C ca cb cc ns ps os) 26)) w.heap.size (snapC A B C ca cb cc ns ps os) 26) := Lib.hid (Blk.new w _ _)
  have KC := Lib.hid (check7_any A B C P ca cb cc cp ns ps os p _ (h.below B0.out) (hp.below B0.out))
  have s0 := Blk.cell S0.out 0
  have s1 := Blk.cell S0.out 1
  have s2 := Blk.cell S0.out 2
  have E : Hid (ownerB ns ps os p k = (decide (placeE ns ps os p = 0) && decide (0 ≤ k ∧ k < (os.length : Int)))) := Lib.hid rfl
  generalize ownerB ns ps os p k = R at E ⊢
  generalize placeE ns ps os p = v0 at KC E
  clear h hp
  go_enter Tryz.func75, Tryz.ntmps75
  by_cases h1 : 0 ≤ k
  case neg =>
    have h1' : ¬ 0 ≤ k := h1
    have HE : Hid (R = false) := Lib.hid (by rw [E.out, (decide_eq_false (fun h => h1 h.1) : decide (0 ≤ k ∧ k < (os.length : Int)) = false), Bool.and_false])
    clear E KC
    go_wp2
    go_ret
    exact ⟨La.retB HE.out.symm, B0.out⟩
  by_cases h2 : k < (os.length : Int)
  case neg =>
    have h2' : ¬ k < (os.length : Int) := h2
    have HE : Hid (R = false) := Lib.hid (by rw [E.out, (decide_eq_false (fun h => h2 h.2) : decide (0 ≤ k ∧ k < (os.length : Int)) = false), Bool.and_false])
    clear E KC
    go_wp2
    go_ret
    exact ⟨La.retB HE.out.symm, B0.out⟩
  have HE : Hid (R = decide (v0 = 0)) := Lib.hid (by rw [E.out, decide_eq_true (⟨h1, h2⟩ : 0 ≤ k ∧ k < (os.length : Int)), Bool.and_true])
  clear E
  go_wp2_with fail
  refine (KC.out).mono ?_
  rintro e w1 ⟨rfl, hb⟩
  have B1 := Lib.hid (B0.out.trans (hb.mono B0.out.size))
  clear hb KC
  go_wp2
  go_ret
  exact ⟨La.retB (by rw [HE.out]; by_cases hv : v0 = 0 <;> simp [hv]), B1.out⟩

theorem off_snoc (ps : List PodD) (p : List Int) (name : List UInt8) (k : Nat) (y : PodD) (x : Int) (hy : ps[k]? = some y) (hx : p[k]? = some x) : offL p (membersU ps name (k + 1)) = offL p (membersU ps name k) ++ (if y.owner = name ∧ x ≠ -1 then [k] else []) := by
  rw [membersU, hy]
  dsimp only
  unfold offL
  rw [List.map_append, List.filter_append]
  congr 1
  by_cases h1 : y.owner = name
  · by_cases h2 : x = -1
    · rw [if_pos h1, if_neg (fun h => h.2 h2)]
      simp [hx, h2]
    · rw [if_pos h1, if_pos ⟨h1, h2⟩]
      simp [hx, h2]
  · rw [if_neg h1, if_neg (fun h => h1 h.1)]
    rfl

set_option maxRecDepth 100000 in
set_option maxHeartbeats 4000000 in
theorem counts7_any (A B C P : Option Addr) (ca cb cc cp : Nat) (ns : List NodeD) (ps : List PodD) (os : List OwnD) (p : List Int) (ko : Nat) (xo : OwnD) (hxo : os[ko]? = some xo) (hE : placeE ns ps os p = 0) (w : World) (h : SnapAt w A B C ca cb cc ns ps os) (hp : IntsAt w P cp p) :
    Calls Tryz.prog 76 #[snapV A B C ca cb cc ns ps os, .slice P p.length cp, .int .i64 (ko : Int)] w fun e w' => ∃ v, e = .returned v ∧ w'.ownsRow w.heap.size 3 1 v ns.length (intsC (cntL ns.length p (offL p (membersF ps xo.name)))) ∧ Below w.heap.size w w' := by
  have hlp := h.lp
  have hln := h.ln
  have HPL := Lib.hid (placeE_len hE)
  have H := Lib.hid h
  have HP := Lib.hid hp
  have HXO := Lib.hid hxo
  have hko : ko < os.length := (List.getElem?_eq_some_iff.1 hxo).1
  have HON : Hid (∀ (k : Nat) (x : Int), p[k]? = some x → x ≠ -1 → ∃ q : Nat, x = (q : Int) ∧ q < ns.length) := Lib.hid (fun k x hk hx => tpB_lt (placeE_on hE hk hx))
  have B0 : Hid (Below w.heap.size w (w.alloc (.cells (snapC A B C ca cb cc ns ps os) 26))) := Lib.hid (below1 w _)
  have S0 : Hid (Blk (w.alloc (.cells (snapC A B C ca cb cc ns ps os) 26)) w.heap.size (snapC A B C ca cb cc ns ps os) 26) := Lib.hid (Blk.new w _ _)
  have HF : Hid (membersF ps xo.name = membersU ps xo.name p.length) := Lib.hid (by rw [HPL.out]; rfl)
  clear h hp hxo hE
  go_enter Tryz.func76, Tryz.ntmps76
  go_upto_region 1 with fail
  change Code.wp _ _ _ _ (w.alloc (.cells (snapC A B C ca cb cc ns ps os) 26))
  obtain ⟨W, hW⟩ : ∃ W, (w.alloc (.cells (snapC A B C ca cb cc ns ps os) 26)) = W := ⟨_, rfl⟩
  rw [hW] at B0 S0 ⊢
  clear hW
  have s0 : W.cell? ⟨w.heap.size, 0, none⟩ = some (.slice A ns.length ca) := Blk.cell S0.out 0
  have hmk := run_ints W ns.length (by omega)
  have O1 : Hid ((W.alloc (.cells (madeCells #[.int .i64 0] ns.length) 3)).ownsRow w.heap.size 3 1 (.slice (some ⟨W.heap.size, 0, none⟩) ns.length ns.length) ns.length (intsC (cntL ns.length p (offL p (membersU ps xo.name 0))))) := Lib.hid (own_made W ns.length w.heap.size (by omega) B0.out.size)
  have S1 := Lib.hid (Blk.alloc S0.out (.cells (madeCells #[.int .i64 0] ns.length) 3))
  have B1 := Lib.hid (B0.out.alloc B0.out.size (.cells (madeCells #[.int .i64 0] ns.length) 3))
  obtain ⟨G, hG⟩ : ∃ G, W.heap.size = G := ⟨_, rfl⟩
  have hwG : w.heap.size < G := by have := S0.out.lt; omega
  rw [hG] at O1
  go_wp2_with fail
  try rw [hG]
  generalize (W.alloc (.cells (madeCells #[.int .i64 0] ns.length) 3)) = W1 at O1 S1 B1 ⊢
  clear S0 B0 s0 hmk hG
  go_loopw [8] (fun i wr => ∃ k : Nat, k ≤ p.length ∧ i = .int .i64 k ∧ wr.ownsRow w.heap.size 3 1 (.slice (some ⟨G, 0, none⟩) ns.length ns.length) ns.length (intsC (cntL ns.length p (offL p (membersU ps xo.name k)))) ∧ Blk wr w.heap.size (snapC A B C ca cb cc ns ps os) 26 ∧ Below w.heap.size w wr) (fun i _ => p.length - (intOf i).toNat)
  case atStart => exact ⟨0, by omega, rfl, O1.out, S1.out, B1.out⟩
  case round =>
    clear O1 S1 B1
    obtain ⟨k, hk, rfl, hO, hS, hB⟩ := hrel
    have HO := Lib.hid hO
    have HS := Lib.hid hS
    have HB := Lib.hid hB
    clear hO hS hB
    by_cases hlt : k < p.length
    case neg =>
      obtain rfl : k = p.length := by omega
      go_wp2
      go_ret
      exact ⟨_, rfl, by rw [HF.out]; exact HO.out, HB.out⟩
    obtain ⟨x, hx⟩ : ∃ x, p[k]? = some x := ⟨p[k], List.getElem?_eq_getElem hlt⟩
    obtain ⟨bp, op, hAp, hbp, hcp⟩ := atI (HP.out.below HB.out).cells hx
    obtain ⟨y, hy⟩ : ∃ y, ps[k]? = some y := ⟨ps[k]'(by have := HPL.out; omega), List.getElem?_eq_getElem _⟩
    obtain ⟨b, o, hA, hbl, c0, c1, c2, c3, c4, c5, c6, c7, c8, c9, c10, c11, c12, c13, c14⟩ := atP (H.out.below HB.out).p.cells hy
    obtain ⟨bo, oo, hAo, hbo, d0, d1, d2, d3, d4⟩ := atO (H.out.below HB.out).o HXO.out
    have s1 : wr.cell? ⟨w.heap.size, 1, none⟩ = some (.slice B ps.length cb) := Blk.cell HS.out 1
    have s2 : wr.cell? ⟨w.heap.size, 2, none⟩ = some (.slice C os.length cc) := Blk.cell HS.out 2
    subst hA
    subst hAo
    subst hAp
    have Hd := Lib.hid (off_snoc ps p xo.name k y x hy hx)
    have k0 : (0 : Int) ≤ (k : Int) := by omega
    have k1 : (k : Int) < (p.length : Int) := by omega
    have k2 : (k : Int) < (ps.length : Int) := by have := HPL.out; omega
    have q0 : (0 : Int) ≤ (ko : Int) := by omega
    have q1 : (ko : Int) < (os.length : Int) := by omega
    have HX := Lib.hid hx
    clear hx hy c0 c2 c3 c4 c5 c6 c7 c8 c9 c10 c11 c12 c13 c14 d1 d2 d3 d4
    by_cases hxn : x = -1
    case pos =>
      subst hxn
      have HE : Hid (offL p (membersU ps xo.name (k + 1)) = offL p (membersU ps xo.name k)) := Lib.hid (by rw [Hd.out, if_neg (fun h => h.2 rfl), List.append_nil])
      have hneg : ¬ (0 : Int) ≤ -1 := by omega
      clear Hd
      go_wp2_with fail
      go_region
      go_wp2_with fail
      go_roundw
      case rel => exact ⟨k + 1, by omega, by go_num, by rw [HE.out]; exact HO.out, HS.out, HB.out.drew⟩
      case measure => simp [intOf]; omega
    obtain ⟨q, rfl, hq⟩ := HON.out k x HX.out hxn
    have q2 : (0 : Int) ≤ (q : Int) := by omega
    have q3 : (q : Int) < (ns.length : Int) := by omega
    by_cases hyo : y.owner = xo.name
    case neg =>
      have HE : Hid (offL p (membersU ps xo.name (k + 1)) = offL p (membersU ps xo.name k)) := Lib.hid (by rw [Hd.out, if_neg (fun h => hyo h.1), List.append_nil])
      have hyb : (y.owner == xo.name) = false := by simpa using hyo
      clear Hd
      go_wp2_with fail
      go_region
      go_wp2_with fail
      go_roundw
      case rel => exact ⟨k + 1, by omega, by go_num, by rw [HE.out]; exact HO.out, HS.out, HB.out.drew⟩
      case measure => simp [intOf]; omega
    have HE : Hid (offL p (membersU ps xo.name (k + 1)) = offL p (membersU ps xo.name k) ++ [k]) := Lib.hid (by rw [Hd.out, if_pos ⟨hyo, hxn⟩])
    have HE2 : Hid (cntL ns.length p (offL p (membersU ps xo.name (k + 1))) = (cntL ns.length p (offL p (membersU ps xo.name k))).set q ((cntL ns.length p (offL p (membersU ps xo.name k))).getD q 0 + 1)) := Lib.hid (by
      rw [HE.out, cntL_snoc _ _ _ _ _ HX.out, Int.toNat_natCast])
    have hyb : (y.owner == xo.name) = true := by simpa using hyo
    have hcl := cntL_len ns.length p (offL p (membersU ps xo.name k))
    have hle := cntL_le ns.length p (offL p (membersU ps xo.name k)) q
    have hol := Nat.le_trans (offL_len p (membersU ps xo.name k)) (membersU_len ps xo.name k)
    generalize cntL ns.length p (offL p (membersU ps xo.name k)) = L at HO HE2 hcl hle
    obtain ⟨c, hcc⟩ : ∃ c, L[q]? = some c := ⟨_, List.getElem?_eq_getElem (by omega)⟩
    obtain ⟨g', cur, hA', _, hgb, hgc⟩ := own_blk HO.out (k := q) (y := .int .i64 c) (by unfold intsC; rw [List.getElem?_map, hcc]; rfl)
    cases hA'
    rw [List.getD_eq_getElem?_getD, hcc] at hle
    simp only [Option.getD_some] at hle
    have g0 : wr.cell? ⟨G, q, none⟩ = some (.int .i64 c) := (Blk.cell hgb q).trans hgc
    have g1 : wr.frozen? ⟨G, q, none⟩ = false := Blk.free hgb q
    have hwr : wrap64 (c + 1) = c + 1 := IntWalk.wrap64_in _ (by have := HPL.out; omega)
    have hwi : IntKind.i64.wrap (c + 1) = c + 1 := (IntWalk.i64_left _).trans hwr
    have HCC := Lib.hid hcc
    clear Hd HE hle hcc hgb hgc hcl
    go_wp2_with fail
    go_region
    go_wp2_with fail
    go_roundw
    case rel =>
      refine ⟨k + 1, by omega, by go_num, ?_, (show Blk wr.drew _ _ _ from HS.out).oth (by omega) _ _, HB.out.drew.setCell (by simp; omega) _⟩
      rw [HE2.out, List.getD_eq_getElem?_getD, HCC.out]
      have h1 := own_put (show wr.drew.ownsRow _ _ _ _ _ _ from HO.out) q (.int .i64 (c + 1))
      rw [ints_set] at h1
      exact h1
    case measure => simp [intOf]; omega
end Go.Proofs.YtoankplhahbgkaaGreat

namespace Go.Proofs.YtoankplhahbgkaaGreat
open Go.RowKit Go.Maps Go.Sort

/-- What is told of an owner that is asked for. -/
theorem owned_is {ns : List NodeD} {ps : List PodD} {os : List OwnD} {p : List Int} {k : Int} (h : ownerB ns ps os p k = true) :
    ∃ (ko : Nat) (xo : OwnD), k = (ko : Int) ∧ os[ko]? = some xo ∧ placeE ns ps os p = 0 ∧ countsF ns ps os p k = cntL ns.length p (offL p (membersF ps xo.name)) ∧ placedF ns ps os p k = ((offL p (membersF ps xo.name)).length : Int) ∧ spreadF ns ps os p k = rowD (spreadD ns xo.topo p (offL p (membersF ps xo.name))) := by
  obtain ⟨h1, n, x, rfl, hx⟩ := ownerB_parts h
  have ho : ofF ps os p (n : Int) = offL p (membersF ps x.name) := by
    unfold ofF
    rw [Int.toNat_natCast, hx]
  refine ⟨n, x, rfl, hx, h1, ?_, ?_, ?_⟩
  · unfold countsF
    rw [if_pos h, ho]
  · unfold placedF
    rw [if_pos h, ho]
  · unfold spreadF
    rw [if_pos h, Int.toNat_natCast, hx]

set_option maxRecDepth 100000 in
set_option maxHeartbeats 2000000 in
theorem countsR_any (A B C P : Option Addr) (ca cb cc cp : Nat) (ns : List NodeD) (ps : List PodD) (os : List OwnD) (p : List Int) (k : Int) (w : World) (h : SnapAt w A B C ca cb cc ns ps os) (hp : IntsAt w P cp p) :
    Calls Tryz.prog 24 #[snapV A B C ca cb cc ns ps os, .slice P p.length cp, .int .i64 k] w fun e w' => ∃ v, e = .returned v ∧ w'.ownsRow w.heap.size 3 1 v (countsF ns ps os p k).length (intsC (countsF ns ps os p k)) ∧ Below w.heap.size w w' := by
  have B0 : Hid (Below w.heap.size w (w.alloc (.cells (snapC A B C ca cb cc ns ps os) 26))) := Lib.hid (below1 w _)
  have S0 : Hid (Blk (w.alloc (.cells (snapC A B C ca cb cc ns ps os) 26)) w.heap.size (snapC A B C ca cb cc ns ps os) 26) := Lib.hid (Blk.new w _ _)
  have KA := Lib.hid (asked7_any A B C P ca cb cc cp ns ps os p k _ (h.below B0.out) (hp.below B0.out))
  cases hR : ownerB ns ps os p k with
  | false =>
    have HC : Hid (countsF ns ps os p k = []) := Lib.hid (by unfold countsF; rw [hR]; rfl)
    rw [hR] at KA
    clear hR h hp
    go_enter Tryz.func24, Tryz.ntmps24
    go_wp2_with fail
    refine (KA.out).mono ?_
    rintro e w1 ⟨rfl, hb⟩
    have B1 := Lib.hid (B0.out.trans (hb.mono B0.out.size))
    clear hb KA
    go_wp2
    go_ret
    rw [HC.out]
    exact ⟨_, rfl, World.ownsRow_nil _ _ _ _, B1.out⟩
  | true =>
    obtain ⟨ko, xo, rfl, hxo, hE, hC, _, _⟩ := owned_is hR
    have hCl := cntL_len ns.length p (offL p (membersF ps xo.name))
    have HC := Lib.hid hC
    have HL := Lib.hid hCl
    have K2 := Lib.hid (fun w' (hb : Below w.heap.size w w') => counts7_any A B C P ca cb cc cp ns ps os p ko xo hxo hE w' (h.below hb) (hp.below hb))
    rw [hR] at KA
    clear hR h hp hE hxo hC hCl
    generalize cntL ns.length p (offL p (membersF ps xo.name)) = L at HC HL K2
    go_enter Tryz.func24, Tryz.ntmps24
    go_wp2_with fail
    refine (KA.out).mono ?_
    rintro e w1 ⟨rfl, hb⟩
    have S1 := Lib.hid (S0.out.below hb S0.out.lt)
    have B1 := Lib.hid (B0.out.trans (hb.mono B0.out.size))
    clear hb KA B0 S0
    have s0 : w1.cell? ⟨w.heap.size, 0, none⟩ = some (.slice A ns.length ca) := Blk.cell S1.out 0
    have s1 : w1.cell? ⟨w.heap.size, 1, none⟩ = some (.slice B ps.length cb) := Blk.cell S1.out 1
    have s2 : w1.cell? ⟨w.heap.size, 2, none⟩ = some (.slice C os.length cc) := Blk.cell S1.out 2
    go_wp2_with fail
    refine (K2.out _ B1.out).mono ?_
    rintro e w2 ⟨v, rfl, ho, hb⟩
    have O2 := Lib.hid ho
    have B2 := Lib.hid (B1.out.trans (hb.mono B1.out.size))
    have HS := Lib.hid B1.out.size
    clear ho hb K2 s0 s1 s2 S1 B1
    go_wp2
    go_ret
    rw [HC.out, HL.out]
    exact ⟨v, rfl, own_base O2.out HS.out, B2.out⟩

set_option maxRecDepth 100000 in
set_option maxHeartbeats 2000000 in
theorem placedOf7_any (A B C P : Option Addr) (ca cb cc cp : Nat) (ns : List NodeD) (ps : List PodD) (os : List OwnD) (p : List Int) (ko : Nat) (xo : OwnD) (hxo : os[ko]? = some xo) (hE : placeE ns ps os p = 0) (w : World) (h : SnapAt w A B C ca cb cc ns ps os) (hp : IntsAt w P cp p) :
    Calls Tryz.prog 82 #[snapV A B C ca cb cc ns ps os, .slice P p.length cp, .int .i64 (ko : Int)] w fun e w' => e = .returned (.int .i64 ((offL p (membersF ps xo.name)).length : Int)) ∧ Below w.heap.size w w' := by
  have hln := h.ln
  have hol : (offL p (membersF ps xo.name)).length ≤ 1000 := Nat.le_trans (offL_len p _) (Nat.le_trans (membersU_len ps xo.name _) h.lp)
  have B0 : Hid (Below w.heap.size w (w.alloc (.cells (snapC A B C ca cb cc ns ps os) 26))) := Lib.hid (below1 w _)
  have S0 : Hid (Blk (w.alloc (.cells (snapC A B C ca cb cc ns ps os) 26)) w.heap.size (snapC A B C ca cb cc ns ps os) 26) := Lib.hid (Blk.new w _ _)
  have KC := Lib.hid (counts7_any A B C P ca cb cc cp ns ps os p ko xo hxo hE _ (h.below B0.out) (hp.below B0.out))
  have HL := Lib.hid (cntL_len ns.length p (offL p (membersF ps xo.name)))
  have HSum := Lib.hid (cnt_sum ns.length p (offL p (membersF ps xo.name)) (off_in hE xo.name))
  have HT := Lib.hid (take_sum _ (cnt_pos ns.length p (offL p (membersF ps xo.name))))
  clear h hp hE hxo
  generalize cntL ns.length p (offL p (membersF ps xo.name)) = L at KC HL HSum HT
  generalize (offL p (membersF ps xo.name)).length = M at HSum hol ⊢
  go_enter Tryz.func82, Tryz.ntmps82
  go_wp2_with fail
  refine (KC.out).mono ?_
  rintro e w1 ⟨v, rfl, ho, hb⟩
  obtain ⟨G, cg, rfl, _⟩ := La.own_slice ho
  have O1 := Lib.hid (La.own_slat ho)
  have B1 := Lib.hid (B0.out.trans (hb.mono B0.out.size))
  clear ho hb KC B0 S0
  go_wp2_with fail
  go_loopw [7, 9] (fun s i wr => w1 = wr ∧ ∃ j : Nat, j ≤ ns.length ∧ i = .int .i64 j ∧ s = .int .i64 (L.take j).sum) (fun _ i _ => ns.length - (intOf i).toNat)
  case atStart => exact ⟨rfl, 0, by omega, rfl, rfl⟩
  case round =>
    obtain ⟨rfl, j, hj, rfl, rfl⟩ := hrel
    by_cases hlt : j < ns.length
    case neg =>
      obtain rfl : j = ns.length := by omega
      have HF : Hid ((L.take ns.length).sum = (M : Int)) := Lib.hid (by rw [← HL.out, List.take_length, HSum.out])
      go_wp2
      go_ret
      rw [HF.out]
      exact ⟨rfl, B1.out⟩
    obtain ⟨c, hc⟩ : ∃ c, L[j]? = some c := ⟨L[j]'(by have := HL.out; omega), List.getElem?_eq_getElem _⟩
    obtain ⟨g, o, hG, hcell⟩ := O1.out j (.int .i64 c) (by unfold intsC; rw [List.getElem?_map, hc]; rfl)
    subst hG
    have hst : (L.take (j + 1)).sum = (L.take j).sum + c := by
      obtain ⟨hj', he⟩ := List.getElem?_eq_some_iff.1 hc
      rw [List.take_succ_eq_append_getElem hj', he, List.sum_append]
      simp
    have t1 := HT.out (j + 1)
    rw [HSum.out, hst] at t1
    have hwr : wrap64 ((L.take j).sum + c) = (L.take j).sum + c := IntWalk.wrap64_in _ (by omega)
    have hwi : IntKind.i64.wrap ((L.take j).sum + c) = (L.take j).sum + c := (IntWalk.i64_left _).trans hwr
    have HST := Lib.hid hst
    have j0 : (0 : Int) ≤ (j : Int) := by omega
    have j1 : (j : Int) < (ns.length : Int) := by omega
    clear hst t1 hc
    go_wp2_with fail
    go_roundw
    case rel => exact ⟨by first | rfl | trivial, j + 1, by omega, by go_num, by rw [HST.out]⟩
    case measure => simp [intOf]; omega

set_option maxRecDepth 100000 in
set_option maxHeartbeats 2000000 in
theorem placed7_any (A B C P : Option Addr) (ca cb cc cp : Nat) (ns : List NodeD) (ps : List PodD) (os : List OwnD) (p : List Int) (k : Int) (w : World) (h : SnapAt w A B C ca cb cc ns ps os) (hp : IntsAt w P cp p) :
    Calls Tryz.prog 28 #[snapV A B C ca cb cc ns ps os, .slice P p.length cp, .int .i64 k] w fun e w' => e = .returned (.int .i64 (placedF ns ps os p k)) ∧ Below w.heap.size w w' := by
  have B0 : Hid (Below w.heap.size w (w.alloc (.cells (snapC A B C ca cb cc ns ps os) 26))) := Lib.hid (below1 w _)
  have S0 : Hid (Blk (w.alloc (.cells (snapC A B C ca cb cc ns ps os) 26)) w.heap.size (snapC A B C ca cb cc ns ps os) 26) := Lib.hid (Blk.new w _ _)
  have KA := Lib.hid (asked7_any A B C P ca cb cc cp ns ps os p k _ (h.below B0.out) (hp.below B0.out))
  cases hR : ownerB ns ps os p k with
  | false =>
    have HC : Hid (placedF ns ps os p k = 0) := Lib.hid (by unfold placedF; rw [hR]; rfl)
    rw [hR] at KA
    clear hR h hp
    go_enter Tryz.func28, Tryz.ntmps28
    go_wp2_with fail
    refine (KA.out).mono ?_
    rintro e w1 ⟨rfl, hb⟩
    have B1 := Lib.hid (B0.out.trans (hb.mono B0.out.size))
    clear hb KA
    go_wp2
    go_ret
    rw [HC.out]
    exact ⟨rfl, B1.out⟩
  | true =>
    obtain ⟨ko, xo, rfl, hxo, hE, _, hC, _⟩ := owned_is hR
    have HC := Lib.hid hC
    have K2 := Lib.hid (fun w' (hb : Below w.heap.size w w') => placedOf7_any A B C P ca cb cc cp ns ps os p ko xo hxo hE w' (h.below hb) (hp.below hb))
    rw [hR] at KA
    clear hR h hp hE hxo hC
    go_enter Tryz.func28, Tryz.ntmps28
    go_wp2_with fail
    refine (KA.out).mono ?_
    rintro e w1 ⟨rfl, hb⟩
    have S1 := Lib.hid (S0.out.below hb S0.out.lt)
    have B1 := Lib.hid (B0.out.trans (hb.mono B0.out.size))
    clear hb KA B0 S0
    have s0 : w1.cell? ⟨w.heap.size, 0, none⟩ = some (.slice A ns.length ca) := Blk.cell S1.out 0
    have s1 : w1.cell? ⟨w.heap.size, 1, none⟩ = some (.slice B ps.length cb) := Blk.cell S1.out 1
    have s2 : w1.cell? ⟨w.heap.size, 2, none⟩ = some (.slice C os.length cc) := Blk.cell S1.out 2
    go_wp2_with fail
    refine (K2.out _ B1.out).mono ?_
    rintro e w2 ⟨rfl, hb⟩
    have B2 := Lib.hid (B1.out.trans (hb.mono B1.out.size))
    clear hb K2 s0 s1 s2 S1 B1
    go_wp2
    go_ret
    rw [HC.out]
    exact ⟨rfl, B2.out⟩
end Go.Proofs.YtoankplhahbgkaaGreat

namespace Go.Proofs.YtoankplhahbgkaaGreat
open Go.RowKit Go.Maps Go.Sort

/-- What those of the first nodes have together that have that value. -/
def sumV (ns : List NodeD) (key : List UInt8) (L : List Int) (v : List UInt8) : Nat → Int
  | 0 => 0
  | k + 1 => sumV ns key L v k + (if domF ns (k : Int) key = some v then L.getD k 0 else 0)
theorem sumV_zero (ns : List NodeD) (key v : List UInt8) (L : List Int) (h : ∀ k, L.getD k 0 = 0) : ∀ k, sumV ns key L v k = 0
  | 0 => rfl
  | k + 1 => by
    rw [sumV, sumV_zero ns key v L h k, h]
    split <;> rfl
theorem sumV_set (ns : List NodeD) (key v : List UInt8) (L : List Int) (q : Nat) (hq : q < L.length) : ∀ k, sumV ns key (L.set q (L.getD q 0 + 1)) v k = sumV ns key L v k + (if q < k ∧ domF ns (q : Int) key = some v then 1 else 0)
  | 0 => by
    rw [if_neg (by omega)]
    rfl
  | k + 1 => by
    rw [sumV, sumV, sumV_set ns key v L q hq k]
    by_cases e : q = k
    · subst e
      rw [if_neg (fun h => by omega)]
      by_cases hd : domF ns (q : Int) key = some v
      · rw [if_pos hd, if_pos hd, if_pos ⟨by omega, hd⟩]
        rw [List.getD_eq_getElem?_getD, List.getElem?_set_self hq]
        simp
        omega
      · rw [if_neg hd, if_neg hd, if_neg (fun h => hd h.2)]
    · have h1 : (L.set q (L.getD q 0 + 1)).getD k 0 = L.getD k 0 := by
        rw [List.getD_eq_getElem?_getD, List.getElem?_set_ne e, ← List.getD_eq_getElem?_getD]
      have h2 : (if q < k + 1 ∧ domF ns (q : Int) key = some v then (1 : Int) else 0) = if q < k ∧ domF ns (q : Int) key = some v then 1 else 0 := by
        by_cases hk : q < k ∧ domF ns (q : Int) key = some v
        · rw [if_pos hk, if_pos ⟨by omega, hk.2⟩]
        · rw [if_neg hk, if_neg (fun h => hk ⟨by omega, h.2⟩)]
      rw [h1, h2]
      omega
theorem set_len_getD (L : List Int) (q : Nat) (x : Int) : (L.set q x).length = L.length := List.length_set ..

theorem two_from (ns : List NodeD) (key : List UInt8) (p : List Int) : ∀ (ys : List Nat) (D : DataW Unit) (L : List Int) (c : Nat), SpreadAt ns key D c → c + ys.length ≤ 1000 → L.length = ns.length → (∀ y ∈ ys, ∃ x, p[y]? = some x ∧ 0 ≤ x ∧ x < (ns.length : Int)) → (∀ v, valD D v = sumV ns key L v ns.length) → ∀ v, valD (ys.foldl (spreadS ns key p) D) v = sumV ns key (ys.foldl (fun l y => match p[y]? with | some x => l.set x.toNat (l.getD x.toNat 0 + 1) | none => l) L) v ns.length
  | [], _, _, _, _, _, _, _, hv => hv
  | y :: t, D, L, c, h, hc, hL, hy, hv => by
    rw [List.length_cons] at hc
    obtain ⟨x, hx, hx0, hx1⟩ := hy y (by simp)
    obtain ⟨q, rfl⟩ : ∃ q : Nat, x = (q : Int) := ⟨x.toNat, by omega⟩
    have hs : SpreadAt ns key (spreadS ns key p D y) (c + 1) := spread_from ns key p [y] D c h (by simp; omega)
    rw [List.foldl_cons, List.foldl_cons]
    have hst : (match p[y]? with | some x => L.set x.toNat (L.getD x.toNat 0 + 1) | none => L) = L.set q (L.getD q 0 + 1) := by
      rw [hx]
      simp
    rw [hst]
    refine two_from ns key p t _ _ (c + 1) hs (by omega) (by rw [List.length_set, hL]) (fun z hz => hy z (by simp [hz])) (fun v => ?_)
    rw [sumV_set ns key v L q (by omega), ← hv]
    have hq : q < ns.length := by omega
    unfold spreadS
    rw [hx]
    dsimp only
    cases hd : domF ns (q : Int) key with
    | none =>
      rw [if_neg (fun h => by have := h.2; cases this)]
      simp
    | some u =>
      dsimp only
      have hw : wrap64 (valD D u + 1) = valD D u + 1 := IntWalk.wrap64_in _ (by have := h.vals u; omega)
      have e : bumpD D u = D.put (.string u) (.lit (.int .i64 (valD D u + 1))) := by
        rw [← hw]
        rfl
      rw [e, val_put h.keyed]
      by_cases huv : v = u
      · subst huv
        rw [if_pos rfl, if_pos ⟨hq, rfl⟩]
        rfl
      · rw [if_neg huv, if_neg (fun h => huv (by have := h.2; cases this; rfl))]
        omega

theorem repl_getD (n k : Nat) : (List.replicate n (0 : Int)).getD k 0 = 0 := by
  rw [List.getD_eq_getElem?_getD, List.getElem?_replicate]
  split <;> rfl

theorem spread_is (ns : List NodeD) (key : List UInt8) (p : List Int) (ys : List Nat) (hl : ys.length ≤ 1000) (hy : ∀ y ∈ ys, ∃ x, p[y]? = some x ∧ 0 ≤ x ∧ x < (ns.length : Int)) :
    rowD (spreadD ns key p ys) = (domsR ns key ns.length).map (fun v => sumV ns key (cntL ns.length p ys) v ns.length) := by
  have hA := spread_all ns key p ys hl
  have hk : sortK (spreadD ns key p ys) = domsR ns key ns.length := by
    rw [← doms_sort]
    exact mergeSort_of_perm hA.keys
  unfold rowD
  rw [hk]
  refine List.map_congr_left (fun v _ => ?_)
  exact two_from ns key p ys _ _ 0 (spread_zero ns key) (by omega) (List.length_replicate ..) hy (fun u => by
    rw [sumV_zero ns key u _ (repl_getD ns.length)]
    exact (keyed_doms ns key ns.length).2 u) v

/-- What is summed is no more than all. -/
theorem sumV_le (ns : List NodeD) (key v : List UInt8) (L : List Int) (h : ∀ x ∈ L, 0 ≤ x) : ∀ k, k ≤ L.length → 0 ≤ sumV ns key L v k ∧ sumV ns key L v k ≤ (L.take k).sum
  | 0, _ => by simp [sumV]
  | k + 1, hk => by
    have ih := sumV_le ns key v L h k (by omega)
    have hkl : k < L.length := by omega
    rw [sumV, List.take_succ_eq_append_getElem hkl, List.sum_append]
    have h0 := h L[k] (List.getElem_mem hkl)
    have h1 : L.getD k 0 = L[k] := by rw [List.getD_eq_getElem?_getD, List.getElem?_eq_getElem hkl]; rfl
    rw [h1]
    simp only [List.sum_cons, List.sum_nil]
    split <;> omega
end Go.Proofs.YtoankplhahbgkaaGreat

namespace Go.Proofs.YtoankplhahbgkaaGreat
open Go.RowKit Go.Maps Go.Sort

set_option maxRecDepth 100000 in
set_option maxHeartbeats 8000000 in
theorem spreadOf7_any (A B C P : Option Addr) (ca cb cc cp : Nat) (ns : List NodeD) (ps : List PodD) (os : List OwnD) (p : List Int) (ko : Nat) (xo : OwnD) (hxo : os[ko]? = some xo) (hE : placeE ns ps os p = 0) (w : World) (h : SnapAt w A B C ca cb cc ns ps os) (hp : IntsAt w P cp p) :
    Calls Tryz.prog 81 #[snapV A B C ca cb cc ns ps os, .slice P p.length cp, .int .i64 (ko : Int)] w fun e w' => ∃ v, e = .returned v ∧ w'.ownsRow w.heap.size 3 1 v (rowD (spreadD ns xo.topo p (offL p (membersF ps xo.name)))).length (intsC (rowD (spreadD ns xo.topo p (offL p (membersF ps xo.name))))) ∧ Below w.heap.size w w' := by
  have hln := h.ln
  have hol : (offL p (membersF ps xo.name)).length ≤ 1000 := Nat.le_trans (offL_len p _) (Nat.le_trans (membersU_len ps xo.name _) h.lp)
  have H := Lib.hid h
  have HXO := Lib.hid hxo
  have q0 : (0 : Int) ≤ (ko : Int) := by omega
  have q1 : (ko : Int) < (os.length : Int) := by have := (List.getElem?_eq_some_iff.1 hxo).1; omega
  have B0 : Hid (Below w.heap.size w (w.alloc (.cells (snapC A B C ca cb cc ns ps os) 26))) := Lib.hid (below1 w _)
  have S0 : Hid (Blk (w.alloc (.cells (snapC A B C ca cb cc ns ps os) 26)) w.heap.size (snapC A B C ca cb cc ns ps os) 26) := Lib.hid (Blk.new w _ _)
  have KC := Lib.hid (counts7_any A B C P ca cb cc cp ns ps os p ko xo hxo hE _ (h.below B0.out) (hp.below B0.out))
  have KD := Lib.hid (fun w' (hb : Below w.heap.size w w') => domains7_any A B C ca cb cc ns ps os xo.topo w' (h.below hb))
  have HL := Lib.hid (cntL_len ns.length p (offL p (membersF ps xo.name)))
  have HSum := cnt_sum ns.length p (offL p (membersF ps xo.name)) (off_in hE xo.name)
  have HPos := cnt_pos ns.length p (offL p (membersF ps xo.name))
  have HT := take_sum _ HPos
  have HSB : Hid (∀ u m, m ≤ ns.length → 0 ≤ sumV ns xo.topo (cntL ns.length p (offL p (membersF ps xo.name))) u m ∧ sumV ns xo.topo (cntL ns.length p (offL p (membersF ps xo.name))) u m ≤ 1000) := Lib.hid (fun u m hm => by
    have h1 := sumV_le ns xo.topo u _ HPos m (by rw [cntL_len]; exact hm)
    have h2 := (HT m).2
    omega)
  have HR := Lib.hid (spread_is ns xo.topo p (offL p (membersF ps xo.name)) hol (off_in hE xo.name))
  have hDl := Nat.le_trans (domsR_len ns xo.topo ns.length) hln
  obtain ⟨i0, hi0, hz0, hz1, hz2⟩ := info_parts Qu.int_info
  clear h hp hxo hE HSum HPos HT hol
  generalize rowD (spreadD ns xo.topo p (offL p (membersF ps xo.name))) = R at HR ⊢
  generalize cntL ns.length p (offL p (membersF ps xo.name)) = L at KC HL HSB HR
  generalize domsR ns xo.topo ns.length = D at KD HR hDl
  go_enter Tryz.func81, Tryz.ntmps81
  go_wp2_with fail
  refine (KC.out).mono ?_
  rintro e w1 ⟨v, rfl, ho, hb⟩
  obtain ⟨G, cg, rfl, _⟩ := La.own_slice ho
  have O1 := Lib.hid ho
  have S1 := Lib.hid (S0.out.below hb S0.out.lt)
  have B1 := Lib.hid (B0.out.trans (hb.mono B0.out.size))
  clear ho hb KC B0 S0
  have K2 := Lib.hid (KD.out w1 B1.out)
  obtain ⟨bo, oo, hAo, hbo, d0, d1, d2, d3, d4⟩ := atO (H.out.below B1.out).o HXO.out
  subst hAo
  have s0 : w1.cell? ⟨w.heap.size, 0, none⟩ = some (.slice A ns.length ca) := Blk.cell S1.out 0
  have s1 : w1.cell? ⟨w.heap.size, 1, none⟩ = some (.slice B ps.length cb) := Blk.cell S1.out 1
  have s2 : w1.cell? ⟨w.heap.size, 2, none⟩ = some (.slice (some ⟨bo, oo, none⟩) os.length cc) := Blk.cell S1.out 2
  clear d0 d1 d3 d4 KD
  go_wp2_with fail
  refine (K2.out).mono ?_
  rintro e w2 ⟨v, rfl, ho, hb⟩
  obtain ⟨Q, cq, rfl, _⟩ := La.own_slice ho
  have OD := Lib.hid ho
  have OL := Lib.hid (La.own_below O1.out hb)
  have S2 := Lib.hid (S1.out.below hb S1.out.lt)
  have B2 := Lib.hid (B1.out.trans (hb.mono B1.out.size))
  clear ho hb K2 O1 B1 S1 s0 s1 s2 d2
  have HCL := Lib.hid (fun W (hb : Below w2.heap.size w2 W) => La.own_slat (La.own_below OL.out hb))
  have HCD := Lib.hid (fun W (hb : Below w2.heap.size w2 W) => La.own_slat (La.own_below OD.out hb))
  have HSS := Lib.hid (fun W (hb : Below w2.heap.size w2 W) => Blk.cell (S2.out.below hb S2.out.lt) 0)
  have HT2 := Lib.hid (fun W (hb : Below w2.heap.size w2 W) => H.out.below (B2.out.trans (hb.mono B2.out.size)))
  clear OL OD S2 H
  go_wp2_with fail
  go_loopw [7, 11] (fun v i wr => ∃ k : Nat, k ≤ D.length ∧ i = .int .i64 k ∧ wr.ownsRow w2.heap.size 3 1 v k (intsC (R.take k)) ∧ Below w2.heap.size w2 wr) (fun _ i _ => D.length - (intOf i).toNat)
  case atStart => exact ⟨0, by omega, rfl, World.ownsRow_nil _ _ _ _, Below.refl _ _⟩
  case round =>
    obtain ⟨k, hk, rfl, ho, hb⟩ := hrel
    have HO := Lib.hid ho
    have HB := Lib.hid hb
    clear ho hb
    by_cases hlt : k < D.length
    case neg =>
      obtain rfl : k = D.length := by omega
      have hRl : Hid (R.length = D.length ∧ R.take D.length = R) := Lib.hid (by
        have : R.length = D.length := by rw [HR.out, List.length_map]
        exact ⟨this, by rw [← this, List.take_length]⟩)
      go_wp2
      go_ret
      rw [hRl.out.1, ← hRl.out.2]
      refine ⟨_, rfl, ?_, B2.out.trans (HB.out.mono B2.out.size)⟩
      rw [hRl.out.2]
      have := own_base HO.out B2.out.size
      rwa [hRl.out.2] at this
    obtain ⟨u, hu⟩ : ∃ u, D[k]? = some u := ⟨D[k], List.getElem?_eq_getElem hlt⟩
    have HU := Lib.hid hu
    have HRk : Hid (R.take (k + 1) = R.take k ++ [sumV ns xo.topo L u ns.length]) := Lib.hid (by
      have hRu : R[k]? = some (sumV ns xo.topo L u ns.length) := by
        rw [HR.out, List.getElem?_map, HU.out]
        rfl
      obtain ⟨hj', he⟩ := List.getElem?_eq_some_iff.1 hRu
      rw [List.take_succ_eq_append_getElem hj', he])
    have k0 : (0 : Int) ≤ (k : Int) := by omega
    have k1 : (k : Int) < (D.length : Int) := by omega
    clear hu
    go_wp2_with fail
    go_loopw [12, 13] (fun n i wq => ∃ m : Nat, m ≤ ns.length ∧ i = .int .i64 m ∧ n = .int .i64 (sumV ns xo.topo L u m) ∧ Below wr.heap.size wr wq) (fun _ i _ => ns.length - (intOf i).toNat)
    case atStart => exact ⟨0, by omega, rfl, rfl, Below.refl _ _⟩
    case round =>
      rename_i wq _
      obtain ⟨m, hm, rfl, rfl, hbq⟩ := hrel
      have HBQ := Lib.hid hbq
      clear hbq
      have BQ := Lib.hid (HB.out.trans (HBQ.out.mono HB.out.size))
      by_cases hlm : m < ns.length
      case neg =>
        obtain rfl : m = ns.length := by omega
        have O2 := Lib.hid (La.own_below HO.out HBQ.out)
        generalize sumV ns xo.topo L u ns.length = c at HRk
        go_wp2_with (at_builtin; refine wpList_append_own _ rfl _ _ 27 rfl w2.heap.size 3 i0 (.int .i64 0) 1 8 Tryz.underlying27 hi0 hz0 hz1 hz2 rfl (by decide) _ _ _ rfl (show World.ownsRow _ _ _ _ _ _ _ from O2.out.alloc _) ⟨wr.heap.size, 0, none⟩ 1 1 [.int .i64 c] rfl rfl ?c1 ?c2 ?c3 ?c4 ?c5 ?_)
        case c1 =>
          intro j u hj
          match j, hj with
          | 0, hj => simp at hj; subst hj; simp [Addr.add]
        case c2 => first | rfl | (intro u hu; simp at hu; subst hu; rfl)
        case c3 => unfold maxLen; omega
        case c4 => omega
        case c5 => have := BQ.out.size; simp; omega
        intro v' w4 hown' hgrow' _
        have P4 := Lib.hid hown'
        have D4 := Lib.hid ((BQ.out.alloc BQ.out.size (.cells #[.int .i64 c] 3)).grown hgrow' (by have := BQ.out.size; simp; omega) (fun j hj => own_gem O2.out hj))
        clear hown' hgrow'
        go_wp2_with fail
        go_roundw
        case rel =>
          refine ⟨k + 1, by omega, by go_num, ?_, D4.out⟩
          rw [HRk.out]
          simpa [intsC] using P4.out
        case measure => simp [intOf]; omega
      obtain ⟨x, hx⟩ : ∃ x, ns[m]? = some x := ⟨ns[m], List.getElem?_eq_getElem hlm⟩
      have KV := Lib.hid (valueOf_any x xo.topo wr ((HT2.out _ BQ.out).n.fit x (List.mem_of_getElem? hx)))
      obtain ⟨b, o, hA, hbl, c0, c1, c2, c3, c4, c5, c6, c7, c8, c9⟩ := atN (HT2.out _ BQ.out).n.cells hx
      subst hA
      have s0 := HSS.out _ BQ.out
      have Hd : Hid (sumV ns xo.topo L u (m + 1) = sumV ns xo.topo L u m + (if valK x xo.topo = some u then L.getD m 0 else 0)) := Lib.hid (by rw [sumV, domF_at hx])
      have m0 : (0 : Int) ≤ (m : Int) := by omega
      have m1 : (m : Int) < (ns.length : Int) := by omega
      obtain ⟨c, hc⟩ : ∃ c, L[m]? = some c := ⟨L[m]'(by have := HL.out; omega), List.getElem?_eq_getElem _⟩
      have Hc : Hid (L.getD m 0 = c) := Lib.hid (by rw [List.getD_eq_getElem?_getD, hc]; rfl)
      have HC := Lib.hid hc
      clear hx hc
      generalize valK x xo.topo = V at KV Hd
      go_wp2_with fail
      refine (KV.out).mono ?_
      rintro e w3 ⟨rfl, hb⟩
      have B3 := Lib.hid (HBQ.out.trans (hb.mono HBQ.out.size))
      have D3 := Lib.hid (HB.out.trans (B3.out.mono HB.out.size))
      obtain ⟨g1, o1, hG, hcell⟩ := HCL.out _ D3.out m (.int .i64 c) (by unfold intsC; rw [List.getElem?_map, HC.out]; rfl)
      obtain ⟨g2, o2, hQ, hcellD⟩ := HCD.out _ D3.out k (strV u) (by unfold strC; rw [List.getElem?_map, HU.out]; rfl)
      subst hG
      subst hQ
      clear hb KV s0 c0 c1 c2 c3 c4 c5 c6 c7 c8 c9
      cases V with
      | none =>
        have HE : Hid (sumV ns xo.topo L u (m + 1) = sumV ns xo.topo L u m) := Lib.hid (by rw [Hd.out, if_neg (by simp)]; omega)
        clear Hd
        go_wp2_with fail
        go_roundw
        case rel => exact ⟨m + 1, by omega, by go_num, by rw [HE.out], B3.out⟩
        case measure => simp [intOf]; omega
      | some y =>
        by_cases hyu : y = u
        case neg =>
          have HE : Hid (sumV ns xo.topo L u (m + 1) = sumV ns xo.topo L u m) := Lib.hid (by rw [Hd.out, if_neg (by simpa using hyu)]; omega)
          have hyb : (y == u) = false := by simpa using hyu
          clear Hd
          go_wp2_with fail
          go_roundw
          case rel => exact ⟨m + 1, by omega, by go_num, by rw [HE.out], B3.out⟩
          case measure => simp [intOf]; omega
        subst hyu
        have HE : Hid (sumV ns xo.topo L y (m + 1) = sumV ns xo.topo L y m + c) := Lib.hid (by rw [Hd.out, if_pos rfl, Hc.out])
        have hyb : (y == y) = true := by simp
        have hsb := HSB.out y (m + 1) (by omega)
        rw [HE.out] at hsb
        have hwr : wrap64 (sumV ns xo.topo L y m + c) = sumV ns xo.topo L y m + c := IntWalk.wrap64_in _ (by omega)
        have hwi : IntKind.i64.wrap (sumV ns xo.topo L y m + c) = sumV ns xo.topo L y m + c := (IntWalk.i64_left _).trans hwr
        clear Hd hsb
        go_wp2_with fail
        go_roundw
        case rel => exact ⟨m + 1, by omega, by go_num, by rw [HE.out], B3.out⟩
        case measure => simp [intOf]; omega
end Go.Proofs.YtoankplhahbgkaaGreat
