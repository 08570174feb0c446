/- The sorted keys of a map: the library's contracts, at this program. No conditions but what they say. The domains of a key: the contracts of emptyDomains and of Domains. Condition: the cluster lies in memory. The domains of a key, sorted: the contract of Domains. Condition: the cluster lies in memory. -/
import Derived.Test.YtfnigiiocapceaaGreatShelfIter
import Derived.Test.YtfnigiiocapceaaGreatKb
import Derived.Maps.OwnIn
import Derived.Maps.Views

namespace Go.Proofs.YtfnigiiocapceaaGreat
open Go.RowKit Go.Maps Go.Sort Go.Shelf

theorem sorts_in (m : Nat) : AnyZ.SortsIn Tryz.prog Tryz.sorted48_ren Fence.wide m :=
  ⟨fun blk off cap ss W hH hblk hsz => callsIn_wide.2 (AnyM.slices_Sort_string Tryz.sort70 blk off cap ss W hH hblk hsz),
   fun p cap W => callsIn_wide.2 (AnyM.slices_Sort_string_none Tryz.sort70 p cap W)⟩

theorem mapsKeys_in (mb : Option Nat) (W : World) : CallsIn Fence.wide 5 Tryz.prog 49 #[.map mb] W fun e w' => e = .returned (.func (.func 71) #[] #[.pointer (some ⟨W.heap.size, 0, none⟩)]) ∧ w' = W.alloc (.cells #[.map mb] 81) :=
  AnyZ.keys_in Tryz.keys49 Fence.wide 5 trivial rfl mb W

set_option maxHeartbeats 1000000 in
theorem sortedKeys_in {H : Type} (b nn : Nat) (D0 : DataW H) (R : Value → Option (DataW H × List MemPlace)) (w : World) (hown : w.ownsMap Tryz.prog 9 R b nn D0) (hmax : Maps.size D0 ≤ maxLen) (hbytes : Maps.size D0 * 16 ≤ 140737488355328) :
    CallsIn Fence.wide 5 Tryz.prog 48 #[.func (.func 71) #[] #[.pointer (some ⟨w.heap.size, 0, none⟩)]] (w.alloc (.cells #[.map (some b)] 81)) fun e w' => ∃ (v : Value) (ss : List (List UInt8)), e = .returned v ∧ ss.Perm (strKeys D0) ∧
      w'.ownsRow (w.alloc (.cells #[.map (some b)] 81)).heap.size 9 1 v ss.length ((ss.mergeSort (fun x y => decide (x ≤ y))).map encStr) ∧ (v = .slice none 0 0 ↔ ss = []) ∧ Below (w.alloc (.cells #[.map (some b)] 81)).heap.size (w.alloc (.cells #[.map (some b)] 81)) w' := by
  have hbl := hown.lt
  have hseq : SeqGives Fence.wide 2 Tryz.prog 71 #[.pointer (some ⟨w.heap.size, 0, none⟩)] encStr (fun ss => ss.Perm (strKeys D0)) (Maps.size D0) (w.alloc (.cells #[.map (some b)] 81)) :=
    AnyZ.keys_gives (ρ := Tryz.keys49_ren) { Tryz.keys49 with } Fence.wide _ trivial rfl (by omega) w.heap.size b nn D0 _ (by simp) (by simp) (by
      obtain ⟨es, clock, hb, Ft, hs, hD⟩ := hown
      exact ⟨es, clock, (Below.heap_alloc _ _ b hbl).trans hb, Ft, hs, hD⟩)
  exact AnyZ.sorted_in Tryz.sorted48 Fence.wide 5 trivial trivial trivial trivial rfl (by omega) (sorts_in _) (enters_of Tryz.func70 (by kernel_rfl) rfl) 71 #[.pointer (some ⟨w.heap.size, 0, none⟩)] trivial (enters_of Tryz.func71 (by kernel_rfl) rfl) _ _ hmax hbytes _ hseq

set_option maxHeartbeats 1000000 in
theorem sortedKeysNil_in (w : World) :
    CallsIn Fence.wide 5 Tryz.prog 48 #[.func (.func 71) #[] #[.pointer (some ⟨w.heap.size, 0, none⟩)]] (w.alloc (.cells #[.map none] 81)) fun e w' => ∃ (v : Value) (ss : List (List UInt8)), e = .returned v ∧ ss = [] ∧
      w'.ownsRow (w.alloc (.cells #[.map none] 81)).heap.size 9 1 v ss.length ((ss.mergeSort (fun x y => decide (x ≤ y))).map encStr) ∧ (v = .slice none 0 0 ↔ ss = []) ∧ Below (w.alloc (.cells #[.map none] 81)).heap.size (w.alloc (.cells #[.map none] 81)) w' := by
  have hseq : SeqGives Fence.wide 2 Tryz.prog 71 #[.pointer (some ⟨w.heap.size, 0, none⟩)] encStr (fun ss : List (List UInt8) => ss = []) 0 (w.alloc (.cells #[.map none] 81)) :=
    AnyZ.keys_gives_nil (ρ := Tryz.keys49_ren) { Tryz.keys49 with } Fence.wide _ trivial rfl w.heap.size _ (by simp) (by simp)
  exact AnyZ.sorted_in Tryz.sorted48 Fence.wide 5 trivial trivial trivial trivial rfl (by omega) (sorts_in _) (enters_of Tryz.func70 (by kernel_rfl) rfl) 71 #[.pointer (some ⟨w.heap.size, 0, none⟩)] trivial (enters_of Tryz.func71 (by kernel_rfl) rfl) _ 0 (Nat.zero_le _) (by omega) _ hseq
end Go.Proofs.YtfnigiiocapceaaGreat

namespace Go.Proofs.YtfnigiiocapceaaGreat
open Go.RowKit Go.Maps

theorem span15 (ok : Nat → Nat → Bool) : ∀ (t : List UInt8) (a : Nat), a ≤ 15 → La.spanF ok t a ≤ 15
  | [], a, h => h
  | b :: t, a, h => by
    rw [La.spanF]
    split
    · exact h
    · rename_i hn
      exact span15 ok t (a + 1) (by
        have : ¬ a = 15 := fun e => hn (.inl e)
        omega)
theorem chkK_all {α : Type} {mb : α → Bool} {ri : α → α → Bool} {l : List α} (h : La.chkA mb ri l = 0) : ∀ x ∈ l, mb x = true := by
  intro x hx
  obtain ⟨k, hk⟩ := List.mem_iff_getElem?.1 hx
  have hlt := (List.getElem?_eq_some_iff.1 hk).1
  unfold La.chkA at h
  split at h
  · cases h
  · rename_i hn
    cases hm : mb x with
    | true => rfl
    | false =>
      exfalso
      have h1 : La.chkK mb ri l (k + 1) = false := by
        rw [La.chkK, hk]
        dsimp only
        rw [La.okAt_no hm, Bool.and_false]
      exact hn (.inr (La.chkK_false h1 (by omega)))
/-- The labels of a cluster that may be have short values. -/
theorem short_of {ns : List NodeD} {ps : List PodD} {os : List OwnD} (h : checkS ns ps os = 0) : Short ns := by
  intro x hx y hy
  unfold checkS at h
  split at h
  · rename_i hc
    unfold clusB at hc
    simp only [Bool.and_eq_true, List.all_eq_true] at hc
    have h1 := hc.1.1.2 x hx
    unfold nodeB at h1
    simp only [Bool.and_eq_true, beq_iff_eq] at h1
    have h2 := chkK_all h1.1.2 y hy
    unfold La.labB at h2
    simp only [Bool.and_eq_true] at h2
    have h3 := h2.2
    unfold La.valueB at h3
    simp only [Bool.and_eq_true, decide_eq_true_eq] at h3
    have := span15 La.okVal y.2 0 (by omega)
    omega
  · cases h

/-- The map of the domains that the first k nodes have for a key: each has a 0. -/
def domsU (ns : List NodeD) (key : List UInt8) : Nat → DataW Unit
  | 0 => .map []
  | k + 1 => match domF ns (k : Int) key with
    | some v => (domsU ns key k).put (.string v) (.lit (.int .i64 0))
    | none => domsU ns key k
def emptyD (ns : List NodeD) (key : List UInt8) : DataW Unit := domsU ns key ns.length
theorem domF_short {ns : List NodeD} {key v : List UInt8} {k : Int} (hs : Short ns) (h : domF ns k key = some v) : v.length ≤ 281474976710656 := by
  unfold domF at h
  split at h
  · split at h
    · rename_i x hx
      cases hf : x.labels.find? (fun y => decide (y.1 = key)) with
      | none => rw [hf] at h; cases h
      | some y =>
        rw [hf] at h
        cases h
        exact hs x (List.mem_of_getElem? hx) y (List.mem_of_find?_eq_some hf)
    · cases h
  · cases h
theorem ownsMap_below {P : Program} {k : TypeId} {R : Value → Option (DataW Unit × List MemPlace)} {w w' : World} {b n : Nat} {D : DataW Unit} (h : w.ownsMap P k R b n D) (hb : Below w.heap.size w w') : w'.ownsMap P k R b n D := h.kept (grown_of_below hb none) (by simp)

set_option maxRecDepth 100000 in
set_option maxHeartbeats 2000000 in
theorem empty_any (A B C : Option Addr) (ca cb cc : Nat) (ns : List NodeD) (ps : List PodD) (os : List OwnD) (key : List UInt8) (w : World) (h : SnapAt w A B C ca cb cc ns ps os) (hsh : Short ns) :
    Calls Tryz.prog 46 #[snapV A B C ca cb cc ns ps os, strV key] w fun e w' => e = .returned (.map (some (w.heap.size + 1))) ∧ w'.ownsMap Tryz.prog 9 (plainElem Tryz.prog 3) (w.heap.size + 1) ns.length (emptyD ns key) ∧ Below w.heap.size w w' := by
  have hln := h.ln
  have H := Lib.hid h
  have S0 : Hid (Blk (w.alloc (.cells (snapC A B C ca cb cc ns ps os) 26)) w.heap.size (snapC A B C ca cb cc ns ps os) 26) := Lib.hid (Blk.new w _ _)
  have S1 := Lib.hid (Blk.alloc S0.out (.map #[] 0))
  have B1 : Hid (Below w.heap.size w ((w.alloc (.cells (snapC A B C ca cb cc ns ps os) 26)).alloc (.map #[] 0))) := Lib.hid (Qu.below2 w _ _)
  have hmm := @run_makeMap Tryz.prog
  have hm0 := World.ownsMap_made (H := Unit) (w.alloc (.cells (snapC A B C ca cb cc ns ps os) 26)) Tryz.prog 9 (plainElem Tryz.prog 3)
  rw [World.size_alloc] at hm0
  have M1 := Lib.hid hm0
  have KD := Lib.hid (fun (k : Int) w1 (hb : Below w.heap.size w w1) => domainOf_any A B C ca cb cc ps.length os.length ns k key w1 (h.below hb).n hsh)
  have HSH := Lib.hid hsh
  have s0 := Blk.cell S1.out 0
  clear h hm0 hsh
  go_enter Tryz.func46, Tryz.ntmps46
  go_wp2_with fail
  clear hmm
  generalize hW1 : ((w.alloc (.cells (snapC A B C ca cb cc ns ps os) 26)).alloc (.map #[] 0)) = W1 at S1 B1 M1 s0 ⊢
  clear hW1 s0 S0
  obtain ⟨Mb, hMb⟩ : ∃ Mb, w.heap.size + 1 = Mb := ⟨_, rfl⟩
  rw [hMb] at M1 ⊢
  have HMb := Lib.hid hMb
  clear hMb
  go_loopw [13] (fun i wr => ∃ k : Nat, k ≤ ns.length ∧ i = .int .i64 k ∧ wr.ownsMap Tryz.prog 9 (plainElem Tryz.prog 3) Mb k (domsU ns key k) ∧ Below w.heap.size w wr ∧ Blk wr w.heap.size (snapC A B C ca cb cc ns ps os) 26) (fun i _ => ns.length - (intOf i).toNat)
  case atStart => exact ⟨0, by omega, rfl, M1.out, B1.out, S1.out⟩
  case round =>
    clear M1 B1 S1
    obtain ⟨k, hk, rfl, hown, hbw, hsk⟩ := hrel
    have HM := Lib.hid hown
    have HB := Lib.hid hbw
    have HS := Lib.hid hsk
    clear hown hbw hsk
    have s0 : wr.cell? ⟨w.heap.size, 0, none⟩ = some (.slice A ns.length ca) := Blk.cell HS.out 0
    have s1 : wr.cell? ⟨w.heap.size, 1, none⟩ = some (.slice B ps.length cb) := Blk.cell HS.out 1
    have s2 : wr.cell? ⟨w.heap.size, 2, none⟩ = some (.slice C os.length cc) := Blk.cell HS.out 2
    by_cases hlt : k < ns.length
    · have K1 := Lib.hid (KD.out (k : Int) wr HB.out)
      have E : Hid (domsU ns key (k + 1) = match domF ns (k : Int) key with
        | some v => (domsU ns key k).put (.string v) (.lit (.int .i64 0))
        | none => domsU ns key k) := Lib.hid rfl
      have HV := Lib.hid (fun v (hv : domF ns (k : Int) key = some v) => domF_short HSH.out hv)
      generalize domF ns (k : Int) key = dv at K1 E HV
      have k1 : (k : Int) < (ns.length : Int) := by omega
      go_wp2_with fail
      refine (K1.out).mono ?_
      rintro e w2 ⟨rfl, hb⟩
      have M2 := Lib.hid (ownsMap_below HM.out hb)
      have S2 := Lib.hid (HS.out.below hb HS.out.lt)
      have B2 := Lib.hid (HB.out.trans (hb.mono HB.out.size))
      clear hb K1 s0 s1 s2
      cases dv with
      | none =>
        go_wp2
        go_roundw
        case rel => exact ⟨k + 1, by omega, by go_num, by rw [E.out]; exact M2.out.mono (by omega), B2.out, S2.out⟩
        case measure => simp [intOf]; omega
      | some v =>
        have hvl : ((⟨v.toArray⟩ : ByteArray).size) ≤ maxLen := by
          have := HV.out v rfl
          rw [size_of]
          unfold maxLen
          omega
        have hkey := WideMaps.keyOf_string_mk (P := Tryz.prog) Tryz.underlying9 hvl
        have hown := M2.out
        have hkm : k < maxLen := by unfold maxLen; omega
        go_wp2_with (at_mapUpdate; refine wpList_mapUpdate_own _ rfl _ _ _ 81 rfl 9 3 (Maps.string_keyed Tryz.underlying9) Tryz.underlying81 _ Mb k _ rfl hown hkm _ _ _ rfl rfl hkey _ [] (plainElem_int Tryz.underlying3 (by decide)) ?_)
        intro w3 hown3 hgrow3
        have M3 := Lib.hid hown3
        have hMlt : w.heap.size < Mb := by have := HMb.out; omega
        have B3 := Lib.hid (B2.out.grown hgrow3 B2.out.size (fun j e => by cases e; omega))
        have S3 := Lib.hid (S2.out.kept hgrow3 (fun e => by cases e; omega))
        clear hown hown3 hgrow3 hkey hvl hkm
        go_wp2
        go_roundw
        case rel => exact ⟨k + 1, by omega, by go_num, by rw [E.out]; exact M3.out, B3.out, S3.out⟩
        case measure => simp [intOf]; omega
    · obtain rfl : k = ns.length := by omega
      go_wp2
      go_ret
      rw [HMb.out]
      exact ⟨rfl, HM.out, HB.out⟩
end Go.Proofs.YtfnigiiocapceaaGreat

namespace Go.Proofs.YtfnigiiocapceaaGreat
open Go.RowKit Go.Maps Go.Sort

/-- The keys of a map, sorted. -/
def sortK (D : DataW Unit) : List (List UInt8) := (strKeys D).mergeSort leB
/-- What Domains tells. -/
def domsF (ns : List NodeD) (ps : List PodD) (os : List OwnD) (key : List UInt8) : List (List UInt8) := if checkS ns ps os = 0 then sortK (emptyD ns key) else []
theorem own_sorted {w : World} {base : Nat} {v : Value} {D : DataW Unit} {ss : List (List UInt8)} (hp : ss.Perm (strKeys D)) (h : w.ownsRow base 9 1 v ss.length ((ss.mergeSort (fun x y => decide (x ≤ y))).map encStr)) :
    w.ownsRow base 9 1 v (sortK D).length ((sortK D).map encStr) := by
  have e : ss.mergeSort (fun x y => decide (x ≤ y)) = sortK D := mergeSort_of_perm hp
  rw [e] at h
  have hl : ss.length = (sortK D).length := by rw [← e, List.length_mergeSort]
  rw [hl] at h
  exact h

set_option maxRecDepth 100000 in
set_option maxHeartbeats 2000000 in
theorem domains_any (A B C : Option Addr) (ca cb cc : Nat) (ns : List NodeD) (ps : List PodD) (os : List OwnD) (key : List UInt8) (w : World) (h : SnapAt w A B C ca cb cc ns ps os) :
    Calls Tryz.prog 26 #[snapV A B C ca cb cc ns ps os, strV key] w fun e w' => ∃ v, e = .returned v ∧ w'.ownsRow w.heap.size 9 1 v (domsF ns ps os key).length ((domsF ns ps os key).map encStr) ∧ Below w.heap.size w w' := by
  have H := Lib.hid h
  have hln := Lib.hid h.ln
  have B0 : Hid (Below w.heap.size w (w.alloc (.cells (snapC A B C ca cb cc ns ps os) 26))) := Lib.hid (below1 w _)
  have S0 : Hid (Blk (w.alloc (.cells (snapC A B C ca cb cc ns ps os) 26)) w.heap.size (snapC A B C ca cb cc ns ps os) 26) := Lib.hid (Blk.new w _ _)
  have KC := Lib.hid ((callsIn_wide (n := 5)).2 (check_any A B C ca cb cc ns ps os _ (h.below B0.out)))
  have hl0 := Blk.lt S0.out
  have E : Hid (domsF ns ps os key = if checkS ns ps os = 0 then sortK (emptyD ns key) else []) := Lib.hid rfl
  generalize domsF ns ps os key = R at E ⊢
  have KE := Lib.hid (fun (hc : checkS ns ps os = 0) w1 (hb : Below w.heap.size w w1) => (callsIn_wide (n := 5)).2 (empty_any A B C ca cb cc ns ps os key w1 (h.below hb) (short_of hc)))
  generalize checkS ns ps os = v0 at KC E KE
  clear h
  have hfK : Fence.wide.fn 49 := trivial
  have hfS : Fence.wide.fn 48 := trivial
  refine (callsIn_wide (n := 6)).1 ?_
  refine callsIn_of_wp Tryz.func26 rfl trivial ?_ rfl
  simp only [Tryz.ntmps26, List.size_toArray, List.length_cons, List.length_nil, Nat.reduceAdd, Nat.reduceSub, Array.replicate_succ, Array.replicate_zero, List.push_toArray, List.append_toArray, List.nil_append, List.cons_append]
  gi_wp2_with fail
  refine ⟨trivial, ?_⟩
  refine (KC.out).mono ?_
  rintro e w1 ⟨rfl, hb⟩
  clear KC
  have S1 := Lib.hid (S0.out.below hb (by omega))
  have B1 := Lib.hid (B0.out.trans (hb.mono (by omega)))
  clear hb S0 B0 hl0
  have s0 : w1.cell? ⟨w.heap.size, 0, none⟩ = some (.slice A ns.length ca) := Blk.cell S1.out 0
  have s1 : w1.cell? ⟨w.heap.size, 1, none⟩ = some (.slice B ps.length cb) := Blk.cell S1.out 1
  have s2 : w1.cell? ⟨w.heap.size, 2, none⟩ = some (.slice C os.length cc) := Blk.cell S1.out 2
  by_cases hv : v0 = 0
  case neg =>
    have HE : Hid (R = []) := Lib.hid (by rw [E.out, if_neg hv])
    have hvb : (v0 != 0) = true := by simpa using hv
    gi_wp2
    go_ret
    rw [HE.out]
    exact ⟨_, rfl, World.ownsRow_nil _ _ _ _, B1.out⟩
  subst hv
  have HE : Hid (R = sortK (emptyD ns key)) := Lib.hid (by rw [E.out, if_pos rfl])
  have K1 := Lib.hid (KE.out rfl w1 B1.out)
  clear E KE
  gi_wp2_with fail
  refine ⟨trivial, ?_⟩
  refine (K1.out).mono ?_
  rintro e w2 ⟨rfl, hown, hb⟩
  have HM := Lib.hid hown
  have B2 := Lib.hid (B1.out.trans (hb.mono B1.out.size))
  have hsz : Hid (Maps.size (emptyD ns key) ≤ 1000) := Lib.hid (Nat.le_trans hown.size_le hln.out)
  clear hb hown K1 s0 s1 s2
  generalize emptyD ns key = D at HM hsz HE
  generalize w1.heap.size + 1 = Mb at HM ⊢
  have KS := Lib.hid (sortedKeys_in Mb ns.length D _ w2 HM.out (by have := hsz.out; unfold maxLen; omega) (by have := hsz.out; omega))
  gi_wp2_with (first
    | (gi_at_call 49; refine (mapsKeys_in _ _).mono ?_; rintro e w' ⟨rfl, rfl⟩)
    | (gi_at_call 48; refine (KS.out).mono ?_; rintro e w' ⟨v, ss, rfl, hS, hrow, hnil, hb⟩))
  go_ret
  rw [HE.out]
  refine ⟨_, rfl, own_base (own_sorted hS hrow) (by have := B2.out.size; simp; omega), B2.out.trans (((Below.refl _ w2).alloc (Nat.le_refl _) _).trans (hb.mono (by simp)) |>.mono B2.out.size)⟩
end Go.Proofs.YtfnigiiocapceaaGreat
