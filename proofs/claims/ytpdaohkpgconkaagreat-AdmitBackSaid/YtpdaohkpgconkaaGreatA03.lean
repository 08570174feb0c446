/- The nodes for a pod; steps, one behind the other: the program's Ways, Run. Contracts. Condition: the cluster, the numbers, the steps lie in memory. The chapter's cluster of the layers from clause on: its nodes have 15, its pods ask for 10; its owner asks for so many pods. No conditions. What the plain functions tell of the chapter's cluster, as layer 10 asks: its clauses, what is worse. No conditions. The chapter's cluster, as layer 10's statements make it. No conditions. The chapter's examples of layer 8 hold. No conditions. Small words of the laws of clause: a cluster behind a step, how many clauses there are at most. No conditions but these. (LawKAll has its own copies: never import both.) Small words of the laws of safe and admit: two rows of the same numbers are the same. Condition: they lie in memory. -/
import Derived.Test.YtpdaohkpgconkaaGreatA02
import Derived.Deep.RegionHeld3

namespace Go.Proofs.YtpdaohkpgconkaaGreat
open Go.RowKit Go.Maps Go.Shelf

/-- The nodes for a pod, out of the first k. -/
def waysU (ns : List NodeD) (ps : List PodD) (os : List OwnD) (p : List Int) (pd : Int) : Nat → List Int
  | 0 => []
  | k + 1 => waysU ns ps os p pd k ++ (if mayB ns ps os p (2, pd, (k : Int)) then [(k : Int)] else [])
theorem waysU_len (ns : List NodeD) (ps : List PodD) (os : List OwnD) (p : List Int) (pd : Int) : ∀ k, (waysU ns ps os p pd k).length ≤ k
  | 0 => Nat.le_refl _
  | k + 1 => by
    have := waysU_len ns ps os p pd k
    rw [waysU, List.length_append]
    split <;> simp <;> omega
/-- Steps, one behind the other, from the k-th on. -/
def runF (ns : List NodeD) (ps : List PodD) (os : List OwnD) : List Int → List S3T → Nat → List Int × Nat × Int
  | p, [], k => (p, k, 0)
  | p, x :: t, k => if (stepF ns ps os p x).2.2 = 0 then runF ns ps os (stepF ns ps os p x).1 t (k + 1) else ([], k, (stepF ns ps os p x).2.2)
/-- What Run tells. -/
def runR (ns : List NodeD) (ps : List PodD) (os : List OwnD) (p : List Int) (l : List S3T) : List Int × Nat × Int := if placeE ns ps os p = 0 then runF ns ps os p l 0 else ([], 0, placeE ns ps os p)
theorem run_at {ns : List NodeD} {ps : List PodD} {os : List OwnD} {q : List Int} {l : List S3T} {k : Nat} {x : S3T} (hx : l[k]? = some x) : runF ns ps os q (l.drop k) k = if (stepF ns ps os q x).2.2 = 0 then runF ns ps os (stepF ns ps os q x).1 (l.drop (k + 1)) (k + 1) else ([], k, (stepF ns ps os q x).2.2) := by
  obtain ⟨h1, rfl⟩ := List.getElem?_eq_some_iff.1 hx
  rw [List.drop_eq_getElem_cons h1, runF]
theorem run_end {ns : List NodeD} {ps : List PodD} {os : List OwnD} {q : List Int} {l : List S3T} : runF ns ps os q (l.drop l.length) l.length = (q, l.length, 0) := by
  rw [List.drop_length, runF]
theorem step_fewS {ns : List NodeD} {ps : List PodD} {os : List OwnD} {p : List Int} {x : S3T} (hl : ps.length ≤ 1000) : (stepF ns ps os p x).1.length ≤ 1000 := by
  unfold stepF tryF
  dsimp only
  split
  · simp
  · split
    · simp
    · split
      · simp
      · rename_i h _ _ _
        have := placeE_len (apply_ok (by simpa using h)).2.1
        dsimp only
        omega
/-- What it is to answer a row, a count, a number. -/
abbrev RunNo (w : World) (R : List Int × Nat × Int) (e : Ending) (w' : World) : Prop := ∃ v, e = .returned (.tuple #[v, .int .i64 (R.2.1 : Int), .int .i64 R.2.2]) ∧ w'.ownsRow w.heap.size 3 1 v R.1.length (intsC R.1) ∧ Below w.heap.size w w'

set_option maxRecDepth 100000 in
set_option maxHeartbeats 4000000 in
theorem ways_anyA (A B C P : Option Addr) (ca cb cc cp : Nat) (ns : List NodeD) (ps : List PodD) (os : List OwnD) (p : List Int) (pd : Int) (w : World) (h : SnapAt w A B C ca cb cc ns ps os) (hp : IntsAt w P cp p) :
    Calls Tryz.prog 42 #[snapV A B C ca cb cc ns ps os, .slice P p.length cp, .int .i64 pd] w fun e w' => ∃ v, e = .returned v ∧ w'.ownsRow w.heap.size 3 1 v (waysU ns ps os p pd ns.length).length (intsC (waysU ns ps os p pd ns.length)) ∧ Below w.heap.size w w' := by
  have B0 : Hid (Below w.heap.size w (w.alloc (.cells (snapC A B C ca cb cc ns ps os) 26))) := Lib.hid (below1 w _)
  have S0 : Hid (Blk (w.alloc (.cells (snapC A B C ca cb cc ns ps os) 26)) w.heap.size (snapC A B C ca cb cc ns ps os) 26) := Lib.hid (Blk.new w _ _)
  have hln := h.ln
  have KM := Lib.hid (fun (W' : World) (hb : Below w.heap.size w W') (k : Nat) => may_anyA A B C P ca cb cc cp ns ps os p 2 pd (k : Int) W' (h.below hb) (hp.below hb))
  have HW : Hid (∀ k : Nat, waysU ns ps os p pd (k + 1) = waysU ns ps os p pd k ++ (if mayB ns ps os p (2, pd, (k : Int)) then [(k : Int)] else [])) := Lib.hid (fun k => rfl)
  have HL := Lib.hid (fun k => waysU_len ns ps os p pd k)
  have HZ : Hid (waysU ns ps os p pd 0 = []) := Lib.hid rfl
  obtain ⟨i0, hi0, hz0, hz1, hz2⟩ := info_parts Qu.int_info
  generalize waysU ns ps os p pd = U at HW HL HZ ⊢
  generalize mayB ns ps os p = M at KM HW
  clear h hp
  go_enter Tryz.func42, Tryz.ntmps42
  go_upto_region 1 with fail
  try change Code.wp _ _ _ _ (w.alloc (.cells (snapC A B C ca cb cc ns ps os) 26))
  generalize (w.alloc (.cells (snapC A B C ca cb cc ns ps os) 26)) = W at B0 S0 ⊢
  have HC := Lib.hid (fun W' (hb : Below W.heap.size W W') => (show W'.cell? ⟨w.heap.size, 0, none⟩ = some (.slice A ns.length ca) ∧ W'.cell? ⟨w.heap.size, 1, none⟩ = some (.slice B ps.length cb) ∧ W'.cell? ⟨w.heap.size, 2, none⟩ = some (.slice C os.length cc) from ⟨Blk.cell (S0.out.below hb S0.out.lt) 0, Blk.cell (S0.out.below hb S0.out.lt) 1, Blk.cell (S0.out.below hb S0.out.lt) 2⟩))
  obtain ⟨z0, z1, z2⟩ := HC.out _ (Below.refl _ W)
  go_wp2_with fail
  clear z0 z1 z2
  go_loopw [7, 12] (fun v i wr => ∃ k : Nat, k ≤ ns.length ∧ i = .int .i64 k ∧ wr.ownsRow W.heap.size 3 1 v (U k).length (intsC (U k)) ∧ Below W.heap.size W wr) (fun _ i _ => ns.length - (intOf i).toNat)
  case atStart => exact ⟨0, by omega, rfl, by rw [HZ.out]; exact World.ownsRow_nil _ _ _ _, Below.refl _ _⟩
  case round =>
    obtain ⟨k, hk, rfl, ho, hb⟩ := hrel
    have HO := Lib.hid ho
    have HB := Lib.hid hb
    clear ho hb
    obtain ⟨z0, z1, z2⟩ := HC.out _ HB.out
    by_cases hlt : k < ns.length
    case neg =>
      obtain rfl : k = ns.length := by omega
      go_wp2
      go_ret
      exact ⟨_, rfl, own_base HO.out B0.out.size, B0.out.trans (HB.out.mono B0.out.size)⟩
    have k0 : (0 : Int) ≤ (k : Int) := by omega
    have k1 : (k : Int) < (ns.length : Int) := by omega
    have hUk := HL.out k
    have HWk := Lib.hid (HW.out k)
    have KMk := Lib.hid (KM.out _ (B0.out.trans (HB.out.mono B0.out.size)) k)
    generalize U k = L at HO HWk hUk
    generalize hU' : U (k + 1) = L' at HWk
    have HU' := Lib.hid hU'
    clear hU'
    go_wp2_with fail
    refine (KMk.out).mono ?_
    rintro e w1 ⟨rfl, hb1⟩
    have HO1 := Lib.hid (La.own_below HO.out hb1)
    have HB1 := Lib.hid (HB.out.trans (hb1.mono HB.out.size))
    clear hb1 KMk HO HB z0 z1 z2
    cases hm : M (2, pd, (k : Int)) with
    | false =>
      have HE : Hid (L' = L) := Lib.hid (by rw [HWk.out, hm]; simp)
      clear HWk hm
      go_wp2_with fail
      go_roundw
      case rel => exact ⟨k + 1, by omega, by go_num, by rw [HU'.out, HE.out]; exact HO1.out, HB1.out⟩
      case measure => simp [intOf]; omega
    | true =>
      have HE : Hid (L' = L ++ [(k : Int)]) := Lib.hid (by rw [HWk.out, hm]; simp)
      clear HWk hm
      go_wp2_with (at_builtin; refine wpList_append_own _ rfl _ _ 44 rfl W.heap.size 3 i0 (.int .i64 0) 1 8 Tryz.underlying44 hi0 hz0 hz1 hz2 rfl (by decide) _ _ _ rfl (show World.ownsRow _ _ _ _ _ _ _ from HO1.out.alloc _) ⟨w1.heap.size, 0, none⟩ 1 1 [.int .i64 (k : Int)] rfl rfl ?c1 ?c2 ?c3 ?c4 ?c5 ?_)
      case c1 =>
        intro j u hj
        match j, hj with
        | 0, hj => simp at hj; subst hj; simp [Addr.add]
      case c2 => first | rfl | (intro u hu; simp at hu; subst hu; rfl)
      case c3 => unfold maxLen; omega
      case c4 => omega
      case c5 => have := HB1.out.size; simp; omega
      intro v4 w4 hown4 hgrow4 _
      have P4 := Lib.hid hown4
      have D4 := Lib.hid ((HB1.out.alloc HB1.out.size (.cells #[.int .i64 (k : Int)] 3)).grown hgrow4 (by have := HB1.out.size; simp; omega) (fun j hj => own_gem HO1.out hj))
      clear hown4 hgrow4
      go_wp2_with fail
      go_roundw
      case rel =>
        refine ⟨k + 1, by omega, by go_num, ?_, D4.out⟩
        rw [HU'.out, HE.out, List.length_append]
        have := P4.out
        simpa [intsC] using this
      case measure => simp [intOf]; omega


set_option maxRecDepth 100000 in
theorem cloneI_any (P : Option Addr) (cp : Nat) (p : List Int) (w : World) (hfew : p.length ≤ 1000) (hpp : ∀ a, P = some a → ∃ b o, a = ⟨b, o, none⟩) (hp : IntsAt w P cp p) :
    Calls Tryz.prog 67 #[.slice P p.length cp] w fun e w' => ∃ v, e = .returned v ∧ w'.ownsRow w.heap.size 3 1 v p.length (intsC p) ∧ Below w.heap.size w w' := by
  cases P with
  | none =>
    obtain rfl := noneI hp.cells
    refine (Tryz.slices_Clone_int_nil _ _ w).mono ?_
    rintro e w' ⟨rfl, rfl⟩
    exact ⟨_, rfl, World.ownsRow_nil _ _ _ _, Below.refl _ _⟩
  | some a =>
    obtain ⟨b, o, rfl⟩ := hpp a rfl
    refine (Tryz.slices_Clone_int b o p.length cp p w (Nat.le_refl _) (by omega) (fun j hj => by
      obtain ⟨b', o', hA', _, hc⟩ := atI hp.cells (k := j) (x := p[j]) (List.getElem?_eq_getElem hj)
      cases hA'
      rw [hc]
      congr 2
      rw [List.getD_eq_getElem?_getD, List.getElem?_eq_getElem hj]
      rfl)).mono ?_
    rintro e w' ⟨v, rfl, ho, _, hb⟩
    rw [List.take_length] at ho
    exact ⟨v, rfl, ho, hb⟩

set_option maxRecDepth 100000 in
set_option maxHeartbeats 8000000 in
theorem run_anyA (A B C P L : Option Addr) (ca cb cc cp cl : Nat) (ns : List NodeD) (ps : List PodD) (os : List OwnD) (p : List Int) (l : List S3T) (hll : l.length ≤ 1000) (w : World) (h : SnapAt w A B C ca cb cc ns ps os) (hpp : ∀ a, P = some a → ∃ b o, a = ⟨b, o, none⟩) (hp : IntsAt w P cp p) (hL : La.SlAt w L (cells3 l)) :
    Calls Tryz.prog 40 #[snapV A B C ca cb cc ns ps os, .slice P p.length cp, .slice L l.length cl] w fun e w' => RunNo w (runR ns ps os p l) e w' := by
  have B0 : Hid (Below w.heap.size w (w.alloc (.cells (snapC A B C ca cb cc ns ps os) 26))) := Lib.hid (below1 w _)
  have S0 : Hid (Blk (w.alloc (.cells (snapC A B C ca cb cc ns ps os) 26)) w.heap.size (snapC A B C ca cb cc ns ps os) 26) := Lib.hid (Blk.new w _ _)
  have hlp := h.lp
  have KC := Lib.hid (pcheck_any A B C P ca cb cc cp ns ps os p _ (h.below B0.out) (hp.below B0.out))
  have KS := Lib.hid (fun (W' : World) (hb : Below w.heap.size w W') (Q : Option Addr) (cq : Nat) (q : List Int) (hq : IntsAt W' Q cq q) (x : S3T) => step_any A B C Q ca cb cc cq ns ps os q x.1 x.2.1 x.2.2 W' (h.below hb) hq)
  have HLs := Lib.hid (fun (W' : World) (hb : Below w.heap.size w W') => La.SlAt.below hL hb)
  have HPs := Lib.hid (fun (W' : World) (hb : Below w.heap.size w W') => hp.below hb)
  have HR : Hid (runR ns ps os p l = if placeE ns ps os p = 0 then runF ns ps os p l 0 else ([], 0, placeE ns ps os p)) := Lib.hid rfl
  have HAT : Hid (∀ (q : List Int) (k : Nat) (x : S3T), l[k]? = some x → runF ns ps os q (l.drop k) k = if (stepF ns ps os q x).2.2 = 0 then runF ns ps os (stepF ns ps os q x).1 (l.drop (k + 1)) (k + 1) else ([], k, (stepF ns ps os q x).2.2)) := Lib.hid (fun q k x hx => run_at hx)
  have HEN : Hid (∀ q : List Int, runF ns ps os q (l.drop l.length) l.length = (q, l.length, 0)) := Lib.hid (fun q => run_end)
  have HPL : Hid (placeE ns ps os p = 0 → p.length ≤ 1000) := Lib.hid (fun h => by have := placeE_len h; omega)
  have HSF : Hid (∀ (q : List Int) (x : S3T), (stepF ns ps os q x).1.length ≤ 1000) := Lib.hid (fun q x => step_fewS hlp)
  obtain ⟨i0, hi0, hz0, hz1, hz2⟩ := info_parts Qu.int_info
  generalize runR ns ps os p l = R at HR ⊢
  generalize placeE ns ps os p = E at KC HR HPL
  have HST : Hid (∀ (W' : World) (hb : Below w.heap.size w W') (Q : Option Addr) (cq : Nat) (q : List Int) (hq : IntsAt W' Q cq q) (x : S3T), Calls Tryz.prog 35 #[snapV A B C ca cb cc ns ps os, .slice Q q.length cq, stepV x.1 x.2.1 x.2.2] W' fun e w' => StepNo W' (stepF ns ps os q x).1 (stepF ns ps os q x).2.1 (stepF ns ps os q x).2.2 e w') := Lib.hid (fun W' hb Q cq q hq x => KS.out W' hb Q cq q hq x)
  clear KS
  generalize stepF ns ps os = SF at HST HAT HSF
  generalize runF ns ps os = RF at HR HAT HEN
  clear h hp hL
  go_enter Tryz.func40, Tryz.ntmps40
  go_upto_region 1 with fail
  try change Code.wp _ _ _ _ (w.alloc (.cells (snapC A B C ca cb cc ns ps os) 26))
  generalize (w.alloc (.cells (snapC A B C ca cb cc ns ps os) 26)) = W at B0 S0 KC ⊢
  have HC := Lib.hid (fun W' (hb : Below W.heap.size W W') => (show W'.cell? ⟨w.heap.size, 0, none⟩ = some (.slice A ns.length ca) ∧ W'.cell? ⟨w.heap.size, 1, none⟩ = some (.slice B ps.length cb) ∧ W'.cell? ⟨w.heap.size, 2, none⟩ = some (.slice C os.length cc) from ⟨Blk.cell (S0.out.below hb S0.out.lt) 0, Blk.cell (S0.out.below hb S0.out.lt) 1, Blk.cell (S0.out.below hb S0.out.lt) 2⟩))
  obtain ⟨z0, z1, z2⟩ := HC.out _ (Below.refl _ W)
  go_wp2_with fail
  refine (KC.out).mono ?_
  rintro e w1 ⟨rfl, hb⟩
  have HB := Lib.hid (show Below W.heap.size W w1 from hb)
  clear hb KC z0 z1 z2
  by_cases hE : E = 0
  case neg =>
    have hne : (E != 0) = true := by simpa using hE
    have hR := HR.out
    rw [if_neg hE] at hR
    clear hE HR
    have D := Lib.hid (B0.out.trans (HB.out.mono B0.out.size))
    go_wp2
    go_ret3
    subst hR
    exact ⟨_, rfl, World.ownsRow_nil _ _ _ _, D.out⟩
  have hpl := HPL.out hE
  have HRu := HR.out
  rw [if_pos hE] at HRu
  subst hE
  have HRn := Lib.hid HRu
  clear HRu HR HPL
  have KCl := Lib.hid (cloneI_any P cp p w1 hpl hpp (HPs.out _ (B0.out.trans (HB.out.mono B0.out.size))))
  go_wp2_with fail
  refine (KCl.out).mono ?_
  rintro e V ⟨v, rfl, ho, hb⟩
  have HBV := Lib.hid (HB.out.trans (hb.mono HB.out.size))
  obtain ⟨Qv, cqv, rfl, _⟩ := La.own_slice ho
  have OV := Lib.hid (own_base ho (B0.out.trans (HB.out.mono B0.out.size)).size)
  clear ho hb KCl HB
  have HV := Lib.hid (fun (W' : World) (hb : Below V.heap.size V W') => HBV.out.trans (hb.mono HBV.out.size))
  go_wp2_with fail
  go_loopw [6, 22] (fun v i wr => ∃ (k : Nat) (q : List Int) (Q : Option Addr) (cq : Nat), k ≤ l.length ∧ i = .int .i64 k ∧ v = .slice Q q.length cq ∧ wr.ownsRow w.heap.size 3 1 (.slice Q q.length cq) q.length (intsC q) ∧ RF p l 0 = RF q (l.drop k) k ∧ Below W.heap.size W wr) (fun _ i _ => l.length - (intOf i).toNat)
  case atStart => exact ⟨0, p, _, _, by omega, rfl, rfl, OV.out, by rw [List.drop_zero], HBV.out⟩
  case round =>
    obtain ⟨k, q, Q, cq, hk, rfl, rfl, ho, hr, hb⟩ := hrel
    have HO := Lib.hid ho
    have HRr := Lib.hid hr
    have HB := Lib.hid hb
    clear ho hr hb
    obtain ⟨z0, z1, z2⟩ := HC.out _ HB.out
    by_cases hlt : k < l.length
    case neg =>
      obtain rfl : k = l.length := by omega
      have hR : R = (q, l.length, 0) := by rw [HRn.out, HRr.out, HEN.out]
      have D := Lib.hid (B0.out.trans (HB.out.mono B0.out.size))
      clear HRn HRr
      go_wp2
      go_ret3
      subst hR
      exact ⟨_, rfl, HO.out, D.out⟩
    obtain ⟨x, hx⟩ : ∃ x, l[k]? = some x := ⟨l[k], List.getElem?_eq_getElem hlt⟩
    have HBw := Lib.hid (B0.out.trans (HB.out.mono B0.out.size))
    obtain ⟨g, o, hG, hbl, c0, c1, c2⟩ := atSt (HLs.out _ HBw.out) hx
    subst hG
    have k0 : (0 : Int) ≤ (k : Int) := by omega
    have k1 : (k : Int) < (l.length : Int) := by omega
    have HA := Lib.hid (HAT.out q k x hx)
    have HXs := Lib.hid (fun (W' : World) (hb : Below w.heap.size w W') => (by
      obtain ⟨g', o', hG', _, d0, d1, d2⟩ := atSt (HLs.out _ hb) hx
      cases hG'
      exact ⟨d0, d1, d2⟩ : W'.cell? ⟨g, o + k * 3, none⟩ = some (.int .i64 x.1) ∧ W'.cell? ⟨g, o + k * 3 + 1, none⟩ = some (.int .i64 x.2.1) ∧ W'.cell? ⟨g, o + k * 3 + 2, none⟩ = some (.int .i64 x.2.2)))
    have hsf := HSF.out q x
    clear hx
    go_upto_region 8 with fail
    have T8 : Hid (Blk (wr.alloc (.cells #[.int .i64 x.1, .int .i64 x.2.1, .int .i64 x.2.2] 70)) wr.heap.size #[.int .i64 x.1, .int .i64 x.2.1, .int .i64 x.2.2] 70) := Lib.hid (Blk.new wr _ _)
    have R8 : Hid (Below wr.heap.size wr (wr.alloc (.cells #[.int .i64 x.1, .int .i64 x.2.1, .int .i64 x.2.2] 70))) := Lib.hid (below1 wr _)
    try change Code.wp _ _ _ _ (wr.alloc (.cells #[.int .i64 x.1, .int .i64 x.2.1, .int .i64 x.2.2] 70))
    generalize (wr.alloc (.cells #[.int .i64 x.1, .int .i64 x.2.1, .int .i64 x.2.2] 70)) = W8 at T8 R8 ⊢
    have HB8 := Lib.hid (HB.out.trans (R8.out.mono HB.out.size))
    have HO8 := Lib.hid (La.own_below HO.out R8.out)
    clear c0 c1 c2 z0 z1 z2
    have c0 : W8.cell? ⟨wr.heap.size, 0, none⟩ = some (.int .i64 x.1) := Blk.cell T8.out 0
    have c1 : W8.cell? ⟨wr.heap.size, 1, none⟩ = some (.int .i64 x.2.1) := Blk.cell T8.out 1
    have c2 : W8.cell? ⟨wr.heap.size, 2, none⟩ = some (.int .i64 x.2.2) := Blk.cell T8.out 2
    obtain ⟨z0, z1, z2⟩ := HC.out _ HB8.out
    have KS1 := Lib.hid (HST.out W8 (B0.out.trans (HB8.out.mono B0.out.size)) Q cq q (IntsAt.own HO8.out) x)
    generalize SF q x = T at KS1 HA hsf
    obtain ⟨q', c', e'⟩ := T
    dsimp only at KS1 HA hsf
    go_wp2_with fail
    refine (KS1.out).mono ?_
    rintro e w5 ⟨v5, rfl, ho5, hb5⟩
    obtain ⟨Q5, cq5, rfl, _⟩ := La.own_slice ho5
    have HB5 := Lib.hid (HB8.out.trans (hb5.mono HB8.out.size))
    have HO5 := Lib.hid (own_base ho5 (B0.out.trans (HB8.out.mono B0.out.size)).size)
    clear ho5 hb5 KS1 c0 c1 c2 z0 z1 z2
    by_cases hx0 : e' = 0
    case neg =>
      have hne : (e' != 0) = true := by simpa using hx0
      have hR : R = ([], k, e') := by rw [HRn.out, HRr.out, HA.out, if_neg hx0]
      have D := Lib.hid (B0.out.trans (HB5.out.mono B0.out.size))
      clear HRn HRr HA hx0
      go_wp2
      go_ret3
      subst hR
      exact ⟨_, rfl, World.ownsRow_nil _ _ _ _, D.out⟩
    have HA2 := HA.out
    rw [if_pos hx0] at HA2
    have HA3 := Lib.hid HA2
    subst hx0
    clear HA HA2
    go_wp2_with fail
    go_roundw
    case rel => exact ⟨k + 1, q', _, _, by omega, by go_num, rfl, HO5.out, by rw [HRr.out, HA3.out], HB5.out⟩
    case measure => simp [intOf]; omega

end Go.Proofs.YtpdaohkpgconkaaGreat

namespace Go.Proofs.YtpdaohkpgconkaaGreat
open Go.RowKit

def cap15 : Nat → Int := fun k => if k = 0 then 15 else 0
/-- The chapter's cluster: a name and a mark of its second node are letters. -/
def chN8 (N : Nat) (nm : List UInt8) (lost : Bool) : List NodeD := [
  { name := [97], cap := cap15, labels := [(bZone, [120])], taints := [], cordon := false, lost := false, al := some ⟨N + 2, 0, none⟩, cl := 1, at_ := none, ct := 0 },
  { name := nm, cap := cap15, labels := [(bZone, [121])], taints := [], cordon := false, lost := lost, al := some ⟨N + 3, 0, none⟩, cl := 1, at_ := none, ct := 0 },
  { name := [99], cap := cap15, labels := [], taints := [], cordon := false, lost := false, al := none, cl := 0, at_ := none, ct := 0 }]
def chO8 (mn : Int) : List OwnD := [{ name := [111], min := mn, topo := bZone, skew := 1, single := false }]
/-- The chapter's cluster lies in memory, from block N on; its pods in a row of their own. -/
structure ChapAt8 (mn : Int) (w : World) (N : Nat) (v : Value) (k : Nat) (nm : List UInt8) (lost : Bool) : Prop where
  l1 : Blk w (N + 2) #[strV bZone, strV [120]] 29
  l2 : Blk w (N + 3) #[strV bZone, strV [121]] 29
  n : Blk w (N + 4) (cellsN (chN8 N nm lost)).toArray 34
  o : Blk w (N + 5) (cellsO (chO8 mn)).toArray 36
  p : w.ownsRow N 43 15 v k (cellsP (chP.take k))
theorem ChapAt8.kept {mn : Int} {w w' : World} {N k : Nat} {v : Value} {nm : List UInt8} {lost : Bool} (h : ChapAt8 mn w N v k nm lost) (hb : Below w.heap.size w w') : ChapAt8 mn w' N v k nm lost :=
  ⟨h.l1.below hb h.l1.lt, h.l2.below hb h.l2.lt, h.n.below hb h.n.lt, h.o.below hb h.o.lt, by
    refine h.p.kept (grown_of_below hb none) ?_
    rcases h.p.2 with ⟨rfl, _⟩ | ⟨g, cap, cur, rfl, _⟩
    · exact .inl rfl
    · exact .inr (by simp [Value.ownBlock])⟩

theorem ChapAt8.set {mn : Int} {w : World} {N k : Nat} {v : Value} {nm : List UInt8} {lost : Bool} (h : ChapAt8 mn w N v k nm lost) {b : Nat} {cs : Array Value} {t : TypeId} (hb : Blk w b cs t) (h1 : b ≠ N + 2 ∧ b ≠ N + 3 ∧ b ≠ N + 4 ∧ b ≠ N + 5) (ht : t ≠ 43) (i : Nat) (u : Value) : ChapAt8 mn (w.setCell ⟨b, i, none⟩ u) N v k nm lost :=
  ⟨h.l1.oth (Ne.symm h1.1) i u, h.l2.oth (Ne.symm h1.2.1) i u, h.n.oth (Ne.symm h1.2.2.1) i u, h.o.oth (Ne.symm h1.2.2.2) i u, ch_set h.p hb ht i u⟩
theorem ChapAt8.step {mn : Int} {w W w' : World} {N k k' : Nat} {v v' : Value} {nm : List UInt8} {lost : Bool} (h : ChapAt8 mn w N v k nm lost) (hW : Below w.heap.size w W) {n : Nat} {xs : List Value} (ho : W.ownsRow N 43 15 v n xs) (hg : W.grownBy w' v.ownBlock) (hn : w'.ownsRow N 43 15 v' k' (cellsP (chP.take k'))) : ChapAt8 mn w' N v' k' nm lost :=
  ⟨ch_other ho hg (h.l1.below hW h.l1.lt) (by decide), ch_other ho hg (h.l2.below hW h.l2.lt) (by decide), ch_other ho hg (h.n.below hW h.n.lt) (by decide), ch_other ho hg (h.o.below hW h.o.lt) (by decide), hn⟩

/-- The chapter's cluster as a cluster. -/
theorem ChapAt8.snap {mn : Int} {w : World} {N : Nat} {B : Option Addr} {cb : Nat} {nm : List UInt8} {lost : Bool} (h : ChapAt8 mn w N (.slice B 3 cb) 3 nm lost) (hnm : nm.length ≤ 1000) : SnapAt w (some ⟨N + 4, 0, none⟩) B (some ⟨N + 5, 0, none⟩) 3 cb 1 (chN8 N nm lost) chP (chO8 mn) := by
  have lab : ∀ (b : Nat) (v : UInt8), Blk w b #[strV bZone, strV [v]] 29 → ListL w (some ⟨b, 0, none⟩) 1 [(bZone, [v])] := fun b v hb => by
    refine ⟨by simp, by omega, fun j y hj => ⟨b, 0, rfl, ?_⟩, fun x hx => ?_⟩
    · rw [Nat.zero_add, Blk.cell hb j, ← hj, ← List.getElem?_toArray]
      rfl
    · simp only [List.mem_singleton] at hx
      subst hx
      exact ⟨by simp, by simp⟩
  have nolab : ListL w none 0 [] := ⟨by simp, by omega, fun j y hj => by simp [La.cellsL] at hj, fun x hx => by cases hx⟩
  have noter : ListT w none 0 [] := ⟨by simp, by omega, fun j y hj => by simp [La.cellsT] at hj, fun x hx => by cases hx⟩
  have hcap : 3 ≤ cb ∧ cb ≤ maxLen := by
    rcases h.p.2 with ⟨e, _⟩ | ⟨g, cap, cur, e, _, _, h1, h2, _⟩
    · cases e
    · cases e
      exact ⟨h1, h2⟩
  have hpod : ∀ c, (chPod c).fit w := fun c => ⟨nolab, noter, nolab, noter, noter, by simp [chPod]⟩
  constructor
  · constructor
    · intro j y hj
      refine ⟨N + 4, 0, rfl, ?_⟩
      rw [Nat.zero_add, Blk.cell h.n j, ← hj, ← List.getElem?_toArray]
    · intro x hx
      simp only [chN8, List.mem_cons, List.not_mem_nil, or_false] at hx
      rcases hx with rfl | rfl | rfl
      · exact ⟨lab _ _ h.l1, nolab, by simp⟩
      · exact ⟨lab _ _ h.l2, nolab, by show nm.length ≤ _; omega⟩
      · exact ⟨nolab, nolab, by simp⟩
  · constructor
    · exact La.own_slat h.p
    · intro x hx
      simp only [chP, List.mem_cons, List.not_mem_nil, or_false] at hx
      rcases hx with rfl | rfl | rfl <;> exact hpod _
  · intro j y hj
    refine ⟨N + 5, 0, rfl, ?_⟩
    rw [Nat.zero_add, Blk.cell h.o j, ← hj, ← List.getElem?_toArray]
  · intro x hx
    simp only [chO8, List.mem_singleton] at hx
    subst hx
    exact ⟨by simp, by simp⟩
  · simp [chN8]
  · simp [chP]
  · simp [chO8]
  · exact ⟨by simp [chN8], by omega⟩
  · refine ⟨by simp [chP]; omega, ?_⟩
    have := hcap.2
    unfold maxLen at this
    omega
  · exact ⟨by simp [chO8], by omega⟩
end Go.Proofs.YtpdaohkpgconkaaGreat

namespace Go.Proofs.YtpdaohkpgconkaaGreat
open Go.RowKit Go.Maps Go.Sort

theorem e1001w_place (N : Nat) : placeE (chN8 N [98] false) chP (chO8 1) [0, 1, -1] = 0 := by kernel_rfl
theorem e1001w_spread (N : Nat) : spreadF (chN8 N [98] false) chP (chO8 1) [0, 1, -1] 0 = [1, 1] := by
  have h1 : ownerB (chN8 N [98] false) chP (chO8 1) [0, 1, -1] 0 = true := by kernel_rfl
  have h2 : strKeys (spreadD (chN8 N [98] false) bZone [0, 1, -1] (offL [0, 1, -1] (membersF chP [111]))) = [[120], [121]] := by kernel_rfl
  unfold spreadF
  rw [if_pos h1]
  show rowD (spreadD (chN8 N [98] false) bZone [0, 1, -1] (offL [0, 1, -1] (membersF chP [111]))) = [1, 1]
  unfold rowD sortK
  rw [h2, sort2]
  kernel_rfl
theorem e1001w_all (N : Nat) : all8 (chN8 N [98] false) chP (chO8 1) [0, 1, -1] = [(1, 0, 0, 0), (1, 0, 1, 0), (1, 0, 2, 0), (1, 0, 3, 0), (1, 0, 4, 0), (1, 1, 0, 0), (1, 1, 1, 0), (1, 1, 2, 0), (1, 1, 3, 0), (1, 1, 4, 0), (1, 2, 0, 0), (1, 2, 1, 0), (1, 2, 2, 0), (1, 2, 3, 0), (1, 2, 4, 0), (2, 0, 0, 0), (2, 1, 0, 0), (3, 0, 0, 0), (3, 1, 0, 0), (7, 0, 0, 0), (8, 0, 0, 0)] := by
  have h1 : capsU (chN8 N [98] false) chP [0, 1, -1] 3 = [(1, 0, 0, 0), (1, 0, 1, 0), (1, 0, 2, 0), (1, 0, 3, 0), (1, 0, 4, 0), (1, 1, 0, 0), (1, 1, 1, 0), (1, 1, 2, 0), (1, 1, 3, 0), (1, 1, 4, 0), (1, 2, 0, 0), (1, 2, 1, 0), (1, 2, 2, 0), (1, 2, 3, 0), (1, 2, 4, 0)] := by kernel_rfl
  have h2 : kindsU (chN8 N [98] false) chP (chO8 1) [0, 1, -1] 5 = [(2, 0, 0, 0), (2, 1, 0, 0), (3, 0, 0, 0), (3, 1, 0, 0)] := by kernel_rfl
  have h3 : spreadsU (chN8 N [98] false) chP (chO8 1) [0, 1, -1] 1 = [(7, 0, 0, skewO (spreadF (chN8 N [98] false) chP (chO8 1) [0, 1, -1] 0) 1)] := rfl
  have h4 : minsU (chN8 N [98] false) chP (chO8 1) [0, 1, -1] 1 = [(8, 0, 0, 0)] := by kernel_rfl
  unfold all8
  rw [if_pos (e1001w_place N)]
  unfold allU
  rw [show (chN8 N [98] false).length = 3 from rfl, show (chO8 1).length = 1 from rfl, h1, h2, h3, h4, e1001w_spread, show skewO [1, 1] 1 = 0 by kernel_rfl]
  rfl
theorem e10010_place (N : Nat) : placeE (chN8 N [98] false) chP (chO8 1) [0, 1, 0] = 0 := by kernel_rfl
theorem e10010_spread (N : Nat) : spreadF (chN8 N [98] false) chP (chO8 1) [0, 1, 0] 0 = [2, 1] := by
  have h1 : ownerB (chN8 N [98] false) chP (chO8 1) [0, 1, 0] 0 = true := by kernel_rfl
  have h2 : strKeys (spreadD (chN8 N [98] false) bZone [0, 1, 0] (offL [0, 1, 0] (membersF chP [111]))) = [[120], [121]] := by kernel_rfl
  unfold spreadF
  rw [if_pos h1]
  show rowD (spreadD (chN8 N [98] false) bZone [0, 1, 0] (offL [0, 1, 0] (membersF chP [111]))) = [2, 1]
  unfold rowD sortK
  rw [h2, sort2]
  kernel_rfl
theorem e10010_all (N : Nat) : all8 (chN8 N [98] false) chP (chO8 1) [0, 1, 0] = [(1, 0, 0, 5), (1, 0, 1, 0), (1, 0, 2, 0), (1, 0, 3, 0), (1, 0, 4, 0), (1, 1, 0, 0), (1, 1, 1, 0), (1, 1, 2, 0), (1, 1, 3, 0), (1, 1, 4, 0), (1, 2, 0, 0), (1, 2, 1, 0), (1, 2, 2, 0), (1, 2, 3, 0), (1, 2, 4, 0), (2, 0, 0, 0), (2, 1, 0, 0), (2, 2, 0, 0), (3, 0, 0, 0), (3, 1, 0, 0), (3, 2, 0, 0), (7, 0, 0, 0), (8, 0, 0, 0)] := by
  have h1 : capsU (chN8 N [98] false) chP [0, 1, 0] 3 = [(1, 0, 0, 5), (1, 0, 1, 0), (1, 0, 2, 0), (1, 0, 3, 0), (1, 0, 4, 0), (1, 1, 0, 0), (1, 1, 1, 0), (1, 1, 2, 0), (1, 1, 3, 0), (1, 1, 4, 0), (1, 2, 0, 0), (1, 2, 1, 0), (1, 2, 2, 0), (1, 2, 3, 0), (1, 2, 4, 0)] := by kernel_rfl
  have h2 : kindsU (chN8 N [98] false) chP (chO8 1) [0, 1, 0] 5 = [(2, 0, 0, 0), (2, 1, 0, 0), (2, 2, 0, 0), (3, 0, 0, 0), (3, 1, 0, 0), (3, 2, 0, 0)] := by kernel_rfl
  have h3 : spreadsU (chN8 N [98] false) chP (chO8 1) [0, 1, 0] 1 = [(7, 0, 0, skewO (spreadF (chN8 N [98] false) chP (chO8 1) [0, 1, 0] 0) 1)] := rfl
  have h4 : minsU (chN8 N [98] false) chP (chO8 1) [0, 1, 0] 1 = [(8, 0, 0, 0)] := by kernel_rfl
  unfold all8
  rw [if_pos (e10010_place N)]
  unfold allU
  rw [show (chN8 N [98] false).length = 3 from rfl, show (chO8 1).length = 1 from rfl, h1, h2, h3, h4, e10010_spread, show skewO [2, 1] 1 = 0 by kernel_rfl]
  rfl
theorem e10011_place (N : Nat) : placeE (chN8 N [98] false) chP (chO8 1) [0, 1, 1] = 0 := by kernel_rfl
theorem e10011_spread (N : Nat) : spreadF (chN8 N [98] false) chP (chO8 1) [0, 1, 1] 0 = [1, 2] := by
  have h1 : ownerB (chN8 N [98] false) chP (chO8 1) [0, 1, 1] 0 = true := by kernel_rfl
  have h2 : strKeys (spreadD (chN8 N [98] false) bZone [0, 1, 1] (offL [0, 1, 1] (membersF chP [111]))) = [[120], [121]] := by kernel_rfl
  unfold spreadF
  rw [if_pos h1]
  show rowD (spreadD (chN8 N [98] false) bZone [0, 1, 1] (offL [0, 1, 1] (membersF chP [111]))) = [1, 2]
  unfold rowD sortK
  rw [h2, sort2]
  kernel_rfl
theorem e10011_all (N : Nat) : all8 (chN8 N [98] false) chP (chO8 1) [0, 1, 1] = [(1, 0, 0, 0), (1, 0, 1, 0), (1, 0, 2, 0), (1, 0, 3, 0), (1, 0, 4, 0), (1, 1, 0, 5), (1, 1, 1, 0), (1, 1, 2, 0), (1, 1, 3, 0), (1, 1, 4, 0), (1, 2, 0, 0), (1, 2, 1, 0), (1, 2, 2, 0), (1, 2, 3, 0), (1, 2, 4, 0), (2, 0, 0, 0), (2, 1, 0, 0), (2, 2, 0, 0), (3, 0, 0, 0), (3, 1, 0, 0), (3, 2, 0, 0), (7, 0, 0, 0), (8, 0, 0, 0)] := by
  have h1 : capsU (chN8 N [98] false) chP [0, 1, 1] 3 = [(1, 0, 0, 0), (1, 0, 1, 0), (1, 0, 2, 0), (1, 0, 3, 0), (1, 0, 4, 0), (1, 1, 0, 5), (1, 1, 1, 0), (1, 1, 2, 0), (1, 1, 3, 0), (1, 1, 4, 0), (1, 2, 0, 0), (1, 2, 1, 0), (1, 2, 2, 0), (1, 2, 3, 0), (1, 2, 4, 0)] := by kernel_rfl
  have h2 : kindsU (chN8 N [98] false) chP (chO8 1) [0, 1, 1] 5 = [(2, 0, 0, 0), (2, 1, 0, 0), (2, 2, 0, 0), (3, 0, 0, 0), (3, 1, 0, 0), (3, 2, 0, 0)] := by kernel_rfl
  have h3 : spreadsU (chN8 N [98] false) chP (chO8 1) [0, 1, 1] 1 = [(7, 0, 0, skewO (spreadF (chN8 N [98] false) chP (chO8 1) [0, 1, 1] 0) 1)] := rfl
  have h4 : minsU (chN8 N [98] false) chP (chO8 1) [0, 1, 1] 1 = [(8, 0, 0, 0)] := by kernel_rfl
  unfold all8
  rw [if_pos (e10011_place N)]
  unfold allU
  rw [show (chN8 N [98] false).length = 3 from rfl, show (chO8 1).length = 1 from rfl, h1, h2, h3, h4, e10011_spread, show skewO [1, 2] 1 = 0 by kernel_rfl]
  rfl
theorem e10012_place (N : Nat) : placeE (chN8 N [98] false) chP (chO8 1) [0, 1, 2] = 0 := by kernel_rfl
theorem e10012_spread (N : Nat) : spreadF (chN8 N [98] false) chP (chO8 1) [0, 1, 2] 0 = [1, 1] := by
  have h1 : ownerB (chN8 N [98] false) chP (chO8 1) [0, 1, 2] 0 = true := by kernel_rfl
  have h2 : strKeys (spreadD (chN8 N [98] false) bZone [0, 1, 2] (offL [0, 1, 2] (membersF chP [111]))) = [[120], [121]] := by kernel_rfl
  unfold spreadF
  rw [if_pos h1]
  show rowD (spreadD (chN8 N [98] false) bZone [0, 1, 2] (offL [0, 1, 2] (membersF chP [111]))) = [1, 1]
  unfold rowD sortK
  rw [h2, sort2]
  kernel_rfl
theorem e10012_all (N : Nat) : all8 (chN8 N [98] false) chP (chO8 1) [0, 1, 2] = [(1, 0, 0, 0), (1, 0, 1, 0), (1, 0, 2, 0), (1, 0, 3, 0), (1, 0, 4, 0), (1, 1, 0, 0), (1, 1, 1, 0), (1, 1, 2, 0), (1, 1, 3, 0), (1, 1, 4, 0), (1, 2, 0, 0), (1, 2, 1, 0), (1, 2, 2, 0), (1, 2, 3, 0), (1, 2, 4, 0), (2, 0, 0, 0), (2, 1, 0, 0), (2, 2, 0, 0), (3, 0, 0, 0), (3, 1, 0, 0), (3, 2, 0, 0), (7, 0, 0, 0), (8, 0, 0, 0)] := by
  have h1 : capsU (chN8 N [98] false) chP [0, 1, 2] 3 = [(1, 0, 0, 0), (1, 0, 1, 0), (1, 0, 2, 0), (1, 0, 3, 0), (1, 0, 4, 0), (1, 1, 0, 0), (1, 1, 1, 0), (1, 1, 2, 0), (1, 1, 3, 0), (1, 1, 4, 0), (1, 2, 0, 0), (1, 2, 1, 0), (1, 2, 2, 0), (1, 2, 3, 0), (1, 2, 4, 0)] := by kernel_rfl
  have h2 : kindsU (chN8 N [98] false) chP (chO8 1) [0, 1, 2] 5 = [(2, 0, 0, 0), (2, 1, 0, 0), (2, 2, 0, 0), (3, 0, 0, 0), (3, 1, 0, 0), (3, 2, 0, 0)] := by kernel_rfl
  have h3 : spreadsU (chN8 N [98] false) chP (chO8 1) [0, 1, 2] 1 = [(7, 0, 0, skewO (spreadF (chN8 N [98] false) chP (chO8 1) [0, 1, 2] 0) 1)] := rfl
  have h4 : minsU (chN8 N [98] false) chP (chO8 1) [0, 1, 2] 1 = [(8, 0, 0, 0)] := by kernel_rfl
  unfold all8
  rw [if_pos (e10012_place N)]
  unfold allU
  rw [show (chN8 N [98] false).length = 3 from rfl, show (chO8 1).length = 1 from rfl, h1, h2, h3, h4, e10012_spread, show skewO [1, 1] 1 = 0 by kernel_rfl]
  rfl
theorem e10w1w_place (N : Nat) : placeE (chN8 N [98] false) chP (chO8 1) [-1, 1, -1] = 0 := by kernel_rfl
theorem e10w1w_spread (N : Nat) : spreadF (chN8 N [98] false) chP (chO8 1) [-1, 1, -1] 0 = [0, 1] := by
  have h1 : ownerB (chN8 N [98] false) chP (chO8 1) [-1, 1, -1] 0 = true := by kernel_rfl
  have h2 : strKeys (spreadD (chN8 N [98] false) bZone [-1, 1, -1] (offL [-1, 1, -1] (membersF chP [111]))) = [[120], [121]] := by kernel_rfl
  unfold spreadF
  rw [if_pos h1]
  show rowD (spreadD (chN8 N [98] false) bZone [-1, 1, -1] (offL [-1, 1, -1] (membersF chP [111]))) = [0, 1]
  unfold rowD sortK
  rw [h2, sort2]
  kernel_rfl
theorem e10w1w_all (N : Nat) : all8 (chN8 N [98] false) chP (chO8 1) [-1, 1, -1] = [(1, 0, 0, 0), (1, 0, 1, 0), (1, 0, 2, 0), (1, 0, 3, 0), (1, 0, 4, 0), (1, 1, 0, 0), (1, 1, 1, 0), (1, 1, 2, 0), (1, 1, 3, 0), (1, 1, 4, 0), (1, 2, 0, 0), (1, 2, 1, 0), (1, 2, 2, 0), (1, 2, 3, 0), (1, 2, 4, 0), (2, 1, 0, 0), (3, 1, 0, 0), (7, 0, 0, 0), (8, 0, 0, 0)] := by
  have h1 : capsU (chN8 N [98] false) chP [-1, 1, -1] 3 = [(1, 0, 0, 0), (1, 0, 1, 0), (1, 0, 2, 0), (1, 0, 3, 0), (1, 0, 4, 0), (1, 1, 0, 0), (1, 1, 1, 0), (1, 1, 2, 0), (1, 1, 3, 0), (1, 1, 4, 0), (1, 2, 0, 0), (1, 2, 1, 0), (1, 2, 2, 0), (1, 2, 3, 0), (1, 2, 4, 0)] := by kernel_rfl
  have h2 : kindsU (chN8 N [98] false) chP (chO8 1) [-1, 1, -1] 5 = [(2, 1, 0, 0), (3, 1, 0, 0)] := by kernel_rfl
  have h3 : spreadsU (chN8 N [98] false) chP (chO8 1) [-1, 1, -1] 1 = [(7, 0, 0, skewO (spreadF (chN8 N [98] false) chP (chO8 1) [-1, 1, -1] 0) 1)] := rfl
  have h4 : minsU (chN8 N [98] false) chP (chO8 1) [-1, 1, -1] 1 = [(8, 0, 0, 0)] := by kernel_rfl
  unfold all8
  rw [if_pos (e10w1w_place N)]
  unfold allU
  rw [show (chN8 N [98] false).length = 3 from rfl, show (chO8 1).length = 1 from rfl, h1, h2, h3, h4, e10w1w_spread, show skewO [0, 1] 1 = 0 by kernel_rfl]
  rfl
theorem e10w10_place (N : Nat) : placeE (chN8 N [98] false) chP (chO8 1) [-1, 1, 0] = 0 := by kernel_rfl
theorem e10w10_spread (N : Nat) : spreadF (chN8 N [98] false) chP (chO8 1) [-1, 1, 0] 0 = [1, 1] := by
  have h1 : ownerB (chN8 N [98] false) chP (chO8 1) [-1, 1, 0] 0 = true := by kernel_rfl
  have h2 : strKeys (spreadD (chN8 N [98] false) bZone [-1, 1, 0] (offL [-1, 1, 0] (membersF chP [111]))) = [[120], [121]] := by kernel_rfl
  unfold spreadF
  rw [if_pos h1]
  show rowD (spreadD (chN8 N [98] false) bZone [-1, 1, 0] (offL [-1, 1, 0] (membersF chP [111]))) = [1, 1]
  unfold rowD sortK
  rw [h2, sort2]
  kernel_rfl
theorem e10w10_all (N : Nat) : all8 (chN8 N [98] false) chP (chO8 1) [-1, 1, 0] = [(1, 0, 0, 0), (1, 0, 1, 0), (1, 0, 2, 0), (1, 0, 3, 0), (1, 0, 4, 0), (1, 1, 0, 0), (1, 1, 1, 0), (1, 1, 2, 0), (1, 1, 3, 0), (1, 1, 4, 0), (1, 2, 0, 0), (1, 2, 1, 0), (1, 2, 2, 0), (1, 2, 3, 0), (1, 2, 4, 0), (2, 1, 0, 0), (2, 2, 0, 0), (3, 1, 0, 0), (3, 2, 0, 0), (7, 0, 0, 0), (8, 0, 0, 0)] := by
  have h1 : capsU (chN8 N [98] false) chP [-1, 1, 0] 3 = [(1, 0, 0, 0), (1, 0, 1, 0), (1, 0, 2, 0), (1, 0, 3, 0), (1, 0, 4, 0), (1, 1, 0, 0), (1, 1, 1, 0), (1, 1, 2, 0), (1, 1, 3, 0), (1, 1, 4, 0), (1, 2, 0, 0), (1, 2, 1, 0), (1, 2, 2, 0), (1, 2, 3, 0), (1, 2, 4, 0)] := by kernel_rfl
  have h2 : kindsU (chN8 N [98] false) chP (chO8 1) [-1, 1, 0] 5 = [(2, 1, 0, 0), (2, 2, 0, 0), (3, 1, 0, 0), (3, 2, 0, 0)] := by kernel_rfl
  have h3 : spreadsU (chN8 N [98] false) chP (chO8 1) [-1, 1, 0] 1 = [(7, 0, 0, skewO (spreadF (chN8 N [98] false) chP (chO8 1) [-1, 1, 0] 0) 1)] := rfl
  have h4 : minsU (chN8 N [98] false) chP (chO8 1) [-1, 1, 0] 1 = [(8, 0, 0, 0)] := by kernel_rfl
  unfold all8
  rw [if_pos (e10w10_place N)]
  unfold allU
  rw [show (chN8 N [98] false).length = 3 from rfl, show (chO8 1).length = 1 from rfl, h1, h2, h3, h4, e10w10_spread, show skewO [1, 1] 1 = 0 by kernel_rfl]
  rfl
theorem e10ww0_place (N : Nat) : placeE (chN8 N [98] false) chP (chO8 1) [-1, -1, 0] = 0 := by kernel_rfl
theorem e10ww0_spread (N : Nat) : spreadF (chN8 N [98] false) chP (chO8 1) [-1, -1, 0] 0 = [1, 0] := by
  have h1 : ownerB (chN8 N [98] false) chP (chO8 1) [-1, -1, 0] 0 = true := by kernel_rfl
  have h2 : strKeys (spreadD (chN8 N [98] false) bZone [-1, -1, 0] (offL [-1, -1, 0] (membersF chP [111]))) = [[120], [121]] := by kernel_rfl
  unfold spreadF
  rw [if_pos h1]
  show rowD (spreadD (chN8 N [98] false) bZone [-1, -1, 0] (offL [-1, -1, 0] (membersF chP [111]))) = [1, 0]
  unfold rowD sortK
  rw [h2, sort2]
  kernel_rfl
theorem e10ww0_all (N : Nat) : all8 (chN8 N [98] false) chP (chO8 1) [-1, -1, 0] = [(1, 0, 0, 0), (1, 0, 1, 0), (1, 0, 2, 0), (1, 0, 3, 0), (1, 0, 4, 0), (1, 1, 0, 0), (1, 1, 1, 0), (1, 1, 2, 0), (1, 1, 3, 0), (1, 1, 4, 0), (1, 2, 0, 0), (1, 2, 1, 0), (1, 2, 2, 0), (1, 2, 3, 0), (1, 2, 4, 0), (2, 2, 0, 0), (3, 2, 0, 0), (7, 0, 0, 0), (8, 0, 0, 0)] := by
  have h1 : capsU (chN8 N [98] false) chP [-1, -1, 0] 3 = [(1, 0, 0, 0), (1, 0, 1, 0), (1, 0, 2, 0), (1, 0, 3, 0), (1, 0, 4, 0), (1, 1, 0, 0), (1, 1, 1, 0), (1, 1, 2, 0), (1, 1, 3, 0), (1, 1, 4, 0), (1, 2, 0, 0), (1, 2, 1, 0), (1, 2, 2, 0), (1, 2, 3, 0), (1, 2, 4, 0)] := by kernel_rfl
  have h2 : kindsU (chN8 N [98] false) chP (chO8 1) [-1, -1, 0] 5 = [(2, 2, 0, 0), (3, 2, 0, 0)] := by kernel_rfl
  have h3 : spreadsU (chN8 N [98] false) chP (chO8 1) [-1, -1, 0] 1 = [(7, 0, 0, skewO (spreadF (chN8 N [98] false) chP (chO8 1) [-1, -1, 0] 0) 1)] := rfl
  have h4 : minsU (chN8 N [98] false) chP (chO8 1) [-1, -1, 0] 1 = [(8, 0, 0, 0)] := by kernel_rfl
  unfold all8
  rw [if_pos (e10ww0_place N)]
  unfold allU
  rw [show (chN8 N [98] false).length = 3 from rfl, show (chO8 1).length = 1 from rfl, h1, h2, h3, h4, e10ww0_spread, show skewO [1, 0] 1 = 0 by kernel_rfl]
  rfl
theorem e10www_place (N : Nat) : placeE (chN8 N [98] false) chP (chO8 1) [-1, -1, -1] = 0 := by kernel_rfl
theorem e10www_spread (N : Nat) : spreadF (chN8 N [98] false) chP (chO8 1) [-1, -1, -1] 0 = [0, 0] := by
  have h1 : ownerB (chN8 N [98] false) chP (chO8 1) [-1, -1, -1] 0 = true := by kernel_rfl
  have h2 : strKeys (spreadD (chN8 N [98] false) bZone [-1, -1, -1] (offL [-1, -1, -1] (membersF chP [111]))) = [[120], [121]] := by kernel_rfl
  unfold spreadF
  rw [if_pos h1]
  show rowD (spreadD (chN8 N [98] false) bZone [-1, -1, -1] (offL [-1, -1, -1] (membersF chP [111]))) = [0, 0]
  unfold rowD sortK
  rw [h2, sort2]
  kernel_rfl
theorem e10www_all (N : Nat) : all8 (chN8 N [98] false) chP (chO8 1) [-1, -1, -1] = [(1, 0, 0, 0), (1, 0, 1, 0), (1, 0, 2, 0), (1, 0, 3, 0), (1, 0, 4, 0), (1, 1, 0, 0), (1, 1, 1, 0), (1, 1, 2, 0), (1, 1, 3, 0), (1, 1, 4, 0), (1, 2, 0, 0), (1, 2, 1, 0), (1, 2, 2, 0), (1, 2, 3, 0), (1, 2, 4, 0), (7, 0, 0, 0), (8, 0, 0, 1)] := by
  have h1 : capsU (chN8 N [98] false) chP [-1, -1, -1] 3 = [(1, 0, 0, 0), (1, 0, 1, 0), (1, 0, 2, 0), (1, 0, 3, 0), (1, 0, 4, 0), (1, 1, 0, 0), (1, 1, 1, 0), (1, 1, 2, 0), (1, 1, 3, 0), (1, 1, 4, 0), (1, 2, 0, 0), (1, 2, 1, 0), (1, 2, 2, 0), (1, 2, 3, 0), (1, 2, 4, 0)] := by kernel_rfl
  have h2 : kindsU (chN8 N [98] false) chP (chO8 1) [-1, -1, -1] 5 = [] := by kernel_rfl
  have h3 : spreadsU (chN8 N [98] false) chP (chO8 1) [-1, -1, -1] 1 = [(7, 0, 0, skewO (spreadF (chN8 N [98] false) chP (chO8 1) [-1, -1, -1] 0) 1)] := rfl
  have h4 : minsU (chN8 N [98] false) chP (chO8 1) [-1, -1, -1] 1 = [(8, 0, 0, 1)] := by kernel_rfl
  unfold all8
  rw [if_pos (e10www_place N)]
  unfold allU
  rw [show (chN8 N [98] false).length = 3 from rfl, show (chO8 1).length = 1 from rfl, h1, h2, h3, h4, e10www_spread, show skewO [0, 0] 1 = 0 by kernel_rfl]
  rfl
theorem e10w_01w_010 (N : Nat) : worseU (chN8 N [98] false) chP (chO8 1) [0, 1, -1] [0, 1, 0] = [(1, 0, 0, 5)] := by
  unfold worseU
  rw [e1001w_all, e10010_all]
  kernel_rfl
theorem e10w_01w_011 (N : Nat) : worseU (chN8 N [98] false) chP (chO8 1) [0, 1, -1] [0, 1, 1] = [(1, 1, 0, 5)] := by
  unfold worseU
  rw [e1001w_all, e10011_all]
  kernel_rfl
theorem e10w_01w_012 (N : Nat) : worseU (chN8 N [98] false) chP (chO8 1) [0, 1, -1] [0, 1, 2] = [] := by
  unfold worseU
  rw [e1001w_all, e10012_all]
  kernel_rfl
theorem e10w_01w_w1w (N : Nat) : worseU (chN8 N [98] false) chP (chO8 1) [0, 1, -1] [-1, 1, -1] = [] := by
  unfold worseU
  rw [e1001w_all, e10w1w_all]
  kernel_rfl
theorem e10w_w1w_w10 (N : Nat) : worseU (chN8 N [98] false) chP (chO8 1) [-1, 1, -1] [-1, 1, 0] = [] := by
  unfold worseU
  rw [e10w1w_all, e10w10_all]
  kernel_rfl
theorem e10w_w10_ww0 (N : Nat) : worseU (chN8 N [98] false) chP (chO8 1) [-1, 1, 0] [-1, -1, 0] = [] := by
  unfold worseU
  rw [e10w10_all, e10ww0_all]
  kernel_rfl
theorem e10w_ww0_www (N : Nat) : worseU (chN8 N [98] false) chP (chO8 1) [-1, -1, 0] [-1, -1, -1] = [(8, 0, 0, 1)] := by
  unfold worseU
  rw [e10ww0_all, e10www_all]
  kernel_rfl
end Go.Proofs.YtpdaohkpgconkaaGreat

namespace Go.Proofs.YtpdaohkpgconkaaGreat
open Go.RowKit

set_option maxRecDepth 100000 in
set_option maxHeartbeats 4000000 in
theorem chapter10_any (w : World) :
    Calls Tryz.prog 50 #[] w fun e w' => ∃ B cb, e = .returned (.agg #[.slice (some ⟨w.heap.size + 4, 0, none⟩) 3 3, .slice B 3 cb, .slice (some ⟨w.heap.size + 5, 0, none⟩) 1 1]) ∧ ChapAt8 1 w' w.heap.size (.slice B 3 cb) 3 [98] false ∧ Below w.heap.size w w' := by
  obtain ⟨i0, hi0, hz0, hz1, hz2⟩ := info_parts pod_info
  go_enter Tryz.func50, Tryz.ntmps50
  have N1 := Lib.hid (Blk.new (w.alloc (Obj.cells #[Value.slice none 0 0, Value.slice none 0 0, Value.slice none 0 0] 26)) zer5 32)
  go_wp2_with (refine wpList_store_row rfl 32 (.tmp 1) (.tmp 4) rfl (w.heap.size + 1) zer5 rfl rfl 32 _ N1.out Qu.vec_size (by kernel_rfl) (by kernel_rfl) ?_)
  clear N1
  have B0 : Hid (Below w.heap.size w (((((((w.alloc (Obj.cells #[Value.slice none 0 0, Value.slice none 0 0, Value.slice none 0 0] 26)).alloc (Obj.cells #[Value.int .i64 15, Value.int .i64 0, Value.int .i64 0, Value.int .i64 0, Value.int .i64 0] 32)).alloc (Obj.cells #[strV bZone, strV [120]] 29)).alloc (Obj.cells #[strV bZone, strV [121]] 29)).alloc (Obj.cells (cellsN (chN8 w.heap.size [98] false)).toArray 34)).alloc (Obj.cells (cellsO (chO8 1)).toArray 36)).alloc (Obj.cells #[Value.slice (some { block := w.heap.size + 4, off := 0 }) 3 3, Value.slice none 0 0, Value.slice (some { block := w.heap.size + 5, off := 0 }) 1 1] 26))) := Lib.hid (((((((Qu.below2 w _ _).alloc (by simp; omega) _).alloc (by simp; omega) _).alloc (by simp; omega) _).alloc (by simp; omega) _).alloc (by simp; omega) _))
  have C0 : Hid (ChapAt8 1 (((((((w.alloc (Obj.cells #[Value.slice none 0 0, Value.slice none 0 0, Value.slice none 0 0] 26)).alloc (Obj.cells #[Value.int .i64 15, Value.int .i64 0, Value.int .i64 0, Value.int .i64 0, Value.int .i64 0] 32)).alloc (Obj.cells #[strV bZone, strV [120]] 29)).alloc (Obj.cells #[strV bZone, strV [121]] 29)).alloc (Obj.cells (cellsN (chN8 w.heap.size [98] false)).toArray 34)).alloc (Obj.cells (cellsO (chO8 1)).toArray 36)).alloc (Obj.cells #[Value.slice (some { block := w.heap.size + 4, off := 0 }) 3 3, Value.slice none 0 0, Value.slice (some { block := w.heap.size + 5, off := 0 }) 1 1] 26)) w.heap.size (.slice none 0 0) 0 [98] false) := Lib.hid (by
    have hs1 : ∀ (w : World) (o : Obj), (w.alloc o).heap.size = w.heap.size + 1 := World.size_alloc
    constructor
    · exact Blk.alloc (Blk.alloc (Blk.alloc (Blk.alloc (by have := Blk.new ((w.alloc (Obj.cells #[Value.slice none 0 0, Value.slice none 0 0, Value.slice none 0 0] 26)).alloc (Obj.cells #[Value.int .i64 15, Value.int .i64 0, Value.int .i64 0, Value.int .i64 0, Value.int .i64 0] 32)) #[strV bZone, strV [120]] 29; rw [hs1, hs1] at this; exact this) _) _) _) _
    · exact Blk.alloc (Blk.alloc (Blk.alloc (by have := Blk.new (((w.alloc (Obj.cells #[Value.slice none 0 0, Value.slice none 0 0, Value.slice none 0 0] 26)).alloc (Obj.cells #[Value.int .i64 15, Value.int .i64 0, Value.int .i64 0, Value.int .i64 0, Value.int .i64 0] 32)).alloc (Obj.cells #[strV bZone, strV [120]] 29)) #[strV bZone, strV [121]] 29; rw [hs1, hs1, hs1] at this; exact this) _) _) _
    · exact Blk.alloc (Blk.alloc (by have := Blk.new ((((w.alloc (Obj.cells #[Value.slice none 0 0, Value.slice none 0 0, Value.slice none 0 0] 26)).alloc (Obj.cells #[Value.int .i64 15, Value.int .i64 0, Value.int .i64 0, Value.int .i64 0, Value.int .i64 0] 32)).alloc (Obj.cells #[strV bZone, strV [120]] 29)).alloc (Obj.cells #[strV bZone, strV [121]] 29)) (cellsN (chN8 w.heap.size [98] false)).toArray 34; rw [hs1, hs1, hs1, hs1] at this; exact this) _) _
    · exact Blk.alloc (by have := Blk.new (((((w.alloc (Obj.cells #[Value.slice none 0 0, Value.slice none 0 0, Value.slice none 0 0] 26)).alloc (Obj.cells #[Value.int .i64 15, Value.int .i64 0, Value.int .i64 0, Value.int .i64 0, Value.int .i64 0] 32)).alloc (Obj.cells #[strV bZone, strV [120]] 29)).alloc (Obj.cells #[strV bZone, strV [121]] 29)).alloc (Obj.cells (cellsN (chN8 w.heap.size [98] false)).toArray 34)) (cellsO (chO8 1)).toArray 36; rw [hs1, hs1, hs1, hs1, hs1] at this; exact this) _
    · exact World.ownsRow_nil _ _ _ _)
  have S0 : Hid (Blk (((((((w.alloc (Obj.cells #[Value.slice none 0 0, Value.slice none 0 0, Value.slice none 0 0] 26)).alloc (Obj.cells #[Value.int .i64 15, Value.int .i64 0, Value.int .i64 0, Value.int .i64 0, Value.int .i64 0] 32)).alloc (Obj.cells #[strV bZone, strV [120]] 29)).alloc (Obj.cells #[strV bZone, strV [121]] 29)).alloc (Obj.cells (cellsN (chN8 w.heap.size [98] false)).toArray 34)).alloc (Obj.cells (cellsO (chO8 1)).toArray 36)).alloc (Obj.cells #[Value.slice (some { block := w.heap.size + 4, off := 0 }) 3 3, Value.slice none 0 0, Value.slice (some { block := w.heap.size + 5, off := 0 }) 1 1] 26)) (w.heap.size + 6) #[Value.slice (some { block := w.heap.size + 4, off := 0 }) 3 3, Value.slice none 0 0, Value.slice (some { block := w.heap.size + 5, off := 0 }) 1 1] 26) := Lib.hid (by
    have hs1 : ∀ (w : World) (o : Obj), (w.alloc o).heap.size = w.heap.size + 1 := World.size_alloc
    have := Blk.new ((((((w.alloc (Obj.cells #[Value.slice none 0 0, Value.slice none 0 0, Value.slice none 0 0] 26)).alloc (Obj.cells #[Value.int .i64 15, Value.int .i64 0, Value.int .i64 0, Value.int .i64 0, Value.int .i64 0] 32)).alloc (Obj.cells #[strV bZone, strV [120]] 29)).alloc (Obj.cells #[strV bZone, strV [121]] 29)).alloc (Obj.cells (cellsN (chN8 w.heap.size [98] false)).toArray 34)).alloc (Obj.cells (cellsO (chO8 1)).toArray 36)) #[Value.slice (some { block := w.heap.size + 4, off := 0 }) 3 3, Value.slice none 0 0, Value.slice (some { block := w.heap.size + 5, off := 0 }) 1 1] 26
    rw [hs1, hs1, hs1, hs1, hs1, hs1] at this
    exact this)
  have Z0 : Hid (Blk (((((((w.alloc (Obj.cells #[Value.slice none 0 0, Value.slice none 0 0, Value.slice none 0 0] 26)).alloc (Obj.cells #[Value.int .i64 15, Value.int .i64 0, Value.int .i64 0, Value.int .i64 0, Value.int .i64 0] 32)).alloc (Obj.cells #[strV bZone, strV [120]] 29)).alloc (Obj.cells #[strV bZone, strV [121]] 29)).alloc (Obj.cells (cellsN (chN8 w.heap.size [98] false)).toArray 34)).alloc (Obj.cells (cellsO (chO8 1)).toArray 36)).alloc (Obj.cells #[Value.slice (some { block := w.heap.size + 4, off := 0 }) 3 3, Value.slice none 0 0, Value.slice (some { block := w.heap.size + 5, off := 0 }) 1 1] 26)) w.heap.size #[Value.slice none 0 0, Value.slice none 0 0, Value.slice none 0 0] 26) := Lib.hid (Blk.alloc (Blk.alloc (Blk.alloc (Blk.alloc (Blk.alloc (Blk.alloc (Blk.new w _ _) _) _) _) _) _) _)
  change Code.wp _ _ _ _ (((((((w.alloc (Obj.cells #[Value.slice none 0 0, Value.slice none 0 0, Value.slice none 0 0] 26)).alloc (Obj.cells #[Value.int .i64 15, Value.int .i64 0, Value.int .i64 0, Value.int .i64 0, Value.int .i64 0] 32)).alloc (Obj.cells #[strV bZone, strV [120]] 29)).alloc (Obj.cells #[strV bZone, strV [121]] 29)).alloc (Obj.cells (cellsN (chN8 w.heap.size [98] false)).toArray 34)).alloc (Obj.cells (cellsO (chO8 1)).toArray 36)).alloc (Obj.cells #[Value.slice (some { block := w.heap.size + 4, off := 0 }) 3 3, Value.slice none 0 0, Value.slice (some { block := w.heap.size + 5, off := 0 }) 1 1] 26))
  generalize (((((((w.alloc (Obj.cells #[Value.slice none 0 0, Value.slice none 0 0, Value.slice none 0 0] 26)).alloc (Obj.cells #[Value.int .i64 15, Value.int .i64 0, Value.int .i64 0, Value.int .i64 0, Value.int .i64 0] 32)).alloc (Obj.cells #[strV bZone, strV [120]] 29)).alloc (Obj.cells #[strV bZone, strV [121]] 29)).alloc (Obj.cells (cellsN (chN8 w.heap.size [98] false)).toArray 34)).alloc (Obj.cells (cellsO (chO8 1)).toArray 36)).alloc (Obj.cells #[Value.slice (some { block := w.heap.size + 4, off := 0 }) 3 3, Value.slice none 0 0, Value.slice (some { block := w.heap.size + 5, off := 0 }) 1 1] 26)) = W0 at B0 C0 S0 Z0 ⊢
  rw [show w.heap.size + 1 + 1 + 1 + 1 + 1 + 1 = w.heap.size + 6 from rfl]
  obtain ⟨Sb, hSb⟩ : ∃ Sb, w.heap.size + 6 = Sb := ⟨_, rfl⟩
  rw [hSb] at S0 ⊢
  have HSb := Lib.hid hSb
  clear hSb
  go_loopw [3] (fun i wr => ∃ (k : Nat) (B : Option Addr) (cb : Nat), k ≤ 3 ∧ i = .int .i64 k ∧ ChapAt8 1 wr w.heap.size (.slice B k cb) k [98] false ∧ Blk wr Sb #[Value.slice (some { block := w.heap.size + 4, off := 0 }) 3 3, .slice B k cb, Value.slice (some { block := w.heap.size + 5, off := 0 }) 1 1] 26 ∧ Blk wr w.heap.size #[Value.slice none 0 0, Value.slice none 0 0, Value.slice none 0 0] 26 ∧ Below w.heap.size w wr) (fun i _ => 3 - (intOf i).toNat)
  case atStart => exact ⟨0, none, 0, by omega, rfl, C0.out, S0.out, Z0.out, B0.out⟩
  case round =>
    clear B0 C0 S0 Z0
    obtain ⟨k, B, cb, hk, rfl, hc, hs, hz, hb⟩ := hrel
    have HC := Lib.hid hc
    have HS := Lib.hid hs
    have HZ := Lib.hid hz
    have HB := Lib.hid hb
    have s0 : wr.cell? ⟨Sb, 0, none⟩ = some (Value.slice (some { block := w.heap.size + 4, off := 0 }) 3 3) := Blk.cell hs 0
    have s1 : wr.cell? ⟨Sb, 1, none⟩ = some (.slice B k cb) := Blk.cell hs 1
    have s2 : wr.cell? ⟨Sb, 2, none⟩ = some (Value.slice (some { block := w.heap.size + 5, off := 0 }) 1 1) := Blk.cell hs 2
    have f1 := Blk.free hs 1
    clear hc hs hz hb
    have hk4 : k = 0 ∨ k = 1 ∨ k = 2 ∨ k = 3 := by omega
    rcases hk4 with rfl | rfl | rfl | rfl
    · have hnb : Hid (w.heap.size ≤ wr.heap.size) := Lib.hid HB.out.size
      have s1a : ∀ o, (wr.alloc o).cell? ⟨Sb, 1, none⟩ = some (.slice B 0 cb) := fun o => Blk.cell (Blk.alloc HS.out o) 1
      have hdec : 26 ≠ 43 := by decide
      have h1c : Hid (∀ u ∈ cellsP [chPod 112], u.oneCell' = true) := Lib.hid (by
        intro u hu
        simp [cellsP, chPod] at hu
        rcases hu with rfl | rfl | rfl | rfl | rfl | rfl | rfl | rfl | rfl | rfl | rfl | rfl | rfl <;> rfl)
      have hbW : Hid (Below wr.heap.size wr ((wr.alloc (.cells (cellsP [chPod 112]).toArray 43)).drew)) := Lib.hid (((Below.refl _ _).alloc (Nat.le_refl _) _).drew)
      have hcl : Hid (∀ j u, (cellsP [chPod 112])[j]? = some u → World.cell? ((wr.alloc (.cells (cellsP [chPod 112]).toArray 43)).drew) ((⟨wr.heap.size, 0, none⟩ : Addr).add j) = some u) := Lib.hid (by
        intro j u hj
        rw [WideShapes.add_plain, Nat.zero_add, ← hj, ← List.getElem?_toArray]
        exact Blk.cell (Blk.new wr _ _) j)
      have hon : Hid (World.ownsRow ((wr.alloc (.cells (cellsP [chPod 112]).toArray 43)).drew) w.heap.size 43 15 (.slice B 0 cb) 0 (cellsP (chP.take 0))) := Lib.hid (show World.ownsRow _ _ _ _ _ _ _ from HC.out.p.alloc _)
      have hS9 : Hid (Blk ((wr.alloc (.cells (cellsP [chPod 112]).toArray 43)).drew) Sb #[Value.slice (some { block := w.heap.size + 4, off := 0 }) 3 3, .slice B 0 cb, Value.slice (some { block := w.heap.size + 5, off := 0 }) 1 1] 26) := Lib.hid (Blk.alloc HS.out _)
      have hb9 : Hid (w.heap.size ≤ ((wr.alloc (.cells (cellsP [chPod 112]).toArray 43)).drew).heap.size) := Lib.hid (by have := hnb.out; show w.heap.size ≤ (wr.alloc _).heap.size; simp; omega)
      have hmx9 : Hid (0 + 1 ≤ maxLen) := Lib.hid (by unfold maxLen; omega)
      have hw1 : IntKind.i64.wrap 1 = 1 := by decide
      have hw2 : IntKind.i64.wrap 2 = 2 := by decide
      have hw3 : IntKind.i64.wrap 3 = 3 := by decide
      have he0 : (⟨#[112, 113, 114]⟩ : ByteArray).extract 0 1 = ⟨#[112]⟩ := by decide
      have he1 : (⟨#[112, 113, 114]⟩ : ByteArray).extract 1 2 = ⟨#[113]⟩ := by decide
      have he2 : (⟨#[112, 113, 114]⟩ : ByteArray).extract 2 3 = ⟨#[114]⟩ := by decide
      clear hk
      go_wp2_with fail
      go_region_law (refine step_append_own rfl (.tmp 24) (.tmp 31) 23 rfl w.heap.size 43 i0 (.agg #[.string ⟨#[]⟩, .string ⟨#[]⟩, .int .i64 0, .int .i64 0, .int .i64 0, .int .i64 0, .int .i64 0, .slice none 0 0, .slice none 0 0, .slice none 0 0, .string ⟨#[]⟩, .slice none 0 0, .string ⟨#[]⟩, .slice none 0 0, .string ⟨#[]⟩]) 15 240 Tryz.underlying23 hi0 hz0 hz1 hz2 rfl (by decide) (.slice B 0 cb) 0 (cellsP (chP.take 0)) rfl hon.out ⟨wr.heap.size, 0, none⟩ 1 1 (cellsP [chPod 112]) rfl rfl hcl.out h1c.out hmx9.out (by decide) hb9.out (fun v' w' hown' hgrow' => ?_); obtain ⟨B', cb', rfl, hm'⟩ := La.own_slice hown'; have S3 := Lib.hid (ch_other hon.out hgrow' hS9.out hdec); have q1 := Blk.cell S3.out 1; have q2 := Blk.free S3.out 1)
      all_goals
        have HSQ := HSb.out
        have hc3 : Hid (ChapAt8 1 w' w.heap.size (.slice B' 1 cb') 1 [98] false) := Lib.hid (HC.out.step hbW.out hon.out hgrow' (show World.ownsRow _ _ _ _ _ _ _ from hown'))
        have hc4 : Hid (ChapAt8 1 (w'.setCell ⟨Sb, 1, none⟩ (.slice B' 1 cb')) w.heap.size (.slice B' 1 cb') 1 [98] false) := Lib.hid (hc3.out.set S3.out (by omega) hdec 1 _)
        have hs4 : Hid (Blk (w'.setCell ⟨Sb, 1, none⟩ (.slice B' 1 cb')) Sb #[Value.slice (some { block := w.heap.size + 4, off := 0 }) 3 3, .slice B' 1 cb', Value.slice (some { block := w.heap.size + 5, off := 0 }) 1 1] 26) := Lib.hid (S3.out.set 1 _)
        have hz4 : Hid (Blk (w'.setCell ⟨Sb, 1, none⟩ (.slice B' 1 cb')) w.heap.size #[Value.slice none 0 0, Value.slice none 0 0, Value.slice none 0 0] 26) := Lib.hid (Blk.oth (ch_other hon.out hgrow' (HZ.out.below hbW.out HZ.out.lt) hdec) (by omega) 1 _)
        have hb4 : Hid (Below w.heap.size w (w'.setCell ⟨Sb, 1, none⟩ (.slice B' 1 cb'))) := Lib.hid ((((HB.out.trans (hbW.out.mono hnb.out)).grown hgrow' hb9.out (fun j hj => (hon.out.lt j hj).1))).setCell (p := ⟨Sb, 1, none⟩) (by show w.heap.size ≤ Sb; omega) _)
        clear hown' hgrow' S3 q1 q2 HSQ hcl h1c hon hS9 hb9 hmx9 s0 s1 s2 f1 s1a HC HS HZ HB hbW hc3
        go_wp2
        go_roundw
        case rel => exact ⟨1, B', cb', by omega, by go_num, hc4.out, hs4.out, hz4.out, hb4.out⟩
        case measure => simp [intOf]
    · have hnb : Hid (w.heap.size ≤ wr.heap.size) := Lib.hid HB.out.size
      have s1a : ∀ o, (wr.alloc o).cell? ⟨Sb, 1, none⟩ = some (.slice B 1 cb) := fun o => Blk.cell (Blk.alloc HS.out o) 1
      have hdec : 26 ≠ 43 := by decide
      have h1c : Hid (∀ u ∈ cellsP [chPod 113], u.oneCell' = true) := Lib.hid (by
        intro u hu
        simp [cellsP, chPod] at hu
        rcases hu with rfl | rfl | rfl | rfl | rfl | rfl | rfl | rfl | rfl | rfl | rfl | rfl | rfl <;> rfl)
      have hbW : Hid (Below wr.heap.size wr ((wr.alloc (.cells (cellsP [chPod 113]).toArray 43)).drew)) := Lib.hid (((Below.refl _ _).alloc (Nat.le_refl _) _).drew)
      have hcl : Hid (∀ j u, (cellsP [chPod 113])[j]? = some u → World.cell? ((wr.alloc (.cells (cellsP [chPod 113]).toArray 43)).drew) ((⟨wr.heap.size, 0, none⟩ : Addr).add j) = some u) := Lib.hid (by
        intro j u hj
        rw [WideShapes.add_plain, Nat.zero_add, ← hj, ← List.getElem?_toArray]
        exact Blk.cell (Blk.new wr _ _) j)
      have hon : Hid (World.ownsRow ((wr.alloc (.cells (cellsP [chPod 113]).toArray 43)).drew) w.heap.size 43 15 (.slice B 1 cb) 1 (cellsP (chP.take 1))) := Lib.hid (show World.ownsRow _ _ _ _ _ _ _ from HC.out.p.alloc _)
      have hS9 : Hid (Blk ((wr.alloc (.cells (cellsP [chPod 113]).toArray 43)).drew) Sb #[Value.slice (some { block := w.heap.size + 4, off := 0 }) 3 3, .slice B 1 cb, Value.slice (some { block := w.heap.size + 5, off := 0 }) 1 1] 26) := Lib.hid (Blk.alloc HS.out _)
      have hb9 : Hid (w.heap.size ≤ ((wr.alloc (.cells (cellsP [chPod 113]).toArray 43)).drew).heap.size) := Lib.hid (by have := hnb.out; show w.heap.size ≤ (wr.alloc _).heap.size; simp; omega)
      have hmx9 : Hid (1 + 1 ≤ maxLen) := Lib.hid (by unfold maxLen; omega)
      have hw1 : IntKind.i64.wrap 1 = 1 := by decide
      have hw2 : IntKind.i64.wrap 2 = 2 := by decide
      have hw3 : IntKind.i64.wrap 3 = 3 := by decide
      have he0 : (⟨#[112, 113, 114]⟩ : ByteArray).extract 0 1 = ⟨#[112]⟩ := by decide
      have he1 : (⟨#[112, 113, 114]⟩ : ByteArray).extract 1 2 = ⟨#[113]⟩ := by decide
      have he2 : (⟨#[112, 113, 114]⟩ : ByteArray).extract 2 3 = ⟨#[114]⟩ := by decide
      clear hk
      go_wp2_with fail
      go_region_law (refine step_append_own rfl (.tmp 24) (.tmp 31) 23 rfl w.heap.size 43 i0 (.agg #[.string ⟨#[]⟩, .string ⟨#[]⟩, .int .i64 0, .int .i64 0, .int .i64 0, .int .i64 0, .int .i64 0, .slice none 0 0, .slice none 0 0, .slice none 0 0, .string ⟨#[]⟩, .slice none 0 0, .string ⟨#[]⟩, .slice none 0 0, .string ⟨#[]⟩]) 15 240 Tryz.underlying23 hi0 hz0 hz1 hz2 rfl (by decide) (.slice B 1 cb) 1 (cellsP (chP.take 1)) rfl hon.out ⟨wr.heap.size, 0, none⟩ 1 1 (cellsP [chPod 113]) rfl rfl hcl.out h1c.out hmx9.out (by decide) hb9.out (fun v' w' hown' hgrow' => ?_); obtain ⟨B', cb', rfl, hm'⟩ := La.own_slice hown'; have S3 := Lib.hid (ch_other hon.out hgrow' hS9.out hdec); have q1 := Blk.cell S3.out 1; have q2 := Blk.free S3.out 1)
      all_goals
        have HSQ := HSb.out
        have hc3 : Hid (ChapAt8 1 w' w.heap.size (.slice B' 2 cb') 2 [98] false) := Lib.hid (HC.out.step hbW.out hon.out hgrow' (show World.ownsRow _ _ _ _ _ _ _ from hown'))
        have hc4 : Hid (ChapAt8 1 (w'.setCell ⟨Sb, 1, none⟩ (.slice B' 2 cb')) w.heap.size (.slice B' 2 cb') 2 [98] false) := Lib.hid (hc3.out.set S3.out (by omega) hdec 1 _)
        have hs4 : Hid (Blk (w'.setCell ⟨Sb, 1, none⟩ (.slice B' 2 cb')) Sb #[Value.slice (some { block := w.heap.size + 4, off := 0 }) 3 3, .slice B' 2 cb', Value.slice (some { block := w.heap.size + 5, off := 0 }) 1 1] 26) := Lib.hid (S3.out.set 1 _)
        have hz4 : Hid (Blk (w'.setCell ⟨Sb, 1, none⟩ (.slice B' 2 cb')) w.heap.size #[Value.slice none 0 0, Value.slice none 0 0, Value.slice none 0 0] 26) := Lib.hid (Blk.oth (ch_other hon.out hgrow' (HZ.out.below hbW.out HZ.out.lt) hdec) (by omega) 1 _)
        have hb4 : Hid (Below w.heap.size w (w'.setCell ⟨Sb, 1, none⟩ (.slice B' 2 cb'))) := Lib.hid ((((HB.out.trans (hbW.out.mono hnb.out)).grown hgrow' hb9.out (fun j hj => (hon.out.lt j hj).1))).setCell (p := ⟨Sb, 1, none⟩) (by show w.heap.size ≤ Sb; omega) _)
        clear hown' hgrow' S3 q1 q2 HSQ hcl h1c hon hS9 hb9 hmx9 s0 s1 s2 f1 s1a HC HS HZ HB hbW hc3
        go_wp2
        go_roundw
        case rel => exact ⟨2, B', cb', by omega, by go_num, hc4.out, hs4.out, hz4.out, hb4.out⟩
        case measure => simp [intOf]
    · have hnb : Hid (w.heap.size ≤ wr.heap.size) := Lib.hid HB.out.size
      have s1a : ∀ o, (wr.alloc o).cell? ⟨Sb, 1, none⟩ = some (.slice B 2 cb) := fun o => Blk.cell (Blk.alloc HS.out o) 1
      have hdec : 26 ≠ 43 := by decide
      have h1c : Hid (∀ u ∈ cellsP [chPod 114], u.oneCell' = true) := Lib.hid (by
        intro u hu
        simp [cellsP, chPod] at hu
        rcases hu with rfl | rfl | rfl | rfl | rfl | rfl | rfl | rfl | rfl | rfl | rfl | rfl | rfl <;> rfl)
      have hbW : Hid (Below wr.heap.size wr ((wr.alloc (.cells (cellsP [chPod 114]).toArray 43)).drew)) := Lib.hid (((Below.refl _ _).alloc (Nat.le_refl _) _).drew)
      have hcl : Hid (∀ j u, (cellsP [chPod 114])[j]? = some u → World.cell? ((wr.alloc (.cells (cellsP [chPod 114]).toArray 43)).drew) ((⟨wr.heap.size, 0, none⟩ : Addr).add j) = some u) := Lib.hid (by
        intro j u hj
        rw [WideShapes.add_plain, Nat.zero_add, ← hj, ← List.getElem?_toArray]
        exact Blk.cell (Blk.new wr _ _) j)
      have hon : Hid (World.ownsRow ((wr.alloc (.cells (cellsP [chPod 114]).toArray 43)).drew) w.heap.size 43 15 (.slice B 2 cb) 2 (cellsP (chP.take 2))) := Lib.hid (show World.ownsRow _ _ _ _ _ _ _ from HC.out.p.alloc _)
      have hS9 : Hid (Blk ((wr.alloc (.cells (cellsP [chPod 114]).toArray 43)).drew) Sb #[Value.slice (some { block := w.heap.size + 4, off := 0 }) 3 3, .slice B 2 cb, Value.slice (some { block := w.heap.size + 5, off := 0 }) 1 1] 26) := Lib.hid (Blk.alloc HS.out _)
      have hb9 : Hid (w.heap.size ≤ ((wr.alloc (.cells (cellsP [chPod 114]).toArray 43)).drew).heap.size) := Lib.hid (by have := hnb.out; show w.heap.size ≤ (wr.alloc _).heap.size; simp; omega)
      have hmx9 : Hid (2 + 1 ≤ maxLen) := Lib.hid (by unfold maxLen; omega)
      have hw1 : IntKind.i64.wrap 1 = 1 := by decide
      have hw2 : IntKind.i64.wrap 2 = 2 := by decide
      have hw3 : IntKind.i64.wrap 3 = 3 := by decide
      have he0 : (⟨#[112, 113, 114]⟩ : ByteArray).extract 0 1 = ⟨#[112]⟩ := by decide
      have he1 : (⟨#[112, 113, 114]⟩ : ByteArray).extract 1 2 = ⟨#[113]⟩ := by decide
      have he2 : (⟨#[112, 113, 114]⟩ : ByteArray).extract 2 3 = ⟨#[114]⟩ := by decide
      clear hk
      go_wp2_with fail
      go_region_law (refine step_append_own rfl (.tmp 24) (.tmp 31) 23 rfl w.heap.size 43 i0 (.agg #[.string ⟨#[]⟩, .string ⟨#[]⟩, .int .i64 0, .int .i64 0, .int .i64 0, .int .i64 0, .int .i64 0, .slice none 0 0, .slice none 0 0, .slice none 0 0, .string ⟨#[]⟩, .slice none 0 0, .string ⟨#[]⟩, .slice none 0 0, .string ⟨#[]⟩]) 15 240 Tryz.underlying23 hi0 hz0 hz1 hz2 rfl (by decide) (.slice B 2 cb) 2 (cellsP (chP.take 2)) rfl hon.out ⟨wr.heap.size, 0, none⟩ 1 1 (cellsP [chPod 114]) rfl rfl hcl.out h1c.out hmx9.out (by decide) hb9.out (fun v' w' hown' hgrow' => ?_); obtain ⟨B', cb', rfl, hm'⟩ := La.own_slice hown'; have S3 := Lib.hid (ch_other hon.out hgrow' hS9.out hdec); have q1 := Blk.cell S3.out 1; have q2 := Blk.free S3.out 1)
      all_goals
        have HSQ := HSb.out
        have hc3 : Hid (ChapAt8 1 w' w.heap.size (.slice B' 3 cb') 3 [98] false) := Lib.hid (HC.out.step hbW.out hon.out hgrow' (show World.ownsRow _ _ _ _ _ _ _ from hown'))
        have hc4 : Hid (ChapAt8 1 (w'.setCell ⟨Sb, 1, none⟩ (.slice B' 3 cb')) w.heap.size (.slice B' 3 cb') 3 [98] false) := Lib.hid (hc3.out.set S3.out (by omega) hdec 1 _)
        have hs4 : Hid (Blk (w'.setCell ⟨Sb, 1, none⟩ (.slice B' 3 cb')) Sb #[Value.slice (some { block := w.heap.size + 4, off := 0 }) 3 3, .slice B' 3 cb', Value.slice (some { block := w.heap.size + 5, off := 0 }) 1 1] 26) := Lib.hid (S3.out.set 1 _)
        have hz4 : Hid (Blk (w'.setCell ⟨Sb, 1, none⟩ (.slice B' 3 cb')) w.heap.size #[Value.slice none 0 0, Value.slice none 0 0, Value.slice none 0 0] 26) := Lib.hid (Blk.oth (ch_other hon.out hgrow' (HZ.out.below hbW.out HZ.out.lt) hdec) (by omega) 1 _)
        have hb4 : Hid (Below w.heap.size w (w'.setCell ⟨Sb, 1, none⟩ (.slice B' 3 cb'))) := Lib.hid ((((HB.out.trans (hbW.out.mono hnb.out)).grown hgrow' hb9.out (fun j hj => (hon.out.lt j hj).1))).setCell (p := ⟨Sb, 1, none⟩) (by show w.heap.size ≤ Sb; omega) _)
        clear hown' hgrow' S3 q1 q2 HSQ hcl h1c hon hS9 hb9 hmx9 s0 s1 s2 f1 s1a HC HS HZ HB hbW hc3
        go_wp2
        go_roundw
        case rel => exact ⟨3, B', cb', by omega, by go_num, hc4.out, hs4.out, hz4.out, hb4.out⟩
        case measure => simp [intOf]
    · have z0 : wr.cell? ⟨w.heap.size, 0, none⟩ = some (Value.slice none 0 0) := Blk.cell HZ.out 0
      have z1 : wr.cell? ⟨w.heap.size, 1, none⟩ = some (Value.slice none 0 0) := Blk.cell HZ.out 1
      have z2 : wr.cell? ⟨w.heap.size, 2, none⟩ = some (Value.slice none 0 0) := Blk.cell HZ.out 2
      have g0 := Blk.free HZ.out 0
      have g1 := Blk.free HZ.out 1
      have g2 := Blk.free HZ.out 2
      clear hk
      have HSQ := HSb.out
      have hd1 : 26 ≠ 43 := by decide
      have HZ1 := Lib.hid (HZ.out.set 0 (Value.slice (some { block := w.heap.size + 4, off := 0 }) 3 3))
      have HC1 := Lib.hid (HC.out.set HZ.out (by omega) hd1 0 (Value.slice (some { block := w.heap.size + 4, off := 0 }) 3 3))
      have HZ2 := Lib.hid (HZ1.out.set 1 (.slice B 3 cb))
      have HC2 := Lib.hid (HC1.out.set HZ1.out (by omega) hd1 1 (.slice B 3 cb))
      have HZ3 := Lib.hid (HZ2.out.set 2 (Value.slice (some { block := w.heap.size + 5, off := 0 }) 1 1))
      have HC3 := Lib.hid (HC2.out.set HZ2.out (by omega) hd1 2 (Value.slice (some { block := w.heap.size + 5, off := 0 }) 1 1))
      have HB3 := Lib.hid (((HB.out.setCell (p := ⟨w.heap.size, 0, none⟩) (Nat.le_refl _) (Value.slice (some { block := w.heap.size + 4, off := 0 }) 3 3)).setCell (p := ⟨w.heap.size, 1, none⟩) (Nat.le_refl _) (.slice B 3 cb)).setCell (p := ⟨w.heap.size, 2, none⟩) (Nat.le_refl _) (Value.slice (some { block := w.heap.size + 5, off := 0 }) 1 1))
      clear HSQ hd1
      go_wp2
      refine bodyPost_row1 Tryz.results50 w.heap.size _ _ _ _ (by rfl) (by rfl) HZ3.out Tryz.underlying26 rfl (by kernel_rfl) ?_
      exact ⟨B, cb, rfl, HC3.out, HB3.out⟩

end Go.Proofs.YtpdaohkpgconkaaGreat

namespace Go.Proofs.YtpdaohkpgconkaaGreat
open Go.RowKit

/-- The cluster, its box, a placement lie in memory. -/
structure WkAt8 (mn : Int) (w W : World) (N Sb : Nat) (B : Option Addr) (cb : Nat) (P : Option Addr) (p : List Int) : Prop where
  s : SnapAt W (some ⟨N + 4, 0, none⟩) B (some ⟨N + 5, 0, none⟩) 3 cb 1 (chN8 N [98] false) chP (chO8 mn)
  b : Blk W Sb #[.slice (some ⟨N + 4, 0, none⟩) 3 3, .slice B 3 cb, .slice (some ⟨N + 5, 0, none⟩) 1 1] 26
  p : IntsAt W P p.length p
  w : Below w.heap.size w W
theorem WkAt8.below {mn : Int} {w W W' : World} {N Sb : Nat} {B : Option Addr} {cb : Nat} {P : Option Addr} {p : List Int} (h : WkAt8 mn w W N Sb B cb P p) (hb : Below W.heap.size W W') : WkAt8 mn w W' N Sb B cb P p :=
  ⟨h.s.below hb, h.b.below hb h.b.lt, h.p.below hb, h.w.trans (hb.mono h.w.size)⟩
theorem WkAt8.c0 {mn : Int} {w W : World} {N Sb : Nat} {B : Option Addr} {cb : Nat} {P : Option Addr} {p : List Int} (h : WkAt8 mn w W N Sb B cb P p) : W.cell? ⟨Sb, 0, none⟩ = some (.slice (some ⟨N + 4, 0, none⟩) 3 3) ∧ W.cell? ⟨Sb, 1, none⟩ = some (.slice B 3 cb) ∧ W.cell? ⟨Sb, 2, none⟩ = some (.slice (some ⟨N + 5, 0, none⟩) 1 1) :=
  ⟨Blk.cell h.b 0, Blk.cell h.b 1, Blk.cell h.b 2⟩

end Go.Proofs.YtpdaohkpgconkaaGreat

namespace Go.Proofs.YtpdaohkpgconkaaGreat
open Go.RowKit

theorem SnapIn.below8 {w w' : World} {A B C : Option Addr} {ca cb cc : Nat} {ns : List NodeD} {ps : List PodD} {os : List OwnD} (h : SnapIn w A B C ca cb cc ns ps os) (hb : Below w.heap.size w w') : SnapIn w' A B C ca cb cc ns ps os :=
  ⟨⟨h.n.cells.below hb, fun x hx => (h.n.fit x hx).below hb⟩, ⟨h.p.cells.below hb, fun x hx => (h.p.fit x hx).below hb⟩, h.o.below hb, h.fo, h.can, h.cap, h.cao⟩
theorem all8_few {ns : List NodeD} {ps : List PodD} {os : List OwnD} {p : List Int} (hn : ns.length ≤ 12) (hp : ps.length ≤ 30) (ho : os.length ≤ 12) : (all8 ns ps os p).length ≤ 1000 := by
  by_cases hE : placeE ns ps os p = 0
  · have := all8_len ns ps os p
    have := placeE_len hE
    omega
  · unfold all8
    rw [if_neg hE]
    simp
end Go.Proofs.YtpdaohkpgconkaaGreat

namespace Go.Proofs.YtpdaohkpgconkaaGreat
open Go.RowKit

theorem eqSame9 (A B : Option Addr) (ca cb : Nat) (l : List Int) (w : World) (hl : l.length ≤ 9223372036854775807) (ha : IntsAt w A ca l) (hb : IntsAt w B cb l) :
    Calls Tryz.prog 28 #[.slice A l.length ca, .slice B l.length cb] w fun e w' => e = .returned (.bool true) ∧ Below w.heap.size w w' := by
  have q := eqInts_anyL A B ca cb l l w hl ha hb
  rwa [decide_eq_true (rfl : l = l)] at q
end Go.Proofs.YtpdaohkpgconkaaGreat
