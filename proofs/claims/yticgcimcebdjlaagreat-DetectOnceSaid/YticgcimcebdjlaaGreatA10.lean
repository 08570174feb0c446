/- The domains that have most of an owner's pods: the contract of detect's fullest. Condition: the cluster and the numbers lie in memory, the placement may be, and there is that owner. The clauses of a placement stand in order, each once; none is broken by less than nothing; how many are about pods. In numbers only. Which nodes are low, high, idle; the pods on a node: the contracts of heat's Low, High, Idle, Pods. Condition: the cluster, the numbers and the policy lie in memory. The placement that a cluster itself tells, of any size: the contracts of Node, placeOf and Placement. Condition: the cluster lies in memory; a number for each of its pods does, too. Which clauses say that a pod may not be where it is, and why it is to go, in numbers. No conditions but what they say. A row of lists of names that is being made, an entry at a time; how long the names of domains are. Conditions: what they say. What detect keeps of a placement, reckoned once: the contract of look. Condition: all of it lies in memory. A region of detect's look by itself: three calls, and what they answer laid into the view. Condition: the cells lie in memory. -/
import Derived.Test.YticgcimcebdjlaaGreatA09
import Derived.Handy
import Derived.Shelf.SlIterI.Collect
import Derived.StillTailTactics
import Derived.Deep.RegionHeld3
import Derived.Deep.DeepCutAuto

namespace Go.Proofs.YticgcimcebdjlaaGreat
open Go.RowKit

/-- Those of the first k domains that have as many as the most. -/
def fullK (D : List (List UInt8)) (S : List Int) (mx : Int) : Nat → List (List UInt8)
  | 0 => []
  | k + 1 => fullK D S mx k ++ (match D[k]? with
    | some d => if S[k]? = some mx then [d] else []
    | none => [])
theorem fullK_len (D : List (List UInt8)) (S : List Int) (mx : Int) : ∀ k, (fullK D S mx k).length ≤ k
  | 0 => Nat.le_refl _
  | k + 1 => by
    have := fullK_len D S mx k
    rw [fullK, List.length_append]
    split
    · split <;> simp <;> omega
    · simp; omega
theorem fullK_mem (D : List (List UInt8)) (S : List Int) (mx : Int) : ∀ k, ∀ x ∈ fullK D S mx k, x ∈ D
  | 0, x, h => by cases h
  | k + 1, x, h => by
    rw [fullK, List.mem_append] at h
    rcases h with h | h
    · exact fullK_mem D S mx k x h
    · split at h
      · rename_i d hd
        split at h
        · rw [List.mem_singleton] at h
          subst h
          exact List.mem_of_getElem? hd
        · cases h
      · cases h
def fullF (ns : List NodeD) (ps : List PodD) (os : List OwnD) (p : List Int) (ko : Nat) : List (List UInt8) := match os[ko]? with
  | some x => fullK (domsF ns ps os x.topo) (spreadF ns ps os p (ko : Int)) (Lib.maxOf (spreadF ns ps os p (ko : Int))) (domsF ns ps os x.topo).length
  | none => []

set_option maxRecDepth 100000 in
set_option maxHeartbeats 8000000 in
theorem fullest_any (A B C P : Option Addr) (ca cb cc cp : Nat) (ns : List NodeD) (ps : List PodD) (os : List OwnD) (p : List Int) (ko : Nat) (w : World) (h : SnapAt w A B C ca cb cc ns ps os) (hp : IntsAt w P cp p) (hE : placeE ns ps os p = 0) (hk : ko < os.length) :
    Calls Tryz.prog 87 #[snapV A B C ca cb cc ns ps os, .slice P p.length cp, .int .i64 (ko : Int)] w fun e w' => ∃ v, e = .returned v ∧ w'.ownsRow w.heap.size 9 1 v (fullF ns ps os p ko).length ((fullF ns ps os p ko).map encStr) ∧ Below w.heap.size w w' := by
  obtain ⟨xo, hxo⟩ : ∃ x, os[ko]? = some x := ⟨_, List.getElem?_eq_getElem hk⟩
  obtain ⟨_, hSD, _⟩ := sums_of hE h.lp hxo
  have HF : Hid (fullF ns ps os p ko = fullK (domsF ns ps os xo.topo) (spreadF ns ps os p (ko : Int)) (Lib.maxOf (spreadF ns ps os p (ko : Int))) (domsF ns ps os xo.topo).length) := Lib.hid (by unfold fullF; rw [hxo])
  have B0 : Hid (Below w.heap.size w (w.alloc (.cells (snapC A B C ca cb cc ns ps os) 26))) := Lib.hid (below1 w _)
  have S0 : Hid (Blk (w.alloc (.cells (snapC A B C ca cb cc ns ps os) 26)) w.heap.size (snapC A B C ca cb cc ns ps os) 26) := Lib.hid (Blk.new w _ _)
  have KS := Lib.hid (spread_any A B C P ca cb cc cp ns ps os p (ko : Int) _ (h.below B0.out) (hp.below B0.out))
  have KD := Lib.hid (fun W' (hb : Below w.heap.size w W') => domains_any A B C ca cb cc ns ps os xo.topo W' (h.below hb))
  have H := Lib.hid h
  have hlo := h.lo
  have HL : Hid ((domsF ns ps os xo.topo).length ≤ 1000) := Lib.hid (by rw [← hSD]; exact spread_few h.ln h.lp _)
  generalize fullF ns ps os p ko = R at HF ⊢
  generalize spreadF ns ps os p (ko : Int) = S at KS HF hSD
  generalize domsF ns ps os xo.topo = D at KD HF hSD HL
  obtain ⟨i0, hi0, hz0, hz1, hz2⟩ := info_parts str_infoD
  have HSD := Lib.hid hSD
  have HXO := Lib.hid hxo
  obtain ⟨bo, oo, hC, hbo, _⟩ := atO h.o hxo
  subst hC
  clear hp h hSD hxo
  go_enter Tryz.func87, Tryz.ntmps87
  go_upto_region 1 with fail
  try change Code.wp _ _ _ _ (w.alloc (.cells (snapC A B (some ⟨bo, oo, none⟩) ca cb cc ns ps os) 26))
  generalize (w.alloc (.cells (snapC A B (some ⟨bo, oo, none⟩) ca cb cc ns ps os) 26)) = W0 at B0 S0 KS ⊢
  have z0 : W0.cell? ⟨w.heap.size, 0, none⟩ = some (.slice A ns.length ca) := Blk.cell S0.out 0
  have z1 : W0.cell? ⟨w.heap.size, 1, none⟩ = some (.slice B ps.length cb) := Blk.cell S0.out 1
  have z2 : W0.cell? ⟨w.heap.size, 2, none⟩ = some (.slice (some ⟨bo, oo, none⟩) os.length cc) := Blk.cell S0.out 2
  go_wp2_with fail
  refine (KS.out).mono ?_
  rintro e W1 ⟨v, rfl, ho, hb⟩
  obtain ⟨XS, cS, rfl, _⟩ := La.own_slice ho
  have B1 := Lib.hid (B0.out.trans (hb.mono B0.out.size))
  have S1 := Lib.hid (S0.out.below hb S0.out.lt)
  have IS : Hid (IntsAt W1 XS cS S) := Lib.hid (IntsAt.own ho)
  clear ho hb KS z0 z1 z2 S0 B0
  have HZ : Hid (∀ W', Below W1.heap.size W1 W' → W'.cell? ⟨w.heap.size, 0, none⟩ = some (.slice A ns.length ca) ∧ W'.cell? ⟨w.heap.size, 1, none⟩ = some (.slice B ps.length cb) ∧ W'.cell? ⟨w.heap.size, 2, none⟩ = some (.slice (some ⟨bo, oo, none⟩) os.length cc) ∧ W'.cell? ⟨bo, oo + ko * 5 + 2, none⟩ = some (strV xo.topo)) := Lib.hid (fun W' hb => by
    have h1 := S1.out.below hb S1.out.lt
    obtain ⟨b', o', hA', _, c0, c1, c2, c3, c4⟩ := atO ((H.out.below B1.out).below hb).o HXO.out
    cases hA'
    exact ⟨Blk.cell h1 0, Blk.cell h1 1, Blk.cell h1 2, c2⟩)
  have KD1 := Lib.hid (fun W' (hb : Below W1.heap.size W1 W') => KD.out W' (B1.out.trans (hb.mono B1.out.size)))
  have k0 : (0 : Int) ≤ (ko : Int) := by omega
  have k1 : (ko : Int) < (os.length : Int) := by omega
  have b1s := B1.out.size
  go_upto_region 2 with fail
  go_cut [21, 22, 23] (fun u v z wc => ∃ XD cD, u = .slice XD D.length cD ∧ v = .int .i64 (D.length : Int) ∧ z = .int .i64 0 ∧ wc.ownsRow w.heap.size 9 1 (.slice XD D.length cD) D.length (D.map encStr) ∧ Below W1.heap.size W1 wc)
  case first =>
    obtain ⟨z0, z1, z2, y2⟩ := HZ.out W1 (Below.refl _ _)
    go_region_held3 (fun w' => w'.cell? ⟨w.heap.size, 0, none⟩ = some (.slice A ns.length ca) ∧ w'.cell? ⟨w.heap.size, 1, none⟩ = some (.slice B ps.length cb) ∧ w'.cell? ⟨w.heap.size, 2, none⟩ = some (.slice (some ⟨bo, oo, none⟩) os.length cc) ∧ w'.cell? ⟨bo, oo + ko * 5 + 2, none⟩ = some (strV xo.topo))
      ((refine HZ.out _ ?_; go_grown))
      (first
        | (go_at_call 130
           with_reducible refine Calls.mono (KD1.out _ ?_) ?_
           · go_grown
           rintro e wD ⟨v, rfl, ho, hb⟩
           obtain ⟨XD, cD, rfl, _⟩ := La.own_slice ho
           have HA : Hid (Below W1.heap.size W1 wD) := Lib.hid (by
             refine Below.trans ?_ (hb.mono ?_) <;> go_grown)
           have gA := HA.out
           have gAs := HA.out.size
           have OD : Hid (wD.ownsRow w.heap.size 9 1 (.slice XD D.length cD) D.length (D.map encStr)) := Lib.hid (own_base ho (Nat.le_trans b1s (by first | exact Nat.le_refl _ | simp)))
           clear hb ho)
        | skip)
    all_goals
      (try go_wp2_with fail)
      go_meet
      exact ⟨_, _, rfl, by first | rfl | trivial, by first | rfl | trivial, OD.out, by go_grown⟩
  case rest =>
    obtain ⟨XD, cD, rfl, rfl, rfl, hod, hbc⟩ := hcut
    have OD := Lib.hid hod
    have BC := Lib.hid hbc
    have SD := Lib.hid (La.own_slat hod)
    have IS2 : Hid (IntsAt wc XS cS S) := Lib.hid (IS.out.below hbc)
    have BW : Hid (Below w.heap.size w wc) := Lib.hid (B1.out.trans (hbc.mono B1.out.size))
    clear hod hbc OD HZ KD KD1 IS S1
    generalize wc = W2 at SD BC IS2 BW ⊢
    go_wp2_with fail
    go_loopw [6, 23] (fun v i wr => ∃ k : Nat, k ≤ D.length ∧ i = .int .i64 k ∧ wr.ownsRow W2.heap.size 9 1 v (fullK D S (Lib.maxOf S) k).length ((fullK D S (Lib.maxOf S) k).map encStr) ∧ Below W2.heap.size W2 wr) (fun _ i _ => D.length - (intOf i).toNat)
    case atStart => exact ⟨0, by omega, rfl, World.ownsRow_nil _ _ _ _, Below.refl _ _⟩
    case round =>
      obtain ⟨k, hk, rfl, ho, hb⟩ := hrel
      have HO := Lib.hid ho
      have HB := Lib.hid hb
      clear ho hb
      by_cases hlt : k < D.length
      case neg =>
        obtain rfl : k = D.length := by omega
        rw [← HF.out] at HO
        obtain ⟨XR, cR, rfl, _⟩ := La.own_slice HO.out
        go_wp2
        go_ret
        exact ⟨_, rfl, own_base HO.out BW.out.size, BW.out.trans (HB.out.mono BW.out.size)⟩
      obtain ⟨d, hd⟩ : ∃ d, D[k]? = some d := ⟨D[k], List.getElem?_eq_getElem hlt⟩
      have hks : k < S.length := by rw [HSD.out]; exact hlt
      obtain ⟨s, hs⟩ : ∃ s, S[k]? = some s := ⟨S[k], List.getElem?_eq_getElem hks⟩
      have hdm : (D.map encStr)[k]? = some (strV d) := by rw [List.getElem?_map, hd]; rfl
      obtain ⟨gd, od, hGD, cd0⟩ := (La.SlAt.below SD.out HB.out) k _ hdm
      obtain ⟨gs, os', hGS, _, cs0⟩ := atI (IS2.out.below HB.out).cells hs
      have HLc : Hid (∀ W', Below wr.heap.size wr W' → ∀ j, j < S.length → W'.cell? ⟨gs, os' + j, none⟩ = some (.int .i64 (S.getD j 0))) := Lib.hid (fun W' hb j hj => by
        obtain ⟨g', o', e, _, hc⟩ := atI ((IS2.out.below HB.out).below hb).cells (k := j) (x := S.getD j 0) (by simp [List.getD, List.getElem?_eq_getElem hj])
        rw [hGS] at e
        cases e
        exact hc)
      have HGD := Lib.hid hGD
      have HGS := Lib.hid hGS
      subst hGD
      subst hGS
      have k0' : (0 : Int) ≤ (k : Int) := by omega
      have k1' : (k : Int) < (D.length : Int) := by omega
      have k2' : (k : Int) < (S.length : Int) := by omega
      have KMx := Lib.hid (fun W' (hb : Below wr.heap.size wr W') => Tryz.slices_Max_int gs os' S.length cS S W' (by omega) (Nat.le_refl _) (by have := HSD.out; have := HL.out; omega) (HLc.out W' hb))
      rw [List.take_length] at KMx
      have HFK : Hid (fullK D S (Lib.maxOf S) (k + 1) = fullK D S (Lib.maxOf S) k ++ (if s = Lib.maxOf S then [d] else [])) := Lib.hid (by
        rw [fullK, hd, hs]
        simp only [Option.some.injEq])
      have hfl : Hid ((fullK D S (Lib.maxOf S) k).length ≤ k) := Lib.hid (fullK_len D S (Lib.maxOf S) k)
      generalize fullK D S (Lib.maxOf S) k = M at HO HFK hfl
      generalize Lib.maxOf S = mx at KMx HFK ⊢
      have hDl := HL.out
      clear hd hs hdm HLc HF
      go_upto_region 5 with fail
      go_quiet ((go_at_call 131; with_reducible exact Calls.quiet_of_same (KMx.out _ (belowN (Below.refl _ _) _))))
      have HO4 := Lib.hid (La.own_below HO.out (belowN (Below.refl _ wr) nq))
      have HB4 := Lib.hid (belowN HB.out nq)
      clear HO HB cd0 cs0 KMx
      generalize wr.drewN nq = W4 at HO4 HB4 ⊢
      by_cases hsm : s = mx
      · have HE : Hid (fullK D S mx (k + 1) = M ++ [d]) := Lib.hid (by rw [HFK.out, if_pos hsm])
        have hsb : (s == mx) = true := by simpa using hsm
        clear HFK
        subst hsm
        go_wp2_with (at_builtin; refine wpList_append_own _ rfl _ _ 28 rfl W2.heap.size 9 i0 (.string ⟨#[]⟩) 1 16 Tryz.underlying28 hi0 hz0 hz1 hz2 rfl (by decide) _ _ _ rfl (show World.ownsRow _ _ _ _ _ _ _ from HO4.out.alloc _) ⟨W4.heap.size, 0, none⟩ 1 1 [strV d] rfl rfl ?c1 ?c2 ?c3 ?c4 ?c5 ?_)
        case c2 => first | rfl | (intro u hu; simp at hu; subst hu; rfl)
        case c3 => have := hfl.out; have := HL.out; unfold maxLen; omega
        case c4 => have := hfl.out; have := HL.out; omega
        case c5 => have := HB4.out.size; simp; omega
        intro v4 w4 hown4 hgrow4 _
        have P4 := Lib.hid hown4
        have D4 := Lib.hid ((HB4.out.alloc HB4.out.size (.cells #[strV d] 9)).grown hgrow4 (by have := HB4.out.size; simp; omega) (fun j hj => own_gem HO4.out hj))
        clear hown4 hgrow4
        go_wp2_with fail
        go_roundw
        case rel =>
          refine ⟨k + 1, by omega, by go_num, ?_, D4.out⟩
          rw [HE.out, List.length_append, List.map_append]
          exact P4.out
        case measure => simp [intOf]; omega
      · have HE : Hid (fullK D S mx (k + 1) = M) := Lib.hid (by rw [HFK.out, if_neg hsm, List.append_nil])
        have hsb : (s == mx) = false := by simpa using hsm
        clear HFK
        go_wp2_with fail
        go_roundw
        case rel => exact ⟨k + 1, by omega, by go_num, by rw [HE.out]; exact HO4.out, HB4.out⟩
        case measure => simp [intOf]; omega
end Go.Proofs.YticgcimcebdjlaaGreat

namespace Go.Proofs.YticgcimcebdjlaaGreat
open Go.RowKit

/-- One clause stands ahead of another. -/
def Rise3 (c d : ClT) : Prop := c.1 < d.1 ∨ (c.1 = d.1 ∧ (c.2.1 < d.2.1 ∨ (c.2.1 = d.2.1 ∧ c.2.2.1 < d.2.2.1)))
theorem caps_kind (ns : List NodeD) (ps : List PodD) (p : List Int) : ∀ k, ∀ c ∈ capsU ns ps p k, c.1 = 1 ∧ 0 ≤ c.2.1 ∧ c.2.1 < (k : Int) ∧ 0 ≤ c.2.2.2
  | 0, c, h => by simp [capsU] at h
  | k + 1, c, h => by
    rw [capsU, List.mem_append] at h
    rcases h with h | h
    · have := caps_kind ns ps p k c h
      omega
    · split at h
      · obtain ⟨q, hq, rfl⟩ := List.mem_map.1 h
        refine ⟨rfl, ?_, ?_, ?_⟩
        · show (0 : Int) ≤ (k : Int); omega
        · show (k : Int) < ((k + 1 : Nat) : Int); omega
        · show 0 ≤ max 0 _; omega
      · simp at h
theorem caps_rise (ns : List NodeD) (ps : List PodD) (p : List Int) : ∀ k, (capsU ns ps p k).Pairwise Rise3
  | 0 => List.Pairwise.nil
  | k + 1 => by
    rw [capsU, List.pairwise_append]
    refine ⟨caps_rise ns ps p k, ?_, ?_⟩
    · split
      · unfold capN
        rw [List.pairwise_map]
        refine List.Pairwise.imp ?_ List.pairwise_lt_range
        intro a b hab
        refine .inr ⟨rfl, .inr ⟨rfl, ?_⟩⟩
        show (a : Int) < (b : Int)
        omega
      · exact List.Pairwise.nil
    · intro c hc d hd
      obtain ⟨h1, _, h3, _⟩ := caps_kind ns ps p k c hc
      split at hd
      · obtain ⟨q, hq, rfl⟩ := List.mem_map.1 hd
        refine .inr ⟨h1, .inl ?_⟩
        show c.2.1 < (k : Int)
        omega
      · simp at hd
theorem pods_kind (ns : List NodeD) (ps : List PodD) (os : List OwnD) (p : List Int) (kind : Nat) : ∀ k, ∀ c ∈ podsU ns ps os p kind k, c.1 = (kind : Int) ∧ 0 ≤ c.2.1 ∧ c.2.1 < (k : Int) ∧ 0 ≤ c.2.2.2
  | 0, c, h => by simp [podsU] at h
  | k + 1, c, h => by
    rw [podsU, List.mem_append] at h
    rcases h with h | h
    · have := pods_kind ns ps os p kind k c h
      omega
    · unfold podR at h
      split at h
      · simp at h
        subst h
        refine ⟨rfl, ?_, ?_, ?_⟩
        · show (0 : Int) ≤ (k : Int); omega
        · show (k : Int) < ((k + 1 : Nat) : Int); omega
        · rename_i b _
          show (0 : Int) ≤ (b : Int); omega
      · simp at h
theorem pods_rise (ns : List NodeD) (ps : List PodD) (os : List OwnD) (p : List Int) (kind : Nat) : ∀ k, (podsU ns ps os p kind k).Pairwise Rise3
  | 0 => List.Pairwise.nil
  | k + 1 => by
    rw [podsU, List.pairwise_append]
    refine ⟨pods_rise ns ps os p kind k, ?_, ?_⟩
    · unfold podR
      split
      · exact List.pairwise_singleton _ _
      · exact List.Pairwise.nil
    · intro c hc d hd
      obtain ⟨h1, _, h3, _⟩ := pods_kind ns ps os p kind k c hc
      unfold podR at hd
      split at hd
      · simp at hd
        subst hd
        refine .inr ⟨h1, .inl ?_⟩
        show c.2.1 < (k : Int)
        omega
      · simp at hd
theorem kinds_kind (ns : List NodeD) (ps : List PodD) (os : List OwnD) (p : List Int) : ∀ k, ∀ c ∈ kindsU ns ps os p k, 2 ≤ c.1 ∧ c.1 ≤ (k : Int) + 1 ∧ 0 ≤ c.2.1 ∧ c.2.1 < (p.length : Int) ∧ 0 ≤ c.2.2.2
  | 0, c, h => by simp [kindsU] at h
  | k + 1, c, h => by
    rw [kindsU, List.mem_append] at h
    rcases h with h | h
    · have := kinds_kind ns ps os p k c h
      omega
    · have := pods_kind ns ps os p (k + 2) p.length c h
      omega
theorem kinds_rise (ns : List NodeD) (ps : List PodD) (os : List OwnD) (p : List Int) : ∀ k, (kindsU ns ps os p k).Pairwise Rise3
  | 0 => List.Pairwise.nil
  | k + 1 => by
    rw [kindsU, List.pairwise_append]
    refine ⟨kinds_rise ns ps os p k, pods_rise ns ps os p (k + 2) p.length, ?_⟩
    intro c hc d hd
    have := kinds_kind ns ps os p k c hc
    have := pods_kind ns ps os p (k + 2) p.length d hd
    exact .inl (by omega)
theorem skewO_pos (l : List Int) (s : Int) : 0 ≤ skewO l s := by
  unfold skewO
  split <;> omega
theorem spreads_kind (ns : List NodeD) (ps : List PodD) (os : List OwnD) (p : List Int) : ∀ k, ∀ c ∈ spreadsU ns ps os p k, c.1 = 7 ∧ 0 ≤ c.2.1 ∧ c.2.1 < (k : Int) ∧ 0 ≤ c.2.2.2
  | 0, c, h => by simp [spreadsU] at h
  | k + 1, c, h => by
    rw [spreadsU, List.mem_append] at h
    rcases h with h | h
    · have := spreads_kind ns ps os p k c h
      omega
    · unfold spreadR at h
      split at h
      · split at h
        · simp at h
        · simp at h
          subst h
          refine ⟨rfl, ?_, ?_, skewO_pos _ _⟩
          · show (0 : Int) ≤ (k : Int); omega
          · show (k : Int) < ((k + 1 : Nat) : Int); omega
      · simp at h
theorem spreads_rise (ns : List NodeD) (ps : List PodD) (os : List OwnD) (p : List Int) : ∀ k, (spreadsU ns ps os p k).Pairwise Rise3
  | 0 => List.Pairwise.nil
  | k + 1 => by
    rw [spreadsU, List.pairwise_append]
    refine ⟨spreads_rise ns ps os p k, ?_, ?_⟩
    · unfold spreadR
      split
      · split
        · exact List.Pairwise.nil
        · exact List.pairwise_singleton _ _
      · exact List.Pairwise.nil
    · intro c hc d hd
      obtain ⟨h1, _, h3, _⟩ := spreads_kind ns ps os p k c hc
      unfold spreadR at hd
      split at hd
      · split at hd
        · simp at hd
        · simp at hd
          subst hd
          refine .inr ⟨h1, .inl ?_⟩
          show c.2.1 < (k : Int)
          omega
      · simp at hd
theorem mins_kind (ns : List NodeD) (ps : List PodD) (os : List OwnD) (p : List Int) : ∀ k, ∀ c ∈ minsU ns ps os p k, c.1 = 8 ∧ 0 ≤ c.2.1 ∧ c.2.1 < (k : Int) ∧ 0 ≤ c.2.2.2
  | 0, c, h => by simp [minsU] at h
  | k + 1, c, h => by
    rw [minsU, List.mem_append] at h
    rcases h with h | h
    · have := mins_kind ns ps os p k c h
      omega
    · unfold minR at h
      split at h
      · simp at h
        subst h
        refine ⟨rfl, ?_, ?_, ?_⟩
        · show (0 : Int) ≤ (k : Int); omega
        · show (k : Int) < ((k + 1 : Nat) : Int); omega
        · show 0 ≤ max 0 _; omega
      · simp at h
theorem mins_rise (ns : List NodeD) (ps : List PodD) (os : List OwnD) (p : List Int) : ∀ k, (minsU ns ps os p k).Pairwise Rise3
  | 0 => List.Pairwise.nil
  | k + 1 => by
    rw [minsU, List.pairwise_append]
    refine ⟨mins_rise ns ps os p k, ?_, ?_⟩
    · unfold minR
      split
      · exact List.pairwise_singleton _ _
      · exact List.Pairwise.nil
    · intro c hc d hd
      obtain ⟨h1, _, h3, _⟩ := mins_kind ns ps os p k c hc
      unfold minR at hd
      split at hd
      · simp at hd
        subst hd
        refine .inr ⟨h1, .inl ?_⟩
        show c.2.1 < (k : Int)
        omega
      · simp at hd
theorem all8_rise (ns : List NodeD) (ps : List PodD) (os : List OwnD) (p : List Int) : (all8 ns ps os p).Pairwise Rise3 := by
  unfold all8
  split
  · unfold allU
    rw [List.pairwise_append, List.pairwise_append, List.pairwise_append]
    refine ⟨⟨⟨caps_rise _ _ _ _, kinds_rise _ _ _ _ _, ?_⟩, spreads_rise _ _ _ _ _, ?_⟩, mins_rise _ _ _ _ _, ?_⟩
    · intro c hc d hd
      have := caps_kind ns ps p _ c hc
      have := kinds_kind ns ps os p _ d hd
      exact .inl (by omega)
    · intro c hc d hd
      have := spreads_kind ns ps os p _ d hd
      rcases List.mem_append.1 hc with hc | hc
      · have := caps_kind ns ps p _ c hc
        exact .inl (by omega)
      · have := kinds_kind ns ps os p _ c hc
        exact .inl (by omega)
    · intro c hc d hd
      have := mins_kind ns ps os p _ d hd
      rcases List.mem_append.1 hc with hc | hc
      · rcases List.mem_append.1 hc with hc | hc
        · have := caps_kind ns ps p _ c hc
          exact .inl (by omega)
        · have := kinds_kind ns ps os p _ c hc
          exact .inl (by omega)
      · have := spreads_kind ns ps os p _ c hc
        exact .inl (by omega)
  · exact List.Pairwise.nil
theorem rise_at {l : List ClT} (h : l.Pairwise Rise3) {i j : Nat} {c d : ClT} (hi : l[i]? = some c) (hj : l[j]? = some d) (hij : i < j) : Rise3 c d := by
  obtain ⟨h1, rfl⟩ := List.getElem?_eq_some_iff.1 hi
  obtain ⟨h2, rfl⟩ := List.getElem?_eq_some_iff.1 hj
  exact List.pairwise_iff_getElem.1 h i j h1 h2 hij
/-- Each clause is found by what it is about. -/
theorem find_rise {l : List ClT} (h : l.Pairwise Rise3) {c : ClT} (hc : c ∈ l) : findC l c.1 c.2.1 c.2.2.1 = some c.2.2.2 := by
  obtain ⟨k, hk⟩ := List.mem_iff_getElem?.1 hc
  refine findC_at hk (by simp [isC]) ?_
  intro j z hj hz
  have hr := rise_at h hz hk hj
  unfold isC
  refine decide_eq_false ?_
  rintro ⟨e1, e2, e3⟩
  unfold Rise3 at hr
  omega
end Go.Proofs.YticgcimcebdjlaaGreat

namespace Go.Proofs.YticgcimcebdjlaaGreat
open Go.RowKit Go.Maps Go.Shelf
attribute [local go_sem] Oper.semAt_some

theorem pick_any (A B C P : Option Addr) (ca cb cc cp : Nat) (ns : List NodeD) (ps : List PodD) (os : List OwnD) (p : List Int) (f : FuncId) (lb : Array Value) (F : Nat → Bool) (hfe : ∀ args w, (callFunc f args).run Tryz.prog w = .ok (.enter f args) w) (w : World) (h : SnapIn w A B C ca cb cc ns ps os) (hp : IntsAt w P cp p)
    (hF : placeE ns ps os p = 0 → ∀ (k : Nat) W', k < ns.length → Below w.heap.size w W' → Calls Tryz.prog f (#[.int .i64 (k : Int)] ++ lb) W' fun e W'' => e = .returned (.bool (F k)) ∧ Below W'.heap.size W' W'') :
    Calls Tryz.prog 55 #[snapV A B C ca cb cc ns ps os, .slice P p.length cp, .func (.func f) #[] lb] w fun e w' => ∃ v, e = .returned v ∧ w'.ownsRow w.heap.size 3 1 v (pickF ns ps os p F).length (intsC (pickF ns ps os p F)) ∧ Below w.heap.size w w' := by
  by_cases hE : placeE ns ps os p = 0
  · have e : pickF ns ps os p F = (thatU ns F ns.length).map (fun k : Nat => (k : Int)) := by unfold pickF; rw [if_pos hE]
    rw [e, List.length_map]
    exact pick_ok A B C P ca cb cc cp ns ps os p f lb F hfe w h hp hE (hF hE)
  · have e : pickF ns ps os p F = [] := by unfold pickF; rw [if_neg hE]
    rw [e]
    refine (pick_no A B C P ca cb cc cp ns ps os p _ w h hp hE).mono ?_
    rintro e w' ⟨rfl, hb⟩
    exact ⟨_, rfl, World.ownsRow_nil _ _ _ _, hb⟩
/-- What Low, High, Idle tell. -/
def lowF (ns : List NodeD) (ps : List PodD) (os : List OwnD) (p : List Int) (g : Pol) : List Int := if checkG g = 0 then pickF ns ps os p (lowB ns ps p g) else []
def highF (ns : List NodeD) (ps : List PodD) (os : List OwnD) (p : List Int) (g : Pol) : List Int := if checkG g = 0 then pickF ns ps os p (highB ns ps p g) else []
theorem own_moreH {w : World} {base base' : Nat} {e : TypeId} {size n : Nat} {v : Value} {xs : List Value} (h : w.ownsRow base e size v n xs) (hb : base' ≤ base) : w.ownsRow base' e size v n xs := by
  obtain ⟨hl, h1 | ⟨g, cap, cur, hv, h0, r⟩⟩ := h
  · exact ⟨hl, .inl h1⟩
  · exact ⟨hl, .inr ⟨g, cap, cur, hv, Nat.le_trans hb h0, r⟩⟩

set_option maxRecDepth 100000 in
set_option maxHeartbeats 2000000 in
theorem hLow_in (A B C P G : Option Addr) (ca cb cc cp cg : Nat) (ns : List NodeD) (ps : List PodD) (os : List OwnD) (p : List Int) (g : Pol) (w : World) (h : SnapIn w A B C ca cb cc ns ps os) (hp : IntsAt w P cp p) (hg : NamesAt w G cg g.drain) :
    Calls Tryz.prog 86 #[snapV A B C ca cb cc ns ps os, .slice P p.length cp, valG g G cg] w fun e w' => ∃ v, e = .returned v ∧ w'.ownsRow w.heap.size 3 1 v (lowF ns ps os p g).length (intsC (lowF ns ps os p g)) ∧ Below w.heap.size w w' := by
  have B0 : Hid (Below w.heap.size w (((w.alloc (.cells (snapC A B C ca cb cc ns ps os) 26)).alloc (.cells #[.slice P p.length cp] 32)).alloc (.cells (cellsG g G cg) 30))) := Lib.hid ((Qu.below2 w _ _).alloc (by simp; omega) _)
  have S0 : Hid (Blk (((w.alloc (.cells (snapC A B C ca cb cc ns ps os) 26)).alloc (.cells #[.slice P p.length cp] 32)).alloc (.cells (cellsG g G cg) 30)) w.heap.size (snapC A B C ca cb cc ns ps os) 26) := Lib.hid (Blk.alloc (Blk.alloc (Blk.new w _ _) _) _)
  have P0 : Hid (Blk (((w.alloc (.cells (snapC A B C ca cb cc ns ps os) 26)).alloc (.cells #[.slice P p.length cp] 32)).alloc (.cells (cellsG g G cg) 30)) (w.heap.size + 1) #[.slice P p.length cp] 32) := Lib.hid (Blk.alloc (blk2 w _ _ _) _)
  have G0 : Hid (Blk (((w.alloc (.cells (snapC A B C ca cb cc ns ps os) 26)).alloc (.cells #[.slice P p.length cp] 32)).alloc (.cells (cellsG g G cg) 30)) (w.heap.size + 1 + 1) (cellsG g G cg) 30) := Lib.hid (blk3 w _ _ _ _)
  have KG := Lib.hid (gcheck_any g G cg _ (hg.below B0.out))
  have H := Lib.hid h
  have HP := Lib.hid hp
  have KP := Lib.hid (fun W' (hb : Below w.heap.size w W') (hS : Blk W' w.heap.size (snapC A B C ca cb cc ns ps os) 26) (hP : Blk W' (w.heap.size + 1) #[.slice P p.length cp] 32) (hG : Blk W' (w.heap.size + 1 + 1) (cellsG g G cg) 30) =>
    pick_any A B C P ca cb cc cp ns ps os p 127 #[.pointer (some ⟨w.heap.size, 0, none⟩), .pointer (some ⟨w.heap.size + 1, 0, none⟩), .pointer (some ⟨w.heap.size + 1 + 1, 0, none⟩)] (lowB ns ps p g) (fun _ _ => by kernel_rfl) W' (h.low hb) (hp.below hb)
      (fun hE k W'' hk hb2 => low1_any w.heap.size (w.heap.size + 1) (w.heap.size + 1 + 1) A B C P G ca cb cc cp cg ns ps os p g k W'' (hS.below hb2 hS.lt) (hP.below hb2 hP.lt) (hG.below hb2 hG.lt) (h.low (hb.trans (hb2.mono hb.size))) (hp.below (hb.trans (hb2.mono hb.size))) hE hk))
  have E : Hid (lowF ns ps os p g = if checkG g = 0 then pickF ns ps os p (lowB ns ps p g) else []) := Lib.hid rfl
  generalize lowF ns ps os p g = R at E ⊢
  generalize pickF ns ps os p (lowB ns ps p g) = Q at KP E
  generalize checkG g = c at KG E
  clear h hp hg
  go_enter Tryz.func86, Tryz.ntmps86
  go_upto_region 1 with fail
  try change Code.wp _ _ _ _ (((w.alloc (.cells (snapC A B C ca cb cc ns ps os) 26)).alloc (.cells #[.slice P p.length cp] 32)).alloc (.cells (cellsG g G cg) 30))
  generalize (((w.alloc (.cells (snapC A B C ca cb cc ns ps os) 26)).alloc (.cells #[.slice P p.length cp] 32)).alloc (.cells (cellsG g G cg) 30)) = W at B0 S0 P0 G0 KG ⊢
  have g0 : W.cell? ⟨w.heap.size + 1 + 1, 0, none⟩ = some (.int .i64 g.l0) := Blk.cell G0.out 0
  have g1 : W.cell? ⟨w.heap.size + 1 + 1, 1, none⟩ = some (.int .i64 g.l1) := Blk.cell G0.out 1
  have g2 : W.cell? ⟨w.heap.size + 1 + 1, 2, none⟩ = some (.int .i64 g.h0) := Blk.cell G0.out 2
  have g3 : W.cell? ⟨w.heap.size + 1 + 1, 3, none⟩ = some (.int .i64 g.h1) := Blk.cell G0.out 3
  have g4 : W.cell? ⟨w.heap.size + 1 + 1, 4, none⟩ = some (.int .i64 g.on) := Blk.cell G0.out 4
  have g5 : W.cell? ⟨w.heap.size + 1 + 1, 5, none⟩ = some (.slice G g.drain.length cg) := Blk.cell G0.out 5
  have g6 : W.cell? ⟨w.heap.size + 1 + 1, 6, none⟩ = some (.int .i64 g.mx) := Blk.cell G0.out 6
  have g7 : W.cell? ⟨w.heap.size + 1 + 1, 7, none⟩ = some (.int .i64 g.tr) := Blk.cell G0.out 7
  have g8 : W.cell? ⟨w.heap.size + 1 + 1, 8, none⟩ = some (.bool g.rb) := Blk.cell G0.out 8
  go_wp2_with fail
  refine (KG.out).mono ?_
  rintro e w1 ⟨rfl, hb⟩
  have B1 := Lib.hid (B0.out.trans (hb.mono B0.out.size))
  have S1 := Lib.hid (S0.out.below hb S0.out.lt)
  have P1 := Lib.hid (P0.out.below hb P0.out.lt)
  have G1 := Lib.hid (G0.out.below hb G0.out.lt)
  clear hb KG B0 S0 P0 G0 g0 g1 g2 g3 g4 g5 g6 g7 g8
  by_cases hc : c = 0
  · subst hc
    have HE : Hid (R = Q) := Lib.hid E.out
    have s0 : w1.cell? ⟨w.heap.size, 0, none⟩ = some (.slice A ns.length ca) := Blk.cell S1.out 0
    have s1 : w1.cell? ⟨w.heap.size, 1, none⟩ = some (.slice B ps.length cb) := Blk.cell S1.out 1
    have s2 : w1.cell? ⟨w.heap.size, 2, none⟩ = some (.slice C os.length cc) := Blk.cell S1.out 2
    have p0 : w1.cell? ⟨w.heap.size + 1, 0, none⟩ = some (.slice P p.length cp) := Blk.cell P1.out 0
    have KP1 := Lib.hid (KP.out _ B1.out S1.out P1.out G1.out)
    clear KP E
    go_wp2_with fail
    refine (KP1.out).mono ?_
    rintro e w2 ⟨v, rfl, ho, hb⟩
    obtain ⟨V, cv, rfl, _⟩ := La.own_slice ho
    have D := Lib.hid (B1.out.trans (hb.mono B1.out.size))
    have HO := Lib.hid (own_moreH ho B1.out.size)
    clear ho hb s0 s1 s2 p0
    go_wp2
    go_ret
    rw [HE.out]
    exact ⟨_, rfl, HO.out, D.out⟩
  · have hcb : (c != 0) = true := by simpa using hc
    have HE : Hid (R = []) := Lib.hid (by rw [E.out, if_neg hc])
    clear E hc KP
    go_wp2
    go_ret
    rw [HE.out]
    exact ⟨_, rfl, World.ownsRow_nil _ _ _ _, B1.out⟩

set_option maxRecDepth 100000 in
set_option maxHeartbeats 2000000 in
theorem hHigh_in (A B C P G : Option Addr) (ca cb cc cp cg : Nat) (ns : List NodeD) (ps : List PodD) (os : List OwnD) (p : List Int) (g : Pol) (w : World) (h : SnapIn w A B C ca cb cc ns ps os) (hp : IntsAt w P cp p) (hg : NamesAt w G cg g.drain) :
    Calls Tryz.prog 20 #[snapV A B C ca cb cc ns ps os, .slice P p.length cp, valG g G cg] w fun e w' => ∃ v, e = .returned v ∧ w'.ownsRow w.heap.size 3 1 v (highF ns ps os p g).length (intsC (highF ns ps os p g)) ∧ Below w.heap.size w w' := by
  have B0 : Hid (Below w.heap.size w (((w.alloc (.cells (snapC A B C ca cb cc ns ps os) 26)).alloc (.cells #[.slice P p.length cp] 32)).alloc (.cells (cellsG g G cg) 30))) := Lib.hid ((Qu.below2 w _ _).alloc (by simp; omega) _)
  have S0 : Hid (Blk (((w.alloc (.cells (snapC A B C ca cb cc ns ps os) 26)).alloc (.cells #[.slice P p.length cp] 32)).alloc (.cells (cellsG g G cg) 30)) w.heap.size (snapC A B C ca cb cc ns ps os) 26) := Lib.hid (Blk.alloc (Blk.alloc (Blk.new w _ _) _) _)
  have P0 : Hid (Blk (((w.alloc (.cells (snapC A B C ca cb cc ns ps os) 26)).alloc (.cells #[.slice P p.length cp] 32)).alloc (.cells (cellsG g G cg) 30)) (w.heap.size + 1) #[.slice P p.length cp] 32) := Lib.hid (Blk.alloc (blk2 w _ _ _) _)
  have G0 : Hid (Blk (((w.alloc (.cells (snapC A B C ca cb cc ns ps os) 26)).alloc (.cells #[.slice P p.length cp] 32)).alloc (.cells (cellsG g G cg) 30)) (w.heap.size + 1 + 1) (cellsG g G cg) 30) := Lib.hid (blk3 w _ _ _ _)
  have KG := Lib.hid (gcheck_any g G cg _ (hg.below B0.out))
  have H := Lib.hid h
  have HP := Lib.hid hp
  have KP := Lib.hid (fun W' (hb : Below w.heap.size w W') (hS : Blk W' w.heap.size (snapC A B C ca cb cc ns ps os) 26) (hP : Blk W' (w.heap.size + 1) #[.slice P p.length cp] 32) (hG : Blk W' (w.heap.size + 1 + 1) (cellsG g G cg) 30) =>
    pick_any A B C P ca cb cc cp ns ps os p 56 #[.pointer (some ⟨w.heap.size, 0, none⟩), .pointer (some ⟨w.heap.size + 1, 0, none⟩), .pointer (some ⟨w.heap.size + 1 + 1, 0, none⟩)] (highB ns ps p g) (fun _ _ => by kernel_rfl) W' (h.low hb) (hp.below hb)
      (fun hE k W'' hk hb2 => high1_any w.heap.size (w.heap.size + 1) (w.heap.size + 1 + 1) A B C P G ca cb cc cp cg ns ps os p g k W'' (hS.below hb2 hS.lt) (hP.below hb2 hP.lt) (hG.below hb2 hG.lt) (h.low (hb.trans (hb2.mono hb.size))) (hp.below (hb.trans (hb2.mono hb.size))) hE hk))
  have E : Hid (highF ns ps os p g = if checkG g = 0 then pickF ns ps os p (highB ns ps p g) else []) := Lib.hid rfl
  generalize highF ns ps os p g = R at E ⊢
  generalize pickF ns ps os p (highB ns ps p g) = Q at KP E
  generalize checkG g = c at KG E
  clear h hp hg
  go_enter Tryz.func20, Tryz.ntmps20
  go_upto_region 1 with fail
  try change Code.wp _ _ _ _ (((w.alloc (.cells (snapC A B C ca cb cc ns ps os) 26)).alloc (.cells #[.slice P p.length cp] 32)).alloc (.cells (cellsG g G cg) 30))
  generalize (((w.alloc (.cells (snapC A B C ca cb cc ns ps os) 26)).alloc (.cells #[.slice P p.length cp] 32)).alloc (.cells (cellsG g G cg) 30)) = W at B0 S0 P0 G0 KG ⊢
  have g0 : W.cell? ⟨w.heap.size + 1 + 1, 0, none⟩ = some (.int .i64 g.l0) := Blk.cell G0.out 0
  have g1 : W.cell? ⟨w.heap.size + 1 + 1, 1, none⟩ = some (.int .i64 g.l1) := Blk.cell G0.out 1
  have g2 : W.cell? ⟨w.heap.size + 1 + 1, 2, none⟩ = some (.int .i64 g.h0) := Blk.cell G0.out 2
  have g3 : W.cell? ⟨w.heap.size + 1 + 1, 3, none⟩ = some (.int .i64 g.h1) := Blk.cell G0.out 3
  have g4 : W.cell? ⟨w.heap.size + 1 + 1, 4, none⟩ = some (.int .i64 g.on) := Blk.cell G0.out 4
  have g5 : W.cell? ⟨w.heap.size + 1 + 1, 5, none⟩ = some (.slice G g.drain.length cg) := Blk.cell G0.out 5
  have g6 : W.cell? ⟨w.heap.size + 1 + 1, 6, none⟩ = some (.int .i64 g.mx) := Blk.cell G0.out 6
  have g7 : W.cell? ⟨w.heap.size + 1 + 1, 7, none⟩ = some (.int .i64 g.tr) := Blk.cell G0.out 7
  have g8 : W.cell? ⟨w.heap.size + 1 + 1, 8, none⟩ = some (.bool g.rb) := Blk.cell G0.out 8
  go_wp2_with fail
  refine (KG.out).mono ?_
  rintro e w1 ⟨rfl, hb⟩
  have B1 := Lib.hid (B0.out.trans (hb.mono B0.out.size))
  have S1 := Lib.hid (S0.out.below hb S0.out.lt)
  have P1 := Lib.hid (P0.out.below hb P0.out.lt)
  have G1 := Lib.hid (G0.out.below hb G0.out.lt)
  clear hb KG B0 S0 P0 G0 g0 g1 g2 g3 g4 g5 g6 g7 g8
  by_cases hc : c = 0
  · subst hc
    have HE : Hid (R = Q) := Lib.hid E.out
    have s0 : w1.cell? ⟨w.heap.size, 0, none⟩ = some (.slice A ns.length ca) := Blk.cell S1.out 0
    have s1 : w1.cell? ⟨w.heap.size, 1, none⟩ = some (.slice B ps.length cb) := Blk.cell S1.out 1
    have s2 : w1.cell? ⟨w.heap.size, 2, none⟩ = some (.slice C os.length cc) := Blk.cell S1.out 2
    have p0 : w1.cell? ⟨w.heap.size + 1, 0, none⟩ = some (.slice P p.length cp) := Blk.cell P1.out 0
    have KP1 := Lib.hid (KP.out _ B1.out S1.out P1.out G1.out)
    clear KP E
    go_wp2_with fail
    refine (KP1.out).mono ?_
    rintro e w2 ⟨v, rfl, ho, hb⟩
    obtain ⟨V, cv, rfl, _⟩ := La.own_slice ho
    have D := Lib.hid (B1.out.trans (hb.mono B1.out.size))
    have HO := Lib.hid (own_moreH ho B1.out.size)
    clear ho hb s0 s1 s2 p0
    go_wp2
    go_ret
    rw [HE.out]
    exact ⟨_, rfl, HO.out, D.out⟩
  · have hcb : (c != 0) = true := by simpa using hc
    have HE : Hid (R = []) := Lib.hid (by rw [E.out, if_neg hc])
    clear E hc KP
    go_wp2
    go_ret
    rw [HE.out]
    exact ⟨_, rfl, World.ownsRow_nil _ _ _ _, B1.out⟩

end Go.Proofs.YticgcimcebdjlaaGreat

namespace Go.Proofs.YticgcimcebdjlaaGreat
open Go.RowKit

/-- Where a pod is, and where all are. -/
def placeP (ns : List NodeD) (x : PodD) : Int := if x.on = [] then -1 else idxF x.on (ns.map (·.name))
def placesP (ns : List NodeD) (ps : List PodD) : List Int := ps.map (placeP ns)
/-- The row when the first k are written. -/
def rowP (ns : List NodeD) (ps : List PodD) (k : Nat) : List Int := (ps.take k).map (placeP ns) ++ List.replicate (ps.length - k) 0
theorem placesP_len (ns : List NodeD) (ps : List PodD) : (placesP ns ps).length = ps.length := by simp [placesP]
theorem rowP_len (ns : List NodeD) (ps : List PodD) (k : Nat) (hk : k ≤ ps.length) : (rowP ns ps k).length = ps.length := by simp [rowP]; omega
theorem rowP_end (ns : List NodeD) (ps : List PodD) : rowP ns ps ps.length = placesP ns ps := by simp [rowP, placesP]
theorem rowP_zero (ns : List NodeD) (ps : List PodD) : rowP ns ps 0 = List.replicate ps.length 0 := by simp [rowP]
theorem rowP_step (ns : List NodeD) (ps : List PodD) (k : Nat) (x : PodD) (hx : ps[k]? = some x) : (rowP ns ps k).set k (placeP ns x) = rowP ns ps (k + 1) := by
  have hlt := (List.getElem?_eq_some_iff.1 hx).1
  have e : ps.length - k = (ps.length - (k + 1)) + 1 := by omega
  unfold rowP
  rw [e, List.replicate_succ, List.set_append_right _ _ (by simp; omega), List.take_add_one, hx]
  simp [Nat.min_eq_left (Nat.le_of_lt hlt)]

theorem run_intsB (w : World) (n : Nat) (hn : n * 8 ≤ 140737488355328) : (Instr.makeSlice 32 (.int .i64 (n : Int)) (.int .i64 (n : Int))).run Tryz.prog w = .ok (.slice (some ⟨w.heap.size, 0, none⟩) n n) (w.alloc (.cells (madeCells #[.int .i64 0] n) 3)) := by
  cases hi : Tryz.prog.info? 3 with
  | none => have h := int_infoK; rw [hi] at h; cases h
  | some i =>
    have h := int_infoK
    rw [hi] at h
    simp only [Option.map_some, Option.some.injEq, Prod.mk.injEq] at h
    obtain ⟨h0, h1, h2⟩ := h
    have k := run_make (P := Tryz.prog) w 32 3 i (.int .i64 0) Tryz.underlying32 hi h0 .i64 .i64 n n (by omega) (by omega) (by rw [h2]; omega) (by omega)
    simpa [h1, Value.cells] using k
theorem own_madeB (w : World) (n base : Nat) (hn : n * 8 ≤ 140737488355328) (hb : base ≤ w.heap.size) : (w.alloc (.cells (madeCells #[.int .i64 0] n) 3)).ownsRow base 3 1 (.slice (some ⟨w.heap.size, 0, none⟩) n n) n (intsC (List.replicate n 0)) := by
  refine ⟨by simp [intsC], .inr ⟨w.heap.size, n, madeCells #[.int .i64 0] n, rfl, hb, heap_alloc_new _ _, Nat.le_refl _, by unfold maxLen; omega, by rw [size_madeCells, Nat.mul_one], ?_⟩⟩
  rw [toList_madeCells_one, Nat.mul_one, List.take_of_length_le (by simp)]
  simp [intsC]

set_option maxRecDepth 100000 in
set_option maxHeartbeats 2000000 in
theorem indexN_in (A : Option Addr) (c q : Nat) (l : List NodeD) (name : List UInt8) (w : World) (hl : l.length ≤ 9223372036854775807) (hs : La.SlAt w A (cellsN l)) (hq : w.cell? ⟨q, 0, none⟩ = some (strV name)) :
    Calls Tryz.prog 108 #[.slice A l.length c, .func (Fn.func 109) #[] #[.pointer (some ⟨q, 0, none⟩)]] w fun e w' => e = .returned (.int .i64 (idxF name (l.map (·.name)))) ∧ Below w.heap.size w w' := by
  have HS := Lib.hid hs
  have HQ := Lib.hid hq
  have hql : q < w.heap.size := World.block_lt_of_cell? w _ hq
  have hg : ∀ (args : Array Value) (w : World), (callFunc 109 args).run Tryz.prog w = .ok (.enter 109 args) w := fun _ _ => by kernel_rfl
  obtain ⟨R, hR⟩ : ∃ R, idxF name (l.map (·.name)) = R := ⟨_, rfl⟩
  have HR := Lib.hid hR
  rw [hR]
  clear hs hq hR
  go_enter Tryz.func108, Tryz.ntmps108
  go_wp2_with fail
  go_loopw [8] (fun i wr => ∃ k : Nat, k ≤ l.length ∧ i = .int .i64 k ∧ (∀ j x, j < k → (l.map (·.name))[j]? = some x → x ≠ name) ∧ Below w.heap.size w wr) (fun i _ => l.length - (RowKit.intOf i).toNat)
  case atStart => exact ⟨0, by omega, rfl, fun j x h => by omega, Below.refl _ _⟩
  case round =>
    obtain ⟨k, hk, rfl, hn, hb⟩ := hrel
    have HN := Lib.hid hn
    have HB := Lib.hid hb
    clear hn hb
    by_cases hlt : k < l.length
    · obtain ⟨x, hx⟩ : ∃ x, l[k]? = some x := ⟨l[k], List.getElem?_eq_getElem hlt⟩
      obtain ⟨b, o, hA, hbl, c0, c1, c2, c3, c4, c5, c6, c7, c8, c9⟩ := atN (HS.out.below HB.out) hx
      subst hA
      have hxn : (l.map (·.name))[k]? = some x.name := by simp [hx]
      have HX := Lib.hid hxn
      have k0 : (0 : Int) ≤ (k : Int) := by omega
      have k1 : (k : Int) < (l.length : Int) := by omega
      have KI := Lib.hid (fun w' (hb : Below wr.heap.size wr w') => isN x name q w' ((hb.cell (p := ⟨q, 0, none⟩) (by show q < wr.heap.size; have := HB.out.size; omega)).trans ((HB.out.cell (p := ⟨q, 0, none⟩) hql).trans HQ.out)))
      clear hx hxn
      go_wp2_with fail
      refine (KI.out _ (by first | exact Below.refl _ _ | exact (Below.refl _ _).drew)).mono ?_
      rintro e w3 ⟨rfl, hb3⟩
      have B3 := Lib.hid (HB.out.trans (hb3.mono HB.out.size))
      clear hb3 KI c0 c1 c2 c3 c4 c5 c6 c7 c8 c9
      by_cases he : x.name = name
      · have hd : decide (x.name = name) = true := by simpa using he
        have HE : Hid ((k : Int) = R) := Lib.hid (by rw [← HR.out]; exact (idx_hit name _ k (by rw [HX.out, he]) HN.out).symm)
        have He := Lib.hid he
        clear he
        go_wp2
        go_ret
        exact ⟨La.retI HE.out, B3.out⟩
      · have hd : decide (x.name = name) = false := by simpa using he
        have He := Lib.hid he
        clear he
        go_wp2
        go_roundw
        case rel =>
          refine ⟨k + 1, by omega, by go_num, fun j y hj hy => ?_, B3.out⟩
          by_cases hjk : j = k
          · subst hjk
            rw [HX.out] at hy
            cases hy
            exact He.out
          · exact HN.out j y (by omega) hy
        case measure => simp [RowKit.intOf]; omega
    · obtain rfl : k = l.length := by omega
      have HE : Hid ((-1 : Int) = R) := Lib.hid (by
        rw [← HR.out]
        refine (idx_miss name _ (fun j y hy => HN.out j y ?_ hy)).symm
        rcases Nat.lt_or_ge j l.length with h | h
        · exact h
        · rw [List.getElem?_eq_none (by simpa using h)] at hy
          cases hy)
      go_wp2
      go_ret
      exact ⟨La.retI HE.out, HB.out⟩

set_option maxHeartbeats 1000000 in
theorem findN_in (A B C : Option Addr) (ca cb cc la lb lc : Nat) (l : List NodeD) (name : List UInt8) (w : World) (hl : l.length ≤ 9223372036854775807) (hs : La.SlAt w A (cellsN l)) (hn : la = l.length) :
    Calls Tryz.prog 77 #[.agg #[.slice A la ca, .slice B lb cb, .slice C lc cc], strV name] w fun e w' => e = .returned (.int .i64 (idxF name (l.map (·.name)))) ∧ Below w.heap.size w w' := by
  subst hn
  have B2 := Lib.hid (Qu.below2 w (.cells #[.slice A l.length ca, .slice B lb cb, .slice C lc cc] 26) (.cells #[strV name] 9))
  have KI := Lib.hid (indexN_in A ca (w.heap.size + 1) l name _ hl (hs.below B2.out) (by
    rw [cell_of_row _ (w.heap.size + 1) 0 _ _ _ (blk2 w (.cells #[.slice A l.length ca, .slice B lb cb, .slice C lc cc] 26) #[strV name] 9)]
    rfl))
  generalize idxF name (l.map (·.name)) = R at KI ⊢
  clear hs
  go_enter Tryz.func77, Tryz.ntmps77
  go_wp2_with fail
  refine KI.out.mono ?_
  rintro e w3 ⟨rfl, hb3⟩
  have B3 := Lib.hid (B2.out.trans (hb3.mono B2.out.size))
  clear hb3 KI
  go_wp2
  go_ret
  exact ⟨rfl, B3.out⟩

set_option maxRecDepth 100000 in
set_option maxHeartbeats 2000000 in
theorem placeOf_in (A B C : Option Addr) (ca cb cc : Nat) (ns : List NodeD) (ps : List PodD) (os : List OwnD) (x : PodD) (w : World) (h : SnapIn w A B C ca cb cc ns ps os) :
    Calls Tryz.prog 39 #[snapV A B C ca cb cc ns ps os, valP x] w fun e w' => e = .returned (.int .i64 (placeP ns x)) ∧ Below w.heap.size w w' := by
  have B2 := Lib.hid (Qu.below2 w (.cells (snapC A B C ca cb cc ns ps os) 26) (.cells (cellsP [x]).toArray 83))
  have KN := Lib.hid (fun w' (hb : Below w.heap.size w w') => findN_in A B C ca cb cc ns.length ps.length os.length ns x.on w' (by have := h.can; omega) (h.n.1.below hb) rfl)
  have E : Hid (placeP ns x = if x.on = [] then -1 else idxF x.on (ns.map (·.name))) := Lib.hid rfl
  generalize placeP ns x = R at E ⊢
  generalize idxF x.on (ns.map (·.name)) = I at KN E
  clear h
  by_cases hx : x.on = []
  · have HE : Hid (R = -1) := Lib.hid (by rw [E.out, if_pos hx])
    have hxe : x.on.isEmpty = true := by rw [hx]; rfl
    clear hx E
    go_enter Tryz.func39, Tryz.ntmps39
    go_wp2
    go_ret
    exact ⟨by rw [HE.out]; rfl, B2.out⟩
  · have HE : Hid (R = I) := Lib.hid (by rw [E.out, if_neg hx])
    have hxe : x.on.isEmpty = false := by rw [← Bool.not_eq_true, List.isEmpty_iff]; exact hx
    clear hx E
    go_enter Tryz.func39, Tryz.ntmps39
    go_wp2_with fail
    refine (KN.out _ B2.out).mono ?_
    rintro e w3 ⟨rfl, hb⟩
    have B3 := Lib.hid (B2.out.trans (hb.mono B2.out.size))
    clear hb KN
    go_wp2
    go_ret
    exact ⟨by rw [HE.out]; rfl, B3.out⟩

set_option maxRecDepth 100000 in
set_option maxHeartbeats 4000000 in
theorem placement_in (A B C : Option Addr) (ca cb cc : Nat) (ns : List NodeD) (ps : List PodD) (os : List OwnD) (w : World) (h : SnapIn w A B C ca cb cc ns ps os) (hm : ps.length * 8 ≤ 140737488355328) :
    Calls Tryz.prog 10 #[snapV A B C ca cb cc ns ps os] w fun e w' => ∃ X cx, e = .returned (.slice X (placesP ns ps).length cx) ∧ w'.ownsRow w.heap.size 3 1 (.slice X (placesP ns ps).length cx) (placesP ns ps).length (intsC (placesP ns ps)) ∧ Below w.heap.size w w' := by
  have H := Lib.hid h
  have HM := Lib.hid hm
  have B0 := Lib.hid (below1 w (.cells (snapC A B C ca cb cc ns ps os) 26))
  have S0 : Hid (Blk (w.alloc (.cells (snapC A B C ca cb cc ns ps os) 26)) w.heap.size (snapC A B C ca cb cc ns ps os) 26) := Lib.hid (Blk.new w _ _)
  have hmk := run_intsB (w.alloc (.cells (snapC A B C ca cb cc ns ps os) 26)) ps.length hm
  have O1 := Lib.hid (own_madeB (w.alloc (.cells (snapC A B C ca cb cc ns ps os) 26)) ps.length w.heap.size hm B0.out.size)
  have S1 : Hid (Blk ((w.alloc (.cells (snapC A B C ca cb cc ns ps os) 26)).alloc (.cells (madeCells #[.int .i64 0] ps.length) 3)) w.heap.size (snapC A B C ca cb cc ns ps os) 26) := Lib.hid (Blk.alloc S0.out _)
  have B1 : Hid (Below w.heap.size w ((w.alloc (.cells (snapC A B C ca cb cc ns ps os) 26)).alloc (.cells (madeCells #[.int .i64 0] ps.length) 3))) := Lib.hid (B0.out.alloc B0.out.size _)
  have hsz : (w.alloc (.cells (snapC A B C ca cb cc ns ps os) 26)).heap.size = w.heap.size + 1 := by simp
  rw [hsz] at O1 hmk
  clear h hm
  have HL := Lib.hid (placesP_len ns ps)
  have HZ := Lib.hid (rowP_zero ns ps)
  go_enter Tryz.func10, Tryz.ntmps10
  go_upto_region 2 with fail
  generalize ((w.alloc (.cells (snapC A B C ca cb cc ns ps os) 26)).alloc (.cells (madeCells #[.int .i64 0] ps.length) 3)) = W1 at O1 S1 B1 ⊢
  clear hmk B0 S0 hsz
  have t1 : W1.cell? ⟨w.heap.size, 1, none⟩ = some (.slice B ps.length cb) := Blk.cell S1.out 1
  go_wp2_with fail
  clear t1
  have HS1 := Lib.hid (H.out.low B1.out)
  go_loopw [13] (fun i wr => ∃ k : Nat, k ≤ ps.length ∧ i = .int .i64 k ∧ wr.ownsRow w.heap.size 3 1 (.slice (some ⟨w.heap.size + 1, 0, none⟩) ps.length ps.length) ps.length (intsC (rowP ns ps k)) ∧ Blk wr w.heap.size (snapC A B C ca cb cc ns ps os) 26 ∧ Below w.heap.size w wr) (fun i _ => ps.length - (RowKit.intOf i).toNat)
  case atStart => exact ⟨0, by omega, rfl, by rw [HZ.out]; exact O1.out, S1.out, B1.out⟩
  case round =>
    obtain ⟨k, hk, rfl, ho, hs, hb⟩ := hrel
    have HO := Lib.hid ho
    have HS := Lib.hid hs
    have HB := Lib.hid hb
    clear ho hs hb
    by_cases hlt : k < ps.length
    · obtain ⟨x, hx⟩ : ∃ x, ps[k]? = some x := ⟨ps[k], List.getElem?_eq_getElem hlt⟩
      have HI := Lib.hid (H.out.low HB.out)
      obtain ⟨b, o, hA, hbl, c0, c1, c2, c3, c4, c5, c6, c7, c8, c9, c10, c11, c12, c13, c14⟩ := atP HI.out.p.1 hx
      subst hA
      have k0 : (0 : Int) ≤ (k : Int) := by omega
      have k1 : (k : Int) < (ps.length : Int) := by omega
      have HX := Lib.hid hx
      clear hx
      have z0 : wr.cell? ⟨w.heap.size, 0, none⟩ = some (.slice A ns.length ca) := Blk.cell HS.out 0
      have z1 : wr.cell? ⟨w.heap.size, 1, none⟩ = some (.slice (some ⟨b, o, none⟩) ps.length cb) := Blk.cell HS.out 1
      have z2 : wr.cell? ⟨w.heap.size, 2, none⟩ = some (.slice C os.length cc) := Blk.cell HS.out 2
      go_upto_region 5 with fail
      clear z0 z1 z2 c0 c1 c2 c3 c4 c5 c6 c7 c8 c9 c10 c11 c12 c13 c14
      change Code.wp _ _ _ _ (wr.alloc (.cells (cellsP [x]).toArray 83))
      have Q2 : Hid (Blk (wr.alloc (.cells (cellsP [x]).toArray 83)) wr.heap.size (cellsP [x]).toArray 83) := Lib.hid (Blk.new wr _ _)
      have S2 := Lib.hid (Blk.alloc HS.out (.cells (cellsP [x]).toArray 83))
      have B2 := Lib.hid (HB.out.alloc HB.out.size (.cells (cellsP [x]).toArray 83))
      have O2 := Lib.hid (HO.out.alloc (.cells (cellsP [x]).toArray 83))
      have HG : Hid (w.heap.size + 1 < wr.heap.size) := Lib.hid (by
        obtain ⟨g, cur, hA, _, hgb, _⟩ := own_blk HO.out (k := k) (y := .int .i64 ((rowP ns ps k)[k]'(by rw [rowP_len _ _ _ hk]; exact hlt))) (by unfold intsC; rw [List.getElem?_map, List.getElem?_eq_getElem (by rw [rowP_len _ _ _ hk]; exact hlt)]; rfl)
        cases hA
        exact hgb.lt)
      have HGn : Hid (w.heap.size ≤ wr.heap.size) := HB.out.size |> Lib.hid
      generalize (wr.alloc (.cells (cellsP [x]).toArray 83)) = W2 at Q2 S2 B2 O2 ⊢
      generalize wr.heap.size = G at Q2 HG HGn ⊢
      have z0 : W2.cell? ⟨w.heap.size, 0, none⟩ = some (.slice A ns.length ca) := Blk.cell S2.out 0
      have z1 : W2.cell? ⟨w.heap.size, 1, none⟩ = some (.slice (some ⟨b, o, none⟩) ps.length cb) := Blk.cell S2.out 1
      have z2 : W2.cell? ⟨w.heap.size, 2, none⟩ = some (.slice C os.length cc) := Blk.cell S2.out 2
      have q0 : W2.cell? ⟨G, 0, none⟩ = some (strV x.name) := Blk.cell Q2.out 0
      have q1 : W2.cell? ⟨G, 1, none⟩ = some (strV x.owner) := Blk.cell Q2.out 1
      have q2 : W2.cell? ⟨G, 2, none⟩ = some (.int .i64 (x.req 0)) := Blk.cell Q2.out 2
      have q3 : W2.cell? ⟨G, 3, none⟩ = some (.int .i64 (x.req 1)) := Blk.cell Q2.out 3
      have q4 : W2.cell? ⟨G, 4, none⟩ = some (.int .i64 (x.req 2)) := Blk.cell Q2.out 4
      have q5 : W2.cell? ⟨G, 5, none⟩ = some (.int .i64 (x.req 3)) := Blk.cell Q2.out 5
      have q6 : W2.cell? ⟨G, 6, none⟩ = some (.int .i64 (x.req 4)) := Blk.cell Q2.out 6
      have q7 : W2.cell? ⟨G, 7, none⟩ = some (.slice x.al x.labels.length x.cl) := Blk.cell Q2.out 7
      have q8 : W2.cell? ⟨G, 8, none⟩ = some (.slice x.aw x.whr.length x.cw) := Blk.cell Q2.out 8
      have q9 : W2.cell? ⟨G, 9, none⟩ = some (.slice x.ab x.bears.length x.cb) := Blk.cell Q2.out 9
      have q10 : W2.cell? ⟨G, 10, none⟩ = some (strV x.wt) := Blk.cell Q2.out 10
      have q11 : W2.cell? ⟨G, 11, none⟩ = some (.slice x.awt x.wtm.length x.cwt) := Blk.cell Q2.out 11
      have q12 : W2.cell? ⟨G, 12, none⟩ = some (strV x.ap) := Blk.cell Q2.out 12
      have q13 : W2.cell? ⟨G, 13, none⟩ = some (.slice x.aap x.apm.length x.cap) := Blk.cell Q2.out 13
      have q14 : W2.cell? ⟨G, 14, none⟩ = some (strV x.on) := Blk.cell Q2.out 14
      have KO := Lib.hid (placeOf_in A (some ⟨b, o, none⟩) C ca cb cc ns ps os x W2 (H.out.low B2.out))
      go_wp2_with fail
      refine (KO.out).mono ?_
      rintro e w3 ⟨rfl, hb⟩
      clear z0 z1 z2 q0 q1 q2 q3 q4 q5 q6 q7 q8 q9 q10 q11 q12 q13 q14 KO
      have O3 := Lib.hid (La.own_below O2.out hb)
      have S3 := Lib.hid (S2.out.below hb S2.out.lt)
      have B3 := Lib.hid (B2.out.trans (hb.mono B2.out.size))
      clear hb O2 S2 B2 Q2
      obtain ⟨g', cur, hA', _, hgb, hgc⟩ := own_blk O3.out (k := k) (y := .int .i64 ((rowP ns ps k)[k]'(by rw [rowP_len _ _ _ hk]; exact hlt))) (by unfold intsC; rw [List.getElem?_map, List.getElem?_eq_getElem (by rw [rowP_len _ _ _ hk]; exact hlt)]; rfl)
      cases hA'
      obtain ⟨y, hy⟩ : ∃ y, w3.cell? ⟨w.heap.size + 1, k, none⟩ = some y := ⟨_, (Blk.cell hgb k).trans hgc⟩
      have g1 : w3.frozen? ⟨w.heap.size + 1, k, none⟩ = false := Blk.free hgb k
      clear hgb hgc
      have hm := HM.out
      go_wp2
      go_roundw
      case rel =>
        refine ⟨k + 1, by omega, by go_num, ?_, ?_, ?_⟩
        · have h1 := own_put O3.out k (.int .i64 (placeP ns x))
          rw [ints_set, rowP_step ns ps k x HX.out] at h1
          exact h1
        · exact Blk.oth S3.out (by omega) k _
        · exact B3.out.setCell (p := ⟨w.heap.size + 1, k, none⟩) (by show w.heap.size ≤ w.heap.size + 1; omega) _
      case measure => simp [RowKit.intOf]; omega
    · obtain rfl : k = ps.length := by omega
      have HO1 := Lib.hid HO.out
      rw [rowP_end] at HO1
      go_wp2
      go_ret
      have hl := HL.out
      exact ⟨some ⟨w.heap.size + 1, 0, none⟩, ps.length, by rw [hl]; rfl, by rw [hl]; exact HO1.out, HB.out⟩
end Go.Proofs.YticgcimcebdjlaaGreat

namespace Go.Proofs.YticgcimcebdjlaaGreat
open Go.RowKit Go.Maps

theorem kinds_b0 (ns : List NodeD) (ps : List PodD) (os : List OwnD) (p : List Int) (kind : Nat) : ∀ k, ∀ c ∈ podsU ns ps os p kind k, c.2.2.1 = 0 ∧ ∃ i : Nat, c.2.1 = (i : Int) ∧ ∃ b, ofU ns ps os p kind i = some b
  | 0, c, h => by simp [podsU] at h
  | k + 1, c, h => by
    rw [podsU, List.mem_append] at h
    rcases h with h | h
    · exact kinds_b0 ns ps os p kind k c h
    · unfold podR at h
      split at h
      · rename_i b hb
        simp at h
        subst h
        exact ⟨rfl, k, rfl, b, hb⟩
      · simp at h
theorem kinds_b (ns : List NodeD) (ps : List PodD) (os : List OwnD) (p : List Int) : ∀ k, ∀ c ∈ kindsU ns ps os p k, c.2.2.1 = 0 ∧ ∃ i kind : Nat, c.2.1 = (i : Int) ∧ ∃ b, ofU ns ps os p kind i = some b
  | 0, c, h => by simp [kindsU] at h
  | k + 1, c, h => by
    rw [kindsU, List.mem_append] at h
    rcases h with h | h
    · exact kinds_b ns ps os p k c h
    · obtain ⟨h1, i, h2, h3⟩ := kinds_b0 ns ps os p _ _ c h
      exact ⟨h1, i, _, h2, h3⟩
theorem all8_pods {ns : List NodeD} {ps : List PodD} {os : List OwnD} {p : List Int} {c : ClT} (hc : c ∈ all8 ns ps os p) (h2 : 2 ≤ c.1) (h6 : c.1 ≤ 6) : c.2.2.1 = 0 ∧ ∃ i kind : Nat, c.2.1 = (i : Int) ∧ ∃ b, ofU ns ps os p kind i = some b := by
  unfold all8 at hc
  split at hc
  · unfold allU at hc
    simp only [List.mem_append] at hc
    rcases hc with ((hc | hc) | hc) | hc
    · have := caps_kind ns ps p _ c hc
      omega
    · exact kinds_b ns ps os p _ c hc
    · have := spreads_kind ns ps os p _ c hc
      omega
    · have := mins_kind ns ps os p _ c hc
      omega
  · simp at hc
theorem all8_owner {ns : List NodeD} {ps : List PodD} {os : List OwnD} {p : List Int} {c : ClT} (hc : c ∈ all8 ns ps os p) (h7 : c.1 = 7) : ∃ i : Nat, c.2.1 = (i : Int) ∧ i < os.length := by
  unfold all8 at hc
  split at hc
  · unfold allU at hc
    simp only [List.mem_append] at hc
    rcases hc with ((hc | hc) | hc) | hc
    · have := caps_kind ns ps p _ c hc
      omega
    · have := kinds_kind ns ps os p _ c hc
      omega
    · have := spreads_kind ns ps os p _ c hc
      exact ⟨c.2.1.toNat, by omega, by omega⟩
    · have := mins_kind ns ps os p _ c hc
      omega
  · simp at hc
/-- A clause about a pod is broken just if it is among the broken ones. -/
theorem of_broken {ns : List NodeD} {ps : List PodD} {os : List OwnD} {p : List Int} {kd : Int} (h2 : 2 ≤ kd) (h6 : kd ≤ 6) (a : Int) : ((all8 ns ps os p).filter brokC).any (podCD a [kd]) = decide (0 < (findC (all8 ns ps os p) kd a 0).getD 0) := by
  rw [Bool.eq_iff_iff, List.any_eq_true, decide_eq_true_iff]
  constructor
  · rintro ⟨c, hc, hp⟩
    obtain ⟨hm, hb⟩ := List.mem_filter.1 hc
    unfold podCD at hp
    simp only [Bool.and_eq_true, decide_eq_true_iff] at hp
    have hk : c.1 = kd := by simpa using hp.2
    have h0 := (all8_pods hm (by omega) (by omega)).1
    have hf := find_rise (all8_rise ns ps os p) hm
    rw [hk, hp.1, h0] at hf
    rw [hf]
    exact of_decide_eq_true hb
  · intro h
    unfold findC at h
    cases hq : (all8 ns ps os p).find? (isC kd a 0) with
    | none => rw [hq] at h; simp at h
    | some d =>
      rw [hq] at h
      have hi : isC kd a 0 d = true := List.find?_some hq
      have hi := of_decide_eq_true hi
      refine ⟨d, List.mem_filter.2 ⟨List.mem_of_find?_eq_some hq, decide_eq_true (by simpa using h)⟩, ?_⟩
      unfold podCD
      rw [hi.1, decide_eq_true hi.2.1]
      simp
/-- No clause is about a pod that waits. -/
theorem of_wait {ns : List NodeD} {ps : List PodD} {os : List OwnD} {p : List Int} {kd : Int} (h2 : 2 ≤ kd) (h6 : kd ≤ 6) {k : Nat} (hk : p[k]? = some (-1)) : findC (all8 ns ps os p) kd (k : Int) 0 = none := by
  unfold findC
  cases hq : (all8 ns ps os p).find? (isC kd (k : Int) 0) with
  | none => rfl
  | some d =>
    have hi : isC kd (k : Int) 0 d = true := List.find?_some hq
    have hi := of_decide_eq_true hi
    obtain ⟨_, i, kind, h3, b, hb⟩ := all8_pods (List.mem_of_find?_eq_some hq) (by omega) (by omega)
    have : i = k := by omega
    subst this
    rw [ofU_wait hk] at hb
    cases hb
/-- The domains that have most of an owner's pods, of each owner whose spread is broken. -/
def fullL (ns : List NodeD) (ps : List PodD) (os : List OwnD) (p : List Int) (l : List ClT) : List (List (List UInt8)) := (List.range os.length).map fun i : Nat => if l.any (fun c => decide (c.1 = 7 ∧ c.2.1 = (i : Int))) then fullF ns ps os p i else []
theorem fullL_len (ns : List NodeD) (ps : List PodD) (os : List OwnD) (p : List Int) (l : List ClT) : (fullL ns ps os p l).length = os.length := by simp [fullL]
theorem fullL_nil (ns : List NodeD) (ps : List PodD) (os : List OwnD) (p : List Int) : fullL ns ps os p [] = List.replicate os.length [] := by
  unfold fullL
  simp [List.map_const']
theorem fullL_at (ns : List NodeD) (ps : List PodD) (os : List OwnD) (p : List Int) (l : List ClT) {i : Nat} (hi : i < os.length) : (fullL ns ps os p l)[i]? = some (if l.any (fun c => decide (c.1 = 7 ∧ c.2.1 = (i : Int))) then fullF ns ps os p i else []) := by
  unfold fullL
  rw [List.getElem?_map, List.getElem?_range hi]
  rfl
theorem fullL_other (ns : List NodeD) (ps : List PodD) (os : List OwnD) (p : List Int) (l : List ClT) {c : ClT} (hc : c.1 ≠ 7) : fullL ns ps os p (l ++ [c]) = fullL ns ps os p l := by
  unfold fullL
  congr 1
  funext i
  have hz : decide (c.1 = 7 ∧ c.2.1 = (i : Int)) = false := decide_eq_false (fun h => hc h.1)
  rw [List.any_append]
  simp only [List.any_cons, List.any_nil, Bool.or_false]
  rw [hz, Bool.or_false]
theorem fullL_on (ns : List NodeD) (ps : List PodD) (os : List OwnD) (p : List Int) (l : List ClT) {c : ClT} (hc : c.1 = 7) {i : Nat} (hi : c.2.1 = (i : Int)) : fullL ns ps os p (l ++ [c]) = (fullL ns ps os p l).set i (fullF ns ps os p i) := by
  apply List.ext_getElem?
  intro j
  by_cases hj : j < os.length
  · by_cases hij : i = j
    · subst hij
      have hR : ((fullL ns ps os p l).set i (fullF ns ps os p i))[i]? = some (fullF ns ps os p i) := by
        rw [List.getElem?_set, if_pos rfl, if_pos (by rw [fullL_len]; exact hj)]
      rw [hR, fullL_at _ _ _ _ _ hj, if_pos]
      rw [List.any_append]
      simp [hc, hi]
    · rw [List.getElem?_set, if_neg hij, fullL_at _ _ _ _ _ hj, fullL_at _ _ _ _ _ hj, List.any_append]
      have : decide (c.1 = 7 ∧ c.2.1 = (j : Int)) = false := decide_eq_false (by rintro ⟨_, h⟩; omega)
      simp only [List.any_cons, List.any_nil, Bool.or_false]
      rw [this, Bool.or_false]
  · rw [List.getElem?_eq_none (by rw [fullL_len]; omega), List.getElem?_eq_none (by rw [List.length_set, fullL_len]; omega)]
/-- With nothing on, and no drain: what is told of a pod on node n. -/
theorem heat_why {v : VwD} {k : Nat} {n : Int} {cr : Bool} (hd : v.g.drain = []) (ho : v.g.on = 0) : firstD (reasL v k n cr) = if v.l.any (podCD (k : Int) [2]) then 2 else if v.hs.contains n then 6 else 0 := by
  have h0 : onB 0 0 = true := by decide
  have h4 : onB 0 4 = false := by decide
  have h2 : onB 0 2 = false := by decide
  have h1 : onB 0 1 = false := by decide
  have h8 : onB 0 8 = false := by decide
  have h16 : onB 0 16 = false := by decide
  unfold reasL
  rw [hd, ho, h0, h4, h2, h1, h8, h16]
  simp only [Bool.true_and, Bool.false_and, firstD]
  simp
end Go.Proofs.YticgcimcebdjlaaGreat

namespace Go.Proofs.YticgcimcebdjlaaGreat
open Go.RowKit Go.Maps

theorem doms_key (ns : List NodeD) (key : List UInt8) : ∀ k, ∀ u ∈ strKeys (domsU ns key k), ∃ i : Int, domF ns i key = some u
  | 0, u, h => by
    have h' : u ∈ strKeys (.map [] : DataW Unit) := h
    simp [strKeys] at h'
  | k + 1, u, h => by
    rw [domsU] at h
    cases hd : domF ns (k : Int) key with
    | none => rw [hd] at h; exact doms_key ns key k u h
    | some v =>
      rw [hd] at h
      dsimp only at h
      rw [mem_put (keyed_doms ns key k).1] at h
      rcases h with rfl | h
      · exact ⟨_, hd⟩
      · exact doms_key ns key k u h
theorem dom_big {w : World} {A : Option Addr} {ns : List NodeD} (h : NodesAt w A ns) {i : Int} {key u : List UInt8} (hd : domF ns i key = some u) : u.length ≤ 9223372036854775807 := by
  unfold domF at hd
  split at hd
  · split at hd
    · rename_i x hx
      cases hq : x.labels.find? (fun y => decide (y.1 = key)) with
      | none => rw [hq] at hd; cases hd
      | some y =>
        rw [hq] at hd
        simp at hd
        subst hd
        exact ((h.fit x (List.mem_of_getElem? hx)).l.big y (List.mem_of_find?_eq_some hq)).2
    · cases hd
  · cases hd
theorem full_big {w : World} {A : Option Addr} {ns : List NodeD} (h : NodesAt w A ns) (ps : List PodD) (os : List OwnD) (p : List Int) (k : Nat) : ∀ u ∈ fullF ns ps os p k, u.length ≤ 9223372036854775807 := by
  intro u hu
  unfold fullF at hu
  split at hu
  · have hm := fullK_mem _ _ _ _ u hu
    unfold domsF at hm
    split at hm
    · unfold sortK at hm
      have hm := (List.mergeSort_perm _ _).mem_iff.1 hm
      obtain ⟨i, hi⟩ := doms_key ns _ _ u hm
      exact dom_big h hi
    · cases hm
  · cases hu

/-- A row of lists of names, in block Fb; its lists lie behind it. -/
def FullR (w : World) (Fb : Nat) (l : List (List (List UInt8))) : Prop := Fb < w.heap.size ∧ ∀ (i : Nat) (ds : List (List UInt8)), l[i]? = some ds → w.frozen? ⟨Fb, i, none⟩ = false ∧ ∃ D cd, w.cell? ⟨Fb, i, none⟩ = some (.slice D ds.length cd) ∧ w.ownsRow (Fb + 1) 9 1 (.slice D ds.length cd) ds.length (ds.map encStr)
theorem FullR.below {w w' : World} {Fb : Nat} {l : List (List (List UInt8))} (h : FullR w Fb l) (hb : Below w.heap.size w w') : FullR w' Fb l := by
  refine ⟨Nat.lt_of_lt_of_le h.1 hb.size, fun i ds hi => ?_⟩
  obtain ⟨h1, D, cd, h2, h3⟩ := h.2 i ds hi
  exact ⟨(hb.frozen (p := ⟨Fb, i, none⟩) h.1).trans h1, D, cd, (hb.cell (p := ⟨Fb, i, none⟩) h.1).trans h2, La.own_below h3 hb⟩
theorem own_setD {w : World} {b i n : Nat} {e : TypeId} {v u : Value} {xs : List Value} (h : w.ownsRow (b + 1) e 1 v n xs) : (w.setCell ⟨b, i, none⟩ u).ownsRow (b + 1) e 1 v n xs := by
  refine ⟨h.1, ?_⟩
  rcases h.2 with h1 | ⟨g, cap, cur, hv, hg, hh, r⟩
  · exact .inl h1
  · refine .inr ⟨g, cap, cur, hv, hg, ?_, r⟩
    rw [Below.heap_setCell _ _ _ _ (show g ≠ b by omega)]
    exact hh
theorem FullR.set {w : World} {Fb i : Nat} {l : List (List (List UInt8))} {ds : List (List UInt8)} {D : Option Addr} {cd : Nat} (h : FullR w Fb l) (hi : i < l.length) (ho : w.ownsRow (Fb + 1) 9 1 (.slice D ds.length cd) ds.length (ds.map encStr)) : FullR (w.setCell ⟨Fb, i, none⟩ (.slice D ds.length cd)) Fb (l.set i ds) := by
  have hsz : (w.setCell ⟨Fb, i, none⟩ (.slice D ds.length cd)).heap.size = w.heap.size := by simp
  refine ⟨by rw [hsz]; exact h.1, fun j es hj => ?_⟩
  rw [List.getElem?_set] at hj
  rw [World.frozen?_setCell]
  by_cases hij : i = j
  · subst hij
    rw [if_pos rfl, if_pos hi] at hj
    cases hj
    obtain ⟨h1, D0, cd0, h2, _⟩ := h.2 i l[i] (List.getElem?_eq_getElem hi)
    exact ⟨h1, D, cd, World.cell?_setCell_same _ _ _ h2, own_setD ho⟩
  · rw [if_neg hij] at hj
    obtain ⟨h1, D0, cd0, h2, h3⟩ := h.2 j es hj
    refine ⟨h1, D0, cd0, ?_, own_setD h3⟩
    rw [World.cell?_setCell_other _ _ _ _ (by intro e; cases e; exact hij rfl)]
    exact h2
theorem FullR.at {w : World} {Fb : Nat} {l : List (List (List UInt8))} (h : FullR w Fb l) (hbig : ∀ ds ∈ l, ∀ x ∈ ds, x.length ≤ 9223372036854775807) : FullAt w (some ⟨Fb, 0, none⟩) l := by
  intro i ds hi
  obtain ⟨_, D, cd, h2, h3⟩ := h.2 i ds hi
  have hc := capOwn h3
  exact ⟨Fb, 0, D, cd, rfl, h.1, by rw [Nat.zero_add]; exact h2, La.own_slat h3, hc.1, by have := hc.2; unfold maxLen at this; omega, hbig ds (List.mem_of_getElem? hi)⟩
theorem str_infoL : (Tryz.prog.info? 28).map (fun i => (i.zero, i.size, i.bytes)) = some (some (.slice none 0 0), 1, 24) := by kernel_rfl
theorem run_strsL (w : World) (n : Nat) (hn : n ≤ 1000) : (Instr.makeSlice 90 (.int .i64 (n : Int)) (.int .i64 (n : Int))).run Tryz.prog w = .ok (.slice (some ⟨w.heap.size, 0, none⟩) n n) (w.alloc (.cells (madeCells #[.slice none 0 0] n) 28)) := by
  cases hi : Tryz.prog.info? 28 with
  | none => have h := str_infoL; rw [hi] at h; cases h
  | some i =>
    have h := str_infoL
    rw [hi] at h
    simp only [Option.map_some, Option.some.injEq, Prod.mk.injEq] at h
    obtain ⟨h0, h1, h2⟩ := h
    have k := run_make (P := Tryz.prog) w 90 28 i (.slice none 0 0) Tryz.underlying90 hi h0 .i64 .i64 n n (by omega) (by omega) (by rw [h2]; omega) (by omega)
    simpa [h1, Value.cells] using k
theorem FullR.new (w : World) (n : Nat) : FullR (w.alloc (.cells (madeCells #[.slice none 0 0] n) 28)) w.heap.size (List.replicate n []) := by
  have hB := Blk.new w (madeCells #[.slice none 0 0] n) 28
  refine ⟨hB.lt, fun i ds hi => ?_⟩
  have hlt : i < n := by
    have := (List.getElem?_eq_some_iff.1 hi).1
    simpa using this
  have hds : ds = [] := by
    have h1 := List.getElem?_replicate (a := ([] : List (List UInt8))) (n := n) (i := i)
    rw [h1, if_pos hlt] at hi
    cases hi
    rfl
  subst hds
  refine ⟨Blk.free hB i, none, 0, ?_, World.ownsRow_nil _ _ _ _⟩
  rw [Blk.cell hB i]
  have h1 : i % 1 = 0 := Nat.mod_one i
  simp [madeCells, hlt, h1]
end Go.Proofs.YticgcimcebdjlaaGreat

namespace Go.Proofs.YticgcimcebdjlaaGreat
open Go.RowKit Go.Maps

abbrev zeroVw : Array Value := #[.slice none 0 0, .slice none 0 0, .slice none 0 0, .slice none 0 0, .int .i64 0, .int .i64 0, .int .i64 0, .int .i64 0, .int .i64 0, .slice none 0 0, .int .i64 0, .int .i64 0, .bool false, .slice none 0 0, .slice none 0 0, .slice none 0 0, .slice none 0 0]
/-- Seventeen cells are written. -/
abbrev set17 (W : World) (b : Nat) (v0 v1 v2 v3 v4 v5 v6 v7 v8 v9 v10 v11 v12 v13 v14 v15 v16 : Value) : World := ((((((((((((((((W.setCell ⟨b, 0, none⟩ v0).setCell ⟨b, 1, none⟩ v1).setCell ⟨b, 2, none⟩ v2).setCell ⟨b, 3, none⟩ v3).setCell ⟨b, 4, none⟩ v4).setCell ⟨b, 5, none⟩ v5).setCell ⟨b, 6, none⟩ v6).setCell ⟨b, 7, none⟩ v7).setCell ⟨b, 8, none⟩ v8).setCell ⟨b, 9, none⟩ v9).setCell ⟨b, 10, none⟩ v10).setCell ⟨b, 11, none⟩ v11).setCell ⟨b, 12, none⟩ v12).setCell ⟨b, 13, none⟩ v13).setCell ⟨b, 14, none⟩ v14).setCell ⟨b, 15, none⟩ v15).setCell ⟨b, 16, none⟩ v16
theorem blk17 {W : World} {b : Nat} {t : TypeId} {c0 c1 c2 c3 c4 c5 c6 c7 c8 c9 c10 c11 c12 c13 c14 c15 c16 : Value} (h : Blk W b #[c0, c1, c2, c3, c4, c5, c6, c7, c8, c9, c10, c11, c12, c13, c14, c15, c16] t) (v0 v1 v2 v3 v4 v5 v6 v7 v8 v9 v10 v11 v12 v13 v14 v15 v16 : Value) : Blk (set17 W b v0 v1 v2 v3 v4 v5 v6 v7 v8 v9 v10 v11 v12 v13 v14 v15 v16) b #[v0, v1, v2, v3, v4, v5, v6, v7, v8, v9, v10, v11, v12, v13, v14, v15, v16] t := by
  have h0 : Blk (W.setCell ⟨b, 0, none⟩ v0) b #[v0, c1, c2, c3, c4, c5, c6, c7, c8, c9, c10, c11, c12, c13, c14, c15, c16] t := h.set 0 v0
  have h1 : Blk ((W.setCell ⟨b, 0, none⟩ v0).setCell ⟨b, 1, none⟩ v1) b #[v0, v1, c2, c3, c4, c5, c6, c7, c8, c9, c10, c11, c12, c13, c14, c15, c16] t := h0.set 1 v1
  have h2 : Blk (((W.setCell ⟨b, 0, none⟩ v0).setCell ⟨b, 1, none⟩ v1).setCell ⟨b, 2, none⟩ v2) b #[v0, v1, v2, c3, c4, c5, c6, c7, c8, c9, c10, c11, c12, c13, c14, c15, c16] t := h1.set 2 v2
  have h3 : Blk ((((W.setCell ⟨b, 0, none⟩ v0).setCell ⟨b, 1, none⟩ v1).setCell ⟨b, 2, none⟩ v2).setCell ⟨b, 3, none⟩ v3) b #[v0, v1, v2, v3, c4, c5, c6, c7, c8, c9, c10, c11, c12, c13, c14, c15, c16] t := h2.set 3 v3
  have h4 : Blk (((((W.setCell ⟨b, 0, none⟩ v0).setCell ⟨b, 1, none⟩ v1).setCell ⟨b, 2, none⟩ v2).setCell ⟨b, 3, none⟩ v3).setCell ⟨b, 4, none⟩ v4) b #[v0, v1, v2, v3, v4, c5, c6, c7, c8, c9, c10, c11, c12, c13, c14, c15, c16] t := h3.set 4 v4
  have h5 : Blk ((((((W.setCell ⟨b, 0, none⟩ v0).setCell ⟨b, 1, none⟩ v1).setCell ⟨b, 2, none⟩ v2).setCell ⟨b, 3, none⟩ v3).setCell ⟨b, 4, none⟩ v4).setCell ⟨b, 5, none⟩ v5) b #[v0, v1, v2, v3, v4, v5, c6, c7, c8, c9, c10, c11, c12, c13, c14, c15, c16] t := h4.set 5 v5
  have h6 : Blk (((((((W.setCell ⟨b, 0, none⟩ v0).setCell ⟨b, 1, none⟩ v1).setCell ⟨b, 2, none⟩ v2).setCell ⟨b, 3, none⟩ v3).setCell ⟨b, 4, none⟩ v4).setCell ⟨b, 5, none⟩ v5).setCell ⟨b, 6, none⟩ v6) b #[v0, v1, v2, v3, v4, v5, v6, c7, c8, c9, c10, c11, c12, c13, c14, c15, c16] t := h5.set 6 v6
  have h7 : Blk ((((((((W.setCell ⟨b, 0, none⟩ v0).setCell ⟨b, 1, none⟩ v1).setCell ⟨b, 2, none⟩ v2).setCell ⟨b, 3, none⟩ v3).setCell ⟨b, 4, none⟩ v4).setCell ⟨b, 5, none⟩ v5).setCell ⟨b, 6, none⟩ v6).setCell ⟨b, 7, none⟩ v7) b #[v0, v1, v2, v3, v4, v5, v6, v7, c8, c9, c10, c11, c12, c13, c14, c15, c16] t := h6.set 7 v7
  have h8 : Blk (((((((((W.setCell ⟨b, 0, none⟩ v0).setCell ⟨b, 1, none⟩ v1).setCell ⟨b, 2, none⟩ v2).setCell ⟨b, 3, none⟩ v3).setCell ⟨b, 4, none⟩ v4).setCell ⟨b, 5, none⟩ v5).setCell ⟨b, 6, none⟩ v6).setCell ⟨b, 7, none⟩ v7).setCell ⟨b, 8, none⟩ v8) b #[v0, v1, v2, v3, v4, v5, v6, v7, v8, c9, c10, c11, c12, c13, c14, c15, c16] t := h7.set 8 v8
  have h9 : Blk ((((((((((W.setCell ⟨b, 0, none⟩ v0).setCell ⟨b, 1, none⟩ v1).setCell ⟨b, 2, none⟩ v2).setCell ⟨b, 3, none⟩ v3).setCell ⟨b, 4, none⟩ v4).setCell ⟨b, 5, none⟩ v5).setCell ⟨b, 6, none⟩ v6).setCell ⟨b, 7, none⟩ v7).setCell ⟨b, 8, none⟩ v8).setCell ⟨b, 9, none⟩ v9) b #[v0, v1, v2, v3, v4, v5, v6, v7, v8, v9, c10, c11, c12, c13, c14, c15, c16] t := h8.set 9 v9
  have h10 : Blk (((((((((((W.setCell ⟨b, 0, none⟩ v0).setCell ⟨b, 1, none⟩ v1).setCell ⟨b, 2, none⟩ v2).setCell ⟨b, 3, none⟩ v3).setCell ⟨b, 4, none⟩ v4).setCell ⟨b, 5, none⟩ v5).setCell ⟨b, 6, none⟩ v6).setCell ⟨b, 7, none⟩ v7).setCell ⟨b, 8, none⟩ v8).setCell ⟨b, 9, none⟩ v9).setCell ⟨b, 10, none⟩ v10) b #[v0, v1, v2, v3, v4, v5, v6, v7, v8, v9, v10, c11, c12, c13, c14, c15, c16] t := h9.set 10 v10
  have h11 : Blk ((((((((((((W.setCell ⟨b, 0, none⟩ v0).setCell ⟨b, 1, none⟩ v1).setCell ⟨b, 2, none⟩ v2).setCell ⟨b, 3, none⟩ v3).setCell ⟨b, 4, none⟩ v4).setCell ⟨b, 5, none⟩ v5).setCell ⟨b, 6, none⟩ v6).setCell ⟨b, 7, none⟩ v7).setCell ⟨b, 8, none⟩ v8).setCell ⟨b, 9, none⟩ v9).setCell ⟨b, 10, none⟩ v10).setCell ⟨b, 11, none⟩ v11) b #[v0, v1, v2, v3, v4, v5, v6, v7, v8, v9, v10, v11, c12, c13, c14, c15, c16] t := h10.set 11 v11
  have h12 : Blk (((((((((((((W.setCell ⟨b, 0, none⟩ v0).setCell ⟨b, 1, none⟩ v1).setCell ⟨b, 2, none⟩ v2).setCell ⟨b, 3, none⟩ v3).setCell ⟨b, 4, none⟩ v4).setCell ⟨b, 5, none⟩ v5).setCell ⟨b, 6, none⟩ v6).setCell ⟨b, 7, none⟩ v7).setCell ⟨b, 8, none⟩ v8).setCell ⟨b, 9, none⟩ v9).setCell ⟨b, 10, none⟩ v10).setCell ⟨b, 11, none⟩ v11).setCell ⟨b, 12, none⟩ v12) b #[v0, v1, v2, v3, v4, v5, v6, v7, v8, v9, v10, v11, v12, c13, c14, c15, c16] t := h11.set 12 v12
  have h13 : Blk ((((((((((((((W.setCell ⟨b, 0, none⟩ v0).setCell ⟨b, 1, none⟩ v1).setCell ⟨b, 2, none⟩ v2).setCell ⟨b, 3, none⟩ v3).setCell ⟨b, 4, none⟩ v4).setCell ⟨b, 5, none⟩ v5).setCell ⟨b, 6, none⟩ v6).setCell ⟨b, 7, none⟩ v7).setCell ⟨b, 8, none⟩ v8).setCell ⟨b, 9, none⟩ v9).setCell ⟨b, 10, none⟩ v10).setCell ⟨b, 11, none⟩ v11).setCell ⟨b, 12, none⟩ v12).setCell ⟨b, 13, none⟩ v13) b #[v0, v1, v2, v3, v4, v5, v6, v7, v8, v9, v10, v11, v12, v13, c14, c15, c16] t := h12.set 13 v13
  have h14 : Blk (((((((((((((((W.setCell ⟨b, 0, none⟩ v0).setCell ⟨b, 1, none⟩ v1).setCell ⟨b, 2, none⟩ v2).setCell ⟨b, 3, none⟩ v3).setCell ⟨b, 4, none⟩ v4).setCell ⟨b, 5, none⟩ v5).setCell ⟨b, 6, none⟩ v6).setCell ⟨b, 7, none⟩ v7).setCell ⟨b, 8, none⟩ v8).setCell ⟨b, 9, none⟩ v9).setCell ⟨b, 10, none⟩ v10).setCell ⟨b, 11, none⟩ v11).setCell ⟨b, 12, none⟩ v12).setCell ⟨b, 13, none⟩ v13).setCell ⟨b, 14, none⟩ v14) b #[v0, v1, v2, v3, v4, v5, v6, v7, v8, v9, v10, v11, v12, v13, v14, c15, c16] t := h13.set 14 v14
  have h15 : Blk ((((((((((((((((W.setCell ⟨b, 0, none⟩ v0).setCell ⟨b, 1, none⟩ v1).setCell ⟨b, 2, none⟩ v2).setCell ⟨b, 3, none⟩ v3).setCell ⟨b, 4, none⟩ v4).setCell ⟨b, 5, none⟩ v5).setCell ⟨b, 6, none⟩ v6).setCell ⟨b, 7, none⟩ v7).setCell ⟨b, 8, none⟩ v8).setCell ⟨b, 9, none⟩ v9).setCell ⟨b, 10, none⟩ v10).setCell ⟨b, 11, none⟩ v11).setCell ⟨b, 12, none⟩ v12).setCell ⟨b, 13, none⟩ v13).setCell ⟨b, 14, none⟩ v14).setCell ⟨b, 15, none⟩ v15) b #[v0, v1, v2, v3, v4, v5, v6, v7, v8, v9, v10, v11, v12, v13, v14, v15, c16] t := h14.set 15 v15
  have h16 : Blk (((((((((((((((((W.setCell ⟨b, 0, none⟩ v0).setCell ⟨b, 1, none⟩ v1).setCell ⟨b, 2, none⟩ v2).setCell ⟨b, 3, none⟩ v3).setCell ⟨b, 4, none⟩ v4).setCell ⟨b, 5, none⟩ v5).setCell ⟨b, 6, none⟩ v6).setCell ⟨b, 7, none⟩ v7).setCell ⟨b, 8, none⟩ v8).setCell ⟨b, 9, none⟩ v9).setCell ⟨b, 10, none⟩ v10).setCell ⟨b, 11, none⟩ v11).setCell ⟨b, 12, none⟩ v12).setCell ⟨b, 13, none⟩ v13).setCell ⟨b, 14, none⟩ v14).setCell ⟨b, 15, none⟩ v15).setCell ⟨b, 16, none⟩ v16) b #[v0, v1, v2, v3, v4, v5, v6, v7, v8, v9, v10, v11, v12, v13, v14, v15, v16] t := h15.set 16 v16
  exact h16
theorem below17 {w W : World} {B b : Nat} (h : Below B w W) (hb : B ≤ b) (v0 v1 v2 v3 v4 v5 v6 v7 v8 v9 v10 v11 v12 v13 v14 v15 v16 : Value) : Below B w (set17 W b v0 v1 v2 v3 v4 v5 v6 v7 v8 v9 v10 v11 v12 v13 v14 v15 v16) := ((((((((((((((((h.setCell (p := ⟨b, 0, none⟩) hb _).setCell (p := ⟨b, 1, none⟩) hb _).setCell (p := ⟨b, 2, none⟩) hb _).setCell (p := ⟨b, 3, none⟩) hb _).setCell (p := ⟨b, 4, none⟩) hb _).setCell (p := ⟨b, 5, none⟩) hb _).setCell (p := ⟨b, 6, none⟩) hb _).setCell (p := ⟨b, 7, none⟩) hb _).setCell (p := ⟨b, 8, none⟩) hb _).setCell (p := ⟨b, 9, none⟩) hb _).setCell (p := ⟨b, 10, none⟩) hb _).setCell (p := ⟨b, 11, none⟩) hb _).setCell (p := ⟨b, 12, none⟩) hb _).setCell (p := ⟨b, 13, none⟩) hb _).setCell (p := ⟨b, 14, none⟩) hb _).setCell (p := ⟨b, 15, none⟩) hb _).setCell (p := ⟨b, 16, none⟩) hb _
theorem setCell_idD {w : World} {b i : Nat} {v : Value} (h : w.cell? ⟨b, i, none⟩ = some v) : w.setCell ⟨b, i, none⟩ v = w := by
  obtain ⟨c, e, fr, hb, hc⟩ := Sort.cells_of_cell? h
  unfold World.setCell
  have e1 : (w.heap.modify b fun
      | .cells c elem frozen => .cells (if (none : Option Nat).isSome then c else c.setIfInBounds i v) elem frozen
      | o => o) = w.heap := by
    apply Array.ext_getElem?
    intro k
    rw [Array.getElem?_modify]
    by_cases hk : b = k
    · subst hk
      rw [if_pos rfl, hb]
      have e2 : c.setIfInBounds i v = c := by
        apply Array.ext_getElem?
        intro j
        rw [Array.getElem?_setIfInBounds]
        by_cases hj : i = j
        · subst hj
          rw [if_pos rfl, hc]
          have := (Array.getElem?_eq_some_iff.1 hc).1
          rw [if_pos this]
        · rw [if_neg hj]
      simp [e2]
    · rw [if_neg hk]
  exact congrArg (fun hp => ({ w with heap := hp } : World)) e1
theorem set17_idD {W : World} {b : Nat} {t : TypeId} {v0 v1 v2 v3 v4 v5 v6 v7 v8 v9 v10 v11 v12 v13 v14 v15 v16 : Value} (h : Blk W b #[v0, v1, v2, v3, v4, v5, v6, v7, v8, v9, v10, v11, v12, v13, v14, v15, v16] t) : set17 W b v0 v1 v2 v3 v4 v5 v6 v7 v8 v9 v10 v11 v12 v13 v14 v15 v16 = W := by
  show (((((((((((((((((W.setCell ⟨b, 0, none⟩ v0).setCell ⟨b, 1, none⟩ v1).setCell ⟨b, 2, none⟩ v2).setCell ⟨b, 3, none⟩ v3).setCell ⟨b, 4, none⟩ v4).setCell ⟨b, 5, none⟩ v5).setCell ⟨b, 6, none⟩ v6).setCell ⟨b, 7, none⟩ v7).setCell ⟨b, 8, none⟩ v8).setCell ⟨b, 9, none⟩ v9).setCell ⟨b, 10, none⟩ v10).setCell ⟨b, 11, none⟩ v11).setCell ⟨b, 12, none⟩ v12).setCell ⟨b, 13, none⟩ v13).setCell ⟨b, 14, none⟩ v14).setCell ⟨b, 15, none⟩ v15).setCell ⟨b, 16, none⟩ v16) = W
  rw [setCell_idD (show W.cell? ⟨b, 0, none⟩ = some v0 from Blk.cell h 0), setCell_idD (show W.cell? ⟨b, 1, none⟩ = some v1 from Blk.cell h 1), setCell_idD (show W.cell? ⟨b, 2, none⟩ = some v2 from Blk.cell h 2), setCell_idD (show W.cell? ⟨b, 3, none⟩ = some v3 from Blk.cell h 3), setCell_idD (show W.cell? ⟨b, 4, none⟩ = some v4 from Blk.cell h 4), setCell_idD (show W.cell? ⟨b, 5, none⟩ = some v5 from Blk.cell h 5), setCell_idD (show W.cell? ⟨b, 6, none⟩ = some v6 from Blk.cell h 6), setCell_idD (show W.cell? ⟨b, 7, none⟩ = some v7 from Blk.cell h 7), setCell_idD (show W.cell? ⟨b, 8, none⟩ = some v8 from Blk.cell h 8), setCell_idD (show W.cell? ⟨b, 9, none⟩ = some v9 from Blk.cell h 9), setCell_idD (show W.cell? ⟨b, 10, none⟩ = some v10 from Blk.cell h 10), setCell_idD (show W.cell? ⟨b, 11, none⟩ = some v11 from Blk.cell h 11), setCell_idD (show W.cell? ⟨b, 12, none⟩ = some v12 from Blk.cell h 12), setCell_idD (show W.cell? ⟨b, 13, none⟩ = some v13 from Blk.cell h 13), setCell_idD (show W.cell? ⟨b, 14, none⟩ = some v14 from Blk.cell h 14), setCell_idD (show W.cell? ⟨b, 15, none⟩ = some v15 from Blk.cell h 15), setCell_idD (show W.cell? ⟨b, 16, none⟩ = some v16 from Blk.cell h 16)]
/-- All but one block is as it was. -/
structure KeepX (F : Nat) (w w' : World) : Prop where
  os : w'.os = w.os
  tape : w'.tape = w.tape
  output : w'.output = w.output
  size : w.heap.size ≤ w'.heap.size
  block : ∀ k, k < w.heap.size → k ≠ F → w'.heap[k]? = w.heap[k]?
theorem KeepX.refl (F : Nat) (w : World) : KeepX F w w := ⟨rfl, rfl, rfl, Nat.le_refl _, fun _ _ _ => rfl⟩
theorem KeepX.on {F : Nat} {w w' w'' : World} (h : KeepX F w w') (hb : Below w'.heap.size w' w'') : KeepX F w w'' :=
  ⟨hb.os.trans h.os, hb.tape.trans h.tape, hb.output.trans h.output, Nat.le_trans h.size hb.size, fun k hk hF => (hb.block k (Nat.lt_of_lt_of_le hk h.size)).trans (h.block k hk hF)⟩
theorem KeepX.set {F : Nat} {w w' : World} (h : KeepX F w w') (i : Nat) (u : Value) : KeepX F w (w'.setCell ⟨F, i, none⟩ u) := by
  refine ⟨h.os, h.tape, h.output, by simpa using h.size, fun k hk hF => ?_⟩
  rw [Below.heap_setCell _ _ _ _ (show k ≠ F from hF)]
  exact h.block k hk hF
theorem KeepX.cell {F : Nat} {w w' : World} (h : KeepX F w w') {a : Addr} {v : Value} (hF : a.block ≠ F) (hc : w.cell? a = some v) (hl : a.block < w.heap.size) : w'.cell? a = some v := (World.cell?_of_block (w := w) (h.block a.block hl hF)).trans hc
theorem KeepX.blk {F b : Nat} {w w' : World} {cs : Array Value} {t : TypeId} (h : KeepX F w w') (hF : b ≠ F) (hb : Blk w b cs t) : Blk w' b cs t := (h.block b hb.lt hF).trans hb
theorem KeepX.below {F B : Nat} {w w' : World} (h : KeepX F w w') (hB : B ≤ F) (hs : B ≤ w.heap.size) : Below B w w' := ⟨h.os, h.tape, h.output, h.size, fun k hk => h.block k (by omega) (by omega)⟩
theorem KeepX.own {F base size n : Nat} {e : TypeId} {v : Value} {xs : List Value} {w w' : World} (h : KeepX F w w') (ho : w.ownsRow base e size v n xs) (hF : ∀ g, v.ownBlock = some g → g ≠ F) : w'.ownsRow base e size v n xs := by
  refine ⟨ho.1, ?_⟩
  rcases ho.2 with h1 | ⟨g, cap, cur, hv, hg, hh, r⟩
  · exact .inl h1
  · exact .inr ⟨g, cap, cur, hv, hg, (h.block g (Array.getElem?_eq_some_iff.1 hh).1 (hF g (by rw [hv]; rfl))).trans hh, r⟩
theorem own_lt {base size n : Nat} {e : TypeId} {v : Value} {xs : List Value} {w : World} (ho : w.ownsRow base e size v n xs) {g : Nat} (hg : v.ownBlock = some g) : base ≤ g ∧ g < w.heap.size := by
  rcases ho.2 with ⟨rfl, _⟩ | ⟨b, cap, cur, rfl, hb, hh, _⟩
  · cases hg
  · cases hg
    exact ⟨hb, (Array.getElem?_eq_some_iff.1 hh).1⟩
theorem keep_set {F i : Nat} {w : World} {u : Value} : KeepX F w (w.setCell ⟨F, i, none⟩ u) := (KeepX.refl F w).set i u
theorem own_setK {w : World} {b i n size : Nat} {e : TypeId} {v u : Value} {xs : List Value} (h : w.ownsRow (b + 1) e size v n xs) : (w.setCell ⟨b, i, none⟩ u).ownsRow (b + 1) e size v n xs := KeepX.own keep_set h (fun g hg => by have := (own_lt h hg).1; omega)
theorem own17 {W : World} {b n size : Nat} {e : TypeId} {v : Value} {xs : List Value} (h : W.ownsRow (b + 1) e size v n xs) (v0 v1 v2 v3 v4 v5 v6 v7 v8 v9 v10 v11 v12 v13 v14 v15 v16 : Value) : (set17 W b v0 v1 v2 v3 v4 v5 v6 v7 v8 v9 v10 v11 v12 v13 v14 v15 v16).ownsRow (b + 1) e size v n xs := own_setK (own_setK (own_setK (own_setK (own_setK (own_setK (own_setK (own_setK (own_setK (own_setK (own_setK (own_setK (own_setK (own_setK (own_setK (own_setK (own_setK h))))))))))))))))
theorem results_ctD {P : Program} {fn : Func} {p u : Tmp} {ty : TypeId} (h : fn.results = #[.cell p ty, .tmp u]) (tmps : Array Value) (w : World) (g : Nat) (t : TypeId) (cs : Array Value) (fr : Nat × Nat) (d : TypeDesc) (v2 : Value)
    (hp : tmps.getD p undef = .pointer (some ⟨g, 0, none⟩)) (hu2 : tmps.getD u undef = v2) (hg : w.heap[g]? = some (.cells cs t fr)) (hu : P.underlying ty = some d)
    (hd : (match d with | .struct _ | .array _ _ => true | _ => false) = true) (hi : (P.info? ty).map (·.size) = some cs.size) :
    (results fn tmps).run P w = .ok (.tuple #[.agg cs, v2]) w := by
  have hp' : tmps[p]?.getD undef = .pointer (some ⟨g, 0, none⟩) := by simpa using hp
  have hu' : tmps[u]?.getD undef = v2 := by simpa using hu2
  simp [results, h, hp', hu', asAddr, run_loadVar_row w g t ty cs fr d hg hu hd hi]
theorem bodyPost_ctD {P : Program} {fn : Func} {p u : Tmp} {ty : TypeId} {R : Ending → World → Prop} {a : Act} {w : World} (h : fn.results = #[.cell p ty, .tmp u]) (g : Nat) (t : TypeId) (cs : Array Value) (fr : Nat × Nat) (d : TypeDesc) (v2 : Value)
    (hd0 : a.defers = []) (hp : a.tmps.getD p undef = .pointer (some ⟨g, 0, none⟩)) (hu2 : a.tmps.getD u undef = v2) (hg : w.heap[g]? = some (.cells cs t fr))
    (hu : P.underlying ty = some d) (hd : (match d with | .struct _ | .array _ _ => true | _ => false) = true) (hi : (P.info? ty).map (·.size) = some cs.size)
    (hR : R (.returned (.tuple #[.agg cs, v2])) w) : bodyPost P fn R .ret a w :=
  bodyPost_ret (results_ctD h a.tmps w g t cs fr d v2 hp hu2 hg hu hd hi) hd0 hR
theorem KeepX.full {F Fb : Nat} {w w' : World} {l : List (List (List UInt8))} (h : KeepX F w w') (hF : F < Fb) (hl : FullR w Fb l) : FullR w' Fb l := by
  refine ⟨Nat.lt_of_lt_of_le hl.1 h.size, fun i ds hi => ?_⟩
  obtain ⟨h1, D, cd, h2, h3⟩ := hl.2 i ds hi
  refine ⟨?_, D, cd, h.cell (a := ⟨Fb, i, none⟩) (show Fb ≠ F by omega) h2 hl.1, h.own h3 (fun g hg => by have := (own_lt h3 hg).1; omega)⟩
  exact (World.frozen?_of_block (w := w) (h.block Fb hl.1 (by omega))).trans h1
/-- What is kept of these. -/
abbrev vwMk (A B C P G : Option Addr) (ca cb cc cp cg : Nat) (ns : List NodeD) (ps : List PodD) (os : List OwnD) (p : List Int) (g : Pol) (K X Y F : Option Addr) (ck cx cy cf : Nat) : VwD := ⟨A, B, C, P, G, K, X, Y, F, ca, cb, cc, cp, cg, ck, cx, cy, cf, ns, ps, os, p, g, (all8 ns ps os p).filter brokC, highF ns ps os p g, lowF ns ps os p g, fullL ns ps os p ((all8 ns ps os p).filter brokC)⟩

set_option maxRecDepth 100000 in
set_option maxHeartbeats 4000000 in
theorem look_no (A B C P G : Option Addr) (ca cb cc cp cg : Nat) (ns : List NodeD) (ps : List PodD) (os : List OwnD) (p : List Int) (g : Pol) (w : World) (h : SnapIn w A B C ca cb cc ns ps os) (hp : IntsAt w P cp p) (hg : NamesAt w G cg g.drain) (hno : ¬ (checkG g = 0 ∧ placeE ns ps os p = 0)) :
    Calls Tryz.prog 45 #[snapV A B C ca cb cc ns ps os, .slice P p.length cp, valG g G cg] w fun e w' => e = .returned (.tuple #[.agg zeroVw, .bool false]) ∧ Below w.heap.size w w' := by
  have B0 : Hid (Below w.heap.size w (((w.alloc (.cells (snapC A B C ca cb cc ns ps os) 26)).alloc (.cells (cellsG g G cg) 30)).alloc (.cells zeroVw 92))) := Lib.hid ((Qu.below2 w _ _).alloc (by simp; omega) _)
  have S0 : Hid (Blk (((w.alloc (.cells (snapC A B C ca cb cc ns ps os) 26)).alloc (.cells (cellsG g G cg) 30)).alloc (.cells zeroVw 92)) w.heap.size (snapC A B C ca cb cc ns ps os) 26) := Lib.hid (Blk.alloc (Blk.alloc (Blk.new w _ _) _) _)
  have G0 : Hid (Blk (((w.alloc (.cells (snapC A B C ca cb cc ns ps os) 26)).alloc (.cells (cellsG g G cg) 30)).alloc (.cells zeroVw 92)) (w.heap.size + 1) (cellsG g G cg) 30) := Lib.hid (Blk.alloc (blk2 w _ _ _) _)
  have V0 : Hid (Blk (((w.alloc (.cells (snapC A B C ca cb cc ns ps os) 26)).alloc (.cells (cellsG g G cg) 30)).alloc (.cells zeroVw 92)) (w.heap.size + 1 + 1) zeroVw 92) := Lib.hid (by
    have := Blk.new ((w.alloc (.cells (snapC A B C ca cb cc ns ps os) 26)).alloc (.cells (cellsG g G cg) 30)) zeroVw 92
    rwa [World.size_alloc, World.size_alloc] at this)
  have H := Lib.hid h
  have HP := Lib.hid hp
  have HN := Lib.hid hg
  have KG := Lib.hid (fun W' (hb : Below w.heap.size w W') => gcheck_any g G cg W' (hg.below hb))
  have KP := Lib.hid (fun W' (hb : Below w.heap.size w W') => pcheck_in A B C P ca cb cc cp ns ps os p W' (h.low hb) (hp.below hb))
  generalize checkG g = eg at KG hno
  generalize placeE ns ps os p = ep at KP hno
  clear h hp hg H HP HN
  go_enter Tryz.func45, Tryz.ntmps45
  go_upto_region 1 with fail
  try change Code.wp _ _ _ _ (((w.alloc (.cells (snapC A B C ca cb cc ns ps os) 26)).alloc (.cells (cellsG g G cg) 30)).alloc (.cells zeroVw 92))
  generalize (((w.alloc (.cells (snapC A B C ca cb cc ns ps os) 26)).alloc (.cells (cellsG g G cg) 30)).alloc (.cells zeroVw 92)) = W0 at B0 S0 G0 V0 ⊢
  obtain ⟨Gb, hGb⟩ : ∃ b, w.heap.size + 1 = b := ⟨_, rfl⟩
  rw [hGb] at G0 V0 ⊢
  obtain ⟨Vb, hVb⟩ : ∃ b, Gb + 1 = b := ⟨_, rfl⟩
  rw [hVb] at V0 ⊢
  have HVB := Lib.hid (show w.heap.size + 2 = Vb by omega)
  have HGV := Lib.hid hVb
  have HS0 := Lib.hid (fun W' (hb : Below W0.heap.size W0 W') => S0.out.below hb S0.out.lt)
  clear hGb hVb
  have HC0 : Hid (∀ W', Below W0.heap.size W0 W' → (W'.cell? ⟨w.heap.size, 0, none⟩ = some (.slice A ns.length ca) ∧ W'.cell? ⟨w.heap.size, 1, none⟩ = some (.slice B ps.length cb) ∧ W'.cell? ⟨w.heap.size, 2, none⟩ = some (.slice C os.length cc)) ∧ (W'.cell? ⟨Gb, 0, none⟩ = some (.int .i64 g.l0) ∧ W'.cell? ⟨Gb, 1, none⟩ = some (.int .i64 g.l1) ∧ W'.cell? ⟨Gb, 2, none⟩ = some (.int .i64 g.h0) ∧ W'.cell? ⟨Gb, 3, none⟩ = some (.int .i64 g.h1) ∧ W'.cell? ⟨Gb, 4, none⟩ = some (.int .i64 g.on) ∧ W'.cell? ⟨Gb, 5, none⟩ = some (.slice G g.drain.length cg) ∧ W'.cell? ⟨Gb, 6, none⟩ = some (.int .i64 g.mx) ∧ W'.cell? ⟨Gb, 7, none⟩ = some (.int .i64 g.tr) ∧ W'.cell? ⟨Gb, 8, none⟩ = some (.bool g.rb))) := Lib.hid (fun W' hb => by
    have h1 := S0.out.below hb S0.out.lt
    have h2 := G0.out.below hb G0.out.lt
    exact ⟨⟨Blk.cell h1 0, Blk.cell h1 1, Blk.cell h1 2⟩, Blk.cell h2 0, Blk.cell h2 1, Blk.cell h2 2, Blk.cell h2 3, Blk.cell h2 4, Blk.cell h2 5, Blk.cell h2 6, Blk.cell h2 7, Blk.cell h2 8⟩)
  have HT0 : Hid (∀ W', Below W0.heap.size W0 W' → Below w.heap.size w W') := Lib.hid (fun W' hb => B0.out.trans (hb.mono B0.out.size))
  obtain ⟨⟨s0, s1, s2⟩, g0, g1, g2, g3, g4, g5, g6, g7, g8⟩ := HC0.out _ (Below.refl _ _)
  have HV0 : Hid (∀ W', Below W0.heap.size W0 W' → Blk W' Vb zeroVw 92) := Lib.hid (fun W' hb => V0.out.below hb V0.out.lt)
  go_wp2_with fail
  refine (KG.out _ B0.out).mono ?_
  rintro e W1 ⟨rfl, hb⟩
  have HB1 := Lib.hid hb
  clear hb s0 s1 s2 g0 g1 g2 g3 g4 g5 g6 g7 g8 KG S0 G0 V0 B0
  obtain ⟨⟨s0, s1, s2⟩, g0, g1, g2, g3, g4, g5, g6, g7, g8⟩ := HC0.out _ HB1.out
  by_cases he : eg = 0
  · subst he
    have hep : ep ≠ 0 := fun e => hno ⟨rfl, e⟩
    have hepb : (ep != 0) = true := by simpa using hep
    have hepd : decide (ep = 0) = false := decide_eq_false hep
    clear hno
    go_wp2_with fail
    refine (KP.out _ (HT0.out _ HB1.out)).mono ?_
    rintro e W2 ⟨rfl, hb⟩
    have HB2 := Lib.hid (HB1.out.trans (hb.mono HB1.out.size))
    clear hb s0 s1 s2 g0 g1 g2 g3 g4 g5 g6 g7 g8 KP
    have Q := HV0.out _ HB2.out
    have D := Lib.hid (HT0.out _ HB2.out)
    have q0 : W2.cell? ⟨Vb, 0, none⟩ = some (.slice none 0 0) := Blk.cell Q 0
    have f0 := Blk.free Q 0
    have q1 : W2.cell? ⟨Vb, 1, none⟩ = some (.slice none 0 0) := Blk.cell Q 1
    have f1 := Blk.free Q 1
    have q2 : W2.cell? ⟨Vb, 2, none⟩ = some (.slice none 0 0) := Blk.cell Q 2
    have f2 := Blk.free Q 2
    have q3 : W2.cell? ⟨Vb, 3, none⟩ = some (.slice none 0 0) := Blk.cell Q 3
    have f3 := Blk.free Q 3
    have q4 : W2.cell? ⟨Vb, 4, none⟩ = some (.int .i64 0) := Blk.cell Q 4
    have f4 := Blk.free Q 4
    have q5 : W2.cell? ⟨Vb, 5, none⟩ = some (.int .i64 0) := Blk.cell Q 5
    have f5 := Blk.free Q 5
    have q6 : W2.cell? ⟨Vb, 6, none⟩ = some (.int .i64 0) := Blk.cell Q 6
    have f6 := Blk.free Q 6
    have q7 : W2.cell? ⟨Vb, 7, none⟩ = some (.int .i64 0) := Blk.cell Q 7
    have f7 := Blk.free Q 7
    have q8 : W2.cell? ⟨Vb, 8, none⟩ = some (.int .i64 0) := Blk.cell Q 8
    have f8 := Blk.free Q 8
    have q9 : W2.cell? ⟨Vb, 9, none⟩ = some (.slice none 0 0) := Blk.cell Q 9
    have f9 := Blk.free Q 9
    have q10 : W2.cell? ⟨Vb, 10, none⟩ = some (.int .i64 0) := Blk.cell Q 10
    have f10 := Blk.free Q 10
    have q11 : W2.cell? ⟨Vb, 11, none⟩ = some (.int .i64 0) := Blk.cell Q 11
    have f11 := Blk.free Q 11
    have q12 : W2.cell? ⟨Vb, 12, none⟩ = some (.bool false) := Blk.cell Q 12
    have f12 := Blk.free Q 12
    have q13 : W2.cell? ⟨Vb, 13, none⟩ = some (.slice none 0 0) := Blk.cell Q 13
    have f13 := Blk.free Q 13
    have q14 : W2.cell? ⟨Vb, 14, none⟩ = some (.slice none 0 0) := Blk.cell Q 14
    have f14 := Blk.free Q 14
    have q15 : W2.cell? ⟨Vb, 15, none⟩ = some (.slice none 0 0) := Blk.cell Q 15
    have f15 := Blk.free Q 15
    have q16 : W2.cell? ⟨Vb, 16, none⟩ = some (.slice none 0 0) := Blk.cell Q 16
    have f16 := Blk.free Q 16
    have HVW := Lib.hid HVB.out
    have QH := Lib.hid Q
    clear Q
    go_wp2_with fail
    refine bodyPost_ctD Tryz.results45 Vb _ _ _ _ (.bool false) (by rfl) (by rfl) (by rfl) (blk17 QH.out _ _ _ _ _ _ _ _ _ _ _ _ _ _ _ _ _) Tryz.underlying92 rfl (by kernel_rfl) ?_
    refine ⟨rfl, ?_⟩
    exact below17 D.out (by have := HVW.out; omega) _ _ _ _ _ _ _ _ _ _ _ _ _ _ _ _ _
  · have hegb : (eg != 0) = true := by simpa using he
    have hegd : decide (eg = 0) = false := decide_eq_false he
    clear hno s0 s1 s2 g0 g1 g2 g3 g4 g5 g6 g7 g8 KP
    have Q := HV0.out _ HB1.out
    have D := Lib.hid (HT0.out _ HB1.out)
    have q0 : W1.cell? ⟨Vb, 0, none⟩ = some (.slice none 0 0) := Blk.cell Q 0
    have f0 := Blk.free Q 0
    have q1 : W1.cell? ⟨Vb, 1, none⟩ = some (.slice none 0 0) := Blk.cell Q 1
    have f1 := Blk.free Q 1
    have q2 : W1.cell? ⟨Vb, 2, none⟩ = some (.slice none 0 0) := Blk.cell Q 2
    have f2 := Blk.free Q 2
    have q3 : W1.cell? ⟨Vb, 3, none⟩ = some (.slice none 0 0) := Blk.cell Q 3
    have f3 := Blk.free Q 3
    have q4 : W1.cell? ⟨Vb, 4, none⟩ = some (.int .i64 0) := Blk.cell Q 4
    have f4 := Blk.free Q 4
    have q5 : W1.cell? ⟨Vb, 5, none⟩ = some (.int .i64 0) := Blk.cell Q 5
    have f5 := Blk.free Q 5
    have q6 : W1.cell? ⟨Vb, 6, none⟩ = some (.int .i64 0) := Blk.cell Q 6
    have f6 := Blk.free Q 6
    have q7 : W1.cell? ⟨Vb, 7, none⟩ = some (.int .i64 0) := Blk.cell Q 7
    have f7 := Blk.free Q 7
    have q8 : W1.cell? ⟨Vb, 8, none⟩ = some (.int .i64 0) := Blk.cell Q 8
    have f8 := Blk.free Q 8
    have q9 : W1.cell? ⟨Vb, 9, none⟩ = some (.slice none 0 0) := Blk.cell Q 9
    have f9 := Blk.free Q 9
    have q10 : W1.cell? ⟨Vb, 10, none⟩ = some (.int .i64 0) := Blk.cell Q 10
    have f10 := Blk.free Q 10
    have q11 : W1.cell? ⟨Vb, 11, none⟩ = some (.int .i64 0) := Blk.cell Q 11
    have f11 := Blk.free Q 11
    have q12 : W1.cell? ⟨Vb, 12, none⟩ = some (.bool false) := Blk.cell Q 12
    have f12 := Blk.free Q 12
    have q13 : W1.cell? ⟨Vb, 13, none⟩ = some (.slice none 0 0) := Blk.cell Q 13
    have f13 := Blk.free Q 13
    have q14 : W1.cell? ⟨Vb, 14, none⟩ = some (.slice none 0 0) := Blk.cell Q 14
    have f14 := Blk.free Q 14
    have q15 : W1.cell? ⟨Vb, 15, none⟩ = some (.slice none 0 0) := Blk.cell Q 15
    have f15 := Blk.free Q 15
    have q16 : W1.cell? ⟨Vb, 16, none⟩ = some (.slice none 0 0) := Blk.cell Q 16
    have f16 := Blk.free Q 16
    have HVW := Lib.hid HVB.out
    have QH := Lib.hid Q
    clear Q
    go_wp2_with fail
    refine bodyPost_ctD Tryz.results45 Vb _ _ _ _ (.bool false) (by rfl) (by rfl) (by rfl) (blk17 QH.out _ _ _ _ _ _ _ _ _ _ _ _ _ _ _ _ _) Tryz.underlying92 rfl (by kernel_rfl) ?_
    refine ⟨rfl, ?_⟩
    exact below17 D.out (by have := HVW.out; omega) _ _ _ _ _ _ _ _ _ _ _ _ _ _ _ _ _
end Go.Proofs.YticgcimcebdjlaaGreat

namespace Go.Proofs.YticgcimcebdjlaaGreat
open Go.RowKit Go.Maps

set_option maxRecDepth 100000 in
set_option maxHeartbeats 8000000 in
theorem r3_look {s0 s2 s4 s7 s8 s9 s10 s11 s12 s13 s14 s15 s16 s17 s18 s19 s20 s21 s22 s23 s24 s25 s26 s27 s28 s29 s30 s31 s32 s33 s34 s35 s36 s37 s38 s39 s40 s41 s42 s43 s44 s45 s46 s47 s48 s49 s50 s51 s52 s53 s54 s55 s56 s57 s58 s59 s60 s61 : Value} {A B C P G : Option Addr} {na nb nc np ng ca cb cc cp cg : Nat} {l0 l1 h0 h1 on mx tr : Int} {rb : Bool} {n Gb Vb : Nat} {L : List ClT} {Hs Ls : List Int} {W2 : World} {Q : Exit → Act → World → Prop}
    (KB : Hid (∀ W', Below W2.heap.size W2 W' → Calls Tryz.prog 19 #[.agg #[.slice A na ca, .slice B nb cb, .slice C nc cc], .slice P np cp] W' fun e w' => ∃ v, e = .returned v ∧ w'.ownsRow (Vb + 1) 50 4 v L.length (cells4 L) ∧ Below W'.heap.size W' w'))
    (KH : Hid (∀ W', Below W2.heap.size W2 W' → Calls Tryz.prog 20 #[.agg #[.slice A na ca, .slice B nb cb, .slice C nc cc], .slice P np cp, .agg #[.int .i64 l0, .int .i64 l1, .int .i64 h0, .int .i64 h1, .int .i64 on, .slice G ng cg, .int .i64 mx, .int .i64 tr, .bool rb]] W' fun e w' => ∃ v, e = .returned v ∧ w'.ownsRow (Vb + 1) 3 1 v Hs.length (intsC Hs) ∧ Below W'.heap.size W' w'))
    (KL : Hid (∀ W', Below W2.heap.size W2 W' → Calls Tryz.prog 86 #[.agg #[.slice A na ca, .slice B nb cb, .slice C nc cc], .slice P np cp, .agg #[.int .i64 l0, .int .i64 l1, .int .i64 h0, .int .i64 h1, .int .i64 on, .slice G ng cg, .int .i64 mx, .int .i64 tr, .bool rb]] W' fun e w' => ∃ v, e = .returned v ∧ w'.ownsRow (Vb + 1) 3 1 v Ls.length (intsC Ls) ∧ Below W'.heap.size W' w'))
    (HC0 : Hid (∀ W', Below W2.heap.size W2 W' → (W'.cell? ⟨n, 0, none⟩ = some (.slice A na ca) ∧ W'.cell? ⟨n, 1, none⟩ = some (.slice B nb cb) ∧ W'.cell? ⟨n, 2, none⟩ = some (.slice C nc cc)) ∧ (W'.cell? ⟨Gb, 0, none⟩ = some (.int .i64 l0) ∧ W'.cell? ⟨Gb, 1, none⟩ = some (.int .i64 l1) ∧ W'.cell? ⟨Gb, 2, none⟩ = some (.int .i64 h0) ∧ W'.cell? ⟨Gb, 3, none⟩ = some (.int .i64 h1) ∧ W'.cell? ⟨Gb, 4, none⟩ = some (.int .i64 on) ∧ W'.cell? ⟨Gb, 5, none⟩ = some (.slice G ng cg) ∧ W'.cell? ⟨Gb, 6, none⟩ = some (.int .i64 mx) ∧ W'.cell? ⟨Gb, 7, none⟩ = some (.int .i64 tr) ∧ W'.cell? ⟨Gb, 8, none⟩ = some (.bool rb))))
    (hV0 : Blk W2 Vb zeroVw 92) (hnv : n < Vb) (hgl : Gb < Vb)
    (hQ : ∀ (K X Y : Option Addr) (ck cx cy : Nat) (wc : World) (t20 t21 t22 t23 t24 t25 t26 t27 t28 t29 t30 t31 t32 t33 t34 : Value), Blk wc Vb #[.slice A na ca, .slice B nb cb, .slice C nc cc, .slice P np cp, .int .i64 l0, .int .i64 l1, .int .i64 h0, .int .i64 h1, .int .i64 on, .slice G ng cg, .int .i64 mx, .int .i64 tr, .bool rb, .slice K L.length ck, .slice X Hs.length cx, .slice Y Ls.length cy, .slice none 0 0] 92 → (wc.ownsRow (Vb + 1) 50 4 (.slice K L.length ck) L.length (cells4 L) ∧ wc.ownsRow (Vb + 1) 3 1 (.slice X Hs.length cx) Hs.length (intsC Hs) ∧ wc.ownsRow (Vb + 1) 3 1 (.slice Y Ls.length cy) Ls.length (intsC Ls)) → Below Vb W2 wc → Q .normal { tmps := #[s0, .slice P np cp, s2, .pointer (some ⟨n, 0, none⟩), s4, .pointer (some ⟨Gb, 0, none⟩), .pointer (some ⟨Vb, 0, none⟩), s7, s8, s9, s10, s11, s12, s13, s14, s15, s16, s17, s18, s19, t20, t21, t22, t23, t24, t25, t26, t27, t28, t29, t30, t31, t32, t33, t34, s35, s36, s37, s38, s39, s40, s41, s42, s43, s44, s45, s46, s47, s48, s49, s50, s51, s52, s53, s54, s55, s56, s57, s58, s59, s60, s61], defers := [] } wc) :
    Code.wp Tryz.prog (Code.region 3 #[{ dst := some 20, op := Op.load 26 (Operand.tmp 3), type := 26, pos := "view.go:28", after := #[], guard := none }, { dst := some 21, op := Op.move (Operand.tmp 1), type := 32, pos := "view.go:28", after := #[], guard := none }, { dst := some 22, op := Op.load 30 (Operand.tmp 5), type := 30, pos := "view.go:28", after := #[], guard := none }, { dst := some 23, op := Op.load 26 (Operand.tmp 3), type := 26, pos := "view.go:28", after := #[], guard := none }, { dst := some 24, op := Op.move (Operand.tmp 1), type := 32, pos := "view.go:28", after := #[], guard := none }, { dst := some 25, op := Op.call { callee := Callee.value (Operand.func 19), args := #[Operand.tmp 23, Operand.tmp 24], argTypes := #[26, 32] }, type := 46, pos := "view.go:28", after := #[{ on := 3, ground := Ground.data }, { on := 4, ground := Ground.data }], guard := none }, { dst := some 26, op := Op.load 26 (Operand.tmp 3), type := 26, pos := "view.go:28", after := #[], guard := none }, { dst := some 27, op := Op.move (Operand.tmp 1), type := 32, pos := "view.go:28", after := #[], guard := none }, { dst := some 28, op := Op.load 30 (Operand.tmp 5), type := 30, pos := "view.go:28", after := #[], guard := none }, { dst := some 29, op := Op.call { callee := Callee.value (Operand.func 20), args := #[Operand.tmp 26, Operand.tmp 27, Operand.tmp 28], argTypes := #[26, 32, 30] }, type := 32, pos := "view.go:28", after := #[{ on := 6, ground := Ground.data }, { on := 7, ground := Ground.data }, { on := 8, ground := Ground.data }, { on := 5, ground := Ground.chain }], guard := none }, { dst := some 30, op := Op.load 26 (Operand.tmp 3), type := 26, pos := "view.go:28", after := #[], guard := none }, { dst := some 31, op := Op.move (Operand.tmp 1), type := 32, pos := "view.go:28", after := #[], guard := none }, { dst := some 32, op := Op.load 30 (Operand.tmp 5), type := 30, pos := "view.go:28", after := #[], guard := none }, { dst := some 33, op := Op.call { callee := Callee.value (Operand.func 86), args := #[Operand.tmp 30, Operand.tmp 31, Operand.tmp 32], argTypes := #[26, 32, 30] }, type := 32, pos := "view.go:28", after := #[{ on := 10, ground := Ground.data }, { on := 11, ground := Ground.data }, { on := 12, ground := Ground.data }, { on := 9, ground := Ground.chain }], guard := none }, { dst := some 34, op := Op.build 92 #[(0, Operand.tmp 20), (1, Operand.tmp 21), (2, Operand.tmp 22), (3, Operand.tmp 25), (4, Operand.tmp 29), (5, Operand.tmp 33)], type := 92, pos := "view.go:28", after := #[{ on := 0, ground := Ground.data }, { on := 1, ground := Ground.data }, { on := 2, ground := Ground.data }, { on := 5, ground := Ground.data }, { on := 9, ground := Ground.data }, { on := 13, ground := Ground.data }], guard := none }, { dst := none, op := Op.store 92 (Operand.tmp 6) (Operand.tmp 34), type := 0, pos := "view.go:28", after := #[{ on := 14, ground := Ground.data }, { on := 13, ground := Ground.chain }, { on := 0, ground := Ground.phase }, { on := 1, ground := Ground.phase }, { on := 2, ground := Ground.phase }, { on := 3, ground := Ground.phase }, { on := 4, ground := Ground.phase }, { on := 5, ground := Ground.phase }, { on := 6, ground := Ground.phase }, { on := 7, ground := Ground.phase }, { on := 8, ground := Ground.phase }, { on := 9, ground := Ground.phase }, { on := 10, ground := Ground.phase }, { on := 11, ground := Ground.phase }, { on := 12, ground := Ground.phase }, { on := 13, ground := Ground.phase }, { on := 14, ground := Ground.phase }], guard := none }] true) Q { tmps := #[s0, .slice P np cp, s2, .pointer (some ⟨n, 0, none⟩), s4, .pointer (some ⟨Gb, 0, none⟩), .pointer (some ⟨Vb, 0, none⟩), s7, s8, s9, s10, s11, s12, s13, s14, s15, s16, s17, s18, s19, s20, s21, s22, s23, s24, s25, s26, s27, s28, s29, s30, s31, s32, s33, s34, s35, s36, s37, s38, s39, s40, s41, s42, s43, s44, s45, s46, s47, s48, s49, s50, s51, s52, s53, s54, s55, s56, s57, s58, s59, s60, s61], defers := [] } W2 := by
  have HQQ := Lib.hid hQ
  have HNV := Lib.hid hnv
  have HGL := Lib.hid hgl
  have HVL := Lib.hid hV0.lt
  have HV0 : Hid (∀ W', Below W2.heap.size W2 W' → Blk W' Vb zeroVw 92) := Lib.hid (fun W' hb => hV0.below hb hV0.lt)
  clear hQ hV0 hnv hgl
  have D0 : Hid (Below W2.heap.size W2 W2.drew) := Lib.hid (Below.refl _ W2).drew
  have T0 := HC0.out _ D0.out
  have HTX : Hid (∀ W' W'', ((W'.cell? ⟨n, 0, none⟩ = some (.slice A na ca) ∧ W'.cell? ⟨n, 1, none⟩ = some (.slice B nb cb) ∧ W'.cell? ⟨n, 2, none⟩ = some (.slice C nc cc)) ∧ (W'.cell? ⟨Gb, 0, none⟩ = some (.int .i64 l0) ∧ W'.cell? ⟨Gb, 1, none⟩ = some (.int .i64 l1) ∧ W'.cell? ⟨Gb, 2, none⟩ = some (.int .i64 h0) ∧ W'.cell? ⟨Gb, 3, none⟩ = some (.int .i64 h1) ∧ W'.cell? ⟨Gb, 4, none⟩ = some (.int .i64 on) ∧ W'.cell? ⟨Gb, 5, none⟩ = some (.slice G ng cg) ∧ W'.cell? ⟨Gb, 6, none⟩ = some (.int .i64 mx) ∧ W'.cell? ⟨Gb, 7, none⟩ = some (.int .i64 tr) ∧ W'.cell? ⟨Gb, 8, none⟩ = some (.bool rb))) → Below Vb W' W'' → ((W''.cell? ⟨n, 0, none⟩ = some (.slice A na ca) ∧ W''.cell? ⟨n, 1, none⟩ = some (.slice B nb cb) ∧ W''.cell? ⟨n, 2, none⟩ = some (.slice C nc cc)) ∧ (W''.cell? ⟨Gb, 0, none⟩ = some (.int .i64 l0) ∧ W''.cell? ⟨Gb, 1, none⟩ = some (.int .i64 l1) ∧ W''.cell? ⟨Gb, 2, none⟩ = some (.int .i64 h0) ∧ W''.cell? ⟨Gb, 3, none⟩ = some (.int .i64 h1) ∧ W''.cell? ⟨Gb, 4, none⟩ = some (.int .i64 on) ∧ W''.cell? ⟨Gb, 5, none⟩ = some (.slice G ng cg) ∧ W''.cell? ⟨Gb, 6, none⟩ = some (.int .i64 mx) ∧ W''.cell? ⟨Gb, 7, none⟩ = some (.int .i64 tr) ∧ W''.cell? ⟨Gb, 8, none⟩ = some (.bool rb)))) := Lib.hid (fun W' W'' h hb => by
    have e1 := fun i => hb.cell (p := ⟨n, i, none⟩) HNV.out
    have e2 := fun i => hb.cell (p := ⟨Gb, i, none⟩) HGL.out
    rw [e1, e1, e1, e2, e2, e2, e2, e2, e2, e2, e2, e2]
    exact h)
  go_region_held3 (fun w' => (w'.cell? ⟨n, 0, none⟩ = some (.slice A na ca) ∧ w'.cell? ⟨n, 1, none⟩ = some (.slice B nb cb) ∧ w'.cell? ⟨n, 2, none⟩ = some (.slice C nc cc)) ∧ (w'.cell? ⟨Gb, 0, none⟩ = some (.int .i64 l0) ∧ w'.cell? ⟨Gb, 1, none⟩ = some (.int .i64 l1) ∧ w'.cell? ⟨Gb, 2, none⟩ = some (.int .i64 h0) ∧ w'.cell? ⟨Gb, 3, none⟩ = some (.int .i64 h1) ∧ w'.cell? ⟨Gb, 4, none⟩ = some (.int .i64 on) ∧ w'.cell? ⟨Gb, 5, none⟩ = some (.slice G ng cg) ∧ w'.cell? ⟨Gb, 6, none⟩ = some (.int .i64 mx) ∧ w'.cell? ⟨Gb, 7, none⟩ = some (.int .i64 tr) ∧ w'.cell? ⟨Gb, 8, none⟩ = some (.bool rb)))
    (first | (with_reducible exact T0) | (with_reducible exact T1) | (with_reducible exact T2) | (with_reducible exact T3) | (with_reducible exact HTX.out _ _ T3 (below17 (Below.refl _ _) (Nat.le_refl _) _ _ _ _ _ _ _ _ _ _ _ _ _ _ _ _ _)))
    (first
      | (go_at_call 19
         with_reducible refine (KB.out _ D0.out).mono ?_
         rintro e wA ⟨va, rfl, hoa, hb⟩
         obtain ⟨K, ck, rfl, _⟩ := La.own_slice hoa
         have OA := Lib.hid hoa
         have D1 := Lib.hid (D0.out.trans (hb.mono D0.out.size))
         have T1 := HC0.out _ D1.out
         clear hoa hb)
      | (go_at_call 20
         with_reducible refine (KH.out _ D1.out).mono ?_
         rintro e wB ⟨vb, rfl, hob, hb⟩
         obtain ⟨X, cx, rfl, _⟩ := La.own_slice hob
         have OB := Lib.hid hob
         have OA2 := Lib.hid (La.own_below OA.out hb)
         have D2 := Lib.hid (D1.out.trans (hb.mono D1.out.size))
         have T2 := HC0.out _ D2.out
         clear hob hb)
      | (go_at_call 86
         with_reducible refine (KL.out _ D2.out).mono ?_
         rintro e wC ⟨vc, rfl, hoc, hb⟩
         obtain ⟨Y, cy, rfl, _⟩ := La.own_slice hoc
         have OC := Lib.hid hoc
         have OA3 := Lib.hid (La.own_below OA2.out hb)
         have OB3 := Lib.hid (La.own_below OB.out hb)
         have D3 := Lib.hid (D2.out.trans (hb.mono D2.out.size))
         have T3 := HC0.out _ D3.out
         have Q := HV0.out _ D3.out
         have QH := Lib.hid Q
         have q0 : wC.cell? ⟨Vb, 0, none⟩ = some (.slice none 0 0) := Blk.cell Q 0
         have f0 := Blk.free Q 0
         have q1 : wC.cell? ⟨Vb, 1, none⟩ = some (.slice none 0 0) := Blk.cell Q 1
         have f1 := Blk.free Q 1
         have q2 : wC.cell? ⟨Vb, 2, none⟩ = some (.slice none 0 0) := Blk.cell Q 2
         have f2 := Blk.free Q 2
         have q3 : wC.cell? ⟨Vb, 3, none⟩ = some (.slice none 0 0) := Blk.cell Q 3
         have f3 := Blk.free Q 3
         have q4 : wC.cell? ⟨Vb, 4, none⟩ = some (.int .i64 0) := Blk.cell Q 4
         have f4 := Blk.free Q 4
         have q5 : wC.cell? ⟨Vb, 5, none⟩ = some (.int .i64 0) := Blk.cell Q 5
         have f5 := Blk.free Q 5
         have q6 : wC.cell? ⟨Vb, 6, none⟩ = some (.int .i64 0) := Blk.cell Q 6
         have f6 := Blk.free Q 6
         have q7 : wC.cell? ⟨Vb, 7, none⟩ = some (.int .i64 0) := Blk.cell Q 7
         have f7 := Blk.free Q 7
         have q8 : wC.cell? ⟨Vb, 8, none⟩ = some (.int .i64 0) := Blk.cell Q 8
         have f8 := Blk.free Q 8
         have q9 : wC.cell? ⟨Vb, 9, none⟩ = some (.slice none 0 0) := Blk.cell Q 9
         have f9 := Blk.free Q 9
         have q10 : wC.cell? ⟨Vb, 10, none⟩ = some (.int .i64 0) := Blk.cell Q 10
         have f10 := Blk.free Q 10
         have q11 : wC.cell? ⟨Vb, 11, none⟩ = some (.int .i64 0) := Blk.cell Q 11
         have f11 := Blk.free Q 11
         have q12 : wC.cell? ⟨Vb, 12, none⟩ = some (.bool false) := Blk.cell Q 12
         have f12 := Blk.free Q 12
         have q13 : wC.cell? ⟨Vb, 13, none⟩ = some (.slice none 0 0) := Blk.cell Q 13
         have f13 := Blk.free Q 13
         have q14 : wC.cell? ⟨Vb, 14, none⟩ = some (.slice none 0 0) := Blk.cell Q 14
         have f14 := Blk.free Q 14
         have q15 : wC.cell? ⟨Vb, 15, none⟩ = some (.slice none 0 0) := Blk.cell Q 15
         have f15 := Blk.free Q 15
         have q16 : wC.cell? ⟨Vb, 16, none⟩ = some (.slice none 0 0) := Blk.cell Q 16
         have f16 := Blk.free Q 16
         clear hoc hb Q))
  all_goals
    (try go_wp2_with fail)
    exact HQQ.out K X Y ck cx cy _ _ _ _ _ _ _ _ _ _ _ _ _ _ _ _ (blk17 QH.out _ _ _ _ _ _ _ _ _ _ _ _ _ _ _ _ _) ⟨own17 OA3.out _ _ _ _ _ _ _ _ _ _ _ _ _ _ _ _ _, own17 OB3.out _ _ _ _ _ _ _ _ _ _ _ _ _ _ _ _ _, own17 OC.out _ _ _ _ _ _ _ _ _ _ _ _ _ _ _ _ _⟩ (below17 (D3.out.mono (Nat.le_of_lt HVL.out)) (Nat.le_refl _) _ _ _ _ _ _ _ _ _ _ _ _ _ _ _ _ _)
end Go.Proofs.YticgcimcebdjlaaGreat
