/- All that clauses may be about: subjects. A contract. Condition: the cluster and the numbers lie in memory. The rules of the kinds: a map of eight functions. Contracts of its maker and of its look-up. No conditions. The clause of a kind about a subject: by. Contracts: where the rule has no function for such, and where it has. Condition: what the function answers. What Get answers, as a plain function. Condition: a list that can lie in memory. What holds where a placement may be: few labels, keys that differ, short values, names that differ, quantities in bounds; and the pods near a pod, as a list. In numbers and texts only. The program's rule for ClauseWhere: notWhere. A contract. Condition: the cluster and the numbers lie in memory, the placement may be, the pod does not wait. The program's rule for ClauseTaint: notBorne. A contract. Condition: the cluster and the numbers lie in memory, the placement may be, the pod does not wait. The pods near a pod that are of terms, by the program's words: near. A contract. Condition: the cluster and the numbers lie in memory, the placement may be, the pod does not wait. The program's rules for ClauseWith and ClauseApart: alone and notApart. Contracts. Condition: the cluster and the numbers lie in memory, the placement may be, the pod does not wait. -/
import Derived.Test.YticgcimcebdjlaaGreatA07
import Derived.Carry
import Derived.MapViews
import Derived.StillTailTactics
import Derived.Handy
import Derived.Deep.RegionHeld3

namespace Go.Proofs.YticgcimcebdjlaaGreat
open Go.RowKit

/-- A subject, as a value. -/
def subV : Sub → Value
  | .node n q => .iface 219 (.agg #[.int .i64 (n : Int), .int .i64 (q : Int)])
  | .pod i => .iface 221 (.agg #[.int .i64 (i : Int)])
  | .owner o => .iface 223 (.agg #[.int .i64 (o : Int)])
theorem su_info : (Tryz.prog.info? 168).map (fun i => (i.zero, i.size, i.bytes)) = some (some .nilIface, 1, 16) := by kernel_rfl
theorem nodesS_len : ∀ k, (nodesS k).length = 5 * k
  | 0 => rfl
  | k + 1 => by
    rw [nodesS, List.length_append, nodesS_len k]
    simp
    omega
theorem podsS_len (p : List Int) : ∀ k, (podsS p k).length ≤ k
  | 0 => Nat.le_refl _
  | k + 1 => by
    have := podsS_len p k
    rw [podsS, List.length_append]
    unfold podS
    split <;> simp <;> omega
theorem ownersS_len : ∀ k, (ownersS k).length = k
  | 0 => rfl
  | k + 1 => by
    rw [ownersS, List.length_append, ownersS_len k]
    rfl
theorem subsU_len (ns : List NodeD) (os : List OwnD) (p : List Int) : (subsU ns os p).length ≤ 5 * ns.length + p.length + os.length := by
  have := nodesS_len ns.length
  have := podsS_len p p.length
  have := ownersS_len os.length
  unfold subsU
  simp only [List.length_append]
  omega
theorem qs_succ (n k : Nat) : (List.range (k + 1)).map (Sub.node n) = (List.range k).map (Sub.node n) ++ [.node n k] := by
  rw [List.range_succ, List.map_append]
  rfl

set_option maxRecDepth 100000 in
set_option maxHeartbeats 8000000 in
theorem subjects_any (A B C P : Option Addr) (ca cb cc cp : Nat) (ns : List NodeD) (ps : List PodD) (os : List OwnD) (p : List Int) (hln : ns.length ≤ 1000) (hlp : p.length ≤ 1000) (hlo : os.length ≤ 1000) (w : World) (hp : IntsAt w P cp p) :
    Calls Tryz.prog 98 #[viewV A B C P ca cb cc cp ns ps os p] w fun e w' => ∃ v, e = .returned v ∧ w'.ownsRow w.heap.size 168 1 v (subsU ns os p).length ((subsU ns os p).map subV) ∧ Below w.heap.size w w' := by
  have HP := Lib.hid hp
  have B0 : Hid (Below w.heap.size w (w.alloc (.cells (viewC A B C P ca cb cc cp ns ps os p) 162))) := Lib.hid (below1 w _)
  have S0 : Hid (Blk (w.alloc (.cells (viewC A B C P ca cb cc cp ns ps os p) 162)) w.heap.size (viewC A B C P ca cb cc cp ns ps os p) 162) := Lib.hid (Blk.new w _ _)
  obtain ⟨i0, hi0, hz0, hz1, hz2⟩ := info_parts su_info
  have HA : Hid (subsU ns os p = nodesS ns.length ++ podsS p p.length ++ ownersS os.length) := Lib.hid rfl
  generalize subsU ns os p = SU at HA ⊢
  clear hp
  go_enter Tryz.func98, Tryz.ntmps98
  obtain ⟨W, hW⟩ : ∃ W, (w.alloc (.cells (viewC A B C P ca cb cc cp ns ps os p) 162)) = W := ⟨_, rfl⟩
  rw [hW] at B0 S0
  go_upto_region 2 with fail
  try rw [show (w.alloc (.cells #[.slice A ns.length ca, .slice B ps.length cb, .slice C os.length cc, .slice P p.length cp] 162)) = W from hW]
  clear hW
  have HZ := Lib.hid (fun W' (hb : Below W.heap.size W W') => (show W'.cell? ⟨w.heap.size, 0, none⟩ = some (.slice A ns.length ca) ∧ W'.cell? ⟨w.heap.size, 1, none⟩ = some (.slice B ps.length cb) ∧ W'.cell? ⟨w.heap.size, 2, none⟩ = some (.slice C os.length cc) ∧ W'.cell? ⟨w.heap.size, 3, none⟩ = some (.slice P p.length cp) from ⟨Blk.cell (S0.out.below hb S0.out.lt) 0, Blk.cell (S0.out.below hb S0.out.lt) 1, Blk.cell (S0.out.below hb S0.out.lt) 2, Blk.cell (S0.out.below hb S0.out.lt) 3⟩))
  have HT := Lib.hid (fun W' (hb : Below W.heap.size W W') => B0.out.trans (hb.mono B0.out.size))
  have HPp := Lib.hid (fun W' (hb : Below W.heap.size W W') => HP.out.below (HT.out W' hb))
  have HB0 := Lib.hid B0.out.size
  obtain ⟨z0, z1, z2, z3⟩ := HZ.out _ (Below.refl _ W)
  clear HP B0 S0
  go_wp2_with fail
  go_loopw [3, 13] (fun v i wr => ∃ n : Nat, n ≤ ns.length ∧ i = .int .i64 (n : Int) ∧ wr.ownsRow W.heap.size 168 1 v (nodesS n).length ((nodesS n).map subV) ∧ Below W.heap.size W wr) (fun _ i _ => ns.length - (intOf i).toNat)
  case atStart => exact ⟨0, by omega, rfl, World.ownsRow_nil _ _ _ _, Below.refl _ _⟩
  case round =>
    clear z0 z1 z2 z3
    obtain ⟨n, hn, rfl, ho, hb⟩ := hrel
    have HO := Lib.hid ho
    have HB := Lib.hid hb
    clear ho hb
    have hnl := nodesS_len n
    by_cases hlt : n < ns.length
    case neg =>
      obtain rfl : n = ns.length := by omega
      obtain ⟨z0, z1, z2, z3⟩ := HZ.out _ HB.out
      generalize nodesS ns.length = NS at HO HA hnl
      go_wp2_with fail
      go_loopw [3, 31] (fun v i wr => ∃ k : Nat, k ≤ p.length ∧ i = .int .i64 (k : Int) ∧ wr.ownsRow W.heap.size 168 1 v (NS ++ podsS p k).length ((NS ++ podsS p k).map subV) ∧ Below W.heap.size W wr) (fun _ i _ => p.length - (intOf i).toNat)
      case atStart => exact ⟨0, by omega, rfl, by rw [show NS ++ podsS p 0 = NS from List.append_nil _]; exact HO.out, HB.out⟩
      case round =>
        clear HO HB z0 z1 z2 z3
        obtain ⟨k, hk, rfl, ho, hb⟩ := hrel
        have HO := Lib.hid ho
        have HB := Lib.hid hb
        clear ho hb
        have hpl := podsS_len p k
        have hpl2 : (NS ++ podsS p k).length ≤ 7000 := by rw [List.length_append]; omega
        by_cases hlk : k < p.length
        case neg =>
          obtain rfl : k = p.length := by omega
          obtain ⟨z0, z1, z2, z3⟩ := HZ.out _ HB.out
          generalize NS ++ podsS p p.length = PS at HO HA hpl2
          clear hk hlk
          go_wp2_with fail
          go_loopw [3, 49] (fun v i wr => ∃ o : Nat, o ≤ os.length ∧ i = .int .i64 (o : Int) ∧ wr.ownsRow W.heap.size 168 1 v (PS ++ ownersS o).length ((PS ++ ownersS o).map subV) ∧ Below W.heap.size W wr) (fun _ i _ => os.length - (intOf i).toNat)
          case atStart => exact ⟨0, by omega, rfl, by rw [show PS ++ ownersS 0 = PS from List.append_nil _]; exact HO.out, HB.out⟩
          case round =>
            clear HO HB z0 z1 z2 z3
            obtain ⟨o, ho', rfl, ho, hb⟩ := hrel
            have HO := Lib.hid ho
            have HB := Lib.hid hb
            clear ho hb
            have hol := ownersS_len o
            have hol2 : (PS ++ ownersS o).length ≤ 8000 := by rw [List.length_append]; omega
            by_cases hlo2 : o < os.length
            case neg =>
              obtain rfl : o = os.length := by omega
              go_wp2
              go_ret
              rw [HA.out]
              exact ⟨_, rfl, own_base HO.out HB0.out, HT.out _ HB.out⟩
            have Hd : Hid (PS ++ ownersS (o + 1) = (PS ++ ownersS o) ++ [.owner o]) := Lib.hid (by rw [ownersS, List.append_assoc])
            generalize PS ++ ownersS o = M at HO Hd hol2
            have o1 : (o : Int) < (os.length : Int) := by omega
            clear hol
            go_wp2_with (at_builtin; refine wpList_append_own _ rfl _ _ 163 rfl W.heap.size 168 i0 .nilIface 1 16 Tryz.underlying163 hi0 hz0 hz1 hz2 rfl (by decide) _ _ _ rfl (show World.ownsRow _ _ _ _ _ _ _ from HO.out.alloc _) ⟨wr.heap.size, 0, none⟩ 1 1 [.iface 223 (.agg #[.int .i64 (o : Int)])] rfl rfl ?c1c ?c2c ?c3c ?c4c ?c5c ?_)
            case c1c =>
              intro j u hj
              match j, hj with
              | 0, hj => simp at hj; subst hj; simp [Addr.add]
            case c2c => first | rfl | (intro u hu; simp at hu; subst hu; rfl)
            case c3c => unfold maxLen; omega
            case c4c => omega
            case c5c => have := HB.out.size; simp; omega
            intro v4 w4 hown4 hgrow4 _
            have P4 := Lib.hid hown4
            have D4 := Lib.hid ((HB.out.alloc HB.out.size (.cells #[.iface 223 (.agg #[.int .i64 (o : Int)])] 168)).grown hgrow4 (by have := HB.out.size; simp; omega) (fun j hj => own_gem HO.out hj))
            clear hown4 hgrow4
            go_wp2_with fail
            go_roundw
            case rel =>
              refine ⟨o + 1, by omega, by go_num, ?_, D4.out⟩
              rw [Hd.out, List.length_append, List.map_append]
              exact P4.out
            case measure => simp [intOf]; omega
        obtain ⟨x, hx⟩ : ∃ x, p[k]? = some x := ⟨p[k], List.getElem?_eq_getElem hlk⟩
        obtain ⟨bp, op, hAp, _, pk⟩ := atI (HPp.out _ HB.out).cells hx
        subst hAp
        have k0 : (0 : Int) ≤ (k : Int) := by omega
        have k1 : (k : Int) < (p.length : Int) := by omega
        by_cases hw : x = -1
        case pos =>
          subst hw
          have hE2 : Hid (NS ++ podsS p (k + 1) = NS ++ podsS p k) := Lib.hid (by rw [podsS, podS, if_pos hx, List.append_nil])
          generalize NS ++ podsS p k = M at HO hE2 hpl2
          clear hx hpl
          go_wp2_with fail
          go_roundw
          case rel => exact ⟨k + 1, by omega, by go_num, by rw [hE2.out]; exact HO.out, HB.out⟩
          case measure => simp [intOf]; omega
        have hE2 : Hid (NS ++ podsS p (k + 1) = (NS ++ podsS p k) ++ [.pod k]) := Lib.hid (by rw [podsS, podS, if_neg (by rw [hx]; intro h; exact hw (Option.some.inj h)), List.append_assoc])
        generalize NS ++ podsS p k = M at HO hE2 hpl2
        have hwb : (x != -1) = true := by simpa using hw
        have hwd : decide (x = -1) = false := decide_eq_false hw
        have hwe : (x == -1) = false := by simpa using hw
        clear hx hpl
        go_wp2_with (at_builtin; refine wpList_append_own _ rfl _ _ 163 rfl W.heap.size 168 i0 .nilIface 1 16 Tryz.underlying163 hi0 hz0 hz1 hz2 rfl (by decide) _ _ _ rfl (show World.ownsRow _ _ _ _ _ _ _ from HO.out.alloc _) ⟨wr.heap.size, 0, none⟩ 1 1 [.iface 221 (.agg #[.int .i64 (k : Int)])] rfl rfl ?c1b ?c2b ?c3b ?c4b ?c5b ?_)
        case c1b =>
          intro j u hj
          match j, hj with
          | 0, hj => simp at hj; subst hj; simp [Addr.add]
        case c2b => first | rfl | (intro u hu; simp at hu; subst hu; rfl)
        case c3b => unfold maxLen; omega
        case c4b => omega
        case c5b => have := HB.out.size; simp; omega
        intro v4 w4 hown4 hgrow4 _
        have P4 := Lib.hid hown4
        have D4 := Lib.hid ((HB.out.alloc HB.out.size (.cells #[.iface 221 (.agg #[.int .i64 (k : Int)])] 168)).grown hgrow4 (by have := HB.out.size; simp; omega) (fun j hj => own_gem HO.out hj))
        clear hown4 hgrow4
        go_wp2_with fail
        go_roundw
        case rel =>
          refine ⟨k + 1, by omega, by go_num, ?_, D4.out⟩
          rw [hE2.out, List.length_append, List.map_append]
          exact P4.out
        case measure => simp [intOf]; omega
    have Hd : Hid (nodesS (n + 1) = nodesS n ++ (List.range 5).map (Sub.node n)) := Lib.hid rfl
    generalize nodesS n = NS at HO Hd hnl
    have n1 : (n : Int) < (ns.length : Int) := by omega
    go_wp2_with fail
    go_loopw [3, 16] (fun v i wr => ∃ k : Nat, k ≤ 5 ∧ i = .int .i64 (k : Int) ∧ wr.ownsRow W.heap.size 168 1 v (NS ++ (List.range k).map (Sub.node n)).length ((NS ++ (List.range k).map (Sub.node n)).map subV) ∧ Below W.heap.size W wr) (fun _ i _ => 5 - (intOf i).toNat)
    case atStart => exact ⟨0, by omega, rfl, by rw [show NS ++ (List.range 0).map (Sub.node n) = NS from List.append_nil _]; exact HO.out, HB.out⟩
    case round =>
      clear HO HB
      obtain ⟨k, hk, rfl, ho, hb⟩ := hrel
      have HO := Lib.hid ho
      have HB := Lib.hid hb
      clear ho hb
      have hkl : (NS ++ (List.range k).map (Sub.node n)).length ≤ 6000 := by simp; omega
      by_cases hlk : k < 5
      case neg =>
        obtain rfl : k = 5 := by omega
        go_wp2_with fail
        go_roundw
        case rel => exact ⟨n + 1, by omega, by go_num, by rw [Hd.out]; exact HO.out, HB.out⟩
        case measure => simp [intOf]; omega
      have hE2 : Hid (NS ++ (List.range (k + 1)).map (Sub.node n) = (NS ++ (List.range k).map (Sub.node n)) ++ [.node n k]) := Lib.hid (by rw [qs_succ, List.append_assoc])
      generalize NS ++ (List.range k).map (Sub.node n) = M at HO hE2 hkl
      have k1 : (k : Int) < 5 := by omega
      go_wp2_with (at_builtin; refine wpList_append_own _ rfl _ _ 163 rfl W.heap.size 168 i0 .nilIface 1 16 Tryz.underlying163 hi0 hz0 hz1 hz2 rfl (by decide) _ _ _ rfl (show World.ownsRow _ _ _ _ _ _ _ from HO.out.alloc _) ⟨wr.heap.size, 0, none⟩ 1 1 [.iface 219 (.agg #[.int .i64 (n : Int), .int .i64 (k : Int)])] rfl rfl ?c1a ?c2a ?c3a ?c4a ?c5a ?_)
      case c1a =>
        intro j u hj
        match j, hj with
        | 0, hj => simp at hj; subst hj; simp [Addr.add]
      case c2a => first | rfl | (intro u hu; simp at hu; subst hu; rfl)
      case c3a => unfold maxLen; omega
      case c4a => omega
      case c5a => have := HB.out.size; simp; omega
      intro v4 w4 hown4 hgrow4 _
      have P4 := Lib.hid hown4
      have D4 := Lib.hid ((HB.out.alloc HB.out.size (.cells #[.iface 219 (.agg #[.int .i64 (n : Int), .int .i64 (k : Int)])] 168)).grown hgrow4 (by have := HB.out.size; simp; omega) (fun j hj => own_gem HO.out hj))
      clear hown4 hgrow4
      go_wp2_with fail
      go_roundw
      case rel =>
        refine ⟨k + 1, by omega, by go_num, ?_, D4.out⟩
        rw [hE2.out, List.length_append, List.map_append]
        exact P4.out
      case measure => simp [intOf]; omega
end Go.Proofs.YticgcimcebdjlaaGreat

namespace Go.Proofs.YticgcimcebdjlaaGreat
open Go.RowKit

/-- The rule of a kind, as a value. -/
def ruleV : Nat → Value
  | 1 => .agg #[.func (Fn.func 151) #[] #[], .nilFunc, .nilFunc]
  | 2 => .agg #[.nilFunc, .func (Fn.func 152) #[] #[], .nilFunc]
  | 3 => .agg #[.nilFunc, .func (Fn.func 153) #[] #[], .nilFunc]
  | 4 => .agg #[.nilFunc, .func (Fn.func 154) #[] #[], .nilFunc]
  | 5 => .agg #[.nilFunc, .func (Fn.func 155) #[] #[], .nilFunc]
  | 6 => .agg #[.nilFunc, .func (Fn.func 156) #[] #[], .nilFunc]
  | 7 => .agg #[.nilFunc, .nilFunc, .func (Fn.func 157) #[] #[]]
  | 8 => .agg #[.nilFunc, .nilFunc, .func (Fn.func 158) #[] #[]]
  | _ => .agg #[.nilFunc, .nilFunc, .nilFunc]
def entsR (k : Nat) : List MapEntry := (List.range k).map fun (j : Nat) => ⟨.int .i64 ((j : Int) + 1), ruleV (j + 1), j⟩
theorem entsR_succ (k : Nat) : entsR (k + 1) = entsR k ++ [⟨.int .i64 ((k : Int) + 1), ruleV (k + 1), k⟩] := by
  unfold entsR
  rw [List.range_succ, List.map_append]
  rfl
theorem isKey_i64 (x : Int) : MapKept.IsKey (.int .i64) (.int .i64 x) := by simp [MapKept.IsKey]
theorem find_no9 : ∀ k : Nat, k < 8 → Instr.findNow (.int .i64) (.int .i64 ((k : Int) + 1)) (entsR k) 0 = some none := by
  intro k hk
  match k, hk with
  | 0, _ => rfl
  | 1, _ => rfl
  | 2, _ => rfl
  | 3, _ => rfl
  | 4, _ => rfl
  | 5, _ => rfl
  | 6, _ => rfl
  | 7, _ => rfl
theorem find_at9 : ∀ k : Nat, k < 8 → Instr.findNow (.int .i64) (.int .i64 ((k : Int) + 1)) (entsR 8) 0 = some (some (k, ruleV (k + 1))) := by
  intro k hk
  match k, hk with
  | 0, _ => rfl
  | 1, _ => rfl
  | 2, _ => rfl
  | 3, _ => rfl
  | 4, _ => rfl
  | 5, _ => rfl
  | 6, _ => rfl
  | 7, _ => rfl

/-- One more rule in a map that is the last block. -/
theorem run_rule (w : World) (k : Nat) (_hk : k < 8) (h1 : Instr.findNow (.int .i64) (.int .i64 ((k : Int) + 1)) (entsR k) 0 = some none) :
    (Instr.mapUpdate 165 (.map (some w.heap.size)) (.int .i64 ((k : Int) + 1)) (ruleV (k + 1))).run Tryz.prog (w.alloc (.map (entsR k).toArray k)) =
      .ok () (w.alloc (.map (entsR (k + 1)).toArray (k + 1))) := by
  have hb := (MapKept.heap_alloc w (.map (entsR k).toArray k)).1
  have hset : ∀ o : Obj, { w.alloc (.map (entsR k).toArray k) with heap := (w.alloc (.map (entsR k).toArray k)).heap.setIfInBounds w.heap.size o } = w.alloc o := by
    intro o
    simp only [World.alloc]
    congr 1
    apply Array.ext'
    simp [Array.setIfInBounds, Array.toList_push]
  rw [entsR_succ]
  generalize w.alloc (.map (entsR k).toArray k) = W at hb hset
  unfold Instr.mapUpdate
  simp only [Sem.run_bind, run_underlying Tryz.underlying165, Result.andThen]
  simp [getObj, Sem.run, hb, MapKept.run_checkKey Tryz.underlying3 (isKey_i64 _), MapKept.run_findKey Tryz.underlying3 h1, MapKept.run_setObj_map _ hb, hset]
/-- The rule of a kind is found. -/
theorem run_ruleAt (w : World) (M : Nat) (h : w.heap[M]? = some (.map (entsR 8).toArray 8)) (k : Nat) (hk : k < 8) :
    (Instr.lookup 165 (.map (some M)) (.int .i64 ((k : Int) + 1)) false).run Tryz.prog w = .ok (ruleV (k + 1)) w := by
  have h1 := find_at9 k hk
  unfold Instr.lookup
  simp only [Sem.run_bind, run_underlying Tryz.underlying165, Result.andThen]
  simp [getObj, Sem.run, h, Result.andThen, MapKept.run_checkKey Tryz.underlying3 (isKey_i64 _), MapKept.run_findKey Tryz.underlying3 h1]

set_option maxRecDepth 100000 in
set_option maxHeartbeats 2000000 in
theorem rules_any (w : World) : Calls Tryz.prog 99 #[] w fun e w' => e = .returned (.map (some w.heap.size)) ∧ w'.heap[w.heap.size]? = some (.map (entsR 8).toArray 8) ∧ Below w.heap.size w w' := by
  have hmm := @run_makeMap Tryz.prog
  have m0 : (Instr.mapUpdate 165 (.map (some w.heap.size)) (.int .i64 1) (.agg #[.func (Fn.func 151) #[] #[], .nilFunc, .nilFunc])).run Tryz.prog (w.alloc (.map #[] 0)) = .ok () (w.alloc (.map (entsR 1).toArray 1)) := run_rule w 0 (by omega) (find_no9 0 (by omega))
  have m1 : (Instr.mapUpdate 165 (.map (some w.heap.size)) (.int .i64 2) (.agg #[.nilFunc, .func (Fn.func 152) #[] #[], .nilFunc])).run Tryz.prog (w.alloc (.map (entsR 1).toArray 1)) = .ok () (w.alloc (.map (entsR 2).toArray 2)) := run_rule w 1 (by omega) (find_no9 1 (by omega))
  have m2 : (Instr.mapUpdate 165 (.map (some w.heap.size)) (.int .i64 3) (.agg #[.nilFunc, .func (Fn.func 153) #[] #[], .nilFunc])).run Tryz.prog (w.alloc (.map (entsR 2).toArray 2)) = .ok () (w.alloc (.map (entsR 3).toArray 3)) := run_rule w 2 (by omega) (find_no9 2 (by omega))
  have m3 : (Instr.mapUpdate 165 (.map (some w.heap.size)) (.int .i64 4) (.agg #[.nilFunc, .func (Fn.func 154) #[] #[], .nilFunc])).run Tryz.prog (w.alloc (.map (entsR 3).toArray 3)) = .ok () (w.alloc (.map (entsR 4).toArray 4)) := run_rule w 3 (by omega) (find_no9 3 (by omega))
  have m4 : (Instr.mapUpdate 165 (.map (some w.heap.size)) (.int .i64 5) (.agg #[.nilFunc, .func (Fn.func 155) #[] #[], .nilFunc])).run Tryz.prog (w.alloc (.map (entsR 4).toArray 4)) = .ok () (w.alloc (.map (entsR 5).toArray 5)) := run_rule w 4 (by omega) (find_no9 4 (by omega))
  have m5 : (Instr.mapUpdate 165 (.map (some w.heap.size)) (.int .i64 6) (.agg #[.nilFunc, .func (Fn.func 156) #[] #[], .nilFunc])).run Tryz.prog (w.alloc (.map (entsR 5).toArray 5)) = .ok () (w.alloc (.map (entsR 6).toArray 6)) := run_rule w 5 (by omega) (find_no9 5 (by omega))
  have m6 : (Instr.mapUpdate 165 (.map (some w.heap.size)) (.int .i64 7) (.agg #[.nilFunc, .nilFunc, .func (Fn.func 157) #[] #[]])).run Tryz.prog (w.alloc (.map (entsR 6).toArray 6)) = .ok () (w.alloc (.map (entsR 7).toArray 7)) := run_rule w 6 (by omega) (find_no9 6 (by omega))
  have m7 : (Instr.mapUpdate 165 (.map (some w.heap.size)) (.int .i64 8) (.agg #[.nilFunc, .nilFunc, .func (Fn.func 158) #[] #[]])).run Tryz.prog (w.alloc (.map (entsR 7).toArray 7)) = .ok () (w.alloc (.map (entsR 8).toArray 8)) := run_rule w 7 (by omega) (find_no9 7 (by omega))
  have hb := (MapKept.heap_alloc w (.map (entsR 8).toArray 8)).1
  have HB := Lib.hid hb
  have B0 : Hid (Below w.heap.size w (w.alloc (.map (entsR 8).toArray 8))) := Lib.hid (below1 w _)
  clear hb
  generalize entsR 8 = E8 at m7 HB B0 ⊢
  generalize entsR 7 = E7 at m6 m7
  generalize entsR 6 = E6 at m5 m6
  generalize entsR 5 = E5 at m4 m5
  generalize entsR 4 = E4 at m3 m4
  generalize entsR 3 = E3 at m2 m3
  generalize entsR 2 = E2 at m1 m2
  generalize entsR 1 = E1 at m0 m1
  go_enter Tryz.func99, Tryz.ntmps99
  go_wp2_with fail
  go_ret
  exact ⟨rfl, HB.out, B0.out⟩
end Go.Proofs.YticgcimcebdjlaaGreat

namespace Go.Proofs.YticgcimcebdjlaaGreat
open Go.RowKit

set_option maxRecDepth 100000 in
set_option maxHeartbeats 4000000 in
theorem byNode_no (A B C P : Option Addr) (ca cb cc cp : Nat) (ns : List NodeD) (ps : List PodD) (os : List OwnD) (p : List Int) (f1 f2 : Value) (n q : Nat) (w : World) :
    Calls Tryz.prog 100 #[.agg #[.nilFunc, f1, f2], viewV A B C P ca cb cc cp ns ps os p, .iface 219 (.agg #[.int .i64 (n : Int), .int .i64 (q : Int)])] w fun e w' => e = .returned (.tuple #[.int .i64 0, .bool false]) ∧ Below w.heap.size w w' := by
  have B0 : Hid (Below w.heap.size w ((w.alloc (.cells #[.nilFunc, f1, f2] 174)).alloc (.cells (viewC A B C P ca cb cc cp ns ps os p) 162))) := Lib.hid (Qu.below2 w _ _)
  have S0 : Hid (Blk ((w.alloc (.cells #[.nilFunc, f1, f2] 174)).alloc (.cells (viewC A B C P ca cb cc cp ns ps os p) 162)) w.heap.size #[.nilFunc, f1, f2] 174) := Lib.hid (Blk.alloc (Blk.new w _ _) _)
  have S1 : Hid (Blk ((w.alloc (.cells #[.nilFunc, f1, f2] 174)).alloc (.cells (viewC A B C P ca cb cc cp ns ps os p) 162)) (w.heap.size + 1) (viewC A B C P ca cb cc cp ns ps os p) 162) := Lib.hid (blk2 w _ _ _)
  have hafN : ∀ w : World, (Instr.typeAssert (.iface 219 (.agg #[.int .i64 (n : Int), .int .i64 (q : Int)])) 168 219 true).run Tryz.prog w = .ok (.tuple #[.agg #[.int .i64 (n : Int), .int .i64 (q : Int)], .bool true]) w := fun w => by kernel_rfl
  have hbn : ∀ w : World, (binOp .neq 171 .nilFunc .nilFunc).run Tryz.prog w = .ok (.bool false) w := fun w => by kernel_rfl
  go_enter Tryz.func100, Tryz.ntmps100
  obtain ⟨W, hW⟩ : ∃ W, ((w.alloc (.cells #[.nilFunc, f1, f2] 174)).alloc (.cells (viewC A B C P ca cb cc cp ns ps os p) 162)) = W := ⟨_, rfl⟩
  rw [hW] at B0 S0 S1
  go_upto_region 1 with fail
  try rw [show ((w.alloc (.cells #[.nilFunc, f1, f2] 174)).alloc (.cells #[.slice A ns.length ca, .slice B ps.length cb, .slice C os.length cc, .slice P p.length cp] 162)) = W from hW]
  clear hW
  have B1 : Hid (Below w.heap.size w (W.alloc (.cells #[.int .i64 (n : Int), .int .i64 (q : Int)] 219))) := Lib.hid (B0.out.alloc B0.out.size _)
  have S2 : Hid (Blk (W.alloc (.cells #[.int .i64 (n : Int), .int .i64 (q : Int)] 219)) w.heap.size #[.nilFunc, f1, f2] 174) := Lib.hid (Blk.alloc S0.out _)
  have S3 : Hid (Blk (W.alloc (.cells #[.int .i64 (n : Int), .int .i64 (q : Int)] 219)) (w.heap.size + 1) (viewC A B C P ca cb cc cp ns ps os p) 162) := Lib.hid (Blk.alloc S1.out _)
  have S4 : Hid (Blk (W.alloc (.cells #[.int .i64 (n : Int), .int .i64 (q : Int)] 219)) W.heap.size #[.int .i64 (n : Int), .int .i64 (q : Int)] 219) := Lib.hid (Blk.new W _ _)
  clear B0 S0 S1
  go_upto_region 4 with fail
  try change Code.wp _ _ _ _ (W.alloc (.cells #[.int .i64 (n : Int), .int .i64 (q : Int)] 219))
  generalize (W.alloc (.cells #[.int .i64 (n : Int), .int .i64 (q : Int)] 219)) = V at B1 S2 S3 S4 ⊢
  generalize W.heap.size = Nb at S4 ⊢
  have r0 : V.cell? ⟨w.heap.size, 0, none⟩ = some (.nilFunc) := Blk.cell S2.out 0
  have z0 : V.cell? ⟨w.heap.size + 1, 0, none⟩ = some (.slice A ns.length ca) := Blk.cell S3.out 0
  have z1 : V.cell? ⟨w.heap.size + 1, 1, none⟩ = some (.slice B ps.length cb) := Blk.cell S3.out 1
  have z2 : V.cell? ⟨w.heap.size + 1, 2, none⟩ = some (.slice C os.length cc) := Blk.cell S3.out 2
  have z3 : V.cell? ⟨w.heap.size + 1, 3, none⟩ = some (.slice P p.length cp) := Blk.cell S3.out 3
  have k0 : V.cell? ⟨Nb, 0, none⟩ = some (.int .i64 (n : Int)) := Blk.cell S4.out 0
  have k1 : V.cell? ⟨Nb, 1, none⟩ = some (.int .i64 (q : Int)) := Blk.cell S4.out 1
  go_wp2
  go_ret2
  exact ⟨rfl, B1.out⟩

set_option maxRecDepth 100000 in
set_option maxHeartbeats 4000000 in
theorem byNode_any (A B C P : Option Addr) (ca cb cc cp : Nat) (ns : List NodeD) (ps : List PodD) (os : List OwnD) (p : List Int) (f1 f2 : Value) (n q : Nat) (g : FuncId) (hg : ∀ (args : Array Value) (w : World), (callFunc g args).run Tryz.prog w = .ok (.enter g args) w) (b : Int) (is : Bool) (w : World) (hcl : ∀ w', Below w.heap.size w w' → Calls Tryz.prog g #[viewV A B C P ca cb cc cp ns ps os p, .int .i64 (n : Int), .int .i64 (q : Int)] w' fun e w'' => e = .returned (.tuple #[.int .i64 b, .bool is]) ∧ Below w'.heap.size w' w'') :
    Calls Tryz.prog 100 #[.agg #[.func (Fn.func g) #[] #[], f1, f2], viewV A B C P ca cb cc cp ns ps os p, .iface 219 (.agg #[.int .i64 (n : Int), .int .i64 (q : Int)])] w fun e w' => e = .returned (.tuple #[.int .i64 b, .bool is]) ∧ Below w.heap.size w w' := by
  have B0 : Hid (Below w.heap.size w ((w.alloc (.cells #[.func (Fn.func g) #[] #[], f1, f2] 174)).alloc (.cells (viewC A B C P ca cb cc cp ns ps os p) 162))) := Lib.hid (Qu.below2 w _ _)
  have S0 : Hid (Blk ((w.alloc (.cells #[.func (Fn.func g) #[] #[], f1, f2] 174)).alloc (.cells (viewC A B C P ca cb cc cp ns ps os p) 162)) w.heap.size #[.func (Fn.func g) #[] #[], f1, f2] 174) := Lib.hid (Blk.alloc (Blk.new w _ _) _)
  have S1 : Hid (Blk ((w.alloc (.cells #[.func (Fn.func g) #[] #[], f1, f2] 174)).alloc (.cells (viewC A B C P ca cb cc cp ns ps os p) 162)) (w.heap.size + 1) (viewC A B C P ca cb cc cp ns ps os p) 162) := Lib.hid (blk2 w _ _ _)
  have HCL := Lib.hid hcl
  clear hcl
  have hafN : ∀ w : World, (Instr.typeAssert (.iface 219 (.agg #[.int .i64 (n : Int), .int .i64 (q : Int)])) 168 219 true).run Tryz.prog w = .ok (.tuple #[.agg #[.int .i64 (n : Int), .int .i64 (q : Int)], .bool true]) w := fun w => by kernel_rfl
  have hbn : ∀ w : World, (binOp .neq 171 (.func (Fn.func g) #[] #[]) .nilFunc).run Tryz.prog w = .ok (.bool true) w := fun w => by kernel_rfl
  go_enter Tryz.func100, Tryz.ntmps100
  obtain ⟨W, hW⟩ : ∃ W, ((w.alloc (.cells #[.func (Fn.func g) #[] #[], f1, f2] 174)).alloc (.cells (viewC A B C P ca cb cc cp ns ps os p) 162)) = W := ⟨_, rfl⟩
  rw [hW] at B0 S0 S1
  go_upto_region 1 with fail
  try rw [show ((w.alloc (.cells #[.func (Fn.func g) #[] #[], f1, f2] 174)).alloc (.cells #[.slice A ns.length ca, .slice B ps.length cb, .slice C os.length cc, .slice P p.length cp] 162)) = W from hW]
  clear hW
  have B1 : Hid (Below w.heap.size w (W.alloc (.cells #[.int .i64 (n : Int), .int .i64 (q : Int)] 219))) := Lib.hid (B0.out.alloc B0.out.size _)
  have S2 : Hid (Blk (W.alloc (.cells #[.int .i64 (n : Int), .int .i64 (q : Int)] 219)) w.heap.size #[.func (Fn.func g) #[] #[], f1, f2] 174) := Lib.hid (Blk.alloc S0.out _)
  have S3 : Hid (Blk (W.alloc (.cells #[.int .i64 (n : Int), .int .i64 (q : Int)] 219)) (w.heap.size + 1) (viewC A B C P ca cb cc cp ns ps os p) 162) := Lib.hid (Blk.alloc S1.out _)
  have S4 : Hid (Blk (W.alloc (.cells #[.int .i64 (n : Int), .int .i64 (q : Int)] 219)) W.heap.size #[.int .i64 (n : Int), .int .i64 (q : Int)] 219) := Lib.hid (Blk.new W _ _)
  clear B0 S0 S1
  go_upto_region 4 with fail
  try change Code.wp _ _ _ _ (W.alloc (.cells #[.int .i64 (n : Int), .int .i64 (q : Int)] 219))
  generalize (W.alloc (.cells #[.int .i64 (n : Int), .int .i64 (q : Int)] 219)) = V at B1 S2 S3 S4 ⊢
  generalize W.heap.size = Nb at S4 ⊢
  have r0 : V.cell? ⟨w.heap.size, 0, none⟩ = some (.func (Fn.func g) #[] #[]) := Blk.cell S2.out 0
  have z0 : V.cell? ⟨w.heap.size + 1, 0, none⟩ = some (.slice A ns.length ca) := Blk.cell S3.out 0
  have z1 : V.cell? ⟨w.heap.size + 1, 1, none⟩ = some (.slice B ps.length cb) := Blk.cell S3.out 1
  have z2 : V.cell? ⟨w.heap.size + 1, 2, none⟩ = some (.slice C os.length cc) := Blk.cell S3.out 2
  have z3 : V.cell? ⟨w.heap.size + 1, 3, none⟩ = some (.slice P p.length cp) := Blk.cell S3.out 3
  have k0 : V.cell? ⟨Nb, 0, none⟩ = some (.int .i64 (n : Int)) := Blk.cell S4.out 0
  have k1 : V.cell? ⟨Nb, 1, none⟩ = some (.int .i64 (q : Int)) := Blk.cell S4.out 1
  go_wp2_with fail
  refine (HCL.out _ B1.out).mono ?_
  rintro e w2 ⟨rfl, hb2⟩
  have B2 := Lib.hid (B1.out.trans (hb2.mono B1.out.size))
  clear hb2
  go_wp2
  go_ret2
  exact ⟨rfl, B2.out⟩

set_option maxRecDepth 100000 in
set_option maxHeartbeats 4000000 in
theorem byPod_no (A B C P : Option Addr) (ca cb cc cp : Nat) (ns : List NodeD) (ps : List PodD) (os : List OwnD) (p : List Int) (f0 f2 : Value) (i : Nat) (w : World) :
    Calls Tryz.prog 100 #[.agg #[f0, .nilFunc, f2], viewV A B C P ca cb cc cp ns ps os p, .iface 221 (.agg #[.int .i64 (i : Int)])] w fun e w' => e = .returned (.tuple #[.int .i64 0, .bool false]) ∧ Below w.heap.size w w' := by
  have B0 : Hid (Below w.heap.size w ((w.alloc (.cells #[f0, .nilFunc, f2] 174)).alloc (.cells (viewC A B C P ca cb cc cp ns ps os p) 162))) := Lib.hid (Qu.below2 w _ _)
  have S0 : Hid (Blk ((w.alloc (.cells #[f0, .nilFunc, f2] 174)).alloc (.cells (viewC A B C P ca cb cc cp ns ps os p) 162)) w.heap.size #[f0, .nilFunc, f2] 174) := Lib.hid (Blk.alloc (Blk.new w _ _) _)
  have S1 : Hid (Blk ((w.alloc (.cells #[f0, .nilFunc, f2] 174)).alloc (.cells (viewC A B C P ca cb cc cp ns ps os p) 162)) (w.heap.size + 1) (viewC A B C P ca cb cc cp ns ps os p) 162) := Lib.hid (blk2 w _ _ _)
  have hafN : ∀ w : World, (Instr.typeAssert (.iface 221 (.agg #[.int .i64 (i : Int)])) 168 219 true).run Tryz.prog w = .ok (.tuple #[.agg #[.int .i64 0, .int .i64 0], .bool false]) w := fun w => by kernel_rfl
  have hafP : ∀ w : World, (Instr.typeAssert (.iface 221 (.agg #[.int .i64 (i : Int)])) 168 221 true).run Tryz.prog w = .ok (.tuple #[.agg #[.int .i64 (i : Int)], .bool true]) w := fun w => by kernel_rfl
  have hbn : ∀ w : World, (binOp .neq 172 .nilFunc .nilFunc).run Tryz.prog w = .ok (.bool false) w := fun w => by kernel_rfl
  go_enter Tryz.func100, Tryz.ntmps100
  obtain ⟨W, hW⟩ : ∃ W, ((w.alloc (.cells #[f0, .nilFunc, f2] 174)).alloc (.cells (viewC A B C P ca cb cc cp ns ps os p) 162)) = W := ⟨_, rfl⟩
  rw [hW] at B0 S0 S1
  go_upto_region 1 with fail
  try rw [show ((w.alloc (.cells #[f0, .nilFunc, f2] 174)).alloc (.cells #[.slice A ns.length ca, .slice B ps.length cb, .slice C os.length cc, .slice P p.length cp] 162)) = W from hW]
  clear hW
  have B1 : Hid (Below w.heap.size w (W.alloc (.cells #[.int .i64 (i : Int)] 221))) := Lib.hid (B0.out.alloc B0.out.size _)
  have S2 : Hid (Blk (W.alloc (.cells #[.int .i64 (i : Int)] 221)) w.heap.size #[f0, .nilFunc, f2] 174) := Lib.hid (Blk.alloc S0.out _)
  have S3 : Hid (Blk (W.alloc (.cells #[.int .i64 (i : Int)] 221)) (w.heap.size + 1) (viewC A B C P ca cb cc cp ns ps os p) 162) := Lib.hid (Blk.alloc S1.out _)
  have S4 : Hid (Blk (W.alloc (.cells #[.int .i64 (i : Int)] 221)) W.heap.size #[.int .i64 (i : Int)] 221) := Lib.hid (Blk.new W _ _)
  clear B0 S0 S1
  go_upto_region 8 with fail
  try change Code.wp _ _ _ _ (W.alloc (.cells #[.int .i64 (i : Int)] 221))
  generalize (W.alloc (.cells #[.int .i64 (i : Int)] 221)) = V at B1 S2 S3 S4 ⊢
  generalize W.heap.size = Nb at S4 ⊢
  have r1 : V.cell? ⟨w.heap.size, 1, none⟩ = some (.nilFunc) := Blk.cell S2.out 1
  have z0 : V.cell? ⟨w.heap.size + 1, 0, none⟩ = some (.slice A ns.length ca) := Blk.cell S3.out 0
  have z1 : V.cell? ⟨w.heap.size + 1, 1, none⟩ = some (.slice B ps.length cb) := Blk.cell S3.out 1
  have z2 : V.cell? ⟨w.heap.size + 1, 2, none⟩ = some (.slice C os.length cc) := Blk.cell S3.out 2
  have z3 : V.cell? ⟨w.heap.size + 1, 3, none⟩ = some (.slice P p.length cp) := Blk.cell S3.out 3
  have k0 : V.cell? ⟨Nb, 0, none⟩ = some (.int .i64 (i : Int)) := Blk.cell S4.out 0
  go_wp2
  go_ret2
  exact ⟨rfl, B1.out⟩

set_option maxRecDepth 100000 in
set_option maxHeartbeats 4000000 in
theorem byPod_any (A B C P : Option Addr) (ca cb cc cp : Nat) (ns : List NodeD) (ps : List PodD) (os : List OwnD) (p : List Int) (f0 f2 : Value) (i : Nat) (g : FuncId) (hg : ∀ (args : Array Value) (w : World), (callFunc g args).run Tryz.prog w = .ok (.enter g args) w) (b : Int) (is : Bool) (w : World) (hcl : ∀ w', Below w.heap.size w w' → Calls Tryz.prog g #[viewV A B C P ca cb cc cp ns ps os p, .int .i64 (i : Int)] w' fun e w'' => e = .returned (.tuple #[.int .i64 b, .bool is]) ∧ Below w'.heap.size w' w'') :
    Calls Tryz.prog 100 #[.agg #[f0, .func (Fn.func g) #[] #[], f2], viewV A B C P ca cb cc cp ns ps os p, .iface 221 (.agg #[.int .i64 (i : Int)])] w fun e w' => e = .returned (.tuple #[.int .i64 b, .bool is]) ∧ Below w.heap.size w w' := by
  have B0 : Hid (Below w.heap.size w ((w.alloc (.cells #[f0, .func (Fn.func g) #[] #[], f2] 174)).alloc (.cells (viewC A B C P ca cb cc cp ns ps os p) 162))) := Lib.hid (Qu.below2 w _ _)
  have S0 : Hid (Blk ((w.alloc (.cells #[f0, .func (Fn.func g) #[] #[], f2] 174)).alloc (.cells (viewC A B C P ca cb cc cp ns ps os p) 162)) w.heap.size #[f0, .func (Fn.func g) #[] #[], f2] 174) := Lib.hid (Blk.alloc (Blk.new w _ _) _)
  have S1 : Hid (Blk ((w.alloc (.cells #[f0, .func (Fn.func g) #[] #[], f2] 174)).alloc (.cells (viewC A B C P ca cb cc cp ns ps os p) 162)) (w.heap.size + 1) (viewC A B C P ca cb cc cp ns ps os p) 162) := Lib.hid (blk2 w _ _ _)
  have HCL := Lib.hid hcl
  clear hcl
  have hafN : ∀ w : World, (Instr.typeAssert (.iface 221 (.agg #[.int .i64 (i : Int)])) 168 219 true).run Tryz.prog w = .ok (.tuple #[.agg #[.int .i64 0, .int .i64 0], .bool false]) w := fun w => by kernel_rfl
  have hafP : ∀ w : World, (Instr.typeAssert (.iface 221 (.agg #[.int .i64 (i : Int)])) 168 221 true).run Tryz.prog w = .ok (.tuple #[.agg #[.int .i64 (i : Int)], .bool true]) w := fun w => by kernel_rfl
  have hbn : ∀ w : World, (binOp .neq 172 (.func (Fn.func g) #[] #[]) .nilFunc).run Tryz.prog w = .ok (.bool true) w := fun w => by kernel_rfl
  go_enter Tryz.func100, Tryz.ntmps100
  obtain ⟨W, hW⟩ : ∃ W, ((w.alloc (.cells #[f0, .func (Fn.func g) #[] #[], f2] 174)).alloc (.cells (viewC A B C P ca cb cc cp ns ps os p) 162)) = W := ⟨_, rfl⟩
  rw [hW] at B0 S0 S1
  go_upto_region 1 with fail
  try rw [show ((w.alloc (.cells #[f0, .func (Fn.func g) #[] #[], f2] 174)).alloc (.cells #[.slice A ns.length ca, .slice B ps.length cb, .slice C os.length cc, .slice P p.length cp] 162)) = W from hW]
  clear hW
  have B1 : Hid (Below w.heap.size w (W.alloc (.cells #[.int .i64 (i : Int)] 221))) := Lib.hid (B0.out.alloc B0.out.size _)
  have S2 : Hid (Blk (W.alloc (.cells #[.int .i64 (i : Int)] 221)) w.heap.size #[f0, .func (Fn.func g) #[] #[], f2] 174) := Lib.hid (Blk.alloc S0.out _)
  have S3 : Hid (Blk (W.alloc (.cells #[.int .i64 (i : Int)] 221)) (w.heap.size + 1) (viewC A B C P ca cb cc cp ns ps os p) 162) := Lib.hid (Blk.alloc S1.out _)
  have S4 : Hid (Blk (W.alloc (.cells #[.int .i64 (i : Int)] 221)) W.heap.size #[.int .i64 (i : Int)] 221) := Lib.hid (Blk.new W _ _)
  clear B0 S0 S1
  go_upto_region 8 with fail
  try change Code.wp _ _ _ _ (W.alloc (.cells #[.int .i64 (i : Int)] 221))
  generalize (W.alloc (.cells #[.int .i64 (i : Int)] 221)) = V at B1 S2 S3 S4 ⊢
  generalize W.heap.size = Nb at S4 ⊢
  have r1 : V.cell? ⟨w.heap.size, 1, none⟩ = some (.func (Fn.func g) #[] #[]) := Blk.cell S2.out 1
  have z0 : V.cell? ⟨w.heap.size + 1, 0, none⟩ = some (.slice A ns.length ca) := Blk.cell S3.out 0
  have z1 : V.cell? ⟨w.heap.size + 1, 1, none⟩ = some (.slice B ps.length cb) := Blk.cell S3.out 1
  have z2 : V.cell? ⟨w.heap.size + 1, 2, none⟩ = some (.slice C os.length cc) := Blk.cell S3.out 2
  have z3 : V.cell? ⟨w.heap.size + 1, 3, none⟩ = some (.slice P p.length cp) := Blk.cell S3.out 3
  have k0 : V.cell? ⟨Nb, 0, none⟩ = some (.int .i64 (i : Int)) := Blk.cell S4.out 0
  go_wp2_with fail
  refine (HCL.out _ B1.out).mono ?_
  rintro e w2 ⟨rfl, hb2⟩
  have B2 := Lib.hid (B1.out.trans (hb2.mono B1.out.size))
  clear hb2
  go_wp2
  go_ret2
  exact ⟨rfl, B2.out⟩

set_option maxRecDepth 100000 in
set_option maxHeartbeats 4000000 in
theorem byOwner_no (A B C P : Option Addr) (ca cb cc cp : Nat) (ns : List NodeD) (ps : List PodD) (os : List OwnD) (p : List Int) (f0 f1 : Value) (o : Nat) (w : World) :
    Calls Tryz.prog 100 #[.agg #[f0, f1, .nilFunc], viewV A B C P ca cb cc cp ns ps os p, .iface 223 (.agg #[.int .i64 (o : Int)])] w fun e w' => e = .returned (.tuple #[.int .i64 0, .bool false]) ∧ Below w.heap.size w w' := by
  have B0 : Hid (Below w.heap.size w ((w.alloc (.cells #[f0, f1, .nilFunc] 174)).alloc (.cells (viewC A B C P ca cb cc cp ns ps os p) 162))) := Lib.hid (Qu.below2 w _ _)
  have S0 : Hid (Blk ((w.alloc (.cells #[f0, f1, .nilFunc] 174)).alloc (.cells (viewC A B C P ca cb cc cp ns ps os p) 162)) w.heap.size #[f0, f1, .nilFunc] 174) := Lib.hid (Blk.alloc (Blk.new w _ _) _)
  have S1 : Hid (Blk ((w.alloc (.cells #[f0, f1, .nilFunc] 174)).alloc (.cells (viewC A B C P ca cb cc cp ns ps os p) 162)) (w.heap.size + 1) (viewC A B C P ca cb cc cp ns ps os p) 162) := Lib.hid (blk2 w _ _ _)
  have hafN : ∀ w : World, (Instr.typeAssert (.iface 223 (.agg #[.int .i64 (o : Int)])) 168 219 true).run Tryz.prog w = .ok (.tuple #[.agg #[.int .i64 0, .int .i64 0], .bool false]) w := fun w => by kernel_rfl
  have hafP : ∀ w : World, (Instr.typeAssert (.iface 223 (.agg #[.int .i64 (o : Int)])) 168 221 true).run Tryz.prog w = .ok (.tuple #[.agg #[.int .i64 0], .bool false]) w := fun w => by kernel_rfl
  have hafO : ∀ w : World, (Instr.typeAssert (.iface 223 (.agg #[.int .i64 (o : Int)])) 168 223 true).run Tryz.prog w = .ok (.tuple #[.agg #[.int .i64 (o : Int)], .bool true]) w := fun w => by kernel_rfl
  have hbn : ∀ w : World, (binOp .neq 172 .nilFunc .nilFunc).run Tryz.prog w = .ok (.bool false) w := fun w => by kernel_rfl
  go_enter Tryz.func100, Tryz.ntmps100
  obtain ⟨W, hW⟩ : ∃ W, ((w.alloc (.cells #[f0, f1, .nilFunc] 174)).alloc (.cells (viewC A B C P ca cb cc cp ns ps os p) 162)) = W := ⟨_, rfl⟩
  rw [hW] at B0 S0 S1
  go_upto_region 1 with fail
  try rw [show ((w.alloc (.cells #[f0, f1, .nilFunc] 174)).alloc (.cells #[.slice A ns.length ca, .slice B ps.length cb, .slice C os.length cc, .slice P p.length cp] 162)) = W from hW]
  clear hW
  have B1 : Hid (Below w.heap.size w (W.alloc (.cells #[.int .i64 (o : Int)] 223))) := Lib.hid (B0.out.alloc B0.out.size _)
  have S2 : Hid (Blk (W.alloc (.cells #[.int .i64 (o : Int)] 223)) w.heap.size #[f0, f1, .nilFunc] 174) := Lib.hid (Blk.alloc S0.out _)
  have S3 : Hid (Blk (W.alloc (.cells #[.int .i64 (o : Int)] 223)) (w.heap.size + 1) (viewC A B C P ca cb cc cp ns ps os p) 162) := Lib.hid (Blk.alloc S1.out _)
  have S4 : Hid (Blk (W.alloc (.cells #[.int .i64 (o : Int)] 223)) W.heap.size #[.int .i64 (o : Int)] 223) := Lib.hid (Blk.new W _ _)
  clear B0 S0 S1
  go_upto_region 12 with fail
  try change Code.wp _ _ _ _ (W.alloc (.cells #[.int .i64 (o : Int)] 223))
  generalize (W.alloc (.cells #[.int .i64 (o : Int)] 223)) = V at B1 S2 S3 S4 ⊢
  generalize W.heap.size = Nb at S4 ⊢
  have r2 : V.cell? ⟨w.heap.size, 2, none⟩ = some (.nilFunc) := Blk.cell S2.out 2
  have z0 : V.cell? ⟨w.heap.size + 1, 0, none⟩ = some (.slice A ns.length ca) := Blk.cell S3.out 0
  have z1 : V.cell? ⟨w.heap.size + 1, 1, none⟩ = some (.slice B ps.length cb) := Blk.cell S3.out 1
  have z2 : V.cell? ⟨w.heap.size + 1, 2, none⟩ = some (.slice C os.length cc) := Blk.cell S3.out 2
  have z3 : V.cell? ⟨w.heap.size + 1, 3, none⟩ = some (.slice P p.length cp) := Blk.cell S3.out 3
  have k0 : V.cell? ⟨Nb, 0, none⟩ = some (.int .i64 (o : Int)) := Blk.cell S4.out 0
  go_wp2
  go_ret2
  exact ⟨rfl, B1.out⟩

set_option maxRecDepth 100000 in
set_option maxHeartbeats 4000000 in
theorem byOwner_any (A B C P : Option Addr) (ca cb cc cp : Nat) (ns : List NodeD) (ps : List PodD) (os : List OwnD) (p : List Int) (f0 f1 : Value) (o : Nat) (g : FuncId) (hg : ∀ (args : Array Value) (w : World), (callFunc g args).run Tryz.prog w = .ok (.enter g args) w) (b : Int) (is : Bool) (w : World) (hcl : ∀ w', Below w.heap.size w w' → Calls Tryz.prog g #[viewV A B C P ca cb cc cp ns ps os p, .int .i64 (o : Int)] w' fun e w'' => e = .returned (.tuple #[.int .i64 b, .bool is]) ∧ Below w'.heap.size w' w'') :
    Calls Tryz.prog 100 #[.agg #[f0, f1, .func (Fn.func g) #[] #[]], viewV A B C P ca cb cc cp ns ps os p, .iface 223 (.agg #[.int .i64 (o : Int)])] w fun e w' => e = .returned (.tuple #[.int .i64 b, .bool is]) ∧ Below w.heap.size w w' := by
  have B0 : Hid (Below w.heap.size w ((w.alloc (.cells #[f0, f1, .func (Fn.func g) #[] #[]] 174)).alloc (.cells (viewC A B C P ca cb cc cp ns ps os p) 162))) := Lib.hid (Qu.below2 w _ _)
  have S0 : Hid (Blk ((w.alloc (.cells #[f0, f1, .func (Fn.func g) #[] #[]] 174)).alloc (.cells (viewC A B C P ca cb cc cp ns ps os p) 162)) w.heap.size #[f0, f1, .func (Fn.func g) #[] #[]] 174) := Lib.hid (Blk.alloc (Blk.new w _ _) _)
  have S1 : Hid (Blk ((w.alloc (.cells #[f0, f1, .func (Fn.func g) #[] #[]] 174)).alloc (.cells (viewC A B C P ca cb cc cp ns ps os p) 162)) (w.heap.size + 1) (viewC A B C P ca cb cc cp ns ps os p) 162) := Lib.hid (blk2 w _ _ _)
  have HCL := Lib.hid hcl
  clear hcl
  have hafN : ∀ w : World, (Instr.typeAssert (.iface 223 (.agg #[.int .i64 (o : Int)])) 168 219 true).run Tryz.prog w = .ok (.tuple #[.agg #[.int .i64 0, .int .i64 0], .bool false]) w := fun w => by kernel_rfl
  have hafP : ∀ w : World, (Instr.typeAssert (.iface 223 (.agg #[.int .i64 (o : Int)])) 168 221 true).run Tryz.prog w = .ok (.tuple #[.agg #[.int .i64 0], .bool false]) w := fun w => by kernel_rfl
  have hafO : ∀ w : World, (Instr.typeAssert (.iface 223 (.agg #[.int .i64 (o : Int)])) 168 223 true).run Tryz.prog w = .ok (.tuple #[.agg #[.int .i64 (o : Int)], .bool true]) w := fun w => by kernel_rfl
  have hbn : ∀ w : World, (binOp .neq 172 (.func (Fn.func g) #[] #[]) .nilFunc).run Tryz.prog w = .ok (.bool true) w := fun w => by kernel_rfl
  go_enter Tryz.func100, Tryz.ntmps100
  obtain ⟨W, hW⟩ : ∃ W, ((w.alloc (.cells #[f0, f1, .func (Fn.func g) #[] #[]] 174)).alloc (.cells (viewC A B C P ca cb cc cp ns ps os p) 162)) = W := ⟨_, rfl⟩
  rw [hW] at B0 S0 S1
  go_upto_region 1 with fail
  try rw [show ((w.alloc (.cells #[f0, f1, .func (Fn.func g) #[] #[]] 174)).alloc (.cells #[.slice A ns.length ca, .slice B ps.length cb, .slice C os.length cc, .slice P p.length cp] 162)) = W from hW]
  clear hW
  have B1 : Hid (Below w.heap.size w (W.alloc (.cells #[.int .i64 (o : Int)] 223))) := Lib.hid (B0.out.alloc B0.out.size _)
  have S2 : Hid (Blk (W.alloc (.cells #[.int .i64 (o : Int)] 223)) w.heap.size #[f0, f1, .func (Fn.func g) #[] #[]] 174) := Lib.hid (Blk.alloc S0.out _)
  have S3 : Hid (Blk (W.alloc (.cells #[.int .i64 (o : Int)] 223)) (w.heap.size + 1) (viewC A B C P ca cb cc cp ns ps os p) 162) := Lib.hid (Blk.alloc S1.out _)
  have S4 : Hid (Blk (W.alloc (.cells #[.int .i64 (o : Int)] 223)) W.heap.size #[.int .i64 (o : Int)] 223) := Lib.hid (Blk.new W _ _)
  clear B0 S0 S1
  go_upto_region 12 with fail
  try change Code.wp _ _ _ _ (W.alloc (.cells #[.int .i64 (o : Int)] 223))
  generalize (W.alloc (.cells #[.int .i64 (o : Int)] 223)) = V at B1 S2 S3 S4 ⊢
  generalize W.heap.size = Nb at S4 ⊢
  have r2 : V.cell? ⟨w.heap.size, 2, none⟩ = some (.func (Fn.func g) #[] #[]) := Blk.cell S2.out 2
  have z0 : V.cell? ⟨w.heap.size + 1, 0, none⟩ = some (.slice A ns.length ca) := Blk.cell S3.out 0
  have z1 : V.cell? ⟨w.heap.size + 1, 1, none⟩ = some (.slice B ps.length cb) := Blk.cell S3.out 1
  have z2 : V.cell? ⟨w.heap.size + 1, 2, none⟩ = some (.slice C os.length cc) := Blk.cell S3.out 2
  have z3 : V.cell? ⟨w.heap.size + 1, 3, none⟩ = some (.slice P p.length cp) := Blk.cell S3.out 3
  have k0 : V.cell? ⟨Nb, 0, none⟩ = some (.int .i64 (o : Int)) := Blk.cell S4.out 0
  go_wp2_with fail
  refine (HCL.out _ B1.out).mono ?_
  rintro e w2 ⟨rfl, hb2⟩
  have B2 := Lib.hid (B1.out.trans (hb2.mono B1.out.size))
  clear hb2
  go_wp2
  go_ret2
  exact ⟨rfl, B2.out⟩

end Go.Proofs.YticgcimcebdjlaaGreat

namespace Go.Proofs.YticgcimcebdjlaaGreat.La
open Go.RowKit

abbrev Lab := List UInt8 × List UInt8
/-- The value of a key's first label. -/
def getL (l : List Lab) (k : List UInt8) : List UInt8 × Bool :=
  match l.find? (fun x => decide (x.1 = k)) with
  | some x => (x.2, true)
  | none => ([], false)

theorem find_take {l : List Lab} {k : List UInt8} {n : Nat} {x : Lab} (hx : l[n]? = some x) (h : (l.take n).find? (fun x => decide (x.1 = k)) = none) (hk : x.1 = k) : getL l k = (x.2, true) := by
  unfold getL
  have e : l = l.take n ++ x :: l.drop (n + 1) := by
    obtain ⟨hn, e⟩ := List.getElem?_eq_some_iff.1 hx
    rw [← e, ← List.drop_eq_getElem_cons hn, List.take_append_drop]
  rw [e, List.find?_append, h]
  simp [hk]
theorem find_no {l : List Lab} {k : List UInt8} {n : Nat} {x : Lab} (hx : l[n]? = some x) (h : (l.take n).find? (fun x => decide (x.1 = k)) = none) (hk : ¬ x.1 = k) : (l.take (n + 1)).find? (fun x => decide (x.1 = k)) = none := by
  rw [List.take_add_one, hx, List.find?_append, h]
  simp [hk]

theorem clone_any (l : List UInt8) (w : World) (h : l.length ≤ 1000) : Calls Tryz.prog 238 #[strV l] w fun e w' => e = .returned (strV l) ∧ Below w.heap.size w w' := by
  have K := Lib.hid (Tryz.stringslite_Clone ⟨l.toArray⟩ w (by
    show l.toArray.size ≤ _
    simp
    omega))
  go_enter Tryz.func238, Tryz.ntmps238
  go_wp2_with fail
  refine K.out.mono ?_
  rintro e w1 ⟨rfl, hb⟩
  have HB := Lib.hid hb
  clear hb
  go_wp2
  go_ret
  exact ⟨rfl, HB.out⟩

set_option maxRecDepth 100000 in
set_option maxHeartbeats 2000000 in
theorem get_any (A : Option Addr) (c : Nat) (l : List Lab) (k : List UInt8) (w : World) (hn : l.length ≤ 1000) (_hc : l.length ≤ c) (hs : SlAt w A (cellsL l)) (hbig : ∀ x ∈ l, x.2.length ≤ 1000) :
    Calls Tryz.prog 248 #[.slice A l.length c, strV k] w fun e w' => e = .returned (.tuple #[strV (getL l k).1, .bool (getL l k).2]) ∧ Below w.heap.size w w' := by
  have HS := Lib.hid hs
  have HBig := Lib.hid hbig
  clear hs hbig
  rcases hG : getL l k with ⟨g1, g2⟩
  have HG := Lib.hid hG
  simp only
  clear hG
  go_enter Tryz.func248, Tryz.ntmps248
  go_wp2
  go_loopw [10] (fun i wr => ∃ n : Nat, n ≤ l.length ∧ i = .int .i64 n ∧ (l.take n).find? (fun x => decide (x.1 = k)) = none ∧ Below w.heap.size w wr) (fun i _ => l.length - (intOf i).toNat)
  case atStart => exact ⟨0, by omega, rfl, rfl, Below.refl _ _⟩
  case round =>
    obtain ⟨n, hnl, rfl, hno, hbw⟩ := hrel
    have HB := Lib.hid hbw
    have HNo := Lib.hid hno
    clear hbw hno
    by_cases hlt : n < l.length
    · obtain ⟨x, hx⟩ : ∃ x, l[n]? = some x := ⟨l[n], List.getElem?_eq_getElem hlt⟩
      obtain ⟨b, o, hA, hb, hy⟩ := SlAt.lab (HS.out.below HB.out) hx
      subst hA
      obtain ⟨y0, y1⟩ := hy
      have n0 : (0 : Int) ≤ (n : Int) := by omega
      have n1 : (n : Int) < (l.length : Int) := by omega
      have HX := Lib.hid hx
      have hB2 := Lib.hid (HB.out.alloc HB.out.size (.cells #[strV x.1, strV x.2] 133))
      clear hx
      by_cases hq : x.1 = k
      · have KC := Lib.hid (fun w => clone_any x.2 w (HBig.out x (List.mem_of_getElem? HX.out)))
        have hq2 := find_take HX.out HNo.out hq
        rw [HG.out] at hq2
        simp only [Prod.mk.injEq] at hq2
        obtain ⟨rfl, rfl⟩ := hq2
        subst hq
        go_wp2_with fail
        refine (KC.out _).mono ?_
        rintro e w2 ⟨rfl, hb⟩
        have HB3 := Lib.hid (hB2.out.trans (hb.mono hB2.out.size))
        clear hb
        go_wp2
        go_ret2
        exact ⟨rfl, HB3.out⟩
      · have hqb : (x.1 == k) = false := by simpa using hq
        have HF := Lib.hid (find_no HX.out HNo.out hq)
        have HQ := Lib.hid hq
        clear hq
        go_wp2
        go_roundw
        case rel => exact ⟨n + 1, by omega, by go_num, HF.out, hB2.out⟩
        case measure => simp [intOf]; omega
    · obtain rfl : n = l.length := by omega
      have e : getL l k = ([], false) := by
        have := HNo.out
        rw [List.take_length] at this
        unfold getL
        rw [this]
      rw [HG.out] at e
      simp only [Prod.mk.injEq] at e
      obtain ⟨rfl, rfl⟩ := e
      go_wp2
      go_ret2
      exact ⟨rfl, HB.out⟩
end Go.Proofs.YticgcimcebdjlaaGreat.La

namespace Go.Proofs.YticgcimcebdjlaaGreat
open Go.RowKit

theorem placeE_chk {ns : List NodeD} {ps : List PodD} {os : List OwnD} {p : List Int} (hE : placeE ns ps os p = 0) : checkS ns ps os = 0 := by
  unfold placeE at hE
  split at hE
  · assumption
  · exact hE
theorem getL_getO (l : List L2) (k : List UInt8) : La.getL l k = ((getO l k).getD [], (getO l k).isSome) := by
  unfold La.getL getO
  cases l.find? (fun x => decide (x.1 = k)) <;> rfl
theorem valK_up {x : NodeD} (h : x.lost = false) (k : List UInt8) : valK x k = getO x.labels k := by
  unfold valK getO
  rw [h]
  rfl
theorem tpB_up {ns : List NodeD} {q : Nat} {x : NodeD} (h : tpB ns (q : Int) = true) (hx : ns[q]? = some x) : x.lost = false := by
  unfold tpB at h
  rw [Int.toNat_natCast, hx] at h
  simp only [Bool.and_eq_true, decide_eq_true_eq] at h
  simpa using h.2
theorem node_vals {ns : List NodeD} {ps : List PodD} {os : List OwnD} (h : checkS ns ps os = 0) {x : NodeD} (hx : x ∈ ns) : ∀ y ∈ x.labels, y.2.length ≤ 1000 := by
  intro y hy
  unfold checkS at h
  split at h
  · rename_i hc
    unfold clusB at hc
    simp only [Bool.and_eq_true, List.all_eq_true] at hc
    have h1 := hc.1.1.2 x hx
    unfold nodeB at h1
    simp only [Bool.and_eq_true, beq_iff_eq] at h1
    have h2 := chkK_all h1.1.2 y hy
    unfold La.labB at h2
    simp only [Bool.and_eq_true] at h2
    have h3 := h2.2
    unfold La.valueB at h3
    simp only [Bool.and_eq_true, decide_eq_true_eq] at h3
    have := span15 La.okVal y.2 0 (by omega)
    omega
  · cases h
theorem terms_few {ns : List NodeD} {ps : List PodD} {os : List OwnD} (h : checkS ns ps os = 0) {x : PodD} (hx : x ∈ ps) : x.wtm.length ≤ 6 ∧ x.apm.length ≤ 6 := by
  unfold checkS at h
  split at h
  · rename_i hc
    unfold clusB at hc
    simp only [Bool.and_eq_true, List.all_eq_true] at hc
    have h1 := (hc.1.2 x hx).1
    unfold podB at h1
    simp only [Bool.and_eq_true, beq_iff_eq] at h1
    have hn : ∀ (t : List UInt8) (l : List T3), nearB t l = true → l.length ≤ 6 := by
      intro t l hb
      unfold nearB at hb
      split at hb
      · have : l.length = 0 := by simpa using hb
        omega
      · simp only [Bool.and_eq_true, beq_iff_eq] at hb
        exact chk_few hb.2
    exact ⟨hn _ _ h1.1.2, hn _ _ h1.2⟩
  · cases h
/-- How many terms do not hold, by the program's words. -/
theorem termsO_holds (ts : List T3) (l : List L2) (hp : l.Pairwise (fun x y => x.1 ≠ y.1)) : termsO ts l = numL (fun t => !La.holdsL [t] l) ts := by
  unfold termsO
  congr 1
  funext t
  rw [holdO_eq l hp t]
  simp [La.holdsL]

/-- The pods near a pod that are of terms, itself too, of the first k. -/
def nearP (ns : List NodeD) (ps : List PodD) (p : List Int) (pod : Nat) (topo : List UInt8) (terms : List T3) : Nat → List Int
  | 0 => []
  | k + 1 => nearP ns ps p pod topo terms k ++ (if aboutB ns ps p pod topo terms false k then [(k : Int)] else [])
theorem nearP_len (ns : List NodeD) (ps : List PodD) (p : List Int) (pod : Nat) (topo : List UInt8) (terms : List T3) : ∀ k, (nearP ns ps p pod topo terms k).length = aboutU ns ps p pod topo terms false k
  | 0 => rfl
  | k + 1 => by
    rw [nearP, aboutU, List.length_append, nearP_len ns ps p pod topo terms k]
    split <;> rfl
theorem aboutB_others (ns : List NodeD) (ps : List PodD) (p : List Int) (pod : Nat) (topo : List UInt8) (terms : List T3) (k : Nat) : aboutB ns ps p pod topo terms true k = (!decide (k = pod) && aboutB ns ps p pod topo terms false k) := by
  unfold aboutB
  cases p[k]? with
  | none => simp
  | some x =>
    cases p[pod]? with
    | none => simp
    | some xp =>
      cases ps[k]? with
      | none => simp
      | some y =>
        dsimp only
        cases decide (0 ≤ x) <;> cases decide (k = pod) <;> simp
theorem nearP_others (ns : List NodeD) (ps : List PodD) (p : List Int) (pod : Nat) (topo : List UInt8) (terms : List T3) : ∀ k, numL (fun x : Int => !decide (x = (pod : Int))) (nearP ns ps p pod topo terms k) = aboutU ns ps p pod topo terms true k
  | 0 => rfl
  | k + 1 => by
    have ih := nearP_others ns ps p pod topo terms k
    unfold numL at ih ⊢
    rw [nearP, aboutU, List.filter_append, List.length_append, ih, aboutB_others]
    by_cases hk : k = pod
    · subst hk
      cases aboutB ns ps p k topo terms false k <;> simp
    · have hk2 : ¬ (k : Int) = (pod : Int) := by omega
      cases aboutB ns ps p pod topo terms false k <;> simp [hk, hk2]
theorem nearP_none {ns : List NodeD} {ps : List PodD} {p : List Int} {pod q : Nat} {topo : List UInt8} {terms : List T3} {xb : NodeD} (hp : p[pod]? = some (q : Int)) (hb : ns[q]? = some xb) (hv : valK xb topo = none) : ∀ k, nearP ns ps p pod topo terms k = []
  | 0 => rfl
  | k + 1 => by
    have : aboutB ns ps p pod topo terms false k = false := by
      unfold aboutB
      rw [hp]
      cases p[k]? with
      | none => rfl
      | some x =>
        cases ps[k]? with
        | none => rfl
        | some y =>
          dsimp only
          rw [Int.toNat_natCast, hb]
          cases ns[x.toNat]? with
          | none => simp
          | some a =>
            have : nearO a xb topo = false := by
              unfold nearO
              rw [hv]
              cases valK a topo <;> rfl
            simp [this]
    rw [nearP, nearP_none hp hb hv k, this]
    rfl
end Go.Proofs.YticgcimcebdjlaaGreat

namespace Go.Proofs.YticgcimcebdjlaaGreat
open Go.RowKit

theorem slT10 {W : World} {b : Nat} {c : TypeId} (t : T3) (hb : Blk W b #[.int .i64 t.1, strV t.2.1, strV t.2.2] c) : La.SlAt W (some ⟨b, 0, none⟩) (La.cellsT [t]) := by
  intro j v hj
  refine ⟨b, 0, rfl, ?_⟩
  rw [Nat.zero_add]
  match j, hj with
  | 0, hj => rw [← show some (.int .i64 t.1) = some v from hj]; exact Blk.cell hb 0
  | 1, hj => rw [← show some (strV t.2.1) = some v from hj]; exact Blk.cell hb 1
  | 2, hj => rw [← show some (strV t.2.2) = some v from hj]; exact Blk.cell hb 2
theorem slT1 (V : World) (t : T3) (c : TypeId) : La.SlAt (V.alloc (.cells #[.int .i64 t.1, strV t.2.1, strV t.2.2] c)).drew (some ⟨V.heap.size, 0, none⟩) (La.cellsT [t]) := slT10 t (Blk.drew (Blk.new V _ _))
theorem slT1D (V : World) (t : T3) (c : TypeId) : La.SlAt (V.drew.alloc (.cells #[.int .i64 t.1, strV t.2.1, strV t.2.2] c)) (some ⟨V.drew.heap.size, 0, none⟩) (La.cellsT [t]) := slT10 t (Blk.new V.drew _ _)
theorem slT1E (V : World) (t : T3) (c : TypeId) : La.SlAt (V.alloc (.cells #[.int .i64 t.1, strV t.2.1, strV t.2.2] c)) (some ⟨V.heap.size, 0, none⟩) (La.cellsT [t]) := slT10 t (Blk.new V _ _)

set_option maxRecDepth 100000 in
set_option maxHeartbeats 8000000 in
theorem notWhere_any (A B C P : Option Addr) (ca cb cc cp : Nat) (ns : List NodeD) (ps : List PodD) (os : List OwnD) (p : List Int) (i q : Nat) (x : PodD) (n : NodeD) (hE : placeE ns ps os p = 0) (hi : p[i]? = some (q : Int)) (hx : ps[i]? = some x) (hn : ns[q]? = some n) (w : World) (h : SnapAt w A B C ca cb cc ns ps os) (hp : IntsAt w P cp p) :
    Calls Tryz.prog 152 #[viewV A B C P ca cb cc cp ns ps os p, .int .i64 (i : Int)] w fun e w' => e = .returned (.tuple #[.int .i64 (termsO x.whr n.labels : Int), .bool true]) ∧ Below w.heap.size w w' := by
  have hxm := List.mem_of_getElem? hx
  have hnm := List.mem_of_getElem? hn
  obtain ⟨nk1, nk2, nk3⟩ := node_keys (placeE_chk hE) hnm
  obtain ⟨pk1, pk2, pk3, pk4⟩ := pod_keys (placeE_chk hE) hxm
  have B0 : Hid (Below w.heap.size w (w.alloc (.cells (viewC A B C P ca cb cc cp ns ps os p) 162))) := Lib.hid (below1 w _)
  have S0 : Hid (Blk (w.alloc (.cells (viewC A B C P ca cb cc cp ns ps os p) 162)) w.heap.size (viewC A B C P ca cb cc cp ns ps os p) 162) := Lib.hid (Blk.new w _ _)
  have i0 : (0 : Int) ≤ (i : Int) := by omega
  have i1 : (i : Int) < (p.length : Int) := by have := (List.getElem?_eq_some_iff.1 hi).1; omega
  have i2 : (i : Int) < (ps.length : Int) := by have := (List.getElem?_eq_some_iff.1 hx).1; omega
  have q1 : (0 : Int) ≤ (q : Int) := by omega
  have q2 : (q : Int) < (ns.length : Int) := by have := (List.getElem?_eq_some_iff.1 hn).1; omega
  have E : Hid (termsO x.whr n.labels = numL (fun t => !La.holdsL [t] n.labels) x.whr) := Lib.hid (termsO_holds _ _ nk1)
  obtain ⟨bp, op, hAp, _, _⟩ := atI hp.cells hi
  subst hAp
  obtain ⟨b, o, hB, _⟩ := atP h.p.cells hx
  subst hB
  obtain ⟨bn, on, hA, _⟩ := atN h.n.cells hn
  subst hA
  have HPC : Hid (∀ W', Below w.heap.size w W' → W'.cell? ⟨bp, op + i, none⟩ = some (.int .i64 (q : Int))) := Lib.hid (fun W' hb => by
    obtain ⟨b', o', hA', _, hc⟩ := atI (hp.below hb).cells hi
    cases hA'
    exact hc)
  have PC := Lib.hid (fun W' (hb : Below w.heap.size w W') => (by
    obtain ⟨b', o', hA', _, c0, c1, c2, c3, c4, c5, c6, c7, c8, c9, _⟩ := atP (h.below hb).p.cells hx
    cases hA'
    exact ⟨c8, c9⟩ : W'.cell? ⟨b, o + i * 15 + 8, none⟩ = some (.slice x.aw x.whr.length x.cw) ∧ W'.cell? ⟨b, o + i * 15 + 9, none⟩ = some (.slice x.ab x.bears.length x.cb)))
  have NC := Lib.hid (fun W' (hb : Below w.heap.size w W') => (by
    obtain ⟨b', o', hA', _, c0, c1, c2, c3, c4, c5, c6, c7, _⟩ := atN (h.below hb).n.cells hn
    cases hA'
    exact ⟨c6, c7⟩ : W'.cell? ⟨bn, on + q * 10 + 6, none⟩ = some (.slice n.al n.labels.length n.cl) ∧ W'.cell? ⟨bn, on + q * 10 + 7, none⟩ = some (.slice n.at_ n.taints.length n.ct)))
  have XF := Lib.hid (fun W' (hb : Below w.heap.size w W') => (h.below hb).p.fit x hxm)
  have NF := Lib.hid (fun W' (hb : Below w.heap.size w W') => (h.below hb).n.fit n hnm)
  have HPL := Lib.hid (placeE_len hE)
  generalize termsO x.whr n.labels = R at E ⊢
  clear h hp hE hi hx hn hxm hnm
  go_enter Tryz.func152, Tryz.ntmps152
  obtain ⟨W, hW⟩ : ∃ W, (w.alloc (.cells (viewC (some ⟨bn, on, none⟩) (some ⟨b, o, none⟩) C (some ⟨bp, op, none⟩) ca cb cc cp ns ps os p) 162)) = W := ⟨_, rfl⟩
  rw [hW] at B0 S0
  go_upto_region 1 with fail
  try rw [show (w.alloc (.cells #[.slice (some ⟨bn, on, none⟩) ns.length ca, .slice (some ⟨b, o, none⟩) ps.length cb, .slice C os.length cc, .slice (some ⟨bp, op, none⟩) p.length cp] 162)) = W from hW]
  clear hW
  have HZ := Lib.hid (fun W' (hb : Below W.heap.size W W') => (show W'.cell? ⟨w.heap.size, 0, none⟩ = some (.slice (some ⟨bn, on, none⟩) ns.length ca) ∧ W'.cell? ⟨w.heap.size, 1, none⟩ = some (.slice (some ⟨b, o, none⟩) ps.length cb) ∧ W'.cell? ⟨w.heap.size, 2, none⟩ = some (.slice C os.length cc) ∧ W'.cell? ⟨w.heap.size, 3, none⟩ = some (.slice (some ⟨bp, op, none⟩) p.length cp) from ⟨Blk.cell (S0.out.below hb S0.out.lt) 0, Blk.cell (S0.out.below hb S0.out.lt) 1, Blk.cell (S0.out.below hb S0.out.lt) 2, Blk.cell (S0.out.below hb S0.out.lt) 3⟩))
  have HT := Lib.hid (fun W' (hb : Below W.heap.size W W') => B0.out.trans (hb.mono B0.out.size))
  clear B0 S0
  obtain ⟨z0, z1, z2, z3⟩ := HZ.out _ (Below.refl _ W)
  have pk := HPC.out _ (HT.out _ (Below.refl _ W))
  obtain ⟨x8, x9⟩ := PC.out _ (HT.out _ (Below.refl _ W))
  obtain ⟨n6, n7⟩ := NC.out _ (HT.out _ (Below.refl _ W))
  go_wp2_with fail

  clear z0 z1 z2 z3 pk x8 x9 n6 n7
  go_loopw [4, 16] (fun c j wr => ∃ k : Nat, k ≤ x.whr.length ∧ j = .int .i64 (k : Int) ∧ c = .int .i64 ((numL (fun t => !La.holdsL [t] n.labels) (x.whr.take k) : Nat) : Int) ∧ Below W.heap.size W wr) (fun _ j _ => x.whr.length - (intOf j).toNat)
  case atStart => exact ⟨0, by omega, rfl, rfl, by first | exact Below.refl _ _ | exact below_drewN (Below.refl _ _) _ | exact (Below.refl _ _).drew⟩
  case round =>
    obtain ⟨k, hk, rfl, rfl, hb⟩ := hrel
    have HB := Lib.hid hb
    clear hb
    by_cases hlt : k < x.whr.length
    case neg =>
      obtain rfl : k = x.whr.length := by omega
      rw [List.take_length, ← E.out]
      go_wp2
      go_ret2
      exact ⟨rfl, HT.out _ HB.out⟩
    obtain ⟨t, ht⟩ : ∃ t, x.whr[k]? = some t := ⟨x.whr[k], List.getElem?_eq_getElem hlt⟩
    have HTt := Lib.hid ht
    have HS := Lib.hid (numL_snoc (fun t => !La.holdsL [t] n.labels) ht)
    have hnl := numL_le (fun t => !La.holdsL [t] n.labels) (x.whr.take k)
    rw [List.length_take] at hnl
    generalize numL (fun t => !La.holdsL [t] n.labels) (x.whr.take k) = m at HS hnl ⊢
    have k0 : (0 : Int) ≤ (k : Int) := by omega
    have k1 : (k : Int) < (x.whr.length : Int) := by omega
    obtain ⟨bt, ot, hAt, _, t0, t1, t2⟩ := La.SlAt.ter ((XF.out _ (HT.out _ HB.out)).wh.cells) ht
    go_upto_region 4 with fail
    have TB : Hid (Blk (wr.alloc (.cells #[.int .i64 t.1, strV t.2.1, strV t.2.2] 135)) wr.heap.size #[.int .i64 t.1, strV t.2.1, strV t.2.2] 135) := Lib.hid (Blk.new wr _ _)
    have HBV : Hid (Below W.heap.size W (wr.alloc (.cells #[.int .i64 t.1, strV t.2.1, strV t.2.2] 135))) := Lib.hid (HB.out.alloc HB.out.size _)
    try change Code.wp _ _ _ _ (wr.alloc (.cells #[.int .i64 t.1, strV t.2.1, strV t.2.2] 135))
    generalize (wr.alloc (.cells #[.int .i64 t.1, strV t.2.1, strV t.2.2] 135)) = V at TB HBV ⊢
    generalize wr.heap.size = Nb at TB ⊢
    have SF : Hid (∀ w', Below V.heap.size V w' → w'.cell? ⟨Nb, 0, none⟩ = some (.int .i64 t.1) ∧ w'.cell? ⟨Nb, 1, none⟩ = some (strV t.2.1) ∧ w'.cell? ⟨Nb, 2, none⟩ = some (strV t.2.2) ∧ w'.cell? ⟨w.heap.size, 0, none⟩ = some (.slice (some ⟨bn, on, none⟩) ns.length ca) ∧ w'.cell? ⟨w.heap.size, 3, none⟩ = some (.slice (some ⟨bp, op, none⟩) p.length cp) ∧ w'.cell? ⟨bp, op + i, none⟩ = some (.int .i64 (q : Int)) ∧ w'.cell? ⟨bn, on + q * 10 + 6, none⟩ = some (.slice n.al n.labels.length n.cl)) := Lib.hid (fun w' hb => by
      have hbW := HBV.out.trans (hb.mono HBV.out.size)
      obtain ⟨z0, z1, z2, z3⟩ := HZ.out _ hbW
      have pk := HPC.out _ (HT.out _ hbW)
      obtain ⟨x8, x9⟩ := PC.out _ (HT.out _ hbW)
      obtain ⟨n6, n7⟩ := NC.out _ (HT.out _ hbW)
      exact ⟨Blk.cell (TB.out.below hb TB.out.lt) 0, Blk.cell (TB.out.below hb TB.out.lt) 1, Blk.cell (TB.out.below hb TB.out.lt) 2, z0, z3, pk, n6⟩)
    have KH := Lib.hid (fun W' (hb : Below V.heap.size V W') (N' : Nat) (hT : La.SlAt W' (some ⟨N', 0, none⟩) (La.cellsT [t])) => La.holds_any (some ⟨N', 0, none⟩) n.al 1 n.cl [t] n.labels W' (by simp) (by simp) (by omega) (NF.out _ (HT.out _ (HBV.out.trans (hb.mono HBV.out.size)))).l.le hT (NF.out _ (HT.out _ (HBV.out.trans (hb.mono HBV.out.size)))).l.cells)
    clear t0 t1 t2 hAt
    go_region_held3 (fun w' => w'.cell? ⟨Nb, 0, none⟩ = some (.int .i64 t.1) ∧ w'.cell? ⟨Nb, 1, none⟩ = some (strV t.2.1) ∧ w'.cell? ⟨Nb, 2, none⟩ = some (strV t.2.2) ∧ w'.cell? ⟨w.heap.size, 0, none⟩ = some (.slice (some ⟨bn, on, none⟩) ns.length ca) ∧ w'.cell? ⟨w.heap.size, 3, none⟩ = some (.slice (some ⟨bp, op, none⟩) p.length cp) ∧ w'.cell? ⟨bp, op + i, none⟩ = some (.int .i64 (q : Int)) ∧ w'.cell? ⟨bn, on + q * 10 + 6, none⟩ = some (.slice n.al n.labels.length n.cl)) (exact SF.out _ (by go_grown))
      (first
        | (go_at_call 207
           refine (KH.out _ (by go_grown) _ (by first | exact slT1 V t _ | exact slT1D V t _ | exact slT1E V t _)).mono ?_
           rintro e wA ⟨rfl, hbA⟩
           have D3 : Below V.heap.size V wA := Below.trans (by go_grown) (hbA.mono (by go_grown))
           clear hbA))
    all_goals
      have HB3 := Lib.hid (HBV.out.trans (D3.mono HBV.out.size))
      clear D3 SF KH TB HBV
      cases hv : La.holdsL [t] n.labels with
      | true =>
        have HE : Hid (numL (fun t => !La.holdsL [t] n.labels) (x.whr.take (k + 1)) = m) := Lib.hid (by rw [HS.out, hv]; simp)
        clear HS
        go_wp2_with fail
        go_roundw
        case rel => exact ⟨k + 1, by omega, by go_num, by rw [HE.out], HB3.out⟩
        case measure => simp [intOf]; omega
      | false =>
        have HE : Hid (numL (fun t => !La.holdsL [t] n.labels) (x.whr.take (k + 1)) = m + 1) := Lib.hid (by rw [HS.out, hv]; simp)
        have hwm : IntKind.i64.wrap ((m : Int) + 1) = (m : Int) + 1 := IntWalk.i64_in _ (by omega)
        clear HS
        go_wp2_with fail
        go_roundw
        case rel => exact ⟨k + 1, by omega, by go_num, by rw [HE.out]; simp, HB3.out⟩
        case measure => simp [intOf]; omega
end Go.Proofs.YticgcimcebdjlaaGreat

namespace Go.Proofs.YticgcimcebdjlaaGreat
open Go.RowKit

theorem slL10 {W : World} {b : Nat} {c : TypeId} (t : L2) (hb : Blk W b #[strV t.1, strV t.2] c) : La.SlAt W (some ⟨b, 0, none⟩) (La.cellsL [t]) := by
  intro j v hj
  refine ⟨b, 0, rfl, ?_⟩
  rw [Nat.zero_add]
  match j, hj with
  | 0, hj => rw [← show some (strV t.1) = some v from hj]; exact Blk.cell hb 0
  | 1, hj => rw [← show some (strV t.2) = some v from hj]; exact Blk.cell hb 1
theorem slL1 (V : World) (t : L2) (c : TypeId) : La.SlAt (V.alloc (.cells #[strV t.1, strV t.2] c)).drew (some ⟨V.heap.size, 0, none⟩) (La.cellsL [t]) := slL10 t (Blk.drew (Blk.new V _ _))
theorem slL1D (V : World) (t : L2) (c : TypeId) : La.SlAt (V.drew.alloc (.cells #[strV t.1, strV t.2] c)) (some ⟨V.drew.heap.size, 0, none⟩) (La.cellsL [t]) := slL10 t (Blk.new V.drew _ _)
theorem slL1E (V : World) (t : L2) (c : TypeId) : La.SlAt (V.alloc (.cells #[strV t.1, strV t.2] c)) (some ⟨V.heap.size, 0, none⟩) (La.cellsL [t]) := slL10 t (Blk.new V _ _)

set_option maxRecDepth 100000 in
set_option maxHeartbeats 8000000 in
theorem notBorne_any (A B C P : Option Addr) (ca cb cc cp : Nat) (ns : List NodeD) (ps : List PodD) (os : List OwnD) (p : List Int) (i q : Nat) (x : PodD) (n : NodeD) (hE : placeE ns ps os p = 0) (hi : p[i]? = some (q : Int)) (hx : ps[i]? = some x) (hn : ns[q]? = some n) (w : World) (h : SnapAt w A B C ca cb cc ns ps os) (hp : IntsAt w P cp p) :
    Calls Tryz.prog 153 #[viewV A B C P ca cb cc cp ns ps os p, .int .i64 (i : Int)] w fun e w' => e = .returned (.tuple #[.int .i64 (taintsO n.taints x.bears : Int), .bool true]) ∧ Below w.heap.size w w' := by
  have hxm := List.mem_of_getElem? hx
  have hnm := List.mem_of_getElem? hn
  obtain ⟨nk1, nk2, nk3⟩ := node_keys (placeE_chk hE) hnm
  obtain ⟨pk1, pk2, pk3, pk4⟩ := pod_keys (placeE_chk hE) hxm
  have B0 : Hid (Below w.heap.size w (w.alloc (.cells (viewC A B C P ca cb cc cp ns ps os p) 162))) := Lib.hid (below1 w _)
  have S0 : Hid (Blk (w.alloc (.cells (viewC A B C P ca cb cc cp ns ps os p) 162)) w.heap.size (viewC A B C P ca cb cc cp ns ps os p) 162) := Lib.hid (Blk.new w _ _)
  have i0 : (0 : Int) ≤ (i : Int) := by omega
  have i1 : (i : Int) < (p.length : Int) := by have := (List.getElem?_eq_some_iff.1 hi).1; omega
  have i2 : (i : Int) < (ps.length : Int) := by have := (List.getElem?_eq_some_iff.1 hx).1; omega
  have q1 : (0 : Int) ≤ (q : Int) := by omega
  have q2 : (q : Int) < (ns.length : Int) := by have := (List.getElem?_eq_some_iff.1 hn).1; omega
  have E : Hid (taintsO n.taints x.bears = numL (fun t => !La.bearsL x.bears [t]) n.taints) := Lib.hid (rfl)
  obtain ⟨bp, op, hAp, _, _⟩ := atI hp.cells hi
  subst hAp
  obtain ⟨b, o, hB, _⟩ := atP h.p.cells hx
  subst hB
  obtain ⟨bn, on, hA, _⟩ := atN h.n.cells hn
  subst hA
  have HPC : Hid (∀ W', Below w.heap.size w W' → W'.cell? ⟨bp, op + i, none⟩ = some (.int .i64 (q : Int))) := Lib.hid (fun W' hb => by
    obtain ⟨b', o', hA', _, hc⟩ := atI (hp.below hb).cells hi
    cases hA'
    exact hc)
  have PC := Lib.hid (fun W' (hb : Below w.heap.size w W') => (by
    obtain ⟨b', o', hA', _, c0, c1, c2, c3, c4, c5, c6, c7, c8, c9, _⟩ := atP (h.below hb).p.cells hx
    cases hA'
    exact ⟨c8, c9⟩ : W'.cell? ⟨b, o + i * 15 + 8, none⟩ = some (.slice x.aw x.whr.length x.cw) ∧ W'.cell? ⟨b, o + i * 15 + 9, none⟩ = some (.slice x.ab x.bears.length x.cb)))
  have NC := Lib.hid (fun W' (hb : Below w.heap.size w W') => (by
    obtain ⟨b', o', hA', _, c0, c1, c2, c3, c4, c5, c6, c7, _⟩ := atN (h.below hb).n.cells hn
    cases hA'
    exact ⟨c6, c7⟩ : W'.cell? ⟨bn, on + q * 10 + 6, none⟩ = some (.slice n.al n.labels.length n.cl) ∧ W'.cell? ⟨bn, on + q * 10 + 7, none⟩ = some (.slice n.at_ n.taints.length n.ct)))
  have XF := Lib.hid (fun W' (hb : Below w.heap.size w W') => (h.below hb).p.fit x hxm)
  have NF := Lib.hid (fun W' (hb : Below w.heap.size w W') => (h.below hb).n.fit n hnm)
  have HPL := Lib.hid (placeE_len hE)
  generalize taintsO n.taints x.bears = R at E ⊢
  clear h hp hE hi hx hn hxm hnm
  go_enter Tryz.func153, Tryz.ntmps153
  obtain ⟨W, hW⟩ : ∃ W, (w.alloc (.cells (viewC (some ⟨bn, on, none⟩) (some ⟨b, o, none⟩) C (some ⟨bp, op, none⟩) ca cb cc cp ns ps os p) 162)) = W := ⟨_, rfl⟩
  rw [hW] at B0 S0
  go_upto_region 1 with fail
  try rw [show (w.alloc (.cells #[.slice (some ⟨bn, on, none⟩) ns.length ca, .slice (some ⟨b, o, none⟩) ps.length cb, .slice C os.length cc, .slice (some ⟨bp, op, none⟩) p.length cp] 162)) = W from hW]
  clear hW
  have HZ := Lib.hid (fun W' (hb : Below W.heap.size W W') => (show W'.cell? ⟨w.heap.size, 0, none⟩ = some (.slice (some ⟨bn, on, none⟩) ns.length ca) ∧ W'.cell? ⟨w.heap.size, 1, none⟩ = some (.slice (some ⟨b, o, none⟩) ps.length cb) ∧ W'.cell? ⟨w.heap.size, 2, none⟩ = some (.slice C os.length cc) ∧ W'.cell? ⟨w.heap.size, 3, none⟩ = some (.slice (some ⟨bp, op, none⟩) p.length cp) from ⟨Blk.cell (S0.out.below hb S0.out.lt) 0, Blk.cell (S0.out.below hb S0.out.lt) 1, Blk.cell (S0.out.below hb S0.out.lt) 2, Blk.cell (S0.out.below hb S0.out.lt) 3⟩))
  have HT := Lib.hid (fun W' (hb : Below W.heap.size W W') => B0.out.trans (hb.mono B0.out.size))
  clear B0 S0
  obtain ⟨z0, z1, z2, z3⟩ := HZ.out _ (Below.refl _ W)
  have pk := HPC.out _ (HT.out _ (Below.refl _ W))
  obtain ⟨x8, x9⟩ := PC.out _ (HT.out _ (Below.refl _ W))
  obtain ⟨n6, n7⟩ := NC.out _ (HT.out _ (Below.refl _ W))
  go_quiet (fail)
  go_wp2_with fail
  clear z0 z1 z2 z3 pk x8 x9 n6 n7
  go_loopw [4, 20] (fun c j wr => ∃ k : Nat, k ≤ n.taints.length ∧ j = .int .i64 (k : Int) ∧ c = .int .i64 ((numL (fun t => !La.bearsL x.bears [t]) (n.taints.take k) : Nat) : Int) ∧ Below W.heap.size W wr) (fun _ j _ => n.taints.length - (intOf j).toNat)
  case atStart => exact ⟨0, by omega, rfl, rfl, by first | exact Below.refl _ _ | exact below_drewN (Below.refl _ _) _ | exact (Below.refl _ _).drew⟩
  case round =>
    obtain ⟨k, hk, rfl, rfl, hb⟩ := hrel
    have HB := Lib.hid hb
    clear hb
    by_cases hlt : k < n.taints.length
    case neg =>
      obtain rfl : k = n.taints.length := by omega
      rw [List.take_length, ← E.out]
      go_wp2
      go_ret2
      exact ⟨rfl, HT.out _ HB.out⟩
    obtain ⟨t, ht⟩ : ∃ t, n.taints[k]? = some t := ⟨n.taints[k], List.getElem?_eq_getElem hlt⟩
    have HTt := Lib.hid ht
    have HS := Lib.hid (numL_snoc (fun t => !La.bearsL x.bears [t]) ht)
    have hnl := numL_le (fun t => !La.bearsL x.bears [t]) (n.taints.take k)
    rw [List.length_take] at hnl
    generalize numL (fun t => !La.bearsL x.bears [t]) (n.taints.take k) = m at HS hnl ⊢
    have k0 : (0 : Int) ≤ (k : Int) := by omega
    have k1 : (k : Int) < (n.taints.length : Int) := by omega
    obtain ⟨bt, ot, hAt, _, t0, t1⟩ := La.SlAt.lab ((NF.out _ (HT.out _ HB.out)).t.cells) ht
    go_upto_region 4 with fail
    have TB : Hid (Blk (wr.alloc (.cells #[strV t.1, strV t.2] 133)) wr.heap.size #[strV t.1, strV t.2] 133) := Lib.hid (Blk.new wr _ _)
    have HBV : Hid (Below W.heap.size W (wr.alloc (.cells #[strV t.1, strV t.2] 133))) := Lib.hid (HB.out.alloc HB.out.size _)
    try change Code.wp _ _ _ _ (wr.alloc (.cells #[strV t.1, strV t.2] 133))
    generalize (wr.alloc (.cells #[strV t.1, strV t.2] 133)) = V at TB HBV ⊢
    generalize wr.heap.size = Nb at TB ⊢
    have SF : Hid (∀ w', Below V.heap.size V w' → w'.cell? ⟨Nb, 0, none⟩ = some (strV t.1) ∧ w'.cell? ⟨Nb, 1, none⟩ = some (strV t.2) ∧ w'.cell? ⟨w.heap.size, 0, none⟩ = some (.slice (some ⟨bn, on, none⟩) ns.length ca) ∧ w'.cell? ⟨w.heap.size, 1, none⟩ = some (.slice (some ⟨b, o, none⟩) ps.length cb) ∧ w'.cell? ⟨w.heap.size, 3, none⟩ = some (.slice (some ⟨bp, op, none⟩) p.length cp) ∧ w'.cell? ⟨bp, op + i, none⟩ = some (.int .i64 (q : Int)) ∧ w'.cell? ⟨b, o + i * 15 + 9, none⟩ = some (.slice x.ab x.bears.length x.cb)) := Lib.hid (fun w' hb => by
      have hbW := HBV.out.trans (hb.mono HBV.out.size)
      obtain ⟨z0, z1, z2, z3⟩ := HZ.out _ hbW
      have pk := HPC.out _ (HT.out _ hbW)
      obtain ⟨x8, x9⟩ := PC.out _ (HT.out _ hbW)
      obtain ⟨n6, n7⟩ := NC.out _ (HT.out _ hbW)
      exact ⟨Blk.cell (TB.out.below hb TB.out.lt) 0, Blk.cell (TB.out.below hb TB.out.lt) 1, z0, z1, z3, pk, x9⟩)
    have KH := Lib.hid (fun W' (hb : Below V.heap.size V W') (N' : Nat) (hT : La.SlAt W' (some ⟨N', 0, none⟩) (La.cellsL [t])) => La.bears_any x.ab (some ⟨N', 0, none⟩) x.cb 1 x.bears [t] W' (by omega) (XF.out _ (HT.out _ (HBV.out.trans (hb.mono HBV.out.size)))).b.le (by simp) (by simp) (XF.out _ (HT.out _ (HBV.out.trans (hb.mono HBV.out.size)))).b.cells hT)
    clear t0 t1 hAt
    go_region_held3 (fun w' => w'.cell? ⟨Nb, 0, none⟩ = some (strV t.1) ∧ w'.cell? ⟨Nb, 1, none⟩ = some (strV t.2) ∧ w'.cell? ⟨w.heap.size, 0, none⟩ = some (.slice (some ⟨bn, on, none⟩) ns.length ca) ∧ w'.cell? ⟨w.heap.size, 1, none⟩ = some (.slice (some ⟨b, o, none⟩) ps.length cb) ∧ w'.cell? ⟨w.heap.size, 3, none⟩ = some (.slice (some ⟨bp, op, none⟩) p.length cp) ∧ w'.cell? ⟨bp, op + i, none⟩ = some (.int .i64 (q : Int)) ∧ w'.cell? ⟨b, o + i * 15 + 9, none⟩ = some (.slice x.ab x.bears.length x.cb)) (exact SF.out _ (by go_grown))
      (first
        | (go_at_call 208
           refine (KH.out _ (by go_grown) _ (by first | exact slL1 V t _ | exact slL1D V t _ | exact slL1E V t _)).mono ?_
           rintro e wA ⟨rfl, hbA⟩
           have D3 : Below V.heap.size V wA := Below.trans (by go_grown) (hbA.mono (by go_grown))
           clear hbA))
    all_goals
      have HB3 := Lib.hid (HBV.out.trans (D3.mono HBV.out.size))
      clear D3 SF KH TB HBV
      cases hv : La.bearsL x.bears [t] with
      | true =>
        have HE : Hid (numL (fun t => !La.bearsL x.bears [t]) (n.taints.take (k + 1)) = m) := Lib.hid (by rw [HS.out, hv]; simp)
        clear HS
        go_wp2_with fail
        go_roundw
        case rel => exact ⟨k + 1, by omega, by go_num, by rw [HE.out], HB3.out⟩
        case measure => simp [intOf]; omega
      | false =>
        have HE : Hid (numL (fun t => !La.bearsL x.bears [t]) (n.taints.take (k + 1)) = m + 1) := Lib.hid (by rw [HS.out, hv]; simp)
        have hwm : IntKind.i64.wrap ((m : Int) + 1) = (m : Int) + 1 := IntWalk.i64_in _ (by omega)
        clear HS
        go_wp2_with fail
        go_roundw
        case rel => exact ⟨k + 1, by omega, by go_num, by rw [HE.out]; simp, HB3.out⟩
        case measure => simp [intOf]; omega
end Go.Proofs.YticgcimcebdjlaaGreat

namespace Go.Proofs.YticgcimcebdjlaaGreat
open Go.RowKit

theorem int_info8 : (Tryz.prog.info? 3).map (fun i => (i.zero, i.size, i.bytes)) = some (some (.int .i64 0), 1, 8) := by kernel_rfl
abbrev nearV (AT : Option Addr) (ct : Nat) (topo : List UInt8) (terms : List T3) : Value := .agg #[strV topo, .slice AT terms.length ct]

set_option maxRecDepth 100000 in
set_option maxHeartbeats 8000000 in
theorem near8_any (A B C P AT : Option Addr) (ca cb cc cp ct : Nat) (ns : List NodeD) (ps : List PodD) (os : List OwnD) (p : List Int) (i q : Nat) (topo : List UInt8) (terms : List T3) (n : NodeD) (hE : placeE ns ps os p = 0) (hi : p[i]? = some (q : Int)) (hn : ns[q]? = some n) (htl : terms.length ≤ 6) (htc : terms.length ≤ ct) (w : World) (h : SnapAt w A B C ca cb cc ns ps os) (hp : IntsAt w P cp p) (hT : La.SlAt w AT (La.cellsT terms)) :
    Calls Tryz.prog 209 #[viewV A B C P ca cb cc cp ns ps os p, .int .i64 (i : Int), nearV AT ct topo terms] w fun e w' => ∃ v, e = .returned v ∧ w'.ownsRow w.heap.size 3 1 v (nearP ns ps p i topo terms p.length).length ((nearP ns ps p i topo terms p.length).map (Value.int .i64)) ∧ Below w.heap.size w w' := by
  have hck := placeE_chk hE
  have hnm := List.mem_of_getElem? hn
  obtain ⟨nk1, nk2, _⟩ := node_keys hck hnm
  have nvl := node_vals hck hnm
  have hlp := h.lp
  have HPL := Lib.hid (placeE_len hE)
  have hlost : n.lost = false := tpB_up (placeE_on hE hi (by omega)) hn
  have HON : Hid (∀ (k : Nat) (x : Int), p[k]? = some x → x ≠ -1 → ∃ (q : Nat) (xa : NodeD), x = (q : Int) ∧ ns[q]? = some xa ∧ xa.lost = false ∧ xa.labels.Pairwise (fun a b => a.1 ≠ b.1) ∧ xa.labels.length ≤ 6 ∧ (∀ y ∈ xa.labels, y.2.length ≤ 1000)) := Lib.hid (fun k x hk hx => by
    have ht := placeE_on hE hk hx
    obtain ⟨q, rfl, hq⟩ := tpB_lt ht
    have hm : ns[q]? = some ns[q] := List.getElem?_eq_getElem hq
    obtain ⟨a1, a2, _⟩ := node_keys hck (List.mem_of_getElem? hm)
    exact ⟨q, ns[q], rfl, hm, tpB_up ht hm, a1, a2, node_vals hck (List.mem_of_getElem? hm)⟩)
  have HPO : Hid (∀ (k : Nat) (y : PodD), ps[k]? = some y → y.labels.Pairwise (fun a b => a.1 ≠ b.1) ∧ y.labels.length ≤ 6) := Lib.hid (fun k y hy => by
    obtain ⟨a1, a2, _⟩ := pod_keys hck (List.mem_of_getElem? hy)
    exact ⟨a1, a2⟩)
  obtain ⟨i0x, hi0, hz0, hz1, hz2⟩ := info_parts int_info8
  have i0 : (0 : Int) ≤ (i : Int) := by omega
  have i1 : (i : Int) < (p.length : Int) := by have := (List.getElem?_eq_some_iff.1 hi).1; omega
  have q1 : (0 : Int) ≤ (q : Int) := by omega
  have q2 : (q : Int) < (ns.length : Int) := by have := (List.getElem?_eq_some_iff.1 hn).1; omega
  obtain ⟨bp, op, hAp, _, _⟩ := atI hp.cells hi
  subst hAp
  obtain ⟨bn, on, hA, _⟩ := atN h.n.cells hn
  subst hA
  have B0 : Hid (Below w.heap.size w ((w.alloc (.cells (viewC (some ⟨bn, on, none⟩) B C (some ⟨bp, op, none⟩) ca cb cc cp ns ps os p) 162)).alloc (.cells #[strV topo, .slice AT terms.length ct] 81))) := Lib.hid (Qu.below2 w _ _)
  have S0 : Hid (Blk ((w.alloc (.cells (viewC (some ⟨bn, on, none⟩) B C (some ⟨bp, op, none⟩) ca cb cc cp ns ps os p) 162)).alloc (.cells #[strV topo, .slice AT terms.length ct] 81)) w.heap.size (viewC (some ⟨bn, on, none⟩) B C (some ⟨bp, op, none⟩) ca cb cc cp ns ps os p) 162) := Lib.hid (Blk.alloc (Blk.new w _ _) _)
  have N0 : Hid (Blk ((w.alloc (.cells (viewC (some ⟨bn, on, none⟩) B C (some ⟨bp, op, none⟩) ca cb cc cp ns ps os p) 162)).alloc (.cells #[strV topo, .slice AT terms.length ct] 81)) (w.heap.size + 1) #[strV topo, .slice AT terms.length ct] 81) := Lib.hid (blk2 w _ _ _)
  have HPC : Hid (∀ W', Below w.heap.size w W' → ∀ (k : Nat) (x : Int), p[k]? = some x → W'.cell? ⟨bp, op + k, none⟩ = some (.int .i64 x)) := Lib.hid (fun W' hb k x hk => by
    obtain ⟨b', o', hA', _, hc⟩ := atI (hp.below hb).cells hk
    cases hA'
    exact hc)
  have NC : Hid (∀ W', Below w.heap.size w W' → ∀ (k : Nat) (x : NodeD), ns[k]? = some x → W'.cell? ⟨bn, on + k * 10 + 6, none⟩ = some (.slice x.al x.labels.length x.cl)) := Lib.hid (fun W' hb k x hk => by
    obtain ⟨b', o', hA', _, c0, c1, c2, c3, c4, c5, c6, _⟩ := atN (h.below hb).n.cells hk
    cases hA'
    exact c6)
  have NF := Lib.hid (fun W' (hb : Below w.heap.size w W') (k : Nat) (x : NodeD) (hk : ns[k]? = some x) => ((h.below hb).n.fit x (List.mem_of_getElem? hk)).l)
  have PF := Lib.hid (fun W' (hb : Below w.heap.size w W') (k : Nat) (x : PodD) (hk : ps[k]? = some x) => ((h.below hb).p.fit x (List.mem_of_getElem? hk)).l)
  have PCE := Lib.hid (fun W' (hb : Below w.heap.size w W') (k : Nat) (x : PodD) (hk : ps[k]? = some x) => atP (h.below hb).p.cells hk)
  have HTM := Lib.hid (fun W' (hb : Below w.heap.size w W') => hT.below hb)
  have HI := Lib.hid hi
  have HN := Lib.hid hn
  have KG := Lib.hid (fun W' (hb : Below w.heap.size w W') => La.get_any n.al n.cl n.labels topo W' (by omega) (NF.out W' hb q n HN.out).le (NF.out W' hb q n HN.out).cells nvl)
  have HNone := Lib.hid (fun hv : valK n topo = none => nearP_none (ps := ps) (terms := terms) HI.out HN.out hv p.length)
  rw [valK_up hlost] at HNone
  have HAt : Hid (∀ (k q' : Nat) (xa : NodeD) (y : PodD), p[k]? = some (q' : Int) → ns[q']? = some xa → xa.lost = false → ps[k]? = some y → y.labels.Pairwise (fun a b => a.1 ≠ b.1) → aboutB ns ps p i topo terms false k = ((match getO xa.labels topo, getO n.labels topo with | some u, some v => decide (u = v) | _, _ => false) && La.holdsL terms y.labels)) := Lib.hid (fun k q' xa y h1 h2 h3 h4 h5 => by
    unfold aboutB
    rw [h1, HI.out, h4]
    dsimp only
    rw [Int.toNat_natCast, Int.toNat_natCast, h2, HN.out, decide_eq_true (by omega : (0 : Int) ≤ (q' : Int)), holdsO_eq _ h5]
    dsimp only
    unfold nearO
    rw [valK_up h3, valK_up hlost]
    cases getO xa.labels topo <;> cases getO n.labels topo <;> simp)
  have HWait : Hid (∀ k : Nat, p[k]? = some (-1) → aboutB ns ps p i topo terms false k = false) := Lib.hid (fun k h1 => by
    unfold aboutB
    rw [h1, HI.out]
    cases ps[k]? <;> simp)
  have HNP : Hid (∀ k, nearP ns ps p i topo terms (k + 1) = nearP ns ps p i topo terms k ++ (if aboutB ns ps p i topo terms false k then [(k : Int)] else [])) := Lib.hid (fun k => rfl)
  have HNL : Hid (∀ k, (nearP ns ps p i topo terms k).length ≤ k) := Lib.hid (fun k => by rw [nearP_len]; exact aboutU_le ns ps p i topo terms false k)
  have HNZ : Hid (nearP ns ps p i topo terms 0 = []) := Lib.hid rfl
  rw [getL_getO] at KG
  generalize getO n.labels topo = D at KG HNone HAt
  generalize nearP ns ps p i topo terms = NP at HNone HNP HNL HNZ ⊢
  generalize aboutB ns ps p i topo terms false = AB at HAt HWait HNP
  have pi := HPC.out _ B0.out i _ hi
  have ni := NC.out _ B0.out q _ hn
  clear h hp hT hE hi hn hck hnm nk1 nk2 nvl hlost
  go_enter Tryz.func209, Tryz.ntmps209
  obtain ⟨W, hW⟩ : ∃ W, ((w.alloc (.cells (viewC (some ⟨bn, on, none⟩) B C (some ⟨bp, op, none⟩) ca cb cc cp ns ps os p) 162)).alloc (.cells #[strV topo, .slice AT terms.length ct] 81)) = W := ⟨_, rfl⟩
  rw [hW] at B0 S0 N0 pi ni
  go_upto_region 1 with fail
  try rw [show ((w.alloc (.cells #[.slice (some ⟨bn, on, none⟩) ns.length ca, .slice B ps.length cb, .slice C os.length cc, .slice (some ⟨bp, op, none⟩) p.length cp] 162)).alloc (.cells #[strV topo, .slice AT terms.length ct] 81)) = W from hW]
  clear hW
  have HZ := Lib.hid (fun W' (hb : Below W.heap.size W W') => (show W'.cell? ⟨w.heap.size, 0, none⟩ = some (.slice (some ⟨bn, on, none⟩) ns.length ca) ∧ W'.cell? ⟨w.heap.size, 1, none⟩ = some (.slice B ps.length cb) ∧ W'.cell? ⟨w.heap.size, 3, none⟩ = some (.slice (some ⟨bp, op, none⟩) p.length cp) ∧ W'.cell? ⟨w.heap.size + 1, 0, none⟩ = some (strV topo) ∧ W'.cell? ⟨w.heap.size + 1, 1, none⟩ = some (.slice AT terms.length ct) from ⟨Blk.cell (S0.out.below hb S0.out.lt) 0, Blk.cell (S0.out.below hb S0.out.lt) 1, Blk.cell (S0.out.below hb S0.out.lt) 3, Blk.cell (N0.out.below hb N0.out.lt) 0, Blk.cell (N0.out.below hb N0.out.lt) 1⟩))
  have HT := Lib.hid (fun W' (hb : Below W.heap.size W W') => B0.out.trans (hb.mono B0.out.size))
  have HB0 := Lib.hid B0.out.size
  clear B0 S0 N0
  have HB : Hid (Below W.heap.size W W.drew) := Lib.hid (Below.refl _ W).drew
  obtain ⟨z0, z1, z3, t0, t1⟩ := HZ.out _ HB.out
  have pi := HPC.out _ (HT.out _ HB.out) i _ HI.out
  have ni := NC.out _ (HT.out _ HB.out) q _ HN.out
  go_cut [7, 8] (fun a b wc => a = strV (D.getD []) ∧ b = .bool D.isSome ∧ Below W.heap.size W wc)
  case first =>
    go_region_held3 (fun w' => w'.cell? ⟨w.heap.size, 0, none⟩ = some (.slice (some ⟨bn, on, none⟩) ns.length ca) ∧ w'.cell? ⟨w.heap.size, 3, none⟩ = some (.slice (some ⟨bp, op, none⟩) p.length cp) ∧ w'.cell? ⟨w.heap.size + 1, 0, none⟩ = some (strV topo) ∧ w'.cell? ⟨bp, op + i, none⟩ = some (.int .i64 (q : Int)) ∧ w'.cell? ⟨bn, on + q * 10 + 6, none⟩ = some (.slice n.al n.labels.length n.cl)) (first | exact ⟨z0, z3, t0, pi, ni⟩ | exact ⟨by assumption, by assumption, by assumption, by assumption, by assumption⟩)
      (first
        | (go_at_call 248
           refine (KG.out _ (HT.out _ HB.out)).mono ?_
           rintro e w1 ⟨rfl, hb1⟩
           have HB := Lib.hid (HB.out.trans (hb1.mono HB.out.size))
           obtain ⟨z0, z1, z3, t0, t1⟩ := HZ.out _ HB.out
           have pi := HPC.out _ (HT.out _ HB.out) i _ HI.out
           have ni := NC.out _ (HT.out _ HB.out) q _ HN.out
           clear hb1))
    all_goals
      (try go_wp2_with fail)
      go_meet
      exact ⟨rfl, rfl, HB.out⟩
  case' rest => obtain ⟨rfl, rfl, hbc⟩ := hcut
  case' rest => have HB := Lib.hid hbc
  clear hbc z0 z1 z3 t0 t1 pi ni KG
  obtain ⟨z0, z1, z3, t0, t1⟩ := HZ.out _ HB.out
  cases D with
  | none =>
    have HE := Lib.hid (HNone.out rfl)
    clear HNone HAt
    go_wp2
    go_ret
    rw [HE.out]
    exact ⟨_, rfl, World.ownsRow_nil _ _ _ _, HT.out _ HB.out⟩
  | some dom =>
    clear HNone
    simp only [Option.getD_some, Option.isSome_some]
    go_wp2_with fail
    clear z0 z1 z3 t0 t1
    have HBs := HB
    clear HB
    go_loopw [6, 35] (fun v j wr => ∃ k : Nat, k ≤ p.length ∧ j = .int .i64 (k : Int) ∧ wr.ownsRow W.heap.size 3 1 v (NP k).length ((NP k).map (Value.int .i64)) ∧ Below W.heap.size W wr) (fun _ j _ => p.length - (intOf j).toNat)
    case atStart => exact ⟨0, by omega, rfl, by rw [HNZ.out]; exact World.ownsRow_nil _ _ _ _, HBs.out⟩
    case round =>
      clear HBs
      obtain ⟨k, hk, rfl, ho, hb⟩ := hrel
      have HO := Lib.hid ho
      have HB := Lib.hid hb
      clear ho hb
      by_cases hlt : k < p.length
      case neg =>
        obtain rfl : k = p.length := by omega
        go_wp2
        go_ret
        exact ⟨_, rfl, own_base HO.out HB0.out, HT.out _ HB.out⟩
      obtain ⟨x, hx⟩ : ∃ x, p[k]? = some x := ⟨p[k], List.getElem?_eq_getElem hlt⟩
      obtain ⟨y, hy⟩ : ∃ y, ps[k]? = some y := ⟨ps[k]'(by have := HPL.out; omega), List.getElem?_eq_getElem _⟩
      have HX := Lib.hid hx
      have HY := Lib.hid hy
      have k0 : (0 : Int) ≤ (k : Int) := by omega
      have k1 : (k : Int) < (p.length : Int) := by omega
      have k2 : (k : Int) < (ps.length : Int) := by have := HPL.out; omega
      have HN1 := Lib.hid (HNP.out k)
      have hnl := HNL.out k
      generalize NP k = M at HO HN1 hnl
      have pk := HPC.out _ (HT.out _ HB.out) k x hx
      obtain ⟨b, o, hB, _⟩ := PCE.out _ (HT.out _ HB.out) k y hy
      subst hB
      have YC : Hid (∀ W', Below W.heap.size W W' → W'.cell? ⟨b, o + k * 15 + 7, none⟩ = some (.slice y.al y.labels.length y.cl)) := Lib.hid (fun W' hb => by
        obtain ⟨b', o', hA', _, c0, c1, c2, c3, c4, c5, c6, c7, _⟩ := PCE.out W' (HT.out W' hb) k y HY.out
        cases hA'
        exact c7)
      by_cases hxw : x = -1
      case pos =>
        subst hxw
        have HE : Hid (NP (k + 1) = M) := Lib.hid (by rw [HN1.out, HWait.out k HX.out]; simp)
        clear hx hy HN1
        go_upto_region 7 with fail
        go_quiet (fail)
        go_wp2_with fail
        go_roundw
        case rel => exact ⟨k + 1, by omega, by go_num, by rw [HE.out]; exact HO.out, below_drewN HB.out _⟩
        case measure => simp [intOf]; omega
      obtain ⟨q', xa, rfl, hxa, hxl, hxk, hx6, hxv⟩ := HON.out k x hx hxw
      obtain ⟨yk, y6⟩ := HPO.out k y hy
      have HAB := Lib.hid (HAt.out k q' xa y hx hxa hxl hy yk)
      rw [HAB.out] at HN1
      have KH := Lib.hid (fun W' (hb : Below W.heap.size W W') => La.holds_any AT y.al ct y.cl terms y.labels W' (by omega) htc (by omega) (PF.out W' (HT.out W' hb) k y HY.out).le (HTM.out W' (HT.out W' hb)) (PF.out W' (HT.out W' hb) k y HY.out).cells)
      have HXA := Lib.hid hxa
      have KG := Lib.hid (fun W' (hb : Below W.heap.size W W') => La.get_any xa.al xa.cl xa.labels topo W' (by omega) (NF.out W' (HT.out W' hb) q' xa HXA.out).le (NF.out W' (HT.out W' hb) q' xa HXA.out).cells hxv)
      rw [getL_getO] at KG
      have q'1 : (0 : Int) ≤ (q' : Int) := by omega
      have q'2 : (q' : Int) < (ns.length : Int) := by have := (List.getElem?_eq_some_iff.1 hxa).1; omega
      have e1 : ((q' : Int) == -1) = false := by first | (simp; done) | (simp; omega)
      have e2 : ¬ ((q' : Int) = -1) := by omega
      generalize La.holdsL terms y.labels = HBo at KH HN1
      generalize getO xa.labels topo = U at KG HN1
      clear hx hy hxa hxk hx6 hxv hxl yk y6 HAB hxw pk
      have pk := HPC.out _ (HT.out _ HB.out) k _ HX.out
      go_upto_region 7 with fail
      have HB2 : Hid (Below W.heap.size W wr.drew) := Lib.hid HB.out.drew
      have HO2 : Hid (World.ownsRow wr.drew W.heap.size 3 1 u6 M.length (M.map (Value.int .i64))) := Lib.hid (show World.ownsRow _ _ _ _ _ _ _ from HO.out)
      clear HB HO pk
      obtain ⟨z0, z1, z3, t0, t1⟩ := HZ.out _ HB2.out
      have yk := YC.out _ HB2.out
      go_still_tail 12, (by kernel_rfl)
      change wpList _ _ _ _ _ wr.drew
      go_wp2_with fail
      refine (KH.out _ HB2.out).mono ?_
      rintro e w2 ⟨rfl, hb2⟩
      have HB := Lib.hid (HB2.out.trans (hb2.mono HB2.out.size))
      have HO := Lib.hid (La.own_below HO2.out hb2)
      clear hb2 z0 z1 z3 t0 t1 yk HB2 HO2 KH
      cases HBo with
      | false =>
        have HE : Hid (NP (k + 1) = M) := Lib.hid (by rw [HN1.out]; simp)
        clear HN1
        go_wp2_with fail
        go_roundw
        case rel => exact ⟨k + 1, by omega, by go_num, by rw [HE.out]; exact HO.out, HB.out⟩
        case measure => simp [intOf]; omega
      | true =>
        go_upto_region 8 with fail
        have HB2 : Hid (Below W.heap.size W w2.drew) := Lib.hid HB.out.drew
        have HO2 : Hid (World.ownsRow w2.drew W.heap.size 3 1 u6 M.length (M.map (Value.int .i64))) := Lib.hid (show World.ownsRow _ _ _ _ _ _ _ from HO.out)
        obtain ⟨z0, z1, z3, t0, t1⟩ := HZ.out _ HB2.out
        have nk := NC.out _ (HT.out _ HB2.out) q' _ HXA.out
        go_cut [11, 12] (fun a b wc => a = strV (U.getD []) ∧ b = .bool U.isSome ∧ Below w2.heap.size w2 wc)
        case first =>
          go_region_held3 (fun w' => w'.cell? ⟨w.heap.size, 0, none⟩ = some (.slice (some ⟨bn, on, none⟩) ns.length ca) ∧ w'.cell? ⟨w.heap.size + 1, 0, none⟩ = some (strV topo) ∧ w'.cell? ⟨bn, on + q' * 10 + 6, none⟩ = some (.slice xa.al xa.labels.length xa.cl)) (first | exact ⟨z0, t0, nk⟩ | exact ⟨by assumption, by assumption, by assumption⟩)
            (first
              | (go_at_call 248
                 refine (KG.out _ HB2.out).mono ?_
                 rintro e w3 ⟨rfl, hb3⟩
                 have HBq := Lib.hid (HB2.out.trans (hb3.mono HB2.out.size))
                 have HB3 := Lib.hid (show Below w2.heap.size w2 w3 from ((Below.refl _ w2).drew).trans hb3)
                 obtain ⟨z0, z1, z3, t0, t1⟩ := HZ.out _ HBq.out
                 have nk := NC.out _ (HT.out _ HBq.out) q' _ HXA.out
                 clear hb3))
          all_goals
            (try go_wp2_with fail)
            go_meet
            exact ⟨rfl, rfl, HB3.out⟩
        case' rest => obtain ⟨rfl, rfl, hbc⟩ := hcut
        case' rest => have HB := Lib.hid (show Below W.heap.size W wc from HB.out.trans (hbc.mono HB.out.size))
        case' rest => have HO := Lib.hid (La.own_below HO.out hbc)
        clear hbc z0 z1 z3 t0 t1 nk HB2 HO2 KG
        cases U with
        | none =>
          have HE : Hid (NP (k + 1) = M) := Lib.hid (by rw [HN1.out]; simp)
          clear HN1
          go_wp2_with fail
          go_roundw
          case rel => exact ⟨k + 1, by omega, by go_num, by rw [HE.out]; exact HO.out, HB.out⟩
          case measure => simp [intOf]; omega
        | some u =>
          by_cases hu : u = dom
          case neg =>
            have HE : Hid (NP (k + 1) = M) := Lib.hid (by rw [HN1.out]; simp [hu])
            have hub : (u == dom) = false := by simpa using hu
            clear HN1 hu
            go_wp2_with fail
            go_roundw
            case rel => exact ⟨k + 1, by omega, by go_num, by rw [HE.out]; exact HO.out, HB.out⟩
            case measure => simp [intOf]; omega
          have HE : Hid (NP (k + 1) = M ++ [(k : Int)]) := Lib.hid (by rw [HN1.out]; simp [hu])
          have hub : (u == dom) = true := by simpa using hu
          clear HN1 hu
          go_wp2_with (at_builtin; refine wpList_append_own _ rfl _ _ 32 rfl W.heap.size 3 i0x (.int .i64 0) 1 8 Tryz.underlying32 hi0 hz0 hz1 hz2 rfl (by decide) _ _ _ rfl (show World.ownsRow _ _ _ _ _ _ _ from HO.out.alloc _) ⟨wc.heap.size, 0, none⟩ 1 1 [.int .i64 (k : Int)] rfl rfl ?c1a ?c2a ?c3a ?c4a ?c5a ?_)
          case c1a =>
            intro j u hj
            match j, hj with
            | 0, hj => simp at hj; subst hj; simp [Addr.add]
          case c2a => first | rfl | (intro u hu; simp at hu; subst hu; rfl)
          case c3a => unfold maxLen; omega
          case c4a => omega
          case c5a => have := HB.out.size; simp; omega
          intro v4 w4 hown4 hgrow4 _
          have P4 := Lib.hid hown4
          have D4 := Lib.hid ((HB.out.alloc HB.out.size (.cells #[.int .i64 (k : Int)] 3)).grown hgrow4 (by have := HB.out.size; simp; omega) (fun j hj => own_gem HO.out hj))
          clear hown4 hgrow4
          go_wp2_with fail
          go_roundw
          case rel =>
            refine ⟨k + 1, by omega, by go_num, ?_, D4.out⟩
            rw [HE.out, List.length_append, List.map_append]
            exact P4.out
          case measure => simp [intOf]; omega
end Go.Proofs.YticgcimcebdjlaaGreat

namespace Go.Proofs.YticgcimcebdjlaaGreat
open Go.RowKit

set_option maxRecDepth 100000 in
set_option maxHeartbeats 8000000 in
theorem alone_any (A B C P : Option Addr) (ca cb cc cp : Nat) (ns : List NodeD) (ps : List PodD) (os : List OwnD) (p : List Int) (i q : Nat) (x : PodD) (n : NodeD) (hE : placeE ns ps os p = 0) (hi : p[i]? = some (q : Int)) (hx : ps[i]? = some x) (hn : ns[q]? = some n) (w : World) (h : SnapAt w A B C ca cb cc ns ps os) (hp : IntsAt w P cp p) :
    Calls Tryz.prog 154 #[viewV A B C P ca cb cc cp ns ps os p, .int .i64 (i : Int)] w fun e w' => e = .returned (.tuple #[.int .i64 (((ofU ns ps os p 4 i).getD 0 : Nat) : Int), .bool (ofU ns ps os p 4 i).isSome]) ∧ Below w.heap.size w w' := by
  have hxm := List.mem_of_getElem? hx
  obtain ⟨tf1, tf2⟩ := terms_few (placeE_chk hE) hxm
  have hlp := h.lp
  have HPL := Lib.hid (placeE_len hE)
  have E := Lib.hid (ofU_at (os := os) (kind := 4) hi hx hn)
  have B0 : Hid (Below w.heap.size w (w.alloc (.cells (viewC A B C P ca cb cc cp ns ps os p) 162))) := Lib.hid (below1 w _)
  have S0 : Hid (Blk (w.alloc (.cells (viewC A B C P ca cb cc cp ns ps os p) 162)) w.heap.size (viewC A B C P ca cb cc cp ns ps os p) 162) := Lib.hid (Blk.new w _ _)
  have i0 : (0 : Int) ≤ (i : Int) := by omega
  have i2 : (i : Int) < (ps.length : Int) := by have := (List.getElem?_eq_some_iff.1 hx).1; omega
  obtain ⟨b, o, hB, _⟩ := atP h.p.cells hx
  subst hB
  have PC := Lib.hid (fun W' (hb : Below w.heap.size w W') => (by
    obtain ⟨b', o', hA', _, c0, c1, c2, c3, c4, c5, c6, c7, c8, c9, c10, c11, c12, c13, _⟩ := atP (h.below hb).p.cells hx
    cases hA'
    exact ⟨c10, c11⟩ : W'.cell? ⟨b, o + i * 15 + 10, none⟩ = some (strV x.wt) ∧ W'.cell? ⟨b, o + i * 15 + 11, none⟩ = some (.slice x.awt x.wtm.length x.cwt)))
  have XF := Lib.hid (fun W' (hb : Below w.heap.size w W') => ((h.below hb).p.fit x hxm).wt)
  have KN := Lib.hid (fun W' (hb : Below w.heap.size w W') => near8_any A (some ⟨b, o, none⟩) C P x.awt ca cb cc cp x.cwt ns ps os p i q x.wt x.wtm n hE hi hn (by omega) (XF.out W' hb).le W' (h.below hb) (hp.below hb) (XF.out W' hb).cells)
  have HL := Lib.hid (nearP_len ns ps p i x.wt x.wtm p.length)
  have HO := Lib.hid (nearP_others ns ps p i x.wt x.wtm p.length)
  have HLe : Hid ((nearP ns ps p i x.wt x.wtm p.length).length ≤ p.length) := Lib.hid (by rw [nearP_len]; exact aboutU_le ns ps p i x.wt x.wtm false p.length)
  generalize nearP ns ps p i x.wt x.wtm p.length = M at KN HL HO HLe
  generalize ofU ns ps os p 4 i = R at E ⊢
  clear h hp hE hi hx hn hxm tf1 tf2
  go_enter Tryz.func154, Tryz.ntmps154
  obtain ⟨W, hW⟩ : ∃ W, (w.alloc (.cells (viewC A (some ⟨b, o, none⟩) C P ca cb cc cp ns ps os p) 162)) = W := ⟨_, rfl⟩
  rw [hW] at B0 S0
  go_upto_region 1 with fail
  try rw [show (w.alloc (.cells #[.slice A ns.length ca, .slice (some ⟨b, o, none⟩) ps.length cb, .slice C os.length cc, .slice P p.length cp] 162)) = W from hW]
  clear hW
  have B1 : Hid (Below w.heap.size w (W.alloc (.cells #[strV x.wt, .slice x.awt x.wtm.length x.cwt] 81))) := Lib.hid (B0.out.alloc B0.out.size _)
  have S1 : Hid (Blk (W.alloc (.cells #[strV x.wt, .slice x.awt x.wtm.length x.cwt] 81)) w.heap.size (viewC A (some ⟨b, o, none⟩) C P ca cb cc cp ns ps os p) 162) := Lib.hid (Blk.alloc S0.out _)
  have N1 : Hid (Blk (W.alloc (.cells #[strV x.wt, .slice x.awt x.wtm.length x.cwt] 81)) W.heap.size #[strV x.wt, .slice x.awt x.wtm.length x.cwt] 81) := Lib.hid (Blk.new W _ _)
  have z1 : W.cell? ⟨w.heap.size, 1, none⟩ = some (.slice (some ⟨b, o, none⟩) ps.length cb) := Blk.cell S0.out 1
  obtain ⟨x0, x1⟩ := PC.out _ B0.out
  clear B0 S0
  go_upto_region 2 with fail
  try change Code.wp _ _ _ _ (W.alloc (.cells #[strV x.wt, .slice x.awt x.wtm.length x.cwt] 81))
  clear z1 x0 x1
  generalize (W.alloc (.cells #[strV x.wt, .slice x.awt x.wtm.length x.cwt] 81)) = V at B1 S1 N1 ⊢
  generalize W.heap.size = Nb at N1 ⊢
  have n0 : V.cell? ⟨Nb, 0, none⟩ = some (strV x.wt) := Blk.cell N1.out 0
  have n1 : V.cell? ⟨Nb, 1, none⟩ = some (.slice x.awt x.wtm.length x.cwt) := Blk.cell N1.out 1
  by_cases ht : x.wt = []
  case pos =>
    have HE : Hid (R = none) := Lib.hid (by rw [E.out]; simp [ht])
    rw [ht] at n0
    clear E KN HL HO
    go_wp2
    go_ret2
    rw [HE.out]
    exact ⟨rfl, B1.out⟩
  have htb : (x.wt == []) = false := by simpa using ht
  have HE : Hid (R = some (1 - M.length)) := Lib.hid (by rw [E.out, HL.out]; simp [ht])
  have z0 : V.cell? ⟨w.heap.size, 0, none⟩ = some (.slice A ns.length ca) := Blk.cell S1.out 0
  have z1 : V.cell? ⟨w.heap.size, 1, none⟩ = some (.slice (some ⟨b, o, none⟩) ps.length cb) := Blk.cell S1.out 1
  have z2 : V.cell? ⟨w.heap.size, 2, none⟩ = some (.slice C os.length cc) := Blk.cell S1.out 2
  have z3 : V.cell? ⟨w.heap.size, 3, none⟩ = some (.slice P p.length cp) := Blk.cell S1.out 3
  clear E HL HO ht
  go_wp2_with fail
  refine (KN.out _ B1.out).mono ?_
  rintro e w2 ⟨v, rfl, ho, hb⟩
  obtain ⟨G, cg, rfl, _⟩ := La.own_slice ho
  have B2 := Lib.hid (B1.out.trans (hb.mono B1.out.size))
  clear ho hb KN z0 z1 z2 z3 n0 n1 htb
  by_cases hm : M.length = 0
  case pos =>
    have HE2 : Hid (R = some 1) := Lib.hid (by rw [HE.out, hm])
    have hmb : ((M.length : Int) == 0) = true := by simp [hm]
    have hmi : (M.length : Int) = 0 := by omega
    clear HE HLe hm
    go_wp2
    go_ret2
    rw [HE2.out]
    exact ⟨rfl, B2.out⟩
  have HE2 : Hid (R = some 0) := Lib.hid (by rw [HE.out, show 1 - M.length = 0 by omega])
  have hmb : ((M.length : Int) == 0) = false := by rw [beq_eq_false_iff_ne]; omega
  have hmi : ¬ (M.length : Int) = 0 := by omega
  clear HE HLe hm
  go_wp2
  go_ret2
  rw [HE2.out]
  exact ⟨rfl, B2.out⟩

set_option maxRecDepth 100000 in
set_option maxHeartbeats 8000000 in
theorem notApart_any (A B C P : Option Addr) (ca cb cc cp : Nat) (ns : List NodeD) (ps : List PodD) (os : List OwnD) (p : List Int) (i q : Nat) (x : PodD) (n : NodeD) (hE : placeE ns ps os p = 0) (hi : p[i]? = some (q : Int)) (hx : ps[i]? = some x) (hn : ns[q]? = some n) (w : World) (h : SnapAt w A B C ca cb cc ns ps os) (hp : IntsAt w P cp p) :
    Calls Tryz.prog 155 #[viewV A B C P ca cb cc cp ns ps os p, .int .i64 (i : Int)] w fun e w' => e = .returned (.tuple #[.int .i64 (((ofU ns ps os p 5 i).getD 0 : Nat) : Int), .bool (ofU ns ps os p 5 i).isSome]) ∧ Below w.heap.size w w' := by
  have hxm := List.mem_of_getElem? hx
  obtain ⟨tf1, tf2⟩ := terms_few (placeE_chk hE) hxm
  have hlp := h.lp
  have HPL := Lib.hid (placeE_len hE)
  have E := Lib.hid (ofU_at (os := os) (kind := 5) hi hx hn)
  have B0 : Hid (Below w.heap.size w (w.alloc (.cells (viewC A B C P ca cb cc cp ns ps os p) 162))) := Lib.hid (below1 w _)
  have S0 : Hid (Blk (w.alloc (.cells (viewC A B C P ca cb cc cp ns ps os p) 162)) w.heap.size (viewC A B C P ca cb cc cp ns ps os p) 162) := Lib.hid (Blk.new w _ _)
  have i0 : (0 : Int) ≤ (i : Int) := by omega
  have i2 : (i : Int) < (ps.length : Int) := by have := (List.getElem?_eq_some_iff.1 hx).1; omega
  obtain ⟨b, o, hB, _⟩ := atP h.p.cells hx
  subst hB
  have PC := Lib.hid (fun W' (hb : Below w.heap.size w W') => (by
    obtain ⟨b', o', hA', _, c0, c1, c2, c3, c4, c5, c6, c7, c8, c9, c10, c11, c12, c13, _⟩ := atP (h.below hb).p.cells hx
    cases hA'
    exact ⟨c12, c13⟩ : W'.cell? ⟨b, o + i * 15 + 12, none⟩ = some (strV x.ap) ∧ W'.cell? ⟨b, o + i * 15 + 13, none⟩ = some (.slice x.aap x.apm.length x.cap)))
  have XF := Lib.hid (fun W' (hb : Below w.heap.size w W') => ((h.below hb).p.fit x hxm).ap)
  have KN := Lib.hid (fun W' (hb : Below w.heap.size w W') => near8_any A (some ⟨b, o, none⟩) C P x.aap ca cb cc cp x.cap ns ps os p i q x.ap x.apm n hE hi hn (by omega) (XF.out W' hb).le W' (h.below hb) (hp.below hb) (XF.out W' hb).cells)
  have HL := Lib.hid (nearP_len ns ps p i x.ap x.apm p.length)
  have HO := Lib.hid (nearP_others ns ps p i x.ap x.apm p.length)
  have HLe : Hid ((nearP ns ps p i x.ap x.apm p.length).length ≤ p.length) := Lib.hid (by rw [nearP_len]; exact aboutU_le ns ps p i x.ap x.apm false p.length)
  generalize nearP ns ps p i x.ap x.apm p.length = M at KN HL HO HLe
  generalize ofU ns ps os p 5 i = R at E ⊢
  clear h hp hE hi hx hn hxm tf1 tf2
  go_enter Tryz.func155, Tryz.ntmps155
  obtain ⟨W, hW⟩ : ∃ W, (w.alloc (.cells (viewC A (some ⟨b, o, none⟩) C P ca cb cc cp ns ps os p) 162)) = W := ⟨_, rfl⟩
  rw [hW] at B0 S0
  go_upto_region 1 with fail
  try rw [show (w.alloc (.cells #[.slice A ns.length ca, .slice (some ⟨b, o, none⟩) ps.length cb, .slice C os.length cc, .slice P p.length cp] 162)) = W from hW]
  clear hW
  have B1 : Hid (Below w.heap.size w (W.alloc (.cells #[strV x.ap, .slice x.aap x.apm.length x.cap] 81))) := Lib.hid (B0.out.alloc B0.out.size _)
  have S1 : Hid (Blk (W.alloc (.cells #[strV x.ap, .slice x.aap x.apm.length x.cap] 81)) w.heap.size (viewC A (some ⟨b, o, none⟩) C P ca cb cc cp ns ps os p) 162) := Lib.hid (Blk.alloc S0.out _)
  have N1 : Hid (Blk (W.alloc (.cells #[strV x.ap, .slice x.aap x.apm.length x.cap] 81)) W.heap.size #[strV x.ap, .slice x.aap x.apm.length x.cap] 81) := Lib.hid (Blk.new W _ _)
  have z1 : W.cell? ⟨w.heap.size, 1, none⟩ = some (.slice (some ⟨b, o, none⟩) ps.length cb) := Blk.cell S0.out 1
  obtain ⟨x0, x1⟩ := PC.out _ B0.out
  clear B0 S0
  go_upto_region 2 with fail
  try change Code.wp _ _ _ _ (W.alloc (.cells #[strV x.ap, .slice x.aap x.apm.length x.cap] 81))
  clear z1 x0 x1
  generalize (W.alloc (.cells #[strV x.ap, .slice x.aap x.apm.length x.cap] 81)) = V at B1 S1 N1 ⊢
  generalize W.heap.size = Nb at N1 ⊢
  have n0 : V.cell? ⟨Nb, 0, none⟩ = some (strV x.ap) := Blk.cell N1.out 0
  have n1 : V.cell? ⟨Nb, 1, none⟩ = some (.slice x.aap x.apm.length x.cap) := Blk.cell N1.out 1
  by_cases ht : x.ap = []
  case pos =>
    have HE : Hid (R = none) := Lib.hid (by rw [E.out]; simp [ht])
    rw [ht] at n0
    clear E KN HL HO
    go_wp2
    go_ret2
    rw [HE.out]
    exact ⟨rfl, B1.out⟩
  have htb : (x.ap == []) = false := by simpa using ht
  have HE : Hid (R = some (numL (fun x : Int => !decide (x = (i : Int))) M)) := Lib.hid (by rw [E.out, HO.out]; simp [ht])
  have z0 : V.cell? ⟨w.heap.size, 0, none⟩ = some (.slice A ns.length ca) := Blk.cell S1.out 0
  have z1 : V.cell? ⟨w.heap.size, 1, none⟩ = some (.slice (some ⟨b, o, none⟩) ps.length cb) := Blk.cell S1.out 1
  have z2 : V.cell? ⟨w.heap.size, 2, none⟩ = some (.slice C os.length cc) := Blk.cell S1.out 2
  have z3 : V.cell? ⟨w.heap.size, 3, none⟩ = some (.slice P p.length cp) := Blk.cell S1.out 3
  clear E HL HO ht
  go_wp2_with fail
  refine (KN.out _ B1.out).mono ?_
  rintro e w2 ⟨v, rfl, ho, hb⟩
  obtain ⟨G, cg, rfl, _⟩ := La.own_slice ho
  have O2 := Lib.hid (La.own_slat ho)
  have B2 := Lib.hid (B1.out.trans (hb.mono B1.out.size))
  have hml : M.length ≤ 1000 := by have := HLe.out; have := HPL.out; omega
  clear ho hb KN z0 z1 z2 z3 n0 n1 htb HLe
  go_wp2_with fail
  go_loopw [4, 24] (fun c j wr => w2 = wr ∧ ∃ k : Nat, k ≤ M.length ∧ j = .int .i64 (k : Int) ∧ c = .int .i64 ((numL (fun x : Int => !decide (x = (i : Int))) (M.take k) : Nat) : Int)) (fun _ j _ => M.length - (intOf j).toNat)
  case atStart => exact ⟨rfl, 0, by omega, rfl, rfl⟩
  case round =>
    obtain ⟨rfl, k, hk, rfl, rfl⟩ := hrel
    by_cases hlt : k < M.length
    case neg =>
      obtain rfl : k = M.length := by omega
      rw [List.take_length]
      go_wp2
      go_ret2
      rw [HE.out]
      exact ⟨rfl, B2.out⟩
    obtain ⟨y, hy⟩ : ∃ y, M[k]? = some y := ⟨M[k], List.getElem?_eq_getElem hlt⟩
    have HS := Lib.hid (numL_snoc (fun x : Int => !decide (x = (i : Int))) hy)
    have hnl := numL_le (fun x : Int => !decide (x = (i : Int))) (M.take k)
    rw [List.length_take] at hnl
    obtain ⟨g, og, hG, hc⟩ := O2.out k _ (by rw [List.getElem?_map, hy]; rfl)
    subst hG
    generalize numL (fun x : Int => !decide (x = (i : Int))) (M.take k) = m at HS hnl ⊢
    have k0 : (0 : Int) ≤ (k : Int) := by omega
    have k1 : (k : Int) < (M.length : Int) := by omega
    by_cases hyi : y = (i : Int)
    case pos =>
      have HF : Hid (numL (fun x : Int => !decide (x = (i : Int))) (M.take (k + 1)) = m) := Lib.hid (by rw [HS.out]; simp [hyi])
      have hb1 : (y != (i : Int)) = false := by simp [hyi]
      have hb2 : (y == (i : Int)) = true := by simp [hyi]
      clear HS hy
      subst hyi
      go_wp2_with fail
      go_roundw
      case rel => exact ⟨trivial, k + 1, by omega, by go_num, by rw [HF.out]⟩
      case measure => simp [intOf]; omega
    have HF : Hid (numL (fun x : Int => !decide (x = (i : Int))) (M.take (k + 1)) = m + 1) := Lib.hid (by rw [HS.out]; simp [hyi])
    have hb1 : (y != (i : Int)) = true := by simpa using hyi
    have hb2 : (y == (i : Int)) = false := by simpa using hyi
    have hwm : IntKind.i64.wrap ((m : Int) + 1) = (m : Int) + 1 := IntWalk.i64_in _ (by omega)
    clear HS hy
    go_wp2_with fail
    go_roundw
    case rel => exact ⟨trivial, k + 1, by omega, by go_num, by rw [HF.out]; simp⟩
    case measure => simp [intOf]; omega

end Go.Proofs.YticgcimcebdjlaaGreat
