/- May a cluster be? A contract. Condition: the cluster lies in memory. -/
import Derived.Test.YtfnigiiocapceaaGreatNOne
namespace Go.Proofs.YtfnigiiocapceaaGreat
open Go.RowKit

theorem capOwn {w : World} {base : Nat} {e : TypeId} {size : Nat} {A : Option Addr} {n c : Nat} {xs : List Value} (h : w.ownsRow base e size (.slice A n c) n xs) : n ≤ c ∧ c ≤ maxLen := by
  rcases h.2 with ⟨hv, h0⟩ | ⟨g, cap, cur, hv, hb, hg, h1, h2, h3, h4⟩
  · cases hv
    exact ⟨Nat.le_refl _, Nat.zero_le _⟩
  · cases hv
    exact ⟨h1, h2⟩
theorem noneN {w : World} {l : List NodeD} (h : La.SlAt w none (cellsN l)) : l = [] := by
  cases l with
  | nil => rfl
  | cons x t =>
    obtain ⟨b, o, hA, _⟩ := atN h (k := 0) (x := x) rfl
    cases hA
theorem noneP {w : World} {l : List PodD} (h : La.SlAt w none (cellsP l)) : l = [] := by
  cases l with
  | nil => rfl
  | cons x t =>
    obtain ⟨b, o, hA, _⟩ := atP h (k := 0) (x := x) rfl
    cases hA
theorem noneO {w : World} {l : List OwnD} (h : La.SlAt w none (cellsO l)) : l = [] := by
  cases l with
  | nil => rfl
  | cons x t =>
    obtain ⟨b, o, hA, _⟩ := atO h (k := 0) (x := x) rfl
    cases hA
/-- What each made of names, told by mayBeNames. -/
theorem names_of {w : World} {base : Nat} {A : Option Addr} {c : Nat} (l : List (List UInt8)) (h : w.ownsRow base 9 1 (.slice A l.length c) l.length (strC l)) (hl : l.length ≤ 1000) (hbig : ∀ x ∈ l, x.length ≤ 9223372036854775807) :
    Calls Tryz.prog 73 #[.slice A l.length c] w fun e w' => e = .returned (.bool (namesB l)) ∧ Below w.heap.size w w' := by
  have hc := capOwn h
  have hm : maxLen ≤ 9223372036854775807 := by unfold maxLen; omega
  exact mayBeNames_any A c l w hl hc.1 (Nat.le_trans hc.2 hm) (La.own_slat h) hbig
/-- May a cluster be, but for its sums? -/
def clusB (ns : List NodeD) (ps : List PodD) (os : List OwnD) : Bool := decide ((ns.length : Int) ≤ 8) && decide ((ps.length : Int) ≤ 24) && decide ((os.length : Int) ≤ 8) && namesB (ns.map (·.name)) && namesB (ps.map (·.name)) && namesB (os.map (·.name)) && ns.all nodeB && ps.all (fun x => podB x && knownB ns os x) && os.all ownB

set_option maxRecDepth 100000 in
set_option maxHeartbeats 4000000 in
theorem may_any (A B C : Option Addr) (ca cb cc : Nat) (ns : List NodeD) (ps : List PodD) (os : List OwnD) (w : World) (h : SnapAt w A B C ca cb cc ns ps os) :
    Calls Tryz.prog 57 #[snapV A B C ca cb cc ns ps os] w fun e w' => e = .returned (.bool (clusB ns ps os)) ∧ Below w.heap.size w w' := by
  have H := Lib.hid h
  have B0 : Hid (Below w.heap.size w (w.alloc (.cells (snapC A B C ca cb cc ns ps os) 26))) := Lib.hid (below1 w _)
  have S0 : Hid (Blk (w.alloc (.cells (snapC A B C ca cb cc ns ps os) 26)) w.heap.size (snapC A B C ca cb cc ns ps os) 26) := Lib.hid (Blk.new w _ _)
  have hgN : ∀ (args : Array Value) (w : World), (callFunc 75 args).run Tryz.prog w = .ok (.enter 75 args) w := fun _ _ => by kernel_rfl
  have hgP : ∀ (args : Array Value) (w : World), (callFunc 77 args).run Tryz.prog w = .ok (.enter 77 args) w := fun _ _ => by kernel_rfl
  have hgO : ∀ (args : Array Value) (w : World), (callFunc 79 args).run Tryz.prog w = .ok (.enter 79 args) w := fun _ _ => by kernel_rfl
  have E1 := Lib.hid (fun w' (hb : Below w.heap.size w w') => eachNS A ca ns 75 w' H.out.ln (H.out.below hb).n.cells (fun e => noneN (w := w) (e ▸ H.out.n.cells)) hgN nodeName_any)
  have E2 := Lib.hid (fun w' (hb : Below w.heap.size w w') => eachPS B cb ps 77 w' H.out.lp (H.out.below hb).p.cells (fun e => noneP (w := w) (e ▸ H.out.p.cells)) hgP podName_any)
  have E3 := Lib.hid (fun w' (hb : Below w.heap.size w w') => eachOS C cc os 79 w' H.out.lo (H.out.below hb).o (fun e => noneO (w := w) (e ▸ H.out.o)) hgO ownerName_any)
  have F1 := Lib.hid (fun (w' : World) (base : Nat) (A : Option Addr) (c : Nat) (ho : w'.ownsRow base 9 1 (.slice A ns.length c) ns.length (ns.map fun x => strV x.name)) => by
    have k := names_of (ns.map (·.name)) (w := w') (base := base) (A := A) (c := c) (by simpa [strC, Function.comp_def] using ho) (by simpa using H.out.ln) (fun y hy => by obtain ⟨x, hx, rfl⟩ := List.mem_map.1 hy; exact (H.out.n.fit x hx).n)
    rwa [List.length_map] at k)
  have F2 := Lib.hid (fun (w' : World) (base : Nat) (A : Option Addr) (c : Nat) (ho : w'.ownsRow base 9 1 (.slice A ps.length c) ps.length (ps.map fun x => strV x.name)) => by
    have k := names_of (ps.map (·.name)) (w := w') (base := base) (A := A) (c := c) (by simpa [strC, Function.comp_def] using ho) (by simpa using H.out.lp) (fun y hy => by obtain ⟨x, hx, rfl⟩ := List.mem_map.1 hy; exact (H.out.p.fit x hx).n.1)
    rwa [List.length_map] at k)
  have F3 := Lib.hid (fun (w' : World) (base : Nat) (A : Option Addr) (c : Nat) (ho : w'.ownsRow base 9 1 (.slice A os.length c) os.length (os.map fun x => strV x.name)) => by
    have k := names_of (os.map (·.name)) (w := w') (base := base) (A := A) (c := c) (by simpa [strC, Function.comp_def] using ho) (by simpa using H.out.lo) (fun y hy => by obtain ⟨x, hx, rfl⟩ := List.mem_map.1 hy; exact (H.out.fo x hx).n)
    rwa [List.length_map] at k)
  have G1 := Lib.hid (fun w' (hb : Below w.heap.size w w') => allN A ca ns nodeB w' H.out.ln (H.out.below hb).n.cells (fun x hx w'' hb' => mayBeNode_any x w'' (((H.out.n.fit x hx).below hb).below hb')))
  have G2 := Lib.hid (fun w' (hb : Below w.heap.size w w') (hq : Blk w' w.heap.size (snapC A B C ca cb cc ns ps os) 26) => allP B cb w.heap.size ps (fun x => podB x && knownB ns os x) w' H.out.lp (H.out.below hb).p.cells (fun x hx w'' hb' => one_any A B C ca cb cc w.heap.size ns ps os x w'' ((H.out.below hb).below hb') (((H.out.p.fit x hx).below hb).below hb') (Blk.below hq hb' (Blk.lt hq))))
  have G3 := Lib.hid (fun w' (hb : Below w.heap.size w w') => allO C cc os ownB w' H.out.lo (H.out.below hb).o (fun x hx w'' hb' => mayBeOwner_any x w'' (H.out.fo x hx)))
  have E : Hid (clusB ns ps os = (decide ((ns.length : Int) ≤ 8) && decide ((ps.length : Int) ≤ 24) && decide ((os.length : Int) ≤ 8) && namesB (ns.map (·.name)) && namesB (ps.map (·.name)) && namesB (os.map (·.name)) && ns.all nodeB && ps.all (fun x => podB x && knownB ns os x) && os.all ownB)) := Lib.hid rfl
  generalize clusB ns ps os = R at E ⊢
  generalize namesB (ns.map (·.name)) = v1 at F1 E
  generalize namesB (ps.map (·.name)) = v2 at F2 E
  generalize namesB (os.map (·.name)) = v3 at F3 E
  generalize ns.all nodeB = v4 at G1 E
  generalize ps.all (fun x => podB x && knownB ns os x) = v5 at G2 E
  generalize os.all ownB = v6 at G3 E
  clear h H hgN hgP hgO
  have hlt0 : w.heap.size < (w.alloc (.cells (snapC A B C ca cb cc ns ps os) 26)).heap.size := Blk.lt S0.out
  rcases Decidable.em ((ns.length : Int) ≤ 8) with l1 | l1
  case inr =>
    have HE : Hid (R = false) := Lib.hid (by rw [E.out, decide_eq_false l1]; simp)
    go_enter Tryz.func57, Tryz.ntmps57
    go_wp2
    go_ret
    exact ⟨La.retB HE.out.symm, B0.out⟩
  rcases Decidable.em ((ps.length : Int) ≤ 24) with l2 | l2
  case inr =>
    have HE : Hid (R = false) := Lib.hid (by rw [E.out, decide_eq_false l2]; simp)
    go_enter Tryz.func57, Tryz.ntmps57
    go_wp2
    go_ret
    exact ⟨La.retB HE.out.symm, B0.out⟩
  rcases Decidable.em ((os.length : Int) ≤ 8) with l3 | l3
  case inr =>
    have HE : Hid (R = false) := Lib.hid (by rw [E.out, decide_eq_false l3]; simp)
    go_enter Tryz.func57, Tryz.ntmps57
    go_wp2
    go_ret
    exact ⟨La.retB HE.out.symm, B0.out⟩
  go_enter Tryz.func57, Tryz.ntmps57
  go_wp2_with fail
  refine (E1.out _ B0.out).mono ?_
  rintro e w1 ⟨u0, rfl, ho, hb⟩
  obtain ⟨A0, c0, rfl, hm0⟩ := La.own_slice ho
  have KF := Lib.hid (F1.out _ _ _ _ ho)
  clear ho hm0 E1 F1
  have S1 := Lib.hid (S0.out.below hb hlt0)
  have B1 := Lib.hid (B0.out.trans (hb.mono (Nat.le_of_lt hlt0)))
  clear hb
  have hl1 := Blk.lt S1.out
  have s0 : w1.cell? ⟨w.heap.size, 0, none⟩ = some (.slice A ns.length ca) := Blk.cell S1.out 0
  have s1 : w1.cell? ⟨w.heap.size, 1, none⟩ = some (.slice B ps.length cb) := Blk.cell S1.out 1
  have s2 : w1.cell? ⟨w.heap.size, 2, none⟩ = some (.slice C os.length cc) := Blk.cell S1.out 2
  go_wp2_with fail
  refine (KF.out).mono ?_
  rintro e w2 ⟨rfl, hb⟩
  clear KF
  have S2 := Lib.hid (S1.out.below hb hl1)
  have B2 := Lib.hid (B1.out.trans (hb.mono (Nat.le_of_lt hl1)))
  clear hb
  have hl2 := Blk.lt S2.out
  clear s0 s1 s2
  have s0 : w2.cell? ⟨w.heap.size, 0, none⟩ = some (.slice A ns.length ca) := Blk.cell S2.out 0
  have s1 : w2.cell? ⟨w.heap.size, 1, none⟩ = some (.slice B ps.length cb) := Blk.cell S2.out 1
  have s2 : w2.cell? ⟨w.heap.size, 2, none⟩ = some (.slice C os.length cc) := Blk.cell S2.out 2
  cases v1
  · have HE : Hid (R = false) := Lib.hid (by rw [E.out]; simp)
    go_wp2
    go_ret
    exact ⟨La.retB HE.out.symm, B2.out⟩
  go_wp2_with fail
  refine (E2.out _ B2.out).mono ?_
  rintro e w3 ⟨u1, rfl, ho, hb⟩
  obtain ⟨A1, c1, rfl, hm1⟩ := La.own_slice ho
  have KF := Lib.hid (F2.out _ _ _ _ ho)
  clear ho hm1 E2 F2
  have S3 := Lib.hid (S2.out.below hb hl2)
  have B3 := Lib.hid (B2.out.trans (hb.mono (Nat.le_of_lt hl2)))
  clear hb
  have hl3 := Blk.lt S3.out
  have s0 : w3.cell? ⟨w.heap.size, 0, none⟩ = some (.slice A ns.length ca) := Blk.cell S3.out 0
  have s1 : w3.cell? ⟨w.heap.size, 1, none⟩ = some (.slice B ps.length cb) := Blk.cell S3.out 1
  have s2 : w3.cell? ⟨w.heap.size, 2, none⟩ = some (.slice C os.length cc) := Blk.cell S3.out 2
  go_wp2_with fail
  refine (KF.out).mono ?_
  rintro e w4 ⟨rfl, hb⟩
  clear KF
  have S4 := Lib.hid (S3.out.below hb hl3)
  have B4 := Lib.hid (B3.out.trans (hb.mono (Nat.le_of_lt hl3)))
  clear hb
  have hl4 := Blk.lt S4.out
  clear s0 s1 s2
  have s0 : w4.cell? ⟨w.heap.size, 0, none⟩ = some (.slice A ns.length ca) := Blk.cell S4.out 0
  have s1 : w4.cell? ⟨w.heap.size, 1, none⟩ = some (.slice B ps.length cb) := Blk.cell S4.out 1
  have s2 : w4.cell? ⟨w.heap.size, 2, none⟩ = some (.slice C os.length cc) := Blk.cell S4.out 2
  cases v2
  · have HE : Hid (R = false) := Lib.hid (by rw [E.out]; simp)
    go_wp2
    go_ret
    exact ⟨La.retB HE.out.symm, B4.out⟩
  go_wp2_with fail
  refine (E3.out _ B4.out).mono ?_
  rintro e w5 ⟨u2, rfl, ho, hb⟩
  obtain ⟨A2, c2, rfl, hm2⟩ := La.own_slice ho
  have KF := Lib.hid (F3.out _ _ _ _ ho)
  clear ho hm2 E3 F3
  have S5 := Lib.hid (S4.out.below hb hl4)
  have B5 := Lib.hid (B4.out.trans (hb.mono (Nat.le_of_lt hl4)))
  clear hb
  have hl5 := Blk.lt S5.out
  have s0 : w5.cell? ⟨w.heap.size, 0, none⟩ = some (.slice A ns.length ca) := Blk.cell S5.out 0
  have s1 : w5.cell? ⟨w.heap.size, 1, none⟩ = some (.slice B ps.length cb) := Blk.cell S5.out 1
  have s2 : w5.cell? ⟨w.heap.size, 2, none⟩ = some (.slice C os.length cc) := Blk.cell S5.out 2
  go_wp2_with fail
  refine (KF.out).mono ?_
  rintro e w6 ⟨rfl, hb⟩
  clear KF
  have S6 := Lib.hid (S5.out.below hb hl5)
  have B6 := Lib.hid (B5.out.trans (hb.mono (Nat.le_of_lt hl5)))
  clear hb
  have hl6 := Blk.lt S6.out
  clear s0 s1 s2
  have s0 : w6.cell? ⟨w.heap.size, 0, none⟩ = some (.slice A ns.length ca) := Blk.cell S6.out 0
  have s1 : w6.cell? ⟨w.heap.size, 1, none⟩ = some (.slice B ps.length cb) := Blk.cell S6.out 1
  have s2 : w6.cell? ⟨w.heap.size, 2, none⟩ = some (.slice C os.length cc) := Blk.cell S6.out 2
  cases v3
  · have HE : Hid (R = false) := Lib.hid (by rw [E.out]; simp)
    go_wp2
    go_ret
    exact ⟨La.retB HE.out.symm, B6.out⟩
  go_wp2_with fail
  refine (G1.out _ B6.out).mono ?_
  rintro e w7 ⟨rfl, hb⟩
  clear G1
  have S7 := Lib.hid (S6.out.below hb hl6)
  have B7 := Lib.hid (B6.out.trans (hb.mono (Nat.le_of_lt hl6)))
  clear hb
  have hl7 := Blk.lt S7.out
  clear s0 s1 s2
  have s0 : w7.cell? ⟨w.heap.size, 0, none⟩ = some (.slice A ns.length ca) := Blk.cell S7.out 0
  have s1 : w7.cell? ⟨w.heap.size, 1, none⟩ = some (.slice B ps.length cb) := Blk.cell S7.out 1
  have s2 : w7.cell? ⟨w.heap.size, 2, none⟩ = some (.slice C os.length cc) := Blk.cell S7.out 2
  cases v4
  · have HE : Hid (R = false) := Lib.hid (by rw [E.out]; simp)
    go_wp2
    go_ret
    exact ⟨La.retB HE.out.symm, B7.out⟩
  go_wp2_with fail
  refine (G2.out _ B7.out S7.out).mono ?_
  rintro e w8 ⟨rfl, hb⟩
  clear G2
  have S8 := Lib.hid (S7.out.below hb hl7)
  have B8 := Lib.hid (B7.out.trans (hb.mono (Nat.le_of_lt hl7)))
  clear hb
  have hl8 := Blk.lt S8.out
  clear s0 s1 s2
  have s0 : w8.cell? ⟨w.heap.size, 0, none⟩ = some (.slice A ns.length ca) := Blk.cell S8.out 0
  have s1 : w8.cell? ⟨w.heap.size, 1, none⟩ = some (.slice B ps.length cb) := Blk.cell S8.out 1
  have s2 : w8.cell? ⟨w.heap.size, 2, none⟩ = some (.slice C os.length cc) := Blk.cell S8.out 2
  cases v5
  · have HE : Hid (R = false) := Lib.hid (by rw [E.out]; simp)
    go_wp2
    go_ret
    exact ⟨La.retB HE.out.symm, B8.out⟩
  go_wp2_with fail
  refine (G3.out _ B8.out).mono ?_
  rintro e w9 ⟨rfl, hb⟩
  clear G3
  have S9 := Lib.hid (S8.out.below hb hl8)
  have B9 := Lib.hid (B8.out.trans (hb.mono (Nat.le_of_lt hl8)))
  clear hb
  have hl9 := Blk.lt S9.out
  clear s0 s1 s2
  have s0 : w9.cell? ⟨w.heap.size, 0, none⟩ = some (.slice A ns.length ca) := Blk.cell S9.out 0
  have s1 : w9.cell? ⟨w.heap.size, 1, none⟩ = some (.slice B ps.length cb) := Blk.cell S9.out 1
  have s2 : w9.cell? ⟨w.heap.size, 2, none⟩ = some (.slice C os.length cc) := Blk.cell S9.out 2
  have HE : Hid (R = v6) := Lib.hid (by rw [E.out, decide_eq_true l1, decide_eq_true l2, decide_eq_true l3]; simp)
  clear s0 s1 s2
  go_wp2
  go_ret
  exact ⟨La.retB HE.out.symm, B9.out⟩
end Go.Proofs.YtfnigiiocapceaaGreat
