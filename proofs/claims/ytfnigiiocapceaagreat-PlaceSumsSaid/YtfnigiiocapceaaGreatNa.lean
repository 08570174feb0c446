/- May sums be? A contract. Condition: the rows lie in memory. May a cluster be, and may its sums? The contract of Check. Condition: the cluster lies in memory. -/
import Derived.Test.YtfnigiiocapceaaGreatNEachV

namespace Go.Proofs.YtfnigiiocapceaaGreat
open Go.RowKit

def sumB (l : List (Nat → Int)) : Bool := decide (Qu.firstE (Qu.plusF l) 5 = 0)
set_option maxRecDepth 100000 in
set_option maxHeartbeats 1000000 in
theorem sum_any (A : Option Addr) (c : Nat) (l : List (Nat → Int)) (w : World) (hl : l.length ≤ 1000) (hr : Qu.RowsOf w A l) :
    Calls Tryz.prog 58 #[.slice A l.length c] w fun e w' => e = .returned (.bool (sumB l)) ∧ Below w.heap.size w w' := by
  have KP := Lib.hid (Qu.plus_anyM A c l w hl hr)
  have E : Hid (sumB l = decide (Qu.firstE (Qu.plusF l) 5 = 0)) := Lib.hid rfl
  generalize sumB l = R at E ⊢
  generalize Qu.firstE (Qu.plusF l) 5 = e0 at KP E
  clear hr
  go_enter Tryz.func58, Tryz.ntmps58
  go_wp2_with fail
  refine KP.out.mono ?_
  rintro e w3 ⟨rfl, hb⟩
  have HB := Lib.hid hb
  clear hb KP
  go_wp2
  go_ret
  exact ⟨La.retB (by rw [E.out]; first | rfl | (rw [Bool.eq_iff_iff]; simp)), by first | exact HB.out | exact HB.out.alloc HB.out.size _⟩
/-- What each made of rows, as Plus reads it. -/
theorem rowsOf {α : Type} {w : World} {base : Nat} {A : Option Addr} {c : Nat} (f : α → Nat → Int) (l : List α) (h : w.ownsRow base 33 5 (.slice A l.length c) l.length (l.flatMap fun x => rowC (f x))) : Qu.RowsOf w A (l.map f) := by
  intro i x hx
  rw [List.getElem?_map] at hx
  obtain ⟨y, hy, rfl⟩ := Option.map_eq_some_iff.1 hx
  have hs := La.own_slat h
  have hat := fun k (hk : k < 5) => flat5_at f l i k y hy hk
  obtain ⟨b, o, rfl, hc⟩ := hs (i * 5 + 0) (.int .i64 (f y 0)) (by rw [hat 0 (by omega)]; rfl)
  refine ⟨b, o, rfl, World.block_lt_of_cell? w _ hc, fun k hk => ?_⟩
  obtain ⟨b', o', hA, hc'⟩ := hs (i * 5 + k) (.int .i64 (f y k)) (by
    rw [hat k hk]
    have e : k = 0 ∨ k = 1 ∨ k = 2 ∨ k = 3 ∨ k = 4 := by omega
    rcases e with rfl | rfl | rfl | rfl | rfl <;> rfl)
  cases hA
  rw [Nat.add_assoc]
  exact hc'
end Go.Proofs.YtfnigiiocapceaaGreat

namespace Go.Proofs.YtfnigiiocapceaaGreat
open Go.RowKit

/-- What Check tells. -/
def checkS (ns : List NodeD) (ps : List PodD) (os : List OwnD) : Int := if clusB ns ps os then (if sumB (ns.map (·.cap)) && sumB (ps.map (·.req)) then 0 else 10) else 50
set_option maxRecDepth 100000 in
set_option maxHeartbeats 4000000 in
theorem check_any (A B C : Option Addr) (ca cb cc : Nat) (ns : List NodeD) (ps : List PodD) (os : List OwnD) (w : World) (h : SnapAt w A B C ca cb cc ns ps os) :
    Calls Tryz.prog 36 #[snapV A B C ca cb cc ns ps os] w fun e w' => e = .returned (.int .i64 (checkS ns ps os)) ∧ Below w.heap.size w w' := by
  have H := Lib.hid h
  have B0 : Hid (Below w.heap.size w (w.alloc (.cells (snapC A B C ca cb cc ns ps os) 26))) := Lib.hid (below1 w _)
  have S0 : Hid (Blk (w.alloc (.cells (snapC A B C ca cb cc ns ps os) 26)) w.heap.size (snapC A B C ca cb cc ns ps os) 26) := Lib.hid (Blk.new w _ _)
  have hg1 : ∀ (args : Array Value) (w : World), (callFunc 60 args).run Tryz.prog w = .ok (.enter 60 args) w := fun _ _ => by kernel_rfl
  have hg2 : ∀ (args : Array Value) (w : World), (callFunc 62 args).run Tryz.prog w = .ok (.enter 62 args) w := fun _ _ => by kernel_rfl
  have KM := Lib.hid (may_any A B C ca cb cc ns ps os (w.alloc (.cells (snapC A B C ca cb cc ns ps os) 26)) (H.out.below B0.out))
  have E1 := Lib.hid (fun w' (hb : Below w.heap.size w w') => eachNV A ca ns 60 w' H.out.ln (H.out.below hb).n.cells (fun e => noneN (w := w) (e ▸ H.out.n.cells)) hg1 capOf_any)
  have E2 := Lib.hid (fun w' (hb : Below w.heap.size w w') => eachPV B cb ps 62 w' H.out.lp (H.out.below hb).p.cells (fun e => noneP (w := w) (e ▸ H.out.p.cells)) hg2 reqOf_any)
  have F1 := Lib.hid (fun (w' : World) (base : Nat) (A : Option Addr) (c : Nat) (ho : w'.ownsRow base 33 5 (.slice A ns.length c) ns.length (ns.flatMap fun x => rowC x.cap)) => by
    have k := sum_any A c (ns.map (·.cap)) w' (by simpa using H.out.ln) (rowsOf (·.cap) ns ho)
    rwa [List.length_map] at k)
  have F2 := Lib.hid (fun (w' : World) (base : Nat) (A : Option Addr) (c : Nat) (ho : w'.ownsRow base 33 5 (.slice A ps.length c) ps.length (ps.flatMap fun x => rowC x.req)) => by
    have k := sum_any A c (ps.map (·.req)) w' (by simpa using H.out.lp) (rowsOf (·.req) ps ho)
    rwa [List.length_map] at k)
  have E : Hid (checkS ns ps os = if clusB ns ps os then (if sumB (ns.map (·.cap)) && sumB (ps.map (·.req)) then 0 else 10) else 50) := Lib.hid rfl
  generalize checkS ns ps os = R at E ⊢
  generalize clusB ns ps os = v0 at KM E
  generalize sumB (ns.map (·.cap)) = v1 at F1 E
  generalize sumB (ps.map (·.req)) = v2 at F2 E
  clear h H hg1 hg2
  have hlt0 : w.heap.size < (w.alloc (.cells (snapC A B C ca cb cc ns ps os) 26)).heap.size := Blk.lt S0.out
  go_enter Tryz.func36, Tryz.ntmps36
  go_wp2_with fail
  refine (KM.out).mono ?_
  rintro e w1 ⟨rfl, hb⟩
  clear KM
  have S1 := Lib.hid (S0.out.below hb hlt0)
  have B1 := Lib.hid (B0.out.trans (hb.mono (Nat.le_of_lt hlt0)))
  clear hb
  have hl1 := Blk.lt S1.out
  have s0 : w1.cell? ⟨w.heap.size, 0, none⟩ = some (.slice A ns.length ca) := Blk.cell S1.out 0
  have s1 : w1.cell? ⟨w.heap.size, 1, none⟩ = some (.slice B ps.length cb) := Blk.cell S1.out 1
  have s2 : w1.cell? ⟨w.heap.size, 2, none⟩ = some (.slice C os.length cc) := Blk.cell S1.out 2
  cases v0
  · have HE : Hid (R = 50) := Lib.hid (by rw [E.out]; simp)
    go_wp2
    go_ret
    exact ⟨La.retI HE.out.symm, B1.out⟩
  go_wp2_with fail
  refine (E1.out _ B1.out).mono ?_
  rintro e w2 ⟨u1, rfl, ho, hb⟩
  obtain ⟨A1, c1, rfl, hm⟩ := La.own_slice ho
  have KF := Lib.hid (F1.out _ _ _ _ ho)
  clear ho hm E1 F1 s0 s1 s2
  have S2 := Lib.hid (S1.out.below hb hl1)
  have B2 := Lib.hid (B1.out.trans (hb.mono (Nat.le_of_lt hl1)))
  clear hb
  have hl2 := Blk.lt S2.out
  have s0 : w2.cell? ⟨w.heap.size, 0, none⟩ = some (.slice A ns.length ca) := Blk.cell S2.out 0
  have s1 : w2.cell? ⟨w.heap.size, 1, none⟩ = some (.slice B ps.length cb) := Blk.cell S2.out 1
  have s2 : w2.cell? ⟨w.heap.size, 2, none⟩ = some (.slice C os.length cc) := Blk.cell S2.out 2
  go_wp2_with fail
  refine (KF.out).mono ?_
  rintro e w3 ⟨rfl, hb⟩
  clear KF s0 s1 s2
  have S3 := Lib.hid (S2.out.below hb hl2)
  have B3 := Lib.hid (B2.out.trans (hb.mono (Nat.le_of_lt hl2)))
  clear hb
  have hl3 := Blk.lt S3.out
  have s0 : w3.cell? ⟨w.heap.size, 0, none⟩ = some (.slice A ns.length ca) := Blk.cell S3.out 0
  have s1 : w3.cell? ⟨w.heap.size, 1, none⟩ = some (.slice B ps.length cb) := Blk.cell S3.out 1
  have s2 : w3.cell? ⟨w.heap.size, 2, none⟩ = some (.slice C os.length cc) := Blk.cell S3.out 2
  cases v1
  · have HE : Hid (R = 10) := Lib.hid (by rw [E.out]; simp)
    go_wp2
    go_ret
    exact ⟨La.retI HE.out.symm, B3.out⟩
  go_wp2_with fail
  refine (E2.out _ B3.out).mono ?_
  rintro e w4 ⟨u2, rfl, ho, hb⟩
  obtain ⟨A2, c2, rfl, hm⟩ := La.own_slice ho
  have KF := Lib.hid (F2.out _ _ _ _ ho)
  clear ho hm E2 F2 s0 s1 s2
  have S4 := Lib.hid (S3.out.below hb hl3)
  have B4 := Lib.hid (B3.out.trans (hb.mono (Nat.le_of_lt hl3)))
  clear hb
  have hl4 := Blk.lt S4.out
  have s0 : w4.cell? ⟨w.heap.size, 0, none⟩ = some (.slice A ns.length ca) := Blk.cell S4.out 0
  have s1 : w4.cell? ⟨w.heap.size, 1, none⟩ = some (.slice B ps.length cb) := Blk.cell S4.out 1
  have s2 : w4.cell? ⟨w.heap.size, 2, none⟩ = some (.slice C os.length cc) := Blk.cell S4.out 2
  go_wp2_with fail
  refine (KF.out).mono ?_
  rintro e w5 ⟨rfl, hb⟩
  clear KF s0 s1 s2
  have S5 := Lib.hid (S4.out.below hb hl4)
  have B5 := Lib.hid (B4.out.trans (hb.mono (Nat.le_of_lt hl4)))
  clear hb
  have hl5 := Blk.lt S5.out
  cases v2
  · have HE : Hid (R = 10) := Lib.hid (by rw [E.out]; simp)
    go_wp2
    go_ret
    exact ⟨La.retI HE.out.symm, B5.out⟩
  have HE : Hid (R = 0) := Lib.hid (by rw [E.out]; simp)
  go_wp2
  go_ret
  exact ⟨La.retI HE.out.symm, B5.out⟩
end Go.Proofs.YtfnigiiocapceaaGreat
