/- May a pod be in its cluster? A contract. Condition: the cluster lies in memory, also behind the pointer that the closure holds. -/
import Derived.Test.YtfnigiiocapceaaGreatNAlls
namespace Go.Proofs.YtfnigiiocapceaaGreat
open Go.RowKit

set_option maxRecDepth 100000 in
set_option maxHeartbeats 2000000 in
theorem one_any (A B C : Option Addr) (ca cb cc q : Nat) (ns : List NodeD) (ps : List PodD) (os : List OwnD) (x : PodD) (w : World) (h : SnapAt w A B C ca cb cc ns ps os) (hx : x.fit w) (hq : Blk w q (snapC A B C ca cb cc ns ps os) 26) :
    Calls Tryz.prog 83 #[valP x, .pointer (some ⟨q, 0, none⟩)] w fun e w' => e = .returned (.bool (podB x && knownB ns os x)) ∧ Below w.heap.size w w' := by
  have H := Lib.hid h
  have hql := Blk.lt hq
  have P0 : Hid (Blk (w.alloc (.cells (cellsP [x]).toArray 62)) w.heap.size (cellsP [x]).toArray 62) := Lib.hid (Blk.new w _ _)
  have B0 : Hid (Below w.heap.size w (w.alloc (.cells (cellsP [x]).toArray 62))) := Lib.hid (below1 w _)
  have HX := Lib.hid (hx.below B0.out)
  have hlt0 : w.heap.size < (w.alloc (.cells (cellsP [x]).toArray 62)).heap.size := Blk.lt P0.out
  have S0 := Lib.hid (Blk.alloc hq (.cells (cellsP [x]).toArray 62))
  have KK := Lib.hid (fun w' (hb : Below w.heap.size w w') => known_any A B C ca cb cc ns ps os x w' (H.out.below hb))
  clear h hx hq
  obtain ⟨r, hr⟩ : ∃ r, podB x = r := ⟨_, rfl⟩
  obtain ⟨r2, hr2⟩ : ∃ r, knownB ns os x = r := ⟨_, rfl⟩
  have KP := Lib.hid (mayBePod_any x _ HX.out)
  rw [hr] at KP
  rw [hr2] at KK
  rw [hr, hr2]
  clear hr hr2 H HX
  go_enter Tryz.func83, Tryz.ntmps83
  go_wp2_with fail
  refine KP.out.mono ?_
  rintro e w3 ⟨rfl, hb⟩
  have P3 := Lib.hid (P0.out.below hb hlt0)
  have S3 := Lib.hid (S0.out.below hb (Nat.lt_trans hql hlt0))
  have B3 := Lib.hid (B0.out.trans (hb.mono (Nat.le_of_lt hlt0)))
  clear hb KP
  cases r
  · go_wp2
    go_ret
    exact ⟨rfl, B3.out⟩
  · have c0 : w3.cell? ⟨w.heap.size, 0, none⟩ = some (strV x.name) := Blk.cell P3.out 0; have c1 : w3.cell? ⟨w.heap.size, 1, none⟩ = some (strV x.owner) := Blk.cell P3.out 1; have c2 : w3.cell? ⟨w.heap.size, 2, none⟩ = some (.int .i64 (x.req 0)) := Blk.cell P3.out 2; have c3 : w3.cell? ⟨w.heap.size, 3, none⟩ = some (.int .i64 (x.req 1)) := Blk.cell P3.out 3; have c4 : w3.cell? ⟨w.heap.size, 4, none⟩ = some (.int .i64 (x.req 2)) := Blk.cell P3.out 4; have c5 : w3.cell? ⟨w.heap.size, 5, none⟩ = some (.int .i64 (x.req 3)) := Blk.cell P3.out 5; have c6 : w3.cell? ⟨w.heap.size, 6, none⟩ = some (.int .i64 (x.req 4)) := Blk.cell P3.out 6; have c7 : w3.cell? ⟨w.heap.size, 7, none⟩ = some (.slice x.al x.labels.length x.cl) := Blk.cell P3.out 7; have c8 : w3.cell? ⟨w.heap.size, 8, none⟩ = some (.slice x.aw x.whr.length x.cw) := Blk.cell P3.out 8; have c9 : w3.cell? ⟨w.heap.size, 9, none⟩ = some (.slice x.ab x.bears.length x.cb) := Blk.cell P3.out 9; have c10 : w3.cell? ⟨w.heap.size, 10, none⟩ = some (strV x.wt) := Blk.cell P3.out 10; have c11 : w3.cell? ⟨w.heap.size, 11, none⟩ = some (.slice x.awt x.wtm.length x.cwt) := Blk.cell P3.out 11; have c12 : w3.cell? ⟨w.heap.size, 12, none⟩ = some (strV x.ap) := Blk.cell P3.out 12; have c13 : w3.cell? ⟨w.heap.size, 13, none⟩ = some (.slice x.aap x.apm.length x.cap) := Blk.cell P3.out 13; have c14 : w3.cell? ⟨w.heap.size, 14, none⟩ = some (strV x.on) := Blk.cell P3.out 14
    have s0 : w3.cell? ⟨q, 0, none⟩ = some (.slice A ns.length ca) := Blk.cell S3.out 0; have s1 : w3.cell? ⟨q, 1, none⟩ = some (.slice B ps.length cb) := Blk.cell S3.out 1; have s2 : w3.cell? ⟨q, 2, none⟩ = some (.slice C os.length cc) := Blk.cell S3.out 2
    go_wp2_with fail
    refine (KK.out _ B3.out).mono ?_
    rintro e w4 ⟨rfl, hb⟩
    have B4 := Lib.hid (B3.out.trans (hb.mono B3.out.size))
    clear hb KK c0 c1 c2 c3 c4 c5 c6 c7 c8 c9 c10 c11 c12 c13 c14 s0 s1 s2
    go_wp2
    go_ret
    exact ⟨La.retB (by simp), B4.out⟩
end Go.Proofs.YtfnigiiocapceaaGreat
