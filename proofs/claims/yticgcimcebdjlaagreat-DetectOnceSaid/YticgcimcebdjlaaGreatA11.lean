/- What detect keeps of a placement, reckoned once: the contract of look where all of it may be. Condition: all of it lies in memory. -/
import Derived.Test.YticgcimcebdjlaaGreatA10
import Derived.StillTailTactics
import Derived.Handy
import Derived.Deep.RegionHeld3
import Derived.Deep.DeepCutAuto

namespace Go.Proofs.YticgcimcebdjlaaGreat
open Go.RowKit Go.Maps


set_option maxRecDepth 100000 in
set_option maxHeartbeats 8000000 in
theorem look_ok (A B C P G : Option Addr) (ca cb cc cp cg : Nat) (ns : List NodeD) (ps : List PodD) (os : List OwnD) (p : List Int) (g : Pol) (w : World) (h : SnapIn w A B C ca cb cc ns ps os) (hp : IntsAt w P cp p) (hg : NamesAt w G cg g.drain) (hg0 : checkG g = 0) (hE : placeE ns ps os p = 0) :
    Calls Tryz.prog 45 #[snapV A B C ca cb cc ns ps os, .slice P p.length cp, valG g G cg] w fun e w' => ∃ K X Y F ck cx cy cf, e = .returned (.tuple #[.agg (cellsVw (vwMk A B C P G ca cb cc cp cg ns ps os p g K X Y F ck cx cy cf)), .bool true]) ∧ VwAt w' (vwMk A B C P G ca cb cc cp cg ns ps os p g K X Y F ck cx cy cf) ∧ Below w.heap.size w w' := by
  have hfw := placeE_few hE
  have hsn := h.at hfw
  have hln := hfw.1
  have hlo := hfw.2.2
  have hLf : ((all8 ns ps os p).filter brokC).length ≤ 12000 := by
    have h1 := all8_len ns ps os p
    have h2 := placeE_len hE
    have h3 := hfw.2.1
    have h4 := List.length_filter_le brokC (all8 ns ps os p)
    omega
  have hL8 : (all8 ns ps os p).length ≤ 12000 := by
    have h1 := all8_len ns ps os p
    have h2 := placeE_len hE
    have h3 := hfw.2.1
    omega
  have HOW : Hid (∀ c ∈ (all8 ns ps os p).filter brokC, c.1 = 7 → ∃ i : Nat, c.2.1 = (i : Int) ∧ i < os.length) := Lib.hid (fun c hc h7 => all8_owner (List.mem_filter.1 hc).1 h7)
  have B0 : Hid (Below w.heap.size w (((w.alloc (.cells (snapC A B C ca cb cc ns ps os) 26)).alloc (.cells (cellsG g G cg) 30)).alloc (.cells zeroVw 92))) := Lib.hid ((Qu.below2 w _ _).alloc (by simp; omega) _)
  have S0 : Hid (Blk (((w.alloc (.cells (snapC A B C ca cb cc ns ps os) 26)).alloc (.cells (cellsG g G cg) 30)).alloc (.cells zeroVw 92)) w.heap.size (snapC A B C ca cb cc ns ps os) 26) := Lib.hid (Blk.alloc (Blk.alloc (Blk.new w _ _) _) _)
  have G0 : Hid (Blk (((w.alloc (.cells (snapC A B C ca cb cc ns ps os) 26)).alloc (.cells (cellsG g G cg) 30)).alloc (.cells zeroVw 92)) (w.heap.size + 1) (cellsG g G cg) 30) := Lib.hid (Blk.alloc (blk2 w _ _ _) _)
  have V0 : Hid (Blk (((w.alloc (.cells (snapC A B C ca cb cc ns ps os) 26)).alloc (.cells (cellsG g G cg) 30)).alloc (.cells zeroVw 92)) (w.heap.size + 1 + 1) zeroVw 92) := Lib.hid (by
    have := Blk.new ((w.alloc (.cells (snapC A B C ca cb cc ns ps os) 26)).alloc (.cells (cellsG g G cg) 30)) zeroVw 92
    rwa [World.size_alloc, World.size_alloc] at this)
  have H := Lib.hid h
  have HP := Lib.hid hp
  have HN := Lib.hid hg
  have HSN := Lib.hid hsn
  have KG := Lib.hid (fun W' (hb : Below w.heap.size w W') => gcheck_any g G cg W' (hg.below hb))
  have KP := Lib.hid (fun W' (hb : Below w.heap.size w W') => pcheck_in A B C P ca cb cc cp ns ps os p W' (h.low hb) (hp.below hb))
  have KB := Lib.hid (fun W' (hb : Below w.heap.size w W') => brokenP_any A B C P ca cb cc cp ns ps os p hL8 W' (hsn.below hb) (hp.below hb))
  have KH := Lib.hid (fun W' (hb : Below w.heap.size w W') => hHigh_in A B C P G ca cb cc cp cg ns ps os p g W' (h.low hb) (hp.below hb) (hg.below hb))
  have KL := Lib.hid (fun W' (hb : Below w.heap.size w W') => hLow_in A B C P G ca cb cc cp cg ns ps os p g W' (h.low hb) (hp.below hb) (hg.below hb))
  have KF := Lib.hid (fun (ko : Nat) W' (hb : Below w.heap.size w W') (hk : ko < os.length) => fullest_any A B C P ca cb cc cp ns ps os p ko W' (hsn.below hb) (hp.below hb) hE hk)
  have HBIG := Lib.hid (fun k => full_big h.n ps os p k)
  have HE := Lib.hid hE
  rw [hg0] at KG
  rw [hE] at KP
  unfold vwMk
  obtain ⟨L, hL⟩ : ∃ L, (all8 ns ps os p).filter brokC = L := ⟨_, rfl⟩
  rw [hL] at KB HOW hLf ⊢
  generalize highF ns ps os p g = Hs at KH ⊢
  generalize lowF ns ps os p g = Ls at KL ⊢
  have HLF := Lib.hid hLf
  clear h hp hg hL hfw hsn hE hg0 hL8 hLf
  go_enter Tryz.func45, Tryz.ntmps45
  go_upto_region 1 with fail
  try change Code.wp _ _ _ _ (((w.alloc (.cells (snapC A B C ca cb cc ns ps os) 26)).alloc (.cells (cellsG g G cg) 30)).alloc (.cells zeroVw 92))
  generalize (((w.alloc (.cells (snapC A B C ca cb cc ns ps os) 26)).alloc (.cells (cellsG g G cg) 30)).alloc (.cells zeroVw 92)) = W0 at B0 S0 G0 V0 ⊢
  obtain ⟨Gb, hGb⟩ : ∃ b, w.heap.size + 1 = b := ⟨_, rfl⟩
  rw [hGb] at G0 V0 ⊢
  obtain ⟨Vb, hVb⟩ : ∃ b, Gb + 1 = b := ⟨_, rfl⟩
  rw [hVb] at V0 ⊢
  have HVB := Lib.hid (show w.heap.size + 2 = Vb by omega)
  have HGV := Lib.hid hVb
  have HS0 := Lib.hid (fun W' (hb : Below W0.heap.size W0 W') => S0.out.below hb S0.out.lt)
  clear hGb hVb
  have HC0 : Hid (∀ W', Below W0.heap.size W0 W' → (W'.cell? ⟨w.heap.size, 0, none⟩ = some (.slice A ns.length ca) ∧ W'.cell? ⟨w.heap.size, 1, none⟩ = some (.slice B ps.length cb) ∧ W'.cell? ⟨w.heap.size, 2, none⟩ = some (.slice C os.length cc)) ∧ (W'.cell? ⟨Gb, 0, none⟩ = some (.int .i64 g.l0) ∧ W'.cell? ⟨Gb, 1, none⟩ = some (.int .i64 g.l1) ∧ W'.cell? ⟨Gb, 2, none⟩ = some (.int .i64 g.h0) ∧ W'.cell? ⟨Gb, 3, none⟩ = some (.int .i64 g.h1) ∧ W'.cell? ⟨Gb, 4, none⟩ = some (.int .i64 g.on) ∧ W'.cell? ⟨Gb, 5, none⟩ = some (.slice G g.drain.length cg) ∧ W'.cell? ⟨Gb, 6, none⟩ = some (.int .i64 g.mx) ∧ W'.cell? ⟨Gb, 7, none⟩ = some (.int .i64 g.tr) ∧ W'.cell? ⟨Gb, 8, none⟩ = some (.bool g.rb))) := Lib.hid (fun W' hb => by
    have h1 := S0.out.below hb S0.out.lt
    have h2 := G0.out.below hb G0.out.lt
    exact ⟨⟨Blk.cell h1 0, Blk.cell h1 1, Blk.cell h1 2⟩, Blk.cell h2 0, Blk.cell h2 1, Blk.cell h2 2, Blk.cell h2 3, Blk.cell h2 4, Blk.cell h2 5, Blk.cell h2 6, Blk.cell h2 7, Blk.cell h2 8⟩)
  have HT0 : Hid (∀ W', Below W0.heap.size W0 W' → Below w.heap.size w W') := Lib.hid (fun W' hb => B0.out.trans (hb.mono B0.out.size))
  obtain ⟨⟨s0, s1, s2⟩, g0, g1, g2, g3, g4, g5, g6, g7, g8⟩ := HC0.out _ (Below.refl _ _)
  have HV0 : Hid (∀ W', Below W0.heap.size W0 W' → Blk W' Vb zeroVw 92) := Lib.hid (fun W' hb => V0.out.below hb V0.out.lt)
  have HVL : Hid (Vb < W0.heap.size) := Lib.hid V0.out.lt
  have HGL : Hid (Gb < Vb) := Lib.hid (by have := HGV.out; omega)
  go_wp2_with fail
  refine (KG.out _ B0.out).mono ?_
  rintro e W1 ⟨rfl, hb⟩
  have HB1 := Lib.hid hb
  clear hb s0 s1 s2 g0 g1 g2 g3 g4 g5 g6 g7 g8 KG S0 G0 V0 B0
  obtain ⟨⟨s0, s1, s2⟩, g0, g1, g2, g3, g4, g5, g6, g7, g8⟩ := HC0.out _ HB1.out
  go_wp2_with fail
  refine (KP.out _ (HT0.out _ HB1.out)).mono ?_
  rintro e W2 ⟨rfl, hb⟩
  have HB2 := Lib.hid (HB1.out.trans (hb.mono HB1.out.size))
  clear hb s0 s1 s2 g0 g1 g2 g3 g4 g5 g6 g7 g8 KP HB1
  go_upto_region 3 with fail
  have HNV : Hid (w.heap.size < Vb) := Lib.hid (by have := HVB.out; omega)
  have HT2 : Hid (∀ W', Below W2.heap.size W2 W' → Below w.heap.size w W') := Lib.hid (fun W' hb => HT0.out _ (HB2.out.trans (hb.mono HB2.out.size)))
  have HVL2 : Hid (Vb + 1 ≤ W2.heap.size) := Lib.hid (Nat.le_trans HVL.out HB2.out.size)
  go_cut [6] (fun v wc => v = .pointer (some ⟨Vb, 0, none⟩) ∧ ∃ K X Y ck cx cy, Blk wc Vb #[.slice A ns.length ca, .slice B ps.length cb, .slice C os.length cc, .slice P p.length cp, .int .i64 g.l0, .int .i64 g.l1, .int .i64 g.h0, .int .i64 g.h1, .int .i64 g.on, .slice G g.drain.length cg, .int .i64 g.mx, .int .i64 g.tr, .bool g.rb, .slice K L.length ck, .slice X Hs.length cx, .slice Y Ls.length cy, .slice none 0 0] 92 ∧ (wc.ownsRow (Vb + 1) 50 4 (.slice K L.length ck) L.length (cells4 L) ∧ wc.ownsRow (Vb + 1) 3 1 (.slice X Hs.length cx) Hs.length (intsC Hs) ∧ wc.ownsRow (Vb + 1) 3 1 (.slice Y Ls.length cy) Ls.length (intsC Ls)) ∧ Below w.heap.size w wc ∧ Blk wc w.heap.size (snapC A B C ca cb cc ns ps os) 26)
  case first =>
    refine r3_look (Vb := Vb) (n := w.heap.size) (Gb := Gb) (L := L) (Hs := Hs) (Ls := Ls) (Lib.hid (fun W' hb => (KB.out W' (HT2.out _ hb)).mono (fun e w' ⟨v, h1, h2, h3⟩ => ⟨v, h1, own_base h2 (Nat.le_trans HVL2.out hb.size), h3⟩))) (Lib.hid (fun W' hb => (KH.out W' (HT2.out _ hb)).mono (fun e w' ⟨v, h1, h2, h3⟩ => ⟨v, h1, own_base h2 (Nat.le_trans HVL2.out hb.size), h3⟩))) (Lib.hid (fun W' hb => (KL.out W' (HT2.out _ hb)).mono (fun e w' ⟨v, h1, h2, h3⟩ => ⟨v, h1, own_base h2 (Nat.le_trans HVL2.out hb.size), h3⟩))) (Lib.hid (fun W' hb => HC0.out _ (HB2.out.trans (hb.mono HB2.out.size)))) (HV0.out _ HB2.out) HNV.out HGL.out ?_
    intro K X Y ck cx cy wc t20 t21 t22 t23 t24 t25 t26 t27 t28 t29 t30 t31 t32 t33 t34 hV hR hbb
    have HBWW : Hid (Below w.heap.size w wc) := Lib.hid ((HT0.out _ HB2.out).trans (hbb.mono (Nat.le_of_lt HNV.out)))
    have HSS : Hid (Blk wc w.heap.size (snapC A B C ca cb cc ns ps os) 26) := Lib.hid ((HS0.out _ HB2.out).below hbb HNV.out)
    have HVV := Lib.hid hV
    have HRR := Lib.hid hR
    clear hV hR hbb
    (try dsimp only)
    (try go_wp2_with fail)
    go_meet
    exact ⟨rfl, K, X, Y, ck, cx, cy, HVV.out, HRR.out, HBWW.out, HSS.out⟩
  case' rest => obtain ⟨rfl, K, X, Y, ck, cx, cy, hV, ⟨ha, hx, hy⟩, hbw, hS⟩ := hcut
  clear HB2 HC0 HT0 HV0 HVL HT2 HVL2 HS0 KB KH KL HGL HGV
  have B4 : Hid (Below w.heap.size w ((wc.alloc (.cells (madeCells #[.slice none 0 0] os.length) 28)).setCell ⟨Vb, 16, none⟩ (.slice (some ⟨wc.heap.size, 0, none⟩) os.length os.length))) := Lib.hid ((hbw.alloc hbw.size _).setCell (p := ⟨Vb, 16, none⟩) (Nat.le_of_lt HNV.out) _)
  have HVF : Hid (Vb < wc.heap.size) := Lib.hid (Blk.lt hV)
  have FR4 : Hid (FullR ((wc.alloc (.cells (madeCells #[.slice none 0 0] os.length) 28)).setCell ⟨Vb, 16, none⟩ (.slice (some ⟨wc.heap.size, 0, none⟩) os.length os.length)) wc.heap.size (fullL ns ps os p [])) := Lib.hid (by
    rw [fullL_nil]
    exact KeepX.full keep_set HVF.out (FullR.new wc os.length))
  have V4 : Hid (Blk ((wc.alloc (.cells (madeCells #[.slice none 0 0] os.length) 28)).setCell ⟨Vb, 16, none⟩ (.slice (some ⟨wc.heap.size, 0, none⟩) os.length os.length)) Vb #[.slice A ns.length ca, .slice B ps.length cb, .slice C os.length cc, .slice P p.length cp, .int .i64 g.l0, .int .i64 g.l1, .int .i64 g.h0, .int .i64 g.h1, .int .i64 g.on, .slice G g.drain.length cg, .int .i64 g.mx, .int .i64 g.tr, .bool g.rb, .slice K L.length ck, .slice X Hs.length cx, .slice Y Ls.length cy, .slice (some ⟨wc.heap.size, 0, none⟩) (fullL ns ps os p L).length os.length] 92) := Lib.hid (by
    rw [fullL_len]
    exact (Blk.alloc hV _).set 16 _)
  have S4 : Hid (Blk ((wc.alloc (.cells (madeCells #[.slice none 0 0] os.length) 28)).setCell ⟨Vb, 16, none⟩ (.slice (some ⟨wc.heap.size, 0, none⟩) os.length os.length)) w.heap.size (snapC A B C ca cb cc ns ps os) 26) := Lib.hid (KeepX.blk keep_set (by have := HNV.out; omega) (Blk.alloc hS _))
  have OA4 : Hid (((wc.alloc (.cells (madeCells #[.slice none 0 0] os.length) 28)).setCell ⟨Vb, 16, none⟩ (.slice (some ⟨wc.heap.size, 0, none⟩) os.length os.length)).ownsRow (Vb + 1) 50 4 (.slice K L.length ck) L.length (cells4 L) ∧ ∀ g, Value.ownBlock (.slice K L.length ck) = some g → g ≠ wc.heap.size) := Lib.hid ⟨own_setK (La.own_below ha (below1 _ _)), fun g hg => by have := (own_lt ha hg).2; omega⟩
  have OX4 : Hid (((wc.alloc (.cells (madeCells #[.slice none 0 0] os.length) 28)).setCell ⟨Vb, 16, none⟩ (.slice (some ⟨wc.heap.size, 0, none⟩) os.length os.length)).ownsRow (Vb + 1) 3 1 (.slice X Hs.length cx) Hs.length (intsC Hs) ∧ ∀ g, Value.ownBlock (.slice X Hs.length cx) = some g → g ≠ wc.heap.size) := Lib.hid ⟨own_setK (La.own_below hx (below1 _ _)), fun g hg => by have := (own_lt hx hg).2; omega⟩
  have OY4 : Hid (((wc.alloc (.cells (madeCells #[.slice none 0 0] os.length) 28)).setCell ⟨Vb, 16, none⟩ (.slice (some ⟨wc.heap.size, 0, none⟩) os.length os.length)).ownsRow (Vb + 1) 3 1 (.slice Y Ls.length cy) Ls.length (intsC Ls) ∧ ∀ g, Value.ownBlock (.slice Y Ls.length cy) = some g → g ≠ wc.heap.size) := Lib.hid ⟨own_setK (La.own_below hy (below1 _ _)), fun g hg => by have := (own_lt hy hg).2; omega⟩
  have hmk := run_strsL wc os.length (by omega)
  have s2 : wc.cell? ⟨w.heap.size, 2, none⟩ = some (.slice C os.length cc) := Blk.cell hS 2
  have q16 : (wc.alloc (.cells (madeCells #[.slice none 0 0] os.length) 28)).cell? ⟨Vb, 16, none⟩ = some (.slice none 0 0) := Blk.cell (Blk.alloc hV _) 16
  have f16 : (wc.alloc (.cells (madeCells #[.slice none 0 0] os.length) 28)).frozen? ⟨Vb, 16, none⟩ = false := Blk.free (Blk.alloc hV _) 16
  have HLN := Lib.hid (fullL_len ns ps os p L)
  clear hV ha hx hy hbw hS
  go_upto_region 5 with fail
  clear s2 q16 f16 hmk
  try change Code.wp _ _ _ _ ((wc.alloc (.cells (madeCells #[.slice none 0 0] os.length) 28)).setCell ⟨Vb, 16, none⟩ (.slice (some ⟨wc.heap.size, 0, none⟩) os.length os.length))
  generalize ((wc.alloc (.cells (madeCells #[.slice none 0 0] os.length) 28)).setCell ⟨Vb, 16, none⟩ (.slice (some ⟨wc.heap.size, 0, none⟩) os.length os.length)) = W4 at B4 FR4 V4 S4 OA4 OX4 OY4 ⊢
  have HNF : Hid (w.heap.size < wc.heap.size) := Lib.hid (by have := HNV.out; have := HVF.out; omega)
  generalize wc.heap.size = Fb at HVF FR4 V4 OA4 OX4 OY4 HNF ⊢
  have q13 : W4.cell? ⟨Vb, 13, none⟩ = some (.slice K L.length ck) := Blk.cell V4.out 13
  go_wp2_with fail
  go_loopw [43] (fun i wr => ∃ k : Nat, k ≤ L.length ∧ i = .int .i64 k ∧ FullR wr Fb (fullL ns ps os p (L.take k)) ∧ KeepX Fb W4 wr) (fun i _ => L.length - (intOf i).toNat)
  case atStart => exact ⟨0, by omega, rfl, by rw [List.take_zero]; exact FR4.out, KeepX.refl _ _⟩
  case round =>
    clear q13 FR4
    obtain ⟨k, hk, rfl, hfr, hkx⟩ := hrel
    have HFR := Lib.hid hfr
    have HKX := Lib.hid hkx
    have HBW : Hid (Below w.heap.size w wr) := Lib.hid (B4.out.trans (hkx.below (by have := HNF.out; omega) B4.out.size))
    have HVB4 := Lib.hid (hkx.blk (show Vb ≠ Fb by have := HVF.out; omega) V4.out)
    clear hfr hkx
    have hLc : L.length ≤ 12000 := HLF.out
    by_cases hlt : k < L.length
    case neg =>
      obtain rfl : k = L.length := by omega
      have HFE : Hid (FullR wr Fb (fullL ns ps os p L)) := Lib.hid (by have := HFR.out; rwa [List.take_length] at this)
      clear HFR
      have q0 : wr.cell? ⟨Vb, 0, none⟩ = some (.slice A ns.length ca) := Blk.cell HVB4.out 0
      have f0 := Blk.free HVB4.out 0
      have q1 : wr.cell? ⟨Vb, 1, none⟩ = some (.slice B ps.length cb) := Blk.cell HVB4.out 1
      have f1 := Blk.free HVB4.out 1
      have q2 : wr.cell? ⟨Vb, 2, none⟩ = some (.slice C os.length cc) := Blk.cell HVB4.out 2
      have f2 := Blk.free HVB4.out 2
      have q3 : wr.cell? ⟨Vb, 3, none⟩ = some (.slice P p.length cp) := Blk.cell HVB4.out 3
      have f3 := Blk.free HVB4.out 3
      have q4 : wr.cell? ⟨Vb, 4, none⟩ = some (.int .i64 g.l0) := Blk.cell HVB4.out 4
      have f4 := Blk.free HVB4.out 4
      have q5 : wr.cell? ⟨Vb, 5, none⟩ = some (.int .i64 g.l1) := Blk.cell HVB4.out 5
      have f5 := Blk.free HVB4.out 5
      have q6 : wr.cell? ⟨Vb, 6, none⟩ = some (.int .i64 g.h0) := Blk.cell HVB4.out 6
      have f6 := Blk.free HVB4.out 6
      have q7 : wr.cell? ⟨Vb, 7, none⟩ = some (.int .i64 g.h1) := Blk.cell HVB4.out 7
      have f7 := Blk.free HVB4.out 7
      have q8 : wr.cell? ⟨Vb, 8, none⟩ = some (.int .i64 g.on) := Blk.cell HVB4.out 8
      have f8 := Blk.free HVB4.out 8
      have q9 : wr.cell? ⟨Vb, 9, none⟩ = some (.slice G g.drain.length cg) := Blk.cell HVB4.out 9
      have f9 := Blk.free HVB4.out 9
      have q10 : wr.cell? ⟨Vb, 10, none⟩ = some (.int .i64 g.mx) := Blk.cell HVB4.out 10
      have f10 := Blk.free HVB4.out 10
      have q11 : wr.cell? ⟨Vb, 11, none⟩ = some (.int .i64 g.tr) := Blk.cell HVB4.out 11
      have f11 := Blk.free HVB4.out 11
      have q12 : wr.cell? ⟨Vb, 12, none⟩ = some (.bool g.rb) := Blk.cell HVB4.out 12
      have f12 := Blk.free HVB4.out 12
      have q13 : wr.cell? ⟨Vb, 13, none⟩ = some (.slice K L.length ck) := Blk.cell HVB4.out 13
      have f13 := Blk.free HVB4.out 13
      have q14 : wr.cell? ⟨Vb, 14, none⟩ = some (.slice X Hs.length cx) := Blk.cell HVB4.out 14
      have f14 := Blk.free HVB4.out 14
      have q15 : wr.cell? ⟨Vb, 15, none⟩ = some (.slice Y Ls.length cy) := Blk.cell HVB4.out 15
      have f15 := Blk.free HVB4.out 15
      have q16 : wr.cell? ⟨Vb, 16, none⟩ = some (.slice (some ⟨Fb, 0, none⟩) (fullL ns ps os p L).length os.length) := Blk.cell HVB4.out 16
      have f16 := Blk.free HVB4.out 16
      have e17 := set17_idD HVB4.out
      simp only [set17] at e17
      have E17 := Lib.hid e17
      clear e17
      go_wp2_with fail
      refine bodyPost_ctD Tryz.results45 Vb _ _ _ _ (.bool true) (by rfl) (by rfl) (by rfl) (blk17 HVB4.out _ _ _ _ _ _ _ _ _ _ _ _ _ _ _ _ _) Tryz.underlying92 rfl (by kernel_rfl) ?_
      rw [E17.out]
      refine ⟨K, X, Y, some ⟨Fb, 0, none⟩, ck, cx, cy, os.length, rfl, ⟨H.out.low HBW.out, HP.out.below HBW.out, HN.out.below HBW.out, La.own_slat (HKX.out.own OA4.out.1 OA4.out.2), IntsAt.own (HKX.out.own OX4.out.1 OX4.out.2), IntsAt.own (HKX.out.own OY4.out.1 OY4.out.2), HFE.out.at ?_, HLF.out, HE.out⟩, HBW.out⟩
      intro ds hds
      unfold fullL at hds
      obtain ⟨i, _, rfl⟩ := List.mem_map.1 hds
      split
      · exact HBIG.out i
      · intro x hx; cases hx
    obtain ⟨y, hy⟩ : ∃ y, L[k]? = some y := ⟨L[k], List.getElem?_eq_getElem hlt⟩
    obtain ⟨g', o', hG, hbl, c0, c1, c2, c3⟩ := atC (La.own_slat (HKX.out.own OA4.out.1 OA4.out.2)) hy
    subst hG
    have k0 : (0 : Int) ≤ (k : Int) := by omega
    have k1 : (k : Int) < (L.length : Int) := by omega
    have HTK : Hid (L.take (k + 1) = L.take k ++ [y]) := Lib.hid (by rw [List.take_add_one, hy]; rfl)
    have HOY := Lib.hid (HOW.out y (List.mem_of_getElem? hy))
    have HYL : Hid (y ∈ L) := Lib.hid (List.mem_of_getElem? hy)
    clear hy
    go_upto_region 8 with fail
    have T8 : Hid (Blk (wr.alloc (.cells #[.int .i64 y.1, .int .i64 y.2.1, .int .i64 y.2.2.1, .int .i64 y.2.2.2] 50)) wr.heap.size #[.int .i64 y.1, .int .i64 y.2.1, .int .i64 y.2.2.1, .int .i64 y.2.2.2] 50) := Lib.hid (Blk.new wr _ _)
    have R8 : Hid (Below wr.heap.size wr (wr.alloc (.cells #[.int .i64 y.1, .int .i64 y.2.1, .int .i64 y.2.2.1, .int .i64 y.2.2.2] 50))) := Lib.hid (below1 wr _)
    try change Code.wp _ _ _ _ (wr.alloc (.cells #[.int .i64 y.1, .int .i64 y.2.1, .int .i64 y.2.2.1, .int .i64 y.2.2.2] 50))
    generalize (wr.alloc (.cells #[.int .i64 y.1, .int .i64 y.2.1, .int .i64 y.2.2.1, .int .i64 y.2.2.2] 50)) = W8 at T8 R8 ⊢
    have HFR8 := Lib.hid (HFR.out.below R8.out)
    have HKX8 := Lib.hid (HKX.out.on R8.out)
    have HBW8 : Hid (Below w.heap.size w W8) := Lib.hid (HBW.out.trans (R8.out.mono HBW.out.size))
    have HVB8 := Lib.hid (HVB4.out.below R8.out HVB4.out.lt)
    have HS8 := Lib.hid (HKX8.out.blk (show w.heap.size ≠ Fb by have := HNF.out; omega) S4.out)
    have HFL : Hid (Fb < wr.heap.size) := Lib.hid HFR.out.1
    clear c0 c1 c2 c3 hbl
    have c0 : W8.cell? ⟨wr.heap.size, 0, none⟩ = some (.int .i64 y.1) := Blk.cell T8.out 0
    clear HFR HKX HBW HVB4 R8
    by_cases h7 : y.1 = 7
    case neg =>
      have h7b : (y.1 == 7) = false := by simpa using h7
      have HE9 : Hid (fullL ns ps os p (L.take (k + 1)) = fullL ns ps os p (L.take k)) := Lib.hid (by rw [HTK.out, fullL_other _ _ _ _ _ h7])
      clear h7
      go_wp2_with fail
      go_roundw
      case rel => exact ⟨k + 1, by omega, by go_num, by rw [HE9.out]; exact HFR8.out, HKX8.out⟩
      case measure => simp [intOf]; omega
    have h7b : (y.1 == 7) = true := by simpa using h7
    obtain ⟨io, hio, hiol⟩ := HOY.out h7
    have HE9 : Hid (fullL ns ps os p (L.take (k + 1)) = (fullL ns ps os p (L.take k)).set io (fullF ns ps os p io)) := Lib.hid (by rw [HTK.out, fullL_on _ _ _ _ _ h7 hio])
    have io0 : (0 : Int) ≤ (io : Int) := by omega
    have io1 : (io : Int) < ((fullL ns ps os p L).length : Int) := by rw [HLN.out]; omega
    have HIO : Hid (io < (fullL ns ps os p (L.take k)).length) := Lib.hid (by rw [fullL_len]; exact hiol)
    have KF1 := Lib.hid (fun W' hb => KF.out io W' hb hiol)
    generalize fullL ns ps os p (L.take k) = M at HFR8 HE9 HIO
    generalize (fullL ns ps os p L).length = nf at HVB8 io1 V4 HLN ⊢
    generalize fullF ns ps os p io = ds at KF1 HE9
    have D0 : Hid (Below W8.heap.size W8 W8.drew) := Lib.hid (Below.refl _ W8).drew
    have HT8 : Hid (∀ W', Below W8.heap.size W8 W' → (W'.cell? ⟨w.heap.size, 0, none⟩ = some (.slice A ns.length ca) ∧ W'.cell? ⟨w.heap.size, 1, none⟩ = some (.slice B ps.length cb) ∧ W'.cell? ⟨w.heap.size, 2, none⟩ = some (.slice C os.length cc)) ∧ W'.cell? ⟨Vb, 16, none⟩ = some (.slice (some ⟨Fb, 0, none⟩) nf os.length) ∧ W'.cell? ⟨wr.heap.size, 1, none⟩ = some (.int .i64 (io : Int))) := Lib.hid (fun W' hb => by
      have h1 := HS8.out.below hb HS8.out.lt
      have h2 := HVB8.out.below hb HVB8.out.lt
      have h3 := T8.out.below hb T8.out.lt
      refine ⟨⟨Blk.cell h1 0, Blk.cell h1 1, Blk.cell h1 2⟩, Blk.cell h2 16, ?_⟩
      rw [← hio]
      exact Blk.cell h3 1)
    have HNE : Hid (w.heap.size ≠ Fb ∧ Vb ≠ Fb ∧ wr.heap.size ≠ Fb) := Lib.hid ⟨by have := HNF.out; omega, by have := HVF.out; omega, by have := HFL.out; omega⟩
    clear h7 hio hiol KF
    go_upto_region 9 with fail
    clear c0
    have T0 := HT8.out _ D0.out
    go_region_held3 (fun w' => (w'.cell? ⟨w.heap.size, 0, none⟩ = some (.slice A ns.length ca) ∧ w'.cell? ⟨w.heap.size, 1, none⟩ = some (.slice B ps.length cb) ∧ w'.cell? ⟨w.heap.size, 2, none⟩ = some (.slice C os.length cc)) ∧ w'.cell? ⟨Vb, 16, none⟩ = some (.slice (some ⟨Fb, 0, none⟩) nf os.length) ∧ w'.cell? ⟨wr.heap.size, 1, none⟩ = some (.int .i64 (io : Int)))
      (first | (with_reducible exact T0) | (with_reducible exact T1) | (with_reducible exact T2))
      (first
        | (go_at_call 87
           with_reducible refine (KF1.out _ (HBW8.out.trans (D0.out.mono HBW8.out.size))).mono ?_
           rintro e wD ⟨vd, rfl, hod, hb⟩
           obtain ⟨D, cd, rfl, _⟩ := La.own_slice hod
           have D1 := Lib.hid (D0.out.trans (hb.mono D0.out.size))
           have T1 := HT8.out _ D1.out
           have FD := Lib.hid (HFR8.out.below D1.out)
           have OD := Lib.hid (own_base hod (show Fb + 1 ≤ W8.drew.heap.size from HFR8.out.1))
           obtain ⟨fz, D9, cd9, cell9, _⟩ := FD.out.2 io M[io] (List.getElem?_eq_getElem HIO.out)
           have KD := Lib.hid (((KeepX.refl Fb W8).on D1.out).set io (.slice D ds.length cd))
           have FE := Lib.hid (FD.out.set HIO.out OD.out)
           have T2 : (((wD.setCell ⟨Fb, io, none⟩ (.slice D ds.length cd)).cell? ⟨w.heap.size, 0, none⟩ = some (.slice A ns.length ca) ∧ (wD.setCell ⟨Fb, io, none⟩ (.slice D ds.length cd)).cell? ⟨w.heap.size, 1, none⟩ = some (.slice B ps.length cb) ∧ (wD.setCell ⟨Fb, io, none⟩ (.slice D ds.length cd)).cell? ⟨w.heap.size, 2, none⟩ = some (.slice C os.length cc)) ∧ (wD.setCell ⟨Fb, io, none⟩ (.slice D ds.length cd)).cell? ⟨Vb, 16, none⟩ = some (.slice (some ⟨Fb, 0, none⟩) nf os.length) ∧ (wD.setCell ⟨Fb, io, none⟩ (.slice D ds.length cd)).cell? ⟨wr.heap.size, 1, none⟩ = some (.int .i64 (io : Int))) := by
             rw [World.cell?_setCell_far _ _ _ _ HNE.out.1.symm, World.cell?_setCell_far _ _ _ _ HNE.out.1.symm, World.cell?_setCell_far _ _ _ _ HNE.out.1.symm, World.cell?_setCell_far _ _ _ _ HNE.out.2.1.symm, World.cell?_setCell_far _ _ _ _ HNE.out.2.2.symm]
             exact T1
           clear hb hod))
    all_goals
      have HKE : Hid (KeepX Fb W4 (wD.setCell ⟨Fb, io, none⟩ (.slice D ds.length cd))) := Lib.hid ⟨KD.out.os.trans HKX8.out.os, KD.out.tape.trans HKX8.out.tape, KD.out.output.trans HKX8.out.output, Nat.le_trans HKX8.out.size KD.out.size, fun j hj hF => (KD.out.block j (Nat.lt_of_lt_of_le hj HKX8.out.size) hF).trans (HKX8.out.block j hj hF)⟩
      clear T0 T1 T2 KD
      (try go_wp2_with fail)
      go_roundw
      case rel => exact ⟨k + 1, by omega, by go_num, by rw [HE9.out]; exact FE.out, HKE.out⟩
      case measure => simp [intOf]; omega
end Go.Proofs.YticgcimcebdjlaaGreat
