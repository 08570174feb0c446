/- What may not be, is refused; both ends: the walk of the closed law. No conditions. -/
import Derived.Test.YtfnigiiocapceaaGreatKf
namespace Go.Proofs.YtfnigiiocapceaaGreat
open Go.RowKit

theorem ch_bad1 (N : Nat) : placeE (chN N [98] false) chP chO [] = 2 := by kernel_rfl
theorem ch_bad2 (N : Nat) : placeE (chN N [98] false) chP chO [0, 0] = 2 := by kernel_rfl
theorem ch_bad3 (N : Nat) : placeE (chN N [98] false) chP chO [0, 0, 0, 0] = 2 := by kernel_rfl
theorem ch_bad4 (N : Nat) : placeE (chN N [98] false) chP chO [0, 0, 3] = 2 := by kernel_rfl
theorem ch_bad5 (N : Nat) : placeE (chN N [98] false) chP chO [0, 0, -2] = 2 := by kernel_rfl
def stepsL : List (Int × Int × Int) := [(0, 0, 0), (3, 0, 0), (1, -1, 0), (1, 3, 0), (1, 0, 1), (2, 2, 3), (2, 2, -1), (2, 0, 1), (1, 2, 0)]
def wantL : List Int := [2, 2, 9, 9, 9, 9, 9, 110, 110]
def stepsC : List Value := stepsL.flatMap fun x => [.int .i64 x.1, .int .i64 x.2.1, .int .i64 x.2.2]
theorem ch_steps (N : Nat) (k : Nat) (hk : k < 9) : ∃ kd pd nd e r, stepsC[k * 3]? = some (.int .i64 kd) ∧ stepsC[k * 3 + 1]? = some (.int .i64 pd) ∧ stepsC[k * 3 + 2]? = some (.int .i64 nd) ∧ (intsC wantL)[k]? = some (.int .i64 e) ∧ applyF (chN N [98] false) chP chO [0, 2, -1] kd pd nd = (r, e) := by
  match k, hk with
  | 0, _ => exact ⟨0, 0, 0, 2, [], rfl, rfl, rfl, rfl, by kernel_rfl⟩
  | 1, _ => exact ⟨3, 0, 0, 2, [], rfl, rfl, rfl, rfl, by kernel_rfl⟩
  | 2, _ => exact ⟨1, -1, 0, 9, [], rfl, rfl, rfl, rfl, by kernel_rfl⟩
  | 3, _ => exact ⟨1, 3, 0, 9, [], rfl, rfl, rfl, rfl, by kernel_rfl⟩
  | 4, _ => exact ⟨1, 0, 1, 9, [], rfl, rfl, rfl, rfl, by kernel_rfl⟩
  | 5, _ => exact ⟨2, 2, 3, 9, [], rfl, rfl, rfl, rfl, by kernel_rfl⟩
  | 6, _ => exact ⟨2, 2, -1, 9, [], rfl, rfl, rfl, rfl, by kernel_rfl⟩
  | 7, _ => exact ⟨2, 0, 1, 110, [], rfl, rfl, rfl, rfl, by kernel_rfl⟩
  | 8, _ => exact ⟨1, 2, 0, 110, [], rfl, rfl, rfl, rfl, by kernel_rfl⟩
theorem ch_apL (N : Nat) : applyF (chN N [98] true) chP chO [0, 2, -1] 2 2 1 = ([], 110) := by kernel_rfl
theorem ch_plL (N : Nat) : placeE (chN N [98] true) chP chO [1, -1, -1] = 2 := by kernel_rfl
theorem ch_plA (N : Nat) : placeE (chN N [65] true) chP chO [0, 2, -1] = 50 := by kernel_rfl
theorem ch_used3 (N : Nat) : rowV (usedF (chN N [98] false) chP chO [0, 2, -1] 3) = .agg #[.int .i64 0, .int .i64 0, .int .i64 0, .int .i64 0, .int .i64 0] := by kernel_rfl
theorem ch_usedM (N : Nat) : rowV (usedF (chN N [98] false) chP chO [0, 2, -1] (-1)) = .agg #[.int .i64 0, .int .i64 0, .int .i64 0, .int .i64 0, .int .i64 0] := by kernel_rfl
theorem ch_counts1 (N : Nat) : countsF (chN N [98] false) chP chO [0, 2, -1] 1 = [] := by kernel_rfl
theorem ch_movesN : movesF [] [0, 2, -1] = [] := by kernel_rfl
theorem bad_ap {ns : List NodeD} {ps : List PodD} {os : List OwnD} {l : List Int} (h : placeE ns ps os l = 2) : applyF ns ps os l 1 0 0 = ([], 2) := by
  unfold applyF
  rw [h, if_neg (by decide)]
theorem bad_used {ns : List NodeD} {ps : List PodD} {os : List OwnD} {l : List Int} (h : placeE ns ps os l = 2) : rowV (usedF ns ps os l 0) = .agg #[.int .i64 0, .int .i64 0, .int .i64 0, .int .i64 0, .int .i64 0] := by
  have e : usedF ns ps os l 0 = fun _ => 0 := by
    funext k
    unfold usedF
    rw [if_neg (by rw [h]; rintro ⟨h1, _⟩; cases h1)]
  rw [e]
theorem bad_placed {ns : List NodeD} {ps : List PodD} {os : List OwnD} {l : List Int} (h : placeE ns ps os l = 2) : placedF ns ps os l 0 = 0 := by
  have e : ownerB ns ps os l 0 = false := by
    unfold ownerB
    rw [h]
    rfl
  unfold placedF
  rw [e]
  rfl

/-- The chapter's cluster (a name and a mark turned), its box lie in memory. -/
structure NmAt (w W : World) (N Sb : Nat) (B : Option Addr) (cb : Nat) (nm : List UInt8) (lost : Bool) : Prop where
  c : ChapAt W N (.slice B 3 cb) 3 nm lost
  b : Blk W Sb #[.slice (some ⟨N + 3, 0, none⟩) 3 3, .slice B 3 cb, .slice (some ⟨N + 4, 0, none⟩) 1 1] 26
  w : Below w.heap.size w W
theorem NmAt.below {w W W' : World} {N Sb : Nat} {B : Option Addr} {cb : Nat} {nm : List UInt8} {lost : Bool} (h : NmAt w W N Sb B cb nm lost) (hb : Below W.heap.size W W') : NmAt w W' N Sb B cb nm lost :=
  ⟨h.c.kept hb, h.b.below hb h.b.lt, h.w.trans (hb.mono h.w.size)⟩
theorem NmAt.s {w W : World} {N Sb : Nat} {B : Option Addr} {cb : Nat} {nm : List UInt8} {lost : Bool} (h : NmAt w W N Sb B cb nm lost) (hn : nm.length ≤ 1000) : SnapAt W (some ⟨N + 3, 0, none⟩) B (some ⟨N + 4, 0, none⟩) 3 cb 1 (chN N nm lost) chP chO := h.c.snap hn
theorem NmAt.c0 {w W : World} {N Sb : Nat} {B : Option Addr} {cb : Nat} {nm : List UInt8} {lost : Bool} (h : NmAt w W N Sb B cb nm lost) : W.cell? ⟨Sb, 0, none⟩ = some (.slice (some ⟨N + 3, 0, none⟩) 3 3) ∧ W.cell? ⟨Sb, 1, none⟩ = some (.slice B 3 cb) ∧ W.cell? ⟨Sb, 2, none⟩ = some (.slice (some ⟨N + 4, 0, none⟩) 1 1) :=
  ⟨Blk.cell h.b 0, Blk.cell h.b 1, Blk.cell h.b 2⟩
/-- Placements that may not be, in a row. -/
def BadAt (W : World) (N Bb : Nat) : Prop := ∀ k, k < 5 → ∃ A c l, W.cell? ⟨Bb, k, none⟩ = some (.slice A (List.length l) c) ∧ IntsAt W A c l ∧ placeE (chN N [98] false) chP chO l = 2
theorem bad_of {W : World} {N Bb : Nat} {a1 a2 a3 a4 : Option Addr} (hB : Blk W Bb #[.slice none 0 0, .slice a1 2 2, .slice a2 4 4, .slice a3 3 3, .slice a4 3 3] 27) (h1 : IntsAt W a1 2 [0, 0]) (h2 : IntsAt W a2 4 [0, 0, 0, 0]) (h3 : IntsAt W a3 3 [0, 0, 3]) (h4 : IntsAt W a4 3 [0, 0, -2]) : BadAt W N Bb := by
  intro k hk
  match k, hk with
  | 0, _ => exact ⟨none, 0, [], Blk.cell hB 0, IntsAt.nil W, ch_bad1 N⟩
  | 1, _ => exact ⟨a1, 2, [0, 0], Blk.cell hB 1, h1, ch_bad2 N⟩
  | 2, _ => exact ⟨a2, 4, [0, 0, 0, 0], Blk.cell hB 2, h2, ch_bad3 N⟩
  | 3, _ => exact ⟨a3, 3, [0, 0, 3], Blk.cell hB 3, h3, ch_bad4 N⟩
  | 4, _ => exact ⟨a4, 3, [0, 0, -2], Blk.cell hB 4, h4, ch_bad5 N⟩

theorem blk_ne {W : World} {a b : Nat} {cs ds : Array Value} {t u : TypeId} (h : Blk W a cs t) (h' : Blk W b ds u) (ht : t ≠ u) : a ≠ b := fun e => by
  subst e
  unfold Blk at h h'
  rw [h] at h'
  cases h'
  exact ht rfl
theorem ints_oth {W : World} {P c g : Nat} {l : List Int} (h : IntsAt W (some ⟨P, 0, none⟩) c l) (hg : P ≠ g) (i : Nat) (v : Value) : IntsAt (W.setCell ⟨g, i, none⟩ v) (some ⟨P, 0, none⟩) c l := by
  refine ⟨fun j y hj => ?_, h.le, h.most⟩
  obtain ⟨b, o, hA, hc⟩ := h.cells j y hj
  cases hA
  exact ⟨P, 0, rfl, (World.cell?_of_block (a := ⟨P, 0 + j, none⟩) (Below.heap_setCell W ⟨g, i, none⟩ v P hg)).trans hc⟩
theorem ints_nb {W : World} {P c g : Nat} {x : Int} {l : List Int} {cs : List Value} {t : TypeId} {b : List UInt8} (h : IntsAt W (some ⟨P, 0, none⟩) c (x :: l)) (hg : Blk W g cs.toArray t) (h0 : cs[0]? = some (strV b)) : P ≠ g := fun e => by
  subst e
  obtain ⟨b', o', hA, hc⟩ := h.cells 0 (.int .i64 x) rfl
  cases hA
  rw [Nat.add_zero, Blk.cell hg 0, List.getElem?_toArray, h0] at hc
  cases hc
theorem NmAt.lose {w W : World} {Sb : Nat} {B : Option Addr} {cb : Nat} (h : NmAt w W w.heap.size Sb B cb [98] false) : NmAt w (W.setCell ⟨w.heap.size + 3, 19, none⟩ (.bool true)) w.heap.size Sb B cb [98] true :=
  ⟨⟨h.c.l1.oth (by omega) _ _, h.c.l2.oth (by omega) _ _, h.c.n.set 19 (.bool true), h.c.o.oth (by omega) _ _, ch_set h.c.p h.c.n (by decide) _ _⟩, h.b.oth (blk_ne h.b h.c.n (by decide)) _ _, h.w.setCell (p := ⟨w.heap.size + 3, 19, none⟩) (Nat.le_add_right _ _) _⟩
theorem NmAt.name {w W : World} {Sb : Nat} {B : Option Addr} {cb : Nat} (h : NmAt w W w.heap.size Sb B cb [98] true) : NmAt w (W.setCell ⟨w.heap.size + 3, 10, none⟩ (strV [65])) w.heap.size Sb B cb [65] true :=
  ⟨⟨h.c.l1.oth (by omega) _ _, h.c.l2.oth (by omega) _ _, h.c.n.set 10 (strV [65]), h.c.o.oth (by omega) _ _, ch_set h.c.p h.c.n (by decide) _ _⟩, h.b.oth (blk_ne h.b h.c.n (by decide)) _ _, h.w.setCell (p := ⟨w.heap.size + 3, 10, none⟩) (Nat.le_add_right _ _) _⟩

set_option maxRecDepth 100000 in
set_option maxHeartbeats 8000000 in
theorem names_any (w : World) :
    Calls Tryz.prog 8 #[] w fun e w' => e = .returned (.bool true) ∧ Below w.heap.size w w' := by
  have KC := Lib.hid (chapter_any w)
  go_enter Tryz.func8, Tryz.ntmps8
  go_wp2_with fail
  refine (KC.out).mono ?_
  rintro e w1 ⟨B, cb, rfl, hch, hb⟩
  obtain ⟨Sb, hSb⟩ : ∃ Sb, w1.heap.size = Sb := ⟨_, rfl⟩
  have H0 : Hid (NmAt w (w1.alloc (.cells #[.slice (some ⟨w.heap.size + 3, 0, none⟩) 3 3, .slice B 3 cb, .slice (some ⟨w.heap.size + 4, 0, none⟩) 1 1] 26)) w.heap.size w1.heap.size B cb [98] false) := Lib.hid ⟨hch.kept (below1 _ _), Blk.new _ _ _, hb.trans ((below1 _ _).mono hb.size)⟩
  clear hch hb KC
  have hsz : (w1.alloc (.cells #[.slice (some ⟨w.heap.size + 3, 0, none⟩) 3 3, .slice B 3 cb, .slice (some ⟨w.heap.size + 4, 0, none⟩) 1 1] 26)).heap.size = w1.heap.size + 1 := World.size_alloc _ _
  obtain ⟨V, hV⟩ : ∃ V, (w1.alloc (.cells #[.slice (some ⟨w.heap.size + 3, 0, none⟩) 3 3, .slice B 3 cb, .slice (some ⟨w.heap.size + 4, 0, none⟩) 1 1] 26)) = V := ⟨_, rfl⟩
  rw [hV] at H0
  have hsz2 := Lib.hid hsz
  clear hsz
  have HX : Hid (∃ W5, W5 = (((((V.alloc (.cells (intsC [0, 0]).toArray 3)).alloc (.cells (intsC [0, 0, 0, 0]).toArray 3)).alloc (.cells (intsC [0, 0, 3]).toArray 3)).alloc (.cells (intsC [0, 0, -2]).toArray 3)).alloc (.cells #[.slice none 0 0, .slice (some ⟨V.heap.size, 0, none⟩) 2 2, .slice (some ⟨V.heap.size + 1, 0, none⟩) 4 4, .slice (some ⟨V.heap.size + 2, 0, none⟩) 3 3, .slice (some ⟨V.heap.size + 3, 0, none⟩) 3 3] 27)) ∧ NmAt w W5 w.heap.size w1.heap.size B cb [98] false ∧ BadAt W5 w.heap.size (V.heap.size + 4)) := Lib.hid (by
    have s1 := World.size_alloc V (.cells (intsC [0, 0]).toArray 3)
    have i1 := ints_new V [0, 0] (by simp)
    have h1 := H0.out.below (below1 V (.cells (intsC [0, 0]).toArray 3))
    generalize (V.alloc (.cells (intsC [0, 0]).toArray 3)) = V1 at s1 i1 h1 ⊢
    have s2 := World.size_alloc V1 (.cells (intsC [0, 0, 0, 0]).toArray 3)
    have i2 := ints_new V1 [0, 0, 0, 0] (by simp)
    have h2 := h1.below (below1 V1 (.cells (intsC [0, 0, 0, 0]).toArray 3))
    replace i1 := i1.below (below1 V1 (.cells (intsC [0, 0, 0, 0]).toArray 3))
    generalize (V1.alloc (.cells (intsC [0, 0, 0, 0]).toArray 3)) = V2 at s2 i1 i2 h2 ⊢
    have s3 := World.size_alloc V2 (.cells (intsC [0, 0, 3]).toArray 3)
    have i3 := ints_new V2 [0, 0, 3] (by simp)
    have h3 := h2.below (below1 V2 (.cells (intsC [0, 0, 3]).toArray 3))
    replace i1 := i1.below (below1 V2 (.cells (intsC [0, 0, 3]).toArray 3))
    replace i2 := i2.below (below1 V2 (.cells (intsC [0, 0, 3]).toArray 3))
    generalize (V2.alloc (.cells (intsC [0, 0, 3]).toArray 3)) = V3 at s3 i1 i2 i3 h3 ⊢
    have s4 := World.size_alloc V3 (.cells (intsC [0, 0, -2]).toArray 3)
    have i4 := ints_new V3 [0, 0, -2] (by simp)
    have h4 := h3.below (below1 V3 (.cells (intsC [0, 0, -2]).toArray 3))
    replace i1 := i1.below (below1 V3 (.cells (intsC [0, 0, -2]).toArray 3))
    replace i2 := i2.below (below1 V3 (.cells (intsC [0, 0, -2]).toArray 3))
    replace i3 := i3.below (below1 V3 (.cells (intsC [0, 0, -2]).toArray 3))
    generalize (V3.alloc (.cells (intsC [0, 0, -2]).toArray 3)) = V4 at s4 i1 i2 i3 i4 h4 ⊢
    have e4 : V4.heap.size = V.heap.size + 4 := by omega
    have hb5 := below1 V4 (.cells #[.slice none 0 0, .slice (some ⟨V.heap.size, 0, none⟩) 2 2, .slice (some ⟨V.heap.size + 1, 0, none⟩) 4 4, .slice (some ⟨V.heap.size + 2, 0, none⟩) 3 3, .slice (some ⟨V.heap.size + 3, 0, none⟩) 3 3] 27)
    refine ⟨_, rfl, h4.below hb5, ?_⟩
    rw [← e4]
    rw [show V1.heap.size = V.heap.size + 1 from s1] at i2
    rw [show V2.heap.size = V.heap.size + 2 by omega] at i3
    rw [show V3.heap.size = V.heap.size + 3 by omega] at i4
    exact bad_of (Blk.new V4 _ _) (i1.below hb5) (i2.below hb5) (i3.below hb5) (i4.below hb5))
  have HN5 := HX.out
  obtain ⟨W5, hW5, hn5, hb5⟩ := HN5
  have N5 := Lib.hid hn5
  have Q5 := Lib.hid hb5
  clear hn5 hb5 HX H0
  rw [hSb] at N5
  go_wp2_with fail
  change Code.wp _ _ _ _ (((((V.alloc (.cells (intsC [0, 0]).toArray 3)).alloc (.cells (intsC [0, 0, 0, 0]).toArray 3)).alloc (.cells (intsC [0, 0, 3]).toArray 3)).alloc (.cells (intsC [0, 0, -2]).toArray 3)).alloc (.cells #[.slice none 0 0, .slice (some ⟨V.heap.size, 0, none⟩) 2 2, .slice (some ⟨V.heap.size + 1, 0, none⟩) 4 4, .slice (some ⟨V.heap.size + 2, 0, none⟩) 3 3, .slice (some ⟨V.heap.size + 3, 0, none⟩) 3 3] 27))
  rw [← hW5]
  obtain ⟨Bb, hBb⟩ : ∃ Bb, V.heap.size + 1 + 1 + 1 + 1 = Bb := ⟨_, rfl⟩
  rw [show V.heap.size + 4 = Bb from hBb] at Q5
  rw [hBb]
  clear hW5 hBb hV hSb hsz2
  go_loopw [3] (fun i wr => ∃ k : Nat, k ≤ 5 ∧ i = .int .i64 k ∧ NmAt w wr w.heap.size Sb B cb [98] false ∧ BadAt wr w.heap.size Bb) (fun i _ => 5 - (intOf i).toNat)
  case atStart => exact ⟨0, by omega, rfl, N5.out, Q5.out⟩
  case round =>
    clear N5 Q5
    obtain ⟨k, hk, rfl, hn, hq⟩ := hrel
    have HN := Lib.hid hn
    have HQ := Lib.hid hq
    clear hn hq
    by_cases hlt : k < 5
    · obtain ⟨A, c, l, hc, hI, hE⟩ := HQ.out k hlt
      have HI := Lib.hid hI
      have HE := Lib.hid hE
      have HC := Lib.hid hc
      have k0 : (0 : Int) ≤ (k : Int) := by omega
      have k1 : (k : Int) < 5 := by omega
      have KA : Hid (∀ W, Below wr.heap.size wr W → Calls Tryz.prog 28 #[.agg #[.slice (some ⟨w.heap.size + 3, 0, none⟩) 3 3, .slice B 3 cb, .slice (some ⟨w.heap.size + 4, 0, none⟩) 1 1], .slice A l.length c, .agg #[.int .i64 1, .int .i64 0, .int .i64 0]] W fun e w' => RowNo W ([], 2) e w') := Lib.hid (fun W (hb : Below wr.heap.size wr W) => by
        have := apply_any _ B _ A 3 cb 1 c (chN w.heap.size [98] false) chP chO l 1 0 0 W ((HN.out.below hb).s (by simp)) (HI.out.below hb)
        rw [bad_ap HE.out] at this
        exact this)
      have KP : Hid (∀ W, Below wr.heap.size wr W → Calls Tryz.prog 11 #[.agg #[.slice (some ⟨w.heap.size + 3, 0, none⟩) 3 3, .slice B 3 cb, .slice (some ⟨w.heap.size + 4, 0, none⟩) 1 1], .slice A l.length c] W fun e w' => e = .returned (.int .i64 2) ∧ Below W.heap.size W w') := Lib.hid (fun W (hb : Below wr.heap.size wr W) => by
        have := pcheck_any _ B _ A 3 cb 1 c (chN w.heap.size [98] false) chP chO l W ((HN.out.below hb).s (by simp)) (HI.out.below hb)
        rw [HE.out] at this
        exact this)
      have KU : Hid (∀ W, Below wr.heap.size wr W → Calls Tryz.prog 13 #[.agg #[.slice (some ⟨w.heap.size + 3, 0, none⟩) 3 3, .slice B 3 cb, .slice (some ⟨w.heap.size + 4, 0, none⟩) 1 1], .slice A l.length c, .int .i64 0] W fun e w' => e = .returned (.agg #[.int .i64 0, .int .i64 0, .int .i64 0, .int .i64 0, .int .i64 0]) ∧ Below W.heap.size W w') := Lib.hid (fun W (hb : Below wr.heap.size wr W) => by
        have := used_any _ B _ A 3 cb 1 c (chN w.heap.size [98] false) chP chO l 0 W ((HN.out.below hb).s (by simp)) (HI.out.below hb)
        rw [bad_used HE.out] at this
        exact this)
      have KL : Hid (∀ W, Below wr.heap.size wr W → Calls Tryz.prog 20 #[.agg #[.slice (some ⟨w.heap.size + 3, 0, none⟩) 3 3, .slice B 3 cb, .slice (some ⟨w.heap.size + 4, 0, none⟩) 1 1], .slice A l.length c, .int .i64 0] W fun e w' => e = .returned (.int .i64 0) ∧ Below W.heap.size W w') := Lib.hid (fun W (hb : Below wr.heap.size wr W) => by
        have := placed_any _ B _ A 3 cb 1 c (chN w.heap.size [98] false) chP chO l 0 W ((HN.out.below hb).s (by simp)) (HI.out.below hb)
        rw [bad_placed HE.out] at this
        exact this)
      have FK : Hid (∀ W, Below wr.heap.size wr W → (W.cell? ⟨Sb, 0, none⟩ = some (.slice (some ⟨w.heap.size + 3, 0, none⟩) 3 3) ∧ W.cell? ⟨Sb, 1, none⟩ = some (.slice B 3 cb) ∧ W.cell? ⟨Sb, 2, none⟩ = some (.slice (some ⟨w.heap.size + 4, 0, none⟩) 1 1)) ∧ W.cell? ⟨Bb, k, none⟩ = some (.slice A l.length c)) := Lib.hid (fun W hb => ⟨(HN.out.below hb).c0, (hb.cell (p := ⟨Bb, k, none⟩) (World.block_lt_of_cell? wr _ HC.out)).trans HC.out⟩)
      clear hc hI hE
      have D0 := Lib.hid (Below.refl wr.heap.size wr)
      have D1 : Hid (Below wr.heap.size wr wr.drew) := Lib.hid (Below.refl wr.heap.size wr).drew
      have S0 := FK.out wr D0.out
      have S1 := FK.out wr.drew D1.out
      have hvg := Qu.vec_guard
      have hvq := fun w => Qu.eq_row 0 0 0 0 0 w
      go_upto_region 6 with fail
      go_cut [5] (fun v wc => v = .int .i64 2 ∧ Below wr.heap.size wr wc)
      case first =>
        go_region_held3 (fun w' => (w'.cell? ⟨Sb, 0, none⟩ = some (.slice (some ⟨w.heap.size + 3, 0, none⟩) 3 3) ∧ w'.cell? ⟨Sb, 1, none⟩ = some (.slice B 3 cb) ∧ w'.cell? ⟨Sb, 2, none⟩ = some (.slice (some ⟨w.heap.size + 4, 0, none⟩) 1 1)) ∧ w'.cell? ⟨Bb, k, none⟩ = some (.slice A l.length c))
          (first | (with_reducible exact S1) | (with_reducible exact S0) | (with_reducible exact S3) | go_keep)
          (first
            | (go_at_call 28; (with_reducible refine (KA.out _ (by first | exact D1.out | exact D0.out)).mono ?_); rintro e w3 ⟨v, rfl, ho, hb3⟩; have D3 : Hid (Below wr.heap.size wr w3) := Lib.hid (D1.out.trans (hb3.mono (by first | exact D1.out.size | exact D0.out.size))); have S3 := FK.out w3 D3.out)
            | skip)
        all_goals
          go_wp2_with fail
          go_meet
          exact ⟨rfl, by first | exact D3.out | exact D3.out.drew⟩
      case rest =>
        obtain ⟨rfl, hb⟩ := hcut
        have E0 := Lib.hid hb
        have E1 : Hid (Below wr.heap.size wr wc.drew) := Lib.hid hb.drew
        have T0 := FK.out wc E0.out
        have T1 := FK.out wc.drew E1.out
        clear hb S0 S1 D0 D1 KA
        go_upto_region 7 with fail
        go_cut [68] (fun v wd => v = .bool false ∧ Below wr.heap.size wr wd)
        case first =>
          go_region_held3 (fun w' => (w'.cell? ⟨Sb, 0, none⟩ = some (.slice (some ⟨w.heap.size + 3, 0, none⟩) 3 3) ∧ w'.cell? ⟨Sb, 1, none⟩ = some (.slice B 3 cb) ∧ w'.cell? ⟨Sb, 2, none⟩ = some (.slice (some ⟨w.heap.size + 4, 0, none⟩) 1 1)) ∧ w'.cell? ⟨Bb, k, none⟩ = some (.slice A l.length c))
            (first | (with_reducible exact T1) | (with_reducible exact T0) | (with_reducible exact S5) | (with_reducible exact S4) | (with_reducible exact S3) | go_keep)
            (first
              | (go_at_call 11; (with_reducible refine (KP.out _ (by first | exact E1.out | exact E0.out)).mono ?_); rintro e w3 ⟨rfl, hb3⟩; have D3 : Hid (Below wr.heap.size wr w3) := Lib.hid (E1.out.trans (hb3.mono (by first | exact E1.out.size | exact E0.out.size))); have S3 := FK.out w3 D3.out)
              | (go_at_call 13; (with_reducible refine (KU.out _ D3.out).mono ?_); rintro e w4 ⟨rfl, hb4⟩; have D4 : Hid (Below wr.heap.size wr w4) := Lib.hid (D3.out.trans (hb4.mono D3.out.size)); have S4 := FK.out w4 D4.out)
              | (go_at_call 20; (with_reducible refine (KL.out _ D4.out).mono ?_); rintro e w5 ⟨rfl, hb5⟩; have D5 : Hid (Below wr.heap.size wr w5) := Lib.hid (D4.out.trans (hb5.mono D4.out.size)); have S5 := FK.out w5 D5.out)
              | skip)
          all_goals
            go_wp2_with fail
            go_meet
            exact ⟨rfl, by first | exact D5.out | exact D5.out.drew⟩
        case rest =>
          obtain ⟨rfl, hb⟩ := hcut
          have N2 := Lib.hid (HN.out.below hb)
          have Q2 : Hid (BadAt _ w.heap.size Bb) := Lib.hid (fun j hj => by
            obtain ⟨A, c, l, h1, h2, h3⟩ := HQ.out j hj
            exact ⟨A, c, l, (hb.cell (p := ⟨Bb, j, none⟩) (World.block_lt_of_cell? wr _ h1)).trans h1, h2.below hb, h3⟩)
          clear hb T0 T1 E0 E1 KP KU KL FK HN HQ
          go_wp2_with fail
          go_roundw
          case rel => exact ⟨k + 1, by omega, by go_num, N2.out, Q2.out⟩
          case measure => simp [intOf]; omega
    · obtain rfl : k = 5 := by omega
      clear HQ hlt hk
      have HP0 : Hid (IntsAt (wr.alloc (.cells (intsC [0, 2, -1]).toArray 3)) (some ⟨wr.heap.size, 0, none⟩) 3 [0, 2, -1]) := Lib.hid (ints_new wr [0, 2, -1] (by simp))
      have HN0 := Lib.hid (HN.out.below (below1 wr (.cells (intsC [0, 2, -1]).toArray 3)))
      go_wp2_with fail
      change Code.wp _ _ _ _ (((wr.alloc (.cells (intsC [0, 2, -1]).toArray 3)).alloc (.cells stepsC.toArray 50)).alloc (.cells (intsC wantL).toArray 30))
      have hs1 := World.size_alloc wr (.cells (intsC [0, 2, -1]).toArray 3)
      have hs2 := World.size_alloc (wr.alloc (.cells (intsC [0, 2, -1]).toArray 3)) (.cells stepsC.toArray 50)
      have HB2 := Qu.below2 (wr.alloc (.cells (intsC [0, 2, -1]).toArray 3)) (.cells stepsC.toArray 50) (.cells (intsC wantL).toArray 30)
      have HN1 := Lib.hid (HN0.out.below HB2)
      have HP1 := Lib.hid (HP0.out.below HB2)
      have HG1 : Hid (Blk (((wr.alloc (.cells (intsC [0, 2, -1]).toArray 3)).alloc (.cells stepsC.toArray 50)).alloc (.cells (intsC wantL).toArray 30)) (wr.heap.size + 1) stepsC.toArray 50) := Lib.hid (by
        have := Blk.alloc (Blk.new (wr.alloc (.cells (intsC [0, 2, -1]).toArray 3)) stepsC.toArray 50) (.cells (intsC wantL).toArray 30)
        rwa [hs1] at this)
      have HW1 : Hid (Blk (((wr.alloc (.cells (intsC [0, 2, -1]).toArray 3)).alloc (.cells stepsC.toArray 50)).alloc (.cells (intsC wantL).toArray 30)) (wr.heap.size + 1 + 1) (intsC wantL).toArray 30) := Lib.hid (by
        have := Blk.new ((wr.alloc (.cells (intsC [0, 2, -1]).toArray 3)).alloc (.cells stepsC.toArray 50)) (intsC wantL).toArray 30
        rwa [hs2, hs1] at this)
      clear HB2 hs1 hs2 HN0 HP0 HN
      generalize (((wr.alloc (.cells (intsC [0, 2, -1]).toArray 3)).alloc (.cells stepsC.toArray 50)).alloc (.cells (intsC wantL).toArray 30)) = X0 at HN1 HP1 HG1 HW1 ⊢
      obtain ⟨Pb, hPb⟩ : ∃ Pb, wr.heap.size = Pb := ⟨_, rfl⟩
      rw [hPb] at HP1 HG1 HW1 ⊢
      obtain ⟨Gs, hGs⟩ : ∃ Gs, Pb + 1 = Gs := ⟨_, rfl⟩
      obtain ⟨Gw, hGw⟩ : ∃ Gw, Pb + 1 + 1 = Gw := ⟨_, rfl⟩
      rw [hGw] at HW1 ⊢
      rw [hGs] at HG1 ⊢
      clear hPb hGs hGw
      go_loopw [9] (fun i wr => ∃ k : Nat, k ≤ 9 ∧ i = .int .i64 k ∧ NmAt w wr w.heap.size Sb B cb [98] false ∧ IntsAt wr (some ⟨Pb, 0, none⟩) 3 [0, 2, -1] ∧ Blk wr Gs stepsC.toArray 50 ∧ Blk wr Gw (intsC wantL).toArray 30) (fun i _ => 9 - (intOf i).toNat)
      case atStart => exact ⟨0, by omega, rfl, HN1.out, HP1.out, HG1.out, HW1.out⟩
      case round =>
        clear HN1 HP1 HG1 HW1
        obtain ⟨k, hk, rfl, hn, hp, hg, hw⟩ := hrel
        have HN := Lib.hid hn
        have HP := Lib.hid hp
        have HG := Lib.hid hg
        have HW := Lib.hid hw
        clear hn hp hg hw
        by_cases hlt : k < 9
        · obtain ⟨kd, pd, nd, e, r, h1, h2, h3, h4, h5⟩ := ch_steps w.heap.size k hlt
          have KA : Hid (∀ W, Below wr.heap.size wr W → Calls Tryz.prog 28 #[.agg #[.slice (some ⟨w.heap.size + 3, 0, none⟩) 3 3, .slice B 3 cb, .slice (some ⟨w.heap.size + 4, 0, none⟩) 1 1], .slice (some ⟨Pb, 0, none⟩) 3 3, .agg #[.int .i64 kd, .int .i64 pd, .int .i64 nd]] W fun e' w' => RowNo W (r, e) e' w') := Lib.hid (fun W hb => by
            have := apply_any _ B _ _ 3 cb 1 3 (chN w.heap.size [98] false) chP chO [0, 2, -1] kd pd nd W ((HN.out.below hb).s (by simp)) (HP.out.below hb)
            rw [h5] at this
            exact this)
          have cellA : ∀ (cs : List Value) (b : Nat) (t : TypeId) (j : Nat) (v : Value), Blk wr b cs.toArray t → cs[j]? = some v → wr.cell? ⟨b, j, none⟩ = some v := fun cs b t j v hb hj => by rw [Blk.cell hb j, List.getElem?_toArray, hj]
          have g0 := cellA _ _ _ _ _ HG.out h1
          have g1 := cellA _ _ _ _ _ HG.out h2
          have g2 := cellA _ _ _ _ _ HG.out h3
          have HWc := Lib.hid (cellA _ _ _ _ _ HW.out h4)
          have k0 : (0 : Int) ≤ (k : Int) := by omega
          have k1 : (k : Int) < 9 := by omega
          have hee : (e != e) = false := by simp
          have D1 : Hid (Below wr.heap.size wr wr.drew) := Lib.hid (Below.refl wr.heap.size wr).drew
          have D0 := Lib.hid (Below.refl wr.heap.size wr)
          have S0 : (wr.cell? ⟨Sb, 0, none⟩ = some (.slice (some ⟨w.heap.size + 3, 0, none⟩) 3 3) ∧ wr.cell? ⟨Sb, 1, none⟩ = some (.slice B 3 cb) ∧ wr.cell? ⟨Sb, 2, none⟩ = some (.slice (some ⟨w.heap.size + 4, 0, none⟩) 1 1)) ∧ wr.cell? ⟨Gs, k * 3, none⟩ = some (.int .i64 kd) ∧ wr.cell? ⟨Gs, k * 3 + 1, none⟩ = some (.int .i64 pd) ∧ wr.cell? ⟨Gs, k * 3 + 2, none⟩ = some (.int .i64 nd) := ⟨HN.out.c0, g0, g1, g2⟩
          have S1 : (wr.drew.cell? ⟨Sb, 0, none⟩ = some (.slice (some ⟨w.heap.size + 3, 0, none⟩) 3 3) ∧ wr.drew.cell? ⟨Sb, 1, none⟩ = some (.slice B 3 cb) ∧ wr.drew.cell? ⟨Sb, 2, none⟩ = some (.slice (some ⟨w.heap.size + 4, 0, none⟩) 1 1)) ∧ wr.drew.cell? ⟨Gs, k * 3, none⟩ = some (.int .i64 kd) ∧ wr.drew.cell? ⟨Gs, k * 3 + 1, none⟩ = some (.int .i64 pd) ∧ wr.drew.cell? ⟨Gs, k * 3 + 2, none⟩ = some (.int .i64 nd) := S0
          clear h1 h2 h3 h4 h5 cellA g0 g1 g2
          go_upto_region 15 with fail
          go_cut [11] (fun v wc => v = .int .i64 e ∧ Below wr.heap.size wr wc)
          case first =>
            go_region_held3 (fun w' => (w'.cell? ⟨Sb, 0, none⟩ = some (.slice (some ⟨w.heap.size + 3, 0, none⟩) 3 3) ∧ w'.cell? ⟨Sb, 1, none⟩ = some (.slice B 3 cb) ∧ w'.cell? ⟨Sb, 2, none⟩ = some (.slice (some ⟨w.heap.size + 4, 0, none⟩) 1 1)) ∧ w'.cell? ⟨Gs, k * 3, none⟩ = some (.int .i64 kd) ∧ w'.cell? ⟨Gs, k * 3 + 1, none⟩ = some (.int .i64 pd) ∧ w'.cell? ⟨Gs, k * 3 + 2, none⟩ = some (.int .i64 nd))
              (first | (with_reducible exact S1) | (with_reducible exact S0) | (with_reducible exact S3) | go_keep)
              (first
                | (go_at_call 28; (with_reducible refine (KA.out _ (by first | exact D1.out | exact D0.out)).mono ?_); rintro e3 w3 ⟨v, rfl, ho, hb3⟩; have D3 : Hid (Below wr.heap.size wr w3) := Lib.hid (D1.out.trans (hb3.mono (by first | exact D1.out.size | exact D0.out.size))); have S3 : (w3.cell? ⟨Sb, 0, none⟩ = some (.slice (some ⟨w.heap.size + 3, 0, none⟩) 3 3) ∧ w3.cell? ⟨Sb, 1, none⟩ = some (.slice B 3 cb) ∧ w3.cell? ⟨Sb, 2, none⟩ = some (.slice (some ⟨w.heap.size + 4, 0, none⟩) 1 1)) ∧ w3.cell? ⟨Gs, k * 3, none⟩ = some (.int .i64 kd) ∧ w3.cell? ⟨Gs, k * 3 + 1, none⟩ = some (.int .i64 pd) ∧ w3.cell? ⟨Gs, k * 3 + 2, none⟩ = some (.int .i64 nd) := ⟨(HN.out.below D3.out).c0, (D3.out.cell (p := ⟨Gs, k * 3, none⟩) HG.out.lt).trans S0.2.1, (D3.out.cell (p := ⟨Gs, k * 3 + 1, none⟩) HG.out.lt).trans S0.2.2.1, (D3.out.cell (p := ⟨Gs, k * 3 + 2, none⟩) HG.out.lt).trans S0.2.2.2⟩)
                | skip)
            all_goals
              go_wp2_with fail
              go_meet
              exact ⟨rfl, by first | exact D3.out | exact D3.out.drew⟩
          case rest =>
            obtain ⟨rfl, hb⟩ := hcut
            have N2 := Lib.hid (HN.out.below hb)
            have P2 := Lib.hid (HP.out.below hb)
            have G2 := Lib.hid (HG.out.below hb HG.out.lt)
            have W2 := Lib.hid (HW.out.below hb HW.out.lt)
            have cw := (hb.cell (p := ⟨Gw, k, none⟩) HW.out.lt).trans HWc.out
            clear hb S0 S1 D0 D1 KA HN HP HG HW HWc
            go_wp2_with fail
            go_roundw
            case rel => exact ⟨k + 1, by omega, by go_num, N2.out, P2.out, G2.out, W2.out⟩
            case measure => simp [intOf]; omega
        · obtain rfl : k = 9 := by omega
          clear HG HW hlt hk
          have hPN := ints_nb HP.out HN.out.c.n (b := [97]) rfl
          have s0 : wr.cell? ⟨Sb, 0, none⟩ = some (.slice (some ⟨w.heap.size + 3, 0, none⟩) 3 3) := HN.out.c0.1
          have n0 : wr.cell? ⟨w.heap.size + 3, 19, none⟩ = some (.bool false) := Blk.cell HN.out.c.n 19
          have n1 : wr.frozen? ⟨w.heap.size + 3, 19, none⟩ = false := Blk.free HN.out.c.n 19
          have M0 := Lib.hid HN.out.lose
          have Q0 := Lib.hid (ints_oth HP.out hPN 19 (.bool true))
          obtain ⟨U0, hU0⟩ : ∃ U0, wr.setCell ⟨w.heap.size + 3, 19, none⟩ (.bool true) = U0 := ⟨_, rfl⟩
          rw [hU0] at M0 Q0
          obtain ⟨b0, b1, b2⟩ := M0.out.c0
          clear hPN
          have KA := Lib.hid (apply_any _ B _ _ 3 cb 1 3 (chN w.heap.size [98] true) chP chO [0, 2, -1] 2 2 1 _ (M0.out.s (by simp)) Q0.out)
          rw [ch_apL] at KA
          clear HN HP
          go_wp2_with fail
          refine (KA.out).mono ?_
          rintro e U1 ⟨v, rfl, ho, hb⟩
          have M1 := Lib.hid (M0.out.below hb)
          have Q1 := Lib.hid (Q0.out.below hb)
          obtain ⟨Az, capz, rfl, _⟩ := La.own_slice ho
          clear ho hU0 s0 n0 n1
          clear hb KA M0 Q0  b0 b1 b2
          obtain ⟨b0, b1, b2⟩ := M1.out.c0
          have KD := Lib.hid (domain_any _ B _ 3 cb 1 (chN w.heap.size [98] true) chP chO 1 bZone _ (M1.out.s (by simp)) (fun hc => short_of hc))
          rw [ch_domL] at KD
          go_wp2_with fail
          refine (KD.out).mono ?_
          rintro e U2 ⟨rfl, hb⟩
          have M2 := Lib.hid (M1.out.below hb)
          have Q2 := Lib.hid (Q1.out.below hb)
          clear hb KD M1 Q1  b0 b1 b2
          obtain ⟨b0, b1, b2⟩ := M2.out.c0
          have KS := Lib.hid (domains_any _ B _ 3 cb 1 (chN w.heap.size [98] true) chP chO bZone _ (M2.out.s (by simp)))
          rw [ch_domsL] at KS
          go_wp2_with fail
          refine (KS.out).mono ?_
          rintro e U3 ⟨v, rfl, ho, hb⟩
          have M3 := Lib.hid (M2.out.below hb)
          have Q3 := Lib.hid (Q2.out.below hb)
          obtain ⟨At, capt, rfl, _⟩ := La.own_slice ho
          have It_3 := Lib.hid (TextsAt.own (l := [[120]]) ho)
          clear ho
          clear hb KS M2 Q2  b0 b1 b2
          obtain ⟨b0, b1, b2⟩ := M3.out.c0
          have M4 := Lib.hid (M3.out.below (below1 U3 (.cells (([[120]] : List (List UInt8)).map strV).toArray 9)))
          have Q4 := Lib.hid (Q3.out.below (below1 U3 (.cells (([[120]] : List (List UInt8)).map strV).toArray 9)))
          have It_4 := Lib.hid (It_3.out.below (below1 U3 (.cells (([[120]] : List (List UInt8)).map strV).toArray 9)))
          have Ix_4 := Lib.hid (texts_new U3 [[120]] (by simp))
          clear M3 Q3 It_3
          have KT := Lib.hid (eqTexts_any _ _ _ 1 [[120]] [[120]] _ (by simp) It_4.out Ix_4.out)
          rw [show decide (([[120]] : List (List UInt8)) = [[120]]) = true from by decide] at KT
          obtain ⟨b0, b1, b2⟩ := M4.out.c0
          go_wp2_with fail
          refine (KT.out).mono ?_
          rintro e U5 ⟨rfl, hb⟩
          have M5 := Lib.hid (M4.out.below hb)
          have Q5 := Lib.hid (Q4.out.below hb)
          have It_5 := Lib.hid (It_4.out.below hb)
          have Ix_5 := Lib.hid (Ix_4.out.below hb)
          clear hb KT M4 Q4 It_4 Ix_4 b0 b1 b2
          obtain ⟨b0, b1, b2⟩ := M5.out.c0
          clear It_5
          clear Ix_5
          have M6 := Lib.hid (M5.out.below (below1 U5 (.cells (intsC [1, -1, -1]).toArray 3)))
          have Q6 := Lib.hid (Q5.out.below (below1 U5 (.cells (intsC [1, -1, -1]).toArray 3)))
          have Ie_6 := Lib.hid (ints_new U5 [1, -1, -1] (by simp))
          clear M5 Q5 
          have KP := Lib.hid (pcheck_any _ B _ _ 3 cb 1 3 (chN w.heap.size [98] true) chP chO [1, -1, -1] _ (M6.out.s (by simp)) Ie_6.out)
          rw [ch_plL] at KP
          obtain ⟨b0, b1, b2⟩ := M6.out.c0
          go_wp2_with fail
          refine (KP.out).mono ?_
          rintro e U7 ⟨rfl, hb⟩
          have M7 := Lib.hid (M6.out.below hb)
          have Q7 := Lib.hid (Q6.out.below hb)
          have Ie_7 := Lib.hid (Ie_6.out.below hb)
          clear hb KP M6 Q6 Ie_6 b0 b1 b2
          obtain ⟨b0, b1, b2⟩ := M7.out.c0
          clear Ie_7
          have KR := Lib.hid (spread_any _ B _ _ 3 cb 1 3 (chN w.heap.size [98] true) chP chO [0, 2, -1] 0 _ (M7.out.s (by simp)) Q7.out)
          rw [ch_spreadL] at KR
          go_wp2_with fail
          refine (KR.out).mono ?_
          rintro e U8 ⟨v, rfl, ho, hb⟩
          have M8 := Lib.hid (M7.out.below hb)
          have Q8 := Lib.hid (Q7.out.below hb)
          obtain ⟨As, caps, rfl, _⟩ := La.own_slice ho
          have Is_8 := Lib.hid (IntsAt.own ho)
          clear ho
          clear hb KR M7 Q7  b0 b1 b2
          obtain ⟨b0, b1, b2⟩ := M8.out.c0
          have M9 := Lib.hid (M8.out.below (below1 U8 (.cells (intsC [1]).toArray 3)))
          have Q9 := Lib.hid (Q8.out.below (below1 U8 (.cells (intsC [1]).toArray 3)))
          have Is_9 := Lib.hid (Is_8.out.below (below1 U8 (.cells (intsC [1]).toArray 3)))
          have Ie_9 := Lib.hid (ints_new U8 [1] (by simp))
          clear M8 Q8 Is_8
          have KE := Lib.hid (eqInts_any _ _ _ 1 [1] [1] _ (by simp) Is_9.out Ie_9.out)
          rw [show decide (([1] : List Int) = [1]) = true from by decide] at KE
          obtain ⟨b0, b1, b2⟩ := M9.out.c0
          go_wp2_with fail
          refine (KE.out).mono ?_
          rintro e U10 ⟨rfl, hb⟩
          have M10 := Lib.hid (M9.out.below hb)
          have Q10 := Lib.hid (Q9.out.below hb)
          have Is_10 := Lib.hid (Is_9.out.below hb)
          have Ie_10 := Lib.hid (Ie_9.out.below hb)
          clear hb KE M9 Q9 Is_9 Ie_9 b0 b1 b2
          obtain ⟨b0, b1, b2⟩ := M10.out.c0
          clear Ie_10
          clear Is_10
          have hPN2 := ints_nb Q10.out M10.out.c.n (b := [97]) rfl
          have n0 : U10.cell? ⟨w.heap.size + 3, 10, none⟩ = some (strV [98]) := Blk.cell M10.out.c.n 10
          have n1 : U10.frozen? ⟨w.heap.size + 3, 10, none⟩ = false := Blk.free M10.out.c.n 10
          have MA := Lib.hid M10.out.name
          have QA := Lib.hid (ints_oth Q10.out hPN2 10 (strV [65]))
          obtain ⟨UA, hUA⟩ : ∃ UA, U10.setCell ⟨w.heap.size + 3, 10, none⟩ (strV [65]) = UA := ⟨_, rfl⟩
          rw [hUA] at MA QA
          have KW := Lib.hid (works_any UA)
          clear hPN2
          clear M10 Q10
          obtain ⟨a0, a1, a2⟩ := MA.out.c0
          go_wp2_with fail
          refine (KW.out).mono ?_
          rintro e U11 ⟨rfl, hb⟩
          have M11 := Lib.hid (MA.out.below hb)
          have Q11 := Lib.hid (QA.out.below hb)
          clear a0 a1 a2 n0 n1 hUA
          clear hb KW MA QA  b0 b1 b2
          obtain ⟨b0, b1, b2⟩ := M11.out.c0
          have KP := Lib.hid (pcheck_any _ B _ _ 3 cb 1 3 (chN w.heap.size [65] true) chP chO [0, 2, -1] _ (M11.out.s (by simp)) Q11.out)
          rw [ch_plA] at KP
          go_wp2_with fail
          refine (KP.out).mono ?_
          rintro e U12 ⟨rfl, hb⟩
          have M12 := Lib.hid (M11.out.below hb)
          have Q12 := Lib.hid (Q11.out.below hb)
          clear hb KP M11 Q11  b0 b1 b2
          obtain ⟨b0, b1, b2⟩ := M12.out.c0
          have KS := Lib.hid (domains_any _ B _ 3 cb 1 (chN w.heap.size [65] true) chP chO bZone _ (M12.out.s (by simp)))
          rw [ch_domsA] at KS
          go_wp2_with fail
          refine (KS.out).mono ?_
          rintro e U13 ⟨v, rfl, ho, hb⟩
          have M13 := Lib.hid (M12.out.below hb)
          have Q13 := Lib.hid (Q12.out.below hb)
          obtain ⟨Ad, capd, rfl, _⟩ := La.own_slice ho
          clear ho
          clear hb KS M12 Q12  b0 b1 b2
          obtain ⟨b0, b1, b2⟩ := M13.out.c0
          have KM := Lib.hid (moves_any none _ 0 3 [] [0, 2, -1] _ (by simp) (IntsAt.nil _) Q13.out)
          rw [ch_movesN] at KM
          go_wp2_with fail
          refine (KM.out).mono ?_
          rintro e U14 ⟨v, rfl, ho, hb⟩
          have M14 := Lib.hid (M13.out.below hb)
          have Q14 := Lib.hid (Q13.out.below hb)
          obtain ⟨Am, capm, rfl, _⟩ := La.own_slice ho
          clear ho
          clear hb KM M13 Q13  b0 b1 b2
          obtain ⟨b0, b1, b2⟩ := M14.out.c0
          have hvg := Qu.vec_guard
          have hvq := fun w => Qu.eq_row 0 0 0 0 0 w
          have KC := Lib.hid (chapter_any U14)
          go_wp2_with fail
          refine (KC.out).mono ?_
          rintro e U15 ⟨B', cb', rfl, hch, hb⟩
          have M15 := Lib.hid (M14.out.below hb)
          have Q15 := Lib.hid (Q14.out.below hb)
          have HS_15 := Lib.hid (hch.snap (by simp))
          clear hch
          clear hb  M14 Q14  b0 b1 b2
          obtain ⟨b0, b1, b2⟩ := M15.out.c0
          clear KC
          have KU := Lib.hid (used_any _ _ _ _ 3 _ 1 3 (chN U14.heap.size [98] false) chP chO [0, 2, -1] 3 _ HS_15.out Q15.out)
          rw [ch_used3] at KU
          go_wp2_with fail
          refine (KU.out).mono ?_
          rintro e U16 ⟨rfl, hb⟩
          have M16 := Lib.hid (M15.out.below hb)
          have Q16 := Lib.hid (Q15.out.below hb)
          clear HS_15
          clear hb KU M15 Q15  b0 b1 b2
          obtain ⟨b0, b1, b2⟩ := M16.out.c0
          have KC := Lib.hid (chapter_any U16)
          go_wp2_with fail
          refine (KC.out).mono ?_
          rintro e U17 ⟨B', cb', rfl, hch, hb⟩
          have M17 := Lib.hid (M16.out.below hb)
          have Q17 := Lib.hid (Q16.out.below hb)
          have HS_17 := Lib.hid (hch.snap (by simp))
          clear hch
          clear hb  M16 Q16  b0 b1 b2
          obtain ⟨b0, b1, b2⟩ := M17.out.c0
          clear KC
          have KU := Lib.hid (used_any _ _ _ _ 3 _ 1 3 (chN U16.heap.size [98] false) chP chO [0, 2, -1] (-1) _ HS_17.out Q17.out)
          rw [ch_usedM] at KU
          go_wp2_with fail
          refine (KU.out).mono ?_
          rintro e U18 ⟨rfl, hb⟩
          have M18 := Lib.hid (M17.out.below hb)
          have Q18 := Lib.hid (Q17.out.below hb)
          clear HS_17
          clear hb KU M17 Q17  b0 b1 b2
          obtain ⟨b0, b1, b2⟩ := M18.out.c0
          have KC := Lib.hid (chapter_any U18)
          go_wp2_with fail
          refine (KC.out).mono ?_
          rintro e U19 ⟨B', cb', rfl, hch, hb⟩
          have M19 := Lib.hid (M18.out.below hb)
          have Q19 := Lib.hid (Q18.out.below hb)
          have HS_19 := Lib.hid (hch.snap (by simp))
          clear hch
          clear hb  M18 Q18  b0 b1 b2
          obtain ⟨b0, b1, b2⟩ := M19.out.c0
          clear KC
          have KR := Lib.hid (counts_any _ _ _ _ 3 _ 1 3 (chN U18.heap.size [98] false) chP chO [0, 2, -1] 1 _ HS_19.out Q19.out)
          rw [ch_counts1] at KR
          go_wp2_with fail
          refine (KR.out).mono ?_
          rintro e U20 ⟨v, rfl, ho, hb⟩
          have M20 := Lib.hid (M19.out.below hb)
          have Q20 := Lib.hid (Q19.out.below hb)
          obtain ⟨Ac, capc, rfl, _⟩ := La.own_slice ho
          clear ho
          clear hb KR M19 Q19  b0 b1 b2
          obtain ⟨b0, b1, b2⟩ := M20.out.c0
          go_wp2
          go_ret
          exact ⟨rfl, M20.out.w⟩
end Go.Proofs.YtfnigiiocapceaaGreat
