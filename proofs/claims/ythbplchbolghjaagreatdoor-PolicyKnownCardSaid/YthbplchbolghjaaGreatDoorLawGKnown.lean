/- Each field of a policy at its ends; each word where it can't stand: the walk of the closed law. Condition: the variables hold what was laid. -/
import Derived.Test.YthbplchbolghjaaGreatDoorMc
namespace Go.Proofs.YthbplchbolghjaaGreatDoor
open Go.RowKit

def endsL : List Int := [-9223372036854775808, -1, 0, 1, 8, 9, 31, 32, 48, 49, 999, 1000, 1001, 9223372036854775807]
def gsF (n : Int) : List Pol := [⟨n, 0, 1000, 1000, 0, [], 0, 0, false⟩, ⟨0, n, 1000, 1000, 0, [], 0, 0, false⟩, ⟨0, 0, n, 0, 0, [], 0, 0, false⟩, ⟨0, 0, 0, n, 0, [], 0, 0, false⟩, ⟨0, 0, 0, 0, n, [], 0, 0, false⟩, ⟨0, 0, 0, 0, 0, [], n, 0, false⟩, ⟨0, 0, 0, 0, 0, [], 0, n, false⟩, ⟨500, 0, n, 0, 0, [], 0, 0, false⟩]
def namesL : List (List (List UInt8)) := [[[97]], [[97], [98]], [[98], [97]], [[97], [97]], [[]], [[65]], [[97], [98], [99], [100], [101], [102], [103], [104]], [[97], [98], [99], [100], [101], [102], [103], [104], [105]], [[97, 98, 99, 100, 101, 102, 103, 104, 105, 106, 107, 108, 109, 110, 111, 112]]]
def wordsL : List (List UInt8) := [[], [108, 111, 119], [104, 105, 103, 104], [111, 110], [100, 114, 97, 105, 110], [109, 111, 118, 101, 115], [116, 114, 105, 101, 115], [114, 111, 108, 108, 98, 97, 99, 107], [108, 111, 119, 32, 49, 37, 32, 50, 37], [104, 105, 103, 104, 32, 49, 37, 32, 50, 37], [108, 111, 119, 32, 50, 37, 32, 49, 37], [108, 111, 119, 32, 49, 48, 49, 37, 32, 49, 37], [108, 111, 119, 32, 49, 46, 53, 37, 32, 49, 46, 53, 53, 37], [108, 111, 119, 32, 49, 32, 50], [111, 110, 32, 100, 111, 117, 98, 108, 101, 115], [111, 110, 32, 100, 111, 117, 98, 108, 101, 115, 32, 100, 111, 117, 98, 108, 101, 115], [111, 110, 32, 101, 109, 112, 116, 121, 32, 119, 105, 116, 104], [111, 110, 32, 100, 111, 117, 98, 108, 101, 115, 32, 119, 105, 116, 104, 32, 116, 97, 105, 110, 116, 115, 32, 115, 112, 114, 101, 97, 100, 32, 101, 109, 112, 116, 121], [111, 110, 32, 120], [100, 114, 97, 105, 110, 32, 97], [100, 114, 97, 105, 110, 32, 98, 32, 97], [100, 114, 97, 105, 110, 32, 97, 32, 97], [100, 114, 97, 105, 110, 32, 97, 98, 99, 100, 101, 102, 103, 104, 105, 106, 107, 108, 109, 110, 111, 112], [100, 114, 97, 105, 110, 32, 49], [109, 111, 118, 101, 115, 32, 49], [109, 111, 118, 101, 115, 32, 48, 49], [109, 111, 118, 101, 115, 32, 52, 57], [109, 111, 118, 101, 115, 32, 49, 37], [109, 111, 118, 101, 115, 32, 49, 50, 51, 52, 53, 54, 55, 56, 57, 48], [116, 114, 105, 101, 115, 32, 56], [116, 114, 105, 101, 115, 32, 49, 32, 50], [114, 111, 108, 108, 98, 97, 99, 107, 32, 120], [120], [123], [34, 97, 34], [35, 32, 120], [76, 111, 119]]
def cellsGs (L : List Pol) : List Value := L.flatMap fun g => [.int .i64 g.l0, .int .i64 g.l1, .int .i64 g.h0, .int .i64 g.h1, .int .i64 g.on, .slice none g.drain.length 0, .int .i64 g.mx, .int .i64 g.tr, .bool g.rb]
theorem cellsGs_at : ∀ (L : List Pol) (k : Nat) (g : Pol), L[k]? = some g → ∀ (i : Nat) (v : Value), [.int .i64 g.l0, .int .i64 g.l1, .int .i64 g.h0, .int .i64 g.h1, .int .i64 g.on, .slice none g.drain.length 0, .int .i64 g.mx, .int .i64 g.tr, .bool g.rb][i]? = some v → (cellsGs L)[k * 9 + i]? = some v
  | [], k, g, h, _, _, _ => by simp at h
  | a :: L, 0, g, h, i, v, hv => by
    simp at h
    subst h
    have hi : i < 9 := by have := (List.getElem?_eq_some_iff.1 hv).1; simpa using this
    unfold cellsGs
    rw [List.flatMap_cons, List.getElem?_append_left (by simp; omega), Nat.zero_mul, Nat.zero_add]
    exact hv
  | a :: L, k + 1, g, h, i, v, hv => by
    have ih := cellsGs_at L k g (by simpa using h) i v hv
    unfold cellsGs at ih ⊢
    rw [List.flatMap_cons, List.getElem?_append_right (by simp; omega)]
    rw [← ih]
    congr 1
    simp
    omega
/-- A block of policies without names. -/
def GsB (w : World) (b : Nat) (L : List Pol) : Prop := Blk w b (cellsGs L).toArray 25
theorem GsB.cell {w : World} {b : Nat} {L : List Pol} (h : GsB w b L) {k : Nat} {g : Pol} (hk : L[k]? = some g) (i : Nat) {v : Value} (hv : [.int .i64 g.l0, .int .i64 g.l1, .int .i64 g.h0, .int .i64 g.h1, .int .i64 g.on, .slice none g.drain.length 0, .int .i64 g.mx, .int .i64 g.tr, .bool g.rb][i]? = some v) : w.cell? ⟨b, k * 9 + i, none⟩ = some v := by
  rw [Blk.cell h (k * 9 + i), List.getElem?_toArray]
  exact cellsGs_at L k g hk i v hv
theorem gs_plain (n : Int) : ∀ g ∈ gsF n, g.drain = [] := by
  intro g hg
  simp only [gsF, List.mem_cons, List.not_mem_nil, or_false] at hg
  rcases hg with rfl | rfl | rfl | rfl | rfl | rfl | rfl | rfl <;> rfl
/-- A block of texts. -/
def WdB (w : World) (b : Nat) (L : List (List UInt8)) : Prop := Blk w b (strC L).toArray 9
theorem WdB.cell {w : World} {b : Nat} {L : List (List UInt8)} (h : WdB w b L) {k : Nat} {t : List UInt8} (hk : L[k]? = some t) : w.cell? ⟨b, k, none⟩ = some (strV t) := by
  rw [Blk.cell h k, List.getElem?_toArray, strC, List.getElem?_map, hk]
  rfl
/-- A block of lists of texts. -/
def NmB (w : World) (b : Nat) (S : List (List (List UInt8))) : Prop := b < w.heap.size ∧ ∀ k L, S[k]? = some L → ∃ q, w.cell? ⟨b, k, none⟩ = some (.slice (some ⟨q, 0, none⟩) L.length L.length) ∧ WdB w q L ∧ q < w.heap.size
theorem NmB.below {w w' : World} {b : Nat} {S : List (List (List UInt8))} (h : NmB w b S) (hb : Below w.heap.size w w') : NmB w' b S := by
  refine ⟨Nat.lt_of_lt_of_le h.1 hb.size, fun k L hk => ?_⟩
  obtain ⟨q, h1, h2, h3⟩ := h.2 k L hk
  exact ⟨q, (hb.cell (World.block_lt_of_cell? w _ h1)).trans h1, Blk.below h2 hb h3, Nat.lt_of_lt_of_le h3 hb.size⟩
abbrev namesW (w : World) : World := ((((((((((w.alloc (.cells (strC [[97]]).toArray 9)).alloc (.cells (strC [[97], [98]]).toArray 9)).alloc (.cells (strC [[98], [97]]).toArray 9)).alloc (.cells (strC [[97], [97]]).toArray 9)).alloc (.cells (strC [[]]).toArray 9)).alloc (.cells (strC [[65]]).toArray 9)).alloc (.cells (strC [[97], [98], [99], [100], [101], [102], [103], [104]]).toArray 9)).alloc (.cells (strC [[97], [98], [99], [100], [101], [102], [103], [104], [105]]).toArray 9)).alloc (.cells (strC [[97, 98, 99, 100, 101, 102, 103, 104, 105, 106, 107, 108, 109, 110, 111, 112]]).toArray 9)).alloc (.cells #[.slice (some ⟨w.heap.size, 0, none⟩) 1 1, .slice (some ⟨w.heap.size + 1, 0, none⟩) 2 2, .slice (some ⟨w.heap.size + 1 + 1, 0, none⟩) 2 2, .slice (some ⟨w.heap.size + 1 + 1 + 1, 0, none⟩) 2 2, .slice (some ⟨w.heap.size + 1 + 1 + 1 + 1, 0, none⟩) 1 1, .slice (some ⟨w.heap.size + 1 + 1 + 1 + 1 + 1, 0, none⟩) 1 1, .slice (some ⟨w.heap.size + 1 + 1 + 1 + 1 + 1 + 1, 0, none⟩) 8 8, .slice (some ⟨w.heap.size + 1 + 1 + 1 + 1 + 1 + 1 + 1, 0, none⟩) 9 9, .slice (some ⟨w.heap.size + 1 + 1 + 1 + 1 + 1 + 1 + 1 + 1, 0, none⟩) 1 1] 23))
theorem new_at {w : World} {b : Nat} (hb : w.heap.size = b) (c : Array Value) (t : TypeId) : Blk (w.alloc (.cells c t)) b c t := hb ▸ Blk.new w c t
theorem b_more {w W : World} (h : Below w.heap.size w W) (o : Obj) : Below w.heap.size w (W.alloc o) := h.alloc h.size o
theorem names_laid (w : World) : NmB (namesW w) (w.heap.size + 1 + 1 + 1 + 1 + 1 + 1 + 1 + 1 + 1) namesL ∧ Below w.heap.size w (namesW w) := by
  have b0 : Blk (namesW w) (w.heap.size) (strC [[97]]).toArray 9 := (Blk.alloc (Blk.alloc (Blk.alloc (Blk.alloc (Blk.alloc (Blk.alloc (Blk.alloc (Blk.alloc (Blk.alloc (new_at (by simp) _ _) _) _) _) _) _) _) _) _) _)
  have b1 : Blk (namesW w) (w.heap.size + 1) (strC [[97], [98]]).toArray 9 := (Blk.alloc (Blk.alloc (Blk.alloc (Blk.alloc (Blk.alloc (Blk.alloc (Blk.alloc (Blk.alloc (new_at (by simp) _ _) _) _) _) _) _) _) _) _)
  have b2 : Blk (namesW w) (w.heap.size + 1 + 1) (strC [[98], [97]]).toArray 9 := (Blk.alloc (Blk.alloc (Blk.alloc (Blk.alloc (Blk.alloc (Blk.alloc (Blk.alloc (new_at (by simp) _ _) _) _) _) _) _) _) _)
  have b3 : Blk (namesW w) (w.heap.size + 1 + 1 + 1) (strC [[97], [97]]).toArray 9 := (Blk.alloc (Blk.alloc (Blk.alloc (Blk.alloc (Blk.alloc (Blk.alloc (new_at (by simp) _ _) _) _) _) _) _) _)
  have b4 : Blk (namesW w) (w.heap.size + 1 + 1 + 1 + 1) (strC [[]]).toArray 9 := (Blk.alloc (Blk.alloc (Blk.alloc (Blk.alloc (Blk.alloc (new_at (by simp) _ _) _) _) _) _) _)
  have b5 : Blk (namesW w) (w.heap.size + 1 + 1 + 1 + 1 + 1) (strC [[65]]).toArray 9 := (Blk.alloc (Blk.alloc (Blk.alloc (Blk.alloc (new_at (by simp) _ _) _) _) _) _)
  have b6 : Blk (namesW w) (w.heap.size + 1 + 1 + 1 + 1 + 1 + 1) (strC [[97], [98], [99], [100], [101], [102], [103], [104]]).toArray 9 := (Blk.alloc (Blk.alloc (Blk.alloc (new_at (by simp) _ _) _) _) _)
  have b7 : Blk (namesW w) (w.heap.size + 1 + 1 + 1 + 1 + 1 + 1 + 1) (strC [[97], [98], [99], [100], [101], [102], [103], [104], [105]]).toArray 9 := (Blk.alloc (Blk.alloc (new_at (by simp) _ _) _) _)
  have b8 : Blk (namesW w) (w.heap.size + 1 + 1 + 1 + 1 + 1 + 1 + 1 + 1) (strC [[97, 98, 99, 100, 101, 102, 103, 104, 105, 106, 107, 108, 109, 110, 111, 112]]).toArray 9 := (Blk.alloc (new_at (by simp) _ _) _)
  have b9 : Blk (namesW w) (w.heap.size + 1 + 1 + 1 + 1 + 1 + 1 + 1 + 1 + 1) #[.slice (some ⟨w.heap.size, 0, none⟩) 1 1, .slice (some ⟨w.heap.size + 1, 0, none⟩) 2 2, .slice (some ⟨w.heap.size + 1 + 1, 0, none⟩) 2 2, .slice (some ⟨w.heap.size + 1 + 1 + 1, 0, none⟩) 2 2, .slice (some ⟨w.heap.size + 1 + 1 + 1 + 1, 0, none⟩) 1 1, .slice (some ⟨w.heap.size + 1 + 1 + 1 + 1 + 1, 0, none⟩) 1 1, .slice (some ⟨w.heap.size + 1 + 1 + 1 + 1 + 1 + 1, 0, none⟩) 8 8, .slice (some ⟨w.heap.size + 1 + 1 + 1 + 1 + 1 + 1 + 1, 0, none⟩) 9 9, .slice (some ⟨w.heap.size + 1 + 1 + 1 + 1 + 1 + 1 + 1 + 1, 0, none⟩) 1 1] 23 := new_at (by simp) _ _
  refine ⟨⟨Blk.lt b9, fun k L hk => ?_⟩, (b_more (b_more (b_more (b_more (b_more (b_more (b_more (b_more (b_more (b_more (Below.refl _ _) _) _) _) _) _) _) _) _) _) _)⟩
  match k, hk with
  | 0, hk => cases hk; exact ⟨_, Blk.cell b9 0, b0, Blk.lt b0⟩
  | 1, hk => cases hk; exact ⟨_, Blk.cell b9 1, b1, Blk.lt b1⟩
  | 2, hk => cases hk; exact ⟨_, Blk.cell b9 2, b2, Blk.lt b2⟩
  | 3, hk => cases hk; exact ⟨_, Blk.cell b9 3, b3, Blk.lt b3⟩
  | 4, hk => cases hk; exact ⟨_, Blk.cell b9 4, b4, Blk.lt b4⟩
  | 5, hk => cases hk; exact ⟨_, Blk.cell b9 5, b5, Blk.lt b5⟩
  | 6, hk => cases hk; exact ⟨_, Blk.cell b9 6, b6, Blk.lt b6⟩
  | 7, hk => cases hk; exact ⟨_, Blk.cell b9 7, b7, Blk.lt b7⟩
  | 8, hk => cases hk; exact ⟨_, Blk.cell b9 8, b8, Blk.lt b8⟩
  | k + 9, hk => simp [namesL] at hk
theorem names_big : ∀ L ∈ namesL, ∀ x ∈ L, x.length ≤ 9223372036854775807 := by decide
theorem names_len : ∀ L ∈ namesL, L.length ≤ 9 := by decide
theorem words_big : ∀ x ∈ wordsL, x.length ≤ 50 := by decide

set_option maxRecDepth 100000 in
set_option maxHeartbeats 8000000 in
theorem known_law (w : World) (he : Env w) (hu : Sc.Utab w) :
    Calls Tryz.prog 8 #[] w fun e w' => e = .returned (.bool true) ∧ Below w.heap.size w w' := by
  have HE := Lib.hid he
  have HU := Lib.hid hu
  have KK := Lib.hid (fun w' (hb : Below w.heap.size w w') => gworks_any w' (HE.out.below hb))
  have KP := Lib.hid (fun T w' (hb : Below w.heap.size w w') hT => parses_law T w' (HE.out.below hb) (HU.out.below hb) hT)
  have KC := Lib.hid (fun g A c t w' (hb : Below w.heap.size w w') => checks_law g A c t w' (HE.out.below hb))
  clear he hu
  have E0 : Hid (Blk (w.alloc (.cells (endsL.map (Value.int .i64)).toArray 3)) w.heap.size (endsL.map (Value.int .i64)).toArray 3) := Lib.hid (Blk.new w _ _)
  have B0 : Hid (Below w.heap.size w (w.alloc (.cells (endsL.map (Value.int .i64)).toArray 3))) := Lib.hid (below1 w _)
  go_enter Tryz.func8, Tryz.ntmps8
  go_wp2_with fail
  change Code.wp _ _ _ _ (w.alloc (.cells (endsL.map (Value.int .i64)).toArray 3))
  generalize (w.alloc (.cells (endsL.map (Value.int .i64)).toArray 3)) = W0 at E0 B0 ⊢
  go_loopw [2] (fun i wr => ∃ k : Nat, k ≤ 14 ∧ i = .int .i64 (k : Int) ∧ Blk wr w.heap.size (endsL.map (Value.int .i64)).toArray 3 ∧ Below w.heap.size w wr) (fun i _ => 14 - (intOf i).toNat)
  case atStart => exact ⟨0, by omega, rfl, E0.out, B0.out⟩
  case round =>
    obtain ⟨k, hk, rfl, hbe, hbw⟩ := hrel
    have HBE := Lib.hid hbe
    have HB := Lib.hid hbw
    have hl0 := Blk.lt hbe
    clear hbe hbw E0 B0
    by_cases hlt : k < 14
    · obtain ⟨n, hn⟩ : ∃ n, endsL[k]? = some n := ⟨endsL[k]'hlt, List.getElem?_eq_getElem _⟩
      have c1 : wr.cell? ⟨w.heap.size, k, none⟩ = some (.int .i64 n) := by
        rw [Blk.cell HBE.out k, List.getElem?_toArray, List.getElem?_map, hn]
        rfl
      have k0 : (0 : Int) ≤ (k : Int) := by omega
      have k1 : (k : Int) < 14 := by omega
      clear hn
      have G2 : Hid (GsB (wr.alloc (.cells (cellsGs (gsF n)).toArray 25)) wr.heap.size (gsF n)) := Lib.hid (Blk.new wr _ _)
      have E2 : Hid (Blk (wr.alloc (.cells (cellsGs (gsF n)).toArray 25)) w.heap.size (endsL.map (Value.int .i64)).toArray 3) := Lib.hid (Blk.alloc HBE.out _)
      have B2 : Hid (Below w.heap.size w (wr.alloc (.cells (cellsGs (gsF n)).toArray 25))) := Lib.hid (HB.out.alloc HB.out.size _)
      have HP := Lib.hid (gs_plain n)
      go_wp2_with fail
      change Code.wp _ _ _ _ (wr.alloc (.cells (cellsGs (gsF n)).toArray 25))
      generalize (wr.alloc (.cells (cellsGs (gsF n)).toArray 25)) = w2 at G2 E2 B2 ⊢
      generalize wr.heap.size = b at G2 ⊢
      have hlen : (gsF n).length = 8 := rfl
      generalize gsF n = GL at G2 HP hlen
      clear c1 HBE HB
      go_loopw [5] (fun i wx => ∃ j : Nat, j ≤ 8 ∧ i = .int .i64 (j : Int) ∧ GsB wx b GL ∧ Blk wx w.heap.size (endsL.map (Value.int .i64)).toArray 3 ∧ Below w.heap.size w wx) (fun i _ => 8 - (intOf i).toNat)
      case atStart => exact ⟨0, by omega, rfl, G2.out, E2.out, B2.out⟩
      case round =>
        obtain ⟨j, hj, rfl, hg, hbe, hbw⟩ := hrel
        have HG := Lib.hid hg
        have HBE := Lib.hid hbe
        have HB := Lib.hid hbw
        have hlg := Blk.lt hg
        have hle := Blk.lt hbe
        clear hg hbe hbw G2 E2 B2
        by_cases hjl : j < 8
        · obtain ⟨g, hgj⟩ : ∃ g, GL[j]? = some g := ⟨GL[j]'(by omega), List.getElem?_eq_getElem _⟩
          have hd : g.drain = [] := HP.out g (List.mem_of_getElem? hgj)
          have c0 := HG.out.cell hgj 0 rfl
          have c1 := HG.out.cell hgj 1 rfl
          have c2 := HG.out.cell hgj 2 rfl
          have c3 := HG.out.cell hgj 3 rfl
          have c4 := HG.out.cell hgj 4 rfl
          have c5 := HG.out.cell hgj 5 rfl
          have c6 := HG.out.cell hgj 6 rfl
          have c7 := HG.out.cell hgj 7 rfl
          have c8 := HG.out.cell hgj 8 rfl
          rw [Nat.add_zero] at c0
          have j0 : (0 : Int) ≤ (j : Int) := by omega
          have j1 : (j : Int) < 8 := by omega
          have KC2 := Lib.hid (KC.out g none 0 [97] wr HB.out (by rw [hd]; exact names_nil _) (fun _ => ⟨hd, rfl⟩) (by decide))
          clear hd hgj
          go_wp2_with fail
          refine KC2.out.mono ?_
          rintro e w3 ⟨rfl, hb3⟩
          have HG3 := Lib.hid (show GsB w3 b GL from Blk.below HG.out hb3 hlg)
          have HBE3 := Lib.hid (Blk.below HBE.out hb3 hle)
          have HB3 := Lib.hid (HB.out.trans (hb3.mono HB.out.size))
          clear hb3 KC2 c0 c1 c2 c3 c4 c5 c6 c7 c8
          go_wp2_with fail
          go_roundw
          case rel => exact ⟨j + 1, by omega, by go_num, HG3.out, HBE3.out, HB3.out⟩
          case measure => simp [intOf]; omega
        · have j1 : ¬ (j : Int) < 8 := by omega
          go_wp2_with fail
          go_roundw
          case rel => exact ⟨k + 1, by omega, by go_num, HBE.out, HB.out⟩
          case measure => simp [intOf]; omega
    · have k1 : ¬ (k : Int) < 14 := by omega
      clear hlt HBE
      go_wp2_with fail
      obtain ⟨hnm, hbn⟩ := names_laid wr
      have N4 := Lib.hid hnm
      have B4 := Lib.hid (HB.out.trans (hbn.mono HB.out.size))
      clear hnm hbn HB
      change Code.wp _ _ _ _ (namesW wr)
      generalize namesW wr = w4 at N4 B4 ⊢
      generalize (wr.heap.size + 1 + 1 + 1 + 1 + 1 + 1 + 1 + 1 + 1) = b at N4 ⊢
      go_loopw [7] (fun i wx => ∃ j : Nat, j ≤ 9 ∧ i = .int .i64 (j : Int) ∧ NmB wx b namesL ∧ Below w.heap.size w wx) (fun i _ => 9 - (intOf i).toNat)
      case atStart => exact ⟨0, by omega, rfl, N4.out, B4.out⟩
      case round =>
        obtain ⟨j, hj, rfl, hn, hbw⟩ := hrel
        have HN := Lib.hid hn
        have HB := Lib.hid hbw
        clear hn hbw N4 B4
        by_cases hjl : j < 9
        · obtain ⟨L, hL⟩ : ∃ L, namesL[j]? = some L := ⟨namesL[j]'hjl, List.getElem?_eq_getElem _⟩
          obtain ⟨q, d0, d1, d2⟩ := HN.out.2 j L hL
          have hbig := names_big L (List.mem_of_getElem? hL)
          have j0 : (0 : Int) ≤ (j : Int) := by omega
          have j1 : (j : Int) < 9 := by omega
          have hlen : L.length ≤ 9 := names_len L (List.mem_of_getElem? hL)
          have KC2 := Lib.hid (KC.out ⟨0, 0, 0, 0, 0, L, 0, 0, false⟩ (some ⟨q, 0, none⟩) L.length [98] wr HB.out ⟨fun i y hi => ⟨q, 0, rfl, by
            rw [Nat.zero_add, Blk.cell d1 i, List.getElem?_toArray]; exact hi⟩, Nat.le_refl _, by show L.length ≤ _; omega, hbig⟩ (fun h => by cases h) (by decide))
          clear hL d1 d2 hbig hlen
          go_wp2_with fail
          refine KC2.out.mono ?_
          rintro e w5 ⟨rfl, hb5⟩
          have HN5 := Lib.hid (HN.out.below hb5)
          have HB5 := Lib.hid (HB.out.trans (hb5.mono HB.out.size))
          clear hb5 KC2 d0
          go_wp2_with fail
          go_roundw
          case rel => exact ⟨j + 1, by omega, by go_num, HN5.out, HB5.out⟩
          case measure => simp [intOf]; omega
        · have j1 : ¬ (j : Int) < 9 := by omega
          have W6 : Hid (WdB (wr.alloc (.cells (strC wordsL).toArray 9)) wr.heap.size wordsL) := Lib.hid (Blk.new wr _ _)
          have B6 : Hid (Below w.heap.size w (wr.alloc (.cells (strC wordsL).toArray 9))) := Lib.hid (HB.out.alloc HB.out.size _)
          clear HN HB KC
          go_wp2_with fail
          change Code.wp _ _ _ _ (wr.alloc (.cells (strC wordsL).toArray 9))
          generalize (wr.alloc (.cells (strC wordsL).toArray 9)) = w6 at W6 B6 ⊢
          generalize wr.heap.size = p at W6 ⊢
          go_loopw [9] (fun i wx => ∃ j : Nat, j ≤ 37 ∧ i = .int .i64 (j : Int) ∧ WdB wx p wordsL ∧ Below w.heap.size w wx) (fun i _ => 37 - (intOf i).toNat)
          case atStart => exact ⟨0, by omega, rfl, W6.out, B6.out⟩
          case round =>
            obtain ⟨i, hi, rfl, hn, hbw⟩ := hrel
            have HN := Lib.hid hn
            have HB := Lib.hid hbw
            clear hn hbw W6 B6
            by_cases hil : i < 37
            · obtain ⟨x, hx⟩ : ∃ x, wordsL[i]? = some x := ⟨wordsL[i]'hil, List.getElem?_eq_getElem _⟩
              have HX := Lib.hid hx
              have hxl := words_big x (List.mem_of_getElem? hx)
              have i0 : (0 : Int) ≤ (i : Int) := by omega
              have i1 : (i : Int) < 37 := by omega
              clear hx
              go_wp2_with fail
              go_loopw [10] (fun i wx => ∃ j : Nat, j ≤ 37 ∧ i = .int .i64 (j : Int) ∧ WdB wx p wordsL ∧ Below w.heap.size w wx) (fun i _ => 37 - (intOf i).toNat)
              case atStart => exact ⟨0, by omega, rfl, HN.out, HB.out⟩
              case round =>
                obtain ⟨k', hk', rfl, hn, hbw⟩ := hrel
                have HN := Lib.hid hn
                have HB := Lib.hid hbw
                have hlp := Blk.lt hn
                clear hn hbw
                by_cases hkl : k' < 37
                · obtain ⟨y, hy⟩ : ∃ y, wordsL[k']? = some y := ⟨wordsL[k']'hkl, List.getElem?_eq_getElem _⟩
                  have hyl := words_big y (List.mem_of_getElem? hy)
                  have d0 : wr.cell? ⟨p, i, none⟩ = some (strV x) := HN.out.cell HX.out
                  have d1 : wr.cell? ⟨p, k', none⟩ = some (strV y) := HN.out.cell hy
                  have j0 : (0 : Int) ≤ (k' : Int) := by omega
                  have j1 : (k' : Int) < 37 := by omega
                  have HY := Lib.hid hy
                  have hj1 := fun (W : World) => run_string_add_lists (P := Tryz.prog) W x [10] (by omega) (by simp)
                  have hj2 := fun (W : World) => run_string_add_lists (P := Tryz.prog) W (x ++ [10]) y (by simp; omega) (by omega)
                  have hj3 := fun (W : World) => run_string_add_lists (P := Tryz.prog) W [104, 105, 103, 104, 32, 57, 48, 37, 32, 57, 48, 37, 10] x (by simp) (by omega)
                  have hj4 := fun (W : World) => run_string_add_lists (P := Tryz.prog) W ([104, 105, 103, 104, 32, 57, 48, 37, 32, 57, 48, 37, 10] ++ x) [32] (by simp; omega) (by simp)
                  have hj5 := fun (W : World) => run_string_add_lists (P := Tryz.prog) W ([104, 105, 103, 104, 32, 57, 48, 37, 32, 57, 48, 37, 10] ++ x ++ [32]) y (by simp; omega) (by omega)
                  have K1 := Lib.hid (fun w' hb => KP.out (x ++ [10] ++ y) w' hb (by simp; omega))
                  have K2 := Lib.hid (fun w' hb => KP.out ([104, 105, 103, 104, 32, 57, 48, 37, 32, 57, 48, 37, 10] ++ x ++ [32] ++ y) w' hb (by simp; omega))
                  generalize x ++ [10] ++ y = t1 at hj2 K1
                  generalize x ++ [10] = t0 at hj1 hj2
                  generalize [104, 105, 103, 104, 32, 57, 48, 37, 32, 57, 48, 37, 10] ++ x ++ [32] ++ y = t5 at hj5 K2
                  generalize [104, 105, 103, 104, 32, 57, 48, 37, 32, 57, 48, 37, 10] ++ x ++ [32] = t4 at hj4 hj5
                  generalize [104, 105, 103, 104, 32, 57, 48, 37, 32, 57, 48, 37, 10] ++ x = t3 at hj3 hj4
                  clear hy hyl hxl
                  go_upto_region 25 with fail
                  go_cut [121] (fun v wc => v = .bool false ∧ Below wr.heap.size wr wc)
                  case first =>
                    have D0 : Hid (Below wr.heap.size wr wr.drew) := Lib.hid ((Below.refl _ _).drew)
                    have S0 : wr.cell? ⟨p, i, none⟩ = some (strV x) ∧ wr.cell? ⟨p, k', none⟩ = some (strV y) := ⟨d0, d1⟩
                    have S1 : wr.drew.cell? ⟨p, i, none⟩ = some (strV x) ∧ wr.drew.cell? ⟨p, k', none⟩ = some (strV y) := ⟨d0, d1⟩
                    clear d0 d1
                    go_region_held3 (fun w' => w'.cell? ⟨p, i, none⟩ = some (strV x) ∧ w'.cell? ⟨p, k', none⟩ = some (strV y))
                      (first | (with_reducible exact S1) | (with_reducible exact S0) | (with_reducible exact S3) | (with_reducible exact S4) | go_keep)
                      (first
                        | (go_at_call 4; (with_reducible refine (K1.out _ (HB.out.trans (D0.out.mono HB.out.size))).mono ?_); rintro e w3 ⟨rfl, hb3⟩; have D3 : Hid (Below wr.heap.size wr w3) := Lib.hid (D0.out.trans (hb3.mono D0.out.size)); have S3 : w3.cell? ⟨p, i, none⟩ = some (strV x) ∧ w3.cell? ⟨p, k', none⟩ = some (strV y) := ⟨(show WdB w3 p wordsL from Blk.below HN.out D3.out hlp).cell HX.out, (show WdB w3 p wordsL from Blk.below HN.out D3.out hlp).cell HY.out⟩; clear hb3)
                        | (go_at_call 4; (with_reducible refine (K2.out _ (HB.out.trans (D3.out.mono HB.out.size))).mono ?_); rintro e w4 ⟨rfl, hb4⟩; have D4 : Hid (Below wr.heap.size wr w4) := Lib.hid (D3.out.trans (hb4.mono D3.out.size)); have S4 : w4.cell? ⟨p, i, none⟩ = some (strV x) ∧ w4.cell? ⟨p, k', none⟩ = some (strV y) := ⟨(show WdB w4 p wordsL from Blk.below HN.out D4.out hlp).cell HX.out, (show WdB w4 p wordsL from Blk.below HN.out D4.out hlp).cell HY.out⟩; clear hb4)
                        | skip)
                    all_goals
                      go_wp2_with fail
                      go_meet
                      exact ⟨rfl, by first | exact D4.out | exact D4.out.drew⟩
                  case rest =>
                    obtain ⟨rfl, hb⟩ := hcut
                    have HN6 := Lib.hid (show WdB wc p wordsL from Blk.below HN.out hb hlp)
                    have HB6 := Lib.hid (HB.out.trans (hb.mono HB.out.size))
                    clear hb d0 d1 hj1 hj2 hj3 hj4 hj5 K1 K2
                    go_wp2_with fail
                    go_roundw
                    case rel => exact ⟨k' + 1, by omega, by go_num, HN6.out, HB6.out⟩
                    case measure => simp [intOf]; omega
                · have j1 : ¬ (k' : Int) < 37 := by omega
                  go_wp2_with fail
                  go_roundw
                  case rel => exact ⟨i + 1, by omega, by go_num, HN.out, HB.out⟩
                  case measure => simp [intOf]; omega
            · have i1 : ¬ (i : Int) < 37 := by omega
              have KK2 := Lib.hid (KK.out wr HB.out)
              go_wp2_with fail
              refine KK2.out.mono ?_
              rintro e w9 ⟨rfl, hb9⟩
              have B9 := Lib.hid (HB.out.trans (hb9.mono HB.out.size))
              clear hb9
              go_wp2
              go_ret
              exact ⟨rfl, B9.out⟩
end Go.Proofs.YthbplchbolghjaaGreatDoor
