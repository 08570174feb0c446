/- What the law makes of pairs: labels. No conditions but that the pairs lie in memory. -/
import Derived.Test.YteclbkjonaildaaLTold2
import Derived.Test.YteclbkjonaildaaLOpenP
import Derived.Test.YteclbkjonaildaaLMathS
import Derived.Test.YteclbkjonaildaaLListL
import Derived.Deep.Onto
import Derived.Deep.AppendLies
namespace Go.Proofs.Yteclbkjonaildaa
open Go.RowKit

def updF (h : Nat → List UInt8) (k : Nat) (v : List UInt8) : Nat → List UInt8 := fun j => if j = k then v else h j
abbrev hasV (h : Nat → List UInt8) : Array Value := #[strV (h 0), strV (h 1), strV (h 2), strV (h 3), strV (h 4), strV (h 5), strV (h 6), strV (h 7)]
theorem hasV_at (h : Nat → List UInt8) {k : Nat} (hk : k < 8) : (hasV h)[k]? = some (strV (h k)) := by
  match k, hk with
  | 0, _ => rfl
  | 1, _ => rfl
  | 2, _ => rfl
  | 3, _ => rfl
  | 4, _ => rfl
  | 5, _ => rfl
  | 6, _ => rfl
  | 7, _ => rfl
theorem hasV_set (h : Nat → List UInt8) {k : Nat} (hk : k < 8) (v : List UInt8) : (hasV h).setIfInBounds k (strV v) = hasV (updF h k v) := by
  match k, hk with
  | 0, _ => simp [hasV, updF]
  | 1, _ => simp [hasV, updF]
  | 2, _ => simp [hasV, updF]
  | 3, _ => simp [hasV, updF]
  | 4, _ => simp [hasV, updF]
  | 5, _ => simp [hasV, updF]
  | 6, _ => simp [hasV, updF]
  | 7, _ => simp [hasV, updF]

/-- The values by the names' places. -/
def hasL (l : List (Int × Int × Int)) : Nat → List UInt8 := l.foldl (fun h x => updF h (x.1 % 8).toNat (valueF x.2.1)) (fun _ => [])
theorem hasL_snoc (l : List (Int × Int × Int)) (x : Int × Int × Int) : hasL (l ++ [x]) = updF (hasL l) (x.1 % 8).toNat (valueF x.2.1) := by simp [hasL]

def ordL : List Int := [0, 5, 1, 2, 3, 6, 7, 4]
theorem ordC_at {k : Nat} {o : Int} (hk : k < 8) (h : ordL[k]? = some o) : (#[.int .i64 0, .int .i64 5, .int .i64 1, .int .i64 2, .int .i64 3, .int .i64 6, .int .i64 7, .int .i64 4] : Array Value)[k]? = some (.int .i64 o) := by
  match k, hk with
  | 0, _ | 1, _ | 2, _ | 3, _ | 4, _ | 5, _ | 6, _ | 7, _ =>
    simp [ordL] at h
    subst h
    rfl
/-- The labels, part by part. -/
def outF (h : Nat → List UInt8) : Nat → List (List UInt8 × List UInt8)
  | 0 => []
  | k + 1 => if h (ordL.getD k 0).toNat ≠ [] ∧ (outF h k).length < 6 then outF h k ++ [(smallF (ordL.getD k 0), h (ordL.getD k 0).toNat)] else outF h k
def labelsF (l : List (Int × Int × Int)) : List (List UInt8 × List UInt8) := outF (hasL l) 8
theorem outF_len (h : Nat → List UInt8) : ∀ k, (outF h k).length ≤ k ∧ (outF h k).length ≤ 6
  | 0 => by simp [outF]
  | k + 1 => by
    have := outF_len h k
    rw [outF]
    split
    · simp
      omega
    · omega

theorem cellsP_at : ∀ (l : List (Int × Int × Int)) (k : Nat) (x : Int × Int × Int), l[k]? = some x → (cellsP l)[k * 3]? = some (.int .i64 x.1) ∧ (cellsP l)[k * 3 + 1]? = some (.int .i64 x.2.1) ∧ (cellsP l)[k * 3 + 2]? = some (.int .i64 x.2.2)
  | [], k, x, h => by simp at h
  | y :: t, 0, x, h => by
    simp at h
    subst h
    exact ⟨rfl, rfl, rfl⟩
  | y :: t, k + 1, x, h => by
    have := cellsP_at t k x (by simpa using h)
    have e : cellsP (y :: t) = .int .i64 y.1 :: .int .i64 y.2.1 :: .int .i64 y.2.2 :: cellsP t := rfl
    rw [e, show (k + 1) * 3 = k * 3 + 1 + 1 + 1 by omega]
    simpa using this
theorem SlAt.pai {w : World} {A : Option Addr} {l : List (Int × Int × Int)} (h : SlAt w A (cellsP l)) {k : Nat} {x : Int × Int × Int} (hk : l[k]? = some x) :
    ∃ b o, A = some ⟨b, o, none⟩ ∧ b < w.heap.size ∧ w.cell? ⟨b, o + k * 3, none⟩ = some (.int .i64 x.1) ∧ w.cell? ⟨b, o + k * 3 + 1, none⟩ = some (.int .i64 x.2.1) ∧ w.cell? ⟨b, o + k * 3 + 2, none⟩ = some (.int .i64 x.2.2) := by
  obtain ⟨h0, h1, h2⟩ := cellsP_at l k x hk
  obtain ⟨b, o, hA, hc⟩ := h _ _ h0
  obtain ⟨b', o', hA', hc'⟩ := h _ _ h1
  rw [hA] at hA'
  cases hA'
  obtain ⟨b', o', hA', hc''⟩ := h _ _ h2
  rw [hA] at hA'
  cases hA'
  exact ⟨b, o, hA, World.block_lt_of_cell? w _ hc, hc, by rw [Nat.add_assoc]; exact hc', by rw [Nat.add_assoc]; exact hc''⟩

set_option maxRecDepth 100000 in
set_option maxHeartbeats 4000000 in
theorem labelsN_any (A : Option Addr) (c : Nat) (l : List (Int × Int × Int)) (w : World) (hc : l.length ≤ c) (hcm : c ≤ maxLen) (hs : SlAt w A (cellsP l)) :
    Calls Try.prog 23 #[.slice A l.length c] w fun e w' => ∃ v, e = .returned v ∧ w'.ownsRow w.heap.size 41 2 v (labelsF l).length (cellsL (labelsF l)) ∧ Below w.heap.size w w' := by
  have HS := Lib.hid hs
  obtain ⟨i0, hi0, hz0', hz1', hz2'⟩ := info_parts info_L
  have HC := Lib.hid (⟨hc, hcm⟩ : l.length ≤ c ∧ c ≤ maxLen)
  unfold maxLen at hcm
  obtain ⟨H, hH⟩ : ∃ H, hasL l = H := ⟨_, rfl⟩
  have e : labelsF l = outF H 8 := by unfold labelsF; rw [hH]
  rw [e]
  have HH := Lib.hid hH
  clear hs e hH
  go_enter Try.func23, Try.ntmps23
  go_wp2
  go_loopw [4] (fun i wr => ∃ k : Nat, k ≤ l.length ∧ i = .int .i64 k ∧ wr.heap[w.heap.size]? = some (.cells (hasV (hasL (l.take k))) 76 (0, 0)) ∧ Below w.heap.size w wr) (fun i _ => l.length - (intOf i).toNat)
  case atStart => exact ⟨0, by omega, rfl, Blk.new w (hasV (hasL [])) _, below1 _ _⟩
  case round =>
    obtain ⟨k, hk, rfl, hbl, hbw⟩ := hrel
    by_cases hlt : k < l.length
    · obtain ⟨x, hxk⟩ : ∃ x, l[k]? = some x := ⟨l[k], List.getElem?_eq_getElem hlt⟩
      obtain ⟨b0, o0, hA, hb0, hx⟩ := SlAt.pai HS.out hxk
      subst hA
      have hx0 : wr.cell? ⟨b0, o0 + k * 3, none⟩ = some (.int .i64 x.1) := (hbw.cell (p := ⟨b0, o0 + k * 3, none⟩) hb0).trans hx.1
      have hx1 : wr.cell? ⟨b0, o0 + k * 3 + 1, none⟩ = some (.int .i64 x.2.1) := (hbw.cell (p := ⟨b0, o0 + k * 3 + 1, none⟩) hb0).trans hx.2.1
      have b0' : (0 : Int) ≤ x.1 % 8 := Int.emod_nonneg _ (by decide)
      have b1' : x.1 % 8 < 8 := Int.emod_lt_of_pos _ (by decide)
      obtain ⟨q, hq⟩ : ∃ q : Nat, x.1 % 8 = q := ⟨(x.1 % 8).toNat, by omega⟩
      have hq8 : q < 8 := by omega
      have hqi : (q : Int) < 8 := by omega
      have hq0 : (0 : Int) ≤ (q : Int) := by omega
      have htk : hasL (l.take (k + 1)) = updF (hasL (l.take k)) q (valueF x.2.1) := by
        rw [List.take_add_one, hxk, Option.toList_some, hasL_snoc, hq]
        simp
      have Htk := Lib.hid htk
      have KB := Lib.hid (fun w => bring_any x.1 8 w (by decide) (by decide))
      rw [hq] at KB
      have KV := Lib.hid (fun w => valueN_any x.2.1 w)
      have Hbl := Lib.hid hbl
      have Hbw := Lib.hid hbw
      have k0 : (0 : Int) ≤ (k : Int) := by omega
      have k1 : (k : Int) < (l.length : Int) := by omega
      have hBl : Blk wr w.heap.size (hasV (hasL (l.take k))) 76 := hbl
      have pc : wr.cell? ⟨w.heap.size, q, none⟩ = some (strV (hasL (l.take k) q)) := (hBl.cell q).trans (hasV_at _ hq8)
      have pf : wr.frozen? ⟨w.heap.size, q, none⟩ = false := hBl.free q
      have hbr : b0 < wr.heap.size := by have := hbw.size; omega
      have hwr : w.heap.size < wr.heap.size := hBl.lt
      have hbne' : w.heap.size ≠ b0 := by omega
      clear hx hxk htk hq b0' b1' hbl hbw hBl
      go_wp2_with fail
      go_region_held3 (fun w' => w'.cell? ⟨b0, o0 + k * 3, none⟩ = some (.int .i64 x.1) ∧ w'.cell? ⟨b0, o0 + k * 3 + 1, none⟩ = some (.int .i64 x.2.1)) (first | exact ⟨hx0, hx1⟩ | exact ⟨by assumption, by assumption⟩ | go_keep | (refine ⟨?_, ?_⟩ <;> (rw [cell?_setCell_far _ _ _ _ (by simpa using hbne')]; assumption)))
        (first
          | ((with_reducible refine (KB.out _).mono ?_); rintro e w3 ⟨rfl, rfl⟩)
          | ((with_reducible refine (KV.out _).mono ?_); rintro e w3 ⟨rfl, hb3⟩; have px0 := (hb3.cell (p := ⟨b0, o0 + k * 3, none⟩) (by simpa using hbr)).trans (by first | exact hx0 | assumption | (go_split_ands; assumption)); have px1 := (hb3.cell (p := ⟨b0, o0 + k * 3 + 1, none⟩) (by simpa using hbr)).trans (by first | exact hx1 | assumption | (go_split_ands; assumption)); have qc := (hb3.cell (p := ⟨w.heap.size, q, none⟩) (by simpa using hwr)).trans pc; have qf := (hb3.frozen (p := ⟨w.heap.size, q, none⟩) (by simpa using hwr)).trans pf; have HB3 := Lib.hid hb3; clear hb3))
      go_wp2
      go_roundw
      case rel =>
        have h := (Blk.below (w := wr.drew) Hbl.out HB3.out hwr).set q (strV (valueF x.2.1))
        rw [hasV_set _ hq8] at h
        exact ⟨k + 1, by omega, by go_num, by rw [Htk.out]; exact h, (below_of Hbw.out HB3.out).setCell (Nat.le_refl _) _⟩
      case measure => simp [intOf]; omega
    · obtain rfl : k = l.length := by omega
      have Hbl := Lib.hid hbl
      have Hbw := Lib.hid hbw
      clear hbl hbw
      rw [List.take_length] at Hbl
      have hwr : w.heap.size < wr.heap.size := (show Blk wr w.heap.size _ _ from Hbl.out).lt
      rw [HH.out] at Hbl
      clear hlt hk
      go_wp2_with fail
      obtain ⟨w1, rfl⟩ : ∃ w1, w1 = wr := ⟨_, rfl⟩
      go_loopw [6, 7] (fun v i wr => ∃ k : Nat, k ≤ 8 ∧ i = .int .i64 k ∧ wr.ownsRow w.heap.size 41 2 v (outF H k).length (cellsL (outF H k)) ∧ wr.heap[w.heap.size]? = some (.cells (hasV H) 76 (0, 0)) ∧ wr.heap[w1.heap.size]? = some (.cells #[.int .i64 0, .int .i64 5, .int .i64 1, .int .i64 2, .int .i64 3, .int .i64 6, .int .i64 7, .int .i64 4] 3 (0, 0)) ∧ Below w.heap.size w wr) (fun _ i _ => 8 - (intOf i).toNat)
      case atStart => exact ⟨0, by omega, rfl, World.ownsRow_nil _ _ _ _, Blk.alloc Hbl.out _, Blk.new w1 _ _, Hbw.out.alloc Hbw.out.size _⟩
      case round =>
        obtain ⟨k, hk, rfl, hown, hbl, hbo, hbw⟩ := hrel
        obtain ⟨A2, c2, rfl, _⟩ := own_slice hown
        by_cases hlt : k < 8
        · obtain ⟨o, ho, ho8⟩ : ∃ o : Nat, ordL[k]? = some (o : Int) ∧ o < 8 := by
            match k, hlt with
            | 0, _ => exact ⟨0, rfl, by decide⟩
            | 1, _ => exact ⟨5, rfl, by decide⟩
            | 2, _ => exact ⟨1, rfl, by decide⟩
            | 3, _ => exact ⟨2, rfl, by decide⟩
            | 4, _ => exact ⟨3, rfl, by decide⟩
            | 5, _ => exact ⟨6, rfl, by decide⟩
            | 6, _ => exact ⟨7, rfl, by decide⟩
            | 7, _ => exact ⟨4, rfl, by decide⟩
          have hc0 : wr.cell? ⟨w1.heap.size, k, none⟩ = some (.int .i64 (o : Int)) := (Blk.cell (show Blk wr w1.heap.size _ _ from hbo) k).trans (ordC_at hlt ho)
          have hc1 : wr.cell? ⟨w.heap.size, o, none⟩ = some (strV (H o)) := (Blk.cell (show Blk wr w.heap.size _ _ from hbl) o).trans (hasV_at H ho8)
          have ho0 : (0 : Int) ≤ (o : Int) := by omega
          have ho1 : (o : Int) < 8 := by omega
          have k0 : (0 : Int) ≤ (k : Int) := by omega
          have k1 : (k : Int) < 8 := by omega
          obtain ⟨hl1, hl2⟩ := outF_len H k
          have hstep : outF H (k + 1) = if H o ≠ [] ∧ (outF H k).length < 6 then outF H k ++ [(smallF (o : Int), H o)] else outF H k := by
            rw [outF, List.getD_eq_getElem?_getD, ho]
            rfl
          have HSt := Lib.hid hstep
          have Hown := Lib.hid hown
          have Hbl := Lib.hid hbl
          have Hbo := Lib.hid hbo
          have Hbw := Lib.hid hbw
          have hz1 : w1.heap.size < wr.heap.size := (show Blk wr w1.heap.size _ _ from hbo).lt
          have hz0 : w.heap.size < wr.heap.size := (show Blk wr w.heap.size _ _ from hbl).lt
          have hne0 : some w1.heap.size ≠ (Value.slice A2 (outF H k).length c2).ownBlock := Ne.symm (own_not hown (show Blk wr w1.heap.size _ _ from hbo) (by decide))
          have hne1 : some w.heap.size ≠ (Value.slice A2 (outF H k).length c2).ownBlock := Ne.symm (own_not hown (show Blk wr w.heap.size _ _ from hbl) (by decide))
          clear ho hown hbl hbo hbw hstep
          by_cases he : H o = []
          · have e1 : (H o).isEmpty = true := by simp [he]
            have He := Lib.hid he
            clear he
            go_wp2
            go_roundw
            case rel =>
              have e2 := HSt.out
              rw [if_neg (fun h => h.1 He.out)] at e2
              exact ⟨k + 1, by omega, by go_num, by rw [e2]; exact Hown.out, Hbl.out, Hbo.out, Hbw.out⟩
            case measure => simp [intOf]; omega
          · have e1 : (H o).isEmpty = false := by simp [he]
            have He := Lib.hid he
            clear he
            by_cases h6 : (outF H k).length < 6
            · have hi6 : ((outF H k).length : Int) < 6 := by omega
              have hk63 : (outF H k).length + 1 ≤ maxLen := by unfold maxLen; omega
              have hk47 : ((outF H k).length + 1) * 32 ≤ 140737488355328 := by omega
              have KS := Lib.hid (fun w => small_any (o : Int) w)
              have hwb : w.heap.size ≤ wr.heap.size := by omega
              go_wp2_with fail
              go_region_held3 (fun w' => w'.cell? ⟨w1.heap.size, k, none⟩ = some (.int .i64 (o : Int)) ∧ w'.cell? ⟨w.heap.size, o, none⟩ = some (strV (H o)))
                (first
                  | exact ⟨hc0, hc1⟩
                  | exact ⟨by assumption, by assumption⟩
                  | go_keep
                  | (go_split_ands
                     refine ⟨?_, ?_⟩
                     · (rw [hgrow'.cell_far _ (by simp; omega) hne0]; assumption)
                     · (rw [hgrow'.cell_far _ (by simp; omega) hne1]; assumption)))
                (first
                  | ((with_reducible refine (KS.out _).mono ?_); rintro e w3 ⟨rfl, hb3⟩; have px0 := (hb3.cell (p := ⟨w1.heap.size, k, none⟩) (by simpa using hz1)).trans (by first | exact hc0 | assumption | (go_split_ands; assumption)); have px1 := (hb3.cell (p := ⟨w.heap.size, o, none⟩) (by simpa using hz0)).trans (by first | exact hc1 | assumption | (go_split_ands; assumption)); have HB3 := Lib.hid hb3; have hsz : wr.heap.size ≤ w3.heap.size := hb3.size; clear hb3)
                  | (refine step_append_lies _ (by rfl) _ _ _ (by rfl) w.heap.size 41 i0 (.agg #[.string ⟨#[]⟩, .string ⟨#[]⟩]) 2 32 Try.underlying22 hi0 hz0' hz1' hz2' rfl (by decide) (.slice A2 (outF H k).length c2) (outF H k).length (cellsL (outF H k)) (by rfl) (((own_of Hown.out HB3.out).alloc _))
                      ⟨w3.heap.size, 0, none⟩ 1 1 [strV (smallF (o : Int)), strV (H o)] (by rfl) (by rfl) (World.news_of_block (cs := #[strV (smallF (o : Int)), strV (H o)]) (t := 41) (fr := (0, 0)) (heap_alloc_new w3 _)) (by simp [Value.oneCell'])
                      (by omega) hk63 hk47 (by simp; omega) (w3.heap.size + 1) (by simp) ?_; intro gg cap w4 hown' hgrow' hat hlt4))
              have Own4 := Lib.hid hown'
              have B3 := Lib.hid (below_of Hbw.out HB3.out)
              have B4 := Lib.hid ((B3.out.alloc B3.out.size (.cells #[strV (smallF (o : Int)), strV (H o)] 41)).grown hgrow' (by have := B3.out.size; simp at this ⊢; omega) (fun k hk => own_ge' (Hown.out) hk))
              have Bl4 := Lib.hid (Blk.kept ((blk_of (show Blk wr w.heap.size _ _ from Hbl.out) HB3.out).alloc (.cells #[strV (smallF (o : Int)), strV (H o)] 41)) hgrow' hne1)
              have Bo4 := Lib.hid (Blk.kept ((blk_of (show Blk wr w1.heap.size _ _ from Hbo.out) HB3.out).alloc (.cells #[strV (smallF (o : Int)), strV (H o)] 41)) hgrow' hne0)
              clear hown' hgrow'
              go_wp2
              go_roundw
              case rel =>
                have e2 := HSt.out
                rw [if_pos ⟨He.out, h6⟩] at e2
                exact ⟨k + 1, by omega, by go_num, by rw [e2]; simpa [cellsL_snoc] using Own4.out, Bl4.out, Bo4.out, B4.out⟩
              case measure => simp [intOf]; omega
            · have hi6 : ¬ ((outF H k).length : Int) < 6 := by omega
              have H6 := Lib.hid h6
              clear h6
              go_wp2
              go_roundw
              case rel =>
                have e2 := HSt.out
                rw [if_neg (fun h => H6.out h.2)] at e2
                exact ⟨k + 1, by omega, by go_num, by rw [e2]; exact Hown.out, Hbl.out, Hbo.out, Hbw.out⟩
              case measure => simp [intOf]; omega
        · obtain rfl : k = 8 := by omega
          have Hown := Lib.hid hown
          have Hbw := Lib.hid hbw
          clear hown hbl hbo hbw
          go_wp2
          go_ret
          exact ⟨_, rfl, Hown.out, Hbw.out⟩
end Go.Proofs.Yteclbkjonaildaa
