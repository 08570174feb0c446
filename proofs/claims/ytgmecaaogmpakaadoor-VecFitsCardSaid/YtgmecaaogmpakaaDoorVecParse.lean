/- What Parse answers of every text of a million bytes at most: as a plain function. Condition: the names of the places lie as they were laid. -/
import Derived.Test.YtgmecaaogmpakaaDoorVecPart
namespace Go.Proofs.YtgmecaaogmpakaaDoor
open Go.RowKit

/-- One part: its place, its quantity, where it ends; where it is wrong, and how. -/
def partL (l : List UInt8) (a next : Nat) : (Int × Int × Int) × Int × Int :=
  if a = l.length ∧ next < 5 then ((0, 0, 0), (a : Int), 3) else
  let q := upToL l a 61
  let p := placeL ((l.drop a).take (q - a)) next
  if p = -1 then ((0, 0, 0), (a : Int), 4) else if q = l.length then ((0, 0, 0), (q : Int), 3) else
  let z := upToL l (q + 1) 44
  match parseL ⟨((l.drop (q + 1)).take (z - (q + 1))).toArray⟩ (decide (p = 0)) with
  | (n, x, e) => if e ≠ 0 then ((0, 0, 0), (q : Int) + 1 + x, e) else if n = 0 then ((0, 0, 0), (a : Int), 4) else ((p, n, (z : Int)), 0, 0)

/-- What a part is good for, if it is right. -/
def PartOk (l : List UInt8) (a next : Nat) (p z e : Int) : Prop := e = 0 → ∃ j y : Nat, p = (j : Int) ∧ z = (y : Int) ∧ next ≤ j ∧ j < 5 ∧ a < y ∧ y ≤ l.length

theorem part_any (l : List UInt8) (a next : Nat) (w : World) (p n z x e0 : Int) (hl : l.length ≤ 1000000) (hnm : NamesAt w) (hal : a ≤ l.length) (hnx : next ≤ 5) (h : partL l a next = ((p, n, z), x, e0)) :
    (Calls Tryd.prog 48 #[.string ⟨l.toArray⟩, .int .i64 (a : Int), .int .i64 (next : Int)] w fun e w' => e = .returned (.tuple #[.agg #[.int .i64 p, .int .i64 n, .int .i64 z], .int .i64 x, .int .i64 e0]) ∧ Below w.heap.size w w') ∧ PartOk l a next p z e0 := by
  unfold partL at h
  by_cases h1 : a = l.length ∧ next < 5
  · rw [if_pos h1] at h
    simp only [Prod.mk.injEq] at h
    obtain ⟨⟨rfl, rfl, rfl⟩, rfl, rfl⟩ := h
    exact ⟨part_end l a next w h1.1 h1.2, fun e => by cases e⟩
  · rw [if_neg h1] at h
    simp only at h
    rcases placeL_cases ((l.drop a).take (upToL l a 61 - a)) next hnx with hp | ⟨j, hj0, hj1, hp⟩
    · rw [if_pos hp] at h
      simp only [Prod.mk.injEq] at h
      obtain ⟨⟨rfl, rfl, rfl⟩, rfl, rfl⟩ := h
      exact ⟨part_form l a next _ w hl hnm hal hnx h1 rfl hp, fun e => by cases e⟩
    · rw [if_neg (by rw [hp]; omega)] at h
      by_cases h2 : upToL l a 61 = l.length
      · rw [if_pos h2] at h
        simp only [Prod.mk.injEq] at h
        obtain ⟨⟨rfl, rfl, rfl⟩, rfl, rfl⟩ := h
        exact ⟨part_trunc l a next _ j w hl hnm hal hnx h1 rfl hp h2, fun e => by cases e⟩
      · rw [if_neg h2] at h
        have hq0 := upToL_ge l a 61
        have hq1 := upToL_le l a 61 hal
        have hql : upToL l a 61 < l.length := by omega
        have hz0 := upToL_ge l (upToL l a 61 + 1) 44
        have hz1 := upToL_le l (upToL l a 61 + 1) 44 hql
        have hd : decide (placeL ((l.drop a).take (upToL l a 61 - a)) next = 0) = decide (j = 0) := by
          rw [hp]
          by_cases hj : j = 0 <;> simp [hj]
        rw [hd] at h
        rcases hv : parseL ⟨((l.drop (upToL l a 61 + 1)).take (upToL l (upToL l a 61 + 1) 44 - (upToL l a 61 + 1))).toArray⟩ (decide (j = 0)) with ⟨m, y, e1⟩
        rw [hv] at h
        simp only at h
        obtain ⟨r0, r1, r2, r3, r4⟩ := parse_range _ _ _ _ _ hv
        have r1' : y ≤ (l.length : Int) := by
          have hlen : ((l.drop (upToL l a 61 + 1)).take (upToL l (upToL l a 61 + 1) 44 - (upToL l a 61 + 1))).length ≤ l.length := by
            rw [List.length_take, List.length_drop]
            omega
          omega
        by_cases he : e1 = 0
        · subst he
          rw [if_neg (by simp)] at h
          by_cases hm : m = 0
          · subst hm
            rw [if_pos rfl] at h
            simp only [Prod.mk.injEq] at h
            obtain ⟨⟨rfl, rfl, rfl⟩, rfl, rfl⟩ := h
            exact ⟨part_zero_qty l a next _ j _ y w hl hnm hal hnx h1 rfl hp hql rfl hv, fun e => by cases e⟩
          · rw [if_neg hm] at h
            simp only [Prod.mk.injEq] at h
            obtain ⟨⟨rfl, rfl, rfl⟩, rfl, rfl⟩ := h
            rw [hp]
            exact ⟨part_ok l a next _ j _ _ y w hl hnm hal hnx h1 rfl hp hql rfl hv hm, fun _ => ⟨j, _, rfl, rfl, hj0, hj1, by omega, hz1⟩⟩
        · rw [if_pos he] at h
          simp only [Prod.mk.injEq] at h
          obtain ⟨⟨rfl, rfl, rfl⟩, rfl, rfl⟩ := h
          exact ⟨part_err l a next _ j _ m y _ w hl hnm hal hnx h1 rfl hp hql rfl hv r0 r1' he, fun e => absurd e he⟩

/-- The row, where the text is wrong, and how. -/
def parseF (l : List UInt8) : Nat → (Nat → Int) → Nat → Nat → (Nat → Int) × Int × Int
  | 0, _, _, _ => (fun _ => 0, 0, 0)
  | f + 1, v, a, next =>
    match partL l a next with
    | ((p, n, z), x, e) => if e ≠ 0 then (fun _ => 0, x, e) else if z = (l.length : Int) then (upd v p.toNat n, 0, 0) else parseF l f (upd v p.toNat n) (z.toNat + 1) (p.toNat + 1)
def parseV (l : List UInt8) : (Nat → Int) × Int × Int := if l = [] then (fun _ => 0, 0, 0) else parseF l 6 (fun _ => 0) 0 0

set_option maxRecDepth 100000 in
set_option maxHeartbeats 1000000 in
theorem vparse_any (l : List UInt8) (w : World) (hl : l.length ≤ 1000000) (hnm : NamesAt w) :
    Calls Tryd.prog 25 #[.string ⟨l.toArray⟩] w fun e w' => e = .returned (.tuple #[.agg #[.int .i64 ((parseV l).1 0), .int .i64 ((parseV l).1 1), .int .i64 ((parseV l).1 2), .int .i64 ((parseV l).1 3), .int .i64 ((parseV l).1 4)], .int .i64 (parseV l).2.1, .int .i64 (parseV l).2.2]) ∧ Below w.heap.size w w' := by
  have HN := Lib.hid hnm
  clear hnm
  rcases hV : parseV l with ⟨r, x0, e0⟩
  have HV := Lib.hid hV
  clear hV
  by_cases hnil : l = []
  · have h1 : l.isEmpty = true := by simp [hnil]
    have Hnil := Lib.hid hnil
    clear hnil
    have h2 := HV.out
    unfold parseV at h2
    rw [if_pos Hnil.out] at h2
    simp only [Prod.mk.injEq] at h2
    obtain ⟨rfl, rfl, rfl⟩ := h2
    go_enter Tryd.func25, Tryd.ntmps25
    go_wp2
    refine bodyPost_row3 Tryd.results25 w.heap.size _ _ _ _ (.int .i64 0) (.int .i64 0) ?d1 ?p1 ?s1 ?u1 (RowAt.new w (fun _ => 0)) Tryd.underlying24 rfl vec_size ?_
    case d1 => rfl
    case p1 => rfl
    case s1 => rfl
    case u1 => rfl
    exact ⟨rfl, below1 _ _⟩
  · have h1 : l.isEmpty = false := by simpa using hnil
    have HF : Hid (parseF l 6 (fun _ => 0) 0 0 = (r, x0, e0)) := by
      have h2 := HV.out
      unfold parseV at h2
      rwa [if_neg hnil] at h2
    have Hnil := Lib.hid hnil
    clear hnil
    go_enter Tryd.func25, Tryd.ntmps25
    go_wp2
    go_loopw [5, 6] (fun s t wr => ∃ (a next f : Nat) (v : Nat → Int), s = .int .i64 a ∧ t = .int .i64 next ∧ a ≤ l.length ∧ next ≤ 5 ∧ RowAt wr w.heap.size v ∧ Below w.heap.size w wr ∧ 6 - next ≤ f ∧ parseF l f v a next = (r, x0, e0)) (fun _ t _ => 6 - (intOf t).toNat)
    case atStart => exact ⟨0, 0, 6, fun _ => 0, rfl, rfl, by omega, by omega, RowAt.new w (fun _ => 0), below1 _ _, by omega, HF.out⟩
    case round =>
      obtain ⟨a, next, f, v, rfl, rfl, hal, hnx, hrow, hb, hf, hF⟩ := hrel
      have Hrow := Lib.hid hrow
      have HB := Lib.hid hb
      rcases hp : partL l a next with ⟨⟨p, n, z⟩, x, e⟩
      obtain ⟨hc, hok⟩ := part_any l a next wr p n z x e hl (HN.out.below hb) hal hnx hp
      have Hc := Lib.hid hc
      obtain ⟨g, rfl⟩ : ∃ g, f = g + 1 := ⟨f - 1, by omega⟩
      rw [parseF, hp] at hF
      simp only at hF
      have Hok := Lib.hid hok
      have HFo := Lib.hid hF
      clear hrow hb hp hc hF hok HF
      by_cases he : e = 0
      · subst he
        obtain ⟨j, y, rfl, rfl, hj0, hj1, hy0, hy1⟩ := Hok.out rfl
        have hF := HFo.out
        rw [if_neg (by simp)] at hF
        by_cases hy : y = l.length
        · have hyb : ((y : Int) == (l.length : Int)) = true := by simp [hy]
          rw [if_pos (by rw [hy])] at hF
          simp only [Prod.mk.injEq] at hF
          obtain ⟨rfl, rfl, rfl⟩ := hF
          have Hy := Lib.hid hy
          clear hy
          go_wp2_with fail
          refine (Hc.out).mono ?_
          rintro e1 w1 ⟨rfl, hb1⟩
          have Hr1 := Lib.hid (Hrow.out.below hb1 Hrow.out.lt)
          have HB1 := Lib.hid (HB.out.trans (hb1.mono HB.out.size))
          have hsz : w.heap.size < w1.heap.size := Hr1.out.lt
          clear hb1
          have cj := (Hr1.out.alloc (.cells #[.int .i64 (j : Int), .int .i64 n, .int .i64 (y : Int)] 62)).cell hj1
          have fj := (Hr1.out.alloc (.cells #[.int .i64 (j : Int), .int .i64 n, .int .i64 (y : Int)] 62)).free j
          have Hset := Lib.hid ((Hr1.out.set hj1 n).alloc (.cells #[.int .i64 (j : Int), .int .i64 n, .int .i64 (y : Int)] 62))
          go_wp2_with (first | refine wpList_load_row rfl 24 (.tmp 2) rfl w.heap.size rfl 24 _ (0, 0) _ Hset.out Tryd.underlying24 rfl vec_size ?_ | refine wpList_store_row rfl 24 (.tmp 2) (.tmp 36) rfl w.heap.size _ rfl rfl 24 _ Hset.out vec_size (by kernel_rfl) (by kernel_rfl) ?_)
          refine bodyPost_row3 Tryd.results25 w.heap.size _ _ _ _ (.int .i64 0) (.int .i64 0) ?d2 ?p2 ?s2 ?u2 (Hset.out.put (upd v j n)) Tryd.underlying24 rfl vec_size ?_
          case d2 => rfl
          case p2 => rfl
          case s2 => rfl
          case u2 => rfl
          exact ⟨rfl, below_setRow ((HB1.out.setCell (Nat.le_refl _) _).alloc (by simp; omega) _) (Nat.le_refl _) _⟩
        · have hyb : ((y : Int) == (l.length : Int)) = false := by simp; omega
          rw [if_neg (by omega)] at hF
          have HF2 := Lib.hid hF
          have Hy := Lib.hid hy
          clear hy hF
          go_wp2_with fail
          refine (Hc.out).mono ?_
          rintro e1 w1 ⟨rfl, hb1⟩
          have Hr1 := Lib.hid (Hrow.out.below hb1 Hrow.out.lt)
          have HB1 := Lib.hid (HB.out.trans (hb1.mono HB.out.size))
          have hsz : w.heap.size < w1.heap.size := Hr1.out.lt
          clear hb1
          have cj := (Hr1.out.alloc (.cells #[.int .i64 (j : Int), .int .i64 n, .int .i64 (y : Int)] 62)).cell hj1
          have fj := (Hr1.out.alloc (.cells #[.int .i64 (j : Int), .int .i64 n, .int .i64 (y : Int)] 62)).free j
          have Hset := Lib.hid ((Hr1.out.set hj1 n).alloc (.cells #[.int .i64 (j : Int), .int .i64 n, .int .i64 (y : Int)] 62))
          have hc0 : ((w1.setCell ⟨w.heap.size, j, none⟩ (.int .i64 n)).alloc (.cells #[.int .i64 (j : Int), .int .i64 n, .int .i64 (y : Int)] 62)).cell? ⟨w1.heap.size, 0, none⟩ = some (.int .i64 (j : Int)) := by simp [go_sem]
          have hc2 : ((w1.setCell ⟨w.heap.size, j, none⟩ (.int .i64 n)).alloc (.cells #[.int .i64 (j : Int), .int .i64 n, .int .i64 (y : Int)] 62)).cell? ⟨w1.heap.size, 2, none⟩ = some (.int .i64 (y : Int)) := by simp [go_sem]
          go_wp2
          go_quiet (fail)
          go_wp2
          go_roundw
          case rel => exact ⟨y + 1, j + 1, g, upd v j n, by go_num, by go_num, by have := Hy.out; omega, by omega, Hset.out, belowN ((HB1.out.setCell (Nat.le_refl _) _).alloc (by simp; omega) _) _, by omega, HF2.out⟩
          case measure => simp [intOf]; omega
      · have heb : (e != 0) = true := by simpa using he
        have hF := HFo.out
        rw [if_pos he] at hF
        simp only [Prod.mk.injEq] at hF
        obtain ⟨rfl, rfl, rfl⟩ := hF
        have He := Lib.hid he
        clear he
        go_wp2_with fail
        refine (Hc.out).mono ?_
        rintro e1 w1 ⟨rfl, hb1⟩
        have Hr1 := Lib.hid (Hrow.out.below hb1 Hrow.out.lt)
        have HB1 := Lib.hid (HB.out.trans (hb1.mono HB.out.size))
        clear hb1
        go_wp2_with (refine wpList_store_row rfl 24 (.tmp 2) (.tmp 23) rfl w.heap.size #[.int .i64 0, .int .i64 0, .int .i64 0, .int .i64 0, .int .i64 0] rfl rfl 24 _ (Hr1.out.alloc _) vec_size (by kernel_rfl) (by kernel_rfl) ?_)
        refine bodyPost_row3 Tryd.results25 w.heap.size _ _ _ _ (.int .i64 x) (.int .i64 e) ?d3 ?p3 ?s3 ?u3 ((Hr1.out.alloc _).put (fun _ => 0)) Tryd.underlying24 rfl vec_size ?_
        case d3 => rfl
        case p3 => rfl
        case s3 => rfl
        case u3 => rfl
        exact ⟨rfl, below_setRow (HB1.out.alloc HB1.out.size _) (Nat.le_refl _) _⟩

end Go.Proofs.YtgmecaaogmpakaaDoor
