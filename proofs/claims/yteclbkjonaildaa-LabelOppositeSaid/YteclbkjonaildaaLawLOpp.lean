/- Of a term and its opposite just one holds; who bears what: the walk. Condition: the pairs lie in memory. -/
import Derived.Test.YteclbkjonaildaaLOppS
import Derived.Test.YteclbkjonaildaaLOpen
import Derived.Test.YteclbkjonaildaaLWorks
import Derived.Deep.DeepCutAuto
import Derived.Deep.RegionHeld3
namespace Go.Proofs.Yteclbkjonaildaa
open Go.RowKit

theorem own_cut1 {w : World} {base : Nat} {e : TypeId} {size : Nat} {A : Option Addr} {n c : Nat} {xs : List Value} (h : w.ownsRow base e size (.slice A n c) n xs) : 0 < n → ∃ g, A = some ⟨g, 0, none⟩ := fun hn => by
  obtain ⟨g, cap, hv, _⟩ := own_cells h hn
  cases hv
  exact ⟨g, rfl⟩
/-- The terms, the pair and the labels lie in memory. -/
structure OppAt (w : World) (y : Int × Int × Int) (t o : Ter) (A : Option Addr) (a : List Lab) (p q : Nat) (wc : World) : Prop where
  bt : Blk wc p #[.int .i64 t.1, strV t.2.1, strV t.2.2] 43
  bo : Blk wc q #[.int .i64 o.1, strV o.2.1, strV o.2.2] 43
  byy : Blk wc (w.heap.size + 1) #[.int .i64 y.1, .int .i64 y.2.1, .int .i64 y.2.2] 46
  sa : SlAt wc A (cellsL a)
  bw : Below w.heap.size w wc
theorem OppAt.below {w : World} {y : Int × Int × Int} {t o : Ter} {A : Option Addr} {a : List Lab} {p q : Nat} {wc w' : World} (h : OppAt w y t o A a p q wc) (hb : Below wc.heap.size wc w') : OppAt w y t o A a p q w' :=
  ⟨h.bt.below hb h.bt.lt, h.bo.below hb h.bo.lt, h.byy.below hb h.byy.lt, h.sa.below hb, h.bw.trans (hb.mono h.bw.size)⟩
theorem OppAt.drewN {w : World} {y : Int × Int × Int} {t o : Ter} {A : Option Addr} {a : List Lab} {p q : Nat} {wc : World} (h : OppAt w y t o A a p q wc) (n : Nat) : OppAt w y t o A a p q (wc.drewN n) := h.below (belowN (Below.refl _ _) n)
theorem oppat_new {w w2 : World} {y : Int × Int × Int} {A : Option Addr} {a : List Lab} (S2 : SlAt w2 A (cellsL a)) (HY : Blk w2 (w.heap.size + 1) #[.int .i64 y.1, .int .i64 y.2.1, .int .i64 y.2.2] 46) (B2 : Below w.heap.size w w2) (k v : Int) (ta tb : List UInt8) (o : Obj) :
    OppAt w y (k, ta, tb) (v, ta, tb) A a w2.heap.size (w2.heap.size + 1) (((w2.alloc (.cells #[.int .i64 k, strV ta, strV tb] 43)).alloc (.cells #[.int .i64 v, strV ta, strV tb] 43)).alloc o) := by
  have bt : Blk (((w2.alloc (.cells #[.int .i64 k, strV ta, strV tb] 43)).alloc (.cells #[.int .i64 v, strV ta, strV tb] 43)).alloc o) w2.heap.size #[.int .i64 k, strV ta, strV tb] 43 := ((Blk.new w2 _ _).alloc _).alloc _
  have bo : Blk (((w2.alloc (.cells #[.int .i64 k, strV ta, strV tb] 43)).alloc (.cells #[.int .i64 v, strV ta, strV tb] 43)).alloc o) (w2.heap.size + 1) #[.int .i64 v, strV ta, strV tb] 43 := by
    have := (Blk.new (w2.alloc (.cells #[.int .i64 k, strV ta, strV tb] 43)) #[.int .i64 v, strV ta, strV tb] 43).alloc o
    simpa using this
  have hb : Below w2.heap.size w2 (((w2.alloc (.cells #[.int .i64 k, strV ta, strV tb] 43)).alloc (.cells #[.int .i64 v, strV ta, strV tb] 43)).alloc o) :=
    (((Below.refl _ _).alloc (Nat.le_refl _) _).alloc (by simp) _).alloc (by simp; omega) _
  exact ⟨bt, bo, HY.below hb HY.lt, S2.below hb, B2.trans (hb.mono B2.size)⟩
theorem slat3 {w : World} {g : Nat} {t : Ter} (h0 : w.cell? ⟨g, 0, none⟩ = some (.int .i64 t.1)) (h1 : w.cell? ⟨g, 1, none⟩ = some (strV t.2.1)) (h2 : w.cell? ⟨g, 2, none⟩ = some (strV t.2.2)) : SlAt w (some ⟨g, 0, none⟩) (cellsT [t]) := by
  intro j z hj
  rw [show cellsT [t] = [.int .i64 t.1, strV t.2.1, strV t.2.2] from rfl] at hj
  refine ⟨g, 0, rfl, ?_⟩
  rw [Nat.zero_add]
  match j, hj with
  | 0, hj => simp at hj; subst hj; exact h0
  | 1, hj => simp at hj; subst hj; exact h1
  | 2, hj => simp at hj; subst hj; exact h2
  | j + 3, hj => simp at hj
theorem slat6 {w : World} {g : Nat} {t o : Ter} (h0 : w.cell? ⟨g, 0, none⟩ = some (.int .i64 t.1)) (h1 : w.cell? ⟨g, 1, none⟩ = some (strV t.2.1)) (h2 : w.cell? ⟨g, 2, none⟩ = some (strV t.2.2)) (h3 : w.cell? ⟨g, 3, none⟩ = some (.int .i64 o.1)) (h4 : w.cell? ⟨g, 4, none⟩ = some (strV o.2.1)) (h5 : w.cell? ⟨g, 5, none⟩ = some (strV o.2.2)) : SlAt w (some ⟨g, 0, none⟩) (cellsT [t, o]) := by
  intro j z hj
  rw [show cellsT [t, o] = [.int .i64 t.1, strV t.2.1, strV t.2.2, .int .i64 o.1, strV o.2.1, strV o.2.2] from rfl] at hj
  refine ⟨g, 0, rfl, ?_⟩
  rw [Nat.zero_add]
  match j, hj with
  | 0, hj => simp at hj; subst hj; exact h0
  | 1, hj => simp at hj; subst hj; exact h1
  | 2, hj => simp at hj; subst hj; exact h2
  | 3, hj => simp at hj; subst hj; exact h3
  | 4, hj => simp at hj; subst hj; exact h4
  | 5, hj => simp at hj; subst hj; exact h5
  | j + 6, hj => simp at hj
/-- Two terms and the labels lie in memory. -/
structure OppB (w : World) (t u : Ter) (A : Option Addr) (a : List Lab) (g : Nat) (wc : World) : Prop where
  s2 : SlAt wc (some ⟨g, 0, none⟩) (cellsT [t, u])
  sa : SlAt wc A (cellsL a)
  bw : Below w.heap.size w wc
theorem OppB.below {w : World} {t u : Ter} {A : Option Addr} {a : List Lab} {g : Nat} {wc w' : World} (h : OppB w t u A a g wc) (hb : Below wc.heap.size wc w') : OppB w t u A a g w' :=
  ⟨h.s2.below hb, h.sa.below hb, h.bw.trans (hb.mono h.bw.size)⟩
theorem OppB.drewN {w : World} {t u : Ter} {A : Option Addr} {a : List Lab} {g : Nat} {wc : World} (h : OppB w t u A a g wc) (n : Nat) : OppB w t u A a g (wc.drewN n) := h.below (belowN (Below.refl _ _) n)
theorem OppB.drew {w : World} {t u : Ter} {A : Option Addr} {a : List Lab} {g : Nat} {wc : World} (h : OppB w t u A a g wc) : OppB w t u A a g wc.drew := h.drewN 1
theorem slat_second {w : World} {g : Nat} {t u : Ter} (h : SlAt w (some ⟨g, 0, none⟩) (cellsT [t, u])) : SlAt w (some ⟨g, 3, none⟩) (cellsT [u]) := by
  intro j z hj
  obtain ⟨b, o, hA, hc⟩ := h (3 + j) z (by
    rw [show cellsT [t, u] = [.int .i64 t.1, strV t.2.1, strV t.2.2] ++ cellsT [u] from rfl, List.getElem?_append_right (by simp)]
    simpa using hj)
  cases hA
  exact ⟨g, 3, rfl, by rw [Nat.zero_add] at hc; exact hc⟩
theorem alloc_lt (w : World) (o : Obj) : w.heap.size < (w.alloc o).heap.size := by simp
theorem term3 (t : Ter) : cellsT [t] = [.int .i64 t.1, strV t.2.1, strV t.2.2] := rfl

set_option maxRecDepth 100000 in
set_option maxHeartbeats 16000000 in
theorem opposite_any (A : Option Addr) (c : Nat) (l : List (Int × Int × Int)) (x y : Int × Int × Int) (w : World) (hc : l.length ≤ c) (hcm : c ≤ maxLen) (hs : SlAt w A (cellsP l)) :
    Calls Try.prog 7 #[.slice A l.length c, .agg #[.int .i64 x.1, .int .i64 x.2.1, .int .i64 x.2.2], .agg #[.int .i64 y.1, .int .i64 y.2.1, .int .i64 y.2.2]] w fun e w' => e = .returned (.bool true) ∧ Below w.heap.size w w' := by
  have HS := Lib.hid hs
  have hml := labelsF_len l
  have KP := Lib.hid (labelsF_keys l)
  have CA := Lib.hid (chkA_mem (labelsF_ok l))
  have KL := Lib.hid (fun w (hs : SlAt w A (cellsP l)) => labelsN_any A c l w hc hcm hs)
  have KX := Lib.hid (fun w => termN_any x w)
  have KY := Lib.hid (fun w => termN_any y w)
  have t0 : (0 : Int) ≤ x.2.2 % 4 := Int.emod_nonneg _ (by decide)
  have t1 : x.2.2 % 4 < 4 := Int.emod_lt_of_pos _ (by decide)
  have tk : (termF x).1 = 1 + x.2.2 % 4 := rfl
  have T0 : 1 ≤ (termF x).1 ∧ (termF x).1 ≤ 4 := by omega
  clear hs t0 t1 tk
  generalize labelsF l = a at hml KP CA KL
  generalize termF x = t at KX T0
  generalize termF y = u at KY
  obtain ⟨T0, T1⟩ := T0
  obtain ⟨kt, ta, tb⟩ := t
  have htk : kt = 1 ∨ kt = 2 ∨ kt = 3 ∨ kt = 4 := by simp only at T0 T1; omega
  have HTK := Lib.hid htk
  obtain ⟨W0, hW0⟩ : ∃ W0 : World, (w.alloc (.cells #[.int .i64 x.1, .int .i64 x.2.1, .int .i64 x.2.2] 46)).alloc (.cells #[.int .i64 y.1, .int .i64 y.2.1, .int .i64 y.2.2] 46) = W0 := ⟨_, rfl⟩
  have BX : Blk W0 w.heap.size #[.int .i64 x.1, .int .i64 x.2.1, .int .i64 x.2.2] 46 := by rw [← hW0]; exact Blk.alloc (Blk.new w _ _) _
  have BY : Blk W0 (w.heap.size + 1) #[.int .i64 y.1, .int .i64 y.2.1, .int .i64 y.2.2] 46 := by
    have := Blk.new (w.alloc (.cells #[.int .i64 x.1, .int .i64 x.2.1, .int .i64 x.2.2] 46)) #[.int .i64 y.1, .int .i64 y.2.1, .int .i64 y.2.2] 46
    rw [hW0] at this
    simpa using this
  have B0 : Hid (Below w.heap.size w W0) := Lib.hid (by rw [← hW0]; exact ((Below.refl _ _).alloc (Nat.le_refl _) _).alloc (by simp) _)
  have hxl := BX.lt
  have hyl := BY.lt
  have HBX := Lib.hid BX
  have HBY := Lib.hid BY
  have HT01 := Lib.hid (⟨T0, T1⟩ : 1 ≤ kt ∧ kt ≤ 4)
  clear BX BY htk T0 T1
  go_enter Try.func7, Try.ntmps7
  go_wp2_with fail
  clear hW0
  refine (KL.out _ (HS.out.below (B0.out.mono (Nat.le_refl _)))).mono ?_
  rintro e w1 ⟨v, rfl, ho, hb⟩
  obtain ⟨A1, c1, rfl, _⟩ := own_slice ho
  have D1 := Lib.hid (show a.length ≤ c1 ∧ c1 ≤ maxLen from own_cap ho)
  have OW := Lib.hid (own_cut1 ho)
  have S1 := Lib.hid (own_slat ho)
  have B1 := Lib.hid (B0.out.trans (hb.mono B0.out.size))
  have HBX1 := Lib.hid (HBX.out.below hb hxl)
  have HBY1 := Lib.hid (HBY.out.below hb hyl)
  obtain ⟨q0, q1, q2, _⟩ := HBX1.out.c3'
  have hxl1 := HBX1.out.lt
  have hyl1 := HBY1.out.lt
  clear ho hb B0 HBX HBY hxl hyl KL
  go_wp2_with fail
  refine (KX.out _).mono ?_
  rintro e w2 ⟨rfl, hb⟩
  have S2 := Lib.hid (S1.out.below hb)
  have B2 := Lib.hid (B1.out.trans (hb.mono B1.out.size))
  have HBY2 := Lib.hid (HBY1.out.below hb hyl1)
  have hyl2 := HBY2.out.lt
  clear hb S1 B1 HBX1 HBY1 hxl1 hyl1 q0 q1 q2 KX
  go_upto_region 4 with fail
  go_cut [25] (fun _ wc => OppAt w y (kt, ta, tb) (oppT (kt, ta, tb)) A1 a w2.heap.size (w2.heap.size + 1) wc)
  case first =>
    have htk := HTK.out
    rcases htk with rfl | rfl | rfl | rfl
    all_goals
      go_wp2_with fail
      go_meet
      exact oppat_new S2.out HBY2.out B2.out _ _ ta tb _
  case rest =>
    obtain ⟨p, hp⟩ : ∃ p, w2.heap.size = p := ⟨_, rfl⟩
    rw [hp] at hcut ⊢
    have hw2 : w.heap.size + 1 < p := by rw [← hp]; exact hyl2
    have hol : ∀ o, o = oppT (kt, ta, tb) → o.2 = (ta, tb) := fun o h => by rw [h]; rfl
    obtain ⟨o, ho⟩ : ∃ o, oppT (kt, ta, tb) = o := ⟨_, rfl⟩
    have hh : holdL o a = !holdL (kt, ta, tb) a := by rw [← ho]; exact opp_hold (kt, ta, tb) a HT01.out.1 HT01.out.2
    rw [ho] at hcut
    obtain ⟨ko, oa, ob⟩ := o
    have OA := Lib.hid hcut
    clear hp hcut hol ho S2 B2 HBY2 hyl2 HTK HT01
    obtain ⟨m0, hm0⟩ : ∃ m, holdL (kt, ta, tb) a = m := ⟨_, rfl⟩
    rw [hm0] at hh
    have Hm := Lib.hid hm0
    have Hh := Lib.hid hh
    clear hm0 hh
    go_wp2_with fail
    go_cut [46] (fun s46 wc => s46 = .bool false ∧ OppAt w y (kt, ta, tb) (ko, oa, ob) A1 a p (p + 1) wc)
    case first =>
      have KHt : Hid (∀ (w : World) (g : Nat), SlAt w (some ⟨g, 0, none⟩) (cellsT [(kt, ta, tb)]) → SlAt w A1 (cellsL a) → Calls Try.prog 26 #[.slice (some ⟨g, 0, none⟩) 1 1, .slice A1 a.length c1] w fun e w' => e = .returned (.bool m0) ∧ Below w.heap.size w w') := Lib.hid (fun w g h1 h2 => by
        have k := holds_any (some ⟨g, 0, none⟩) A1 1 c1 [(kt, ta, tb)] a w (by simp) (by simp) (by omega) D1.out.1 h1 h2
        rw [holds_one, Hm.out] at k
        exact k)
      have KHo : Hid (∀ (w : World) (g : Nat), SlAt w (some ⟨g, 0, none⟩) (cellsT [(ko, oa, ob)]) → SlAt w A1 (cellsL a) → Calls Try.prog 26 #[.slice (some ⟨g, 0, none⟩) 1 1, .slice A1 a.length c1] w fun e w' => e = .returned (.bool (!m0)) ∧ Below w.heap.size w w') := Lib.hid (fun w g h1 h2 => by
        have k := holds_any (some ⟨g, 0, none⟩) A1 1 c1 [(ko, oa, ob)] a w (by simp) (by simp) (by omega) D1.out.1 h1 h2
        rw [holds_one, Hh.out] at k
        exact k)
      have KH2 : Hid (∀ (w : World) (g : Nat), SlAt w (some ⟨g, 0, none⟩) (cellsT [(kt, ta, tb), (ko, oa, ob)]) → SlAt w A1 (cellsL a) → Calls Try.prog 26 #[.slice (some ⟨g, 0, none⟩) 2 2, .slice A1 a.length c1] w fun e w' => e = .returned (.bool false) ∧ Below w.heap.size w w') := Lib.hid (fun w g h1 h2 => by
        have k := holds_any (some ⟨g, 0, none⟩) A1 2 c1 [(kt, ta, tb), (ko, oa, ob)] a w (by simp) (by simp) (by omega) D1.out.1 h1 h2
        rw [holds_two, Hm.out, Hh.out, Bool.and_not_self] at k
        exact k)
      have KH0 : Hid (∀ (w : World), SlAt w A1 (cellsL a) → Calls Try.prog 26 #[.slice none 0 0, .slice A1 a.length c1] w fun e w' => e = .returned (.bool true) ∧ Below w.heap.size w w') := Lib.hid (fun w h2 =>
        holds_any none A1 0 c1 [] a w (by simp) (by simp) (by omega) D1.out.1 (SlAt.nil _ _) h2)
      obtain ⟨qt0, qt1, qt2, _⟩ := OA.out.bt.c3'
      obtain ⟨qo0, qo1, qo2, _⟩ := OA.out.bo.c3'
      have hps := OA.out.bo.lt
      have hn0 := World.new_ne wc ⟨p, 0, none⟩ qt0
      have hn1 := World.new_ne wc ⟨p, 1, none⟩ qt1
      have hn2 := World.new_ne wc ⟨p, 2, none⟩ qt2
      have hn3 := World.new_ne wc ⟨p + 1, 0, none⟩ qo0
      have hn4 := World.new_ne wc ⟨p + 1, 1, none⟩ qo1
      have hn5 := World.new_ne wc ⟨p + 1, 2, none⟩ qo2
      simp only at qt0 qt1 qt2 qo0 qo1 qo2
      cases m0
      all_goals
        go_region_held3 (fun w' => w'.cell? ⟨p, 0, none⟩ = some (.int .i64 kt) ∧ w'.cell? ⟨p, 1, none⟩ = some (strV ta) ∧ w'.cell? ⟨p, 2, none⟩ = some (strV tb) ∧ w'.cell? ⟨p + 1, 0, none⟩ = some (.int .i64 ko) ∧ w'.cell? ⟨p + 1, 1, none⟩ = some (strV oa) ∧ w'.cell? ⟨p + 1, 2, none⟩ = some (strV ob))
          (first
            | exact ⟨qt0, qt1, qt2, qo0, qo1, qo2⟩
            | exact ⟨by assumption, by assumption, by assumption, by assumption, by assumption, by assumption⟩
            | go_keep)
          (first
            | ((with_reducible refine (KHt.out _ _ (slat3 (t := (kt, ta, tb)) ?_ ?_ ?_) ?_).mono ?_); (focus (first | assumption | (simp; done) | (simp; assumption))); (focus (first | assumption | (simp; done) | (simp; assumption))); (focus (first | assumption | (simp; done) | (simp; assumption))); (focus (refine (OA.out.below ?_).sa; (repeat' (first | exact Below.refl _ _ | refine Below.drew ?_ | refine Below.alloc ?_ ?_ _ | (simp; done) | (simp; omega))); done)); rintro e w5 ⟨rfl, hb⟩; have OA' := OA.out.below (w' := w5) (by refine Below.trans ?_ (hb.mono ?_); (focus ((repeat' (first | exact Below.refl _ _ | refine Below.drew ?_ | refine Below.alloc ?_ ?_ _ | (simp; done) | (simp; omega))); done)); (focus (simp; try omega))); replace OA := Lib.hid OA'; obtain ⟨qa0, qa1, qa2, _⟩ := OA'.bt.c3'; obtain ⟨qb0, qb1, qb2, _⟩ := OA'.bo.c3'; have hps := OA'.bo.lt; clear OA'; (try (refine (have z0 : w5.cell? ⟨wc.heap.size, 0, none⟩ = some (Value.int .i64 ko) := ?_; ?_); (focus (refine (hb.cell (p := ⟨wc.heap.size, 0, none⟩) ?_).trans ?_; (focus (first | (simp; done) | (simp; omega))); (simp; done))); refine (have z1 : w5.cell? ⟨wc.heap.size, 1, none⟩ = some (strV oa) := ?_; ?_); (focus (refine (hb.cell (p := ⟨wc.heap.size, 1, none⟩) ?_).trans ?_; (focus (first | (simp; done) | (simp; omega))); (simp; done))); refine (have z2 : w5.cell? ⟨wc.heap.size, 2, none⟩ = some (strV ob) := ?_; ?_); (focus (refine (hb.cell (p := ⟨wc.heap.size, 2, none⟩) ?_).trans ?_; (focus (first | (simp; done) | (simp; omega))); (simp; done))))); (try (refine (have z0 : w5.cell? ⟨wc.heap.size + 1, 0, none⟩ = some (Value.int .i64 ko) := ?_; ?_); (focus (refine (hb.cell (p := ⟨wc.heap.size + 1, 0, none⟩) ?_).trans ?_; (focus (first | (simp; done) | (simp; omega))); (simp; done))); refine (have z1 : w5.cell? ⟨wc.heap.size + 1, 1, none⟩ = some (strV oa) := ?_; ?_); (focus (refine (hb.cell (p := ⟨wc.heap.size + 1, 1, none⟩) ?_).trans ?_; (focus (first | (simp; done) | (simp; omega))); (simp; done))); refine (have z2 : w5.cell? ⟨wc.heap.size + 1, 2, none⟩ = some (strV ob) := ?_; ?_); (focus (refine (hb.cell (p := ⟨wc.heap.size + 1, 2, none⟩) ?_).trans ?_; (focus (first | (simp; done) | (simp; omega))); (simp; done))))); clear hb)
            | ((with_reducible refine (KHo.out _ _ (slat3 (t := (ko, oa, ob)) ?_ ?_ ?_) ?_).mono ?_); (focus (first | assumption | (simp; done) | (simp; assumption))); (focus (first | assumption | (simp; done) | (simp; assumption))); (focus (first | assumption | (simp; done) | (simp; assumption))); (focus (refine (OA.out.below ?_).sa; (repeat' (first | exact Below.refl _ _ | refine Below.drew ?_ | refine Below.alloc ?_ ?_ _ | (simp; done) | (simp; omega))); done)); rintro e w5 ⟨rfl, hb⟩; have OA' := OA.out.below (w' := w5) (by refine Below.trans ?_ (hb.mono ?_); (focus ((repeat' (first | exact Below.refl _ _ | refine Below.drew ?_ | refine Below.alloc ?_ ?_ _ | (simp; done) | (simp; omega))); done)); (focus (simp; try omega))); replace OA := Lib.hid OA'; obtain ⟨qa0, qa1, qa2, _⟩ := OA'.bt.c3'; obtain ⟨qb0, qb1, qb2, _⟩ := OA'.bo.c3'; have hps := OA'.bo.lt; clear OA';  clear hb)
            | ((with_reducible refine (KH2.out _ _ (slat6 (t := (kt, ta, tb)) (o := (ko, oa, ob)) ?_ ?_ ?_ ?_ ?_ ?_) ?_).mono ?_); (focus (first | assumption | (simp; done) | (simp; assumption))); (focus (first | assumption | (simp; done) | (simp; assumption))); (focus (first | assumption | (simp; done) | (simp; assumption))); (focus (first | assumption | (simp; done) | (simp; assumption))); (focus (first | assumption | (simp; done) | (simp; assumption))); (focus (first | assumption | (simp; done) | (simp; assumption))); (focus (refine (OA.out.below ?_).sa; (repeat' (first | exact Below.refl _ _ | refine Below.drew ?_ | refine Below.alloc ?_ ?_ _ | (simp; done) | (simp; omega))); done)); rintro e w5 ⟨rfl, hb⟩; have OA' := OA.out.below (w' := w5) (by refine Below.trans ?_ (hb.mono ?_); (focus ((repeat' (first | exact Below.refl _ _ | refine Below.drew ?_ | refine Below.alloc ?_ ?_ _ | (simp; done) | (simp; omega))); done)); (focus (simp; try omega))); replace OA := Lib.hid OA'; obtain ⟨qa0, qa1, qa2, _⟩ := OA'.bt.c3'; obtain ⟨qb0, qb1, qb2, _⟩ := OA'.bo.c3'; have hps := OA'.bo.lt; clear OA';  clear hb)
            | ((with_reducible refine (KH0.out _ ?_).mono ?_); skip; (focus (refine (OA.out.below ?_).sa; (repeat' (first | exact Below.refl _ _ | refine Below.drew ?_ | refine Below.alloc ?_ ?_ _ | (simp; done) | (simp; omega))); done)); rintro e w5 ⟨rfl, hb⟩; have OA' := OA.out.below (w' := w5) (by refine Below.trans ?_ (hb.mono ?_); (focus ((repeat' (first | exact Below.refl _ _ | refine Below.drew ?_ | refine Below.alloc ?_ ?_ _ | (simp; done) | (simp; omega))); done)); (focus (simp; try omega))); replace OA := Lib.hid OA'; obtain ⟨qa0, qa1, qa2, _⟩ := OA'.bt.c3'; obtain ⟨qb0, qb1, qb2, _⟩ := OA'.bo.c3'; have hps := OA'.bo.lt; clear OA';  clear hb))
        all_goals
          go_wp2_with fail
          go_meet
          first
            | exact ⟨rfl, OA.out⟩
            | exact ⟨rfl, OA.out.drewN _⟩
            | (refine ⟨rfl, OA.out.below ?_⟩; (repeat' (first | exact Below.refl _ _ | refine Below.drew ?_ | refine Below.alloc ?_ ?_ _ | (simp; done) | (simp; omega))))
    case rest =>
      obtain ⟨rfl, hoa⟩ := hcut
      replace OA := Lib.hid hoa
      clear hoa
      obtain ⟨qt0, qt1, qt2, _⟩ := OA.out.bt.c3'
      obtain ⟨qo0, qo1, qo2, _⟩ := OA.out.byy.c3'
      have hps := OA.out.bt.lt
      have hys := OA.out.byy.lt
      simp only at qt0 qt1 qt2 qo0 qo1 qo2
      go_wp2_with fail
      go_cut [10] (fun s10 wd => ∃ g : Nat, s10 = .slice (some ⟨g, 0, none⟩) 2 2 ∧ SlAt wd (some ⟨g, 0, none⟩) (cellsT [(kt, ta, tb), u]) ∧ SlAt wd A1 (cellsL a) ∧ Below w.heap.size w wd)
      case first =>
        have hn0 := World.new_ne wc ⟨p, 0, none⟩ qt0
        have hn1 := World.new_ne wc ⟨p, 1, none⟩ qt1
        have hn2 := World.new_ne wc ⟨p, 2, none⟩ qt2
        have hn3 := World.new_ne wc ⟨w.heap.size + 1, 0, none⟩ qo0
        have hn4 := World.new_ne wc ⟨w.heap.size + 1, 1, none⟩ qo1
        have hn5 := World.new_ne wc ⟨w.heap.size + 1, 2, none⟩ qo2
        go_region_held3 (fun w' => w'.cell? ⟨p, 0, none⟩ = some (.int .i64 kt) ∧ w'.cell? ⟨p, 1, none⟩ = some (strV ta) ∧ w'.cell? ⟨p, 2, none⟩ = some (strV tb) ∧ w'.cell? ⟨w.heap.size + 1, 0, none⟩ = some (.int .i64 y.1) ∧ w'.cell? ⟨w.heap.size + 1, 1, none⟩ = some (.int .i64 y.2.1) ∧ w'.cell? ⟨w.heap.size + 1, 2, none⟩ = some (.int .i64 y.2.2))
          (first
            | exact ⟨qt0, qt1, qt2, qo0, qo1, qo2⟩
            | exact ⟨by assumption, by assumption, by assumption, by assumption, by assumption, by assumption⟩
            | go_keep)
          (first
            | ((with_reducible refine (KY.out _).mono ?_); rintro e w5 ⟨rfl, hb⟩; replace OA := Lib.hid ((OA.out.drewN 1).below hb); obtain ⟨qa0, qa1, qa2, _⟩ := OA.out.bt.c3'; obtain ⟨qb0, qb1, qb2, _⟩ := OA.out.byy.c3'; clear hb))
        go_wp2_with fail
        go_meet
        exact ⟨_, rfl, slat_new w5 (cellsT [(kt, ta, tb), u]) 43, OA.out.sa.below (below1 w5 _), OA.out.bw.alloc OA.out.bw.size _⟩
      case rest =>
        obtain ⟨g, rfl, s2, sa, hbw⟩ := hcut
        have OB := Lib.hid (⟨s2, sa, hbw⟩ : OppB w (kt, ta, tb) u A1 a g wc)
        clear s2 sa hbw OA qt0 qt1 qt2 qo0 qo1 qo2 hps hys Hh
        obtain ⟨m1, hm1⟩ : ∃ m, holdL u a = m := ⟨_, rfl⟩
        have Hu := Lib.hid hm1
        clear hm1
        have Q2 : Hid (∀ wd, OppB w (kt, ta, tb) u A1 a g wd → Calls Try.prog 26 #[.slice (some ⟨g, 0, none⟩) 2 2, .slice A1 a.length c1] wd fun e w' => e = .returned (.bool (m0 && m1)) ∧ Below wd.heap.size wd w') := Lib.hid (fun w h => by
          have k := holds_any (some ⟨g, 0, none⟩) A1 2 c1 [(kt, ta, tb), u] a w (by simp) (by simp) (by omega) D1.out.1 h.s2 h.sa
          rw [holds_two, Hm.out, Hu.out] at k
          exact k)
        have Q1 : Hid (∀ wd, OppB w (kt, ta, tb) u A1 a g wd → Calls Try.prog 26 #[.slice (some ⟨g, 0, none⟩) 1 2, .slice A1 a.length c1] wd fun e w' => e = .returned (.bool m0) ∧ Below wd.heap.size wd w') := Lib.hid (fun w h => by
          have k := holds_any (some ⟨g, 0, none⟩) A1 2 c1 [(kt, ta, tb)] a w (by simp) (by simp) (by omega) D1.out.1 (by have := h.s2.takeT 1; simpa using this) h.sa
          rw [holds_one, Hm.out] at k
          exact k)
        have Qu : Hid (∀ wd, OppB w (kt, ta, tb) u A1 a g wd → Calls Try.prog 26 #[.slice (some ⟨g, 3, none⟩) 1 1, .slice A1 a.length c1] wd fun e w' => e = .returned (.bool m1) ∧ Below wd.heap.size wd w') := Lib.hid (fun w h => by
          have k := holds_any (some ⟨g, 3, none⟩) A1 1 c1 [u] a w (by simp) (by simp) (by omega) D1.out.1 (slat_second h.s2) h.sa
          rw [holds_one, Hu.out] at k
          exact k)
        go_wp2_with fail
        go_cut [64] (fun s64 we => s64 = .bool false ∧ OppB w (kt, ta, tb) u A1 a g we)
        case first =>
          cases m0
          · go_wp2_with fail
            refine wp_region_held_drew (S := fun _ => True) (by kernel_rfl) trivial (fun hHeld => ?_)
            refine wpAnyH_take (i := 0) (oi := ⟨some 51, _, _, _, _, _⟩) (v := .slice (some ⟨g, 0, none⟩) 2 2) rfl (by kernel_rfl) (by kernel_rfl) (by kernel_rfl) (fun _ _ _ h => h) (Or.inl ⟨by rfl, (fun w' hS => by clear hS; go_simp)⟩) (by assumption) ?_
            try simp only [Act.put, List.setIfInBounds_toArray, List.set_cons_zero, List.set_cons_succ]
            refine wpAnyH_take (i := 1) (oi := ⟨some 52, _, _, _, _, _⟩) (v := .slice A1 a.length c1) rfl (by kernel_rfl) (by kernel_rfl) (by kernel_rfl) (fun _ _ _ h => h) (Or.inl ⟨by rfl, (fun w' hS => by clear hS; go_simp)⟩) (by assumption) ?_
            try simp only [Act.put, List.setIfInBounds_toArray, List.set_cons_zero, List.set_cons_succ]
            refine wpAnyH_take (i := 3) (oi := ⟨some 54, _, _, _, _, _⟩) (v := .slice (some ⟨g, 0, none⟩) 2 2) rfl (by kernel_rfl) (by kernel_rfl) (by kernel_rfl) (fun _ _ _ h => h) (Or.inl ⟨by rfl, (fun w' hS => by clear hS; go_simp)⟩) (by assumption) ?_
            try simp only [Act.put, List.setIfInBounds_toArray, List.set_cons_zero, List.set_cons_succ]
            refine wpAnyH_take (i := 4) (oi := ⟨some 55, _, _, _, _, _⟩) (v := .slice (some ⟨g, 0, none⟩) 1 2) rfl (by kernel_rfl) (by kernel_rfl) (by kernel_rfl) (fun _ _ _ h => h) (Or.inl ⟨by rfl, (fun w' hS => by clear hS; go_simp)⟩) (by assumption) ?_
            try simp only [Act.put, List.setIfInBounds_toArray, List.set_cons_zero, List.set_cons_succ]
            refine wpAnyH_take (i := 5) (oi := ⟨some 56, _, _, _, _, _⟩) (v := .slice A1 a.length c1) rfl (by kernel_rfl) (by kernel_rfl) (by kernel_rfl) (fun _ _ _ h => h) (Or.inl ⟨by rfl, (fun w' hS => by clear hS; go_simp)⟩) (by assumption) ?_
            try simp only [Act.put, List.setIfInBounds_toArray, List.set_cons_zero, List.set_cons_succ]
            refine wpAnyH_ready (rs := [2]) (by kernel_rfl) (by simp) ?_
            refine AllReadyH.cons (o := { dst := some 53, op := Op.call { callee := Callee.value (Operand.func 26), args := #[Operand.tmp 51, Operand.tmp 52], argTypes := #[26, 22] }, type := 4, pos := "outright.go:132", after := #[{ on := 0, ground := Ground.data }, { on := 1, ground := Ground.data }], guard := none }) rfl (fun K2 hK => ?_) AllReadyH.nil
            rw [if_pos (by rfl)]
            go_simp
            refine (Q2.out _ OB.out.drew).mono ?_
            rintro e w5 ⟨rfl, hb⟩
            replace OB := Lib.hid (OB.out.drew.below hb)
            clear hb
            refine hK.out _ _ trivial (fun hHeld2 => ?_)
            clear hK K2 hHeld
            try simp only [Act.put, List.setIfInBounds_toArray, List.set_cons_zero, List.set_cons_succ]
            refine wpAnyH_ready (rs := [6]) (by kernel_rfl) (by simp) ?_
            refine AllReadyH.cons (o := { dst := some 57, op := Op.call { callee := Callee.value (Operand.func 26), args := #[Operand.tmp 55, Operand.tmp 56], argTypes := #[26, 22] }, type := 4, pos := "outright.go:132", after := #[{ on := 4, ground := Ground.data }, { on := 5, ground := Ground.data }, { on := 2, ground := Ground.chain }], guard := none }) rfl (fun K2 hK => ?_) AllReadyH.nil
            rw [if_pos (by rfl)]
            go_simp
            refine (Q1.out _ OB.out).mono ?_
            rintro e w5 ⟨rfl, hb⟩
            replace OB := Lib.hid (OB.out.below hb)
            clear hb
            refine hK.out _ _ trivial (fun hHeld3 => ?_)
            clear hK K2 hHeld2
            try simp only [Act.put, List.setIfInBounds_toArray, List.set_cons_zero, List.set_cons_succ]
            refine wpAnyH_take (i := 7) (oi := ⟨some 58, _, _, _, _, _⟩) (v := .bool false) rfl (by kernel_rfl) (by kernel_rfl) (by kernel_rfl) (fun _ _ _ h => h) (Or.inl ⟨by rfl, (fun w' hS => by clear hS; go_simp)⟩) (by assumption) ?_
            try simp only [Act.put, List.setIfInBounds_toArray, List.set_cons_zero, List.set_cons_succ]
            refine wpAnyH_take (i := 8) (oi := ⟨some 59, _, _, _, _, _⟩) (v := undef) rfl (by kernel_rfl) (by kernel_rfl) (by kernel_rfl) (fun _ _ _ h => h) (Or.inr ⟨by rfl, rfl⟩) (by assumption) ?_
            try simp only [Act.put, List.setIfInBounds_toArray, List.set_cons_zero, List.set_cons_succ]
            refine wpAnyH_take (i := 9) (oi := ⟨some 60, _, _, _, _, _⟩) (v := undef) rfl (by kernel_rfl) (by kernel_rfl) (by kernel_rfl) (fun _ _ _ h => h) (Or.inr ⟨by rfl, rfl⟩) (by assumption) ?_
            try simp only [Act.put, List.setIfInBounds_toArray, List.set_cons_zero, List.set_cons_succ]
            refine wpAnyH_take (i := 10) (oi := ⟨some 61, _, _, _, _, _⟩) (v := undef) rfl (by kernel_rfl) (by kernel_rfl) (by kernel_rfl) (fun _ _ _ h => h) (Or.inr ⟨by rfl, rfl⟩) (by assumption) ?_
            try simp only [Act.put, List.setIfInBounds_toArray, List.set_cons_zero, List.set_cons_succ]
            refine wpAnyH_take (i := 11) (oi := ⟨some 62, _, _, _, _, _⟩) (v := undef) rfl (by kernel_rfl) (by kernel_rfl) (by kernel_rfl) (fun _ _ _ h => h) (Or.inr ⟨by rfl, rfl⟩) (by assumption) ?_
            try simp only [Act.put, List.setIfInBounds_toArray, List.set_cons_zero, List.set_cons_succ]
            refine wpAnyH_take (i := 12) (oi := ⟨some 63, _, _, _, _, _⟩) (v := .bool false) rfl (by kernel_rfl) (by kernel_rfl) (by kernel_rfl) (fun _ _ _ h => h) (Or.inl ⟨by rfl, (fun w' hS => by clear hS; go_simp)⟩) (by assumption) ?_
            try simp only [Act.put, List.setIfInBounds_toArray, List.set_cons_zero, List.set_cons_succ]
            refine wpAnyH_take (i := 13) (oi := ⟨some 64, _, _, _, _, _⟩) (v := .bool false) rfl (by kernel_rfl) (by kernel_rfl) (by kernel_rfl) (fun _ _ _ h => h) (Or.inl ⟨by rfl, (fun w' hS => by clear hS; go_simp)⟩) (by assumption) ?_
            try simp only [Act.put, List.setIfInBounds_toArray, List.set_cons_zero, List.set_cons_succ]
            refine wpAnyH_done (by kernel_rfl) ?_ _
            clear hHeld3
            go_wp2_with fail
            go_meet
            exact ⟨rfl, OB.out⟩
          · cases m1
            all_goals
              go_region_held3 (fun _ => True) (first | trivial)
                (first
                  | ((with_reducible refine (Q2.out _ OB.out.drew).mono ?_); rintro e w5 ⟨rfl, hb⟩; replace OB := Lib.hid (OB.out.drew.below hb); clear hb)
                  | ((with_reducible refine (Q1.out _ OB.out).mono ?_); rintro e w5 ⟨rfl, hb⟩; replace OB := Lib.hid (OB.out.below hb); clear hb)
                  | ((with_reducible refine (Qu.out _ OB.out).mono ?_); rintro e w5 ⟨rfl, hb⟩; replace OB := Lib.hid (OB.out.below hb); clear hb))
              all_goals
                go_wp2_with fail
                go_meet
                exact ⟨rfl, OB.out⟩
        case rest =>
          obtain ⟨rfl, hob⟩ := hcut
          have SA := Lib.hid hob.sa
          have HB := Lib.hid hob.bw
          have RB1 : Hid (∀ w, SlAt w A1 (cellsL a) → Calls Try.prog 27 #[.slice A1 a.length c1, .slice A1 a.length c1] w fun e w' => e = .returned (.bool true) ∧ Below w.heap.size w w') := Lib.hid (fun w h => by
            have k := bears_any A1 A1 c1 c1 a a w (by omega) D1.out.1 (by omega) D1.out.1 h h
            rw [bears_self] at k
            exact k)
          have RB2 : Hid (∀ w, SlAt w A1 (cellsL a) → Calls Try.prog 27 #[.slice A1 a.length c1, .slice none 0 0] w fun e w' => e = .returned (.bool true) ∧ Below w.heap.size w w') := Lib.hid (fun w h =>
            bears_any A1 none c1 0 a [] w (by omega) D1.out.1 (by simp) (by simp) h (SlAt.nil _ _))
          have RB3 : Hid (∀ w, SlAt w A1 (cellsL a) → Calls Try.prog 27 #[.slice none 0 0, .slice A1 a.length c1] w fun e w' => e = .returned (.bool (decide (a.length = 0))) ∧ Below w.heap.size w w') := Lib.hid (fun w h => by
            have k := bears_any none A1 0 c1 [] a w (by simp) (by simp) (by omega) D1.out.1 (SlAt.nil _ _) h
            rw [bears_none] at k
            exact k)
          clear hob OB Q1 Q2 Qu Hm Hu KY
          have hz : (decide (a.length = 0) = true ∧ ((a.length : Int) == 0) = true) ∨ (decide (a.length = 0) = false ∧ ((a.length : Int) == 0) = false) := by
            by_cases h : a.length = 0
            · exact .inl ⟨decide_eq_true h, by rw [beq_iff_eq]; omega⟩
            · exact .inr ⟨decide_eq_false h, by rw [beq_eq_false_iff_ne]; omega⟩
          have HZ := Lib.hid hz
          clear hz
          go_upto_region 10 with fail
          go_cut [81] (fun s81 we => s81 = .bool false ∧ SlAt we A1 (cellsL a) ∧ Below w.heap.size w we)
          case first =>
            go_wp2_with fail
            refine (RB1.out _ SA.out).mono ?_
            rintro e w6 ⟨rfl, hb⟩
            replace SA := Lib.hid (SA.out.below hb)
            replace HB := Lib.hid (HB.out.trans (hb.mono HB.out.size))
            clear hb
            go_wp2_with fail
            refine (RB2.out _ SA.out).mono ?_
            rintro e w7 ⟨rfl, hb⟩
            replace SA := Lib.hid (SA.out.below hb)
            replace HB := Lib.hid (HB.out.trans (hb.mono HB.out.size))
            clear hb
            go_wp2_with fail
            refine (RB3.out _ SA.out).mono ?_
            rintro e w8 ⟨rfl, hb⟩
            replace SA := Lib.hid (SA.out.below hb)
            replace HB := Lib.hid (HB.out.trans (hb.mono HB.out.size))
            clear hb RB1 RB2 RB3
            rcases HZ.out with ⟨z1, z2⟩ | ⟨z1, z2⟩
            all_goals
              rw [z1]
              have Z1 := Lib.hid z1
              clear z1 HZ
              go_wp2_with fail
              go_meet
              exact ⟨rfl, SA.out, HB.out⟩
          case rest =>
            obtain ⟨rfl, hsa, hbw⟩ := hcut
            obtain ⟨wb, rfl⟩ : ∃ wb, wb = wc := ⟨_, rfl⟩
            replace SA := Lib.hid hsa
            replace HB := Lib.hid hbw
            clear hsa hbw RB1 RB2 RB3 HZ
            obtain ⟨i0, hi0, hz0, hz1, hz2⟩ := info_parts info_L
            go_wp2_with fail
            go_loopw [11] (fun i wr => ∃ k : Nat, k ≤ a.length ∧ i = .int .i64 k ∧ Below wb.heap.size wb wr) (fun i _ => a.length - (intOf i).toNat)
            case atStart => exact ⟨0, by omega, rfl, Below.refl _ _⟩
            case round =>
              obtain ⟨k, hk, rfl, hbw⟩ := hrel
              have HW := Lib.hid hbw
              have SW := Lib.hid (SA.out.below hbw)
              clear hbw
              by_cases hlt : k < a.length
              · obtain ⟨x1, hx⟩ : ∃ x1, a[k]? = some x1 := ⟨a[k], List.getElem?_eq_getElem hlt⟩
                obtain ⟨ga, hga⟩ := OW.out (by omega)
                subst hga
                have hgl : ga < wr.heap.size := by
                  obtain ⟨b, o, hA, hb, _⟩ := SlAt.lab SW.out hx
                  cases hA
                  exact hb
                obtain ⟨m2, hm2⟩ : ∃ m2, a.length - (k + 1) = m2 := ⟨_, rfl⟩
                have hle : k + 1 ≤ a.length := hlt
                have hsl : (someF a k).length = k + m2 := by rw [some_len hlt]; omega
                have htk : (a.take k).length = k := by rw [List.length_take]; omega
                have hdk : (a.drop (k + 1)).length = m2 := by rw [List.length_drop]; omega
                have hsc : cellsL (a.take k) ++ cellsL (a.drop (k + 1)) = cellsL (someF a k) := by unfold someF; rw [cellsL_app]
                have lt1 : (cellsL (a.take k)).length = k * 2 := by rw [cellsL_len, htk]
                have lt2 : (cellsL (a.drop (k + 1))).length = m2 * 2 := by rw [cellsL_len, hdk]
                have HSC := Lib.hid hsc
                have HSL := Lib.hid hsl
                have HX := Lib.hid hx
                have LT1 := Lib.hid lt1
                have LT2 := Lib.hid lt2
                have OE := Lib.hid (own_empty wr 41 2)
                have D11 : a.length ≤ c1 := D1.out.1
                have D12 : c1 ≤ 9223372036854775807 := by have := D1.out.2; unfold maxLen at this; omega
                have k0 : (0 : Int) ≤ (k : Int) := by omega
                have k1 : (k : Int) < (a.length : Int) := by omega
                have k2 : (k : Int) + 1 ≤ (a.length : Int) := by omega
                have k3 : (k : Int) ≤ (c1 : Int) := by omega
                have kw : IntKind.i64.wrap ((k : Int) + 1) = (k : Int) + 1 := IntWalk.i64_in _ (by omega)
                have kn : ((k : Int) + 1).toNat = k + 1 := by omega
                have k4 : (0 : Int) ≤ (k : Int) + 1 := by omega
                have NT := Lib.hid (fun (w' : World) (h : SlAt w' (some ⟨ga, 0, none⟩) (cellsL a)) => news_take h k)
                have ND := Lib.hid (fun (w' : World) (h : SlAt w' (some ⟨ga, 0, none⟩) (cellsL a)) => news_drop h (k + 1) hle)
                clear hx hsc hsl htk hdk lt1 lt2
                go_upto_region 15 with fail
                go_cut [12] (fun s12 we => ∃ (A6 : Option Addr) (c6 : Nat), s12 = .slice A6 (someF a k).length c6 ∧ we.ownsRow wr.heap.size 41 2 (.slice A6 (someF a k).length c6) (someF a k).length (cellsL (someF a k)) ∧ Below wr.heap.size wr we)
                case first =>
                  by_cases hcap : c1 = k + 1
                  · obtain rfl : m2 = 0 := by omega
                    have hdn : a.drop (k + 1) = [] := List.length_eq_zero_iff.1 (by rw [List.length_drop]; omega)
                    have HCL : Hid (∀ (w6 : World) (v' : Value), w6.ownsRow wr.heap.size 41 2 v' (k + 0) (cellsL (a.take k) ++ cellsL []) → w6.ownsRow wr.heap.size 41 2 v' (someF a k).length (cellsL (someF a k))) := Lib.hid (fun w6 v' h => by
                      rw [HSL.out, ← HSC.out, hdn]
                      exact h)
                    subst hcap
                    have k5 : (k : Int) ≤ (k : Int) + 1 := by omega
                    have HDN := Lib.hid hdn
                    clear hdn
                    go_region_law (first | (refine step_append_own (by rfl) _ _ 22 (by rfl) wr.heap.size 41 i0 (.agg #[.string ⟨#[]⟩, .string ⟨#[]⟩]) 2 32 Try.underlying22 hi0 hz0 hz1 hz2 rfl (by decide) (.slice A5 k c5) k (cellsL (a.take k)) (by rfl) OW5.out ⟨ga, 0, none⟩ 0 0 (cellsL []) (by rfl) rfl (fun j u hj => by simp [cellsL] at hj) (cellsL_one _) (by unfold maxLen; omega) (by omega) BW5.out.size ?_; intro v' w6 hown' hgrow' _; have hown3 : w6.ownsRow wr.heap.size 41 2 v' (someF a k).length (cellsL (someF a k)) := (HCL.out _ _ hown'); have OW6 := Lib.hid hown3; obtain ⟨A6, c6, rfl, _⟩ := own_slice hown3; have BW6 := Lib.hid (BW5.out.grown hgrow' BW5.out.size (fun j hj => own_ge' OW5.out hj)); clear hown' hown3 hgrow') | (refine step_append_own (by rfl) _ _ 22 (by rfl) wr.heap.size 41 i0 (.agg #[.string ⟨#[]⟩, .string ⟨#[]⟩]) 2 32 Try.underlying22 hi0 hz0 hz1 hz2 rfl (by decide) (.slice (some ⟨wr.heap.size, 0, none⟩) 0 0) 0 [] (by rfl) OE.out ⟨ga, 0, none⟩ k (k + 1) (cellsL (a.take k)) (by rfl) LT1.out (NT.out _ (SW.out.below ((below1 wr (.cells #[] 41)).drew))) (cellsL_one _) (by unfold maxLen; omega) (by omega) (by simp) ?_; intro v' w4 hown' hgrow' _; rw [Nat.zero_add, List.nil_append] at hown'; have OW5 := Lib.hid hown'; obtain ⟨A5, c5, rfl, _⟩ := own_slice hown'; have BW5 : Hid (Below wr.heap.size wr w4) := Lib.hid (((below1 wr (.cells #[] 41)).drew).grown hgrow' (Nat.le_of_lt (alloc_lt wr _)) (fun j hj => own_ge' OE.out hj)); clear hown' hgrow'))
                    all_goals
                      go_wp2_with fail
                      go_meet
                      exact ⟨_, _, rfl, OW6.out, BW6.out⟩
                  · have hcap2 : ¬ k + 1 = c1 := fun e => hcap e.symm
                    have HCL : Hid (∀ (w6 : World) (v' : Value), w6.ownsRow wr.heap.size 41 2 v' (k + m2) (cellsL (a.take k) ++ cellsL (a.drop (k + 1))) → w6.ownsRow wr.heap.size 41 2 v' (someF a k).length (cellsL (someF a k))) := Lib.hid (fun w6 v' h => by
                      rw [HSL.out, ← HSC.out]
                      exact h)
                    go_region_law (first | (refine step_append_own (by rfl) _ _ 22 (by rfl) wr.heap.size 41 i0 (.agg #[.string ⟨#[]⟩, .string ⟨#[]⟩]) 2 32 Try.underlying22 hi0 hz0 hz1 hz2 rfl (by decide) (.slice A5 k c5) k (cellsL (a.take k)) (by rfl) OW5.out ⟨ga, (k + 1) * 2, none⟩ m2 (c1 - (k + 1)) (cellsL (a.drop (k + 1))) (by rfl) LT2.out (ND.out _ (SW.out.below BW5.out)) (cellsL_one _) (by unfold maxLen; omega) (by omega) BW5.out.size ?_; intro v' w6 hown' hgrow' _; have hown3 : w6.ownsRow wr.heap.size 41 2 v' (someF a k).length (cellsL (someF a k)) := (HCL.out _ _ hown'); have OW6 := Lib.hid hown3; obtain ⟨A6, c6, rfl, _⟩ := own_slice hown3; have BW6 := Lib.hid (BW5.out.grown hgrow' BW5.out.size (fun j hj => own_ge' OW5.out hj)); clear hown' hown3 hgrow') | (refine step_append_own (by rfl) _ _ 22 (by rfl) wr.heap.size 41 i0 (.agg #[.string ⟨#[]⟩, .string ⟨#[]⟩]) 2 32 Try.underlying22 hi0 hz0 hz1 hz2 rfl (by decide) (.slice (some ⟨wr.heap.size, 0, none⟩) 0 0) 0 [] (by rfl) OE.out ⟨ga, 0, none⟩ k c1 (cellsL (a.take k)) (by rfl) LT1.out (NT.out _ (SW.out.below ((below1 wr (.cells #[] 41)).drew))) (cellsL_one _) (by unfold maxLen; omega) (by omega) (by simp) ?_; intro v' w4 hown' hgrow' _; rw [Nat.zero_add, List.nil_append] at hown'; have OW5 := Lib.hid hown'; obtain ⟨A5, c5, rfl, _⟩ := own_slice hown'; have BW5 : Hid (Below wr.heap.size wr w4) := Lib.hid (((below1 wr (.cells #[] 41)).drew).grown hgrow' (Nat.le_of_lt (alloc_lt wr _)) (fun j hj => own_ge' OE.out hj)); clear hown' hgrow'))
                    all_goals
                      go_wp2_with fail
                      go_meet
                      exact ⟨_, _, rfl, OW6.out, BW6.out⟩
                case rest =>
                  obtain ⟨A6, c6, rfl, how, hbe⟩ := hcut
                  obtain ⟨we, rfl⟩ : ∃ we, we = wc := ⟨_, rfl⟩
                  have SE := Lib.hid (SW.out.below hbe)
                  have HE := Lib.hid hbe
                  have SO := Lib.hid (own_slat how)
                  have HO := Lib.hid how
                  have C6 := Lib.hid (show (someF a k).length ≤ c6 ∧ c6 ≤ maxLen from own_cap how)
                  have hs6 : (someF a k).length ≤ 6 := by rw [HSL.out]; omega
                  obtain ⟨_, _, hA, _, y0, y1⟩ := SlAt.lab SE.out HX.out
                  cases hA
                  rw [Nat.zero_add] at y0 y1
                  have RC1 : Hid (∀ w, SlAt w A6 (cellsL (someF a k)) → SlAt w (some ⟨ga, 0, none⟩) (cellsL a) → Calls Try.prog 27 #[.slice A6 (someF a k).length c6, .slice (some ⟨ga, 0, none⟩) a.length c1] w fun e w' => e = .returned (.bool false) ∧ Below w.heap.size w w') := Lib.hid (fun w h1 h2 => by
                    have k := bears_any A6 (some ⟨ga, 0, none⟩) c6 c1 (someF a k) a w (by omega) C6.out.1 (by omega) D1.out.1 h1 h2
                    rw [bears_less KP.out HX.out] at k
                    exact k)
                  have RC2 : Hid (∀ w, SlAt w A6 (cellsL (someF a k)) → SlAt w (some ⟨ga, 0, none⟩) (cellsL a) → Calls Try.prog 27 #[.slice (some ⟨ga, 0, none⟩) a.length c1, .slice A6 (someF a k).length c6] w fun e w' => e = .returned (.bool true) ∧ Below w.heap.size w w') := Lib.hid (fun w h1 h2 => by
                    have k := bears_any (some ⟨ga, 0, none⟩) A6 c1 c6 a (someF a k) w (by omega) D1.out.1 (by omega) C6.out.1 h2 h1
                    rw [bears_more] at k
                    exact k)
                  have RC3 : Hid (∀ w (A7 : Option Addr) (c7 : Nat), (someF a k).length + 1 ≤ c7 → SlAt w A7 (cellsL (someF a k ++ [(x1.1, [42])])) → SlAt w (some ⟨ga, 0, none⟩) (cellsL a) → Calls Try.prog 27 #[.slice A7 ((someF a k).length + 1) c7, .slice (some ⟨ga, 0, none⟩) a.length c1] w fun e w' => e = .returned (.bool true) ∧ Below w.heap.size w w') := Lib.hid (fun w A7 c7 hc7 h1 h2 => by
                    have k := bears_any A7 (some ⟨ga, 0, none⟩) c7 c1 (someF a k ++ [(x1.1, [42])]) a w (by simp; omega) (by simp; omega) (by omega) D1.out.1 h1 h2
                    rw [bears_star HX.out, List.length_append, List.length_singleton] at k
                    exact k)
                  have RG : Hid (∀ w, SlAt w (some ⟨ga, 0, none⟩) (cellsL a) → Calls Try.prog 28 #[.slice (some ⟨ga, 0, none⟩) a.length c1, strV x1.1] w fun e w' => e = .returned (.tuple #[strV x1.2, .bool true]) ∧ Below w.heap.size w w') := Lib.hid (fun w h => by
                    have k := get_any (some ⟨ga, 0, none⟩) c1 a x1.1 w (by omega) D1.out.1 h (fun x hx => by have := labB_short (CA.out.2 x hx); omega)
                    rw [get_key KP.out HX.out] at k
                    exact k)
                  obtain ⟨n6, hn6⟩ : ∃ n6, (someF a k).length = n6 := ⟨_, rfl⟩
                  rw [hn6] at hs6 RC1 RC2 RC3 C6 HO ⊢
                  clear how hbe hn6 HSL HSC LT1 LT2 NT ND OE hm2 kn kw
                  go_wp2_with fail
                  refine (RC1.out _ SO.out SE.out).mono ?_
                  rintro e v1 ⟨rfl, hb⟩
                  have S2 := Lib.hid (SO.out.below hb)
                  have E2 := Lib.hid (SE.out.below hb)
                  have B2 := Lib.hid (HE.out.trans (hb.mono HE.out.size))
                  have O2 := Lib.hid (own_below HO.out hb)
                  clear hb
                  go_wp2_with fail
                  refine (RC2.out _ S2.out E2.out).mono ?_
                  rintro e v2 ⟨rfl, hb⟩
                  replace E2 := Lib.hid (E2.out.below hb)
                  replace B2 := Lib.hid (B2.out.trans (hb.mono B2.out.size))
                  replace O2 := Lib.hid (own_below O2.out hb)
                  clear hb S2 SO HO y0 y1
                  obtain ⟨_, _, hA, _, y0, y1⟩ := SlAt.lab E2.out HX.out
                  cases hA
                  rw [Nat.zero_add] at y0 y1
                  go_wp2_with (at_builtin; refine wpList_append_wanted (by rfl) _ _ 22 rfl wr.heap.size 41 i0 (.agg #[.string ⟨#[]⟩, .string ⟨#[]⟩]) 2 32 Try.underlying22 hi0 hz0 hz1 hz2 rfl (by decide) _ _ _ rfl (O2.out.alloc _) ⟨v2.heap.size, 0, none⟩ 1 1 [strV x1.1, strV [42]] rfl rfl ?a1 ?b1 ?c1 ?d1 ?e1 ?_)
                  case a1 =>
                    intro j u hj
                    match j, hj with
                    | 0, hj => simp at hj; subst hj; first | (simp [Addr.add, go_sem]; done) | exact Blk.cell (Blk.new _ _ _) 0
                    | 1, hj => simp at hj; subst hj; first | (simp [Addr.add, go_sem]; done) | exact Blk.cell (Blk.new _ _ _) 1
                  case b1 => intro u hu; simp at hu; rcases hu with rfl | rfl <;> rfl
                  case c1 => unfold maxLen; omega
                  case d1 => omega
                  case e1 => have := B2.out.size; simp at this ⊢; omega
                  intro v' w4 hown' hgrow' _
                  obtain ⟨A7, c7, rfl, _⟩ := own_slice hown'
                  have C7 := Lib.hid (show n6 + 1 ≤ c7 ∧ c7 ≤ maxLen from own_cap hown')
                  have S7 : Hid (SlAt w4 A7 (cellsL (someF a k ++ [(x1.1, [42])]))) := Lib.hid (by rw [cellsL_snoc]; exact own_slat hown')
                  have B4 := Lib.hid ((B2.out.alloc B2.out.size (.cells #[strV x1.1, strV [42]] 41)).grown hgrow' (by have := B2.out.size; simp at this ⊢; omega) (fun k hk => own_ge' O2.out hk))
                  have E4 := Lib.hid (SW.out.below B4.out)
                  clear hown' hgrow' y0 y1 E2 O2 RC1 RC2
                  go_wp2_with fail
                  refine (RC3.out _ A7 c7 C7.out.1 S7.out E4.out).mono ?_
                  rintro e v5 ⟨rfl, hb⟩
                  have E5 := Lib.hid (E4.out.below hb)
                  have B5 := Lib.hid (B4.out.trans (hb.mono B4.out.size))
                  clear hb S7 RC3
                  obtain ⟨_, _, hA, _, y0, y1⟩ := SlAt.lab E5.out HX.out
                  cases hA
                  rw [Nat.zero_add] at y0 y1
                  go_wp2_with fail
                  refine (RG.out _ E5.out).mono ?_
                  rintro e v6 ⟨rfl, hb⟩
                  have E6 := Lib.hid (E5.out.below hb)
                  have B6 := Lib.hid (B5.out.trans (hb.mono B5.out.size))
                  clear hb RG y0 y1
                  obtain ⟨_, _, hA, _, y0, y1⟩ := SlAt.lab E6.out HX.out
                  cases hA
                  rw [Nat.zero_add] at y0 y1
                  go_wp2
                  go_roundw
                  case rel => exact ⟨k + 1, by omega, by go_num, HW.out.trans (B6.out.mono HW.out.size)⟩
                  case measure => simp [intOf]; omega
              · obtain rfl : k = a.length := by omega
                go_wp2_with fail
                refine (works_any _).mono ?_
                rintro e w9 ⟨rfl, hb⟩
                have B9 := Lib.hid ((HB.out.trans (HW.out.mono HB.out.size)).trans (hb.mono (HB.out.trans (HW.out.mono HB.out.size)).size))
                clear hb
                go_wp2
                go_ret
                exact ⟨rfl, B9.out⟩
end Go.Proofs.Yteclbkjonaildaa
