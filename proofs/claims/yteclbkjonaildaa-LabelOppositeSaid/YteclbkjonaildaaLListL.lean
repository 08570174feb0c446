/- What readList answers, for whatever reads a part, and whatever order parts are in: as a plain function. Conditions: what it is handed answers so, and leaves what was there as it was. -/
import Derived.Test.YteclbkjonaildaaLRise
namespace Go.Proofs.Yteclbkjonaildaa
open Go.RowKit

theorem info_L : (Try.prog.info? 41).map (fun i => (i.zero, i.size, i.bytes)) = some (some (.agg #[.string ⟨#[]⟩, .string ⟨#[]⟩]), 2, 32) := by kernel_rfl
/-- What a list that was read leaves. -/
def ListedL (w : World) (x : List (List UInt8 × List UInt8) × Nat × Int) (e : Ending) (w' : World) : Prop :=
  ∃ v, e = .returned (.tuple #[v, .int .i64 (x.2.1 : Int), .int .i64 x.2.2]) ∧ w'.ownsRow w.heap.size 41 2 v x.1.length (cellsL x.1) ∧ Below w.heap.size w w'

set_option maxRecDepth 100000 in
set_option maxHeartbeats 4000000 in
theorem readListL_any (step : List UInt8 → Nat → (List UInt8 × List UInt8) × Bool × Nat) (rises : List UInt8 × List UInt8 → List UInt8 × List UInt8 → Bool) (g r : FuncId) (l : List UInt8) (w : World) (hl : l.length ≤ 140737488355328)
    (hg1 : ∀ (args : Array Value) (w : World), (callFunc g args).run Try.prog w = .ok (.enter g args) w) (hr1 : ∀ (args : Array Value) (w : World), (callFunc r args).run Try.prog w = .ok (.enter r args) w)
    (hst : ∀ (B a : Nat) (w : World), RdAt w B l a → a ≤ l.length → Calls Try.prog g #[.pointer (some ⟨B, 0, none⟩)] w (ReadsL w B l (step l a)))
    (hsz : ∀ a, a ≤ l.length → (step l a).2.2 ≤ l.length)
    (hri : ∀ (a b : List UInt8 × List UInt8) (w : World), Calls Try.prog r #[labV a, labV b] w fun e w' => e = .returned (.bool (rises a b)) ∧ Below w.heap.size w w') :
    Calls Try.prog 29 #[strV l, .func (Fn.func g) #[] #[], .func (Fn.func r) #[] #[]] w (ListedL w (readA step rises l)) := by
  have Hst := Lib.hid hst
  have Hsz := Lib.hid hsz
  have Hri := Lib.hid hri
  clear hst hsz hri
  rcases hV : readA step rises l with ⟨res, x0, e0⟩
  have HV := Lib.hid hV
  clear hV
  obtain ⟨i0, hi0, hz0, hz1, hz2⟩ := info_parts info_L
  by_cases hnil : l = []
  · have h1 : l.isEmpty = true := by simp [hnil]
    have h2 := HV.out
    unfold readA at h2
    rw [if_pos hnil] at h2
    simp only [Prod.mk.injEq] at h2
    obtain ⟨rfl, rfl, rfl⟩ := h2
    have Hnil := Lib.hid hnil
    clear hnil
    go_enter Try.func29, Try.ntmps29
    go_wp2
    go_ret3
    exact ⟨_, rfl, World.ownsRow_nil _ _ _ _, Below.refl _ _⟩
  · have h1 : l.isEmpty = false := by simpa using hnil
    have HF : Hid (readF step rises l 7 [] 0 = (res, x0, e0)) := by
      have h2 := HV.out
      unfold readA at h2
      rwa [if_neg hnil] at h2
    have Hnil := Lib.hid hnil
    clear hnil
    go_enter Try.func29, Try.ntmps29
    go_wp2
    go_loopw [6] (fun v wr => ∃ (acc : List (List UInt8 × List UInt8)) (a f : Nat), wr.ownsRow w.heap.size 41 2 v acc.length (cellsL acc) ∧ RdAt wr w.heap.size l a ∧ Below w.heap.size w wr ∧ a ≤ l.length ∧ acc.length + f = 6 ∧ readF step rises l (f + 1) acc a = (res, x0, e0)) (fun v _ => match v with | .slice _ n _ => 7 - n | _ => 0)
    case atStart => exact ⟨[], 0, 6, World.ownsRow_nil _ _ _ _, Blk.new w _ _, below1 _ _, by omega, rfl, HF.out⟩
    case round =>
      obtain ⟨acc, a, f, hown, hrd, hbw, hal, hf, hF⟩ := hrel
      obtain ⟨A, cp, rfl, _⟩ := own_slice hown
      rcases hs : step l a with ⟨⟨xk, xv⟩, is, z⟩
      have hc := Hst.out w.heap.size a wr hrd hal
      have hzl := Hsz.out a hal
      rw [readF, hs] at hF
      rw [hs] at hc hzl
      simp only at hF hzl
      have hone := own_not hown hrd (by decide)
      have hBlt : w.heap.size < wr.heap.size := hrd.lt
      have c1 := hrd.c1
      have Hc := Lib.hid hc
      have Hown := Lib.hid hown
      have Hrd := Lib.hid hrd
      have Hbw := Lib.hid hbw
      have Hone := Lib.hid hone
      have HFo := Lib.hid hF
      clear hs hc hF hown hrd hbw hone HF
      go_wp2_with fail
      refine Hc.out.mono ?_
      rintro e w1 ⟨rfl, hr, hg⟩
      have R1 := Lib.hid hr
      have Own1 := Lib.hid (Hown.out.kept hg (.inr Hone.out))
      have B1 := Lib.hid (Hbw.out.grown hg (by omega) (fun k hk => by cases hk; exact Nat.le_refl _))
      have hz1lt : w.heap.size < w1.heap.size := R1.out.lt
      clear hr hg c1
      have c1 := R1.out.c1
      simp only at c1
      cases is
      · have hF := HFo.out
        rw [if_pos rfl] at hF
        simp only [Prod.mk.injEq] at hF
        obtain ⟨rfl, rfl, he⟩ := hF
        have He := Lib.hid he
        clear he
        by_cases hov : z = l.length
        · have hovb : ((z : Int) == (l.length : Int)) = true := by simp; omega
          have E : Hid (e0 = 3) := by show e0 = 3; rw [← He.out, if_pos hov]
          have Hov := Lib.hid hov
          clear hov
          go_wp2
          go_quiet (fail)
          go_wp2
          go_ret3
          exact ⟨_, by rw [E.out]; rfl, World.ownsRow_nil _ _ _ _, belowN (B1.out.alloc B1.out.size _) _⟩
        · have hovb : ((z : Int) == (l.length : Int)) = false := by simp; omega
          have E : Hid (e0 = 4) := by show e0 = 4; rw [← He.out, if_neg hov]
          have Hov := Lib.hid hov
          clear hov
          go_wp2
          go_quiet (fail)
          go_wp2
          go_ret3
          exact ⟨_, by rw [E.out]; rfl, World.ownsRow_nil _ _ _ _, belowN (B1.out.alloc B1.out.size _) _⟩
      · have hF := HFo.out
        rw [if_neg (by simp)] at hF
        have HF2 := Lib.hid hF
        clear hF HFo
        by_cases hov : z = l.length
        · have hovb : ((z : Int) == (l.length : Int)) = true := by simp; omega
          have hF := HF2.out
          rw [if_neg (by simp [hov])] at hF
          have HF3 := Lib.hid hF
          have Hov := Lib.hid hov
          clear hF hov HF2
          by_cases h6 : acc.length = 6
          · have h6b : ((acc.length : Int) == 6) = true := by simp; omega
            have hF := HF3.out
            rw [if_pos h6] at hF
            simp only [Prod.mk.injEq] at hF
            obtain ⟨rfl, rfl, rfl⟩ := hF
            have H6 := Lib.hid h6
            clear h6
            go_wp2
            go_ret3
            exact ⟨_, rfl, World.ownsRow_nil _ _ _ _, B1.out.alloc B1.out.size (.cells #[strV xk, strV xv] 41)⟩
          · have h6b : ((acc.length : Int) == 6) = false := by simp; omega
            have hF := HF3.out
            rw [if_neg h6] at hF
            have HF4 := Lib.hid hF
            have h5 : acc.length ≤ 5 := by omega
            obtain ⟨f1, rfl⟩ : ∃ f1, f = f1 + 1 := ⟨f - 1, by omega⟩
            have H6 := Lib.hid h6
            clear hF h6 HF3
            rcases List.eq_nil_or_concat acc with hacc | ⟨pre, y, hacc⟩
            · have hlen : acc.length = 0 := by rw [hacc]; rfl
              have hn0 : decide (0 < acc.length) = false := by simp [hlen]
              have hF := HF4.out
              rw [show acc.getLast? = none by rw [hacc]; rfl] at hF
              simp only [Option.map_none, Option.getD_none, Bool.true_eq_false, ↓reduceIte] at hF
              have HF5 := Lib.hid hF
              have Hacc := Lib.hid hacc
              have Hlen := Lib.hid hlen
              clear hF HF4 hacc hlen
              go_upto_region 13 with fail
              go_quiet (fail)
              have HowD := Lib.hid (Own1.out.alloc (.cells #[strV xk, strV xv] 41))
              have HbeD := Lib.hid (B1.out.alloc B1.out.size (.cells #[strV xk, strV xv] 41))
              have HrdD := Lib.hid (Blk.alloc R1.out (.cells #[strV xk, strV xv] 41))
              go_wp2_with (at_builtin; refine wpList_append_own _ rfl _ _ 22 rfl w.heap.size 41 i0 (.agg #[.string ⟨#[]⟩, .string ⟨#[]⟩]) 2 32 Try.underlying22 hi0 hz0 hz1 hz2 rfl (by decide) _ _ _ rfl ((own_drewN HowD.out _).alloc _) ⟨w1.heap.size + 1, 0, none⟩ 1 1 [strV xk, strV xv] rfl rfl ?a1 ?b1 ?c1 ?d1 ?e1 ?_)
              case a1 =>
                intro j u hj
                match j, hj with
                | 0, hj => simp at hj; subst hj; first | (simp [Addr.add, go_sem]; done) | exact Blk.cell (Blk.new _ _ _) 0
                | 1, hj => simp at hj; subst hj; first | (simp [Addr.add, go_sem]; done) | exact Blk.cell (Blk.new _ _ _) 1
              case b1 => intro u hu; simp at hu; rcases hu with rfl | rfl <;> rfl
              case c1 => unfold maxLen; omega
              case d1 => omega
              case e1 => have := HbeD.out.size; simp at this ⊢; omega
              intro v' w4 hown' hgrow' _
              obtain ⟨A4, c4, rfl, _⟩ := own_slice hown'
              have Own4 := Lib.hid hown'
              have B4 := Lib.hid (((belowN HbeD.out _).alloc HbeD.out.size (.cells #[strV xk, strV xv] 41)).grown hgrow' (by have := HbeD.out.size; simp at this ⊢; omega) (fun k hk => own_ge' (HowD.out) hk))
              have R4 : Hid (RdAt w4 w.heap.size l z) := Lib.hid (Blk.kept (Blk.alloc (Blk.drewN HrdD.out _) _) hgrow' (Ne.symm (own_not (HowD.out) (HrdD.out) (by decide))))
              clear hown' hgrow'
              go_wp2
              have hF := HF5.out
              rw [if_pos Hov.out] at hF
              simp only [Prod.mk.injEq] at hF
              obtain ⟨rfl, rfl, rfl⟩ := hF
              go_ret3
              exact ⟨_, rfl, by simpa [cellsL_snoc] using Own4.out, B4.out⟩
            · have hpos : 0 < acc.length := by rw [hacc]; simp
              have hlast : acc.getLast? = some y := by rw [hacc]; simp
              have hat : acc[acc.length - 1]? = some y := by rw [hacc]; simp
              have HowD := Lib.hid (Own1.out.alloc (.cells #[strV xk, strV xv] 41))
              have HbeD := Lib.hid (B1.out.alloc B1.out.size (.cells #[strV xk, strV xv] 41))
              have HrdD := Lib.hid (Blk.alloc R1.out (.cells #[strV xk, strV xv] 41))
              obtain ⟨gb, cap, hA, hgb, hgl, hcap, hcapm, hcl⟩ := own_cells HowD.out hpos
              have hy := cellsL_at acc _ y hat
              have qy0 : (w1.alloc (.cells #[strV xk, strV xv] 41)).cell? ⟨gb, (acc.length - 1) * 2, none⟩ = some (strV y.1) := hcl _ _ hy.1
              have qy1 : (w1.alloc (.cells #[strV xk, strV xv] 41)).cell? ⟨gb, (acc.length - 1) * 2 + 1, none⟩ = some (strV y.2) := hcl _ _ hy.2
              have qx0 : (w1.alloc (.cells #[strV xk, strV xv] 41)).cell? ⟨w1.heap.size, 0, none⟩ = some (strV xk) := Blk.cell (Blk.new w1 #[strV xk, strV xv] 41) 0
              have qx1 : (w1.alloc (.cells #[strV xk, strV xv] 41)).cell? ⟨w1.heap.size, 1, none⟩ = some (strV xv) := Blk.cell (Blk.new w1 #[strV xk, strV xv] 41) 1
              have hxlt : w1.heap.size < (w1.alloc (.cells #[strV xk, strV xv] 41)).heap.size := Blk.lt (Blk.new w1 #[strV xk, strV xv] 41)
              have Hgb := Lib.hid hgb
              have Hgl := Lib.hid hgl
              have Hxl := Lib.hid hxlt
              cases hA
              have Hl := Lib.hid hlast
              have Ha := Lib.hid hacc
              clear hcl hy hat hlast hacc hgb hgl hxlt
              have n0 : decide (0 < acc.length) = true := by simpa using hpos
              have n1 : (1 : Int) ≤ (acc.length : Int) := by omega
              have n2 : (acc.length : Int) ≤ 6 := by omega
              have n3 : ((acc.length : Int) - 1).toNat = acc.length - 1 := by omega
              have n5 : (0 : Int) ≤ (acc.length : Int) - 1 := by omega
              have n6 : (acc.length : Int) - 1 < (acc.length : Int) := by omega
              have n7 : ((acc.length : Int) - 1 < 0) = False := by simp; omega
              have n8 : decide ((acc.length : Int) - 1 < (acc.length : Int)) = true := by simp; omega
              have n4 : IntKind.i64.wrap ((acc.length : Int) - 1) = (acc.length : Int) - 1 := IntWalk.i64_in _ (by omega)
              rcases hb : rises y (xk, xv) with _ | _
              · have hF := HF4.out
                rw [Hl.out] at hF
                simp only [Option.map_some, Option.getD_some, hb, ↓reduceIte, Bool.true_eq_false] at hF
                have KR := Lib.hid (fun w => Hri.out y (xk, xv) w)
                rw [hb] at KR
                simp only [Prod.mk.injEq] at hF
                obtain ⟨rfl, rfl, rfl⟩ := hF
                clear hb HF4
                go_upto_region 13 with fail
                go_region_held3 (fun w' => w'.cell? ⟨gb, (acc.length - 1) * 2, none⟩ = some (strV y.1) ∧ w'.cell? ⟨gb, (acc.length - 1) * 2 + 1, none⟩ = some (strV y.2) ∧ w'.cell? ⟨w1.heap.size, 0, none⟩ = some (strV xk) ∧ w'.cell? ⟨w1.heap.size, 1, none⟩ = some (strV xv)) (first | exact ⟨qy0, qy1, qx0, qx1⟩ | exact ⟨py0, py1, px0, px1⟩)
                  (first | ((with_reducible refine (KR.out _).mono ?_); rintro e w3 ⟨rfl, hb3⟩; have py0 := (hb3.cell (p := ⟨gb, (acc.length - 1) * 2, none⟩) Hgl.out).trans qy0; have py1 := (hb3.cell (p := ⟨gb, (acc.length - 1) * 2 + 1, none⟩) Hgl.out).trans qy1; have px0 := (hb3.cell (p := ⟨w1.heap.size, 0, none⟩) Hxl.out).trans qx0; have px1 := (hb3.cell (p := ⟨w1.heap.size, 1, none⟩) Hxl.out).trans qx1; have HB3 := Lib.hid hb3; clear hb3))
                go_wp2
                go_ret3
                exact ⟨_, rfl, World.ownsRow_nil _ _ _ _, below_of HbeD.out HB3.out⟩
              · have hF := HF4.out
                rw [Hl.out] at hF
                simp only [Option.map_some, Option.getD_some, hb, ↓reduceIte, Bool.true_eq_false] at hF
                have KR := Lib.hid (fun w => Hri.out y (xk, xv) w)
                rw [hb] at KR
                have HF5 := Lib.hid hF
                clear hb hF HF4
                go_upto_region 13 with fail
                go_region_held3 (fun w' => w'.cell? ⟨gb, (acc.length - 1) * 2, none⟩ = some (strV y.1) ∧ w'.cell? ⟨gb, (acc.length - 1) * 2 + 1, none⟩ = some (strV y.2) ∧ w'.cell? ⟨w1.heap.size, 0, none⟩ = some (strV xk) ∧ w'.cell? ⟨w1.heap.size, 1, none⟩ = some (strV xv)) (first | exact ⟨qy0, qy1, qx0, qx1⟩ | exact ⟨py0, py1, px0, px1⟩)
                  (first | ((with_reducible refine (KR.out _).mono ?_); rintro e w3 ⟨rfl, hb3⟩; have py0 := (hb3.cell (p := ⟨gb, (acc.length - 1) * 2, none⟩) Hgl.out).trans qy0; have py1 := (hb3.cell (p := ⟨gb, (acc.length - 1) * 2 + 1, none⟩) Hgl.out).trans qy1; have px0 := (hb3.cell (p := ⟨w1.heap.size, 0, none⟩) Hxl.out).trans qx0; have px1 := (hb3.cell (p := ⟨w1.heap.size, 1, none⟩) Hxl.out).trans qx1; have HB3 := Lib.hid hb3; clear hb3))
                have How3 := Lib.hid (own_of HowD.out HB3.out)
                have Hbe3 := Lib.hid (below_of HbeD.out HB3.out)
                have Hrd3 := Lib.hid (blk_of HrdD.out HB3.out)
                clear qy0 qx0 qy1 qx1 n1 n3 n4 n5 n6 n7 n8
                go_wp2_with (at_builtin; refine wpList_append_own _ rfl _ _ 22 rfl w.heap.size 41 i0 (.agg #[.string ⟨#[]⟩, .string ⟨#[]⟩]) 2 32 Try.underlying22 hi0 hz0 hz1 hz2 rfl (by decide) _ _ _ rfl ((How3.out).alloc _) ⟨w3.heap.size, 0, none⟩ 1 1 [strV xk, strV xv] rfl rfl ?a2 ?b2 ?c2 ?d2 ?e2 ?_)
                case a2 =>
                  intro j u hj
                  match j, hj with
                  | 0, hj => simp at hj; subst hj; first | (simp [Addr.add, go_sem]; done) | exact Blk.cell (Blk.new _ _ _) 0
                  | 1, hj => simp at hj; subst hj; first | (simp [Addr.add, go_sem]; done) | exact Blk.cell (Blk.new _ _ _) 1
                case b2 => intro u hu; simp at hu; rcases hu with rfl | rfl <;> rfl
                case c2 => unfold maxLen; omega
                case d2 => omega
                case e2 => have := Hbe3.out.size; simp at this ⊢; omega
                intro v' w4 hown' hgrow' _
                obtain ⟨A4, c4, rfl, _⟩ := own_slice hown'
                have Own4 := Lib.hid hown'
                have B4 := Lib.hid (((Hbe3.out).alloc Hbe3.out.size (.cells #[strV xk, strV xv] 41)).grown hgrow' (by have := Hbe3.out.size; simp at this ⊢; omega) (fun k hk => own_ge' (How3.out) hk))
                have R4 : Hid (RdAt w4 w.heap.size l z) := Lib.hid (Blk.kept (Blk.alloc (Hrd3.out) _) hgrow' (Ne.symm (own_not (How3.out) (Hrd3.out) (by decide))))
                clear hown' hgrow'
                go_wp2
                have hF := HF5.out
                rw [if_pos Hov.out] at hF
                simp only [Prod.mk.injEq] at hF
                obtain ⟨rfl, rfl, rfl⟩ := hF
                go_ret3
                exact ⟨_, rfl, by simpa [cellsL_snoc] using Own4.out, B4.out⟩
        · have hovb : ((z : Int) == (l.length : Int)) = false := by simp; omega
          have hF := HF2.out
          have R1a := Lib.hid (Blk.alloc R1.out (.cells #[strV xk, strV xv] 41))
          cases hsg : signL l z 44
          · rw [if_pos ⟨hov, hsg⟩] at hF
            simp only [Prod.mk.injEq] at hF
            obtain ⟨rfl, rfl, rfl⟩ := hF
            have KS := Lib.hid (sign_no w.heap.size l z 44 _ R1a.out hl hzl hsg)
            have Hov := Lib.hid hov
            have Hsg := Lib.hid hsg
            clear hov hsg HF2
            go_wp2_with fail
            refine KS.out.mono ?_
            rintro e w2 ⟨rfl, hr, hg⟩
            have R2 := Lib.hid hr
            have B2 := Lib.hid ((B1.out.alloc B1.out.size (.cells #[strV xk, strV xv] 41)).grown hg (by simp; omega) (fun k hk => by cases hk; exact Nat.le_refl _))
            clear hr hg c1
            have c1 := R2.out.c1
            go_wp2
            go_quiet (fail)
            go_wp2
            go_ret3
            exact ⟨_, rfl, World.ownsRow_nil _ _ _ _, belowN B2.out _⟩
          · rw [if_neg (by rw [hsg]; simp)] at hF
            have HF3 := Lib.hid hF
            have KS := Lib.hid (sign_yes w.heap.size l z 44 _ R1a.out hl hzl hsg)
            have hzz := sign_lt hsg
            have Hov := Lib.hid hov
            clear hF hov hsg HF2
            go_wp2_with fail
            refine KS.out.mono ?_
            rintro e w2 ⟨rfl, hr, hg⟩
            have R2 := Lib.hid hr
            have B2 := Lib.hid ((B1.out.alloc B1.out.size (.cells #[strV xk, strV xv] 41)).grown hg (by simp; omega) (fun k hk => by cases hk; exact Nat.le_refl _))
            have Own2 := Lib.hid ((Own1.out.alloc (.cells #[strV xk, strV xv] 41)).kept hg (.inr Hone.out))
            have X2 : Hid (Blk w2 w1.heap.size #[strV xk, strV xv] 41) := Lib.hid (Blk.kept (Blk.new w1 _ _) hg (by simp; omega))
            clear hr hg c1
            have c1 := R2.out.c1
            by_cases h6 : acc.length = 6
            · have h6b : ((acc.length : Int) == 6) = true := by simp; omega
              have hF := HF3.out
              rw [if_pos h6] at hF
              simp only [Prod.mk.injEq] at hF
              obtain ⟨rfl, rfl, rfl⟩ := hF
              have H6 := Lib.hid h6
              clear h6
              go_wp2
              go_ret3
              exact ⟨_, rfl, World.ownsRow_nil _ _ _ _, B2.out⟩
            · have h6b : ((acc.length : Int) == 6) = false := by simp; omega
              have hF := HF3.out
              rw [if_neg h6] at hF
              have HF4 := Lib.hid hF
              have h5 : acc.length ≤ 5 := by omega
              obtain ⟨f1, rfl⟩ : ∃ f1, f = f1 + 1 := ⟨f - 1, by omega⟩
              have H6 := Lib.hid h6
              clear hF h6 HF3
              rcases List.eq_nil_or_concat acc with hacc | ⟨pre, y, hacc⟩
              · have hlen : acc.length = 0 := by rw [hacc]; rfl
                have hn0 : decide (0 < acc.length) = false := by simp [hlen]
                have hF := HF4.out
                rw [show acc.getLast? = none by rw [hacc]; rfl] at hF
                simp only [Option.map_none, Option.getD_none, Bool.true_eq_false, ↓reduceIte] at hF
                have HF5 := Lib.hid hF
                have Hacc := Lib.hid hacc
                have Hlen := Lib.hid hlen
                clear hF HF4 hacc hlen
                go_upto_region 13 with fail
                go_quiet (fail)
                have HowD := Lib.hid (Own2.out)
                have HbeD := Lib.hid (B2.out)
                have HrdD := Lib.hid (R2.out)
                have qx0 : w2.cell? ⟨w1.heap.size, 0, none⟩ = some (strV xk) := Blk.cell (X2.out) 0
                have qx1 : w2.cell? ⟨w1.heap.size, 1, none⟩ = some (strV xv) := Blk.cell (X2.out) 1
                go_wp2_with (at_builtin; refine wpList_append_own _ rfl _ _ 22 rfl w.heap.size 41 i0 (.agg #[.string ⟨#[]⟩, .string ⟨#[]⟩]) 2 32 Try.underlying22 hi0 hz0 hz1 hz2 rfl (by decide) _ _ _ rfl ((own_drewN HowD.out _).alloc _) ⟨w2.heap.size, 0, none⟩ 1 1 [strV xk, strV xv] rfl rfl ?a3 ?b3 ?c3 ?d3 ?e3 ?_)
                case a3 =>
                  intro j u hj
                  match j, hj with
                  | 0, hj => simp at hj; subst hj; first | (simp [Addr.add, go_sem]; done) | exact Blk.cell (Blk.new _ _ _) 0
                  | 1, hj => simp at hj; subst hj; first | (simp [Addr.add, go_sem]; done) | exact Blk.cell (Blk.new _ _ _) 1
                case b3 => intro u hu; simp at hu; rcases hu with rfl | rfl <;> rfl
                case c3 => unfold maxLen; omega
                case d3 => omega
                case e3 => have := HbeD.out.size; simp at this ⊢; omega
                intro v' w4 hown' hgrow' _
                obtain ⟨A4, c4, rfl, _⟩ := own_slice hown'
                have Own4 := Lib.hid hown'
                have B4 := Lib.hid (((belowN HbeD.out _).alloc HbeD.out.size (.cells #[strV xk, strV xv] 41)).grown hgrow' (by have := HbeD.out.size; simp at this ⊢; omega) (fun k hk => own_ge' (HowD.out) hk))
                have R4 : Hid (RdAt w4 w.heap.size l (z + 1)) := Lib.hid (Blk.kept (Blk.alloc (Blk.drewN HrdD.out _) _) hgrow' (Ne.symm (own_not (HowD.out) (HrdD.out) (by decide))))
                clear hown' hgrow'
                go_wp2
                go_roundw
                case rel =>
                  have hF := HF5.out
                  rw [if_neg Hov.out] at hF
                  exact ⟨acc ++ [(xk, xv)], z + 1, f1, by simpa [cellsL_snoc] using Own4.out, R4.out, B4.out, by have := Hov.out; omega, by simp; omega, hF⟩
                case measure => simp; omega
              · have hpos : 0 < acc.length := by rw [hacc]; simp
                have hlast : acc.getLast? = some y := by rw [hacc]; simp
                have hat : acc[acc.length - 1]? = some y := by rw [hacc]; simp
                have HowD := Lib.hid (Own2.out)
                have HbeD := Lib.hid (B2.out)
                have HrdD := Lib.hid (R2.out)
                obtain ⟨gb, cap, hA, hgb, hgl, hcap, hcapm, hcl⟩ := own_cells HowD.out hpos
                have hy := cellsL_at acc _ y hat
                have qy0 : w2.cell? ⟨gb, (acc.length - 1) * 2, none⟩ = some (strV y.1) := hcl _ _ hy.1
                have qy1 : w2.cell? ⟨gb, (acc.length - 1) * 2 + 1, none⟩ = some (strV y.2) := hcl _ _ hy.2
                have qx0 : w2.cell? ⟨w1.heap.size, 0, none⟩ = some (strV xk) := Blk.cell (X2.out) 0
                have qx1 : w2.cell? ⟨w1.heap.size, 1, none⟩ = some (strV xv) := Blk.cell (X2.out) 1
                have hxlt : w1.heap.size < w2.heap.size := Blk.lt (X2.out)
                have Hgb := Lib.hid hgb
                have Hgl := Lib.hid hgl
                have Hxl := Lib.hid hxlt
                cases hA
                have Hl := Lib.hid hlast
                have Ha := Lib.hid hacc
                clear hcl hy hat hlast hacc hgb hgl hxlt
                have n0 : decide (0 < acc.length) = true := by simpa using hpos
                have n1 : (1 : Int) ≤ (acc.length : Int) := by omega
                have n2 : (acc.length : Int) ≤ 6 := by omega
                have n3 : ((acc.length : Int) - 1).toNat = acc.length - 1 := by omega
                have n5 : (0 : Int) ≤ (acc.length : Int) - 1 := by omega
                have n6 : (acc.length : Int) - 1 < (acc.length : Int) := by omega
                have n7 : ((acc.length : Int) - 1 < 0) = False := by simp; omega
                have n8 : decide ((acc.length : Int) - 1 < (acc.length : Int)) = true := by simp; omega
                have n4 : IntKind.i64.wrap ((acc.length : Int) - 1) = (acc.length : Int) - 1 := IntWalk.i64_in _ (by omega)
                rcases hb : rises y (xk, xv) with _ | _
                · have hF := HF4.out
                  rw [Hl.out] at hF
                  simp only [Option.map_some, Option.getD_some, hb, ↓reduceIte, Bool.true_eq_false] at hF
                  have KR := Lib.hid (fun w => Hri.out y (xk, xv) w)
                  rw [hb] at KR
                  simp only [Prod.mk.injEq] at hF
                  obtain ⟨rfl, rfl, rfl⟩ := hF
                  clear hb HF4
                  go_upto_region 13 with fail
                  go_region_held3 (fun w' => w'.cell? ⟨gb, (acc.length - 1) * 2, none⟩ = some (strV y.1) ∧ w'.cell? ⟨gb, (acc.length - 1) * 2 + 1, none⟩ = some (strV y.2) ∧ w'.cell? ⟨w1.heap.size, 0, none⟩ = some (strV xk) ∧ w'.cell? ⟨w1.heap.size, 1, none⟩ = some (strV xv)) (first | exact ⟨qy0, qy1, qx0, qx1⟩ | exact ⟨py0, py1, px0, px1⟩)
                    (first | ((with_reducible refine (KR.out _).mono ?_); rintro e w3 ⟨rfl, hb3⟩; have py0 := (hb3.cell (p := ⟨gb, (acc.length - 1) * 2, none⟩) Hgl.out).trans qy0; have py1 := (hb3.cell (p := ⟨gb, (acc.length - 1) * 2 + 1, none⟩) Hgl.out).trans qy1; have px0 := (hb3.cell (p := ⟨w1.heap.size, 0, none⟩) Hxl.out).trans qx0; have px1 := (hb3.cell (p := ⟨w1.heap.size, 1, none⟩) Hxl.out).trans qx1; have HB3 := Lib.hid hb3; clear hb3))
                  go_wp2
                  go_ret3
                  exact ⟨_, rfl, World.ownsRow_nil _ _ _ _, below_of HbeD.out HB3.out⟩
                · have hF := HF4.out
                  rw [Hl.out] at hF
                  simp only [Option.map_some, Option.getD_some, hb, ↓reduceIte, Bool.true_eq_false] at hF
                  have KR := Lib.hid (fun w => Hri.out y (xk, xv) w)
                  rw [hb] at KR
                  have HF5 := Lib.hid hF
                  clear hb hF HF4
                  go_upto_region 13 with fail
                  go_region_held3 (fun w' => w'.cell? ⟨gb, (acc.length - 1) * 2, none⟩ = some (strV y.1) ∧ w'.cell? ⟨gb, (acc.length - 1) * 2 + 1, none⟩ = some (strV y.2) ∧ w'.cell? ⟨w1.heap.size, 0, none⟩ = some (strV xk) ∧ w'.cell? ⟨w1.heap.size, 1, none⟩ = some (strV xv)) (first | exact ⟨qy0, qy1, qx0, qx1⟩ | exact ⟨py0, py1, px0, px1⟩)
                    (first | ((with_reducible refine (KR.out _).mono ?_); rintro e w3 ⟨rfl, hb3⟩; have py0 := (hb3.cell (p := ⟨gb, (acc.length - 1) * 2, none⟩) Hgl.out).trans qy0; have py1 := (hb3.cell (p := ⟨gb, (acc.length - 1) * 2 + 1, none⟩) Hgl.out).trans qy1; have px0 := (hb3.cell (p := ⟨w1.heap.size, 0, none⟩) Hxl.out).trans qx0; have px1 := (hb3.cell (p := ⟨w1.heap.size, 1, none⟩) Hxl.out).trans qx1; have HB3 := Lib.hid hb3; clear hb3))
                  have How3 := Lib.hid (own_of HowD.out HB3.out)
                  have Hbe3 := Lib.hid (below_of HbeD.out HB3.out)
                  have Hrd3 := Lib.hid (blk_of HrdD.out HB3.out)
                  clear qy0 qx0 qy1 qx1 n1 n3 n4 n5 n6 n7 n8
                  go_wp2_with (at_builtin; refine wpList_append_own _ rfl _ _ 22 rfl w.heap.size 41 i0 (.agg #[.string ⟨#[]⟩, .string ⟨#[]⟩]) 2 32 Try.underlying22 hi0 hz0 hz1 hz2 rfl (by decide) _ _ _ rfl ((How3.out).alloc _) ⟨w3.heap.size, 0, none⟩ 1 1 [strV xk, strV xv] rfl rfl ?a4 ?b4 ?c4 ?d4 ?e4 ?_)
                  case a4 =>
                    intro j u hj
                    match j, hj with
                    | 0, hj => simp at hj; subst hj; first | (simp [Addr.add, go_sem]; done) | exact Blk.cell (Blk.new _ _ _) 0
                    | 1, hj => simp at hj; subst hj; first | (simp [Addr.add, go_sem]; done) | exact Blk.cell (Blk.new _ _ _) 1
                  case b4 => intro u hu; simp at hu; rcases hu with rfl | rfl <;> rfl
                  case c4 => unfold maxLen; omega
                  case d4 => omega
                  case e4 => have := Hbe3.out.size; simp at this ⊢; omega
                  intro v' w4 hown' hgrow' _
                  obtain ⟨A4, c4, rfl, _⟩ := own_slice hown'
                  have Own4 := Lib.hid hown'
                  have B4 := Lib.hid (((Hbe3.out).alloc Hbe3.out.size (.cells #[strV xk, strV xv] 41)).grown hgrow' (by have := Hbe3.out.size; simp at this ⊢; omega) (fun k hk => own_ge' (How3.out) hk))
                  have R4 : Hid (RdAt w4 w.heap.size l (z + 1)) := Lib.hid (Blk.kept (Blk.alloc (Hrd3.out) _) hgrow' (Ne.symm (own_not (How3.out) (Hrd3.out) (by decide))))
                  clear hown' hgrow'
                  go_wp2
                  go_roundw
                  case rel =>
                    have hF := HF5.out
                    rw [if_neg Hov.out] at hF
                    exact ⟨acc ++ [(xk, xv)], z + 1, f1, by simpa [cellsL_snoc] using Own4.out, R4.out, B4.out, by have := Hov.out; omega, by simp; omega, hF⟩
                  case measure => simp; omega

end Go.Proofs.Yteclbkjonaildaa
