/- The document's word: a contract. Condition: the tables of UTF-8 lie as they were laid. -/
import Derived.Test.YtdiighpmgfbmaaaDoorSRefD
import Derived.StillTailTactics
namespace Go.Proofs.YtdiighpmgfbmaaaDoor
open Go.RowKit

theorem sm_nat (c : Nat) : smI (c : Int) = smB c := by
  unfold smI smB
  rw [Bool.eq_iff_iff]
  simp
  omega
theorem dg_nat (c : Nat) : dgI (c : Int) = dgB c := by
  unfold dgI dgB
  rw [Bool.eq_iff_iff]
  simp
  omega
theorem sg_nat (c : Nat) : sgI (c : Int) = sgB c := by
  unfold sgI sgB
  rw [Bool.eq_iff_iff]
  simp
  omega
theorem btw_word (m : Bool) (s : RS) (c : Nat) (h : s.mode = .btw) (h1 : (if m = true then smB c else dgB c) = true) : stepF s c = stepF (beginF s (kdI m) (wmode m)) c := by
  rw [step_btw s c h, step_word m _ c rfl]
  have hg : goI m (c : Int) = true := by
    unfold goI
    cases m
    · rw [dg_nat, show dgB c = true from h1]
      simp
    · rw [sm_nat, show smB c = true from h1]
      simp
  rw [hg]
  have hr : 48 ≤ c ∧ c ≤ 57 ∨ 97 ≤ c ∧ c ≤ 122 := by
    cases m
    · left
      simpa [dgB] using h1
    · right
      simpa [smB] using h1
  unfold betF goF
  rw [if_neg (by simp [blB]; omega), if_neg (by omega), if_neg (by omega), if_neg (by simp [sgB]; omega), if_pos rfl]
  cases m
  · rw [if_neg (by simp [smB]; have : dgB c = true := h1; simp [dgB] at this; omega), if_pos (show dgB c = true from h1)]
    rfl
  · rw [if_pos (show smB c = true from h1)]
    rfl
theorem btw_sign (s : RS) (c : Nat) (h : s.mode = .btw) (h1 : sgB c = true) : stepF s c = (endF (addF (beginF s 4 .btw) (c : Int)), 0) := by
  have hr : c = 123 ∨ c = 125 ∨ c = 58 ∨ c = 59 ∨ c = 42 := by simpa [sgB] using h1
  rw [step_btw s c h]
  unfold betF
  rw [if_neg (by simp [blB]; omega), if_neg (by omega), if_neg (by omega), if_pos h1]
theorem btw_quo (s : RS) (h : s.mode = .btw) : stepF s 34 = (beginF s 3 .str, 0) := by
  rw [step_btw s 34 h]
  rfl
theorem btw_no (s : RS) (c : Nat) (h : s.mode = .btw) (h1 : smB c = false) (h2 : dgB c = false) (h3 : sgB c = false) (h4 : c ≠ 34) (h5 : c ≠ 35) (h6 : c ≠ 32) (h7 : c ≠ 9) (h8 : c ≠ 10) : (stepF s c).2 = 4 := by
  rw [step_btw s c h]
  unfold betF
  rw [if_neg (by simp [blB]; omega), if_neg h5, if_neg h4, if_neg (by rw [h3]; simp), if_neg (by rw [h1]; simp), if_neg (by rw [h2]; simp)]

/-- A row and a word are handed back. -/
theorem results_rowW {P : Program} {fn : Func} {p s : Tmp} {ty : TypeId} (h : fn.results = #[.cell p ty, .tmp s]) (tmps : Array Value) (w : World) (g : Nat) (t : TypeId) (cs : Array Value) (fr : Nat × Nat) (d : TypeDesc) (v : Value)
    (hp : tmps.getD p undef = .pointer (some ⟨g, 0, none⟩)) (hs : tmps.getD s undef = v) (hg : w.heap[g]? = some (.cells cs t fr))
    (hu : P.underlying ty = some d) (hd : (match d with | .struct _ | .array _ _ => true | _ => false) = true) (hi : (P.info? ty).map (·.size) = some cs.size) :
    (results fn tmps).run P w = .ok (.tuple #[.agg cs, v]) w := by
  have hp' : tmps[p]?.getD undef = .pointer (some ⟨g, 0, none⟩) := by simpa using hp
  have hs' : tmps[s]?.getD undef = v := by simpa using hs
  simp [results, h, hp', hs', asAddr, run_loadVar_row w g t ty cs fr d hg hu hd hi]
theorem bodyPost_rowW {P : Program} {fn : Func} {p s : Tmp} {ty : TypeId} {R : Ending → World → Prop} {a : Act} {w : World} (h : fn.results = #[.cell p ty, .tmp s]) (g : Nat) (t : TypeId) (cs : Array Value) (fr : Nat × Nat) (d : TypeDesc) (v : Value)
    (hd0 : a.defers = []) (hp : a.tmps.getD p undef = .pointer (some ⟨g, 0, none⟩)) (hs : a.tmps.getD s undef = v) (hg : w.heap[g]? = some (.cells cs t fr))
    (hu : P.underlying ty = some d) (hd : (match d with | .struct _ | .array _ _ => true | _ => false) = true) (hi : (P.info? ty).map (·.size) = some cs.size)
    (hR : R (.returned (.tuple #[.agg cs, v])) w) : bodyPost P fn R .ret a w :=
  bodyPost_ret (results_rowW h a.tmps w g t cs fr d v hp hs hg hu hd hi) hd0 hR
theorem word_size : (Tryd.prog.info? 38).map (·.size) = some 4 := by kernel_rfl

/-- What word leaves. -/
def WoR (l : List UInt8) (p0 : Nat) (s : RS) (w : World) (b : Nat) (e : Ending) (w' : World) : Prop :=
  ∃ p t, p0 ≤ p ∧ p ≤ l.length ∧ t.line ≤ p + 1 ∧ t.col ≤ p + 1 ∧ RfAt w' b l p t.line t.col ∧ w.grownBy w' (some b) ∧
    ((∃ k x, p0 < p ∧ x.length ≤ l.length ∧ e = .returned (.tuple #[worV (k, x, s.line, s.col), .int .i64 0]) ∧ t.mode = .btw ∧ t.words = s.words ++ [(k, x, s.line, s.col)] ∧ road l p0 s = road l p t) ∨
     (∃ (k : Int) (x : List UInt8) (er : Int), er ≠ 0 ∧ e = .returned (.tuple #[worV (k, x, s.line, s.col), .int .i64 er]) ∧ road l p0 s = ([], t.line, t.col, er)))

/-- The world behind a word's beginning. -/
def wW (w : World) (s : RS) (k : Int) : World := ((w.alloc (.cells #[.int .i64 0, .string ⟨#[]⟩, .int .i64 0, .int .i64 0] 38)).alloc (.cells #[.int .i64 k, .string ⟨#[]⟩, .int .i64 (s.line : Int), .int .i64 (s.col : Int)] 38)).drew
theorem wW_grown (w : World) (s : RS) (k : Int) (b : Nat) : w.grownBy (wW w s k) (some b) := grown_drew (grown_alloc (grown_alloc (World.grownBy.refl _ _) _) _)
theorem wW_rf {w : World} {b : Nat} {l : List UInt8} {a ln cl : Nat} (h : RfAt w b l a ln cl) (s : RS) (k : Int) : RfAt (wW w s k) b l a ln cl := Blk.drew (Blk.alloc (Blk.alloc h _) _)
theorem wW_res (w : World) (s : RS) (k : Int) : Blk (wW w s k) w.heap.size #[.int .i64 0, .string ⟨#[]⟩, .int .i64 0, .int .i64 0] 38 := Blk.drew (Blk.alloc (Blk.new w _ _) _)
theorem wW_word (w : World) (s : RS) (k : Int) : Blk (wW w s k) (w.heap.size + 1) #[.int .i64 k, .string ⟨#[]⟩, .int .i64 (s.line : Int), .int .i64 (s.col : Int)] 38 := by
  have h := Blk.drew (Blk.new (w.alloc (.cells #[.int .i64 0, .string ⟨#[]⟩, .int .i64 0, .int .i64 0] 38)) #[.int .i64 k, .string ⟨#[]⟩, .int .i64 (s.line : Int), .int .i64 (s.col : Int)] 38)
  rw [show (w.alloc (.cells #[.int .i64 0, .string ⟨#[]⟩, .int .i64 0, .int .i64 0] 38)).heap.size = w.heap.size + 1 by simp] at h
  exact h

set_option maxRecDepth 100000 in
set_option maxHeartbeats 8000000 in
theorem word_plain (m : Bool) (b p c n : Nat) (l : List UInt8) (s : RS) (w : World) (hl : l.length ≤ 1000) (hm : s.mode = .btw) (hp : p < l.length) (h0 : OnW l p s p s) (hd : Utf8.decode ⟨l.toArray⟩ p = (c, n)) (hc : (if m = true then smB c else dgB c) = true) (h : RfAt w b l p s.line s.col) (hT : ∀ w', w.grownBy w' (some b) → Utab w') :
    Calls Tryd.prog 22 #[.pointer (some ⟨b, 0, none⟩), .int .i64 (c : Int)] w (WoR l p s w b) := by
  have hbl := Blk.lt h
  have a2 : w.cell? ⟨b, 2, none⟩ = some (.int .i64 (s.line : Int)) := Blk.cell h 2
  have a3 : w.cell? ⟨b, 3, none⟩ = some (.int .i64 (s.col : Int)) := Blk.cell h 3
  have hsw := road_swap l p s (beginF s (kdI m) (wmode m)) (by unfold nextC; rw [if_pos hp, hd]; exact btw_word m s c hm hc) rfl rfl
  have KP := Lib.hid (fun w' (h : RfAt w' b l p s.line s.col) (hT : ∀ w'', w'.grownBy w'' (some b) → Utab w'') => plain_any m b p l (beginF s (kdI m) (wmode m)) w' hl rfl rfl ⟨Nat.le_refl _, h0.here, h0.line, h0.col, rfl, rfl, rfl, rfl, rfl, rfl⟩ h hT)
  have hrg : goI m (runeF l p).1 = true := by
    rw [rune_at l p hp, hd]
    simp only
    unfold goI
    cases m
    · rw [dg_nat, show dgB c = true from hc]; simp
    · rw [sm_nat, show smB c = true from hc]; simp
  have HSw := Lib.hid hsw
  have HRg := Lib.hid hrg
  have H := Lib.hid h
  have HT := Lib.hid hT
  have H0 := Lib.hid h0
  have HDc := Lib.hid hd
  have hsm : smI (c : Int) = m := by
    rw [sm_nat]
    cases m
    · have : dgB c = true := hc
      simp [dgB] at this
      simp [smB]
      omega
    · exact hc
  have hdg : m = false → dgI (c : Int) = true := by
    rintro rfl
    rw [dg_nat]
    exact hc
  clear h hT h0 hd hsw hrg hc
  cases m
  all_goals
    have hdg' := hdg
    simp only [reduceCtorEq, forall_const, false_implies] at hdg'
    clear hdg
    simp only [kdI, Bool.false_eq_true, if_false, if_true] at KP
    go_enter Tryd.func22, Tryd.ntmps22
    go_wp2_with fail
    go_region
    go_wp2_with (first | ((with_reducible refine (rsmall_any _ _).mono ?_); rintro e w9 ⟨rfl, rfl⟩) | ((with_reducible refine (rdigit_any _ _).mono ?_); rintro e w9 ⟨rfl, rfl⟩))
    first
      | change Calls _ _ _ (wW w s 1) _
      | change Calls _ _ _ (wW w s 2) _
    refine (KP.out _ (wW_rf H.out s _) (fun w'' h => HT.out w'' (grown_trans (wW_grown w s _ b) h))).mono ?_
    rintro e w2 ⟨q, t, hq, htx, hrf, hg, hgo, rfl⟩
    have B0 := Lib.hid ((wW_res w s _).kept hg (by simp; omega))
    have B1 := Lib.hid ((wW_word w s _).kept hg (by simp; omega))
    have G2 := Lib.hid (grown_trans (wW_grown w s _ b) hg)
    have R2 := Lib.hid hrf
    have HQ := Lib.hid hq
    obtain ⟨e1, e2⟩ := plain_end _ hq rfl hgo
    have hqh := hq.here
    have hql := hq.line
    have hqc := hq.col
    have hqp := hq.le
    have hpq : p < q := by
      rcases Nat.lt_or_ge p q with h | h
      · exact h
      · exfalso
        have e : p = q := by omega
        have h3 := HRg.out
        rw [e, hgo] at h3
        cases h3
    have htl : t.text.length ≤ l.length := by rw [htx, List.length_take, List.length_drop]; omega
    have E1 := Lib.hid e1
    have E2 := Lib.hid e2
    have z0 := Blk.cell B1.out 0
    have z1 := Blk.cell B1.out 1
    have z2 := Blk.cell B1.out 2
    have z3 := Blk.cell B1.out 3
    have f0 := Blk.free B1.out 0
    have f1 := Blk.free B1.out 1
    have f2 := Blk.free B1.out 2
    have f3 := Blk.free B1.out 3
    have y0 := Blk.cell B0.out 0
    have y1 := Blk.cell B0.out 1
    have y2 := Blk.cell B0.out 2
    have y3 := Blk.cell B0.out 3
    have g0 := Blk.free B0.out 0
    have g1 := Blk.free B0.out 1
    have g2 := Blk.free B0.out 2
    have g3 := Blk.free B0.out 3
    simp only [List.getElem?_toArray, List.getElem?_cons_zero, List.getElem?_cons_succ] at z0 z1 z2 z3 y0 y1 y2 y3
    clear hq hrf hg hgo KP e1 e2 htx
    have e6 := word_size
    cases hen : enI (runeF l q).1
    · have HR : Hid (road l p s = ([], t.line, t.col, 4)) := Lib.hid (by rw [HSw.out]; exact E2.out hen)
      clear hen E1 E2
      go_wp2_with fail
      refine bodyPost_rowW Tryd.results22 w.heap.size _ _ _ _ (.int .i64 4) ?d1 ?p1 ?s1 ((((B0.out.set 0 _).set 1 _).set 2 _).set 3 _) Tryd.underlying38 rfl word_size ?_
      case d1 => rfl
      case p1 => rfl
      case s1 => rfl
      exact ⟨q, t, hqp, hqh, hql, hqc, (((Blk.oth R2.out (by omega) _ _).oth (by omega) _ _).oth (by omega) _ _).oth (by omega) _ _, grown_set_new (grown_set_new (grown_set_new (grown_set_new G2.out (Nat.le_refl _) _ _) (Nat.le_refl _) _ _) (Nat.le_refl _) _ _) (Nat.le_refl _) _ _, .inr (by first | exact ⟨1, [], 4, by decide, rfl, HR.out⟩ | exact ⟨2, [], 4, by decide, rfl, HR.out⟩)⟩
    · have HR : Hid (road l p s = road l q (endF t)) := Lib.hid (by rw [HSw.out]; exact E1.out hen)
      clear hen E1 E2
      go_wp2_with fail
      refine bodyPost_rowW Tryd.results22 w.heap.size _ _ _ _ (.int .i64 0) ?d2 ?p2 ?s2 (((((B0.out.oth (by omega) 1 _).set 0 _).set 1 _).set 2 _).set 3 _) Tryd.underlying38 rfl word_size ?_
      case d2 => rfl
      case p2 => rfl
      case s2 => rfl
      refine ⟨q, endF t, hqp, hqh, hql, hqc, ((((Blk.oth R2.out (by omega) _ _).oth (by omega) _ _).oth (by omega) _ _).oth (by omega) _ _).oth (by omega) _ _, grown_set_new (grown_set_new (grown_set_new (grown_set_new (grown_set_new G2.out (Nat.le_succ _) _ _) (Nat.le_refl _) _ _) (Nat.le_refl _) _ _) (Nat.le_refl _) _ _) (Nat.le_refl _) _ _, .inl ⟨t.kind, t.text, hpq, htl, ?_, rfl, ?_, HR.out⟩⟩
      · rw [HQ.out.kind]
        rfl
      · show t.words ++ [(t.kind, t.text, t.wl, t.wc)] = _
        rw [HQ.out.words, HQ.out.wl, HQ.out.wc]
        rfl

theorem dec_low (l : List UInt8) (p c n : Nat) (hp : p < l.length) (hd : Utf8.decode ⟨l.toArray⟩ p = (c, n)) (hc : c < 128) : n = 1 := by
  have hdd := dec_drop l p
  rw [hd] at hdd
  have hne : l.drop p ≠ [] := by
    intro e
    have := congrArg List.length e
    simp at this
    omega
  obtain ⟨b, t, e, eb⟩ := small_rune (l.drop p) hne (by rw [hdd]; rintro ⟨h, _⟩; simp only at h; omega) (by rw [hdd]; exact hc)
  rw [hdd] at eb
  have := Lib.decodeL_ascii b t (by rw [eb]; exact hc)
  rw [← e, hdd] at this
  exact (Prod.mk.inj this).2

set_option maxRecDepth 100000 in
set_option maxHeartbeats 8000000 in
theorem word_sign (b p c n : Nat) (l : List UInt8) (s : RS) (w : World) (hl : l.length ≤ 1000) (hm : s.mode = .btw) (hp : p < l.length) (h0 : OnW l p s p s) (hd : Utf8.decode ⟨l.toArray⟩ p = (c, n)) (hc : sgB c = true) (h : RfAt w b l p s.line s.col) (hT : ∀ w', w.grownBy w' (some b) → Utab w') :
    Calls Tryd.prog 22 #[.pointer (some ⟨b, 0, none⟩), .int .i64 (c : Int)] w (WoR l p s w b) := by
  have hbl := Blk.lt h
  have a2 : w.cell? ⟨b, 2, none⟩ = some (.int .i64 (s.line : Int)) := Blk.cell h 2
  have a3 : w.cell? ⟨b, 3, none⟩ = some (.int .i64 (s.col : Int)) := Blk.cell h 3
  have hr : c = 123 ∨ c = 125 ∨ c = 58 ∨ c = 59 ∨ c = 42 := by simpa [sgB] using hc
  have hn := dec_low l p c n hp hd (by omega)
  subst hn
  have hrk : (runeF l p).2 = true := by rw [rune_ok l p c 1 hp hd (by omega)]
  have hst := btw_sign s c hm hc
  have hro := road_step l p c 1 s _ hp hd hrk hst
  have OW : OnW l p (advF (endF (addF (beginF s 4 .btw) (c : Int))) c) p (advF (endF (addF (beginF s 4 .btw) (c : Int))) c) → True := fun _ => trivial
  have hen := enc_take l p c 1 hp hd (by omega)
  obtain ⟨t, ht⟩ : ∃ z : RS, advF (endF (addF (beginF s 4 .btw) (c : Int))) c = z := ⟨_, rfl⟩
  rw [ht] at hro
  have tl : t.line = s.line := by rw [← ht]; show (if c = 10 then s.line + 1 else s.line) = _; rw [if_neg (by omega)]
  have tc : t.col = s.col + 1 := by rw [← ht]; show (if c = 10 then 1 else s.col + 1) = _; rw [if_neg (by omega)]
  have tm : t.mode = .btw := by rw [← ht]; rfl
  have tw : t.words = s.words ++ [(4, (l.drop p).take 1, s.line, s.col)] := by
    rw [← ht, ← hen]
    rfl
  have KO : Hid (∀ w', RfAt w' b l p s.line s.col → Utab w' → Calls Tryd.prog 44 #[.pointer (some ⟨b, 0, none⟩)] w' fun e w'' => e = .returned (.tuple #[]) ∧ RfAt w'' b l (p + 1) t.line t.col ∧ w'.grownBy w'' (some b)) := Lib.hid (fun w' h hT => by
    have k := on_any b l p s.line s.col w' (by omega) (by have := h0.line; omega) (by have := h0.col; omega) hp h hT
    rw [hd] at k
    simp only at k
    rw [if_neg (by omega), if_neg (by omega)] at k
    rw [tl, tc]
    exact k)
  have b1 : smI (c : Int) = false := by rw [sm_nat]; simp [smB]; omega
  have b2 : dgI (c : Int) = false := by rw [dg_nat]; simp [dgB]; omega
  have b3 : sgI (c : Int) = true := by rw [sg_nat]; exact hc
  have HRo := Lib.hid hro
  have HTm := Lib.hid tm
  have HTw := Lib.hid tw
  have HTl := Lib.hid tl
  have HTc := Lib.hid tc
  have H := Lib.hid h
  have HT := Lib.hid hT
  have h0l := h0.line
  have h0c := h0.col
  clear h hT h0 hd hc hr hrk hst hro OW hen ht tl tc tm tw
  go_enter Tryd.func22, Tryd.ntmps22
  go_wp2_with fail
  go_region
  go_wp2_with (first | ((with_reducible refine (rsmall_any _ _).mono ?_); rintro e w9 ⟨rfl, rfl⟩) | ((with_reducible refine (rdigit_any _ _).mono ?_); rintro e w9 ⟨rfl, rfl⟩) | ((with_reducible refine (rsign_any _ _).mono ?_); rintro e w9 ⟨rfl, rfl⟩))
  change Code.wp _ _ _ _ (wW w s 4)
  have B0 := Lib.hid (wW_res w s 4)
  have B1 := Lib.hid (wW_word w s 4)
  have G2 := Lib.hid (wW_grown w s 4 b)
  have R2 := Lib.hid (wW_rf H.out s 4)
  generalize wW w s 4 = w2 at B0 B1 G2 R2 ⊢
  clear a2 a3
  have c0 : w2.cell? ⟨b, 0, none⟩ = some (strV l) := Blk.cell R2.out 0
  have c1 : w2.cell? ⟨b, 1, none⟩ = some (.int .i64 (p : Int)) := Blk.cell R2.out 1
  have n0 : (0 : Int) ≤ (p : Int) := by omega
  have n1 : (p : Int) ≤ (p : Int) + 1 := by omega
  have n2 : (p : Int) + 1 ≤ (l.length : Int) := by omega
  have z1 := Blk.cell B1.out 1
  have f1 := Blk.free B1.out 1
  simp only [List.getElem?_toArray, List.getElem?_cons_zero, List.getElem?_cons_succ] at z1
  have hb1 : ¬ b = w.heap.size + 1 := by omega
  have hb2 : ¬ w.heap.size + 1 = b := by omega
  go_region
  rw [cut_mid, show p + 1 - p = 1 by omega]
  have B0a := Lib.hid (Blk.drew (B0.out.oth (g := w.heap.size + 1) (by omega) 1 (strV ((l.drop p).take 1))))
  have B1a := Lib.hid (Blk.drew (B1.out.set 1 (strV ((l.drop p).take 1))))
  have R3 := Lib.hid (Blk.drew (Blk.oth R2.out (g := w.heap.size + 1) (by omega) 1 (strV ((l.drop p).take 1))))
  have G3 := Lib.hid (grown_drew (grown_set_new G2.out (Nat.le_succ w.heap.size) 1 (strV ((l.drop p).take 1))))
  change Exit.then _ _ _ _ (w2.setCell ⟨w.heap.size + 1, 1, none⟩ (strV ((l.drop p).take 1))).drew
  clear c0 c1 z1 f1 B0 B1 R2 G2
  generalize (w2.setCell ⟨w.heap.size + 1, 1, none⟩ (strV ((l.drop p).take 1))).drew = w3 at B0a B1a R3 G3 ⊢
  go_wp2_with fail
  refine (KO.out _ R3.out (HT.out _ G3.out)).mono ?_
  rintro e w4 ⟨rfl, hr4, hg4⟩
  have B0' := Lib.hid (B0a.out.kept hg4 (by simp; omega))
  have B1' := Lib.hid (B1a.out.kept hg4 (by simp; omega))
  have G4 := Lib.hid (grown_trans G3.out hg4)
  have R4 := Lib.hid hr4
  simp only [List.setIfInBounds_toArray, List.set_cons_succ, List.set_cons_zero] at B0' B1'
  have z0 := Blk.cell B1'.out 0
  have z1 := Blk.cell B1'.out 1
  have z2 := Blk.cell B1'.out 2
  have z3 := Blk.cell B1'.out 3
  have f0 := Blk.free B1'.out 0
  have f1 := Blk.free B1'.out 1
  have f2 := Blk.free B1'.out 2
  have f3 := Blk.free B1'.out 3
  have y0 := Blk.cell B0'.out 0
  have y1 := Blk.cell B0'.out 1
  have y2 := Blk.cell B0'.out 2
  have y3 := Blk.cell B0'.out 3
  have g0 := Blk.free B0'.out 0
  have g1 := Blk.free B0'.out 1
  have g2 := Blk.free B0'.out 2
  have g3 := Blk.free B0'.out 3
  simp only [List.getElem?_toArray, List.getElem?_cons_zero, List.getElem?_cons_succ] at z0 z1 z2 z3 y0 y1 y2 y3
  clear hr4 hg4 B0a B1a G3 R3 KO
  go_wp2_with fail
  refine bodyPost_rowW Tryd.results22 w.heap.size _ _ _ _ (.int .i64 0) ?d1 ?p1 ?s1 ((((B0'.out.set 0 _).set 1 _).set 2 _).set 3 _) Tryd.underlying38 rfl word_size ?_
  case d1 => rfl
  case p1 => rfl
  case s1 => rfl
  exact ⟨p + 1, t, by omega, by omega, by rw [HTl.out]; omega, by rw [HTc.out]; omega, (((Blk.oth R4.out (by omega) _ _).oth (by omega) _ _).oth (by omega) _ _).oth (by omega) _ _, grown_set_new (grown_set_new (grown_set_new (grown_set_new G4.out (Nat.le_refl _) _ _) (Nat.le_refl _) _ _) (Nat.le_refl _) _ _) (Nat.le_refl _) _ _, .inl ⟨4, (l.drop p).take 1, by omega, by rw [List.length_take]; omega, rfl, HTm.out, HTw.out, HRo.out⟩⟩

set_option maxRecDepth 100000 in
set_option maxHeartbeats 8000000 in
theorem word_quote (b p n : Nat) (l : List UInt8) (s : RS) (w : World) (hl : l.length ≤ 1000) (hm : s.mode = .btw) (hp : p < l.length) (h0 : OnW l p s p s) (hd : Utf8.decode ⟨l.toArray⟩ p = (34, n)) (h : RfAt w b l p s.line s.col) (hT : ∀ w', w.grownBy w' (some b) → Utab w') :
    Calls Tryd.prog 22 #[.pointer (some ⟨b, 0, none⟩), .int .i64 ((34 : Nat) : Int)] w (WoR l p s w b) := by
  have hbl := Blk.lt h
  have a2 : w.cell? ⟨b, 2, none⟩ = some (.int .i64 (s.line : Int)) := Blk.cell h 2
  have a3 : w.cell? ⟨b, 3, none⟩ = some (.int .i64 (s.col : Int)) := Blk.cell h 3
  have hn := dec_low l p 34 n hp hd (by omega)
  subst hn
  have hro := road_step l p 34 1 s _ hp hd (by rw [rune_ok l p 34 1 hp hd (by omega)]) (btw_quo s hm)
  obtain ⟨t, ht⟩ : ∃ z : RS, advF (beginF s 3 .str) 34 = z := ⟨_, rfl⟩
  rw [ht] at hro
  have tl : t.line = s.line := by rw [← ht]; rfl
  have tc : t.col = s.col + 1 := by rw [← ht]; rfl
  have tm : t.mode = .str := by rw [← ht]; rfl
  have tx : t.text = [] := by rw [← ht]; rfl
  have tk : t.kind = 3 := by rw [← ht]; rfl
  have twl : t.wl = s.line := by rw [← ht]; rfl
  have twc : t.wc = s.col := by rw [← ht]; rfl
  have tw : t.words = s.words := by rw [← ht]; rfl
  have h0l := h0.line
  have h0c := h0.col
  have KO : Hid (∀ w', RfAt w' b l p s.line s.col → Utab w' → Calls Tryd.prog 44 #[.pointer (some ⟨b, 0, none⟩)] w' fun e w'' => e = .returned (.tuple #[]) ∧ RfAt w'' b l (p + 1) t.line t.col ∧ w'.grownBy w'' (some b)) := Lib.hid (fun w' h hT => by
    have k := on_any b l p s.line s.col w' (by omega) (by omega) (by omega) hp h hT
    rw [hd] at k
    simp only at k
    rw [if_neg (by omega), if_neg (by omega)] at k
    rw [tl, tc]
    exact k)
  have KQ : Hid (∀ w', RfAt w' b l (p + 1) t.line t.col → (∀ w'', w'.grownBy w'' (some b) → Utab w'') → Calls Tryd.prog 49 #[.pointer (some ⟨b, 0, none⟩)] w' (QuR l (p + 1) t w' b)) :=
    Lib.hid (fun w' h hT => quoted_any b (p + 1) l t w' hl tm tx ⟨Nat.le_refl _, by omega, by rw [tl]; omega, by rw [tc]; omega, rfl, rfl, rfl, rfl, rfl, rfl⟩ h hT)
  have HRo := Lib.hid hro
  have HX := Lib.hid (And.intro tk (And.intro twl (And.intro twc tw)))
  have H := Lib.hid h
  have HT := Lib.hid hT
  clear h hT h0 hd hro ht tl tc tm tx tk twl twc tw
  go_enter Tryd.func22, Tryd.ntmps22
  go_wp2_with fail
  go_region
  have b1 : smI ((34 : Nat) : Int) = false := by decide
  have b2 : dgI ((34 : Nat) : Int) = false := by decide
  have b3 : sgI ((34 : Nat) : Int) = false := by decide
  have b4 : ((34 : Nat) : Int) = 34 := rfl
  rw [b4] at b1 b2 b3
  go_wp2_with (first | ((with_reducible refine (rsmall_any _ _).mono ?_); rintro e w9 ⟨rfl, rfl⟩) | ((with_reducible refine (rdigit_any _ _).mono ?_); rintro e w9 ⟨rfl, rfl⟩) | ((with_reducible refine (rsign_any _ _).mono ?_); rintro e w9 ⟨rfl, rfl⟩))
  change Calls _ _ _ (wW w s 3) _
  have B0 := Lib.hid (wW_res w s 3)
  have B1 := Lib.hid (wW_word w s 3)
  have G2 := Lib.hid (wW_grown w s 3 b)
  have R2 := Lib.hid (wW_rf H.out s 3)
  clear a2 a3
  generalize wW w s 3 = w2 at B0 B1 G2 R2 ⊢
  refine (KO.out _ R2.out (HT.out _ G2.out)).mono ?_
  rintro e w3 ⟨rfl, hr3, hg3⟩
  have B0a := Lib.hid (B0.out.kept hg3 (by simp; omega))
  have B1a := Lib.hid (B1.out.kept hg3 (by simp; omega))
  have G3 := Lib.hid (grown_trans G2.out hg3)
  have R3 := Lib.hid hr3
  clear hr3 hg3 B0 B1 G2 R2 KO
  go_wp2_with fail
  refine (KQ.out _ R3.out (fun w'' h => HT.out w'' (grown_trans G3.out h))).mono ?_
  rintro e w4 ⟨q, u, q1, q2, q3, q4, hr4, hg4, hq⟩
  have B0' := Lib.hid (B0a.out.kept hg4 (by simp; omega))
  have B1' := Lib.hid (B1a.out.kept hg4 (by simp; omega))
  have G4 := Lib.hid (grown_trans G3.out hg4)
  have R4 := Lib.hid hr4
  have z0 := Blk.cell B1'.out 0
  have z1 := Blk.cell B1'.out 1
  have z2 := Blk.cell B1'.out 2
  have z3 := Blk.cell B1'.out 3
  have f0 := Blk.free B1'.out 0
  have f1 := Blk.free B1'.out 1
  have f2 := Blk.free B1'.out 2
  have f3 := Blk.free B1'.out 3
  have y0 := Blk.cell B0'.out 0
  have y1 := Blk.cell B0'.out 1
  have y2 := Blk.cell B0'.out 2
  have y3 := Blk.cell B0'.out 3
  have g0 := Blk.free B0'.out 0
  have g1 := Blk.free B0'.out 1
  have g2 := Blk.free B0'.out 2
  have g3 := Blk.free B0'.out 3
  simp only [List.getElem?_toArray, List.getElem?_cons_zero, List.getElem?_cons_succ] at z0 z1 z2 z3 y0 y1 y2 y3
  clear hr4 hg4 B0a B1a G3 R3 KQ
  rcases hq with ⟨x, x1, rfl, x2, x3, x4⟩ | ⟨er, x1, rfl, x2⟩
  · have X1 : Hid (x.length ≤ l.length) := Lib.hid (by omega)
    have X2 := Lib.hid x2
    have X3 : Hid (u.words = s.words ++ [(3, x, s.line, s.col)]) := Lib.hid (by rw [x3, HX.out.1, HX.out.2.1, HX.out.2.2.1, HX.out.2.2.2])
    have X4 : Hid (road l p s = road l q u) := Lib.hid (by rw [HRo.out]; exact x4)
    clear x1 x2 x3 x4
    simp only
    go_wp2_with fail
    refine bodyPost_rowW Tryd.results22 w.heap.size _ _ _ _ (.int .i64 0) ?d1 ?p1 ?s1 (((((B0'.out.oth (g := w.heap.size + 1) (by omega) 1 _).set 0 _).set 1 _).set 2 _).set 3 _) Tryd.underlying38 rfl word_size ?_
    case d1 => rfl
    case p1 => rfl
    case s1 => rfl
    exact ⟨q, u, by omega, q2, q3, q4, ((((Blk.oth R4.out (by omega) _ _).oth (by omega) _ _).oth (by omega) _ _).oth (by omega) _ _).oth (by omega) _ _, grown_set_new (grown_set_new (grown_set_new (grown_set_new (grown_set_new G4.out (Nat.le_succ _) _ _) (Nat.le_refl _) _ _) (Nat.le_refl _) _ _) (Nat.le_refl _) _ _) (Nat.le_refl _) _ _, .inl ⟨3, x, by omega, X1.out, rfl, X2.out, X3.out, X4.out⟩⟩
  · have X1 := Lib.hid x1
    have X4 : Hid (road l p s = ([], u.line, u.col, er)) := Lib.hid (by rw [HRo.out]; exact x2)
    clear x1 x2
    simp only
    go_wp2_with fail
    refine bodyPost_rowW Tryd.results22 w.heap.size _ _ _ _ (.int .i64 er) ?d2 ?p2 ?s2 (((((B0'.out.oth (g := w.heap.size + 1) (by omega) 1 _).set 0 _).set 1 _).set 2 _).set 3 _) Tryd.underlying38 rfl word_size ?_
    case d2 => rfl
    case p2 => rfl
    case s2 => rfl
    exact ⟨q, u, by omega, q2, q3, q4, ((((Blk.oth R4.out (by omega) _ _).oth (by omega) _ _).oth (by omega) _ _).oth (by omega) _ _).oth (by omega) _ _, grown_set_new (grown_set_new (grown_set_new (grown_set_new (grown_set_new G4.out (Nat.le_succ _) _ _) (Nat.le_refl _) _ _) (Nat.le_refl _) _ _) (Nat.le_refl _) _ _) (Nat.le_refl _) _ _, .inr ⟨3, [], er, X1.out, rfl, X4.out⟩⟩

set_option maxRecDepth 100000 in
set_option maxHeartbeats 8000000 in
theorem word_none (b p c : Nat) (l : List UInt8) (s : RS) (w : World) (hl : l.length ≤ 1000) (h0 : OnW l p s p s) (b1 : smI (c : Int) = false) (b2 : dgI (c : Int) = false) (b3 : sgI (c : Int) = false) (h34 : c ≠ 34) (hr : road l p s = ([], s.line, s.col, 4)) (h : RfAt w b l p s.line s.col) :
    Calls Tryd.prog 22 #[.pointer (some ⟨b, 0, none⟩), .int .i64 (c : Int)] w (WoR l p s w b) := by
  have hbl := Blk.lt h
  have a2 : w.cell? ⟨b, 2, none⟩ = some (.int .i64 (s.line : Int)) := Blk.cell h 2
  have a3 : w.cell? ⟨b, 3, none⟩ = some (.int .i64 (s.col : Int)) := Blk.cell h 3
  have q34 : ((c : Int) == 34) = false := by simp; omega
  have H := Lib.hid h
  have HR := Lib.hid hr
  have H0 := Lib.hid h0
  clear h hr h0 h34
  go_enter Tryd.func22, Tryd.ntmps22
  go_wp2_with fail
  go_region
  go_wp2_with (first | ((with_reducible refine (rsmall_any _ _).mono ?_); rintro e w9 ⟨rfl, rfl⟩) | ((with_reducible refine (rdigit_any _ _).mono ?_); rintro e w9 ⟨rfl, rfl⟩) | ((with_reducible refine (rsign_any _ _).mono ?_); rintro e w9 ⟨rfl, rfl⟩))
  refine bodyPost_rowW Tryd.results22 w.heap.size _ _ _ _ (.int .i64 4) ?d1 ?p1 ?s1 (Blk.drew (Blk.alloc (Blk.new w _ _) _)) Tryd.underlying38 rfl word_size ?_
  case d1 => rfl
  case p1 => rfl
  case s1 => rfl
  exact ⟨p, s, Nat.le_refl _, H0.out.here, H0.out.line, H0.out.col, Blk.drew (Blk.alloc (Blk.alloc H.out _) _), grown_drew (grown_alloc (grown_alloc (World.grownBy.refl _ _) _) _), .inr ⟨0, [], 4, by decide, rfl, HR.out⟩⟩

theorem word_any (b p c n : Nat) (l : List UInt8) (s : RS) (w : World) (hl : l.length ≤ 1000) (hm : s.mode = .btw) (hp : p < l.length) (h0 : OnW l p s p s) (hd : Utf8.decode ⟨l.toArray⟩ p = (c, n)) (h5 : c ≠ 35) (h6 : c ≠ 32) (h7 : c ≠ 9) (h8 : c ≠ 10) (h : RfAt w b l p s.line s.col) (hT : ∀ w', w.grownBy w' (some b) → Utab w') :
    Calls Tryd.prog 22 #[.pointer (some ⟨b, 0, none⟩), .int .i64 (c : Int)] w (WoR l p s w b) := by
  cases h1 : smB c
  · cases h2 : dgB c
    · cases h3 : sgB c
      · by_cases h4 : c = 34
        · subst h4
          exact word_quote b p n l s w hl hm hp h0 hd h hT
        · exact word_none b p c l s w hl h0 (by rw [sm_nat, h1]) (by rw [dg_nat, h2]) (by rw [sg_nat, h3]) h4 (tel_bad l p c n s hp hd (.inr (btw_no s c hm h1 h2 h3 h4 h5 h6 h7 h8))) h
      · exact word_sign b p c n l s w hl hm hp h0 hd h3 h hT
    · exact word_plain false b p c n l s w hl hm hp h0 hd h2 h hT
  · exact word_plain true b p c n l s w hl hm hp h0 hd h1 h hT
end Go.Proofs.YtdiighpmgfbmaaaDoor
