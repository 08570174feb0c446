/- What a label, and a term, reads, and what it answers: as plain functions. Condition: the reader lies in memory. -/
import Derived.Test.YteclbkjonaildaaLRead
namespace Go.Proofs.Yteclbkjonaildaa
open Go.RowKit

/-- A row and a word are handed back. -/
theorem results_row2 {P : Program} {fn : Func} {p s : Tmp} {ty : TypeId} (h : fn.results = #[.cell p ty, .tmp s]) (tmps : Array Value) (w : World) (g : Nat) (t : TypeId) (cs : Array Value) (fr : Nat × Nat) (d : TypeDesc) (v : Value)
    (hp : tmps.getD p undef = .pointer (some ⟨g, 0, none⟩)) (hs : tmps.getD s undef = v) (hg : w.heap[g]? = some (.cells cs t fr))
    (hu : P.underlying ty = some d) (hd : (match d with | .struct _ | .array _ _ => true | _ => false) = true) (hi : (P.info? ty).map (·.size) = some cs.size) :
    (results fn tmps).run P w = .ok (.tuple #[.agg cs, v]) w := by
  have hp' : tmps[p]?.getD undef = .pointer (some ⟨g, 0, none⟩) := by simpa using hp
  have hs' : tmps[s]?.getD undef = v := by simpa using hs
  simp [results, h, hp', hs', asAddr, run_loadVar_row w g t ty cs fr d hg hu hd hi]
theorem bodyPost_row2 {P : Program} {fn : Func} {p s : Tmp} {ty : TypeId} {R : Ending → World → Prop} {a : Act} {w : World} (h : fn.results = #[.cell p ty, .tmp s]) (g : Nat) (t : TypeId) (cs : Array Value) (fr : Nat × Nat) (d : TypeDesc) (v : Value)
    (hd0 : a.defers = []) (hp : a.tmps.getD p undef = .pointer (some ⟨g, 0, none⟩)) (hs : a.tmps.getD s undef = v) (hg : w.heap[g]? = some (.cells cs t fr))
    (hu : P.underlying ty = some d) (hd : (match d with | .struct _ | .array _ _ => true | _ => false) = true) (hi : (P.info? ty).map (·.size) = some cs.size)
    (hR : R (.returned (.tuple #[.agg cs, v])) w) : bodyPost P fn R .ret a w :=
  bodyPost_ret (results_row2 h a.tmps w g t cs fr d v hp hs hg hu hd hi) hd0 hR

theorem label_size : (Try.prog.info? 41).map (·.size) = some 2 := by kernel_rfl
theorem term_size : (Try.prog.info? 43).map (·.size) = some 3 := by kernel_rfl

/-- A label's value. -/
abbrev labV (x : List UInt8 × List UInt8) : Value := .agg #[strV x.1, strV x.2]
/-- A term's value: its kind, its key, its value. -/
abbrev terV (x : Int × List UInt8 × List UInt8) : Value := .agg #[.int .i64 x.1, strV x.2.1, strV x.2.2]

/-- What a label reads: it, whether it is one, where it ends. -/
def labF (vf : List UInt8 → Nat → List UInt8 × Bool × Nat) (l : List UInt8) (a : Nat) : (List UInt8 × List UInt8) × Bool × Nat :=
  let n := wordL okName l a
  if n = 0 then (([], []), false, a) else if signL l (a + n) 61 = false then (([], []), false, a + n) else
  (((l.drop a).take n, (vf l (a + n + 1)).1), (vf l (a + n + 1)).2)

/-- What reading a label leaves. -/
def ReadsL (w : World) (B : Nat) (l : List UInt8) (x : (List UInt8 × List UInt8) × Bool × Nat) (e : Ending) (w' : World) : Prop :=
  e = .returned (.tuple #[labV x.1, .bool x.2.1]) ∧ RdAt w' B l x.2.2 ∧ w.grownBy w' (some B)
def ReadsT (w : World) (B : Nat) (l : List UInt8) (x : (Int × List UInt8 × List UInt8) × Bool × Nat) (e : Ending) (w' : World) : Prop :=
  e = .returned (.tuple #[terV x.1, .bool x.2.1]) ∧ RdAt w' B l x.2.2 ∧ w.grownBy w' (some B)

theorem sign_lt {l : List UInt8} {a : Nat} {c : UInt8} (h : signL l a c = true) : a + 1 ≤ l.length := by
  unfold signL at h
  have := of_decide_eq_true h
  have := (List.getElem?_eq_some_iff.1 this).1
  omega

set_option maxHeartbeats 1000000 in
theorem label_any (vf : List UInt8 → Nat → List UInt8 × Bool × Nat) (g : FuncId) (B : Nat) (l : List UInt8) (a : Nat) (w : World) (h : RdAt w B l a) (hl : l.length ≤ 140737488355328) (ha : a ≤ l.length)
    (henter : ∀ (args : Array Value) (w : World), (callFunc g args).run Try.prog w = .ok (.enter g args) w)
    (hcl : ∀ (a : Nat) (w : World), RdAt w B l a → a ≤ l.length → Calls Try.prog g #[.pointer (some ⟨B, 0, none⟩)] w (Reads w B l (vf l a))) :
    Calls Try.prog 31 #[.pointer (some ⟨B, 0, none⟩), .func (Fn.func g) #[.pointer (some ⟨B, 0, none⟩)] #[]] w (ReadsL w B l (labF vf l a)) := by
  have H := Lib.hid h
  have Hcl := Lib.hid hcl
  have hlt := h.lt
  clear h hcl
  obtain ⟨n, hn⟩ : ∃ n, wordL okName l a = n := ⟨_, rfl⟩
  have hle := word_le okName l a ha
  rw [hn] at hle
  have R0 : Hid (RdAt (w.alloc (.cells #[.string ⟨#[]⟩, .string ⟨#[]⟩] 41)) B l a) := Lib.hid (Blk.alloc H.out _)
  have K := Lib.hid (name_any B l a n _ R0.out hl ha hn)
  by_cases h0 : n = 0
  · have e : labF vf l a = (([], []), false, a) := by unfold labF; simp only [hn]; rw [if_pos h0]
    have hz : decide (0 < n) = false := by simp [h0]
    have H0 := Lib.hid h0
    have E := Lib.hid e
    clear h0 e hn
    go_enter Try.func31, Try.ntmps31
    go_wp2_with fail
    refine K.out.mono ?_
    rintro e w1 ⟨rfl, hr, hg⟩
    have R1 := Lib.hid hr
    have G1 := Lib.hid hg
    have C1 := Lib.hid (Blk.kept (Blk.new w #[.string ⟨#[]⟩, .string ⟨#[]⟩] 41) hg (by simp; omega))
    clear hr hg
    have d0 : w1.cell? ⟨w.heap.size, 0, none⟩ = some (.string ⟨#[]⟩) := Blk.cell C1.out 0
    have d1 : w1.cell? ⟨w.heap.size, 1, none⟩ = some (.string ⟨#[]⟩) := Blk.cell C1.out 1
    have f0 := Blk.free C1.out 0
    have f1 := Blk.free C1.out 1
    go_wp2
    refine bodyPost_row2 Try.results31 w.heap.size _ _ _ _ (.bool false) ?d1 ?p1 ?s1 (((C1.out.set 0 (strV ((l.drop a).take n))).set 0 (.string ⟨#[]⟩)).set 1 (.string ⟨#[]⟩)) Try.underlying41 rfl label_size ?_
    case d1 => rfl
    case p1 => rfl
    case s1 => rfl
    rw [E.out]
    have hz := H0.out
    subst hz
    exact ⟨rfl, ((Blk.oth R1.out (by omega) _ _).oth (by omega) _ _).oth (by omega) _ _, grown_set_new (grown_set_new (grown_set_new (grown_trans (World.grownBy_alloc _ _ _) G1.out) (Nat.le_refl _) _ _) (Nat.le_refl _) _ _) (Nat.le_refl _) _ _⟩
  · have hz : decide (0 < n) = true := by simp; omega
    by_cases hs : signL l (a + n) 61 = false
    · have e : labF vf l a = (([], []), false, a + n) := by unfold labF; simp only [hn]; rw [if_neg h0, if_pos hs]
      have E := Lib.hid e
      have Hs := Lib.hid hs
      clear h0 e hn hs
      go_enter Try.func31, Try.ntmps31
      go_wp2_with fail
      refine K.out.mono ?_
      rintro e w1 ⟨rfl, hr, hg⟩
      have R1 := Lib.hid hr
      have G1 := Lib.hid hg
      have C1 := Lib.hid (Blk.kept (Blk.new w #[.string ⟨#[]⟩, .string ⟨#[]⟩] 41) hg (by simp; omega))
      clear hr hg
      have d0 : w1.cell? ⟨w.heap.size, 0, none⟩ = some (.string ⟨#[]⟩) := Blk.cell C1.out 0
      have d1 : w1.cell? ⟨w.heap.size, 1, none⟩ = some (.string ⟨#[]⟩) := Blk.cell C1.out 1
      have f0 := Blk.free C1.out 0
      have f1 := Blk.free C1.out 1
      go_wp2_with fail
      refine (sign_no B l (a + n) 61 _ (Blk.oth R1.out (by omega) _ _) hl hle Hs.out).mono ?_
      rintro e w2 ⟨rfl, hr, hg⟩
      have R2 := Lib.hid hr
      have G2 := Lib.hid hg
      have C2 := Lib.hid (Blk.kept (C1.out.set 0 (strV ((l.drop a).take n))) hg (by simp; omega))
      clear hr hg f0 f1 d0 d1
      have d0 : w2.cell? ⟨w.heap.size, 0, none⟩ = some (strV ((l.drop a).take n)) := Blk.cell C2.out 0
      have d1 : w2.cell? ⟨w.heap.size, 1, none⟩ = some (.string ⟨#[]⟩) := Blk.cell C2.out 1
      have f0 := Blk.free C2.out 0
      have f1 := Blk.free C2.out 1
      go_wp2
      refine bodyPost_row2 Try.results31 w.heap.size _ _ _ _ (.bool false) ?d2 ?p2 ?s2 ((C2.out.set 0 (.string ⟨#[]⟩)).set 1 (.string ⟨#[]⟩)) Try.underlying41 rfl label_size ?_
      case d2 => rfl
      case p2 => rfl
      case s2 => rfl
      rw [E.out]
      exact ⟨rfl, (Blk.oth R2.out (by omega) _ _).oth (by omega) _ _, grown_set_new (grown_set_new (grown_trans (grown_set_new (grown_trans (World.grownBy_alloc _ _ _) G1.out) (Nat.le_refl _) _ _) G2.out) (Nat.le_refl _) _ _) (Nat.le_refl _) _ _⟩
    · have hs : signL l (a + n) 61 = true := by simpa using hs
      have hle2 := sign_lt hs
      have e : labF vf l a = (((l.drop a).take n, (vf l (a + n + 1)).1), (vf l (a + n + 1)).2) := by unfold labF; simp only [hn]; rw [if_neg h0, if_neg (by rw [hs]; simp)]
      have E := Lib.hid e
      have Hs := Lib.hid hs
      clear h0 e hn hs
      go_enter Try.func31, Try.ntmps31
      go_wp2_with fail
      refine K.out.mono ?_
      rintro e w1 ⟨rfl, hr, hg⟩
      have R1 := Lib.hid hr
      have G1 := Lib.hid hg
      have C1 := Lib.hid (Blk.kept (Blk.new w #[.string ⟨#[]⟩, .string ⟨#[]⟩] 41) hg (by simp; omega))
      clear hr hg
      have d0 : w1.cell? ⟨w.heap.size, 0, none⟩ = some (.string ⟨#[]⟩) := Blk.cell C1.out 0
      have d1 : w1.cell? ⟨w.heap.size, 1, none⟩ = some (.string ⟨#[]⟩) := Blk.cell C1.out 1
      have f0 := Blk.free C1.out 0
      have f1 := Blk.free C1.out 1
      go_wp2_with fail
      refine (sign_yes B l (a + n) 61 _ (Blk.oth R1.out (by omega) _ _) hl hle Hs.out).mono ?_
      rintro e w2 ⟨rfl, hr, hg⟩
      have R2 := Lib.hid hr
      have G2 := Lib.hid hg
      have C2 := Lib.hid (Blk.kept (C1.out.set 0 (strV ((l.drop a).take n))) hg (by simp; omega))
      clear hr hg f0 f1 d0 d1
      rcases hv : vf l (a + n + 1) with ⟨v, is, z⟩
      have K2 : Hid (Calls Try.prog g #[.pointer (some ⟨B, 0, none⟩)] w2 (Reads w2 B l (v, is, z))) := by
        show Calls _ _ _ _ _
        rw [← hv]
        exact Hcl.out (a + n + 1) w2 R2.out hle2
      have Hv := Lib.hid hv
      clear hv
      go_wp2_with fail
      refine K2.out.mono ?_
      rintro e w3 ⟨rfl, hr, hg⟩
      have R3 := Lib.hid hr
      have G3 := Lib.hid hg
      have C3 := Lib.hid (Blk.kept C2.out hg (by simp; omega))
      clear hr hg
      have f0 := Blk.free C3.out 0
      have f1 := Blk.free C3.out 1
      have d0 : w3.cell? ⟨w.heap.size, 0, none⟩ = some (strV ((l.drop a).take n)) := Blk.cell C3.out 0
      have d1 : w3.cell? ⟨w.heap.size, 1, none⟩ = some (.string ⟨#[]⟩) := Blk.cell C3.out 1
      go_wp2
      refine bodyPost_row2 Try.results31 w.heap.size _ _ _ _ (.bool is) ?d3 ?p3 ?s3 (((C3.out.set 1 (strV v)).set 0 (strV ((l.drop a).take n))).set 1 (strV v)) Try.underlying41 rfl label_size ?_
      case d3 => rfl
      case p3 => rfl
      case s3 => rfl
      rw [E.out, Hv.out]
      exact ⟨rfl, ((Blk.oth R3.out (by omega) _ _).oth (by omega) _ _).oth (by omega) _ _, grown_set_new (grown_set_new (grown_set_new (grown_trans (grown_trans (grown_set_new (grown_trans (World.grownBy_alloc _ _ _) G1.out) (Nat.le_refl _) _ _) G2.out) G3.out) (Nat.le_refl _) _ _) (Nat.le_refl _) _ _) (Nat.le_refl _) _ _⟩

/-- What stands behind a term's key: its kind, whether it may be, where it ends. -/
def relF (l : List UInt8) (a : Nat) : Int × Bool × Nat :=
  if signL l a 61 = true then (1, true, a + 1) else if signL l a 33 = true then (if signL l (a + 1) 61 = true then (2, true, a + 2) else (2, false, a + 1)) else (3, true, a)

theorem relF_cases (l : List UInt8) (a : Nat) (ha : a ≤ l.length) : relF l a = (3, true, a) ∨ (∃ b, relF l a = (2, false, b) ∧ b ≤ l.length) ∨ (∃ k b, relF l a = (k, true, b) ∧ (k = 1 ∨ k = 2) ∧ b ≤ l.length) := by
  unfold relF
  by_cases h1 : signL l a 61 = true
  · rw [if_pos h1]
    exact .inr (.inr ⟨1, a + 1, rfl, .inl rfl, sign_lt h1⟩)
  · rw [if_neg h1]
    by_cases h2 : signL l a 33 = true
    · rw [if_pos h2]
      by_cases h3 : signL l (a + 1) 61 = true
      · rw [if_pos h3]
        exact .inr (.inr ⟨2, a + 2, rfl, .inr rfl, sign_lt h3⟩)
      · rw [if_neg h3]
        exact .inr (.inl ⟨a + 1, rfl, sign_lt h2⟩)
    · rw [if_neg h2]
      exact .inl rfl

set_option maxHeartbeats 400000 in
theorem relation_any (B : Nat) (l : List UInt8) (a : Nat) (k : Int) (is : Bool) (z : Nat) (w : World) (h : RdAt w B l a) (hl : l.length ≤ 140737488355328) (ha : a ≤ l.length) (he : relF l a = (k, is, z)) :
    Calls Try.prog 66 #[.pointer (some ⟨B, 0, none⟩)] w fun e w' => e = .returned (.tuple #[.int .i64 k, .bool is]) ∧ RdAt w' B l z ∧ w.grownBy w' (some B) := by
  have H := Lib.hid h
  clear h
  unfold relF at he
  cases h1 : signL l a 61
  · rw [h1, if_neg (by simp)] at he
    have K1 := Lib.hid (sign_no B l a 61 w H.out hl ha h1)
    cases h2 : signL l a 33
    · rw [h2, if_neg (by simp)] at he
      simp only [Prod.mk.injEq] at he
      obtain ⟨rfl, rfl, rfl⟩ := he
      have H2 := Lib.hid h2
      clear h1 h2
      go_enter Try.func66, Try.ntmps66
      go_wp2_with fail
      refine K1.out.mono ?_
      rintro e w1 ⟨rfl, hr, hg⟩
      have R1 := Lib.hid hr
      have G1 := Lib.hid hg
      clear hr hg
      go_wp2_with fail
      refine (sign_no B l a 33 _ R1.out hl ha H2.out).mono ?_
      rintro e w2 ⟨rfl, hr, hg⟩
      have R2 := Lib.hid hr
      have G2 := Lib.hid hg
      clear hr hg
      go_wp2
      go_ret2
      exact ⟨rfl, R2.out, grown_trans G1.out G2.out⟩
    · have ha2 := sign_lt h2
      cases h3 : signL l (a + 1) 61
      · rw [h2, if_pos rfl, h3, if_neg (by simp)] at he
        simp only [Prod.mk.injEq] at he
        obtain ⟨rfl, rfl, rfl⟩ := he
        have H2 := Lib.hid h2
        have H3 := Lib.hid h3
        clear h1 h2 h3
        go_enter Try.func66, Try.ntmps66
        go_wp2_with fail
        refine K1.out.mono ?_
        rintro e w1 ⟨rfl, hr, hg⟩
        have R1 := Lib.hid hr
        have G1 := Lib.hid hg
        clear hr hg
        go_wp2_with fail
        refine (sign_yes B l a 33 _ R1.out hl ha H2.out).mono ?_
        rintro e w2 ⟨rfl, hr, hg⟩
        have R2 := Lib.hid hr
        have G2 := Lib.hid hg
        clear hr hg
        go_wp2_with fail
        refine (sign_no B l (a + 1) 61 _ R2.out hl ha2 H3.out).mono ?_
        rintro e w3 ⟨rfl, hr, hg⟩
        have R3 := Lib.hid hr
        have G3 := Lib.hid hg
        clear hr hg
        go_wp2
        go_ret2
        exact ⟨rfl, R3.out, grown_trans (grown_trans G1.out G2.out) G3.out⟩
      · rw [h2, if_pos rfl, h3, if_pos rfl] at he
        simp only [Prod.mk.injEq] at he
        obtain ⟨rfl, rfl, rfl⟩ := he
        have H2 := Lib.hid h2
        have H3 := Lib.hid h3
        clear h1 h2 h3
        go_enter Try.func66, Try.ntmps66
        go_wp2_with fail
        refine K1.out.mono ?_
        rintro e w1 ⟨rfl, hr, hg⟩
        have R1 := Lib.hid hr
        have G1 := Lib.hid hg
        clear hr hg
        go_wp2_with fail
        refine (sign_yes B l a 33 _ R1.out hl ha H2.out).mono ?_
        rintro e w2 ⟨rfl, hr, hg⟩
        have R2 := Lib.hid hr
        have G2 := Lib.hid hg
        clear hr hg
        go_wp2_with fail
        refine (sign_yes B l (a + 1) 61 _ R2.out hl ha2 H3.out).mono ?_
        rintro e w3 ⟨rfl, hr, hg⟩
        have R3 := Lib.hid hr
        have G3 := Lib.hid hg
        clear hr hg
        go_wp2
        go_ret2
        exact ⟨rfl, R3.out, grown_trans (grown_trans G1.out G2.out) G3.out⟩
  · rw [h1, if_pos rfl] at he
    simp only [Prod.mk.injEq] at he
    obtain ⟨rfl, rfl, rfl⟩ := he
    have K1 := Lib.hid (sign_yes B l a 61 w H.out hl ha h1)
    clear h1
    go_enter Try.func66, Try.ntmps66
    go_wp2_with fail
    refine K1.out.mono ?_
    rintro e w1 ⟨rfl, hr, hg⟩
    have R1 := Lib.hid hr
    have G1 := Lib.hid hg
    clear hr hg
    go_wp2
    go_ret2
    exact ⟨rfl, R1.out, G1.out⟩

/-- What a term reads: it, whether it is one, where it ends. -/
def terF (l : List UInt8) (a : Nat) : (Int × List UInt8 × List UInt8) × Bool × Nat :=
  if signL l a 33 = true then ((4, (l.drop (a + 1)).take (wordL okName l (a + 1)), []), decide (0 < wordL okName l (a + 1)), a + 1 + wordL okName l (a + 1)) else
  let n := wordL okName l a
  if n = 0 then ((0, [], []), false, a) else
  match relF l (a + n) with
  | (k, is, b) => if is = true ∧ k ≠ 3 then ((k, (l.drop a).take n, (valF l b).1), (valF l b).2) else ((k, (l.drop a).take n, []), is, b)

end Go.Proofs.Yteclbkjonaildaa
