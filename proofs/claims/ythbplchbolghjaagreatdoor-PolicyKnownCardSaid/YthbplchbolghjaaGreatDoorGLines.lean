/- All lines of a policy. Conditions: the words lie in memory; the variables hold what was laid. -/
import Derived.Test.YthbplchbolghjaaGreatDoorGDrain
namespace Go.Proofs.YthbplchbolghjaaGreatDoor
open Go.RowKit

/-- What reads line i. -/
def lineP (i : Nat) (s : PR) : Bool × PR := match i with
  | 0 => sharesP putLow s
  | 1 => sharesP putHigh s
  | 2 => onP s
  | 3 => drainP s
  | 4 => numP putMoves s
  | 5 => numP putTries s
  | _ => rollP s
/-- Line i, if it stands there. -/
def stepP (i : Nat) (s : PR) : Bool × PR := match beginP s (keysL.getD i []) with
  | (false, s') => (true, s')
  | (true, s') => match lineP i s' with
    | (false, z) => (false, z)
    | (true, z) => endP z
def linesK (s : PR) : Nat → Bool × PR
  | 0 => (true, s)
  | k + 1 => match linesK s k with
    | (false, z) => (false, z)
    | (true, z) => stepP k z
def readP (s : PR) : Bool × PR := match linesK s 7 with
  | (false, z) => (false, z)
  | (true, z) => match z.rest[0]? with
    | some x => (false, failP z x 4)
    | none => (true, z)

/-- The same lines, the same names and bits. -/
structure Same (s s' : PR) : Prop where
  line : s'.line = s.line
  rest : s'.rest = s.rest
  on : s'.goal.on = s.goal.on
  drain : s'.goal.drain = s.goal.drain
theorem Same.refl (s : PR) : Same s s := ⟨rfl, rfl, rfl, rfl⟩
theorem Same.trans {a b c : PR} (h : Same a b) (k : Same b c) : Same a c := ⟨k.line.trans h.line, k.rest.trans h.rest, k.on.trans h.on, k.drain.trans h.drain⟩
theorem same_fail (s : PR) (x : Sc.W4) (er : Int) : Same s (failP s x er) := ⟨rfl, rfl, rfl, rfl⟩
theorem same_take (s : PR) (kind : Int) : Same s (takeP s kind).2 := by
  unfold takeP
  split
  · exact ⟨rfl, rfl, rfl, rfl⟩
  · split <;> exact ⟨rfl, rfl, rfl, rfl⟩
theorem same_putLow (i : Nat) (n : Int) (s : PR) : Same s (putLow i n s) := by unfold putLow; split <;> exact ⟨rfl, rfl, rfl, rfl⟩
theorem same_putHigh (i : Nat) (n : Int) (s : PR) : Same s (putHigh i n s) := by unfold putHigh; split <;> exact ⟨rfl, rfl, rfl, rfl⟩
theorem same_share {put : Nat → Int → PR → PR} (hp : ∀ i n s, Same s (put i n s)) (i : Nat) (s : PR) : Same s (shareP put i s).2 := by
  have h := same_take s 2
  unfold shareP
  generalize takeP s 2 = t at h
  obtain ⟨o, s'⟩ := t
  cases o with
  | none => exact h
  | some x =>
    simp only
    split
    · exact h.trans (hp _ _ _)
    · exact h.trans (same_fail _ _ _)
theorem same_shares {put : Nat → Int → PR → PR} (hp : ∀ i n s, Same s (put i n s)) (s : PR) : ∀ k, Same s (sharesK put s k).2
  | 0 => Same.refl s
  | k + 1 => by
    have h := same_shares hp s k
    unfold sharesK
    generalize sharesK put s k = t at h
    obtain ⟨b, z⟩ := t
    cases b with
    | false => exact h
    | true => exact h.trans (same_share hp k z)
theorem same_num {put : Int → PR → PR} (hp : ∀ n s, Same s (put n s)) (s : PR) : Same s (numP put s).2 := by
  have h := same_take s 2
  unfold numP
  generalize takeP s 2 = t at h
  obtain ⟨o, s'⟩ := t
  cases o with
  | none => exact h
  | some x =>
    simp only
    split
    · exact h.trans (same_fail _ _ _)
    · exact h.trans (hp _ _)
theorem same_end (s : PR) : Same s (endP s).2 := by
  unfold endP
  split
  · exact Same.refl s
  · exact same_fail _ _ _
theorem on_keeps : ∀ (f : Nat) (s : PR), 0 ≤ s.goal.on → s.goal.on < 32 → (onK f s).2.line = s.line ∧ (onK f s).2.rest = s.rest ∧ (onK f s).2.goal.drain = s.goal.drain ∧ 0 ≤ (onK f s).2.goal.on ∧ (onK f s).2.goal.on < 32
  | 0, s, h0, h1 => ⟨rfl, rfl, rfl, h0, h1⟩
  | f + 1, s, h0, h1 => by
    have h := same_take s 1
    unfold onK
    generalize takeP s 1 = t at h
    obtain ⟨o, s'⟩ := t
    have ho : s'.goal.on = s.goal.on := h.on
    have hl : s'.line = s.line := h.line
    have hr : s'.rest = s.rest := h.rest
    have hd : s'.goal.drain = s.goal.drain := h.drain
    cases o with
    | none => exact ⟨hl, hr, hd, by rw [ho]; exact h0, by rw [ho]; exact h1⟩
    | some x =>
      simp only
      split
      · exact ⟨hl, hr, hd, by show 0 ≤ s'.goal.on; rw [ho]; exact h0, by show s'.goal.on < 32; rw [ho]; exact h1⟩
      · next hb =>
        obtain ⟨_, hlt⟩ := or_bit (a := s'.goal.on) (t := x.2.1) (by omega) (by omega) (by omega)
        split
        · exact ⟨hl, hr, hd, by show 0 ≤ s'.goal.on + bitF x.2.1; omega, by show s'.goal.on + bitF x.2.1 < 32; exact hlt⟩
        · have k := on_keeps f (putOn (s'.goal.on + bitF x.2.1) s') (by show 0 ≤ s'.goal.on + bitF x.2.1; omega) hlt
          exact ⟨k.1.trans hl, k.2.1.trans hr, k.2.2.1.trans hd, k.2.2.2.1, k.2.2.2.2⟩
theorem drain_keeps : ∀ (f : Nat) (s : PR), (drainK f s).2.line = s.line ∧ (drainK f s).2.rest = s.rest ∧ (drainK f s).2.goal.on = s.goal.on
  | 0, s => ⟨rfl, rfl, rfl⟩
  | f + 1, s => by
    have h := same_take s 1
    unfold drainK
    generalize takeP s 1 = t at h
    obtain ⟨o, s'⟩ := t
    cases o with
    | none => exact ⟨h.line, h.rest, h.on⟩
    | some x =>
      simp only
      split
      · exact ⟨h.line, h.rest, h.on⟩
      · split
        · exact ⟨h.line, h.rest, h.on⟩
        · have k := drain_keeps f (putName x.2.1 s')
          exact ⟨k.1.trans h.line, k.2.1.trans h.rest, k.2.2.trans h.on⟩
theorem line_keeps (i : Nat) (s : PR) (h0 : 0 ≤ s.goal.on) (h1 : s.goal.on < 32) : (lineP i s).2.line = s.line ∧ (lineP i s).2.rest = s.rest ∧ 0 ≤ (lineP i s).2.goal.on ∧ (lineP i s).2.goal.on < 32 ∧ (i < 3 → (lineP i s).2.goal.drain = s.goal.drain) := by
  have key : ∀ z, Same s z → z.line = s.line ∧ z.rest = s.rest ∧ 0 ≤ z.goal.on ∧ z.goal.on < 32 ∧ (i < 3 → z.goal.drain = s.goal.drain) := fun z h => ⟨h.line, h.rest, by rw [h.on]; exact h0, by rw [h.on]; exact h1, fun _ => h.drain⟩
  unfold lineP
  split
  · exact key _ (same_shares same_putLow s 2)
  · exact key _ (same_shares same_putHigh s 2)
  · have h := on_keeps (s.line.length + 1) s h0 h1
    exact ⟨h.1, h.2.1, h.2.2.2.1, h.2.2.2.2, fun _ => h.2.2.1⟩
  · have h := drain_keeps (s.line.length + 1) s
    exact ⟨h.1, h.2.1, by rw [show (drainP s).2.goal.on = s.goal.on from h.2.2]; exact h0, by rw [show (drainP s).2.goal.on = s.goal.on from h.2.2]; exact h1, fun h => by omega⟩
  · exact key _ (same_num (put := putMoves) (fun n s => ⟨rfl, rfl, rfl, rfl⟩) s)
  · exact key _ (same_num (put := putTries) (fun n s => ⟨rfl, rfl, rfl, rfl⟩) s)
  · exact key _ ⟨rfl, rfl, rfl, rfl⟩

/-- What holds ahead of line i. -/
structure Inv (i : Nat) (s : PR) : Prop where
  on0 : 0 ≤ s.goal.on
  on1 : s.goal.on < 32
  dr : i < 4 → s.goal.drain = []
  rl : s.rest.length ≤ 100000
  big : ∀ x ∈ s.rest, x.2.1.length ≤ 100000
theorem begin_inv {i : Nat} {s s' : PR} {key : List UInt8} {b : Bool} (h : Inv i s) (hb : beginP s key = (b, s')) : Inv i s' ∧ (b = true → 1 ≤ s'.at_ ∧ s'.line.length ≤ 100000 ∧ ∀ x ∈ s'.line, x.2.1.length ≤ 100000) := by
  unfold beginP at hb
  cases hx : s.rest[0]? with
  | none =>
    rw [hx] at hb
    cases hb
    exact ⟨h, fun h => by cases h⟩
  | some x =>
    rw [hx] at hb
    simp only at hb
    split at hb
    · cases hb
      refine ⟨⟨h.on0, h.on1, h.dr, ?_, fun x hx => h.big x (List.mem_of_mem_drop hx)⟩, fun _ => ⟨Nat.le_refl _, ?_, fun x hx => h.big x (List.mem_of_mem_take hx)⟩⟩
      · have := h.rl
        simp only [List.length_drop]
        omega
      · have := h.rl
        simp only [List.length_take]
        omega
    · cases hb
      exact ⟨h, fun h => by cases h⟩
theorem line_inv {i : Nat} {s : PR} (h : Inv i s) : Inv (i + 1) (lineP i s).2 := by
  have k := line_keeps i s h.on0 h.on1
  exact ⟨k.2.2.1, k.2.2.2.1, fun hi => by rw [k.2.2.2.2 (by omega)]; exact h.dr (by omega), by rw [k.2.1]; exact h.rl, by rw [k.2.1]; exact h.big⟩
theorem end_inv {i : Nat} {s : PR} (h : Inv i s) : Inv i (endP s).2 := by
  have k := same_end s
  exact ⟨by rw [k.on]; exact h.on0, by rw [k.on]; exact h.on1, fun hi => by rw [k.drain]; exact h.dr hi, by rw [k.rest]; exact h.rl, by rw [k.rest]; exact h.big⟩
theorem Inv.next {i : Nat} {s : PR} (h : Inv i s) : Inv (i + 1) s := ⟨h.on0, h.on1, fun hi => h.dr (by omega), h.rl, h.big⟩

/-- The reader of line i. -/
def fidL : Nat → FuncId
  | 0 => 63
  | 1 => 64
  | 2 => 65
  | 3 => 66
  | 4 => 67
  | 5 => 68
  | _ => 69
theorem line_any (i : Nat) (hi : i < 7) (W0 : World) (g R : Nat) (A1 : Option Addr) (c1 : Nat) (A2 : Option Addr) (c2 : Nat) (A3 : Option Addr) (c3 : Nat) (s : PR) (w : World) (he : Env W0) (hw : Below W0.heap.size W0 w) (hg : W0.heap.size ≤ g) (hm : RdM w g A1 c1 A2 c2 A3 c3 s) (hR : R ≠ g) (hRl : R < w.heap.size) (hn : ∀ b o, A3 = some ⟨b, o, none⟩ → b ≠ R) (hv : Inv i s) (h1 : 1 ≤ s.at_) (hll : s.line.length ≤ 100000) (hbig : ∀ x ∈ s.line, x.2.1.length ≤ 100000) :
    Calls Tryz.prog (fidL i) #[.pointer (some ⟨g, 0, none⟩)] w fun e w' => e = .returned (.bool (lineP i s).1) ∧ (∃ A3' c3', RdM w' g A1 c1 A2 c2 A3' c3' (lineP i s).2 ∧ (∀ b o, A3' = some ⟨b, o, none⟩ → b ≠ R)) ∧ KeepD g R w w' := by
  have key : ∀ (f : FuncId) (t : Bool × PR), (Calls Tryz.prog f #[.pointer (some ⟨g, 0, none⟩)] w fun e w' => e = .returned (.bool t.1) ∧ RdM w' g A1 c1 A2 c2 A3 c3 t.2 ∧ KeepR g w w') → Calls Tryz.prog f #[.pointer (some ⟨g, 0, none⟩)] w fun e w' => e = .returned (.bool t.1) ∧ (∃ A3' c3', RdM w' g A1 c1 A2 c2 A3' c3' t.2 ∧ (∀ b o, A3' = some ⟨b, o, none⟩ → b ≠ R)) ∧ KeepD g R w w' := by
    intro f t h
    refine h.mono ?_
    rintro e w' ⟨rfl, hm', hk⟩
    exact ⟨rfl, ⟨A3, c3, hm', hn⟩, hk.toD hR⟩
  rcases i with _ | _ | _ | _ | _ | _ | _ | i
  · exact key _ _ (low_any g A1 c1 A2 c2 A3 c3 s w hm h1)
  · exact key _ _ (high_any g A1 c1 A2 c2 A3 c3 s w hm h1)
  · exact key _ _ (on_any g A1 c1 A2 c2 A3 c3 s w hm h1 ⟨hv.on0, hv.on1⟩ hbig)
  · exact gdrain_any g R A1 c1 A2 c2 A3 c3 s w hm hR hRl hn h1 (by rw [hv.dr (by omega)]; simp) hll hbig
  · exact key _ _ (moves_any W0 g A1 c1 A2 c2 A3 c3 s w he hw hg hm h1 hbig)
  · exact key _ _ (tries_any W0 g A1 c1 A2 c2 A3 c3 s w he hw hg hm h1 hbig)
  · exact key _ _ (rollback_any g A1 c1 A2 c2 A3 c3 s w hm)
  · omega
end Go.Proofs.YthbplchbolghjaaGreatDoor
