/- What a term reads, and the functions that readList is handed. Condition: the reader lies in memory. -/
import Derived.Test.YteclbkjonaildaaLLabel
namespace Go.Proofs.Yteclbkjonaildaa
open Go.RowKit

theorem Blk.c3 {w : World} {b : Nat} {x y z : Value} {t : TypeId} (h : Blk w b #[x, y, z] t) : w.cell? ⟨b, 0, none⟩ = some x ∧ w.cell? ⟨b, 1, none⟩ = some y ∧ w.cell? ⟨b, 2, none⟩ = some z ∧ w.frozen? ⟨b, 0, none⟩ = false ∧ w.frozen? ⟨b, 1, none⟩ = false ∧ w.frozen? ⟨b, 2, none⟩ = false :=
  ⟨Blk.cell h 0, Blk.cell h 1, Blk.cell h 2, Blk.free h 0, Blk.free h 1, Blk.free h 2⟩
theorem Blk.c2 {w : World} {b : Nat} {x y : Value} {t : TypeId} (h : Blk w b #[x, y] t) : w.cell? ⟨b, 0, none⟩ = some x ∧ w.cell? ⟨b, 1, none⟩ = some y ∧ w.frozen? ⟨b, 0, none⟩ = false ∧ w.frozen? ⟨b, 1, none⟩ = false :=
  ⟨Blk.cell h 0, Blk.cell h 1, Blk.free h 0, Blk.free h 1⟩
/-- A row is stored over a row of its own block. -/
theorem Blk.set2 {w : World} {b : Nat} {x y : Value} {t : TypeId} (h : Blk w b #[x, y] t) (x' y' : Value) : Blk ((w.setCell ⟨b, 0, none⟩ x').setCell ⟨b, 1, none⟩ y') b #[x', y'] t := (h.set 0 x').set 1 y'
theorem Blk.set3 {w : World} {b : Nat} {x y z : Value} {t : TypeId} (h : Blk w b #[x, y, z] t) (x' y' z' : Value) : Blk (((w.setCell ⟨b, 0, none⟩ x').setCell ⟨b, 1, none⟩ y').setCell ⟨b, 2, none⟩ z') b #[x', y', z'] t := ((h.set 0 x').set 1 y').set 2 z'
theorem Blk.oth3 {w : World} {b : Nat} {cs : Array Value} {t : TypeId} (h : Blk w b cs t) {g : Nat} (hne : b ≠ g) (x' y' z' : Value) : Blk (((w.setCell ⟨g, 0, none⟩ x').setCell ⟨g, 1, none⟩ y').setCell ⟨g, 2, none⟩ z') b cs t := ((h.oth hne 0 x').oth hne 1 y').oth hne 2 z'
theorem grown_set3 {a w : World} {row : Option Nat} (h : a.grownBy w row) {g : Nat} (hg : a.heap.size ≤ g) (x' y' z' : Value) : a.grownBy (((w.setCell ⟨g, 0, none⟩ x').setCell ⟨g, 1, none⟩ y').setCell ⟨g, 2, none⟩ z') row := grown_set_new (grown_set_new (grown_set_new h hg _ _) hg _ _) hg _ _

abbrev zt : Array Value := #[.int .i64 0, .string ⟨#[]⟩, .string ⟨#[]⟩]

set_option maxHeartbeats 1000000 in
theorem term_lacks (B : Nat) (l : List UInt8) (a n : Nat) (w : World) (h : RdAt w B l a) (hl : l.length ≤ 140737488355328) (ha : a ≤ l.length) (hs : signL l a 33 = true) (hn : wordL okName l (a + 1) = n) :
    Calls Try.prog 40 #[.pointer (some ⟨B, 0, none⟩)] w (ReadsT w B l ((4, (l.drop (a + 1)).take n, []), decide (0 < n), a + 1 + n)) := by
  have hlt := h.lt
  have R0 : Hid (RdAt (w.alloc (.cells zt 43)) B l a) := Lib.hid (Blk.alloc h _)
  have Hs := Lib.hid hs
  have ha2 := sign_lt hs
  have Hn := Lib.hid hn
  clear h hs hn
  go_enter Try.func40, Try.ntmps40
  go_wp2_with fail
  refine (sign_yes B l a 33 _ R0.out hl ha Hs.out).mono ?_
  rintro e w1 ⟨rfl, hr, hg⟩
  have R1 := Lib.hid hr
  have G1 : Hid (w.grownBy w1 (some B)) := Lib.hid (grown_trans (World.grownBy_alloc _ _ _) hg)
  have C1 : Hid (Blk w1 w.heap.size zt 43) := Lib.hid (Blk.kept (Blk.new w _ _) hg (by simp; omega))
  clear hr hg
  obtain ⟨d0, d1, d2, f0, f1, f2⟩ := Blk.c3 C1.out
  go_wp2_with fail
  refine (name_any B l (a + 1) n _ (Blk.oth R1.out (by omega) _ _) hl ha2 Hn.out).mono ?_
  rintro e w2 ⟨rfl, hr, hg⟩
  have R2 := Lib.hid hr
  have G2 : Hid (w.grownBy w2 (some B)) := Lib.hid (grown_trans (grown_set_new G1.out (Nat.le_refl _) _ _) hg)
  have C2 : Hid (Blk w2 w.heap.size #[.int .i64 4, .string ⟨#[]⟩, .string ⟨#[]⟩] 43) := Lib.hid (Blk.kept (C1.out.set 0 (.int .i64 4)) hg (by simp; omega))
  clear hr hg d0 d1 d2 f0 f1 f2
  obtain ⟨d0, d1, d2, f0, f1, f2⟩ := Blk.c3 C2.out
  go_wp2
  refine bodyPost_row2 Try.results40 w.heap.size _ _ _ _ (.bool (decide (0 < n))) ?d3 ?p3 ?s3 (Blk.set3 (C2.out.set 1 (strV ((l.drop (a + 1)).take n))) _ _ _) Try.underlying43 rfl term_size ?_
  case d3 => rfl
  case p3 => rfl
  case s3 => rfl
  exact ⟨rfl, Blk.oth3 (Blk.oth R2.out (by omega) _ _) (by omega) _ _ _, grown_set3 (grown_set_new G2.out (Nat.le_refl _) _ _) (Nat.le_refl _) _ _ _⟩

set_option maxHeartbeats 1000000 in
theorem term_none (B : Nat) (l : List UInt8) (a : Nat) (w : World) (h : RdAt w B l a) (hl : l.length ≤ 140737488355328) (ha : a ≤ l.length) (hs : signL l a 33 = false) (hn : wordL okName l a = 0) :
    Calls Try.prog 40 #[.pointer (some ⟨B, 0, none⟩)] w (ReadsT w B l ((0, [], []), false, a)) := by
  have hlt := h.lt
  have R0 : Hid (RdAt (w.alloc (.cells zt 43)) B l a) := Lib.hid (Blk.alloc h _)
  have Hs := Lib.hid hs
  have Hn := Lib.hid hn
  clear h hs hn
  go_enter Try.func40, Try.ntmps40
  go_wp2_with fail
  refine (sign_no B l a 33 _ R0.out hl ha Hs.out).mono ?_
  rintro e w1 ⟨rfl, hr, hg⟩
  have R1 := Lib.hid hr
  have G1 : Hid (w.grownBy w1 (some B)) := Lib.hid (grown_trans (World.grownBy_alloc _ _ _) hg)
  have C1 : Hid (Blk w1 w.heap.size zt 43) := Lib.hid (Blk.kept (Blk.new w _ _) hg (by simp; omega))
  clear hr hg
  go_wp2_with fail
  refine (name_any B l a 0 _ R1.out hl ha Hn.out).mono ?_
  rintro e w2 ⟨rfl, hr, hg⟩
  have R2 := Lib.hid hr
  have G2 : Hid (w.grownBy w2 (some B)) := Lib.hid (grown_trans G1.out hg)
  have C2 : Hid (Blk w2 w.heap.size zt 43) := Lib.hid (Blk.kept C1.out hg (by simp; omega))
  clear hr hg
  obtain ⟨d0, d1, d2, f0, f1, f2⟩ := Blk.c3 C2.out
  go_wp2
  refine bodyPost_row2 Try.results40 w.heap.size _ _ _ _ (.bool false) ?d3 ?p3 ?s3 (Blk.set3 (C2.out.set 1 (strV ((l.drop a).take 0))) _ _ _) Try.underlying43 rfl term_size ?_
  case d3 => rfl
  case p3 => rfl
  case s3 => rfl
  exact ⟨rfl, Blk.oth3 (Blk.oth R2.out (by omega) _ _) (by omega) _ _ _, grown_set3 (grown_set_new G2.out (Nat.le_refl _) _ _) (Nat.le_refl _) _ _ _⟩

set_option maxHeartbeats 1000000 in
theorem term_has (B : Nat) (l : List UInt8) (a n b : Nat) (w : World) (h : RdAt w B l a) (hl : l.length ≤ 140737488355328) (ha : a ≤ l.length) (hs : signL l a 33 = false) (hn : wordL okName l a = n) (h0 : 0 < n)
    (hr : relF l (a + n) = (3, true, b)) :
    Calls Try.prog 40 #[.pointer (some ⟨B, 0, none⟩)] w (ReadsT w B l ((3, (l.drop a).take n, []), true, b)) := by
  have hlt := h.lt
  have R0 : Hid (RdAt (w.alloc (.cells zt 43)) B l a) := Lib.hid (Blk.alloc h _)
  have Hs := Lib.hid hs
  have Hn := Lib.hid hn
  have Hr := Lib.hid hr
  have hle := word_le okName l a ha
  rw [hn] at hle
  have hz : decide (0 < n) = true := by simp; omega
  clear h hs hn hr
  go_enter Try.func40, Try.ntmps40
  go_wp2_with fail
  refine (sign_no B l a 33 _ R0.out hl ha Hs.out).mono ?_
  rintro e w1 ⟨rfl, hr, hg⟩
  have R1 := Lib.hid hr
  have G1 : Hid (w.grownBy w1 (some B)) := Lib.hid (grown_trans (World.grownBy_alloc _ _ _) hg)
  have C1 : Hid (Blk w1 w.heap.size zt 43) := Lib.hid (Blk.kept (Blk.new w _ _) hg (by simp; omega))
  clear hr hg
  go_wp2_with fail
  refine (name_any B l a n _ R1.out hl ha Hn.out).mono ?_
  rintro e w2 ⟨rfl, hr, hg⟩
  have R2 := Lib.hid hr
  have G2 : Hid (w.grownBy w2 (some B)) := Lib.hid (grown_trans G1.out hg)
  have C2 : Hid (Blk w2 w.heap.size zt 43) := Lib.hid (Blk.kept C1.out hg (by simp; omega))
  clear hr hg
  obtain ⟨d0, d1, d2, f0, f1, f2⟩ := Blk.c3 C2.out
  go_wp2_with fail
  refine (relation_any B l (a + n) _ _ b _ (Blk.oth R2.out (by omega) _ _) hl hle Hr.out).mono ?_
  rintro e w3 ⟨rfl, hr, hg⟩
  have R3 := Lib.hid hr
  have G3 : Hid (w.grownBy w3 (some B)) := Lib.hid (grown_trans (grown_set_new G2.out (Nat.le_refl _) _ _) hg)
  have C3 : Hid (Blk w3 w.heap.size #[.int .i64 0, strV ((l.drop a).take n), .string ⟨#[]⟩] 43) := Lib.hid (Blk.kept (C2.out.set 1 _) hg (by simp; omega))
  clear hr hg d0 d1 d2 f0 f1 f2
  obtain ⟨d0, d1, d2, f0, f1, f2⟩ := Blk.c3 C3.out
  go_wp2
  refine bodyPost_row2 Try.results40 w.heap.size _ _ _ _ (.bool true) ?d3 ?p3 ?s3 (Blk.set3 (C3.out.set 0 (.int .i64 (3))) _ _ _) Try.underlying43 rfl term_size ?_
  case d3 => rfl
  case p3 => rfl
  case s3 => rfl
  exact ⟨rfl, Blk.oth3 (Blk.oth R3.out (by omega) _ _) (by omega) _ _ _, grown_set3 (grown_set_new G3.out (Nat.le_refl _) _ _) (Nat.le_refl _) _ _ _⟩

set_option maxHeartbeats 1000000 in
theorem term_bad (B : Nat) (l : List UInt8) (a n b : Nat) (k : Int) (w : World) (h : RdAt w B l a) (hl : l.length ≤ 140737488355328) (ha : a ≤ l.length) (hs : signL l a 33 = false) (hn : wordL okName l a = n) (h0 : 0 < n)
    (hr : relF l (a + n) = (k, false, b)) :
    Calls Try.prog 40 #[.pointer (some ⟨B, 0, none⟩)] w (ReadsT w B l ((k, (l.drop a).take n, []), false, b)) := by
  have hlt := h.lt
  have R0 : Hid (RdAt (w.alloc (.cells zt 43)) B l a) := Lib.hid (Blk.alloc h _)
  have Hs := Lib.hid hs
  have Hn := Lib.hid hn
  have Hr := Lib.hid hr
  have hle := word_le okName l a ha
  rw [hn] at hle
  have hz : decide (0 < n) = true := by simp; omega
  clear h hs hn hr
  go_enter Try.func40, Try.ntmps40
  go_wp2_with fail
  refine (sign_no B l a 33 _ R0.out hl ha Hs.out).mono ?_
  rintro e w1 ⟨rfl, hr, hg⟩
  have R1 := Lib.hid hr
  have G1 : Hid (w.grownBy w1 (some B)) := Lib.hid (grown_trans (World.grownBy_alloc _ _ _) hg)
  have C1 : Hid (Blk w1 w.heap.size zt 43) := Lib.hid (Blk.kept (Blk.new w _ _) hg (by simp; omega))
  clear hr hg
  go_wp2_with fail
  refine (name_any B l a n _ R1.out hl ha Hn.out).mono ?_
  rintro e w2 ⟨rfl, hr, hg⟩
  have R2 := Lib.hid hr
  have G2 : Hid (w.grownBy w2 (some B)) := Lib.hid (grown_trans G1.out hg)
  have C2 : Hid (Blk w2 w.heap.size zt 43) := Lib.hid (Blk.kept C1.out hg (by simp; omega))
  clear hr hg
  obtain ⟨d0, d1, d2, f0, f1, f2⟩ := Blk.c3 C2.out
  go_wp2_with fail
  refine (relation_any B l (a + n) _ _ b _ (Blk.oth R2.out (by omega) _ _) hl hle Hr.out).mono ?_
  rintro e w3 ⟨rfl, hr, hg⟩
  have R3 := Lib.hid hr
  have G3 : Hid (w.grownBy w3 (some B)) := Lib.hid (grown_trans (grown_set_new G2.out (Nat.le_refl _) _ _) hg)
  have C3 : Hid (Blk w3 w.heap.size #[.int .i64 0, strV ((l.drop a).take n), .string ⟨#[]⟩] 43) := Lib.hid (Blk.kept (C2.out.set 1 _) hg (by simp; omega))
  clear hr hg d0 d1 d2 f0 f1 f2
  obtain ⟨d0, d1, d2, f0, f1, f2⟩ := Blk.c3 C3.out
  go_wp2
  refine bodyPost_row2 Try.results40 w.heap.size _ _ _ _ (.bool false) ?d3 ?p3 ?s3 (Blk.set3 (C3.out.set 0 (.int .i64 (k))) _ _ _) Try.underlying43 rfl term_size ?_
  case d3 => rfl
  case p3 => rfl
  case s3 => rfl
  exact ⟨rfl, Blk.oth3 (Blk.oth R3.out (by omega) _ _) (by omega) _ _ _, grown_set3 (grown_set_new G3.out (Nat.le_refl _) _ _) (Nat.le_refl _) _ _ _⟩

set_option maxHeartbeats 1000000 in
theorem term_both (B : Nat) (l : List UInt8) (a n b z : Nat) (k : Int) (is : Bool) (v : List UInt8) (w : World) (h : RdAt w B l a) (hl : l.length ≤ 140737488355328) (ha : a ≤ l.length) (hs : signL l a 33 = false) (hn : wordL okName l a = n) (h0 : 0 < n)
    (hr : relF l (a + n) = (k, true, b)) (hk : k = 1 ∨ k = 2) (hb : b ≤ l.length) (hv : valF l b = (v, is, z)) :
    Calls Try.prog 40 #[.pointer (some ⟨B, 0, none⟩)] w (ReadsT w B l ((k, (l.drop a).take n, v), is, z)) := by
  have hlt := h.lt
  have R0 : Hid (RdAt (w.alloc (.cells zt 43)) B l a) := Lib.hid (Blk.alloc h _)
  have Hs := Lib.hid hs
  have Hn := Lib.hid hn
  have Hr := Lib.hid hr
  have Hv := Lib.hid hv
  have hle := word_le okName l a ha
  rw [hn] at hle
  have hz : decide (0 < n) = true := by simp; omega
  have hkb : (k != 3) = true := by simp; omega
  clear h hs hn hr hv hk
  go_enter Try.func40, Try.ntmps40
  go_wp2_with fail
  refine (sign_no B l a 33 _ R0.out hl ha Hs.out).mono ?_
  rintro e w1 ⟨rfl, hr, hg⟩
  have R1 := Lib.hid hr
  have G1 : Hid (w.grownBy w1 (some B)) := Lib.hid (grown_trans (World.grownBy_alloc _ _ _) hg)
  have C1 : Hid (Blk w1 w.heap.size zt 43) := Lib.hid (Blk.kept (Blk.new w _ _) hg (by simp; omega))
  clear hr hg
  go_wp2_with fail
  refine (name_any B l a n _ R1.out hl ha Hn.out).mono ?_
  rintro e w2 ⟨rfl, hr, hg⟩
  have R2 := Lib.hid hr
  have G2 : Hid (w.grownBy w2 (some B)) := Lib.hid (grown_trans G1.out hg)
  have C2 : Hid (Blk w2 w.heap.size zt 43) := Lib.hid (Blk.kept C1.out hg (by simp; omega))
  clear hr hg
  obtain ⟨d0, d1, d2, f0, f1, f2⟩ := Blk.c3 C2.out
  go_wp2_with fail
  refine (relation_any B l (a + n) _ _ b _ (Blk.oth R2.out (by omega) _ _) hl hle Hr.out).mono ?_
  rintro e w3 ⟨rfl, hr, hg⟩
  have R3 := Lib.hid hr
  have G3 : Hid (w.grownBy w3 (some B)) := Lib.hid (grown_trans (grown_set_new G2.out (Nat.le_refl _) _ _) hg)
  have C3 : Hid (Blk w3 w.heap.size #[.int .i64 0, strV ((l.drop a).take n), .string ⟨#[]⟩] 43) := Lib.hid (Blk.kept (C2.out.set 1 _) hg (by simp; omega))
  clear hr hg d0 d1 d2 f0 f1 f2
  obtain ⟨d0, d1, d2, f0, f1, f2⟩ := Blk.c3 C3.out
  go_wp2_with fail
  refine (value_any B l b _ (Blk.oth R3.out (by omega) _ _) hl hb).mono ?_
  rw [Hv.out]
  rintro e w4 ⟨rfl, hr, hg⟩
  have R4 := Lib.hid hr
  have G4 : Hid (w.grownBy w4 (some B)) := Lib.hid (grown_trans (grown_set_new G3.out (Nat.le_refl _) _ _) hg)
  have C4 : Hid (Blk w4 w.heap.size #[.int .i64 k, strV ((l.drop a).take n), .string ⟨#[]⟩] 43) := Lib.hid (Blk.kept (C3.out.set 0 _) hg (by simp; omega))
  clear hr hg d0 d1 d2 f0 f1 f2
  obtain ⟨d0, d1, d2, f0, f1, f2⟩ := Blk.c3 C4.out
  go_wp2
  refine bodyPost_row2 Try.results40 w.heap.size _ _ _ _ (.bool is) ?d3 ?p3 ?s3 (Blk.set3 (C4.out.set 2 (strV v)) _ _ _) Try.underlying43 rfl term_size ?_
  case d3 => rfl
  case p3 => rfl
  case s3 => rfl
  exact ⟨rfl, Blk.oth3 (Blk.oth R4.out (by omega) _ _) (by omega) _ _ _, grown_set3 (grown_set_new G4.out (Nat.le_refl _) _ _) (Nat.le_refl _) _ _ _⟩

theorem term_any (B : Nat) (l : List UInt8) (a : Nat) (w : World) (h : RdAt w B l a) (hl : l.length ≤ 140737488355328) (ha : a ≤ l.length) :
    Calls Try.prog 40 #[.pointer (some ⟨B, 0, none⟩)] w (ReadsT w B l (terF l a)) := by
  unfold terF
  cases hs : signL l a 33
  · rw [if_neg (by simp)]
    simp only
    by_cases h0 : wordL okName l a = 0
    · rw [if_pos h0]
      exact term_none B l a w h hl ha hs h0
    · rw [if_neg h0]
      have hle := word_le okName l a ha
      rcases relF_cases l (a + wordL okName l a) hle with e | ⟨b, e, hb⟩ | ⟨k, b, e, hk, hb⟩
      · rw [e]
        simp only
        rw [if_neg (by simp)]
        exact term_has B l a _ _ w h hl ha hs rfl (by omega) e
      · rw [e]
        simp only
        rw [if_neg (by simp)]
        exact term_bad B l a _ _ 2 w h hl ha hs rfl (by omega) e
      · rw [e]
        simp only
        rw [if_pos ⟨trivial, by omega⟩]
        exact term_both B l a _ b _ k _ _ w h hl ha hs rfl (by omega) e hk hb rfl
  · rw [if_pos rfl]
    exact term_lacks B l a _ w h hl ha hs rfl

/-- A function that reads a part by what it leaves: what the closure of Labels, of Borne and of Terms is. -/
theorem fLabels (B : Nat) (l : List UInt8) (a : Nat) (w : World) (h : RdAt w B l a) (hl : l.length ≤ 140737488355328) (ha : a ≤ l.length) :
    Calls Try.prog 30 #[.pointer (some ⟨B, 0, none⟩)] w (ReadsL w B l (labF valF l a)) := by
  have hlt := h.lt
  have R0 : Hid (RdAt (w.alloc (.cells #[.string ⟨#[]⟩, .string ⟨#[]⟩] 41)) B l a) := Lib.hid (Blk.alloc h _)
  have K := Lib.hid (label_any valF 32 B l a _ R0.out hl ha (fun _ _ => by kernel_rfl) (fun a w h ha => value_any B l a w h hl ha))
  rcases he : labF valF l a with ⟨⟨x, y⟩, is, z⟩
  rw [he] at K
  clear h he
  go_enter Try.func30, Try.ntmps30
  go_wp2_with fail
  refine K.out.mono ?_
  rintro e w1 ⟨rfl, hr, hg⟩
  have R1 := Lib.hid hr
  have G1 : Hid (w.grownBy w1 (some B)) := Lib.hid (grown_trans (World.grownBy_alloc _ _ _) hg)
  have C1 : Hid (Blk w1 w.heap.size #[.string ⟨#[]⟩, .string ⟨#[]⟩] 41) := Lib.hid (Blk.kept (Blk.new w _ _) hg (by simp; omega))
  clear hr hg
  obtain ⟨d0, d1, f0, f1⟩ := Blk.c2 C1.out
  go_wp2
  refine bodyPost_row2 Try.results30 w.heap.size _ _ _ _ (.bool is) ?d3 ?p3 ?s3 (Blk.set2 C1.out (strV x) (strV y)) Try.underlying41 rfl label_size ?_
  case d3 => rfl
  case p3 => rfl
  case s3 => rfl
  exact ⟨rfl, Blk.oth (Blk.oth R1.out (by omega) _ _) (by omega) _ _, grown_set_new (grown_set_new G1.out (Nat.le_refl _) _ _) (Nat.le_refl _) _ _⟩

theorem fBorne (B : Nat) (l : List UInt8) (a : Nat) (w : World) (h : RdAt w B l a) (hl : l.length ≤ 140737488355328) (ha : a ≤ l.length) :
    Calls Try.prog 35 #[.pointer (some ⟨B, 0, none⟩)] w (ReadsL w B l (labF anyF l a)) := by
  have hlt := h.lt
  have R0 : Hid (RdAt (w.alloc (.cells #[.string ⟨#[]⟩, .string ⟨#[]⟩] 41)) B l a) := Lib.hid (Blk.alloc h _)
  have K := Lib.hid (label_any anyF 36 B l a _ R0.out hl ha (fun _ _ => by kernel_rfl) (fun a w h ha => valueOrAny_any B l a w h hl ha))
  rcases he : labF anyF l a with ⟨⟨x, y⟩, is, z⟩
  rw [he] at K
  clear h he
  go_enter Try.func35, Try.ntmps35
  go_wp2_with fail
  refine K.out.mono ?_
  rintro e w1 ⟨rfl, hr, hg⟩
  have R1 := Lib.hid hr
  have G1 : Hid (w.grownBy w1 (some B)) := Lib.hid (grown_trans (World.grownBy_alloc _ _ _) hg)
  have C1 : Hid (Blk w1 w.heap.size #[.string ⟨#[]⟩, .string ⟨#[]⟩] 41) := Lib.hid (Blk.kept (Blk.new w _ _) hg (by simp; omega))
  clear hr hg
  obtain ⟨d0, d1, f0, f1⟩ := Blk.c2 C1.out
  go_wp2
  refine bodyPost_row2 Try.results35 w.heap.size _ _ _ _ (.bool is) ?d3 ?p3 ?s3 (Blk.set2 C1.out (strV x) (strV y)) Try.underlying41 rfl label_size ?_
  case d3 => rfl
  case p3 => rfl
  case s3 => rfl
  exact ⟨rfl, Blk.oth (Blk.oth R1.out (by omega) _ _) (by omega) _ _, grown_set_new (grown_set_new G1.out (Nat.le_refl _) _ _) (Nat.le_refl _) _ _⟩

theorem fTerms (B : Nat) (l : List UInt8) (a : Nat) (w : World) (h : RdAt w B l a) (hl : l.length ≤ 140737488355328) (ha : a ≤ l.length) :
    Calls Try.prog 39 #[.pointer (some ⟨B, 0, none⟩)] w (ReadsT w B l (terF l a)) := by
  have hlt := h.lt
  have R0 : Hid (RdAt (w.alloc (.cells zt 43)) B l a) := Lib.hid (Blk.alloc h _)
  have K := Lib.hid (term_any B l a _ R0.out hl ha)
  rcases he : terF l a with ⟨⟨k, x, y⟩, is, z⟩
  rw [he] at K
  clear h he
  go_enter Try.func39, Try.ntmps39
  go_wp2_with fail
  refine K.out.mono ?_
  rintro e w1 ⟨rfl, hr, hg⟩
  have R1 := Lib.hid hr
  have G1 : Hid (w.grownBy w1 (some B)) := Lib.hid (grown_trans (World.grownBy_alloc _ _ _) hg)
  have C1 : Hid (Blk w1 w.heap.size zt 43) := Lib.hid (Blk.kept (Blk.new w _ _) hg (by simp; omega))
  clear hr hg
  obtain ⟨d0, d1, d2, f0, f1, f2⟩ := Blk.c3 C1.out
  go_wp2
  refine bodyPost_row2 Try.results39 w.heap.size _ _ _ _ (.bool is) ?d3 ?p3 ?s3 (Blk.set3 C1.out (.int .i64 k) (strV x) (strV y)) Try.underlying43 rfl term_size ?_
  case d3 => rfl
  case p3 => rfl
  case s3 => rfl
  exact ⟨rfl, Blk.oth3 R1.out (by omega) _ _ _, grown_set3 G1.out (Nat.le_refl _) _ _ _⟩

end Go.Proofs.Yteclbkjonaildaa
