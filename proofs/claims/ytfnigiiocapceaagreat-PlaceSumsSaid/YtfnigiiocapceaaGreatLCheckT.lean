/- What check answers of a list, whatever each of it, and each two, are asked. Conditions: what it is handed answers so, and leaves what was there as it was. -/
import Derived.Test.YtfnigiiocapceaaGreatLCheck
import Derived.Deep.RegionHeld3
import Derived.Deep.RegionWith
import Derived.Deep.DeepCutAuto
namespace Go.Proofs.YtfnigiiocapceaaGreat.La
open Go.RowKit

set_option maxRecDepth 100000 in
set_option maxHeartbeats 4000000 in
theorem checkT_any (mb : Int × List UInt8 × List UInt8 → Bool) (ri : Int × List UInt8 × List UInt8 → Int × List UInt8 × List UInt8 → Bool) (g r : FuncId) (A : Option Addr) (c : Nat) (l : List (Int × List UInt8 × List UInt8)) (w : World) (hn : l.length ≤ 1000) (hc : l.length ≤ c) (hcm : c ≤ 9223372036854775807) (hs : SlAt w A (cellsT l)) (hbig : ∀ x ∈ l, x.2.1.length ≤ 9223372036854775807 ∧ x.2.2.length ≤ 9223372036854775807)
    (hg1 : ∀ (args : Array Value) (w : World), (callFunc g args).run Tryz.prog w = .ok (.enter g args) w) (hr1 : ∀ (args : Array Value) (w : World), (callFunc r args).run Tryz.prog w = .ok (.enter r args) w)
    (hcl : ∀ (x : Int × List UInt8 × List UInt8) (w : World), x.2.1.length ≤ 9223372036854775807 ∧ x.2.2.length ≤ 9223372036854775807 → Calls Tryz.prog g #[terV x] w fun e w' => e = .returned (.bool (mb x)) ∧ Below w.heap.size w w')
    (hri : ∀ (a b : Int × List UInt8 × List UInt8) (w : World), Calls Tryz.prog r #[terV a, terV b] w fun e w' => e = .returned (.bool (ri a b)) ∧ Below w.heap.size w w') :
    Calls Tryz.prog 137 #[.slice A l.length c, .func (Fn.func g) #[] #[], .func (Fn.func r) #[] #[]] w fun e w' => e = .returned (.int .i64 (chkA mb ri l)) ∧ Below w.heap.size w w' := by
  have HS := Lib.hid hs
  have Hcl := Lib.hid hcl
  have Hri := Lib.hid hri
  have Hbig := Lib.hid hbig
  clear hs hcl hri hbig
  by_cases h6 : 6 < l.length
  · have E : Hid (chkA mb ri l = 2) := by show chkA _ _ _ = _; unfold chkA; rw [if_pos (.inl h6)]
    have h6b : decide (6 < l.length) = true := by simpa using h6
    have h6i : (6 : Int) < (l.length : Int) := by omega
    go_enter Tryz.func137, Tryz.ntmps137
    go_wp2
    go_ret
    exact ⟨retI (by rw [E.out]), Below.refl _ _⟩
  · have h6b : decide (6 < l.length) = false := by simpa using h6
    have h6i : (l.length : Int) ≤ 6 := by omega
    have E : Hid (chkA mb ri l = if chkK mb ri l l.length = false then 2 else 0) := by show chkA _ _ _ = _; unfold chkA; by_cases hq : chkK mb ri l l.length = false; rw [if_pos (.inr hq), if_pos hq]; rw [if_neg (fun h => h.elim h6 hq), if_neg hq]
    have H6 := Lib.hid h6
    clear h6
    go_enter Tryz.func137, Tryz.ntmps137
    go_wp2
    go_loopw [14] (fun i wr => ∃ k : Nat, k ≤ l.length ∧ i = .int .i64 k ∧ chkK mb ri l k = true ∧ Below w.heap.size w wr) (fun i _ => l.length - (intOf i).toNat)
    case atStart => exact ⟨0, by omega, rfl, rfl, Below.refl _ _⟩
    case round =>
      obtain ⟨k, hk, rfl, hp, hbw⟩ := hrel
      have Hp := Lib.hid hp
      have Hbw := Lib.hid hbw
      clear hp hbw
      by_cases hlt : k < l.length
      · obtain ⟨x, hxk⟩ : ∃ x, l[k]? = some x := ⟨l[k], List.getElem?_eq_getElem hlt⟩
        obtain ⟨b0, o0, hA, hb0, hx⟩ := SlAt.ter (HS.out.below Hbw.out) hxk
        have Hbx := Lib.hid (Hbig.out x (List.mem_of_getElem? hxk))
        have hstep : chkK mb ri l (k + 1) = okAt mb ri l k x := by rw [chkK, Hp.out, hxk]; rfl
        have Hstep := Lib.hid hstep
        have hA' := hA
        subst hA
        have hx0 : wr.cell? ⟨b0, o0 + k * 3, none⟩ = some (.int .i64 x.1) := hx.1
        have hx1 : wr.cell? ⟨b0, o0 + k * 3 + 1, none⟩ = some (strV x.2.1) := hx.2.1
        have hx2 : wr.cell? ⟨b0, o0 + k * 3 + 2, none⟩ = some (strV x.2.2) := hx.2.2
        have px0 : (wr.alloc (.cells #[.int .i64 x.1, strV x.2.1, strV x.2.2] 158)).cell? ⟨wr.heap.size, 0, none⟩ = some (.int .i64 x.1) := Blk.cell (Blk.new wr #[.int .i64 x.1, strV x.2.1, strV x.2.2] 158) 0
        have px1 : (wr.alloc (.cells #[.int .i64 x.1, strV x.2.1, strV x.2.2] 158)).cell? ⟨wr.heap.size, 1, none⟩ = some (strV x.2.1) := Blk.cell (Blk.new wr #[.int .i64 x.1, strV x.2.1, strV x.2.2] 158) 1
        have px2 : (wr.alloc (.cells #[.int .i64 x.1, strV x.2.1, strV x.2.2] 158)).cell? ⟨wr.heap.size, 2, none⟩ = some (strV x.2.2) := Blk.cell (Blk.new wr #[.int .i64 x.1, strV x.2.1, strV x.2.2] 158) 2
        have Hxl : Hid (wr.heap.size < (wr.alloc (.cells #[.int .i64 x.1, strV x.2.1, strV x.2.2] 158)).heap.size) := Lib.hid (Blk.lt (Blk.new wr _ _))
        have Hbw1 := Lib.hid (Hbw.out.alloc Hbw.out.size (.cells #[.int .i64 x.1, strV x.2.1, strV x.2.2] 158))
        have Hxk := Lib.hid hxk
        clear hx hxk hstep hA'
        cases hm : mb x
        · have E2 : Hid (chkA mb ri l = 2) := by
            show chkA _ _ _ = _
            rw [E.out, if_pos]
            refine chkK_false (k := k + 1) ?_ hlt
            rw [Hstep.out, okAt_no hm]
          have KC := Lib.hid (fun w => Hcl.out x w Hbx.out)
          rw [hm] at KC
          clear hm
          go_upto_region 6 with fail
          refine wp_region_held_drew (S := fun w' => w'.cell? ⟨wr.heap.size, 0, none⟩ = some (.int .i64 x.1) ∧ w'.cell? ⟨wr.heap.size, 1, none⟩ = some (strV x.2.1) ∧ w'.cell? ⟨wr.heap.size, 2, none⟩ = some (strV x.2.2)) (by kernel_rfl) ⟨px0, px1, px2⟩ (fun hHeld => ?_)
          refine wpAnyH_take (i := 0) (oi := ⟨some 19, _, _, _, _, _⟩) (v := .func (Fn.func g) #[] #[]) rfl (by kernel_rfl) (by kernel_rfl) (by kernel_rfl) (fun _ _ _ h => h) (Or.inl ⟨by rfl, (fun w' hS => by clear hS; go_simp)⟩) (by assumption) ?_
          try simp only [Act.put, List.setIfInBounds_toArray, List.set_cons_zero, List.set_cons_succ]
          refine wpAnyH_take (i := 1) (oi := ⟨some 20, _, _, _, _, _⟩) (v := .agg #[.int .i64 x.1, strV x.2.1, strV x.2.2]) rfl (by kernel_rfl) (by kernel_rfl) (by kernel_rfl) (fun _ _ _ h => h) (Or.inl ⟨by rfl, (fun w' hS => by obtain ⟨s0, s1, s2⟩ := hS; go_simp)⟩) (by assumption) ?_
          try simp only [Act.put, List.setIfInBounds_toArray, List.set_cons_zero, List.set_cons_succ]
          refine wpAnyH_ready (rs := [2]) (by kernel_rfl) (by simp) ?_
          refine AllReadyH.cons (o := { dst := some 21, op := Op.call { callee := Callee.value (Operand.tmp 19), args := #[Operand.tmp 20], argTypes := #[158] }, type := 4, pos := "label.go:46", after := #[{ on := 0, ground := Ground.data }, { on := 1, ground := Ground.data }], guard := none }) rfl (fun K2 hK => ?_) AllReadyH.nil
          rw [if_pos (by rfl)]
          go_simp
          refine (KC.out _).mono ?_
          rintro e w3 ⟨rfl, hb3⟩
          have qx0 := (hb3.cell (p := ⟨wr.heap.size, 0, none⟩) Hxl.out).trans px0
          have qx1 := (hb3.cell (p := ⟨wr.heap.size, 1, none⟩) Hxl.out).trans px1
          have qx2 := (hb3.cell (p := ⟨wr.heap.size, 2, none⟩) Hxl.out).trans px2
          have HB3 := Lib.hid hb3
          clear hb3
          refine hK.out _ _ ⟨qx0, qx1, qx2⟩ (fun hHeld2 => ?_)
          clear hK K2 hHeld
          try simp only [Act.put, List.setIfInBounds_toArray, List.set_cons_zero, List.set_cons_succ]
          refine wpAnyH_take (i := 3) (oi := ⟨some 22, _, _, _, _, _⟩) (v := .bool true) rfl (by kernel_rfl) (by kernel_rfl) (by kernel_rfl) (fun _ _ _ h => h) (Or.inl ⟨by rfl, (fun w' hS => by clear hS; go_simp)⟩) (by assumption) ?_
          try simp only [Act.put, List.setIfInBounds_toArray, List.set_cons_zero, List.set_cons_succ]
          refine wpAnyH_take (i := 4) (oi := ⟨some 23, _, _, _, _, _⟩) (v := .bool true) rfl (by kernel_rfl) (by kernel_rfl) (by kernel_rfl) (fun _ _ _ h => h) (Or.inl ⟨by rfl, (fun w' hS => by clear hS; go_simp)⟩) (by assumption) ?_
          try simp only [Act.put, List.setIfInBounds_toArray, List.set_cons_zero, List.set_cons_succ]
          refine wpAnyH_take (i := 5) (oi := ⟨some 24, _, _, _, _, _⟩) (v := undef) rfl (by kernel_rfl) (by kernel_rfl) (by kernel_rfl) (fun _ _ _ h => h) (Or.inr ⟨by rfl, rfl⟩) (by assumption) ?_
          try simp only [Act.put, List.setIfInBounds_toArray, List.set_cons_zero, List.set_cons_succ]
          refine wpAnyH_take (i := 6) (oi := ⟨some 25, _, _, _, _, _⟩) (v := undef) rfl (by kernel_rfl) (by kernel_rfl) (by kernel_rfl) (fun _ _ _ h => h) (Or.inr ⟨by rfl, rfl⟩) (by assumption) ?_
          try simp only [Act.put, List.setIfInBounds_toArray, List.set_cons_zero, List.set_cons_succ]
          refine wpAnyH_take (i := 7) (oi := ⟨some 26, _, _, _, _, _⟩) (v := undef) rfl (by kernel_rfl) (by kernel_rfl) (by kernel_rfl) (fun _ _ _ h => h) (Or.inr ⟨by rfl, rfl⟩) (by assumption) ?_
          try simp only [Act.put, List.setIfInBounds_toArray, List.set_cons_zero, List.set_cons_succ]
          refine wpAnyH_take (i := 8) (oi := ⟨some 27, _, _, _, _, _⟩) (v := undef) rfl (by kernel_rfl) (by kernel_rfl) (by kernel_rfl) (fun _ _ _ h => h) (Or.inr ⟨by rfl, rfl⟩) (by assumption) ?_
          try simp only [Act.put, List.setIfInBounds_toArray, List.set_cons_zero, List.set_cons_succ]
          refine wpAnyH_take (i := 9) (oi := ⟨some 28, _, _, _, _, _⟩) (v := undef) rfl (by kernel_rfl) (by kernel_rfl) (by kernel_rfl) (fun _ _ _ h => h) (Or.inr ⟨by rfl, rfl⟩) (by assumption) ?_
          try simp only [Act.put, List.setIfInBounds_toArray, List.set_cons_zero, List.set_cons_succ]
          refine wpAnyH_take (i := 10) (oi := ⟨some 29, _, _, _, _, _⟩) (v := undef) rfl (by kernel_rfl) (by kernel_rfl) (by kernel_rfl) (fun _ _ _ h => h) (Or.inr ⟨by rfl, rfl⟩) (by assumption) ?_
          try simp only [Act.put, List.setIfInBounds_toArray, List.set_cons_zero, List.set_cons_succ]
          refine wpAnyH_take (i := 11) (oi := ⟨some 30, _, _, _, _, _⟩) (v := undef) rfl (by kernel_rfl) (by kernel_rfl) (by kernel_rfl) (fun _ _ _ h => h) (Or.inr ⟨by rfl, rfl⟩) (by assumption) ?_
          try simp only [Act.put, List.setIfInBounds_toArray, List.set_cons_zero, List.set_cons_succ]
          refine wpAnyH_take (i := 12) (oi := ⟨some 31, _, _, _, _, _⟩) (v := undef) rfl (by kernel_rfl) (by kernel_rfl) (by kernel_rfl) (fun _ _ _ h => h) (Or.inr ⟨by rfl, rfl⟩) (by assumption) ?_
          try simp only [Act.put, List.setIfInBounds_toArray, List.set_cons_zero, List.set_cons_succ]
          refine wpAnyH_take (i := 13) (oi := ⟨some 32, _, _, _, _, _⟩) (v := undef) rfl (by kernel_rfl) (by kernel_rfl) (by kernel_rfl) (fun _ _ _ h => h) (Or.inr ⟨by rfl, rfl⟩) (by assumption) ?_
          try simp only [Act.put, List.setIfInBounds_toArray, List.set_cons_zero, List.set_cons_succ]
          refine wpAnyH_take (i := 14) (oi := ⟨some 33, _, _, _, _, _⟩) (v := undef) rfl (by kernel_rfl) (by kernel_rfl) (by kernel_rfl) (fun _ _ _ h => h) (Or.inr ⟨by rfl, rfl⟩) (by assumption) ?_
          try simp only [Act.put, List.setIfInBounds_toArray, List.set_cons_zero, List.set_cons_succ]
          refine wpAnyH_take (i := 15) (oi := ⟨some 34, _, _, _, _, _⟩) (v := undef) rfl (by kernel_rfl) (by kernel_rfl) (by kernel_rfl) (fun _ _ _ h => h) (Or.inr ⟨by rfl, rfl⟩) (by assumption) ?_
          try simp only [Act.put, List.setIfInBounds_toArray, List.set_cons_zero, List.set_cons_succ]
          refine wpAnyH_take (i := 16) (oi := ⟨some 35, _, _, _, _, _⟩) (v := undef) rfl (by kernel_rfl) (by kernel_rfl) (by kernel_rfl) (fun _ _ _ h => h) (Or.inr ⟨by rfl, rfl⟩) (by assumption) ?_
          try simp only [Act.put, List.setIfInBounds_toArray, List.set_cons_zero, List.set_cons_succ]
          refine wpAnyH_take (i := 17) (oi := ⟨some 36, _, _, _, _, _⟩) (v := undef) rfl (by kernel_rfl) (by kernel_rfl) (by kernel_rfl) (fun _ _ _ h => h) (Or.inr ⟨by rfl, rfl⟩) (by assumption) ?_
          try simp only [Act.put, List.setIfInBounds_toArray, List.set_cons_zero, List.set_cons_succ]
          refine wpAnyH_take (i := 18) (oi := ⟨some 37, _, _, _, _, _⟩) (v := .bool true) rfl (by kernel_rfl) (by kernel_rfl) (by kernel_rfl) (fun _ _ _ h => h) (Or.inl ⟨by rfl, (fun w' hS => by clear hS; go_simp)⟩) (by assumption) ?_
          try simp only [Act.put, List.setIfInBounds_toArray, List.set_cons_zero, List.set_cons_succ]
          refine wpAnyH_done (by kernel_rfl) ?_ _
          clear hHeld2
          have Hbw3 := Lib.hid ((Hbw1.out.drew).trans (Below.mono HB3.out Hbw1.out.size))
          go_wp2
          go_ret
          exact ⟨retI (by rw [E2.out]), Hbw3.out⟩
        · have KC := Lib.hid (fun w => Hcl.out x w Hbx.out)
          rw [hm] at KC
          by_cases h0 : k = 0
          · have hnext : chkK mb ri l (k + 1) = true := by rw [Hstep.out, okAt_zero hm h0]
            have Hnext := Lib.hid hnext
            have h0i : (k : Int) ≤ 0 := by omega
            have h0b : decide (0 < k) = false := by simp [h0]
            have H0 := Lib.hid h0
            clear hm hnext h0
            go_upto_region 6 with fail
            refine wp_region_held_drew (S := fun w' => w'.cell? ⟨wr.heap.size, 0, none⟩ = some (.int .i64 x.1) ∧ w'.cell? ⟨wr.heap.size, 1, none⟩ = some (strV x.2.1) ∧ w'.cell? ⟨wr.heap.size, 2, none⟩ = some (strV x.2.2)) (by kernel_rfl) ⟨px0, px1, px2⟩ (fun hHeld => ?_)
            refine wpAnyH_take (i := 0) (oi := ⟨some 19, _, _, _, _, _⟩) (v := .func (Fn.func g) #[] #[]) rfl (by kernel_rfl) (by kernel_rfl) (by kernel_rfl) (fun _ _ _ h => h) (Or.inl ⟨by rfl, (fun w' hS => by clear hS; go_simp)⟩) (by assumption) ?_
            try simp only [Act.put, List.setIfInBounds_toArray, List.set_cons_zero, List.set_cons_succ]
            refine wpAnyH_take (i := 1) (oi := ⟨some 20, _, _, _, _, _⟩) (v := .agg #[.int .i64 x.1, strV x.2.1, strV x.2.2]) rfl (by kernel_rfl) (by kernel_rfl) (by kernel_rfl) (fun _ _ _ h => h) (Or.inl ⟨by rfl, (fun w' hS => by obtain ⟨s0, s1, s2⟩ := hS; go_simp)⟩) (by assumption) ?_
            try simp only [Act.put, List.setIfInBounds_toArray, List.set_cons_zero, List.set_cons_succ]
            refine wpAnyH_ready (rs := [2]) (by kernel_rfl) (by simp) ?_
            refine AllReadyH.cons (o := { dst := some 21, op := Op.call { callee := Callee.value (Operand.tmp 19), args := #[Operand.tmp 20], argTypes := #[158] }, type := 4, pos := "label.go:46", after := #[{ on := 0, ground := Ground.data }, { on := 1, ground := Ground.data }], guard := none }) rfl (fun K2 hK => ?_) AllReadyH.nil
            rw [if_pos (by rfl)]
            go_simp
            refine (KC.out _).mono ?_
            rintro e w3 ⟨rfl, hb3⟩
            have qx0 := (hb3.cell (p := ⟨wr.heap.size, 0, none⟩) Hxl.out).trans px0
            have qx1 := (hb3.cell (p := ⟨wr.heap.size, 1, none⟩) Hxl.out).trans px1
            have qx2 := (hb3.cell (p := ⟨wr.heap.size, 2, none⟩) Hxl.out).trans px2
            have HB3 := Lib.hid hb3
            clear hb3
            refine hK.out _ _ ⟨qx0, qx1, qx2⟩ (fun hHeld2 => ?_)
            clear hK K2 hHeld
            try simp only [Act.put, List.setIfInBounds_toArray, List.set_cons_zero, List.set_cons_succ]
            refine wpAnyH_take (i := 3) (oi := ⟨some 22, _, _, _, _, _⟩) (v := .bool false) rfl (by kernel_rfl) (by kernel_rfl) (by kernel_rfl) (fun _ _ _ h => h) (Or.inl ⟨by rfl, (fun w' hS => by clear hS; go_simp)⟩) (by assumption) ?_
            try simp only [Act.put, List.setIfInBounds_toArray, List.set_cons_zero, List.set_cons_succ]
            refine wpAnyH_take (i := 4) (oi := ⟨some 23, _, _, _, _, _⟩) (v := .bool false) rfl (by kernel_rfl) (by kernel_rfl) (by kernel_rfl) (fun _ _ _ h => h) (Or.inl ⟨by rfl, (fun w' hS => by clear hS; go_simp)⟩) (by assumption) ?_
            try simp only [Act.put, List.setIfInBounds_toArray, List.set_cons_zero, List.set_cons_succ]
            refine wpAnyH_take (i := 5) (oi := ⟨some 24, _, _, _, _, _⟩) (v := .int .i64 (k : Int)) rfl (by kernel_rfl) (by kernel_rfl) (by kernel_rfl) (fun _ _ _ h => h) (Or.inl ⟨by rfl, (fun w' hS => by clear hS; go_simp)⟩) (by assumption) ?_
            try simp only [Act.put, List.setIfInBounds_toArray, List.set_cons_zero, List.set_cons_succ]
            refine wpAnyH_take (i := 6) (oi := ⟨some 25, _, _, _, _, _⟩) (v := .bool false) rfl (by kernel_rfl) (by kernel_rfl) (by kernel_rfl) (fun _ _ _ h => h) (Or.inl ⟨by rfl, (fun w' hS => by clear hS; go_simp)⟩) (by assumption) ?_
            try simp only [Act.put, List.setIfInBounds_toArray, List.set_cons_zero, List.set_cons_succ]
            refine wpAnyH_take (i := 7) (oi := ⟨some 26, _, _, _, _, _⟩) (v := .bool false) rfl (by kernel_rfl) (by kernel_rfl) (by kernel_rfl) (fun _ _ _ h => h) (Or.inl ⟨by rfl, (fun w' hS => by clear hS; go_simp)⟩) (by assumption) ?_
            try simp only [Act.put, List.setIfInBounds_toArray, List.set_cons_zero, List.set_cons_succ]
            refine wpAnyH_take (i := 8) (oi := ⟨some 27, _, _, _, _, _⟩) (v := undef) rfl (by kernel_rfl) (by kernel_rfl) (by kernel_rfl) (fun _ _ _ h => h) (Or.inr ⟨by rfl, rfl⟩) (by assumption) ?_
            try simp only [Act.put, List.setIfInBounds_toArray, List.set_cons_zero, List.set_cons_succ]
            refine wpAnyH_take (i := 9) (oi := ⟨some 28, _, _, _, _, _⟩) (v := undef) rfl (by kernel_rfl) (by kernel_rfl) (by kernel_rfl) (fun _ _ _ h => h) (Or.inr ⟨by rfl, rfl⟩) (by assumption) ?_
            try simp only [Act.put, List.setIfInBounds_toArray, List.set_cons_zero, List.set_cons_succ]
            refine wpAnyH_take (i := 10) (oi := ⟨some 29, _, _, _, _, _⟩) (v := undef) rfl (by kernel_rfl) (by kernel_rfl) (by kernel_rfl) (fun _ _ _ h => h) (Or.inr ⟨by rfl, rfl⟩) (by assumption) ?_
            try simp only [Act.put, List.setIfInBounds_toArray, List.set_cons_zero, List.set_cons_succ]
            refine wpAnyH_take (i := 11) (oi := ⟨some 30, _, _, _, _, _⟩) (v := undef) rfl (by kernel_rfl) (by kernel_rfl) (by kernel_rfl) (fun _ _ _ h => h) (Or.inr ⟨by rfl, rfl⟩) (by assumption) ?_
            try simp only [Act.put, List.setIfInBounds_toArray, List.set_cons_zero, List.set_cons_succ]
            refine wpAnyH_take (i := 12) (oi := ⟨some 31, _, _, _, _, _⟩) (v := undef) rfl (by kernel_rfl) (by kernel_rfl) (by kernel_rfl) (fun _ _ _ h => h) (Or.inr ⟨by rfl, rfl⟩) (by assumption) ?_
            try simp only [Act.put, List.setIfInBounds_toArray, List.set_cons_zero, List.set_cons_succ]
            refine wpAnyH_take (i := 13) (oi := ⟨some 32, _, _, _, _, _⟩) (v := undef) rfl (by kernel_rfl) (by kernel_rfl) (by kernel_rfl) (fun _ _ _ h => h) (Or.inr ⟨by rfl, rfl⟩) (by assumption) ?_
            try simp only [Act.put, List.setIfInBounds_toArray, List.set_cons_zero, List.set_cons_succ]
            refine wpAnyH_take (i := 14) (oi := ⟨some 33, _, _, _, _, _⟩) (v := undef) rfl (by kernel_rfl) (by kernel_rfl) (by kernel_rfl) (fun _ _ _ h => h) (Or.inr ⟨by rfl, rfl⟩) (by assumption) ?_
            try simp only [Act.put, List.setIfInBounds_toArray, List.set_cons_zero, List.set_cons_succ]
            refine wpAnyH_take (i := 15) (oi := ⟨some 34, _, _, _, _, _⟩) (v := undef) rfl (by kernel_rfl) (by kernel_rfl) (by kernel_rfl) (fun _ _ _ h => h) (Or.inr ⟨by rfl, rfl⟩) (by assumption) ?_
            try simp only [Act.put, List.setIfInBounds_toArray, List.set_cons_zero, List.set_cons_succ]
            refine wpAnyH_take (i := 16) (oi := ⟨some 35, _, _, _, _, _⟩) (v := undef) rfl (by kernel_rfl) (by kernel_rfl) (by kernel_rfl) (fun _ _ _ h => h) (Or.inr ⟨by rfl, rfl⟩) (by assumption) ?_
            try simp only [Act.put, List.setIfInBounds_toArray, List.set_cons_zero, List.set_cons_succ]
            refine wpAnyH_take (i := 17) (oi := ⟨some 36, _, _, _, _, _⟩) (v := .bool false) rfl (by kernel_rfl) (by kernel_rfl) (by kernel_rfl) (fun _ _ _ h => h) (Or.inl ⟨by rfl, (fun w' hS => by clear hS; go_simp)⟩) (by assumption) ?_
            try simp only [Act.put, List.setIfInBounds_toArray, List.set_cons_zero, List.set_cons_succ]
            refine wpAnyH_take (i := 18) (oi := ⟨some 37, _, _, _, _, _⟩) (v := .bool false) rfl (by kernel_rfl) (by kernel_rfl) (by kernel_rfl) (fun _ _ _ h => h) (Or.inl ⟨by rfl, (fun w' hS => by clear hS; go_simp)⟩) (by assumption) ?_
            try simp only [Act.put, List.setIfInBounds_toArray, List.set_cons_zero, List.set_cons_succ]
            refine wpAnyH_done (by kernel_rfl) ?_ _
            clear hHeld2
            have Hbw3 := Lib.hid ((Hbw1.out.drew).trans (Below.mono HB3.out Hbw1.out.size))
            go_wp2
            go_roundw
            case rel => exact ⟨k + 1, by omega, by go_num, Hnext.out, Hbw3.out⟩
            case measure => simp [intOf]; omega
          · obtain ⟨y, hyk⟩ : ∃ y, l[k - 1]? = some y := ⟨l[k - 1]'(by omega), List.getElem?_eq_getElem (by omega)⟩
            have hnx : chkK mb ri l (k + 1) = ri y x := by rw [Hstep.out, okAt_pos hm h0 hyk]
            obtain ⟨b9, o9, hA9, hb9, hy⟩ := SlAt.ter (HS.out.below Hbw.out) hyk
            simp only [Option.some.injEq, Addr.mk.injEq] at hA9
            obtain ⟨rfl, rfl, _⟩ := hA9
            have Hb0 : Hid (b0 < (wr.alloc (.cells #[.int .i64 x.1, strV x.2.1, strV x.2.2] 158)).heap.size) := Lib.hid (Nat.lt_of_lt_of_le hb9 (below1 wr _).size)
            have py0 : (wr.alloc (.cells #[.int .i64 x.1, strV x.2.1, strV x.2.2] 158)).cell? ⟨b0, o0 + (k - 1) * 3, none⟩ = some (.int .i64 y.1) := (Below.cell (below1 wr _) (p := ⟨b0, o0 + (k - 1) * 3, none⟩) hb9).trans hy.1
            have py1 : (wr.alloc (.cells #[.int .i64 x.1, strV x.2.1, strV x.2.2] 158)).cell? ⟨b0, o0 + (k - 1) * 3 + 1, none⟩ = some (strV y.2.1) := (Below.cell (below1 wr _) (p := ⟨b0, o0 + (k - 1) * 3 + 1, none⟩) hb9).trans hy.2.1
            have py2 : (wr.alloc (.cells #[.int .i64 x.1, strV x.2.1, strV x.2.2] 158)).cell? ⟨b0, o0 + (k - 1) * 3 + 2, none⟩ = some (strV y.2.2) := (Below.cell (below1 wr _) (p := ⟨b0, o0 + (k - 1) * 3 + 2, none⟩) hb9).trans hy.2.2
            have Hnx := Lib.hid hnx
            have h0b : decide (0 < k) = true := by simp; omega
            have n1 : (1 : Int) ≤ (k : Int) := by omega
            have n2 : (k : Int) ≤ 6 := by omega
            have n3 : ((k : Int) - 1).toNat = k - 1 := by omega
            have n5 : (0 : Int) ≤ (k : Int) - 1 := by omega
            have n6 : (k : Int) - 1 < (l.length : Int) := by omega
            have n7 : ((k : Int) - 1 < 0) = False := by simp; omega
            have n8 : decide ((k : Int) - 1 < (l.length : Int)) = true := by simp; omega
            have n4 : IntKind.i64.wrap ((k : Int) - 1) = (k : Int) - 1 := IntWalk.i64_in _ (by omega)
            have KR := Lib.hid (fun w => Hri.out y x w)
            have Hyk := Lib.hid hyk
            have H0 := Lib.hid h0
            clear hm hnx hy hyk h0
            cases hr : ri y x
            · rw [hr] at KR
              have E2 : Hid (chkA mb ri l = 2) := by
                show chkA _ _ _ = _
                rw [E.out, if_pos]
                refine chkK_false (k := k + 1) ?_ hlt
                rw [Hnx.out, hr]
              clear hr
              go_upto_region 6 with fail
              go_region_held3 (fun w' => w'.cell? ⟨b0, o0 + (k - 1) * 3, none⟩ = some (.int .i64 y.1) ∧ w'.cell? ⟨b0, o0 + (k - 1) * 3 + 1, none⟩ = some (strV y.2.1) ∧ w'.cell? ⟨b0, o0 + (k - 1) * 3 + 2, none⟩ = some (strV y.2.2) ∧ w'.cell? ⟨wr.heap.size, 0, none⟩ = some (.int .i64 x.1) ∧ w'.cell? ⟨wr.heap.size, 1, none⟩ = some (strV x.2.1) ∧ w'.cell? ⟨wr.heap.size, 2, none⟩ = some (strV x.2.2)) (first | exact ⟨py0, py1, py2, px0, px1, px2⟩ | exact ⟨qy0, qy1, qy2, qx0, qx1, qx2⟩ | exact ⟨ry0, ry1, ry2, rx0, rx1, rx2⟩)
                (first | ((with_reducible refine (KC.out _).mono ?_); rintro e w3 ⟨rfl, hb3⟩; have qx0 := (hb3.cell (p := ⟨wr.heap.size, 0, none⟩) Hxl.out).trans px0; have qx1 := (hb3.cell (p := ⟨wr.heap.size, 1, none⟩) Hxl.out).trans px1; have qx2 := (hb3.cell (p := ⟨wr.heap.size, 2, none⟩) Hxl.out).trans px2; have qy0 := (hb3.cell (p := ⟨b0, o0 + (k - 1) * 3, none⟩) Hb0.out).trans py0; have qy1 := (hb3.cell (p := ⟨b0, o0 + (k - 1) * 3 + 1, none⟩) Hb0.out).trans py1; have qy2 := (hb3.cell (p := ⟨b0, o0 + (k - 1) * 3 + 2, none⟩) Hb0.out).trans py2; have HB3 := Lib.hid hb3; clear hb3) | ((with_reducible refine (KR.out _).mono ?_); rintro e w4 ⟨rfl, hb4⟩; have rx0 := (hb4.cell (p := ⟨wr.heap.size, 0, none⟩) (Nat.lt_of_lt_of_le Hxl.out HB3.out.size)).trans qx0; have rx1 := (hb4.cell (p := ⟨wr.heap.size, 1, none⟩) (Nat.lt_of_lt_of_le Hxl.out HB3.out.size)).trans qx1; have rx2 := (hb4.cell (p := ⟨wr.heap.size, 2, none⟩) (Nat.lt_of_lt_of_le Hxl.out HB3.out.size)).trans qx2; have ry0 := (hb4.cell (p := ⟨b0, o0 + (k - 1) * 3, none⟩) (Nat.lt_of_lt_of_le Hb0.out HB3.out.size)).trans qy0; have ry1 := (hb4.cell (p := ⟨b0, o0 + (k - 1) * 3 + 1, none⟩) (Nat.lt_of_lt_of_le Hb0.out HB3.out.size)).trans qy1; have ry2 := (hb4.cell (p := ⟨b0, o0 + (k - 1) * 3 + 2, none⟩) (Nat.lt_of_lt_of_le Hb0.out HB3.out.size)).trans qy2; have HB4 := Lib.hid hb4; clear hb4))
              have Hbw3 := Lib.hid ((Hbw1.out.drew).trans (Below.mono HB3.out Hbw1.out.size))
              have Hbw4 := Lib.hid (Hbw3.out.trans (HB4.out.mono Hbw3.out.size))
              clear n1 n3 n4 n5 n6 n7 n8
              go_wp2
              go_ret
              exact ⟨retI (by rw [E2.out]), Hbw4.out⟩
            · rw [hr] at KR
              have Hnext : Hid (chkK mb ri l (k + 1) = true) := Lib.hid (Hnx.out.trans hr)
              clear hr
              go_upto_region 6 with fail
              go_region_held3 (fun w' => w'.cell? ⟨b0, o0 + (k - 1) * 3, none⟩ = some (.int .i64 y.1) ∧ w'.cell? ⟨b0, o0 + (k - 1) * 3 + 1, none⟩ = some (strV y.2.1) ∧ w'.cell? ⟨b0, o0 + (k - 1) * 3 + 2, none⟩ = some (strV y.2.2) ∧ w'.cell? ⟨wr.heap.size, 0, none⟩ = some (.int .i64 x.1) ∧ w'.cell? ⟨wr.heap.size, 1, none⟩ = some (strV x.2.1) ∧ w'.cell? ⟨wr.heap.size, 2, none⟩ = some (strV x.2.2)) (first | exact ⟨py0, py1, py2, px0, px1, px2⟩ | exact ⟨qy0, qy1, qy2, qx0, qx1, qx2⟩ | exact ⟨ry0, ry1, ry2, rx0, rx1, rx2⟩)
                (first | ((with_reducible refine (KC.out _).mono ?_); rintro e w3 ⟨rfl, hb3⟩; have qx0 := (hb3.cell (p := ⟨wr.heap.size, 0, none⟩) Hxl.out).trans px0; have qx1 := (hb3.cell (p := ⟨wr.heap.size, 1, none⟩) Hxl.out).trans px1; have qx2 := (hb3.cell (p := ⟨wr.heap.size, 2, none⟩) Hxl.out).trans px2; have qy0 := (hb3.cell (p := ⟨b0, o0 + (k - 1) * 3, none⟩) Hb0.out).trans py0; have qy1 := (hb3.cell (p := ⟨b0, o0 + (k - 1) * 3 + 1, none⟩) Hb0.out).trans py1; have qy2 := (hb3.cell (p := ⟨b0, o0 + (k - 1) * 3 + 2, none⟩) Hb0.out).trans py2; have HB3 := Lib.hid hb3; clear hb3) | ((with_reducible refine (KR.out _).mono ?_); rintro e w4 ⟨rfl, hb4⟩; have rx0 := (hb4.cell (p := ⟨wr.heap.size, 0, none⟩) (Nat.lt_of_lt_of_le Hxl.out HB3.out.size)).trans qx0; have rx1 := (hb4.cell (p := ⟨wr.heap.size, 1, none⟩) (Nat.lt_of_lt_of_le Hxl.out HB3.out.size)).trans qx1; have rx2 := (hb4.cell (p := ⟨wr.heap.size, 2, none⟩) (Nat.lt_of_lt_of_le Hxl.out HB3.out.size)).trans qx2; have ry0 := (hb4.cell (p := ⟨b0, o0 + (k - 1) * 3, none⟩) (Nat.lt_of_lt_of_le Hb0.out HB3.out.size)).trans qy0; have ry1 := (hb4.cell (p := ⟨b0, o0 + (k - 1) * 3 + 1, none⟩) (Nat.lt_of_lt_of_le Hb0.out HB3.out.size)).trans qy1; have ry2 := (hb4.cell (p := ⟨b0, o0 + (k - 1) * 3 + 2, none⟩) (Nat.lt_of_lt_of_le Hb0.out HB3.out.size)).trans qy2; have HB4 := Lib.hid hb4; clear hb4))
              have Hbw3 := Lib.hid ((Hbw1.out.drew).trans (Below.mono HB3.out Hbw1.out.size))
              have Hbw4 := Lib.hid (Hbw3.out.trans (HB4.out.mono Hbw3.out.size))
              clear n1 n3 n4 n5 n6 n7 n8
              go_wp2
              go_roundw
              case rel => exact ⟨k + 1, by omega, by go_num, Hnext.out, Hbw4.out⟩
              case measure => simp [intOf]; omega
      · obtain rfl : k = l.length := by omega
        go_wp2
        go_ret
        exact ⟨retI (by rw [E.out, Hp.out]; rfl), Hbw.out⟩

end Go.Proofs.YtfnigiiocapceaaGreat.La
