/- From what a law's walk gives to the law's row: the arguments read as they did; what the listed variables hold. No conditions of its own. -/
import Derived.Test.YthbplchbolghjaaGreatDoorCards
import Derived.Test.YthbplchbolghjaaGreatDoorTie
import Derived.Test.YthbplchbolghjaaGreatDoorGNum
import Derived.ProofKit
import Derived.OpenShut
import Derived.Carry
import Derived.LaidSub
import Derived.Deep.DeepHandedRow
import Derived.Deep.Slices
import Derived.Lib.LaidTab
import Derived.Stop.LaidErr
namespace Go.Proofs.YthbplchbolghjaaGreatDoor
open Go.ChangeShapes Go.WideShapes Go.ChangeAt Go.RowKit Go.Deep

theorem ownK : ownKnob Tryz.prog.godebug = none := by kernel_rfl
theorem laidOut : laidOutB Tryz.prog = true := by kernel_rfl

theorem all_stay {H : Type} {enc : TypeId × Value → H} {P : Program} (hl : laidOutB P = true) {W W' : World} (hb : Below W.heap.size W W') :
    ∀ {ts : List TypeId} {vs : List Value} {ds : List (DataW H)} {ps : List MemPlace}, (∀ t ∈ ts, P.readableRec t = true ∧ t < P.types.size) → (∀ x ∈ ps, x.block < W.heap.size) →
      DataW.TrodAll enc P W 0 (fun _ => true) true ts vs ds ps → DataW.TrodAll enc P W' 0 (fun b => decide (b < W.heap.size)) true ts vs ds ps
  | [], vs, ds, ps, _, _, h => by
    obtain ⟨rfl, rfl, rfl⟩ := trodAll_nil h
    exact trodAll_mk0
  | t :: ts, vs, ds, ps, hr, hlt, h => by
    obtain ⟨v, vs', d, ds', p, q, rfl, rfl, rfl, h0, h1⟩ := trodAll_cons h
    refine trodAll_cons_mk (Below.trod hl (hr t (by simp)).1 (hr t (by simp)).2 h0 hb (fun x hx => hlt x (by simp [hx]))) (all_stay hl hb (fun t' ht' => hr t' (by simp [ht'])) (fun x hx => hlt x (by simp [hx])) h1)

/-- The last step of each law. -/
theorem law_post {H : Type} {enc : TypeId × Value → H} {f : Func} {s : ChangeSpec} {W W' : World} {args : Array Value} {ds gs : List (DataW H)} {before : List MemPlace}
    (hW : DataW.Whole enc Tryz.prog f.params.toList s.vars false W args.toList ds gs before) (hv : s.vars = [])
    (hfn : ∀ x : List (DataW H), x.length = f.params.toList.length → s.fn H x = { results := [.lit (.bool true)], args := x })
    (hres : f.resultTypes = #[4]) (hr : ∀ t ∈ f.params.toList, Tryz.prog.readableRec t = true ∧ t < Tryz.prog.types.size) (hb : Below W.heap.size W W') :
    s.post enc Tryz.prog f false true false false W args (.bool true) W' := by
  have hW' := hW
  have hlt : ∀ p ∈ before, p.block < W.heap.size := fun p hp => hW.lt p hp
  obtain ⟨p, q, hA, hV, rfl, _, _⟩ := hW
  rw [hv] at hV
  obtain ⟨rfl, rfl⟩ := trodVars_none hV
  have hlen : ∀ {ts : List TypeId} {vs : List Value} {es : List (DataW H)} {ps : List MemPlace}, DataW.TrodAll enc Tryz.prog W 0 (fun _ => true) true ts vs es ps → es.length = ts.length := by
    intro ts
    induction ts with
    | nil => intro vs es ps h; obtain ⟨_, rfl, _⟩ := trodAll_nil h; rfl
    | cons t ts ih =>
      intro vs es ps h
      obtain ⟨v, vs', d, ds', p, q, rfl, rfl, rfl, _, h1⟩ := trodAll_cons h
      simp [ih h1]
  have hf := hfn (ds ++ []) (by simpa using hlen hA)
  refine ⟨ds, [], p ++ [], [], p, [], hW', ?_, ?_, ?_, hb.frame _, fun h => by cases h⟩
  · rw [hf, hres]
    exact trodAll_cons_mk (shut_bool Tryz.underlying4 _) trodAll_mk0
  · rw [hf]
    simpa using all_stay laidOut hb hr (fun x hx => hlt x (by simp [hx])) hA
  · rw [hf, hv]
    rfl

theorem gTab : Tryz.prog.globalNamed "internal/strconv.uint64pow10" = some 5 := by kernel_rfl
theorem gTabType : (Tryz.prog.globals[5]?).map (·.type) = some 162 := by kernel_rfl
theorem cellsTab : Tryz.prog.cellsOf 162 = 20 := by kernel_rfl
theorem cellsU : Tryz.prog.cellsOf 146 = 1 := by kernel_rfl
theorem tab_data : (Rows.laid_internal_strconv_uint64pow10 : DataW Unit) = Lib.tabData .u64 Lib.pow10Tab := by kernel_rfl

theorem gcells3 : Tryz.prog.cellsOf 3 = 1 := by kernel_rfl
theorem gcellsStr : Tryz.prog.cellsOf 9 = 1 := by kernel_rfl
theorem gcellsBool : Tryz.prog.cellsOf 4 = 1 := by kernel_rfl
theorem gcellsArr2 : Tryz.prog.cellsOf 22 = 2 := by kernel_rfl
theorem gcellsSl : Tryz.prog.cellsOf 23 = 1 := by kernel_rfl
theorem gcellsGoal : Tryz.prog.cellsOf 25 = 9 := by kernel_rfl
/-- Cells that read as an array of texts are these texts. -/
theorem arr_strs {H : Type} {enc : TypeId × Value → H} {w : World} {base : Nat} {sp : Nat → Bool} {held : Bool} {fuel : Nat} {cs : List Value} {T : TypeId} {n : Nat} {L : List (List UInt8)} {p : List MemPlace}
    (hu : Tryz.prog.underlying T = some (.array n 9)) (hn : L.length = n) (h : DataW.trod enc Tryz.prog w base sp held fuel T cs = some (.agg (L.map fun t => .lit (.string t)), p)) :
    ∀ (i : Nat) (k : List UInt8), L[i]? = some k → cs[i]? = some (strV k) := by
  obtain ⟨xs, m, _, hx, hl, hxl, hf⟩ := DataW.trod_array hu h
  intro i k hi
  simp only [Prod.mk.injEq, DataW.agg.injEq] at hx
  have hin : i < n := by rw [← hn]; exact (List.getElem?_eq_some_iff.1 hi).1
  have h1 := hf i hin
  rw [gcellsStr, Nat.mul_one] at h1
  obtain ⟨y, hy⟩ : ∃ y, xs[i]? = some y := ⟨xs[i]'(by omega), List.getElem?_eq_getElem (by omega)⟩
  rw [hy] at h1
  obtain ⟨s, hs, hx2, _⟩ := DataW.trod_string Tryz.underlying9 h1
  have h2 := congrArg (fun l => l[i]?) hx.1
  simp only [List.getElem?_map, hi, hy, Option.map_some, Option.some.injEq, hx2, DataW.lit.injEq, Lit.string.injEq] at h2
  have h3 : ((cs.drop i).take 1)[0]? = some (Value.string s) := by rw [hs]; rfl
  rw [List.getElem?_take_of_lt (by omega), List.getElem?_drop] at h3
  rw [Nat.add_zero] at h3
  rw [h3, h2]
theorem gKeys : Tryz.prog.globalNamed "drayage/policy.keys" = some 0 := by kernel_rfl
theorem gKeysType : (Tryz.prog.globals[0]?).map (·.type) = some 54 := by kernel_rfl
theorem gLooks : Tryz.prog.globalNamed "drayage/policy.looks" = some 1 := by kernel_rfl
theorem gLooksType : (Tryz.prog.globals[1]?).map (·.type) = some 93 := by kernel_rfl
theorem gES : Tryz.prog.globalNamed "strconv.ErrSyntax" = some 6 := by kernel_rfl
theorem gESType : (Tryz.prog.globals[6]?).map (·.type) = some 56 := by kernel_rfl
theorem gER : Tryz.prog.globalNamed "strconv.ErrRange" = some 7 := by kernel_rfl
theorem gERType : (Tryz.prog.globals[7]?).map (·.type) = some 56 := by kernel_rfl
theorem gcellsES : Tryz.prog.cellsOf 188 = 1 := by kernel_rfl
theorem uErr : ∃ ms, Tryz.prog.underlying 56 = some (.interface ms) := ⟨_, Tryz.underlying56⟩
theorem starES : "*" ++ "errors.errorString" = "*errors.errorString" := by decide
theorem rowES (u : TypeId) (h : Tryz.prog.typeName? 3 u = some "*errors.errorString") : u = 186 :=
  typeName_ptr_named (nm := "errors.errorString") (by rw [starES]; kernel_rfl) (by kernel_rfl) (by decide) u (by rw [starES]; exact h)
/-- What the rows list. -/
def laid7 : List (String × DataW Unit) := [("math/bits.deBruijn32tab", Rows.laid_math_bits_deBruijn32tab), ("math/bits.deBruijn64tab", Rows.laid_math_bits_deBruijn64tab), ("internal/strconv.uint64pow10", Rows.laid_internal_strconv_uint64pow10), ("strconv.ErrRange", Rows.laid_strconv_ErrRange), ("strconv.ErrSyntax", Rows.laid_strconv_ErrSyntax), ("drayage/policy.keys", Rows.laid_drayage_policy_keys), ("drayage/policy.looks", Rows.laid_drayage_policy_looks)]
theorem strs_of {W : World} {nm : String} {g : Nat} {T : TypeId} {n : Nat} {L : List (List UInt8)} {D : DataW Unit} (hD : D = .agg (L.map fun t => .lit (.string t))) (hg : Tryz.prog.globalNamed nm = some g) (ht : (Tryz.prog.globals[g]?).map (·.type) = some T) (hu : Tryz.prog.underlying T = some (.array n 9)) (hn : L.length = n) (h : laidMet Tryz.prog [(nm, D)] W) :
    ∀ i k, L[i]? = some k → W.cell? ⟨g, i, none⟩ = some (strV k) := by
  obtain ⟨ps, ⟨g', t', cs, fuel, p, q, hg', ht', hvar, hd, _, _⟩, _⟩ := h
  obtain rfl := Option.some.inj (hg.symm.trans hg')
  obtain rfl := Option.some.inj (ht.symm.trans ht')
  subst hD
  intro i k hi
  rw [World.var?_cell hg hvar i, ← Array.getElem?_toList]
  exact arr_strs hu hn hd i k hi
theorem env_of7 {W : World} (h : laidMetH Tryz.prog laid7 W) : Env W := by
  obtain ⟨ms, hms⟩ := uErr
  refine ⟨?_, ?_, ?_, ?_, ?_⟩
  · have h1 := h.filter (fun x => x.1 == "internal/strconv.uint64pow10")
    have e : (laid7.filter (fun x => x.1 == "internal/strconv.uint64pow10")) = [("internal/strconv.uint64pow10", Lib.tabData .u64 Lib.pow10Tab)] := by
      unfold laid7
      rw [tab_data]
      rfl
    rw [e] at h1
    exact Lib.tabIs_of_head (rest := []) gTab gTabType Tryz.underlying162 Tryz.underlying146 cellsU cellsTab h1
  · have h1 := h.filter (fun x => x.1 == "strconv.ErrSyntax")
    have e : (laid7.filter (fun x => x.1 == "strconv.ErrSyntax")) = [("strconv.ErrSyntax", .iface "*errors.errorString" (.ptr (.agg [.lit (.string [105, 110, 118, 97, 108, 105, 100, 32, 115, 121, 110, 116, 97, 120])])))] := by
      unfold laid7
      rfl
    rw [e] at h1
    obtain ⟨a0, s0, hv0, -, -, -⟩ := laid_sentinel (show laidMet Tryz.prog [("strconv.ErrSyntax", .iface "*errors.errorString" (.ptr (.agg [.lit (.string [105, 110, 118, 97, 108, 105, 100, 32, 115, 121, 110, 116, 97, 120])])))] W from h1) gES gESType hms rowES Tryz.underlying186 Tryz.underlying188 rfl rfl Tryz.underlying9 gcellsES gcellsStr
    exact ⟨_, _, by have h0 := World.var?_cell gES hv0 0; simpa using h0⟩
  · have h1 := h.filter (fun x => x.1 == "strconv.ErrRange")
    have e : (laid7.filter (fun x => x.1 == "strconv.ErrRange")) = [("strconv.ErrRange", .iface "*errors.errorString" (.ptr (.agg [.lit (.string [118, 97, 108, 117, 101, 32, 111, 117, 116, 32, 111, 102, 32, 114, 97, 110, 103, 101])])))] := by
      unfold laid7
      rfl
    rw [e] at h1
    obtain ⟨a0, s0, hv0, -, -, -⟩ := laid_sentinel (show laidMet Tryz.prog [("strconv.ErrRange", .iface "*errors.errorString" (.ptr (.agg [.lit (.string [118, 97, 108, 117, 101, 32, 111, 117, 116, 32, 111, 102, 32, 114, 97, 110, 103, 101])])))] W from h1) gER gERType hms rowES Tryz.underlying186 Tryz.underlying188 rfl rfl Tryz.underlying9 gcellsES gcellsStr
    exact ⟨_, _, by have h0 := World.var?_cell gER hv0 0; simpa using h0⟩
  · have h1 := h.filter (fun x => x.1 == "drayage/policy.keys")
    have e : (laid7.filter (fun x => x.1 == "drayage/policy.keys")) = [("drayage/policy.keys", Rows.laid_drayage_policy_keys)] := by
      unfold laid7
      rfl
    rw [e] at h1
    exact strs_of (L := keysL) rfl gKeys gKeysType Tryz.underlying54 rfl h1
  · have h1 := h.filter (fun x => x.1 == "drayage/policy.looks")
    have e : (laid7.filter (fun x => x.1 == "drayage/policy.looks")) = [("drayage/policy.looks", Rows.laid_drayage_policy_looks)] := by
      unfold laid7
      rfl
    rw [e] at h1
    exact strs_of (L := looksL) rfl gLooks gLooksType Tryz.underlying93 rfl h1

theorem gint_wf {n : Int} (h : (Lit.int .i64 n).wf = true) : -9223372036854775808 ≤ n ∧ n ≤ 9223372036854775807 := by
  have h1 : IntKind.i64.min = -9223372036854775808 := rfl
  have h2 : IntKind.i64.max = 9223372036854775807 := rfl
  simp only [Lit.wf, Bool.and_eq_true, decide_eq_true_eq] at h
  omega
/-- A variable's block with these cells. -/
def putCells (cs : Array Value) : Obj → Obj
  | .cells _ t frozen => .cells cs t frozen
  | o => o
def cells32 : Array Value := #[0, 1, 28, 2, 29, 14, 24, 3, 30, 22, 20, 15, 25, 17, 4, 8, 31, 27, 13, 23, 21, 19, 16, 7, 26, 12, 18, 6, 11, 5, 10, 9].map (Value.int .u8)
def cells64 : Array Value := #[0, 1, 56, 2, 57, 49, 28, 3, 61, 58, 42, 50, 38, 29, 17, 4, 62, 47, 59, 36, 45, 43, 51, 22, 53, 39, 33, 30, 24, 18, 12, 5, 63, 55, 48, 27, 60, 41, 37, 16, 46, 35, 44, 21, 52, 32, 23, 11, 54, 26, 40, 15, 34, 20, 31, 10, 25, 14, 19, 9, 13, 8, 7, 6].map (Value.int .u8)
def cells10 : Array Value := #[1, 10, 100, 1000, 10000, 100000, 1000000, 10000000, 100000000, 1000000000, 10000000000, 100000000000, 1000000000000, 10000000000000, 100000000000000, 1000000000000000, 10000000000000000, 100000000000000000, 1000000000000000000, 10000000000000000000].map (Value.int .u64)
def cellsKeys : Array Value := #[.string ⟨#[108, 111, 119]⟩, .string ⟨#[104, 105, 103, 104]⟩, .string ⟨#[111, 110]⟩, .string ⟨#[100, 114, 97, 105, 110]⟩, .string ⟨#[109, 111, 118, 101, 115]⟩, .string ⟨#[116, 114, 105, 101, 115]⟩, .string ⟨#[114, 111, 108, 108, 98, 97, 99, 107]⟩]
def cellsLooks : Array Value := #[.string ⟨#[100, 111, 117, 98, 108, 101, 115]⟩, .string ⟨#[119, 105, 116, 104]⟩, .string ⟨#[116, 97, 105, 110, 116, 115]⟩, .string ⟨#[115, 112, 114, 101, 97, 100]⟩, .string ⟨#[101, 109, 112, 116, 121]⟩]
/-- So many blocks has the settled world. -/
noncomputable def lowG : Nat := (World.holding Tryz.prog default ⟨#[], #[], []⟩).heap.size
/-- A world for the witnesses: the settled one, with two errors more, and the variables as their initialisers lay them. -/
noncomputable def laidWorldG (os : Os) : World :=
  let w0 := World.holding Tryz.prog os ⟨#[.cells #[.string ⟨#[105, 110, 118, 97, 108, 105, 100, 32, 115, 121, 110, 116, 97, 120]⟩] 188, .cells #[.string ⟨#[118, 97, 108, 117, 101, 32, 111, 117, 116, 32, 111, 102, 32, 114, 97, 110, 103, 101]⟩] 188], #[], []⟩
  { w0 with heap := ((((((w0.heap.modify 8 (putCells cells32)).modify 9 (putCells cells64)).modify 5 (putCells cells10)).modify 6 (putCells #[.iface 186 (.pointer (some ⟨lowG, 0, none⟩))])).modify 7 (putCells #[.iface 186 (.pointer (some ⟨lowG + 1, 0, none⟩))])).modify 0 (putCells cellsKeys)).modify 1 (putCells cellsLooks) }
end Go.Proofs.YthbplchbolghjaaGreatDoor
