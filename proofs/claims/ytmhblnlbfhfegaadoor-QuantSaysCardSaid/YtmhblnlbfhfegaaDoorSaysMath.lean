/- Digits, a point, three digits and a suffix: what they say, in plain words. No conditions. -/
import Derived.Test.YtmhblnlbfhfegaaDoorRefParse
namespace Go.Proofs.YtmhblnlbfhfegaaDoor
open Go.RowKit

/-- The suffixes that the law takes, and by how many thousandths each multiplies. -/
def sufN : List (List UInt8) := [[109], [], [107], [77], [75, 105], [77, 105]]
def sufB : List Int := [1, 1000, 1000000, 1000000000, 1024000, 1048576000]

def digB (x : Int) : UInt8 := UInt8.ofNat (48 + x.toNat)
theorem digB_nat {x : Int} (h0 : 0 ≤ x) (h1 : x ≤ 9) : (digB x).toNat = 48 + x.toNat := by
  unfold digB
  rw [UInt8.toNat_ofNat']
  omega

/-- The text that the law makes. -/
def saysText (a b : Int) (t : List UInt8) : List UInt8 := dec a ++ ([46] ++ ([digB (b / 100), digB (b / 10 % 10), digB (b % 10)] ++ t))

theorem says_scan (a b : Int) (t : List UInt8) (h0 : 0 ≤ a) (h1 : a ≤ 2097151) (h2 : 0 ≤ b) (h3 : b ≤ 999) :
    (scanL 3 sufM (saysText a b t) 0 rd0).1 = (scanL 3 sufM t ((dec a).length + 4) ⟨1000 * a + b, true, true, 3, []⟩).1 := by
  unfold saysText
  rw [scan_dec' 3 sufM a h0 (by omega)]
  generalize (dec a).length = pos
  have d1 := digB_nat (x := b / 100) (by omega) (by omega)
  have d2 := digB_nat (x := b / 10 % 10) (by omega) (by omega)
  have d3 := digB_nat (x := b % 10) (by omega) (by omega)
  have i1 : isDig (digB (b / 100)) := by unfold isDig; omega
  have i2 : isDig (digB (b / 10 % 10)) := by unfold isDig; omega
  have i3 : isDig (digB (b % 10)) := by unfold isDig; omega
  show (scanL 3 sufM (46 :: digB (b / 100) :: digB (b / 10 % 10) :: digB (b % 10) :: t) pos _).1 = _
  rw [scanL, point_step (n := a) (b := 46) (P := 3) (m := sufM) rfl]
  simp only
  rw [scanL, place_step i1 (by decide)]
  simp only
  rw [scanL, place_step i2 (by decide)]
  simp only
  rw [scanL, place_step i3 (by decide)]
  simp only
  rw [show ((a * 10 + (((digB (b / 100)).toNat : Int) - 48)) * 10 + (((digB (b / 10 % 10)).toNat : Int) - 48)) * 10 + (((digB (b % 10)).toNat : Int) - 48) = 1000 * a + b by omega]

theorem says_read (a b : Int) (k : Nat) (hk : k < sufN.length) (h0 : 0 ≤ a) (h1 : a ≤ 2097151) (h2 : 0 ≤ b) (h3 : b ≤ 999) :
    readL ⟨(saysText a b sufN[k]).toArray⟩ 3 sufM = (1000 * a + b, sufB[k]'hk, 0, 0) := by
  have key : ∀ (t : List UInt8) (x : Int) (hz : x ≠ 0) (hl : look sufM t = some x), (scanL 3 sufM t ((dec a).length + 4) ⟨1000 * a + b, true, true, 3, []⟩).1 = some ⟨1000 * a + b, true, true, 3, t⟩ → readL ⟨(saysText a b t).toArray⟩ 3 sufM = (1000 * a + b, x, 0, 0) := by
    intro t x hz hl hsc
    rw [read_ok _ 3 sufM suf_ascii ⟨1000 * a + b, true, true, 3, t⟩ x (by rw [says_scan a b t h0 h1 h2 h3]; exact hsc) rfl hl hz]
    simp
  match k, hk with
  | 0, _ => exact key _ 1 (by decide) rfl (by show (scanL 3 sufM [109] _ _).1 = _; rw [scan_suf1 3 sufM 109 _ _ 1 (by decide) (by decide) (by decide) rfl rfl]; rfl)
  | 1, _ => exact key _ 1000 (by decide) rfl rfl
  | 2, _ => exact key _ 1000000 (by decide) rfl (by show (scanL 3 sufM [107] _ _).1 = _; rw [scan_suf1 3 sufM 107 _ _ 1000000 (by decide) (by decide) (by decide) rfl rfl]; rfl)
  | 3, _ => exact key _ 1000000000 (by decide) rfl (by show (scanL 3 sufM [77] _ _).1 = _; rw [scan_suf1 3 sufM 77 _ _ 1000000000 (by decide) (by decide) (by decide) rfl rfl]; rfl)
  | 4, _ => exact key _ 1024000 (by decide) rfl (by show (scanL 3 sufM [75, 105] _ _).1 = _; rw [scan_suf1 3 sufM 75 _ _ 0 (by decide) (by decide) (by decide) rfl rfl, scan_suf1 3 sufM 105 _ _ 1024000 (by decide) (by decide) (by decide) rfl rfl]; rfl)
  | 5, _ => exact key _ 1048576000 (by decide) rfl (by show (scanL 3 sufM [77, 105] _ _).1 = _; rw [scan_suf1 3 sufM 77 _ _ 1000000000 (by decide) (by decide) (by decide) rfl rfl, scan_suf1 3 sufM 105 _ _ 1048576000 (by decide) (by decide) (by decide) rfl rfl]; rfl)

theorem sufB_in (k : Nat) (hk : k < sufB.length) : 1 ≤ sufB[k] ∧ sufB[k] ≤ 1048576000 := by
  have : ∀ t ∈ sufB, 1 ≤ t ∧ t ≤ 1048576000 := by decide
  exact this _ (List.getElem_mem _)
theorem sufN_le (k : Nat) (hk : k < sufN.length) : sufN[k].length ≤ 2 := by
  have : ∀ t ∈ sufN, t.length ≤ 2 := by decide
  exact this _ (List.getElem_mem _)

end Go.Proofs.YtmhblnlbfhfegaaDoor
