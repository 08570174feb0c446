/- Quote answers as the chapter says: the walk. Condition: the tables of UTF-8 lie as they were laid. -/
import Derived.Test.YtdiighpmgfbmaaaDoorSQuoteM
import Derived.Test.YtdiighpmgfbmaaaDoorSWorks
import Derived.Deep.DeepCutAuto
namespace Go.Proofs.YtdiighpmgfbmaaaDoor
open Go.RowKit

theorem short_q (s : ByteArray) (m : Nat) (h : m ≤ 400) : ∃ l : List UInt8, l.length ≤ 400 ∧ s.extract 0 m = ⟨l.toArray⟩ := by
  obtain ⟨⟨l⟩⟩ := s
  refine ⟨(l.drop 0).take (m - 0), ?_, ?_⟩
  · rw [List.length_take]
    omega
  · rw [cut_mid]

set_option maxRecDepth 100000 in
set_option maxHeartbeats 8000000 in
theorem quotes_any (s : ByteArray) (w : World) (hs : s.size ≤ 9223372036854775807) (hT : Utab w) :
    Calls Tryd.prog 15 #[.string s] w fun e w' => e = .returned (.bool true) ∧ Below w.heap.size w w' := by
  have HT := Lib.hid hT
  clear hT
  go_enter Tryd.func15, Tryd.ntmps15
  go_upto_region 2 with fail
  obtain ⟨l, hl, e⟩ := short_q s (min (s.size : Int) 400).toNat (by omega)
  rw [e]
  clear e
  have KQ : Hid (∀ w, Utab w → Calls Tryd.prog 25 #[strV l] w fun e w' => e = .returned (.tuple #[strV (quoteF l).1, .int .i64 (quoteF l).2]) ∧ Below w.heap.size w w') := Lib.hid (fun w h => quote_any l w (by omega) h)
  have KD : Hid (∀ w, Utab w → Calls Tryd.prog 26 #[strV l] w fun e w' => e = .returned (.tuple #[strV (quoteF l).1, .int .i64 (quoteF l).2]) ∧ Below w.heap.size w w') := Lib.hid (fun w h => by rw [quote_same]; exact rquote_any l w (by omega) h)
  generalize quoteF l = R at KQ KD
  obtain ⟨t, e0⟩ := R
  simp only at KQ KD
  go_wp2_with fail
  refine (KQ.out _ HT.out).mono ?_
  rintro e w1 ⟨rfl, hb⟩
  have B1 := Lib.hid hb
  clear hb KQ
  go_wp2_with fail
  refine (KD.out _ (HT.out.below B1.out)).mono ?_
  rintro e w2 ⟨rfl, hb⟩
  have B2 := Lib.hid (B1.out.trans (hb.mono B1.out.size))
  clear hb KD
  have b2 : (e0 == e0) = true := by simp
  go_wp2_with fail
  refine (works_any _).mono ?_
  rintro e w3 ⟨rfl, hb⟩
  have B3 := Lib.hid (B2.out.trans (hb.mono B2.out.size))
  clear hb
  go_wp2
  go_ret
  exact ⟨rfl, B3.out⟩
end Go.Proofs.YtdiighpmgfbmaaaDoor
