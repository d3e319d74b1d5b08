/- The model's l4Read: the move that a word may tell. -/
import Derived.Test.YtmkocinknhaniaaKz
import Derived.Test.YtmkocinknhaniaaOwn
import Derived.Deep.RegionLaw
import Derived.Laws.IdiomStrings
namespace Go.Proofs.Ytmkocinknhaniaa
set_option linter.unusedVariables false
open Go.RowKit

def rdM (a b c d : UInt8) : Mv := ⟨(a.toNat : Int) - 48, if b = 108 then 1 else 0, if c = 45 then -((d.toNat : Int) - 48) else (d.toNat : Int) - 48⟩
def readM (s : ByteArray) : Mv := if h : s.size = 4 then rdM s[0] s[1] s[2] s[3] else ⟨0, 0, 0⟩

set_option maxRecDepth 100000 in
set_option maxHeartbeats 1600000 in
theorem l4Read_no (s : ByteArray) (w : World) (hs : s.size ≤ maxLen) (h : ¬ s.size = 4) :
    Calls Try.prog 34 #[.string s] w fun e w' => e = .returned (mvV ⟨0, 0, 0⟩) ∧ Below w.heap.size w w' := by
  have hm : s.size ≤ 9223372036854775807 := hs
  have hb : ((s.size : Int) != 4) = true := by simp; omega
  show Calls Try.prog 34 #[.string s] w fun e w' => e = .returned (.agg #[.int .i64 0, .int .i64 0, .int .i64 0]) ∧ Below w.heap.size w w'
  clear hs
  have HB0 : Hid (Below w.heap.size w w) := Lib.hid (Below.refl _ _)
  go_enter Try.func34, Try.ntmps34
  go_wp2_with fail
  have hb : Below w.heap.size w (w.alloc (.cells #[.int .i64 0, .int .i64 0, .int .i64 0] 40)) := (Below.refl _ _).alloc (Nat.le_refl _) _
  have hk : (w.alloc (.cells #[.int .i64 0, .int .i64 0, .int .i64 0] 40)).heap[w.heap.size]? = some (.cells #[.int .i64 0, .int .i64 0, .int .i64 0] 40 (0, 0)) := alloc_at rfl
  have hz : (w.alloc (.cells #[.int .i64 0, .int .i64 0, .int .i64 0] 40)).heap.size = w.heap.size + 1 := by simp
  generalize w.alloc (.cells #[.int .i64 0, .int .i64 0, .int .i64 0] 40) = w1 at hb hk hz ⊢
  have HB1 : Hid (Below w.heap.size w w1) := Lib.hid (HB0.out.trans (hb.mono HB0.out.size))
  have HZ1 : Hid (w.heap.size ≤ w1.heap.size) := Lib.hid hb.size
  have HKz1 := Lib.hid hk
  replace HZ1 : Hid (w.heap.size < w1.heap.size) := Lib.hid (by omega)
  have HE1 := Lib.hid hz
  clear hb hk hz
  have ltz := lt_of_block HKz1.out
  obtain ⟨cz0, cz1, cz2, fz0, fz1, fz2⟩ := cell3 HKz1.out
  exact bodyPost_ret (v := .agg #[.int .i64 0, .int .i64 0, .int .i64 0]) (by simp [results, Try.results34, go_sem, cz0, cz1, cz2]) rfl ⟨rfl, HB1.out⟩
end Go.Proofs.Ytmkocinknhaniaa
