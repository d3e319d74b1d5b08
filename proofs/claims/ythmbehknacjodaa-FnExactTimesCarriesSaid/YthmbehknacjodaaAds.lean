/- The program's addition: a rod is set. -/
import Derived.Test.YthmbehknacjodaaKf
namespace Go.Proofs.Ythmbehknacjodaa
set_option linter.unusedVariables false
open Go.RowKit

theorem adSet_any (B A mg mc : Nat) (up lo : Int) (sv : Value) (rs : List (Int × Int)) (ms : List Mv) (c k0 k1 k2 k3 : Int) (q : Nat) (d : Int) (w : World) (h : AdAt B w A up lo sv mg mc rs ms c k0 k1 k2 k3) (hg : goodF up lo rs) (hs : stdF rs) (hq : q < rs.length) (hd0 : 0 ≤ d) (hd1 : d ≤ 9) (hn : ms.length ≤ 200) :
    Calls Try.prog 137 #[.pointer (some ⟨A, 0, none⟩), .int .i64 q, .int .i64 d] w fun e w' => e = .returned (.tuple #[]) ∧ (∃ sv' mg' mc', AdAt B w' A up lo sv' mg' mc' (rs.set q (digR d)) (ms ++ turnM q (vAt rs q) d) c k0 k1 k2 k3) ∧ Below B w w' ∧ KeepT w w' A := by
  have hc : CoAt B w A 86 [.int .i64 c, .int .i64 k0, .int .i64 k1, .int .i64 k2, .int .i64 k3] up lo sv mg mc rs ms := ⟨h.ord, ⟨by decide, by decide⟩, h.box, h.rods, h.moves⟩
  refine (coSet_any B A mg mc up lo sv rs ms _ _ q d w hc hg hs hq hd0 hd1 hn).mono ?_
  rintro e w' ⟨rfl, ⟨sv', mg', mc', ho⟩, hb, hk⟩
  exact ⟨rfl, ⟨sv', mg', mc', ⟨ho.ord, ho.box, ho.rods, ho.moves⟩⟩, hb, KeepT.of_keep h.moves hk⟩
end Go.Proofs.Ythmbehknacjodaa
