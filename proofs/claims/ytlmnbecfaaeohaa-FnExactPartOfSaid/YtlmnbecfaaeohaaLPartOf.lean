/- The law on PartOf: it returns true where the model and the program give one answer. -/
import Derived.Test.YtlmnbecfaaeohaaAmts
import Derived.Test.YtlmnbecfaaeohaaUnits
import Derived.Test.YtlmnbecfaaeohaaKa
import Derived.Deep.RegionHeld3
import Derived.Deep.Cut
namespace Go.Proofs.Ytlmnbecfaaeohaa
set_option linter.unusedVariables false
open Go.RowKit

theorem cutG11_nnononononw {Q : Prop} {G : Nat → Nat → Option Addr → Nat → Option Addr → Nat → Option Addr → Nat → Option Addr → Nat → World → Prop} (R : Nat → Nat → Option Addr → Nat → Option Addr → Nat → Option Addr → Nat → Option Addr → Nat → World → Prop) (first : (∀ x0 x1 x2 x3 x4 x5 x6 x7 x8 x9 x10, R x0 x1 x2 x3 x4 x5 x6 x7 x8 x9 x10 → G x0 x1 x2 x3 x4 x5 x6 x7 x8 x9 x10) → Q) (rest : ∀ x0 x1 x2 x3 x4 x5 x6 x7 x8 x9 x10, R x0 x1 x2 x3 x4 x5 x6 x7 x8 x9 x10 → G x0 x1 x2 x3 x4 x5 x6 x7 x8 x9 x10) : Q := first rest
theorem cutG7_nnononw {Q : Prop} {G : Nat → Nat → Option Addr → Nat → Option Addr → Nat → World → Prop} (R : Nat → Nat → Option Addr → Nat → Option Addr → Nat → World → Prop) (first : (∀ x0 x1 x2 x3 x4 x5 x6, R x0 x1 x2 x3 x4 x5 x6 → G x0 x1 x2 x3 x4 x5 x6) → Q) (rest : ∀ x0 x1 x2 x3 x4 x5 x6, R x0 x1 x2 x3 x4 x5 x6 → G x0 x1 x2 x3 x4 x5 x6) : Q := first rest
theorem cutG5_nnonw {Q : Prop} {G : Nat → Nat → Option Addr → Nat → World → Prop} (R : Nat → Nat → Option Addr → Nat → World → Prop) (first : (∀ x0 x1 x2 x3 x4, R x0 x1 x2 x3 x4 → G x0 x1 x2 x3 x4) → Q) (rest : ∀ x0 x1 x2 x3 x4, R x0 x1 x2 x3 x4 → G x0 x1 x2 x3 x4) : Q := first rest
theorem cutG3_nnw {Q : Prop} {G : Nat → Nat → World → Prop} (R : Nat → Nat → World → Prop) (first : (∀ x0 x1 x2, R x0 x1 x2 → G x0 x1 x2) → Q) (rest : ∀ x0 x1 x2, R x0 x1 x2 → G x0 x1 x2) : Q := first rest
theorem cutG10_nononononw {Q : Prop} {G : Nat → Option Addr → Nat → Option Addr → Nat → Option Addr → Nat → Option Addr → Nat → World → Prop} (R : Nat → Option Addr → Nat → Option Addr → Nat → Option Addr → Nat → Option Addr → Nat → World → Prop) (first : (∀ x0 x1 x2 x3 x4 x5 x6 x7 x8 x9, R x0 x1 x2 x3 x4 x5 x6 x7 x8 x9 → G x0 x1 x2 x3 x4 x5 x6 x7 x8 x9) → Q) (rest : ∀ x0 x1 x2 x3 x4 x5 x6 x7 x8 x9, R x0 x1 x2 x3 x4 x5 x6 x7 x8 x9 → G x0 x1 x2 x3 x4 x5 x6 x7 x8 x9) : Q := first rest
theorem cutG6_nononw {Q : Prop} {G : Nat → Option Addr → Nat → Option Addr → Nat → World → Prop} (R : Nat → Option Addr → Nat → Option Addr → Nat → World → Prop) (first : (∀ x0 x1 x2 x3 x4 x5, R x0 x1 x2 x3 x4 x5 → G x0 x1 x2 x3 x4 x5) → Q) (rest : ∀ x0 x1 x2 x3 x4 x5, R x0 x1 x2 x3 x4 x5 → G x0 x1 x2 x3 x4 x5) : Q := first rest
theorem cutG4_nonw {Q : Prop} {G : Nat → Option Addr → Nat → World → Prop} (R : Nat → Option Addr → Nat → World → Prop) (first : (∀ x0 x1 x2 x3, R x0 x1 x2 x3 → G x0 x1 x2 x3) → Q) (rest : ∀ x0 x1 x2 x3, R x0 x1 x2 x3 → G x0 x1 x2 x3) : Q := first rest
theorem cutG2_nw {Q : Prop} {G : Nat → World → Prop} (R : Nat → World → Prop) (first : (∀ x0 x1, R x0 x1 → G x0 x1) → Q) (rest : ∀ x0 x1, R x0 x1 → G x0 x1) : Q := first rest
theorem cutG9_ononononw {Q : Prop} {G : Option Addr → Nat → Option Addr → Nat → Option Addr → Nat → Option Addr → Nat → World → Prop} (R : Option Addr → Nat → Option Addr → Nat → Option Addr → Nat → Option Addr → Nat → World → Prop) (first : (∀ x0 x1 x2 x3 x4 x5 x6 x7 x8, R x0 x1 x2 x3 x4 x5 x6 x7 x8 → G x0 x1 x2 x3 x4 x5 x6 x7 x8) → Q) (rest : ∀ x0 x1 x2 x3 x4 x5 x6 x7 x8, R x0 x1 x2 x3 x4 x5 x6 x7 x8 → G x0 x1 x2 x3 x4 x5 x6 x7 x8) : Q := first rest
theorem cutG5_ononw {Q : Prop} {G : Option Addr → Nat → Option Addr → Nat → World → Prop} (R : Option Addr → Nat → Option Addr → Nat → World → Prop) (first : (∀ x0 x1 x2 x3 x4, R x0 x1 x2 x3 x4 → G x0 x1 x2 x3 x4) → Q) (rest : ∀ x0 x1 x2 x3 x4, R x0 x1 x2 x3 x4 → G x0 x1 x2 x3 x4) : Q := first rest
theorem cutG3_onw {Q : Prop} {G : Option Addr → Nat → World → Prop} (R : Option Addr → Nat → World → Prop) (first : (∀ x0 x1 x2, R x0 x1 x2 → G x0 x1 x2) → Q) (rest : ∀ x0 x1 x2, R x0 x1 x2 → G x0 x1 x2) : Q := first rest

set_option maxRecDepth 100000 in
set_option maxHeartbeats 12800000 in
theorem lawPartOf (w : World) (sv0 : Value) (us0 : List Un) (h0 : RowsR 2 unC w sv0 us0) (hs0 : ∀ u ∈ us0, u.nm.size ≤ maxLen) (sv1 : Value) (cs1 : List Int) (h1 : RowsR 1 inC w sv1 cs1) (a2 : Int) (qs0 : List Int) (hq0 : qs0.length ≤ 1000) (qs1 : List Int) (hq1 : qs1.length ≤ 1000) (r2 : Bool) 
    (hS : ∀ s0 s1 w, RowsR 2 unC w s0 us0 → RowsR 1 inC w s1 cs1 → Calls Try.prog 36 #[s0, .agg #[s1], .int .i64 a2] w fun e w' => (∃ t0 t1, e = .returned (.tuple #[.agg #[t0], .agg #[t1], .bool r2]) ∧ OwB w.heap.size w'.heap.size w' t0 t1 qs0 qs1) ∧ Below w.heap.size w w') 
    (hI : ∀ s0 s1 w, RowsR 2 unC w s0 us0 → RowsR 1 inC w s1 cs1 → Calls Try.prog 37 #[s0, .agg #[s1], .int .i64 a2] w fun e w' => (∃ t0 t1, e = .returned (.tuple #[.agg #[t0], .agg #[t1], .bool r2]) ∧ OwB w.heap.size w'.heap.size w' t0 t1 qs0 qs1) ∧ Below w.heap.size w w') :
    Calls Try.prog 10 #[sv0, .agg #[sv1], .int .i64 a2] w fun e w' => e = .returned (.bool true) ∧ Below w.heap.size w w' := by
  have HS := Lib.hid hS
  have HI := Lib.hid hI
  obtain ⟨ad0, cp0, rfl⟩ := h0.form
  have hm0 : us0.length ≤ 9223372036854775807 := by obtain ⟨_, _, _, ⟨m, _⟩, _⟩ := h0; exact m
  obtain ⟨ad1, cp1, rfl⟩ := h1.form
  have hm1 : cs1.length ≤ 9223372036854775807 := by obtain ⟨_, _, _, ⟨m, _⟩, _⟩ := h1; exact m
  have hqk : ¬ (1 + (qs0.length : Int) + (qs1.length : Int) < 0) := by omega
  have hqk' : ((1 + (qs0.length : Int) + (qs1.length : Int)) != (1 + (qs0.length : Int) + (qs1.length : Int))) = false := by simp
  have HB0 : Hid (Below w.heap.size w w) := Lib.hid (Below.refl _ _)
  have HRf00 := Lib.hid (h0)
  have HRf10 := Lib.hid (h1)
  have HSZ0 := Lib.hid hs0
  clear hS hI h0 h1 hs0
  have hr2 : (r2 != r2) = false := by simp
  go_enter Try.func10, Try.ntmps10
  go_wp2_with fail
  have hb : Below w.heap.size w (w.alloc (.cells #[.slice ad1 cs1.length cp1] 31)) := (Below.refl _ _).alloc (Nat.le_refl _) _
  have hk : (w.alloc (.cells #[.slice ad1 cs1.length cp1] 31)).heap[w.heap.size]? = some (.cells #[.slice ad1 cs1.length cp1] 31 (0, 0)) := alloc_at rfl
  have hz : (w.alloc (.cells #[.slice ad1 cs1.length cp1] 31)).heap.size = w.heap.size + 1 := by simp
  generalize w.alloc (.cells #[.slice ad1 cs1.length cp1] 31) = w1 at hb hk hz ⊢
  have HB1 : Hid (Below w.heap.size w w1) := Lib.hid (HB0.out.trans (hb.mono HB0.out.size))
  have HZ1 : Hid (w.heap.size ≤ w1.heap.size) := Lib.hid hb.size
  have HRf01 := Lib.hid (HRf00.out.below HB1.out (Nat.le_refl _))
  have HRf11 := Lib.hid (HRf10.out.below HB1.out (Nat.le_refl _))
  have HKa11 := Lib.hid hk
  replace HZ1 : Hid (w.heap.size < w1.heap.size) := Lib.hid (by omega)
  have HE1 := Lib.hid hz
  clear hb hk hz
  refine (szUnitS_any _ us0 1048576 _ HRf01.out HSZ0.out (by omega) (by omega)).mono ?_
  rintro e w2 ⟨⟨l0, rfl, hl0, hk0⟩, hb⟩
  have HB2 : Hid (Below w.heap.size w w2) := Lib.hid (HB1.out.trans (hb.mono HB1.out.size))
  have HZ2 : Hid (w1.heap.size ≤ w2.heap.size) := Lib.hid hb.size
  have HRf02 := Lib.hid (HRf00.out.below HB2.out (Nat.le_refl _))
  have HRf12 := Lib.hid (HRf10.out.below HB2.out (Nat.le_refl _))
  have HKa12 := Lib.hid ((hb.block _ (lt_of_block HKa11.out)).trans HKa11.out)
  clear hb
  by_cases hr : l0 < 0
  · clear hk0
    have lta1 := lt_of_block HKa12.out
    obtain ⟨ca10, fa10⟩ := cell1 HKa12.out
    go_wp2_with fail
    go_ret
    exact ⟨rfl, HB2.out⟩
  have hn0 : us0.length ≤ 1048576 := by have := hk0 (by omega); omega
  clear hk0
  have lta1 := lt_of_block HKa12.out
  obtain ⟨ca10, fa10⟩ := cell1 HKa12.out
  go_wp2_with fail
  refine (szAmount_any _ cs1 l0 _ HRf12.out (by omega) (by omega)).mono ?_
  rintro e w3 ⟨⟨l1, rfl, hl1, hk1⟩, hb⟩
  have HB3 : Hid (Below w.heap.size w w3) := Lib.hid (HB2.out.trans (hb.mono HB2.out.size))
  have HZ3 : Hid (w2.heap.size ≤ w3.heap.size) := Lib.hid hb.size
  have HRf03 := Lib.hid (HRf00.out.below HB3.out (Nat.le_refl _))
  have HRf13 := Lib.hid (HRf10.out.below HB3.out (Nat.le_refl _))
  have HKa13 := Lib.hid ((hb.block _ (lt_of_block HKa12.out)).trans HKa12.out)
  clear hb
  by_cases hr : l1 < 0
  · clear hk1
    clear ca10 fa10 lta1
    have lta1 := lt_of_block HKa13.out
    obtain ⟨ca10, fa10⟩ := cell1 HKa13.out
    go_wp2_with fail
    go_ret
    exact ⟨rfl, HB3.out⟩
  have hn1 : cs1.length ≤ 1048576 := by have := hk1 (by omega); omega
  clear hk1
  clear ca10 fa10 lta1
  have lta1 := lt_of_block HKa13.out
  obtain ⟨ca10, fa10⟩ := cell1 HKa13.out
  go_wp2_with fail
  clear ca10 fa10 lta1
  have lta1 := lt_of_block HKa13.out
  obtain ⟨ca10, fa10⟩ := cell1 HKa13.out
  have hlaw1 : w.heap.size < w3.heap.size := lta1
  have HBWw : Hid (Below w.heap.size w w3) := Lib.hid HB3.out
  have HKAw1 := Lib.hid HKa13.out
  have HRAw0 := Lib.hid HRf03.out
  have HRAw1 := Lib.hid HRf13.out
  obtain ⟨Ww, hWw⟩ : ∃ W, W = w3.heap.size := ⟨_, rfl⟩
  have HWw := Lib.hid hWw
  clear hWw
  go_cut [8, 9, 10] from 32 (fun z0 z1 z2 wc => ∃ (b0 : Nat) (pa0 : Option Addr) (ka0 : Nat) (b1 : Nat) (pa1 : Option Addr) (ka1 : Nat), z0 = .pointer (some ⟨b0, 0, none⟩) ∧ z1 = .pointer (some ⟨b1, 0, none⟩) ∧ z2 = .bool r2 ∧ wc.heap[b0]? = some (.cells #[.slice pa0 qs0.length ka0] 34 (0, 0)) ∧ wc.heap[b1]? = some (.cells #[.slice pa1 qs1.length ka1] 34 (0, 0)) ∧ RowsR 1 inC wc (.slice pa0 qs0.length ka0) qs0 ∧ RowsR 1 inC wc (.slice pa1 qs1.length ka1) qs1 ∧ Below w3.heap.size w3 wc)
  case first =>
    apply cutG11_nnononononw (R := fun d0 d1 pc0 kc0 pc1 kc1 pr0 kr0 pr1 kr1 wv => Below w3.heap.size w3 wv ∧ (w3.heap.size ≤ d0 ∧ wv.heap[d0]? = some (.cells #[.slice none 0 0] 34 (0, 0))) ∧ (w3.heap.size ≤ d1 ∧ wv.heap[d1]? = some (.cells #[.slice none 0 0] 34 (0, 0))) ∧ d0 ≠ d1 ∧ True ∧ True ∧ (∃ lo hi, OwB lo hi wv (.slice pr0 qs0.length kr0) (.slice pr1 qs1.length kr1) qs0 qs1 ∧ lo ≤ hi ∧ hi ≤ wv.heap.size ∧ (d0 < lo ∨ hi ≤ d0) ∧ (d1 < lo ∨ hi ≤ d1)))
    case first =>
     intro hn3_01
     apply cutG7_nnononw (R := fun d0 d1 pc0 kc0 pc1 kc1 wv => Below w3.heap.size w3 wv ∧ (w3.heap.size ≤ d0 ∧ wv.heap[d0]? = some (.cells #[.slice none 0 0] 34 (0, 0))) ∧ (w3.heap.size ≤ d1 ∧ wv.heap[d1]? = some (.cells #[.slice none 0 0] 34 (0, 0))) ∧ d0 ≠ d1 ∧ RowsR 2 unC wv (.slice pc0 us0.length kc0) us0 ∧ RowsR 1 inC wv (.slice pc1 cs1.length kc1) cs1)
     case first =>
      intro hn2_01
      apply cutG10_nononononw (R := fun d0 pc0 kc0 pc1 kc1 pr0 kr0 pr1 kr1 wv => Below w3.heap.size w3 wv ∧ (w3.heap.size ≤ d0 ∧ wv.heap[d0]? = some (.cells #[.slice none 0 0] 34 (0, 0))) ∧ True ∧ True ∧ (∃ lo hi, OwB lo hi wv (.slice pr0 qs0.length kr0) (.slice pr1 qs1.length kr1) qs0 qs1 ∧ lo ≤ hi ∧ hi ≤ wv.heap.size ∧ (d0 < lo ∨ hi ≤ d0)))
      case first =>
       intro hn3_0
       apply cutG10_nononononw (R := fun d1 pc0 kc0 pc1 kc1 pr0 kr0 pr1 kr1 wv => Below w3.heap.size w3 wv ∧ (w3.heap.size ≤ d1 ∧ wv.heap[d1]? = some (.cells #[.slice none 0 0] 34 (0, 0))) ∧ True ∧ True ∧ (∃ lo hi, OwB lo hi wv (.slice pr0 qs0.length kr0) (.slice pr1 qs1.length kr1) qs0 qs1 ∧ lo ≤ hi ∧ hi ≤ wv.heap.size ∧ (d1 < lo ∨ hi ≤ d1)))
       case first =>
        intro hn3_1
        apply cutG5_nnonw (R := fun d0 d1 pc0 kc0 wv => Below w3.heap.size w3 wv ∧ (w3.heap.size ≤ d0 ∧ wv.heap[d0]? = some (.cells #[.slice none 0 0] 34 (0, 0))) ∧ (w3.heap.size ≤ d1 ∧ wv.heap[d1]? = some (.cells #[.slice none 0 0] 34 (0, 0))) ∧ d0 ≠ d1 ∧ RowsR 2 unC wv (.slice pc0 us0.length kc0) us0)
        case first =>
         intro hn1_01
         apply cutG6_nononw (R := fun d0 pc0 kc0 pc1 kc1 wv => Below w3.heap.size w3 wv ∧ (w3.heap.size ≤ d0 ∧ wv.heap[d0]? = some (.cells #[.slice none 0 0] 34 (0, 0))) ∧ RowsR 2 unC wv (.slice pc0 us0.length kc0) us0 ∧ RowsR 1 inC wv (.slice pc1 cs1.length kc1) cs1)
         case first =>
          intro hn2_0
          apply cutG6_nononw (R := fun d1 pc0 kc0 pc1 kc1 wv => Below w3.heap.size w3 wv ∧ (w3.heap.size ≤ d1 ∧ wv.heap[d1]? = some (.cells #[.slice none 0 0] 34 (0, 0))) ∧ RowsR 2 unC wv (.slice pc0 us0.length kc0) us0 ∧ RowsR 1 inC wv (.slice pc1 cs1.length kc1) cs1)
          case first =>
           intro hn2_1
           apply cutG9_ononononw (R := fun pc0 kc0 pc1 kc1 pr0 kr0 pr1 kr1 wv => Below w3.heap.size w3 wv ∧ True ∧ True ∧ (∃ lo hi, OwB lo hi wv (.slice pr0 qs0.length kr0) (.slice pr1 qs1.length kr1) qs0 qs1 ∧ lo ≤ hi ∧ hi ≤ wv.heap.size))
           case first =>
            intro hn3_
            apply cutG3_nnw (R := fun d0 d1 wv => Below w3.heap.size w3 wv ∧ (w3.heap.size ≤ d0 ∧ wv.heap[d0]? = some (.cells #[.slice none 0 0] 34 (0, 0))) ∧ (w3.heap.size ≤ d1 ∧ wv.heap[d1]? = some (.cells #[.slice none 0 0] 34 (0, 0))) ∧ d0 ≠ d1)
            case first =>
             intro hn0_01
             apply cutG4_nonw (R := fun d0 pc0 kc0 wv => Below w3.heap.size w3 wv ∧ (w3.heap.size ≤ d0 ∧ wv.heap[d0]? = some (.cells #[.slice none 0 0] 34 (0, 0))) ∧ RowsR 2 unC wv (.slice pc0 us0.length kc0) us0)
             case first =>
              intro hn1_0
              apply cutG4_nonw (R := fun d1 pc0 kc0 wv => Below w3.heap.size w3 wv ∧ (w3.heap.size ≤ d1 ∧ wv.heap[d1]? = some (.cells #[.slice none 0 0] 34 (0, 0))) ∧ RowsR 2 unC wv (.slice pc0 us0.length kc0) us0)
              case first =>
               intro hn1_1
               apply cutG5_ononw (R := fun pc0 kc0 pc1 kc1 wv => Below w3.heap.size w3 wv ∧ RowsR 2 unC wv (.slice pc0 us0.length kc0) us0 ∧ RowsR 1 inC wv (.slice pc1 cs1.length kc1) cs1)
               case first =>
                intro hn2_
                apply cutG2_nw (R := fun d0 wv => Below w3.heap.size w3 wv ∧ (w3.heap.size ≤ d0 ∧ wv.heap[d0]? = some (.cells #[.slice none 0 0] 34 (0, 0))))
                case first =>
                 intro hn0_0
                 apply cutG2_nw (R := fun d1 wv => Below w3.heap.size w3 wv ∧ (w3.heap.size ≤ d1 ∧ wv.heap[d1]? = some (.cells #[.slice none 0 0] 34 (0, 0))))
                 case first =>
                  intro hn0_1
                  apply cutG3_onw (R := fun pc0 kc0 wv => Below w3.heap.size w3 wv ∧ RowsR 2 unC wv (.slice pc0 us0.length kc0) us0)
                  case first =>
                   intro hn1_
                   refine wp_region_held_drew (S := (fun w' => w'.cell? ⟨w.heap.size, 0, none⟩ = some (.slice ad1 cs1.length cp1))) (by kernel_rfl) (ca10) (fun hHeld => ?_)
                   have hl : Below w3.heap.size w3 w3.drew := (Below.refl _ _).drew
                   generalize w3.drew = wv at hl hHeld ⊢
                   refine take1 (i := 0) (v := ?v1) (some 33) rfl rfl (by kernel_rfl) (by kernel_rfl) (by kernel_rfl) (fun _ _ _ h => h) (Or.inl ⟨by rfl, ?y1⟩) (by assumption) ?r1
                   case y1 => (intro w hSw; (try dsimp only at hSw); go_simp; (first | done | with_reducible rfl))
                   try simp only [Act.put, List.setIfInBounds_toArray, List.set_cons_zero, List.set_cons_succ]
                   refine take1 (i := 2) (v := ?v2) (some 35) rfl rfl (by kernel_rfl) (by kernel_rfl) (by kernel_rfl) (fun _ _ _ h => h) (Or.inl ⟨by rfl, ?y2⟩) (by assumption) ?r2
                   case y2 => (intro w hSw; (try dsimp only at hSw); go_simp; (first | done | with_reducible rfl))
                   try simp only [Act.put, List.setIfInBounds_toArray, List.set_cons_zero, List.set_cons_succ]
                   refine take1 (i := 4) (v := ?v3) (some 37) rfl rfl (by kernel_rfl) (by kernel_rfl) (by kernel_rfl) (fun _ _ _ h => h) (Or.inl ⟨by rfl, ?y3⟩) (by assumption) ?r3
                   case y3 => (intro w hSw; (try dsimp only at hSw); go_simp; (first | done | with_reducible rfl))
                   try simp only [Act.put, List.setIfInBounds_toArray, List.set_cons_zero, List.set_cons_succ]
                   refine wpAnyH_ready (rs := [1, 10, 11]) (by kernel_rfl) (by simp) ?_
                   refine AllReadyH.cons rfl (fun K hK => ?_) (AllReadyH.cons rfl (fun K hK => ?_) (AllReadyH.cons rfl (fun K hK => ?_) AllReadyH.nil))
                   · go_simp
                     go_at_call 15
                     refine (toUnitS_any _ us0 _ (HRAw0.out.below hl (Nat.le_refl _)) hn0).mono ?_
                     rintro e w2 ⟨⟨s7, rfl, ho⟩, hb⟩
                     obtain ⟨pc0, kc0, rfl⟩ := own_form ho
                     have hc0 := RowsR.of_own unC_len ho
                     clear ho
                     have hl2 := hl.trans (hb.mono hl.size)
                     try go_simp
                     refine hK.out _ _ ((cell1 ((hl2.block _ hlaw1).trans HKAw1.out)).1) (fun hHeld => ?_)
                     clear hK K
                     try simp only [Act.put, List.setIfInBounds_toArray, List.set_cons_zero, List.set_cons_succ]
                     exact hn1_ pc0 kc0 w2 ⟨hl2, hc0⟩
                   · go_simp
                     have hb : Below wv.heap.size wv (wv.alloc (.cells #[.slice none 0 0] 34)) := (Below.refl _ _).alloc (Nat.le_refl _) _
                     have hd0 : (wv.alloc (.cells #[.slice none 0 0] 34)).heap[wv.heap.size]? = some (.cells #[.slice none 0 0] 34 (0, 0)) := alloc_at rfl
                     have hw0 : w3.heap.size ≤ wv.heap.size := hl.size
                     generalize wv.alloc (.cells #[.slice none 0 0] 34) = w2 at hb hd0 ⊢
                     have hl2 := hl.trans (hb.mono hl.size)
                     generalize wv.heap.size = d0 at hd0 hw0 ⊢
                     clear hb hl
                     refine hK.out _ _ ((cell1 ((hl2.block _ hlaw1).trans HKAw1.out)).1) (fun hHeld => ?_)
                     clear hK K
                     try simp only [Act.put, List.setIfInBounds_toArray, List.set_cons_zero, List.set_cons_succ]
                     exact hn0_0 d0 w2 ⟨hl2, ⟨hw0, hd0⟩⟩
                   · go_simp
                     have hb : Below wv.heap.size wv (wv.alloc (.cells #[.slice none 0 0] 34)) := (Below.refl _ _).alloc (Nat.le_refl _) _
                     have hd1 : (wv.alloc (.cells #[.slice none 0 0] 34)).heap[wv.heap.size]? = some (.cells #[.slice none 0 0] 34 (0, 0)) := alloc_at rfl
                     have hw1 : w3.heap.size ≤ wv.heap.size := hl.size
                     generalize wv.alloc (.cells #[.slice none 0 0] 34) = w2 at hb hd1 ⊢
                     have hl2 := hl.trans (hb.mono hl.size)
                     generalize wv.heap.size = d1 at hd1 hw1 ⊢
                     clear hb hl
                     refine hK.out _ _ ((cell1 ((hl2.block _ hlaw1).trans HKAw1.out)).1) (fun hHeld => ?_)
                     clear hK K
                     try simp only [Act.put, List.setIfInBounds_toArray, List.set_cons_zero, List.set_cons_succ]
                     exact hn0_1 d1 w2 ⟨hl2, ⟨hw1, hd1⟩⟩
                  case rest =>
                   rintro pc0 kc0 wv ⟨hl, hc0⟩
                   have hHeld := (cell1 ((hl.block _ hlaw1).trans HKAw1.out)).1
                   refine wpAnyH_ready (rs := [3, 10, 11]) (by kernel_rfl) (by simp) ?_
                   refine AllReadyH.cons rfl (fun K hK => ?_) (AllReadyH.cons rfl (fun K hK => ?_) (AllReadyH.cons rfl (fun K hK => ?_) AllReadyH.nil))
                   · go_simp
                     go_at_call 20
                     refine (toAmount_any _ cs1 _ (HRAw1.out.below hl (Nat.le_refl _)) hn1).mono ?_
                     rintro e w2 ⟨⟨s7, rfl, ho⟩, hb⟩
                     obtain ⟨pc1, kc1, rfl⟩ := ho.form
                     have hc1 := ho.reads
                     clear ho
                     have hl2 := hl.trans (hb.mono hl.size)
                     replace hc0 := hc0.below hb (Nat.le_refl _)
                     try go_simp
                     refine hK.out _ _ ((cell1 ((hl2.block _ hlaw1).trans HKAw1.out)).1) (fun hHeld => ?_)
                     clear hK K
                     try simp only [Act.put, List.setIfInBounds_toArray, List.set_cons_zero, List.set_cons_succ]
                     exact hn2_ pc0 kc0 pc1 kc1 w2 ⟨hl2, hc0, hc1⟩
                   · go_simp
                     have hb : Below wv.heap.size wv (wv.alloc (.cells #[.slice none 0 0] 34)) := (Below.refl _ _).alloc (Nat.le_refl _) _
                     have hd0 : (wv.alloc (.cells #[.slice none 0 0] 34)).heap[wv.heap.size]? = some (.cells #[.slice none 0 0] 34 (0, 0)) := alloc_at rfl
                     have hw0 : w3.heap.size ≤ wv.heap.size := hl.size
                     generalize wv.alloc (.cells #[.slice none 0 0] 34) = w2 at hb hd0 ⊢
                     have hl2 := hl.trans (hb.mono hl.size)
                     replace hc0 := hc0.below hb (Nat.le_refl _)
                     generalize wv.heap.size = d0 at hd0 hw0 ⊢
                     clear hb hl
                     refine hK.out _ _ ((cell1 ((hl2.block _ hlaw1).trans HKAw1.out)).1) (fun hHeld => ?_)
                     clear hK K
                     try simp only [Act.put, List.setIfInBounds_toArray, List.set_cons_zero, List.set_cons_succ]
                     exact hn1_0 d0 pc0 kc0 w2 ⟨hl2, ⟨hw0, hd0⟩, hc0⟩
                   · go_simp
                     have hb : Below wv.heap.size wv (wv.alloc (.cells #[.slice none 0 0] 34)) := (Below.refl _ _).alloc (Nat.le_refl _) _
                     have hd1 : (wv.alloc (.cells #[.slice none 0 0] 34)).heap[wv.heap.size]? = some (.cells #[.slice none 0 0] 34 (0, 0)) := alloc_at rfl
                     have hw1 : w3.heap.size ≤ wv.heap.size := hl.size
                     generalize wv.alloc (.cells #[.slice none 0 0] 34) = w2 at hb hd1 ⊢
                     have hl2 := hl.trans (hb.mono hl.size)
                     replace hc0 := hc0.below hb (Nat.le_refl _)
                     generalize wv.heap.size = d1 at hd1 hw1 ⊢
                     clear hb hl
                     refine hK.out _ _ ((cell1 ((hl2.block _ hlaw1).trans HKAw1.out)).1) (fun hHeld => ?_)
                     clear hK K
                     try simp only [Act.put, List.setIfInBounds_toArray, List.set_cons_zero, List.set_cons_succ]
                     exact hn1_1 d1 pc0 kc0 w2 ⟨hl2, ⟨hw1, hd1⟩, hc0⟩
                 case rest =>
                  rintro d1 wv ⟨hl, ⟨hw1, hd1⟩⟩
                  have hHeld := (cell1 ((hl.block _ hlaw1).trans HKAw1.out)).1
                  refine wpAnyH_ready (rs := [1, 10]) (by kernel_rfl) (by simp) ?_
                  refine AllReadyH.cons rfl (fun K hK => ?_) (AllReadyH.cons rfl (fun K hK => ?_) AllReadyH.nil)
                  · go_simp
                    go_at_call 15
                    refine (toUnitS_any _ us0 _ (HRAw0.out.below hl (Nat.le_refl _)) hn0).mono ?_
                    rintro e w2 ⟨⟨s7, rfl, ho⟩, hb⟩
                    obtain ⟨pc0, kc0, rfl⟩ := own_form ho
                    have hc0 := RowsR.of_own unC_len ho
                    clear ho
                    have hl2 := hl.trans (hb.mono hl.size)
                    have hb1 := lt_of_block hd1
                    replace hd1 := (hb.block _ hb1).trans hd1
                    try go_simp
                    refine hK.out _ _ ((cell1 ((hl2.block _ hlaw1).trans HKAw1.out)).1) (fun hHeld => ?_)
                    clear hK K
                    try simp only [Act.put, List.setIfInBounds_toArray, List.set_cons_zero, List.set_cons_succ]
                    exact hn1_1 d1 pc0 kc0 w2 ⟨hl2, ⟨hw1, hd1⟩, hc0⟩
                  · go_simp
                    have hb : Below wv.heap.size wv (wv.alloc (.cells #[.slice none 0 0] 34)) := (Below.refl _ _).alloc (Nat.le_refl _) _
                    have hd0 : (wv.alloc (.cells #[.slice none 0 0] 34)).heap[wv.heap.size]? = some (.cells #[.slice none 0 0] 34 (0, 0)) := alloc_at rfl
                    have hw0 : w3.heap.size ≤ wv.heap.size := hl.size
                    have hne : d1 < wv.heap.size := lt_of_block hd1
                    generalize wv.alloc (.cells #[.slice none 0 0] 34) = w2 at hb hd0 ⊢
                    have hl2 := hl.trans (hb.mono hl.size)
                    replace hd1 := (hb.block _ (lt_of_block hd1)).trans hd1
                    generalize wv.heap.size = d0 at hd0 hw0 hne ⊢
                    replace hne : d0 ≠ d1 := by omega
                    clear hb hl
                    refine hK.out _ _ ((cell1 ((hl2.block _ hlaw1).trans HKAw1.out)).1) (fun hHeld => ?_)
                    clear hK K
                    try simp only [Act.put, List.setIfInBounds_toArray, List.set_cons_zero, List.set_cons_succ]
                    exact hn0_01 d0 d1 w2 ⟨hl2, ⟨hw0, hd0⟩, ⟨hw1, hd1⟩, hne⟩
                case rest =>
                 rintro d0 wv ⟨hl, ⟨hw0, hd0⟩⟩
                 have hHeld := (cell1 ((hl.block _ hlaw1).trans HKAw1.out)).1
                 refine wpAnyH_ready (rs := [1, 11]) (by kernel_rfl) (by simp) ?_
                 refine AllReadyH.cons rfl (fun K hK => ?_) (AllReadyH.cons rfl (fun K hK => ?_) AllReadyH.nil)
                 · go_simp
                   go_at_call 15
                   refine (toUnitS_any _ us0 _ (HRAw0.out.below hl (Nat.le_refl _)) hn0).mono ?_
                   rintro e w2 ⟨⟨s7, rfl, ho⟩, hb⟩
                   obtain ⟨pc0, kc0, rfl⟩ := own_form ho
                   have hc0 := RowsR.of_own unC_len ho
                   clear ho
                   have hl2 := hl.trans (hb.mono hl.size)
                   have hb0 := lt_of_block hd0
                   replace hd0 := (hb.block _ hb0).trans hd0
                   try go_simp
                   refine hK.out _ _ ((cell1 ((hl2.block _ hlaw1).trans HKAw1.out)).1) (fun hHeld => ?_)
                   clear hK K
                   try simp only [Act.put, List.setIfInBounds_toArray, List.set_cons_zero, List.set_cons_succ]
                   exact hn1_0 d0 pc0 kc0 w2 ⟨hl2, ⟨hw0, hd0⟩, hc0⟩
                 · go_simp
                   have hb : Below wv.heap.size wv (wv.alloc (.cells #[.slice none 0 0] 34)) := (Below.refl _ _).alloc (Nat.le_refl _) _
                   have hd1 : (wv.alloc (.cells #[.slice none 0 0] 34)).heap[wv.heap.size]? = some (.cells #[.slice none 0 0] 34 (0, 0)) := alloc_at rfl
                   have hw1 : w3.heap.size ≤ wv.heap.size := hl.size
                   have hne : d0 < wv.heap.size := lt_of_block hd0
                   generalize wv.alloc (.cells #[.slice none 0 0] 34) = w2 at hb hd1 ⊢
                   have hl2 := hl.trans (hb.mono hl.size)
                   replace hd0 := (hb.block _ (lt_of_block hd0)).trans hd0
                   generalize wv.heap.size = d1 at hd1 hw1 hne ⊢
                   replace hne : d0 ≠ d1 := by omega
                   clear hb hl
                   refine hK.out _ _ ((cell1 ((hl2.block _ hlaw1).trans HKAw1.out)).1) (fun hHeld => ?_)
                   clear hK K
                   try simp only [Act.put, List.setIfInBounds_toArray, List.set_cons_zero, List.set_cons_succ]
                   exact hn0_01 d0 d1 w2 ⟨hl2, ⟨hw0, hd0⟩, ⟨hw1, hd1⟩, hne⟩
               case rest =>
                rintro pc0 kc0 pc1 kc1 wv ⟨hl, hc0, hc1⟩
                have hHeld := (cell1 ((hl.block _ hlaw1).trans HKAw1.out)).1
                refine wpAnyH_ready (rs := [5, 10, 11]) (by kernel_rfl) (by simp) ?_
                refine AllReadyH.cons rfl (fun K hK => ?_) (AllReadyH.cons rfl (fun K hK => ?_) (AllReadyH.cons rfl (fun K hK => ?_) AllReadyH.nil))
                · go_simp
                  go_at_call 36
                  refine (HS.out _ _ _ hc0 hc1).mono ?_
                  rintro e w2 ⟨⟨t0, t1, rfl, ho⟩, hb⟩
                  obtain ⟨pr0, kr0, pr1, kr1, rfl, rfl⟩ := ho.form
                  have hl2 := hl.trans (hb.mono hl.size)
                  clear hc0
                  clear hc1
                  have hlh := hb.size
                  obtain ⟨lo, hlo⟩ : ∃ lo, lo = wv.heap.size := ⟨_, rfl⟩
                  rw [← hlo] at ho hlh
                  obtain ⟨hi, hhe⟩ : ∃ hi, hi = w2.heap.size := ⟨_, rfl⟩
                  rw [← hhe] at ho hlh
                  have hhi : hi ≤ w2.heap.size := by omega
                  try go_simp
                  refine hK.out _ _ ((cell1 ((hl2.block _ hlaw1).trans HKAw1.out)).1) (fun hHeld => ?_)
                  clear hK K
                  try simp only [Act.put, List.setIfInBounds_toArray, List.set_cons_zero, List.set_cons_succ]
                  refine take1 (i := 6) (v := ?v4) (some 32) rfl rfl (by kernel_rfl) (by kernel_rfl) (by kernel_rfl) (fun _ _ _ h => h) (Or.inl ⟨by rfl, ?y4⟩) (by assumption) ?r4
                  case y4 => (intro w hSw; (try dsimp only at hSw); go_simp; (first | done | with_reducible rfl))
                  try simp only [Act.put, List.setIfInBounds_toArray, List.set_cons_zero, List.set_cons_succ]
                  refine take1 (i := 7) (v := ?v5) (some 39) rfl rfl (by kernel_rfl) (by kernel_rfl) (by kernel_rfl) (fun _ _ _ h => h) (Or.inl ⟨by rfl, ?y5⟩) (by assumption) ?r5
                  case y5 => (intro w hSw; (try dsimp only at hSw); go_simp; (first | done | with_reducible rfl))
                  try simp only [Act.put, List.setIfInBounds_toArray, List.set_cons_zero, List.set_cons_succ]
                  refine take1 (i := 8) (v := ?v6) (some 40) rfl rfl (by kernel_rfl) (by kernel_rfl) (by kernel_rfl) (fun _ _ _ h => h) (Or.inl ⟨by rfl, ?y6⟩) (by assumption) ?r6
                  case y6 => (intro w hSw; (try dsimp only at hSw); go_simp; (first | done | with_reducible rfl))
                  try simp only [Act.put, List.setIfInBounds_toArray, List.set_cons_zero, List.set_cons_succ]
                  refine take1 (i := 9) (v := ?v7) (some 41) rfl rfl (by kernel_rfl) (by kernel_rfl) (by kernel_rfl) (fun _ _ _ h => h) (Or.inl ⟨by rfl, ?y7⟩) (by assumption) ?r7
                  case y7 => (intro w hSw; (try dsimp only at hSw); go_simp; (first | done | with_reducible rfl))
                  try simp only [Act.put, List.setIfInBounds_toArray, List.set_cons_zero, List.set_cons_succ]
                  exact hn3_ pc0 kc0 pc1 kc1 pr0 kr0 pr1 kr1 w2 ⟨hl2, trivial, trivial, ⟨lo, hi, ho, hlh, hhi⟩⟩
                · go_simp
                  have hb : Below wv.heap.size wv (wv.alloc (.cells #[.slice none 0 0] 34)) := (Below.refl _ _).alloc (Nat.le_refl _) _
                  have hd0 : (wv.alloc (.cells #[.slice none 0 0] 34)).heap[wv.heap.size]? = some (.cells #[.slice none 0 0] 34 (0, 0)) := alloc_at rfl
                  have hw0 : w3.heap.size ≤ wv.heap.size := hl.size
                  generalize wv.alloc (.cells #[.slice none 0 0] 34) = w2 at hb hd0 ⊢
                  have hl2 := hl.trans (hb.mono hl.size)
                  replace hc0 := hc0.below hb (Nat.le_refl _)
                  replace hc1 := hc1.below hb (Nat.le_refl _)
                  generalize wv.heap.size = d0 at hd0 hw0 ⊢
                  clear hb hl
                  refine hK.out _ _ ((cell1 ((hl2.block _ hlaw1).trans HKAw1.out)).1) (fun hHeld => ?_)
                  clear hK K
                  try simp only [Act.put, List.setIfInBounds_toArray, List.set_cons_zero, List.set_cons_succ]
                  exact hn2_0 d0 pc0 kc0 pc1 kc1 w2 ⟨hl2, ⟨hw0, hd0⟩, hc0, hc1⟩
                · go_simp
                  have hb : Below wv.heap.size wv (wv.alloc (.cells #[.slice none 0 0] 34)) := (Below.refl _ _).alloc (Nat.le_refl _) _
                  have hd1 : (wv.alloc (.cells #[.slice none 0 0] 34)).heap[wv.heap.size]? = some (.cells #[.slice none 0 0] 34 (0, 0)) := alloc_at rfl
                  have hw1 : w3.heap.size ≤ wv.heap.size := hl.size
                  generalize wv.alloc (.cells #[.slice none 0 0] 34) = w2 at hb hd1 ⊢
                  have hl2 := hl.trans (hb.mono hl.size)
                  replace hc0 := hc0.below hb (Nat.le_refl _)
                  replace hc1 := hc1.below hb (Nat.le_refl _)
                  generalize wv.heap.size = d1 at hd1 hw1 ⊢
                  clear hb hl
                  refine hK.out _ _ ((cell1 ((hl2.block _ hlaw1).trans HKAw1.out)).1) (fun hHeld => ?_)
                  clear hK K
                  try simp only [Act.put, List.setIfInBounds_toArray, List.set_cons_zero, List.set_cons_succ]
                  exact hn2_1 d1 pc0 kc0 pc1 kc1 w2 ⟨hl2, ⟨hw1, hd1⟩, hc0, hc1⟩
              case rest =>
               rintro d1 pc0 kc0 wv ⟨hl, ⟨hw1, hd1⟩, hc0⟩
               have hHeld := (cell1 ((hl.block _ hlaw1).trans HKAw1.out)).1
               refine wpAnyH_ready (rs := [3, 10]) (by kernel_rfl) (by simp) ?_
               refine AllReadyH.cons rfl (fun K hK => ?_) (AllReadyH.cons rfl (fun K hK => ?_) AllReadyH.nil)
               · go_simp
                 go_at_call 20
                 refine (toAmount_any _ cs1 _ (HRAw1.out.below hl (Nat.le_refl _)) hn1).mono ?_
                 rintro e w2 ⟨⟨s7, rfl, ho⟩, hb⟩
                 obtain ⟨pc1, kc1, rfl⟩ := ho.form
                 have hc1 := ho.reads
                 clear ho
                 have hl2 := hl.trans (hb.mono hl.size)
                 have hb1 := lt_of_block hd1
                 replace hd1 := (hb.block _ hb1).trans hd1
                 replace hc0 := hc0.below hb (Nat.le_refl _)
                 try go_simp
                 refine hK.out _ _ ((cell1 ((hl2.block _ hlaw1).trans HKAw1.out)).1) (fun hHeld => ?_)
                 clear hK K
                 try simp only [Act.put, List.setIfInBounds_toArray, List.set_cons_zero, List.set_cons_succ]
                 exact hn2_1 d1 pc0 kc0 pc1 kc1 w2 ⟨hl2, ⟨hw1, hd1⟩, hc0, hc1⟩
               · go_simp
                 have hb : Below wv.heap.size wv (wv.alloc (.cells #[.slice none 0 0] 34)) := (Below.refl _ _).alloc (Nat.le_refl _) _
                 have hd0 : (wv.alloc (.cells #[.slice none 0 0] 34)).heap[wv.heap.size]? = some (.cells #[.slice none 0 0] 34 (0, 0)) := alloc_at rfl
                 have hw0 : w3.heap.size ≤ wv.heap.size := hl.size
                 have hne : d1 < wv.heap.size := lt_of_block hd1
                 generalize wv.alloc (.cells #[.slice none 0 0] 34) = w2 at hb hd0 ⊢
                 have hl2 := hl.trans (hb.mono hl.size)
                 replace hd1 := (hb.block _ (lt_of_block hd1)).trans hd1
                 replace hc0 := hc0.below hb (Nat.le_refl _)
                 generalize wv.heap.size = d0 at hd0 hw0 hne ⊢
                 replace hne : d0 ≠ d1 := by omega
                 clear hb hl
                 refine hK.out _ _ ((cell1 ((hl2.block _ hlaw1).trans HKAw1.out)).1) (fun hHeld => ?_)
                 clear hK K
                 try simp only [Act.put, List.setIfInBounds_toArray, List.set_cons_zero, List.set_cons_succ]
                 exact hn1_01 d0 d1 pc0 kc0 w2 ⟨hl2, ⟨hw0, hd0⟩, ⟨hw1, hd1⟩, hne, hc0⟩
             case rest =>
              rintro d0 pc0 kc0 wv ⟨hl, ⟨hw0, hd0⟩, hc0⟩
              have hHeld := (cell1 ((hl.block _ hlaw1).trans HKAw1.out)).1
              refine wpAnyH_ready (rs := [3, 11]) (by kernel_rfl) (by simp) ?_
              refine AllReadyH.cons rfl (fun K hK => ?_) (AllReadyH.cons rfl (fun K hK => ?_) AllReadyH.nil)
              · go_simp
                go_at_call 20
                refine (toAmount_any _ cs1 _ (HRAw1.out.below hl (Nat.le_refl _)) hn1).mono ?_
                rintro e w2 ⟨⟨s7, rfl, ho⟩, hb⟩
                obtain ⟨pc1, kc1, rfl⟩ := ho.form
                have hc1 := ho.reads
                clear ho
                have hl2 := hl.trans (hb.mono hl.size)
                have hb0 := lt_of_block hd0
                replace hd0 := (hb.block _ hb0).trans hd0
                replace hc0 := hc0.below hb (Nat.le_refl _)
                try go_simp
                refine hK.out _ _ ((cell1 ((hl2.block _ hlaw1).trans HKAw1.out)).1) (fun hHeld => ?_)
                clear hK K
                try simp only [Act.put, List.setIfInBounds_toArray, List.set_cons_zero, List.set_cons_succ]
                exact hn2_0 d0 pc0 kc0 pc1 kc1 w2 ⟨hl2, ⟨hw0, hd0⟩, hc0, hc1⟩
              · go_simp
                have hb : Below wv.heap.size wv (wv.alloc (.cells #[.slice none 0 0] 34)) := (Below.refl _ _).alloc (Nat.le_refl _) _
                have hd1 : (wv.alloc (.cells #[.slice none 0 0] 34)).heap[wv.heap.size]? = some (.cells #[.slice none 0 0] 34 (0, 0)) := alloc_at rfl
                have hw1 : w3.heap.size ≤ wv.heap.size := hl.size
                have hne : d0 < wv.heap.size := lt_of_block hd0
                generalize wv.alloc (.cells #[.slice none 0 0] 34) = w2 at hb hd1 ⊢
                have hl2 := hl.trans (hb.mono hl.size)
                replace hd0 := (hb.block _ (lt_of_block hd0)).trans hd0
                replace hc0 := hc0.below hb (Nat.le_refl _)
                generalize wv.heap.size = d1 at hd1 hw1 hne ⊢
                replace hne : d0 ≠ d1 := by omega
                clear hb hl
                refine hK.out _ _ ((cell1 ((hl2.block _ hlaw1).trans HKAw1.out)).1) (fun hHeld => ?_)
                clear hK K
                try simp only [Act.put, List.setIfInBounds_toArray, List.set_cons_zero, List.set_cons_succ]
                exact hn1_01 d0 d1 pc0 kc0 w2 ⟨hl2, ⟨hw0, hd0⟩, ⟨hw1, hd1⟩, hne, hc0⟩
            case rest =>
             rintro d0 d1 wv ⟨hl, ⟨hw0, hd0⟩, ⟨hw1, hd1⟩, hne⟩
             have hHeld := (cell1 ((hl.block _ hlaw1).trans HKAw1.out)).1
             refine wpAnyH_ready (rs := [1]) (by kernel_rfl) (by simp) ?_
             refine AllReadyH.cons rfl (fun K hK => ?_) AllReadyH.nil
             go_simp
             go_at_call 15
             refine (toUnitS_any _ us0 _ (HRAw0.out.below hl (Nat.le_refl _)) hn0).mono ?_
             rintro e w2 ⟨⟨s7, rfl, ho⟩, hb⟩
             obtain ⟨pc0, kc0, rfl⟩ := own_form ho
             have hc0 := RowsR.of_own unC_len ho
             clear ho
             have hl2 := hl.trans (hb.mono hl.size)
             have hb0 := lt_of_block hd0
             replace hd0 := (hb.block _ hb0).trans hd0
             have hb1 := lt_of_block hd1
             replace hd1 := (hb.block _ hb1).trans hd1
             try go_simp
             refine hK.out _ _ ((cell1 ((hl2.block _ hlaw1).trans HKAw1.out)).1) (fun hHeld => ?_)
             clear hK K
             try simp only [Act.put, List.setIfInBounds_toArray, List.set_cons_zero, List.set_cons_succ]
             exact hn1_01 d0 d1 pc0 kc0 w2 ⟨hl2, ⟨hw0, hd0⟩, ⟨hw1, hd1⟩, hne, hc0⟩
           case rest =>
            rintro pc0 kc0 pc1 kc1 pr0 kr0 pr1 kr1 wv ⟨hl, hc0, hc1, ⟨lo, hi, ho, hlh, hhi⟩⟩
            have hHeld := (cell1 ((hl.block _ hlaw1).trans HKAw1.out)).1
            refine wpAnyH_ready (rs := [10, 11]) (by kernel_rfl) (by simp) ?_
            refine AllReadyH.cons rfl (fun K hK => ?_) (AllReadyH.cons rfl (fun K hK => ?_) AllReadyH.nil)
            · go_simp
              have hb : Below wv.heap.size wv (wv.alloc (.cells #[.slice none 0 0] 34)) := (Below.refl _ _).alloc (Nat.le_refl _) _
              have hd0 : (wv.alloc (.cells #[.slice none 0 0] 34)).heap[wv.heap.size]? = some (.cells #[.slice none 0 0] 34 (0, 0)) := alloc_at rfl
              have hw0 : w3.heap.size ≤ wv.heap.size := hl.size
              generalize wv.alloc (.cells #[.slice none 0 0] 34) = w2 at hb hd0 ⊢
              have hl2 := hl.trans (hb.mono hl.size)
              replace ho := ho.next hb
              have hj0 : wv.heap.size < lo ∨ hi ≤ wv.heap.size := .inr hhi
              replace hhi : hi ≤ w2.heap.size := Nat.le_trans hhi hb.size
              generalize wv.heap.size = d0 at hd0 hw0 hj0 ⊢
              clear hb hl
              refine hK.out _ _ ((cell1 ((hl2.block _ hlaw1).trans HKAw1.out)).1) (fun hHeld => ?_)
              clear hK K
              try simp only [Act.put, List.setIfInBounds_toArray, List.set_cons_zero, List.set_cons_succ]
              exact hn3_0 d0 pc0 kc0 pc1 kc1 pr0 kr0 pr1 kr1 w2 ⟨hl2, ⟨hw0, hd0⟩, trivial, trivial, ⟨lo, hi, ho, hlh, hhi, hj0⟩⟩
            · go_simp
              have hb : Below wv.heap.size wv (wv.alloc (.cells #[.slice none 0 0] 34)) := (Below.refl _ _).alloc (Nat.le_refl _) _
              have hd1 : (wv.alloc (.cells #[.slice none 0 0] 34)).heap[wv.heap.size]? = some (.cells #[.slice none 0 0] 34 (0, 0)) := alloc_at rfl
              have hw1 : w3.heap.size ≤ wv.heap.size := hl.size
              generalize wv.alloc (.cells #[.slice none 0 0] 34) = w2 at hb hd1 ⊢
              have hl2 := hl.trans (hb.mono hl.size)
              replace ho := ho.next hb
              have hj1 : wv.heap.size < lo ∨ hi ≤ wv.heap.size := .inr hhi
              replace hhi : hi ≤ w2.heap.size := Nat.le_trans hhi hb.size
              generalize wv.heap.size = d1 at hd1 hw1 hj1 ⊢
              clear hb hl
              refine hK.out _ _ ((cell1 ((hl2.block _ hlaw1).trans HKAw1.out)).1) (fun hHeld => ?_)
              clear hK K
              try simp only [Act.put, List.setIfInBounds_toArray, List.set_cons_zero, List.set_cons_succ]
              exact hn3_1 d1 pc0 kc0 pc1 kc1 pr0 kr0 pr1 kr1 w2 ⟨hl2, ⟨hw1, hd1⟩, trivial, trivial, ⟨lo, hi, ho, hlh, hhi, hj1⟩⟩
          case rest =>
           rintro d1 pc0 kc0 pc1 kc1 wv ⟨hl, ⟨hw1, hd1⟩, hc0, hc1⟩
           have hHeld := (cell1 ((hl.block _ hlaw1).trans HKAw1.out)).1
           refine wpAnyH_ready (rs := [5, 10]) (by kernel_rfl) (by simp) ?_
           refine AllReadyH.cons rfl (fun K hK => ?_) (AllReadyH.cons rfl (fun K hK => ?_) AllReadyH.nil)
           · go_simp
             go_at_call 36
             refine (HS.out _ _ _ hc0 hc1).mono ?_
             rintro e w2 ⟨⟨t0, t1, rfl, ho⟩, hb⟩
             obtain ⟨pr0, kr0, pr1, kr1, rfl, rfl⟩ := ho.form
             have hl2 := hl.trans (hb.mono hl.size)
             have hb1 := lt_of_block hd1
             replace hd1 := (hb.block _ hb1).trans hd1
             clear hc0
             clear hc1
             have hlh := hb.size
             obtain ⟨lo, hlo⟩ : ∃ lo, lo = wv.heap.size := ⟨_, rfl⟩
             rw [← hlo] at ho hlh
             obtain ⟨hi, hhe⟩ : ∃ hi, hi = w2.heap.size := ⟨_, rfl⟩
             rw [← hhe] at ho hlh
             have hhi : hi ≤ w2.heap.size := by omega
             have hj1 : d1 < lo ∨ hi ≤ d1 := .inl (by omega)
             try go_simp
             refine hK.out _ _ ((cell1 ((hl2.block _ hlaw1).trans HKAw1.out)).1) (fun hHeld => ?_)
             clear hK K
             try simp only [Act.put, List.setIfInBounds_toArray, List.set_cons_zero, List.set_cons_succ]
             refine take1 (i := 6) (v := ?v8) (some 32) rfl rfl (by kernel_rfl) (by kernel_rfl) (by kernel_rfl) (fun _ _ _ h => h) (Or.inl ⟨by rfl, ?y8⟩) (by assumption) ?r8
             case y8 => (intro w hSw; (try dsimp only at hSw); go_simp; (first | done | with_reducible rfl))
             try simp only [Act.put, List.setIfInBounds_toArray, List.set_cons_zero, List.set_cons_succ]
             refine take1 (i := 7) (v := ?v9) (some 39) rfl rfl (by kernel_rfl) (by kernel_rfl) (by kernel_rfl) (fun _ _ _ h => h) (Or.inl ⟨by rfl, ?y9⟩) (by assumption) ?r9
             case y9 => (intro w hSw; (try dsimp only at hSw); go_simp; (first | done | with_reducible rfl))
             try simp only [Act.put, List.setIfInBounds_toArray, List.set_cons_zero, List.set_cons_succ]
             refine take1 (i := 8) (v := ?v10) (some 40) rfl rfl (by kernel_rfl) (by kernel_rfl) (by kernel_rfl) (fun _ _ _ h => h) (Or.inl ⟨by rfl, ?y10⟩) (by assumption) ?r10
             case y10 => (intro w hSw; (try dsimp only at hSw); go_simp; (first | done | with_reducible rfl))
             try simp only [Act.put, List.setIfInBounds_toArray, List.set_cons_zero, List.set_cons_succ]
             refine take1 (i := 9) (v := ?v11) (some 41) rfl rfl (by kernel_rfl) (by kernel_rfl) (by kernel_rfl) (fun _ _ _ h => h) (Or.inl ⟨by rfl, ?y11⟩) (by assumption) ?r11
             case y11 => (intro w hSw; (try dsimp only at hSw); go_simp; (first | done | with_reducible rfl))
             try simp only [Act.put, List.setIfInBounds_toArray, List.set_cons_zero, List.set_cons_succ]
             exact hn3_1 d1 pc0 kc0 pc1 kc1 pr0 kr0 pr1 kr1 w2 ⟨hl2, ⟨hw1, hd1⟩, trivial, trivial, ⟨lo, hi, ho, hlh, hhi, hj1⟩⟩
           · go_simp
             have hb : Below wv.heap.size wv (wv.alloc (.cells #[.slice none 0 0] 34)) := (Below.refl _ _).alloc (Nat.le_refl _) _
             have hd0 : (wv.alloc (.cells #[.slice none 0 0] 34)).heap[wv.heap.size]? = some (.cells #[.slice none 0 0] 34 (0, 0)) := alloc_at rfl
             have hw0 : w3.heap.size ≤ wv.heap.size := hl.size
             have hne : d1 < wv.heap.size := lt_of_block hd1
             generalize wv.alloc (.cells #[.slice none 0 0] 34) = w2 at hb hd0 ⊢
             have hl2 := hl.trans (hb.mono hl.size)
             replace hd1 := (hb.block _ (lt_of_block hd1)).trans hd1
             replace hc0 := hc0.below hb (Nat.le_refl _)
             replace hc1 := hc1.below hb (Nat.le_refl _)
             generalize wv.heap.size = d0 at hd0 hw0 hne ⊢
             replace hne : d0 ≠ d1 := by omega
             clear hb hl
             refine hK.out _ _ ((cell1 ((hl2.block _ hlaw1).trans HKAw1.out)).1) (fun hHeld => ?_)
             clear hK K
             try simp only [Act.put, List.setIfInBounds_toArray, List.set_cons_zero, List.set_cons_succ]
             exact hn2_01 d0 d1 pc0 kc0 pc1 kc1 w2 ⟨hl2, ⟨hw0, hd0⟩, ⟨hw1, hd1⟩, hne, hc0, hc1⟩
         case rest =>
          rintro d0 pc0 kc0 pc1 kc1 wv ⟨hl, ⟨hw0, hd0⟩, hc0, hc1⟩
          have hHeld := (cell1 ((hl.block _ hlaw1).trans HKAw1.out)).1
          refine wpAnyH_ready (rs := [5, 11]) (by kernel_rfl) (by simp) ?_
          refine AllReadyH.cons rfl (fun K hK => ?_) (AllReadyH.cons rfl (fun K hK => ?_) AllReadyH.nil)
          · go_simp
            go_at_call 36
            refine (HS.out _ _ _ hc0 hc1).mono ?_
            rintro e w2 ⟨⟨t0, t1, rfl, ho⟩, hb⟩
            obtain ⟨pr0, kr0, pr1, kr1, rfl, rfl⟩ := ho.form
            have hl2 := hl.trans (hb.mono hl.size)
            have hb0 := lt_of_block hd0
            replace hd0 := (hb.block _ hb0).trans hd0
            clear hc0
            clear hc1
            have hlh := hb.size
            obtain ⟨lo, hlo⟩ : ∃ lo, lo = wv.heap.size := ⟨_, rfl⟩
            rw [← hlo] at ho hlh
            obtain ⟨hi, hhe⟩ : ∃ hi, hi = w2.heap.size := ⟨_, rfl⟩
            rw [← hhe] at ho hlh
            have hhi : hi ≤ w2.heap.size := by omega
            have hj0 : d0 < lo ∨ hi ≤ d0 := .inl (by omega)
            try go_simp
            refine hK.out _ _ ((cell1 ((hl2.block _ hlaw1).trans HKAw1.out)).1) (fun hHeld => ?_)
            clear hK K
            try simp only [Act.put, List.setIfInBounds_toArray, List.set_cons_zero, List.set_cons_succ]
            refine take1 (i := 6) (v := ?v12) (some 32) rfl rfl (by kernel_rfl) (by kernel_rfl) (by kernel_rfl) (fun _ _ _ h => h) (Or.inl ⟨by rfl, ?y12⟩) (by assumption) ?r12
            case y12 => (intro w hSw; (try dsimp only at hSw); go_simp; (first | done | with_reducible rfl))
            try simp only [Act.put, List.setIfInBounds_toArray, List.set_cons_zero, List.set_cons_succ]
            refine take1 (i := 7) (v := ?v13) (some 39) rfl rfl (by kernel_rfl) (by kernel_rfl) (by kernel_rfl) (fun _ _ _ h => h) (Or.inl ⟨by rfl, ?y13⟩) (by assumption) ?r13
            case y13 => (intro w hSw; (try dsimp only at hSw); go_simp; (first | done | with_reducible rfl))
            try simp only [Act.put, List.setIfInBounds_toArray, List.set_cons_zero, List.set_cons_succ]
            refine take1 (i := 8) (v := ?v14) (some 40) rfl rfl (by kernel_rfl) (by kernel_rfl) (by kernel_rfl) (fun _ _ _ h => h) (Or.inl ⟨by rfl, ?y14⟩) (by assumption) ?r14
            case y14 => (intro w hSw; (try dsimp only at hSw); go_simp; (first | done | with_reducible rfl))
            try simp only [Act.put, List.setIfInBounds_toArray, List.set_cons_zero, List.set_cons_succ]
            refine take1 (i := 9) (v := ?v15) (some 41) rfl rfl (by kernel_rfl) (by kernel_rfl) (by kernel_rfl) (fun _ _ _ h => h) (Or.inl ⟨by rfl, ?y15⟩) (by assumption) ?r15
            case y15 => (intro w hSw; (try dsimp only at hSw); go_simp; (first | done | with_reducible rfl))
            try simp only [Act.put, List.setIfInBounds_toArray, List.set_cons_zero, List.set_cons_succ]
            exact hn3_0 d0 pc0 kc0 pc1 kc1 pr0 kr0 pr1 kr1 w2 ⟨hl2, ⟨hw0, hd0⟩, trivial, trivial, ⟨lo, hi, ho, hlh, hhi, hj0⟩⟩
          · go_simp
            have hb : Below wv.heap.size wv (wv.alloc (.cells #[.slice none 0 0] 34)) := (Below.refl _ _).alloc (Nat.le_refl _) _
            have hd1 : (wv.alloc (.cells #[.slice none 0 0] 34)).heap[wv.heap.size]? = some (.cells #[.slice none 0 0] 34 (0, 0)) := alloc_at rfl
            have hw1 : w3.heap.size ≤ wv.heap.size := hl.size
            have hne : d0 < wv.heap.size := lt_of_block hd0
            generalize wv.alloc (.cells #[.slice none 0 0] 34) = w2 at hb hd1 ⊢
            have hl2 := hl.trans (hb.mono hl.size)
            replace hd0 := (hb.block _ (lt_of_block hd0)).trans hd0
            replace hc0 := hc0.below hb (Nat.le_refl _)
            replace hc1 := hc1.below hb (Nat.le_refl _)
            generalize wv.heap.size = d1 at hd1 hw1 hne ⊢
            replace hne : d0 ≠ d1 := by omega
            clear hb hl
            refine hK.out _ _ ((cell1 ((hl2.block _ hlaw1).trans HKAw1.out)).1) (fun hHeld => ?_)
            clear hK K
            try simp only [Act.put, List.setIfInBounds_toArray, List.set_cons_zero, List.set_cons_succ]
            exact hn2_01 d0 d1 pc0 kc0 pc1 kc1 w2 ⟨hl2, ⟨hw0, hd0⟩, ⟨hw1, hd1⟩, hne, hc0, hc1⟩
        case rest =>
         rintro d0 d1 pc0 kc0 wv ⟨hl, ⟨hw0, hd0⟩, ⟨hw1, hd1⟩, hne, hc0⟩
         have hHeld := (cell1 ((hl.block _ hlaw1).trans HKAw1.out)).1
         refine wpAnyH_ready (rs := [3]) (by kernel_rfl) (by simp) ?_
         refine AllReadyH.cons rfl (fun K hK => ?_) AllReadyH.nil
         go_simp
         go_at_call 20
         refine (toAmount_any _ cs1 _ (HRAw1.out.below hl (Nat.le_refl _)) hn1).mono ?_
         rintro e w2 ⟨⟨s7, rfl, ho⟩, hb⟩
         obtain ⟨pc1, kc1, rfl⟩ := ho.form
         have hc1 := ho.reads
         clear ho
         have hl2 := hl.trans (hb.mono hl.size)
         have hb0 := lt_of_block hd0
         replace hd0 := (hb.block _ hb0).trans hd0
         have hb1 := lt_of_block hd1
         replace hd1 := (hb.block _ hb1).trans hd1
         replace hc0 := hc0.below hb (Nat.le_refl _)
         try go_simp
         refine hK.out _ _ ((cell1 ((hl2.block _ hlaw1).trans HKAw1.out)).1) (fun hHeld => ?_)
         clear hK K
         try simp only [Act.put, List.setIfInBounds_toArray, List.set_cons_zero, List.set_cons_succ]
         exact hn2_01 d0 d1 pc0 kc0 pc1 kc1 w2 ⟨hl2, ⟨hw0, hd0⟩, ⟨hw1, hd1⟩, hne, hc0, hc1⟩
       case rest =>
        rintro d1 pc0 kc0 pc1 kc1 pr0 kr0 pr1 kr1 wv ⟨hl, ⟨hw1, hd1⟩, hc0, hc1, ⟨lo, hi, ho, hlh, hhi, hj1⟩⟩
        have hHeld := (cell1 ((hl.block _ hlaw1).trans HKAw1.out)).1
        refine wpAnyH_ready (rs := [10]) (by kernel_rfl) (by simp) ?_
        refine AllReadyH.cons rfl (fun K hK => ?_) AllReadyH.nil
        go_simp
        have hb : Below wv.heap.size wv (wv.alloc (.cells #[.slice none 0 0] 34)) := (Below.refl _ _).alloc (Nat.le_refl _) _
        have hd0 : (wv.alloc (.cells #[.slice none 0 0] 34)).heap[wv.heap.size]? = some (.cells #[.slice none 0 0] 34 (0, 0)) := alloc_at rfl
        have hw0 : w3.heap.size ≤ wv.heap.size := hl.size
        have hne : d1 < wv.heap.size := lt_of_block hd1
        generalize wv.alloc (.cells #[.slice none 0 0] 34) = w2 at hb hd0 ⊢
        have hl2 := hl.trans (hb.mono hl.size)
        replace hd1 := (hb.block _ (lt_of_block hd1)).trans hd1
        replace ho := ho.next hb
        have hj0 : wv.heap.size < lo ∨ hi ≤ wv.heap.size := .inr hhi
        replace hhi : hi ≤ w2.heap.size := Nat.le_trans hhi hb.size
        generalize wv.heap.size = d0 at hd0 hw0 hne hj0 ⊢
        replace hne : d0 ≠ d1 := by omega
        clear hb hl
        refine hK.out _ _ ((cell1 ((hl2.block _ hlaw1).trans HKAw1.out)).1) (fun hHeld => ?_)
        clear hK K
        try simp only [Act.put, List.setIfInBounds_toArray, List.set_cons_zero, List.set_cons_succ]
        exact hn3_01 d0 d1 pc0 kc0 pc1 kc1 pr0 kr0 pr1 kr1 w2 ⟨hl2, ⟨hw0, hd0⟩, ⟨hw1, hd1⟩, hne, trivial, trivial, ⟨lo, hi, ho, hlh, hhi, hj0, hj1⟩⟩
      case rest =>
       rintro d0 pc0 kc0 pc1 kc1 pr0 kr0 pr1 kr1 wv ⟨hl, ⟨hw0, hd0⟩, hc0, hc1, ⟨lo, hi, ho, hlh, hhi, hj0⟩⟩
       have hHeld := (cell1 ((hl.block _ hlaw1).trans HKAw1.out)).1
       refine wpAnyH_ready (rs := [11]) (by kernel_rfl) (by simp) ?_
       refine AllReadyH.cons rfl (fun K hK => ?_) AllReadyH.nil
       go_simp
       have hb : Below wv.heap.size wv (wv.alloc (.cells #[.slice none 0 0] 34)) := (Below.refl _ _).alloc (Nat.le_refl _) _
       have hd1 : (wv.alloc (.cells #[.slice none 0 0] 34)).heap[wv.heap.size]? = some (.cells #[.slice none 0 0] 34 (0, 0)) := alloc_at rfl
       have hw1 : w3.heap.size ≤ wv.heap.size := hl.size
       have hne : d0 < wv.heap.size := lt_of_block hd0
       generalize wv.alloc (.cells #[.slice none 0 0] 34) = w2 at hb hd1 ⊢
       have hl2 := hl.trans (hb.mono hl.size)
       replace hd0 := (hb.block _ (lt_of_block hd0)).trans hd0
       replace ho := ho.next hb
       have hj1 : wv.heap.size < lo ∨ hi ≤ wv.heap.size := .inr hhi
       replace hhi : hi ≤ w2.heap.size := Nat.le_trans hhi hb.size
       generalize wv.heap.size = d1 at hd1 hw1 hne hj1 ⊢
       replace hne : d0 ≠ d1 := by omega
       clear hb hl
       refine hK.out _ _ ((cell1 ((hl2.block _ hlaw1).trans HKAw1.out)).1) (fun hHeld => ?_)
       clear hK K
       try simp only [Act.put, List.setIfInBounds_toArray, List.set_cons_zero, List.set_cons_succ]
       exact hn3_01 d0 d1 pc0 kc0 pc1 kc1 pr0 kr0 pr1 kr1 w2 ⟨hl2, ⟨hw0, hd0⟩, ⟨hw1, hd1⟩, hne, trivial, trivial, ⟨lo, hi, ho, hlh, hhi, hj0, hj1⟩⟩
     case rest =>
      rintro d0 d1 pc0 kc0 pc1 kc1 wv ⟨hl, ⟨hw0, hd0⟩, ⟨hw1, hd1⟩, hne, hc0, hc1⟩
      have hHeld := (cell1 ((hl.block _ hlaw1).trans HKAw1.out)).1
      refine wpAnyH_ready (rs := [5]) (by kernel_rfl) (by simp) ?_
      refine AllReadyH.cons rfl (fun K hK => ?_) AllReadyH.nil
      go_simp
      go_at_call 36
      refine (HS.out _ _ _ hc0 hc1).mono ?_
      rintro e w2 ⟨⟨t0, t1, rfl, ho⟩, hb⟩
      obtain ⟨pr0, kr0, pr1, kr1, rfl, rfl⟩ := ho.form
      have hl2 := hl.trans (hb.mono hl.size)
      have hb0 := lt_of_block hd0
      replace hd0 := (hb.block _ hb0).trans hd0
      have hb1 := lt_of_block hd1
      replace hd1 := (hb.block _ hb1).trans hd1
      clear hc0
      clear hc1
      have hlh := hb.size
      obtain ⟨lo, hlo⟩ : ∃ lo, lo = wv.heap.size := ⟨_, rfl⟩
      rw [← hlo] at ho hlh
      obtain ⟨hi, hhe⟩ : ∃ hi, hi = w2.heap.size := ⟨_, rfl⟩
      rw [← hhe] at ho hlh
      have hhi : hi ≤ w2.heap.size := by omega
      have hj0 : d0 < lo ∨ hi ≤ d0 := .inl (by omega)
      have hj1 : d1 < lo ∨ hi ≤ d1 := .inl (by omega)
      try go_simp
      refine hK.out _ _ ((cell1 ((hl2.block _ hlaw1).trans HKAw1.out)).1) (fun hHeld => ?_)
      clear hK K
      try simp only [Act.put, List.setIfInBounds_toArray, List.set_cons_zero, List.set_cons_succ]
      refine take1 (i := 6) (v := ?v16) (some 32) rfl rfl (by kernel_rfl) (by kernel_rfl) (by kernel_rfl) (fun _ _ _ h => h) (Or.inl ⟨by rfl, ?y16⟩) (by assumption) ?r16
      case y16 => (intro w hSw; (try dsimp only at hSw); go_simp; (first | done | with_reducible rfl))
      try simp only [Act.put, List.setIfInBounds_toArray, List.set_cons_zero, List.set_cons_succ]
      refine take1 (i := 7) (v := ?v17) (some 39) rfl rfl (by kernel_rfl) (by kernel_rfl) (by kernel_rfl) (fun _ _ _ h => h) (Or.inl ⟨by rfl, ?y17⟩) (by assumption) ?r17
      case y17 => (intro w hSw; (try dsimp only at hSw); go_simp; (first | done | with_reducible rfl))
      try simp only [Act.put, List.setIfInBounds_toArray, List.set_cons_zero, List.set_cons_succ]
      refine take1 (i := 8) (v := ?v18) (some 40) rfl rfl (by kernel_rfl) (by kernel_rfl) (by kernel_rfl) (fun _ _ _ h => h) (Or.inl ⟨by rfl, ?y18⟩) (by assumption) ?r18
      case y18 => (intro w hSw; (try dsimp only at hSw); go_simp; (first | done | with_reducible rfl))
      try simp only [Act.put, List.setIfInBounds_toArray, List.set_cons_zero, List.set_cons_succ]
      refine take1 (i := 9) (v := ?v19) (some 41) rfl rfl (by kernel_rfl) (by kernel_rfl) (by kernel_rfl) (fun _ _ _ h => h) (Or.inl ⟨by rfl, ?y19⟩) (by assumption) ?r19
      case y19 => (intro w hSw; (try dsimp only at hSw); go_simp; (first | done | with_reducible rfl))
      try simp only [Act.put, List.setIfInBounds_toArray, List.set_cons_zero, List.set_cons_succ]
      exact hn3_01 d0 d1 pc0 kc0 pc1 kc1 pr0 kr0 pr1 kr1 w2 ⟨hl2, ⟨hw0, hd0⟩, ⟨hw1, hd1⟩, hne, trivial, trivial, ⟨lo, hi, ho, hlh, hhi, hj0, hj1⟩⟩
    case rest =>
     rintro d0 d1 pc0 kc0 pc1 kc1 pr0 kr0 pr1 kr1 wv ⟨hl, ⟨hw0, hd0⟩, ⟨hw1, hd1⟩, hne, hc0, hc1, ⟨lo, hi, ho, hlh, hhi, hj0, hj1⟩⟩
     have hHeld := (cell1 ((hl.block _ hlaw1).trans HKAw1.out)).1
     obtain ⟨cd0, fd0⟩ := cell1 hd0
     obtain ⟨cd1, fd1⟩ := cell1 hd1
     have hlt0 := lt_of_block hd0
     have hlt1 := lt_of_block hd1
     refine wpAnyH_ready (rs := [12]) (by kernel_rfl) (by simp) ?_
     refine AllReadyH.cons rfl (fun K hK => ?_) AllReadyH.nil
     go_simp
     have hd0' := box1_set hd0 (.slice pr0 qs0.length kr0)
     have hd1' := (Below.heap_setCell wv ⟨d0, 0, none⟩ (.slice pr0 qs0.length kr0) d1 (by show d1 ≠ d0; omega)).trans hd1
     have hl' := hl.setCell (p := ⟨d0, 0, none⟩) hw0 (.slice pr0 qs0.length kr0)
     have ho' := ho.btw ((Btw.refl d0 (d0 + 1) wv).setCell (p := ⟨d0, 0, none⟩) (Nat.le_refl _) (Nat.lt_succ_self _) (.slice pr0 qs0.length kr0)) (by omega)
     clear hd0 hd1 cd0 fd0 cd1 fd1 hlt0 hlt1
     generalize wv.setCell ⟨d0, 0, none⟩ (.slice pr0 qs0.length kr0) = wv2 at hd0' hd1' hl' ho' ⊢
     obtain ⟨cd0, fd0⟩ := cell1 hd0'
     obtain ⟨cd1, fd1⟩ := cell1 hd1'
     have hlt0 := lt_of_block hd0'
     have hlt1 := lt_of_block hd1'
     refine hK.out _ _ ((cell1 ((hl'.block _ hlaw1).trans HKAw1.out)).1) (fun hHeld => ?_)
     clear hK K
     try simp only [Act.put]
     refine wpAnyH_ready (rs := [13]) (by kernel_rfl) (by simp) ?_
     refine AllReadyH.cons rfl (fun K hK => ?_) AllReadyH.nil
     go_simp
     have hd1'' := box1_set hd1' (.slice pr1 qs1.length kr1)
     have hd0'' := (Below.heap_setCell wv2 ⟨d1, 0, none⟩ (.slice pr1 qs1.length kr1) d0 (by show d0 ≠ d1; omega)).trans hd0'
     have hl'' := hl'.setCell (p := ⟨d1, 0, none⟩) hw1 (.slice pr1 qs1.length kr1)
     have ho'' := ho'.btw ((Btw.refl d1 (d1 + 1) wv2).setCell (p := ⟨d1, 0, none⟩) (Nat.le_refl _) (Nat.lt_succ_self _) (.slice pr1 qs1.length kr1)) (by omega)
     clear hd0' hd1' cd0 fd0 cd1 fd1 hlt0 hlt1
     generalize wv2.setCell ⟨d1, 0, none⟩ (.slice pr1 qs1.length kr1) = wv3 at hd0'' hd1'' hl'' ho'' ⊢
     refine hK.out _ _ ((cell1 ((hl''.block _ hlaw1).trans HKAw1.out)).1) (fun hHeld => ?_)
     clear hK K
     try simp only [Act.put]
     refine take1 (i := 14) (v := ?v20) (some 10) rfl rfl (by kernel_rfl) (by kernel_rfl) (by kernel_rfl) (fun _ _ _ h => h) (Or.inl ⟨by rfl, ?y20⟩) (by assumption) ?r20
     case y20 => (intro w hSw; (try dsimp only at hSw); go_simp; (first | done | with_reducible rfl))
     try simp only [Act.put, List.setIfInBounds_toArray, List.set_cons_zero, List.set_cons_succ]
     refine wpAnyH_done (by kernel_rfl) ?_ _
     go_wp2_with fail
     go_meet
     exact ⟨d0, pr0, kr0, d1, pr1, kr1, rfl, rfl, rfl, hd0'', hd1'', ho''.reads.1, ho''.reads.2, hl''⟩
  case rest =>
    obtain ⟨bw0, pw0, kw0, bw1, pw1, kw1, rfl, rfl, rfl, hkq0, hkq1, hrq0, hrq1, hb⟩ := hcut
    rename World => w4
    have HB4 : Hid (Below w.heap.size w w4) := Lib.hid (HB3.out.trans (hb.mono HB3.out.size))
    have HZ4 : Hid (w3.heap.size ≤ w4.heap.size) := Lib.hid hb.size
    have HRf04 := Lib.hid (HRf00.out.below HB4.out (Nat.le_refl _))
    have HRf14 := Lib.hid (HRf10.out.below HB4.out (Nat.le_refl _))
    have HKa14 := Lib.hid ((hb.block _ (lt_of_block HKa13.out)).trans HKa13.out)
    clear hb
    have hltw0 := lt_of_block hkq0
    have HKwb04 := Lib.hid (hkq0)
    have HRw04 := Lib.hid (hrq0)
    have HBs4_4 : Hid (Below w4.heap.size w4 w4) := Lib.hid (Below.refl _ _)
    have hltw1 := lt_of_block hkq1
    have HKwb14 := Lib.hid (hkq1)
    have HRw14 := Lib.hid (hrq1)
    clear hkq0 hrq0 hkq1 hrq1
    clear ca10 fa10 lta1
    have lta1 := lt_of_block HKa14.out
    obtain ⟨ca10, fa10⟩ := cell1 HKa14.out
    have ltwb0 := lt_of_block HKwb04.out
    obtain ⟨cwb00, fwb00⟩ := cell1 HKwb04.out
    have ltwb1 := lt_of_block HKwb14.out
    obtain ⟨cwb10, fwb10⟩ := cell1 HKwb14.out
    go_wp2_with fail
    refine (toUnitS_any _ us0 _ HRf04.out hn0).mono ?_
    rintro e w5 ⟨⟨sx0, rfl, ho⟩, hb⟩
    have HB5 : Hid (Below w.heap.size w w5) := Lib.hid (HB4.out.trans (hb.mono HB4.out.size))
    have HZ5 : Hid (w4.heap.size ≤ w5.heap.size) := Lib.hid hb.size
    have HRf05 := Lib.hid (HRf00.out.below HB5.out (Nat.le_refl _))
    have HRf15 := Lib.hid (HRf10.out.below HB5.out (Nat.le_refl _))
    have HKa15 := Lib.hid ((hb.block _ (lt_of_block HKa14.out)).trans HKa14.out)
    have HKwb05 := Lib.hid ((hb.block _ (lt_of_block HKwb04.out)).trans HKwb04.out)
    have HRw05 := Lib.hid (HRw04.out.below hb (Nat.le_refl _))
    have HKwb15 := Lib.hid ((hb.block _ (lt_of_block HKwb14.out)).trans HKwb14.out)
    have HRw15 := Lib.hid (HRw14.out.below hb (Nat.le_refl _))
    have HBs4_5 : Hid (Below w4.heap.size w4 w5) := Lib.hid (HBs4_4.out.trans (hb.mono HBs4_4.out.size))
    clear hb
    obtain ⟨px0, kx0, rfl⟩ := own_form ho
    have HOx05 := Lib.hid (Ow.mk' ho)
    clear ho
    clear ca10 fa10 lta1 cwb00 fwb00 ltwb0 cwb10 fwb10 ltwb1
    have lta1 := lt_of_block HKa15.out
    obtain ⟨ca10, fa10⟩ := cell1 HKa15.out
    have ltwb0 := lt_of_block HKwb05.out
    obtain ⟨cwb00, fwb00⟩ := cell1 HKwb05.out
    have ltwb1 := lt_of_block HKwb15.out
    obtain ⟨cwb10, fwb10⟩ := cell1 HKwb15.out
    go_wp2_with fail
    refine (toAmount_any _ cs1 _ HRf15.out hn1).mono ?_
    rintro e w6 ⟨⟨sx1, rfl, ho⟩, hb⟩
    have HB6 : Hid (Below w.heap.size w w6) := Lib.hid (HB5.out.trans (hb.mono HB5.out.size))
    have HZ6 : Hid (w5.heap.size ≤ w6.heap.size) := Lib.hid hb.size
    have HRf06 := Lib.hid (HRf00.out.below HB6.out (Nat.le_refl _))
    have HRf16 := Lib.hid (HRf10.out.below HB6.out (Nat.le_refl _))
    have HKa16 := Lib.hid ((hb.block _ (lt_of_block HKa15.out)).trans HKa15.out)
    have HKwb06 := Lib.hid ((hb.block _ (lt_of_block HKwb05.out)).trans HKwb05.out)
    have HRw06 := Lib.hid (HRw05.out.below hb (Nat.le_refl _))
    have HKwb16 := Lib.hid ((hb.block _ (lt_of_block HKwb15.out)).trans HKwb15.out)
    have HRw16 := Lib.hid (HRw15.out.below hb (Nat.le_refl _))
    have HOx06 := Lib.hid (HOx05.out.next hb)
    have HBs4_6 : Hid (Below w4.heap.size w4 w6) := Lib.hid (HBs4_5.out.trans (hb.mono HBs4_5.out.size))
    clear hb
    obtain ⟨px1, kx1, rfl⟩ := ho.form
    have HOx16 := Lib.hid (ho)
    clear ho
    clear ca10 fa10 lta1 cwb00 fwb00 ltwb0 cwb10 fwb10 ltwb1
    have lta1 := lt_of_block HKa16.out
    obtain ⟨ca10, fa10⟩ := cell1 HKa16.out
    have ltwb0 := lt_of_block HKwb06.out
    obtain ⟨cwb00, fwb00⟩ := cell1 HKwb06.out
    have ltwb1 := lt_of_block HKwb16.out
    obtain ⟨cwb10, fwb10⟩ := cell1 HKwb16.out
    go_wp2_with fail
    have hb : Below w6.heap.size w6 (w6.alloc (.cells #[.slice px1 cs1.length kx1] 34)) := (Below.refl _ _).alloc (Nat.le_refl _) _
    have hk : (w6.alloc (.cells #[.slice px1 cs1.length kx1] 34)).heap[w6.heap.size]? = some (.cells #[.slice px1 cs1.length kx1] 34 (0, 0)) := alloc_at rfl
    have hz : (w6.alloc (.cells #[.slice px1 cs1.length kx1] 34)).heap.size = w6.heap.size + 1 := by simp
    generalize w6.alloc (.cells #[.slice px1 cs1.length kx1] 34) = w7 at hb hk hz ⊢
    have HB7 : Hid (Below w.heap.size w w7) := Lib.hid (HB6.out.trans (hb.mono HB6.out.size))
    have HZ7 : Hid (w6.heap.size ≤ w7.heap.size) := Lib.hid hb.size
    have HRf07 := Lib.hid (HRf00.out.below HB7.out (Nat.le_refl _))
    have HRf17 := Lib.hid (HRf10.out.below HB7.out (Nat.le_refl _))
    have HKa17 := Lib.hid ((hb.block _ (lt_of_block HKa16.out)).trans HKa16.out)
    have HKwb07 := Lib.hid ((hb.block _ (lt_of_block HKwb06.out)).trans HKwb06.out)
    have HRw07 := Lib.hid (HRw06.out.below hb (Nat.le_refl _))
    have HKwb17 := Lib.hid ((hb.block _ (lt_of_block HKwb16.out)).trans HKwb16.out)
    have HRw17 := Lib.hid (HRw16.out.below hb (Nat.le_refl _))
    have HOx07 := Lib.hid (HOx06.out.next hb)
    have HOx17 := Lib.hid (HOx16.out.next hb)
    have HBs4_7 : Hid (Below w4.heap.size w4 w7) := Lib.hid (HBs4_6.out.trans (hb.mono HBs4_6.out.size))
    have HKx17 := Lib.hid hk
    replace HZ7 : Hid (w6.heap.size < w7.heap.size) := Lib.hid (by omega)
    have HE7 := Lib.hid hz
    clear hb hk hz
    clear ca10 fa10 lta1 cwb00 fwb00 ltwb0 cwb10 fwb10 ltwb1
    have lta1 := lt_of_block HKa17.out
    obtain ⟨ca10, fa10⟩ := cell1 HKa17.out
    have ltwb0 := lt_of_block HKwb07.out
    obtain ⟨cwb00, fwb00⟩ := cell1 HKwb07.out
    have ltwb1 := lt_of_block HKwb17.out
    obtain ⟨cwb10, fwb10⟩ := cell1 HKwb17.out
    have ltx1 := lt_of_block HKx17.out
    obtain ⟨cx10, fx10⟩ := cell1 HKx17.out
    refine (HI.out _ _ _ (RowsR.of_own unC_len HOx07.out.1) HOx17.out.reads).mono ?_
    rintro e w8 ⟨⟨tg0, tg1, rfl, ho⟩, hb⟩
    have HB8 : Hid (Below w.heap.size w w8) := Lib.hid (HB7.out.trans (hb.mono HB7.out.size))
    have HZ8 : Hid (w7.heap.size ≤ w8.heap.size) := Lib.hid hb.size
    have HRf08 := Lib.hid (HRf00.out.below HB8.out (Nat.le_refl _))
    have HRf18 := Lib.hid (HRf10.out.below HB8.out (Nat.le_refl _))
    have HKa18 := Lib.hid ((hb.block _ (lt_of_block HKa17.out)).trans HKa17.out)
    have HKwb08 := Lib.hid ((hb.block _ (lt_of_block HKwb07.out)).trans HKwb07.out)
    have HRw08 := Lib.hid (HRw07.out.below hb (Nat.le_refl _))
    have HKwb18 := Lib.hid ((hb.block _ (lt_of_block HKwb17.out)).trans HKwb17.out)
    have HRw18 := Lib.hid (HRw17.out.below hb (Nat.le_refl _))
    have HOx08 := Lib.hid (HOx07.out.next hb)
    have HOx18 := Lib.hid (HOx17.out.next hb)
    have HKx18 := Lib.hid ((hb.block _ (lt_of_block HKx17.out)).trans HKx17.out)
    have HBs4_8 : Hid (Below w4.heap.size w4 w8) := Lib.hid (HBs4_7.out.trans (hb.mono HBs4_7.out.size))
    clear hb
    obtain ⟨pg0, kg0, pg1, kg1, rfl, rfl⟩ := ho.form
    have HOg8 := Lib.hid (ho)
    clear ho
    clear ca10 fa10 lta1 cwb00 fwb00 ltwb0 cwb10 fwb10 ltwb1 cx10 fx10 ltx1
    have lta1 := lt_of_block HKa18.out
    obtain ⟨ca10, fa10⟩ := cell1 HKa18.out
    have ltwb0 := lt_of_block HKwb08.out
    obtain ⟨cwb00, fwb00⟩ := cell1 HKwb08.out
    have ltwb1 := lt_of_block HKwb18.out
    obtain ⟨cwb10, fwb10⟩ := cell1 HKwb18.out
    have ltx1 := lt_of_block HKx18.out
    obtain ⟨cx10, fx10⟩ := cell1 HKx18.out
    go_wp2_with fail
    have hb : Below w8.heap.size w8 (w8.alloc (.cells #[.slice pg0 qs0.length kg0] 34)) := (Below.refl _ _).alloc (Nat.le_refl _) _
    have hk : (w8.alloc (.cells #[.slice pg0 qs0.length kg0] 34)).heap[w8.heap.size]? = some (.cells #[.slice pg0 qs0.length kg0] 34 (0, 0)) := alloc_at rfl
    have hz : (w8.alloc (.cells #[.slice pg0 qs0.length kg0] 34)).heap.size = w8.heap.size + 1 := by simp
    generalize w8.alloc (.cells #[.slice pg0 qs0.length kg0] 34) = w9 at hb hk hz ⊢
    have HB9 : Hid (Below w.heap.size w w9) := Lib.hid (HB8.out.trans (hb.mono HB8.out.size))
    have HZ9 : Hid (w8.heap.size ≤ w9.heap.size) := Lib.hid hb.size
    have HRf09 := Lib.hid (HRf00.out.below HB9.out (Nat.le_refl _))
    have HRf19 := Lib.hid (HRf10.out.below HB9.out (Nat.le_refl _))
    have HKa19 := Lib.hid ((hb.block _ (lt_of_block HKa18.out)).trans HKa18.out)
    have HKwb09 := Lib.hid ((hb.block _ (lt_of_block HKwb08.out)).trans HKwb08.out)
    have HRw09 := Lib.hid (HRw08.out.below hb (Nat.le_refl _))
    have HKwb19 := Lib.hid ((hb.block _ (lt_of_block HKwb18.out)).trans HKwb18.out)
    have HRw19 := Lib.hid (HRw18.out.below hb (Nat.le_refl _))
    have HOx09 := Lib.hid (HOx08.out.next hb)
    have HOx19 := Lib.hid (HOx18.out.next hb)
    have HKx19 := Lib.hid ((hb.block _ (lt_of_block HKx18.out)).trans HKx18.out)
    have HOg9 := Lib.hid (HOg8.out.next hb)
    have HBs4_9 : Hid (Below w4.heap.size w4 w9) := Lib.hid (HBs4_8.out.trans (hb.mono HBs4_8.out.size))
    have HKgb09 := Lib.hid hk
    replace HZ9 : Hid (w8.heap.size < w9.heap.size) := Lib.hid (by omega)
    have HE9 := Lib.hid hz
    clear hb hk hz
    have hb : Below w9.heap.size w9 (w9.alloc (.cells #[.slice pg1 qs1.length kg1] 34)) := (Below.refl _ _).alloc (Nat.le_refl _) _
    have hk : (w9.alloc (.cells #[.slice pg1 qs1.length kg1] 34)).heap[w8.heap.size + 1]? = some (.cells #[.slice pg1 qs1.length kg1] 34 (0, 0)) := alloc_at (by have := HE1.out; have := HE7.out; have := HE9.out; omega)
    have hz : (w9.alloc (.cells #[.slice pg1 qs1.length kg1] 34)).heap.size = w9.heap.size + 1 := by simp
    generalize w9.alloc (.cells #[.slice pg1 qs1.length kg1] 34) = w10 at hb hk hz ⊢
    have HB10 : Hid (Below w.heap.size w w10) := Lib.hid (HB9.out.trans (hb.mono HB9.out.size))
    have HZ10 : Hid (w9.heap.size ≤ w10.heap.size) := Lib.hid hb.size
    have HRf010 := Lib.hid (HRf00.out.below HB10.out (Nat.le_refl _))
    have HRf110 := Lib.hid (HRf10.out.below HB10.out (Nat.le_refl _))
    have HKa110 := Lib.hid ((hb.block _ (lt_of_block HKa19.out)).trans HKa19.out)
    have HKwb010 := Lib.hid ((hb.block _ (lt_of_block HKwb09.out)).trans HKwb09.out)
    have HRw010 := Lib.hid (HRw09.out.below hb (Nat.le_refl _))
    have HKwb110 := Lib.hid ((hb.block _ (lt_of_block HKwb19.out)).trans HKwb19.out)
    have HRw110 := Lib.hid (HRw19.out.below hb (Nat.le_refl _))
    have HOx010 := Lib.hid (HOx09.out.next hb)
    have HOx110 := Lib.hid (HOx19.out.next hb)
    have HKx110 := Lib.hid ((hb.block _ (lt_of_block HKx19.out)).trans HKx19.out)
    have HOg10 := Lib.hid (HOg9.out.next hb)
    have HKgb010 := Lib.hid ((hb.block _ (lt_of_block HKgb09.out)).trans HKgb09.out)
    have HBs4_10 : Hid (Below w4.heap.size w4 w10) := Lib.hid (HBs4_9.out.trans (hb.mono HBs4_9.out.size))
    have HKgb110 := Lib.hid hk
    replace HZ10 : Hid (w9.heap.size < w10.heap.size) := Lib.hid (by omega)
    have HE10 := Lib.hid hz
    clear hb hk hz
    obtain ⟨x1, y1, x2, y2, hg0, hg1, hx1, hx2, hx3, hy1, hy2, hy3, hdj⟩ := OwB.split HOg10.out (by have := HZ1.out; have := HZ2.out; have := HZ3.out; have := HZ4.out; have := HZ5.out; have := HZ6.out; have := HZ7.out; have := HZ8.out; have := HZ9.out; have := HZ10.out;  omega)
    have HOg010 := Lib.hid (hg0)
    have HOg110 := Lib.hid (hg1)
    clear hg0 hg1
    clear ca10 fa10 lta1 cwb00 fwb00 ltwb0 cwb10 fwb10 ltwb1 cx10 fx10 ltx1
    have lta1 := lt_of_block HKa110.out
    obtain ⟨ca10, fa10⟩ := cell1 HKa110.out
    have ltwb0 := lt_of_block HKwb010.out
    obtain ⟨cwb00, fwb00⟩ := cell1 HKwb010.out
    have ltwb1 := lt_of_block HKwb110.out
    obtain ⟨cwb10, fwb10⟩ := cell1 HKwb110.out
    have ltx1 := lt_of_block HKx110.out
    obtain ⟨cx10, fx10⟩ := cell1 HKx110.out
    have ltgb0 := lt_of_block HKgb010.out
    obtain ⟨cgb00, fgb00⟩ := cell1 HKgb010.out
    have ltgb1 := lt_of_block HKgb110.out
    obtain ⟨cgb10, fgb10⟩ := cell1 HKgb110.out
    refine (eqAmount_yes _ _ qs0 _ HOg010.out.reads HRw010.out).mono ?_
    rintro e w11 ⟨rfl, hb⟩
    have HB11 : Hid (Below w.heap.size w w11) := Lib.hid (HB10.out.trans (hb.mono HB10.out.size))
    have HZ11 : Hid (w10.heap.size ≤ w11.heap.size) := Lib.hid hb.size
    have HRf011 := Lib.hid (HRf00.out.below HB11.out (Nat.le_refl _))
    have HRf111 := Lib.hid (HRf10.out.below HB11.out (Nat.le_refl _))
    have HKa111 := Lib.hid ((hb.block _ (lt_of_block HKa110.out)).trans HKa110.out)
    have HKwb011 := Lib.hid ((hb.block _ (lt_of_block HKwb010.out)).trans HKwb010.out)
    have HRw011 := Lib.hid (HRw010.out.below hb (Nat.le_refl _))
    have HKwb111 := Lib.hid ((hb.block _ (lt_of_block HKwb110.out)).trans HKwb110.out)
    have HRw111 := Lib.hid (HRw110.out.below hb (Nat.le_refl _))
    have HOx011 := Lib.hid (HOx010.out.next hb)
    have HOx111 := Lib.hid (HOx110.out.next hb)
    have HKx111 := Lib.hid ((hb.block _ (lt_of_block HKx110.out)).trans HKx110.out)
    have HKgb011 := Lib.hid ((hb.block _ (lt_of_block HKgb010.out)).trans HKgb010.out)
    have HKgb111 := Lib.hid ((hb.block _ (lt_of_block HKgb110.out)).trans HKgb110.out)
    have HOg011 := Lib.hid (HOg010.out.next hb)
    have HOg111 := Lib.hid (HOg110.out.next hb)
    have HBs4_11 : Hid (Below w4.heap.size w4 w11) := Lib.hid (HBs4_10.out.trans (hb.mono HBs4_10.out.size))
    clear hb
    clear ca10 fa10 lta1 cwb00 fwb00 ltwb0 cwb10 fwb10 ltwb1 cx10 fx10 ltx1 cgb00 fgb00 ltgb0 cgb10 fgb10 ltgb1
    have lta1 := lt_of_block HKa111.out
    obtain ⟨ca10, fa10⟩ := cell1 HKa111.out
    have ltwb0 := lt_of_block HKwb011.out
    obtain ⟨cwb00, fwb00⟩ := cell1 HKwb011.out
    have ltwb1 := lt_of_block HKwb111.out
    obtain ⟨cwb10, fwb10⟩ := cell1 HKwb111.out
    have ltx1 := lt_of_block HKx111.out
    obtain ⟨cx10, fx10⟩ := cell1 HKx111.out
    have ltgb0 := lt_of_block HKgb011.out
    obtain ⟨cgb00, fgb00⟩ := cell1 HKgb011.out
    have ltgb1 := lt_of_block HKgb111.out
    obtain ⟨cgb10, fgb10⟩ := cell1 HKgb111.out
    go_wp2_with fail
    refine (eqAmount_yes _ _ qs1 _ HOg111.out.reads HRw111.out).mono ?_
    rintro e w12 ⟨rfl, hb⟩
    have HB12 : Hid (Below w.heap.size w w12) := Lib.hid (HB11.out.trans (hb.mono HB11.out.size))
    have HZ12 : Hid (w11.heap.size ≤ w12.heap.size) := Lib.hid hb.size
    have HRf012 := Lib.hid (HRf00.out.below HB12.out (Nat.le_refl _))
    have HRf112 := Lib.hid (HRf10.out.below HB12.out (Nat.le_refl _))
    have HKa112 := Lib.hid ((hb.block _ (lt_of_block HKa111.out)).trans HKa111.out)
    have HKwb012 := Lib.hid ((hb.block _ (lt_of_block HKwb011.out)).trans HKwb011.out)
    have HRw012 := Lib.hid (HRw011.out.below hb (Nat.le_refl _))
    have HKwb112 := Lib.hid ((hb.block _ (lt_of_block HKwb111.out)).trans HKwb111.out)
    have HRw112 := Lib.hid (HRw111.out.below hb (Nat.le_refl _))
    have HOx012 := Lib.hid (HOx011.out.next hb)
    have HOx112 := Lib.hid (HOx111.out.next hb)
    have HKx112 := Lib.hid ((hb.block _ (lt_of_block HKx111.out)).trans HKx111.out)
    have HKgb012 := Lib.hid ((hb.block _ (lt_of_block HKgb011.out)).trans HKgb011.out)
    have HKgb112 := Lib.hid ((hb.block _ (lt_of_block HKgb111.out)).trans HKgb111.out)
    have HOg012 := Lib.hid (HOg011.out.next hb)
    have HOg112 := Lib.hid (HOg111.out.next hb)
    have HBs4_12 : Hid (Below w4.heap.size w4 w12) := Lib.hid (HBs4_11.out.trans (hb.mono HBs4_11.out.size))
    clear hb
    clear ca10 fa10 lta1 cwb00 fwb00 ltwb0 cwb10 fwb10 ltwb1 cx10 fx10 ltx1 cgb00 fgb00 ltgb0 cgb10 fgb10 ltgb1
    have lta1 := lt_of_block HKa112.out
    obtain ⟨ca10, fa10⟩ := cell1 HKa112.out
    have ltwb0 := lt_of_block HKwb012.out
    obtain ⟨cwb00, fwb00⟩ := cell1 HKwb012.out
    have ltwb1 := lt_of_block HKwb112.out
    obtain ⟨cwb10, fwb10⟩ := cell1 HKwb112.out
    have ltx1 := lt_of_block HKx112.out
    obtain ⟨cx10, fx10⟩ := cell1 HKx112.out
    have ltgb0 := lt_of_block HKgb012.out
    obtain ⟨cgb00, fgb00⟩ := cell1 HKgb012.out
    have ltgb1 := lt_of_block HKgb112.out
    obtain ⟨cgb10, fgb10⟩ := cell1 HKgb112.out
    go_wp2_with fail
    refine (toUnitS_any _ us0 _ HRf012.out hn0).mono ?_
    rintro e w13 ⟨⟨sy0, rfl, ho⟩, hb⟩
    have HB13 : Hid (Below w.heap.size w w13) := Lib.hid (HB12.out.trans (hb.mono HB12.out.size))
    have HZ13 : Hid (w12.heap.size ≤ w13.heap.size) := Lib.hid hb.size
    have HRf013 := Lib.hid (HRf00.out.below HB13.out (Nat.le_refl _))
    have HRf113 := Lib.hid (HRf10.out.below HB13.out (Nat.le_refl _))
    have HKa113 := Lib.hid ((hb.block _ (lt_of_block HKa112.out)).trans HKa112.out)
    have HKwb013 := Lib.hid ((hb.block _ (lt_of_block HKwb012.out)).trans HKwb012.out)
    have HRw013 := Lib.hid (HRw012.out.below hb (Nat.le_refl _))
    have HKwb113 := Lib.hid ((hb.block _ (lt_of_block HKwb112.out)).trans HKwb112.out)
    have HRw113 := Lib.hid (HRw112.out.below hb (Nat.le_refl _))
    have HOx013 := Lib.hid (HOx012.out.next hb)
    have HOx113 := Lib.hid (HOx112.out.next hb)
    have HKx113 := Lib.hid ((hb.block _ (lt_of_block HKx112.out)).trans HKx112.out)
    have HKgb013 := Lib.hid ((hb.block _ (lt_of_block HKgb012.out)).trans HKgb012.out)
    have HKgb113 := Lib.hid ((hb.block _ (lt_of_block HKgb112.out)).trans HKgb112.out)
    have HOg013 := Lib.hid (HOg012.out.next hb)
    have HOg113 := Lib.hid (HOg112.out.next hb)
    have HBs4_13 : Hid (Below w4.heap.size w4 w13) := Lib.hid (HBs4_12.out.trans (hb.mono HBs4_12.out.size))
    clear hb
    obtain ⟨py0, ky0, rfl⟩ := own_form ho
    have HRy013 := Lib.hid (RowsR.of_own unC_len ho)
    have HBs13_13 : Hid (Below w13.heap.size w13 w13) := Lib.hid (Below.refl _ _)
    clear ho
    clear ca10 fa10 lta1 cwb00 fwb00 ltwb0 cwb10 fwb10 ltwb1 cx10 fx10 ltx1 cgb00 fgb00 ltgb0 cgb10 fgb10 ltgb1
    have lta1 := lt_of_block HKa113.out
    obtain ⟨ca10, fa10⟩ := cell1 HKa113.out
    have ltwb0 := lt_of_block HKwb013.out
    obtain ⟨cwb00, fwb00⟩ := cell1 HKwb013.out
    have ltwb1 := lt_of_block HKwb113.out
    obtain ⟨cwb10, fwb10⟩ := cell1 HKwb113.out
    have ltx1 := lt_of_block HKx113.out
    obtain ⟨cx10, fx10⟩ := cell1 HKx113.out
    have ltgb0 := lt_of_block HKgb013.out
    obtain ⟨cgb00, fgb00⟩ := cell1 HKgb013.out
    have ltgb1 := lt_of_block HKgb113.out
    obtain ⟨cgb10, fgb10⟩ := cell1 HKgb113.out
    go_wp2_with fail
    refine (eqUnitS_yes _ _ us0 _ (RowsR.of_own unC_len HOx013.out.1) HRy013.out).mono ?_
    rintro e w14 ⟨rfl, hb⟩
    have HB14 : Hid (Below w.heap.size w w14) := Lib.hid (HB13.out.trans (hb.mono HB13.out.size))
    have HZ14 : Hid (w13.heap.size ≤ w14.heap.size) := Lib.hid hb.size
    have HRf014 := Lib.hid (HRf00.out.below HB14.out (Nat.le_refl _))
    have HRf114 := Lib.hid (HRf10.out.below HB14.out (Nat.le_refl _))
    have HKa114 := Lib.hid ((hb.block _ (lt_of_block HKa113.out)).trans HKa113.out)
    have HKwb014 := Lib.hid ((hb.block _ (lt_of_block HKwb013.out)).trans HKwb013.out)
    have HRw014 := Lib.hid (HRw013.out.below hb (Nat.le_refl _))
    have HKwb114 := Lib.hid ((hb.block _ (lt_of_block HKwb113.out)).trans HKwb113.out)
    have HRw114 := Lib.hid (HRw113.out.below hb (Nat.le_refl _))
    have HOx014 := Lib.hid (HOx013.out.next hb)
    have HOx114 := Lib.hid (HOx113.out.next hb)
    have HKx114 := Lib.hid ((hb.block _ (lt_of_block HKx113.out)).trans HKx113.out)
    have HKgb014 := Lib.hid ((hb.block _ (lt_of_block HKgb013.out)).trans HKgb013.out)
    have HKgb114 := Lib.hid ((hb.block _ (lt_of_block HKgb113.out)).trans HKgb113.out)
    have HOg014 := Lib.hid (HOg013.out.next hb)
    have HOg114 := Lib.hid (HOg113.out.next hb)
    have HRy014 := Lib.hid (HRy013.out.below hb (Nat.le_refl _))
    have HBs4_14 : Hid (Below w4.heap.size w4 w14) := Lib.hid (HBs4_13.out.trans (hb.mono HBs4_13.out.size))
    have HBs13_14 : Hid (Below w13.heap.size w13 w14) := Lib.hid (HBs13_13.out.trans (hb.mono HBs13_13.out.size))
    clear hb
    clear ca10 fa10 lta1 cwb00 fwb00 ltwb0 cwb10 fwb10 ltwb1 cx10 fx10 ltx1 cgb00 fgb00 ltgb0 cgb10 fgb10 ltgb1
    have lta1 := lt_of_block HKa114.out
    obtain ⟨ca10, fa10⟩ := cell1 HKa114.out
    have ltwb0 := lt_of_block HKwb014.out
    obtain ⟨cwb00, fwb00⟩ := cell1 HKwb014.out
    have ltwb1 := lt_of_block HKwb114.out
    obtain ⟨cwb10, fwb10⟩ := cell1 HKwb114.out
    have ltx1 := lt_of_block HKx114.out
    obtain ⟨cx10, fx10⟩ := cell1 HKx114.out
    have ltgb0 := lt_of_block HKgb014.out
    obtain ⟨cgb00, fgb00⟩ := cell1 HKgb014.out
    have ltgb1 := lt_of_block HKgb114.out
    obtain ⟨cgb10, fgb10⟩ := cell1 HKgb114.out
    go_wp2_with fail
    clear ca10 fa10 lta1 cwb00 fwb00 ltwb0 cwb10 fwb10 ltwb1 cx10 fx10 ltx1 cgb00 fgb00 ltgb0 cgb10 fgb10 ltgb1
    have lta1 := lt_of_block HKa114.out
    obtain ⟨ca10, fa10⟩ := cell1 HKa114.out
    have ltwb0 := lt_of_block HKwb014.out
    obtain ⟨cwb00, fwb00⟩ := cell1 HKwb014.out
    have ltwb1 := lt_of_block HKwb114.out
    obtain ⟨cwb10, fwb10⟩ := cell1 HKwb114.out
    have ltx1 := lt_of_block HKx114.out
    obtain ⟨cx10, fx10⟩ := cell1 HKx114.out
    have ltgb0 := lt_of_block HKgb014.out
    obtain ⟨cgb00, fgb00⟩ := cell1 HKgb014.out
    have ltgb1 := lt_of_block HKgb114.out
    obtain ⟨cgb10, fgb10⟩ := cell1 HKgb114.out
    go_region_held3 (fun w' => w'.cell? ⟨w6.heap.size, 0, none⟩ = some (.slice px1 cs1.length kx1) ∧ w'.cell? ⟨w.heap.size, 0, none⟩ = some (.slice ad1 cs1.length cp1))
      (first
        | go_keep
        | exact ⟨(hq1.cell (p := ⟨w6.heap.size, 0, none⟩) ltx1).trans cx10, (hq1.cell (p := ⟨w.heap.size, 0, none⟩) lta1).trans ca10⟩)
      (first
        | (go_at_call 20; refine (toAmount_any _ cs1 _ (HRf10.out.below HB14.out.drew (Nat.le_refl _)) hn1).mono ?_; rintro e w15 ⟨⟨s7, rfl, hown7⟩, hq1⟩; obtain ⟨p7, k7, rfl⟩ := hown7.form)
        | (go_at_call 22; refine (eqAmount_yes _ _ cs1 _ (HOx114.out.reads.below ((Below.refl _ w14).drew.trans hq1) (Nat.le_refl _)) hown7.reads).mono ?_; rintro e w15 ⟨rfl, hq2⟩; replace hq1 := hq1.trans (hq2.mono hq1.size); clear hq2))
    have hb := (Below.refl _ w14).drew.trans hq1
    clear hq1 hown7
    have HB15 : Hid (Below w.heap.size w w15) := Lib.hid (HB14.out.trans (hb.mono HB14.out.size))
    have HZ15 : Hid (w14.heap.size ≤ w15.heap.size) := Lib.hid hb.size
    have HRf015 := Lib.hid (HRf00.out.below HB15.out (Nat.le_refl _))
    have HRf115 := Lib.hid (HRf10.out.below HB15.out (Nat.le_refl _))
    have HKa115 := Lib.hid ((hb.block _ (lt_of_block HKa114.out)).trans HKa114.out)
    have HKwb015 := Lib.hid ((hb.block _ (lt_of_block HKwb014.out)).trans HKwb014.out)
    have HRw015 := Lib.hid (HRw014.out.below hb (Nat.le_refl _))
    have HKwb115 := Lib.hid ((hb.block _ (lt_of_block HKwb114.out)).trans HKwb114.out)
    have HRw115 := Lib.hid (HRw114.out.below hb (Nat.le_refl _))
    have HOx015 := Lib.hid (HOx014.out.next hb)
    have HOx115 := Lib.hid (HOx114.out.next hb)
    have HKx115 := Lib.hid ((hb.block _ (lt_of_block HKx114.out)).trans HKx114.out)
    have HKgb015 := Lib.hid ((hb.block _ (lt_of_block HKgb014.out)).trans HKgb014.out)
    have HKgb115 := Lib.hid ((hb.block _ (lt_of_block HKgb114.out)).trans HKgb114.out)
    have HOg015 := Lib.hid (HOg014.out.next hb)
    have HOg115 := Lib.hid (HOg114.out.next hb)
    have HBs4_15 : Hid (Below w4.heap.size w4 w15) := Lib.hid (HBs4_14.out.trans (hb.mono HBs4_14.out.size))
    clear hb
    clear ca10 fa10 lta1 cwb00 fwb00 ltwb0 cwb10 fwb10 ltwb1 cx10 fx10 ltx1 cgb00 fgb00 ltgb0 cgb10 fgb10 ltgb1
    have lta1 := lt_of_block HKa115.out
    obtain ⟨ca10, fa10⟩ := cell1 HKa115.out
    have ltwb0 := lt_of_block HKwb015.out
    obtain ⟨cwb00, fwb00⟩ := cell1 HKwb015.out
    have ltwb1 := lt_of_block HKwb115.out
    obtain ⟨cwb10, fwb10⟩ := cell1 HKwb115.out
    have ltx1 := lt_of_block HKx115.out
    obtain ⟨cx10, fx10⟩ := cell1 HKx115.out
    have ltgb0 := lt_of_block HKgb015.out
    obtain ⟨cgb00, fgb00⟩ := cell1 HKgb015.out
    have ltgb1 := lt_of_block HKgb115.out
    obtain ⟨cgb10, fgb10⟩ := cell1 HKgb115.out
    go_wp2_with fail
    refine (markUnitS_any _ us0.length (1) _ _ _ _ _ HOx015.out hn0 (by omega) (by have := HZ1.out; have := HZ2.out; have := HZ3.out; have := HZ4.out; have := HZ5.out; have := HZ6.out; have := HZ7.out; have := HZ8.out; have := HZ9.out; have := HZ10.out; have := HZ11.out; have := HZ12.out; have := HZ13.out; have := HZ14.out; have := HZ15.out;  omega)).mono ?_
    rintro e w16 ⟨rfl, ho, hm⟩
    have HZ16 : Hid (w15.heap.size ≤ w16.heap.size) := Lib.hid hm.size
    have HB16 : Hid (Below w.heap.size w w16) := Lib.hid (HB15.out.trans (hm.below.mono (by have := HZ1.out; have := HZ2.out; have := HZ3.out; have := HZ4.out; have := HZ5.out; have := HZ6.out; have := HZ7.out; have := HZ8.out; have := HZ9.out; have := HZ10.out; have := HZ11.out; have := HZ12.out; have := HZ13.out; have := HZ14.out; have := HZ15.out; have := HB0.out.size; omega)))
    have HRf016 := Lib.hid (HRf00.out.below HB16.out (Nat.le_refl _))
    have HRf116 := Lib.hid (HRf10.out.below HB16.out (Nat.le_refl _))
    have HKa116 := Lib.hid ((hm.block _ (by have := lt_of_block HKa115.out; have := HZ1.out; have := HZ2.out; have := HZ3.out; have := HZ4.out; have := HZ5.out; have := HZ6.out; have := HZ7.out; have := HZ8.out; have := HZ9.out; have := HZ10.out; have := HZ11.out; have := HZ12.out; have := HZ13.out; have := HZ14.out; have := HZ15.out; omega)).trans HKa115.out)
    have HKwb016 := Lib.hid ((hm.block _ (by have := lt_of_block HKwb015.out; have := HZ1.out; have := HZ2.out; have := HZ3.out; have := HZ4.out; have := HZ5.out; have := HZ6.out; have := HZ7.out; have := HZ8.out; have := HZ9.out; have := HZ10.out; have := HZ11.out; have := HZ12.out; have := HZ13.out; have := HZ14.out; have := HZ15.out; omega)).trans HKwb015.out)
    have HRw016 := Lib.hid (HRw04.out.below (HBs4_15.out.trans (hm.below.mono (by have := HZ1.out; have := HZ2.out; have := HZ3.out; have := HZ4.out; have := HZ5.out; have := HZ6.out; have := HZ7.out; have := HZ8.out; have := HZ9.out; have := HZ10.out; have := HZ11.out; have := HZ12.out; have := HZ13.out; have := HZ14.out; have := HZ15.out; omega))) (Nat.le_refl _))
    have HKwb116 := Lib.hid ((hm.block _ (by have := lt_of_block HKwb115.out; have := HZ1.out; have := HZ2.out; have := HZ3.out; have := HZ4.out; have := HZ5.out; have := HZ6.out; have := HZ7.out; have := HZ8.out; have := HZ9.out; have := HZ10.out; have := HZ11.out; have := HZ12.out; have := HZ13.out; have := HZ14.out; have := HZ15.out; omega)).trans HKwb115.out)
    have HRw116 := Lib.hid (HRw14.out.below (HBs4_15.out.trans (hm.below.mono (by have := HZ1.out; have := HZ2.out; have := HZ3.out; have := HZ4.out; have := HZ5.out; have := HZ6.out; have := HZ7.out; have := HZ8.out; have := HZ9.out; have := HZ10.out; have := HZ11.out; have := HZ12.out; have := HZ13.out; have := HZ14.out; have := HZ15.out; omega))) (Nat.le_refl _))
    have HOx116 := Lib.hid (HOx115.out.btw hm (by have := HZ1.out; have := HZ2.out; have := HZ3.out; have := HZ4.out; have := HZ5.out; have := HZ6.out; have := HZ7.out; have := HZ8.out; have := HZ9.out; have := HZ10.out; have := HZ11.out; have := HZ12.out; have := HZ13.out; have := HZ14.out; have := HZ15.out; omega))
    have HKx116 := Lib.hid ((hm.block _ (by have := lt_of_block HKx115.out; have := HZ1.out; have := HZ2.out; have := HZ3.out; have := HZ4.out; have := HZ5.out; have := HZ6.out; have := HZ7.out; have := HZ8.out; have := HZ9.out; have := HZ10.out; have := HZ11.out; have := HZ12.out; have := HZ13.out; have := HZ14.out; have := HZ15.out; omega)).trans HKx115.out)
    have HKgb016 := Lib.hid ((hm.block _ (by have := lt_of_block HKgb015.out; have := HZ1.out; have := HZ2.out; have := HZ3.out; have := HZ4.out; have := HZ5.out; have := HZ6.out; have := HZ7.out; have := HZ8.out; have := HZ9.out; have := HZ10.out; have := HZ11.out; have := HZ12.out; have := HZ13.out; have := HZ14.out; have := HZ15.out; omega)).trans HKgb015.out)
    have HKgb116 := Lib.hid ((hm.block _ (by have := lt_of_block HKgb115.out; have := HZ1.out; have := HZ2.out; have := HZ3.out; have := HZ4.out; have := HZ5.out; have := HZ6.out; have := HZ7.out; have := HZ8.out; have := HZ9.out; have := HZ10.out; have := HZ11.out; have := HZ12.out; have := HZ13.out; have := HZ14.out; have := HZ15.out; omega)).trans HKgb115.out)
    have HOg016 := Lib.hid (HOg015.out.btw hm (by have := HZ1.out; have := HZ2.out; have := HZ3.out; have := HZ4.out; have := HZ5.out; have := HZ6.out; have := HZ7.out; have := HZ8.out; have := HZ9.out; have := HZ10.out; have := HZ11.out; have := HZ12.out; have := HZ13.out; have := HZ14.out; have := HZ15.out; omega))
    have HOg116 := Lib.hid (HOg115.out.btw hm (by have := HZ1.out; have := HZ2.out; have := HZ3.out; have := HZ4.out; have := HZ5.out; have := HZ6.out; have := HZ7.out; have := HZ8.out; have := HZ9.out; have := HZ10.out; have := HZ11.out; have := HZ12.out; have := HZ13.out; have := HZ14.out; have := HZ15.out; omega))
    have HBs4_16 : Hid (Below w4.heap.size w4 w16) := Lib.hid (HBs4_15.out.trans (hm.below.mono (by have := HZ1.out; have := HZ2.out; have := HZ3.out; have := HZ4.out; have := HZ5.out; have := HZ6.out; have := HZ7.out; have := HZ8.out; have := HZ9.out; have := HZ10.out; have := HZ11.out; have := HZ12.out; have := HZ13.out; have := HZ14.out; have := HZ15.out; omega)))
    clear hm
    clear ho
    clear ca10 fa10 lta1 cwb00 fwb00 ltwb0 cwb10 fwb10 ltwb1 cx10 fx10 ltx1 cgb00 fgb00 ltgb0 cgb10 fgb10 ltgb1
    have lta1 := lt_of_block HKa116.out
    obtain ⟨ca10, fa10⟩ := cell1 HKa116.out
    have ltwb0 := lt_of_block HKwb016.out
    obtain ⟨cwb00, fwb00⟩ := cell1 HKwb016.out
    have ltwb1 := lt_of_block HKwb116.out
    obtain ⟨cwb10, fwb10⟩ := cell1 HKwb116.out
    have ltx1 := lt_of_block HKx116.out
    obtain ⟨cx10, fx10⟩ := cell1 HKx116.out
    have ltgb0 := lt_of_block HKgb016.out
    obtain ⟨cgb00, fgb00⟩ := cell1 HKgb016.out
    have ltgb1 := lt_of_block HKgb116.out
    obtain ⟨cgb10, fgb10⟩ := cell1 HKgb116.out
    go_wp2_with fail
    refine (markAmount_at _ cs1 _ _ _ HOx116.out hn1 (1 + 2 * (us0.length : Int)) (by omega) (by have := HZ1.out; have := HZ2.out; have := HZ3.out; have := HZ4.out; have := HZ5.out; have := HZ6.out; have := HZ7.out; have := HZ8.out; have := HZ9.out; have := HZ10.out; have := HZ11.out; have := HZ12.out; have := HZ13.out; have := HZ14.out; have := HZ15.out; have := HZ16.out;  omega) (by have := HZ1.out; have := HZ2.out; have := HZ3.out; have := HZ4.out; have := HZ5.out; have := HZ6.out; have := HZ7.out; have := HZ8.out; have := HZ9.out; have := HZ10.out; have := HZ11.out; have := HZ12.out; have := HZ13.out; have := HZ14.out; have := HZ15.out; have := HZ16.out;  omega) (by have := HZ1.out; have := HZ2.out; have := HZ3.out; have := HZ4.out; have := HZ5.out; have := HZ6.out; have := HZ7.out; have := HZ8.out; have := HZ9.out; have := HZ10.out; have := HZ11.out; have := HZ12.out; have := HZ13.out; have := HZ14.out; have := HZ15.out; have := HZ16.out;  omega)).mono ?_
    rintro e w17 ⟨rfl, ho, hm⟩
    have HZ17 : Hid (w16.heap.size ≤ w17.heap.size) := Lib.hid hm.size
    have HB17 : Hid (Below w.heap.size w w17) := Lib.hid (HB16.out.trans (hm.below.mono (by have := HZ1.out; have := HZ2.out; have := HZ3.out; have := HZ4.out; have := HZ5.out; have := HZ6.out; have := HZ7.out; have := HZ8.out; have := HZ9.out; have := HZ10.out; have := HZ11.out; have := HZ12.out; have := HZ13.out; have := HZ14.out; have := HZ15.out; have := HZ16.out; have := HB0.out.size; omega)))
    have HRf017 := Lib.hid (HRf00.out.below HB17.out (Nat.le_refl _))
    have HRf117 := Lib.hid (HRf10.out.below HB17.out (Nat.le_refl _))
    have HKa117 := Lib.hid ((hm.block _ (by have := lt_of_block HKa116.out; have := HZ1.out; have := HZ2.out; have := HZ3.out; have := HZ4.out; have := HZ5.out; have := HZ6.out; have := HZ7.out; have := HZ8.out; have := HZ9.out; have := HZ10.out; have := HZ11.out; have := HZ12.out; have := HZ13.out; have := HZ14.out; have := HZ15.out; have := HZ16.out; omega)).trans HKa116.out)
    have HKwb017 := Lib.hid ((hm.block _ (by have := lt_of_block HKwb016.out; have := HZ1.out; have := HZ2.out; have := HZ3.out; have := HZ4.out; have := HZ5.out; have := HZ6.out; have := HZ7.out; have := HZ8.out; have := HZ9.out; have := HZ10.out; have := HZ11.out; have := HZ12.out; have := HZ13.out; have := HZ14.out; have := HZ15.out; have := HZ16.out; omega)).trans HKwb016.out)
    have HRw017 := Lib.hid (HRw04.out.below (HBs4_16.out.trans (hm.below.mono (by have := HZ1.out; have := HZ2.out; have := HZ3.out; have := HZ4.out; have := HZ5.out; have := HZ6.out; have := HZ7.out; have := HZ8.out; have := HZ9.out; have := HZ10.out; have := HZ11.out; have := HZ12.out; have := HZ13.out; have := HZ14.out; have := HZ15.out; have := HZ16.out; omega))) (Nat.le_refl _))
    have HKwb117 := Lib.hid ((hm.block _ (by have := lt_of_block HKwb116.out; have := HZ1.out; have := HZ2.out; have := HZ3.out; have := HZ4.out; have := HZ5.out; have := HZ6.out; have := HZ7.out; have := HZ8.out; have := HZ9.out; have := HZ10.out; have := HZ11.out; have := HZ12.out; have := HZ13.out; have := HZ14.out; have := HZ15.out; have := HZ16.out; omega)).trans HKwb116.out)
    have HRw117 := Lib.hid (HRw14.out.below (HBs4_16.out.trans (hm.below.mono (by have := HZ1.out; have := HZ2.out; have := HZ3.out; have := HZ4.out; have := HZ5.out; have := HZ6.out; have := HZ7.out; have := HZ8.out; have := HZ9.out; have := HZ10.out; have := HZ11.out; have := HZ12.out; have := HZ13.out; have := HZ14.out; have := HZ15.out; have := HZ16.out; omega))) (Nat.le_refl _))
    have HKgb017 := Lib.hid ((hm.block _ (by have := lt_of_block HKgb016.out; have := HZ1.out; have := HZ2.out; have := HZ3.out; have := HZ4.out; have := HZ5.out; have := HZ6.out; have := HZ7.out; have := HZ8.out; have := HZ9.out; have := HZ10.out; have := HZ11.out; have := HZ12.out; have := HZ13.out; have := HZ14.out; have := HZ15.out; have := HZ16.out; omega)).trans HKgb016.out)
    have HKgb117 := Lib.hid ((hm.block _ (by have := lt_of_block HKgb116.out; have := HZ1.out; have := HZ2.out; have := HZ3.out; have := HZ4.out; have := HZ5.out; have := HZ6.out; have := HZ7.out; have := HZ8.out; have := HZ9.out; have := HZ10.out; have := HZ11.out; have := HZ12.out; have := HZ13.out; have := HZ14.out; have := HZ15.out; have := HZ16.out; omega)).trans HKgb116.out)
    have HOg017 := Lib.hid (HOg016.out.btw hm (by have := HZ1.out; have := HZ2.out; have := HZ3.out; have := HZ4.out; have := HZ5.out; have := HZ6.out; have := HZ7.out; have := HZ8.out; have := HZ9.out; have := HZ10.out; have := HZ11.out; have := HZ12.out; have := HZ13.out; have := HZ14.out; have := HZ15.out; have := HZ16.out; omega))
    have HOg117 := Lib.hid (HOg116.out.btw hm (by have := HZ1.out; have := HZ2.out; have := HZ3.out; have := HZ4.out; have := HZ5.out; have := HZ6.out; have := HZ7.out; have := HZ8.out; have := HZ9.out; have := HZ10.out; have := HZ11.out; have := HZ12.out; have := HZ13.out; have := HZ14.out; have := HZ15.out; have := HZ16.out; omega))
    have HBs4_17 : Hid (Below w4.heap.size w4 w17) := Lib.hid (HBs4_16.out.trans (hm.below.mono (by have := HZ1.out; have := HZ2.out; have := HZ3.out; have := HZ4.out; have := HZ5.out; have := HZ6.out; have := HZ7.out; have := HZ8.out; have := HZ9.out; have := HZ10.out; have := HZ11.out; have := HZ12.out; have := HZ13.out; have := HZ14.out; have := HZ15.out; have := HZ16.out; omega)))
    clear hm
    clear ho
    have hxk : ¬ (1 + 2 * (us0.length : Int) + (cs1.length : Int) < 0) := by omega
    clear ca10 fa10 lta1 cwb00 fwb00 ltwb0 cwb10 fwb10 ltwb1 cx10 fx10 ltx1 cgb00 fgb00 ltgb0 cgb10 fgb10 ltgb1
    have lta1 := lt_of_block HKa117.out
    obtain ⟨ca10, fa10⟩ := cell1 HKa117.out
    have ltwb0 := lt_of_block HKwb017.out
    obtain ⟨cwb00, fwb00⟩ := cell1 HKwb017.out
    have ltwb1 := lt_of_block HKwb117.out
    obtain ⟨cwb10, fwb10⟩ := cell1 HKwb117.out
    have ltgb0 := lt_of_block HKgb017.out
    obtain ⟨cgb00, fgb00⟩ := cell1 HKgb017.out
    have ltgb1 := lt_of_block HKgb117.out
    obtain ⟨cgb10, fgb10⟩ := cell1 HKgb117.out
    go_wp2_with fail
    refine (eqAmount_yes _ _ qs0 _ HOg017.out.reads HRw017.out).mono ?_
    rintro e w18 ⟨rfl, hb⟩
    have HB18 : Hid (Below w.heap.size w w18) := Lib.hid (HB17.out.trans (hb.mono HB17.out.size))
    have HZ18 : Hid (w17.heap.size ≤ w18.heap.size) := Lib.hid hb.size
    have HRf018 := Lib.hid (HRf00.out.below HB18.out (Nat.le_refl _))
    have HRf118 := Lib.hid (HRf10.out.below HB18.out (Nat.le_refl _))
    have HKa118 := Lib.hid ((hb.block _ (lt_of_block HKa117.out)).trans HKa117.out)
    have HKwb018 := Lib.hid ((hb.block _ (lt_of_block HKwb017.out)).trans HKwb017.out)
    have HRw018 := Lib.hid (HRw017.out.below hb (Nat.le_refl _))
    have HKwb118 := Lib.hid ((hb.block _ (lt_of_block HKwb117.out)).trans HKwb117.out)
    have HRw118 := Lib.hid (HRw117.out.below hb (Nat.le_refl _))
    have HKgb018 := Lib.hid ((hb.block _ (lt_of_block HKgb017.out)).trans HKgb017.out)
    have HKgb118 := Lib.hid ((hb.block _ (lt_of_block HKgb117.out)).trans HKgb117.out)
    have HOg018 := Lib.hid (HOg017.out.next hb)
    have HOg118 := Lib.hid (HOg117.out.next hb)
    have HBs4_18 : Hid (Below w4.heap.size w4 w18) := Lib.hid (HBs4_17.out.trans (hb.mono HBs4_17.out.size))
    clear hb
    clear ca10 fa10 lta1 cwb00 fwb00 ltwb0 cwb10 fwb10 ltwb1 cgb00 fgb00 ltgb0 cgb10 fgb10 ltgb1
    have lta1 := lt_of_block HKa118.out
    obtain ⟨ca10, fa10⟩ := cell1 HKa118.out
    have ltwb0 := lt_of_block HKwb018.out
    obtain ⟨cwb00, fwb00⟩ := cell1 HKwb018.out
    have ltwb1 := lt_of_block HKwb118.out
    obtain ⟨cwb10, fwb10⟩ := cell1 HKwb118.out
    have ltgb0 := lt_of_block HKgb018.out
    obtain ⟨cgb00, fgb00⟩ := cell1 HKgb018.out
    have ltgb1 := lt_of_block HKgb118.out
    obtain ⟨cgb10, fgb10⟩ := cell1 HKgb118.out
    go_wp2_with fail
    refine (eqAmount_yes _ _ qs1 _ HOg118.out.reads HRw118.out).mono ?_
    rintro e w19 ⟨rfl, hb⟩
    have HB19 : Hid (Below w.heap.size w w19) := Lib.hid (HB18.out.trans (hb.mono HB18.out.size))
    have HZ19 : Hid (w18.heap.size ≤ w19.heap.size) := Lib.hid hb.size
    have HRf019 := Lib.hid (HRf00.out.below HB19.out (Nat.le_refl _))
    have HRf119 := Lib.hid (HRf10.out.below HB19.out (Nat.le_refl _))
    have HKa119 := Lib.hid ((hb.block _ (lt_of_block HKa118.out)).trans HKa118.out)
    have HKwb019 := Lib.hid ((hb.block _ (lt_of_block HKwb018.out)).trans HKwb018.out)
    have HRw019 := Lib.hid (HRw018.out.below hb (Nat.le_refl _))
    have HKwb119 := Lib.hid ((hb.block _ (lt_of_block HKwb118.out)).trans HKwb118.out)
    have HRw119 := Lib.hid (HRw118.out.below hb (Nat.le_refl _))
    have HKgb019 := Lib.hid ((hb.block _ (lt_of_block HKgb018.out)).trans HKgb018.out)
    have HKgb119 := Lib.hid ((hb.block _ (lt_of_block HKgb118.out)).trans HKgb118.out)
    have HOg019 := Lib.hid (HOg018.out.next hb)
    have HOg119 := Lib.hid (HOg118.out.next hb)
    have HBs4_19 : Hid (Below w4.heap.size w4 w19) := Lib.hid (HBs4_18.out.trans (hb.mono HBs4_18.out.size))
    clear hb
    clear ca10 fa10 lta1 cwb00 fwb00 ltwb0 cwb10 fwb10 ltwb1 cgb00 fgb00 ltgb0 cgb10 fgb10 ltgb1
    have lta1 := lt_of_block HKa119.out
    obtain ⟨ca10, fa10⟩ := cell1 HKa119.out
    have ltwb0 := lt_of_block HKwb019.out
    obtain ⟨cwb00, fwb00⟩ := cell1 HKwb019.out
    have ltwb1 := lt_of_block HKwb119.out
    obtain ⟨cwb10, fwb10⟩ := cell1 HKwb119.out
    have ltgb0 := lt_of_block HKgb019.out
    obtain ⟨cgb00, fgb00⟩ := cell1 HKgb019.out
    have ltgb1 := lt_of_block HKgb119.out
    obtain ⟨cgb10, fgb10⟩ := cell1 HKgb119.out
    go_wp2_with fail
    refine (markAmount_at _ qs0 _ _ _ HOg019.out (by omega) (1) (by omega) (by have := HZ1.out; have := HZ2.out; have := HZ3.out; have := HZ4.out; have := HZ5.out; have := HZ6.out; have := HZ7.out; have := HZ8.out; have := HZ9.out; have := HZ10.out; have := HZ11.out; have := HZ12.out; have := HZ13.out; have := HZ14.out; have := HZ15.out; have := HZ16.out; have := HZ17.out; have := HZ18.out; have := HZ19.out;  omega) (by have := HZ1.out; have := HZ2.out; have := HZ3.out; have := HZ4.out; have := HZ5.out; have := HZ6.out; have := HZ7.out; have := HZ8.out; have := HZ9.out; have := HZ10.out; have := HZ11.out; have := HZ12.out; have := HZ13.out; have := HZ14.out; have := HZ15.out; have := HZ16.out; have := HZ17.out; have := HZ18.out; have := HZ19.out;  omega) (by have := HZ1.out; have := HZ2.out; have := HZ3.out; have := HZ4.out; have := HZ5.out; have := HZ6.out; have := HZ7.out; have := HZ8.out; have := HZ9.out; have := HZ10.out; have := HZ11.out; have := HZ12.out; have := HZ13.out; have := HZ14.out; have := HZ15.out; have := HZ16.out; have := HZ17.out; have := HZ18.out; have := HZ19.out;  omega)).mono ?_
    rintro e w20 ⟨rfl, ho, hm⟩
    have HZ20 : Hid (w19.heap.size ≤ w20.heap.size) := Lib.hid hm.size
    have HB20 : Hid (Below w.heap.size w w20) := Lib.hid (HB19.out.trans (hm.below.mono (by have := HZ1.out; have := HZ2.out; have := HZ3.out; have := HZ4.out; have := HZ5.out; have := HZ6.out; have := HZ7.out; have := HZ8.out; have := HZ9.out; have := HZ10.out; have := HZ11.out; have := HZ12.out; have := HZ13.out; have := HZ14.out; have := HZ15.out; have := HZ16.out; have := HZ17.out; have := HZ18.out; have := HZ19.out; have := HB0.out.size; omega)))
    have HRf020 := Lib.hid (HRf00.out.below HB20.out (Nat.le_refl _))
    have HRf120 := Lib.hid (HRf10.out.below HB20.out (Nat.le_refl _))
    have HKa120 := Lib.hid ((hm.block _ (by have := lt_of_block HKa119.out; have := HZ1.out; have := HZ2.out; have := HZ3.out; have := HZ4.out; have := HZ5.out; have := HZ6.out; have := HZ7.out; have := HZ8.out; have := HZ9.out; have := HZ10.out; have := HZ11.out; have := HZ12.out; have := HZ13.out; have := HZ14.out; have := HZ15.out; have := HZ16.out; have := HZ17.out; have := HZ18.out; have := HZ19.out; omega)).trans HKa119.out)
    have HKwb020 := Lib.hid ((hm.block _ (by have := lt_of_block HKwb019.out; have := HZ1.out; have := HZ2.out; have := HZ3.out; have := HZ4.out; have := HZ5.out; have := HZ6.out; have := HZ7.out; have := HZ8.out; have := HZ9.out; have := HZ10.out; have := HZ11.out; have := HZ12.out; have := HZ13.out; have := HZ14.out; have := HZ15.out; have := HZ16.out; have := HZ17.out; have := HZ18.out; have := HZ19.out; omega)).trans HKwb019.out)
    have HRw020 := Lib.hid (HRw04.out.below (HBs4_19.out.trans (hm.below.mono (by have := HZ1.out; have := HZ2.out; have := HZ3.out; have := HZ4.out; have := HZ5.out; have := HZ6.out; have := HZ7.out; have := HZ8.out; have := HZ9.out; have := HZ10.out; have := HZ11.out; have := HZ12.out; have := HZ13.out; have := HZ14.out; have := HZ15.out; have := HZ16.out; have := HZ17.out; have := HZ18.out; have := HZ19.out; omega))) (Nat.le_refl _))
    have HKwb120 := Lib.hid ((hm.block _ (by have := lt_of_block HKwb119.out; have := HZ1.out; have := HZ2.out; have := HZ3.out; have := HZ4.out; have := HZ5.out; have := HZ6.out; have := HZ7.out; have := HZ8.out; have := HZ9.out; have := HZ10.out; have := HZ11.out; have := HZ12.out; have := HZ13.out; have := HZ14.out; have := HZ15.out; have := HZ16.out; have := HZ17.out; have := HZ18.out; have := HZ19.out; omega)).trans HKwb119.out)
    have HRw120 := Lib.hid (HRw14.out.below (HBs4_19.out.trans (hm.below.mono (by have := HZ1.out; have := HZ2.out; have := HZ3.out; have := HZ4.out; have := HZ5.out; have := HZ6.out; have := HZ7.out; have := HZ8.out; have := HZ9.out; have := HZ10.out; have := HZ11.out; have := HZ12.out; have := HZ13.out; have := HZ14.out; have := HZ15.out; have := HZ16.out; have := HZ17.out; have := HZ18.out; have := HZ19.out; omega))) (Nat.le_refl _))
    have HKgb020 := Lib.hid ((hm.block _ (by have := lt_of_block HKgb019.out; have := HZ1.out; have := HZ2.out; have := HZ3.out; have := HZ4.out; have := HZ5.out; have := HZ6.out; have := HZ7.out; have := HZ8.out; have := HZ9.out; have := HZ10.out; have := HZ11.out; have := HZ12.out; have := HZ13.out; have := HZ14.out; have := HZ15.out; have := HZ16.out; have := HZ17.out; have := HZ18.out; have := HZ19.out; omega)).trans HKgb019.out)
    have HKgb120 := Lib.hid ((hm.block _ (by have := lt_of_block HKgb119.out; have := HZ1.out; have := HZ2.out; have := HZ3.out; have := HZ4.out; have := HZ5.out; have := HZ6.out; have := HZ7.out; have := HZ8.out; have := HZ9.out; have := HZ10.out; have := HZ11.out; have := HZ12.out; have := HZ13.out; have := HZ14.out; have := HZ15.out; have := HZ16.out; have := HZ17.out; have := HZ18.out; have := HZ19.out; omega)).trans HKgb119.out)
    have HOg120 := Lib.hid (HOg119.out.btw hm (by have := HZ1.out; have := HZ2.out; have := HZ3.out; have := HZ4.out; have := HZ5.out; have := HZ6.out; have := HZ7.out; have := HZ8.out; have := HZ9.out; have := HZ10.out; have := HZ11.out; have := HZ12.out; have := HZ13.out; have := HZ14.out; have := HZ15.out; have := HZ16.out; have := HZ17.out; have := HZ18.out; have := HZ19.out; omega))
    have HBs4_20 : Hid (Below w4.heap.size w4 w20) := Lib.hid (HBs4_19.out.trans (hm.below.mono (by have := HZ1.out; have := HZ2.out; have := HZ3.out; have := HZ4.out; have := HZ5.out; have := HZ6.out; have := HZ7.out; have := HZ8.out; have := HZ9.out; have := HZ10.out; have := HZ11.out; have := HZ12.out; have := HZ13.out; have := HZ14.out; have := HZ15.out; have := HZ16.out; have := HZ17.out; have := HZ18.out; have := HZ19.out; omega)))
    clear hm
    have HOg020 := Lib.hid (ho)
    clear ho
    clear ca10 fa10 lta1 cwb00 fwb00 ltwb0 cwb10 fwb10 ltwb1 cgb00 fgb00 ltgb0 cgb10 fgb10 ltgb1
    have lta1 := lt_of_block HKa120.out
    obtain ⟨ca10, fa10⟩ := cell1 HKa120.out
    have ltwb0 := lt_of_block HKwb020.out
    obtain ⟨cwb00, fwb00⟩ := cell1 HKwb020.out
    have ltwb1 := lt_of_block HKwb120.out
    obtain ⟨cwb10, fwb10⟩ := cell1 HKwb120.out
    have ltgb0 := lt_of_block HKgb020.out
    obtain ⟨cgb00, fgb00⟩ := cell1 HKgb020.out
    have ltgb1 := lt_of_block HKgb120.out
    obtain ⟨cgb10, fgb10⟩ := cell1 HKgb120.out
    go_wp2_with fail
    refine (markAmount_at _ qs1 _ _ _ HOg120.out (by omega) (1 + (qs0.length : Int)) (by omega) (by have := HZ1.out; have := HZ2.out; have := HZ3.out; have := HZ4.out; have := HZ5.out; have := HZ6.out; have := HZ7.out; have := HZ8.out; have := HZ9.out; have := HZ10.out; have := HZ11.out; have := HZ12.out; have := HZ13.out; have := HZ14.out; have := HZ15.out; have := HZ16.out; have := HZ17.out; have := HZ18.out; have := HZ19.out; have := HZ20.out;  omega) (by have := HZ1.out; have := HZ2.out; have := HZ3.out; have := HZ4.out; have := HZ5.out; have := HZ6.out; have := HZ7.out; have := HZ8.out; have := HZ9.out; have := HZ10.out; have := HZ11.out; have := HZ12.out; have := HZ13.out; have := HZ14.out; have := HZ15.out; have := HZ16.out; have := HZ17.out; have := HZ18.out; have := HZ19.out; have := HZ20.out;  omega) (by have := HZ1.out; have := HZ2.out; have := HZ3.out; have := HZ4.out; have := HZ5.out; have := HZ6.out; have := HZ7.out; have := HZ8.out; have := HZ9.out; have := HZ10.out; have := HZ11.out; have := HZ12.out; have := HZ13.out; have := HZ14.out; have := HZ15.out; have := HZ16.out; have := HZ17.out; have := HZ18.out; have := HZ19.out; have := HZ20.out;  omega)).mono ?_
    rintro e w21 ⟨rfl, ho, hm⟩
    have HZ21 : Hid (w20.heap.size ≤ w21.heap.size) := Lib.hid hm.size
    have HB21 : Hid (Below w.heap.size w w21) := Lib.hid (HB20.out.trans (hm.below.mono (by have := HZ1.out; have := HZ2.out; have := HZ3.out; have := HZ4.out; have := HZ5.out; have := HZ6.out; have := HZ7.out; have := HZ8.out; have := HZ9.out; have := HZ10.out; have := HZ11.out; have := HZ12.out; have := HZ13.out; have := HZ14.out; have := HZ15.out; have := HZ16.out; have := HZ17.out; have := HZ18.out; have := HZ19.out; have := HZ20.out; have := HB0.out.size; omega)))
    have HRf021 := Lib.hid (HRf00.out.below HB21.out (Nat.le_refl _))
    have HRf121 := Lib.hid (HRf10.out.below HB21.out (Nat.le_refl _))
    have HKa121 := Lib.hid ((hm.block _ (by have := lt_of_block HKa120.out; have := HZ1.out; have := HZ2.out; have := HZ3.out; have := HZ4.out; have := HZ5.out; have := HZ6.out; have := HZ7.out; have := HZ8.out; have := HZ9.out; have := HZ10.out; have := HZ11.out; have := HZ12.out; have := HZ13.out; have := HZ14.out; have := HZ15.out; have := HZ16.out; have := HZ17.out; have := HZ18.out; have := HZ19.out; have := HZ20.out; omega)).trans HKa120.out)
    have HKwb021 := Lib.hid ((hm.block _ (by have := lt_of_block HKwb020.out; have := HZ1.out; have := HZ2.out; have := HZ3.out; have := HZ4.out; have := HZ5.out; have := HZ6.out; have := HZ7.out; have := HZ8.out; have := HZ9.out; have := HZ10.out; have := HZ11.out; have := HZ12.out; have := HZ13.out; have := HZ14.out; have := HZ15.out; have := HZ16.out; have := HZ17.out; have := HZ18.out; have := HZ19.out; have := HZ20.out; omega)).trans HKwb020.out)
    have HRw021 := Lib.hid (HRw04.out.below (HBs4_20.out.trans (hm.below.mono (by have := HZ1.out; have := HZ2.out; have := HZ3.out; have := HZ4.out; have := HZ5.out; have := HZ6.out; have := HZ7.out; have := HZ8.out; have := HZ9.out; have := HZ10.out; have := HZ11.out; have := HZ12.out; have := HZ13.out; have := HZ14.out; have := HZ15.out; have := HZ16.out; have := HZ17.out; have := HZ18.out; have := HZ19.out; have := HZ20.out; omega))) (Nat.le_refl _))
    have HKwb121 := Lib.hid ((hm.block _ (by have := lt_of_block HKwb120.out; have := HZ1.out; have := HZ2.out; have := HZ3.out; have := HZ4.out; have := HZ5.out; have := HZ6.out; have := HZ7.out; have := HZ8.out; have := HZ9.out; have := HZ10.out; have := HZ11.out; have := HZ12.out; have := HZ13.out; have := HZ14.out; have := HZ15.out; have := HZ16.out; have := HZ17.out; have := HZ18.out; have := HZ19.out; have := HZ20.out; omega)).trans HKwb120.out)
    have HRw121 := Lib.hid (HRw14.out.below (HBs4_20.out.trans (hm.below.mono (by have := HZ1.out; have := HZ2.out; have := HZ3.out; have := HZ4.out; have := HZ5.out; have := HZ6.out; have := HZ7.out; have := HZ8.out; have := HZ9.out; have := HZ10.out; have := HZ11.out; have := HZ12.out; have := HZ13.out; have := HZ14.out; have := HZ15.out; have := HZ16.out; have := HZ17.out; have := HZ18.out; have := HZ19.out; have := HZ20.out; omega))) (Nat.le_refl _))
    have HKgb021 := Lib.hid ((hm.block _ (by have := lt_of_block HKgb020.out; have := HZ1.out; have := HZ2.out; have := HZ3.out; have := HZ4.out; have := HZ5.out; have := HZ6.out; have := HZ7.out; have := HZ8.out; have := HZ9.out; have := HZ10.out; have := HZ11.out; have := HZ12.out; have := HZ13.out; have := HZ14.out; have := HZ15.out; have := HZ16.out; have := HZ17.out; have := HZ18.out; have := HZ19.out; have := HZ20.out; omega)).trans HKgb020.out)
    have HKgb121 := Lib.hid ((hm.block _ (by have := lt_of_block HKgb120.out; have := HZ1.out; have := HZ2.out; have := HZ3.out; have := HZ4.out; have := HZ5.out; have := HZ6.out; have := HZ7.out; have := HZ8.out; have := HZ9.out; have := HZ10.out; have := HZ11.out; have := HZ12.out; have := HZ13.out; have := HZ14.out; have := HZ15.out; have := HZ16.out; have := HZ17.out; have := HZ18.out; have := HZ19.out; have := HZ20.out; omega)).trans HKgb120.out)
    have HOg021 := Lib.hid (HOg020.out.btw hm (by have := HZ1.out; have := HZ2.out; have := HZ3.out; have := HZ4.out; have := HZ5.out; have := HZ6.out; have := HZ7.out; have := HZ8.out; have := HZ9.out; have := HZ10.out; have := HZ11.out; have := HZ12.out; have := HZ13.out; have := HZ14.out; have := HZ15.out; have := HZ16.out; have := HZ17.out; have := HZ18.out; have := HZ19.out; have := HZ20.out; omega))
    have HBs4_21 : Hid (Below w4.heap.size w4 w21) := Lib.hid (HBs4_20.out.trans (hm.below.mono (by have := HZ1.out; have := HZ2.out; have := HZ3.out; have := HZ4.out; have := HZ5.out; have := HZ6.out; have := HZ7.out; have := HZ8.out; have := HZ9.out; have := HZ10.out; have := HZ11.out; have := HZ12.out; have := HZ13.out; have := HZ14.out; have := HZ15.out; have := HZ16.out; have := HZ17.out; have := HZ18.out; have := HZ19.out; have := HZ20.out; omega)))
    clear hm
    have HOg121 := Lib.hid (ho)
    clear ho
    clear ca10 fa10 lta1 cwb00 fwb00 ltwb0 cwb10 fwb10 ltwb1 cgb00 fgb00 ltgb0 cgb10 fgb10 ltgb1
    have lta1 := lt_of_block HKa121.out
    obtain ⟨ca10, fa10⟩ := cell1 HKa121.out
    have ltwb0 := lt_of_block HKwb021.out
    obtain ⟨cwb00, fwb00⟩ := cell1 HKwb021.out
    have ltwb1 := lt_of_block HKwb121.out
    obtain ⟨cwb10, fwb10⟩ := cell1 HKwb121.out
    have ltgb0 := lt_of_block HKgb021.out
    obtain ⟨cgb00, fgb00⟩ := cell1 HKgb021.out
    have ltgb1 := lt_of_block HKgb121.out
    obtain ⟨cgb10, fgb10⟩ := cell1 HKgb121.out
    go_wp2_with fail
    refine (heldAmount_any _ qs0.length (1) _ (by have := HOg021.out.reads; exact this) (by omega) (by omega)).mono ?_
    rintro e w22 ⟨rfl, hb⟩
    have HB22 : Hid (Below w.heap.size w w22) := Lib.hid (HB21.out.trans (hb.mono HB21.out.size))
    have HZ22 : Hid (w21.heap.size ≤ w22.heap.size) := Lib.hid hb.size
    have HRf022 := Lib.hid (HRf00.out.below HB22.out (Nat.le_refl _))
    have HRf122 := Lib.hid (HRf10.out.below HB22.out (Nat.le_refl _))
    have HKa122 := Lib.hid ((hb.block _ (lt_of_block HKa121.out)).trans HKa121.out)
    have HKwb022 := Lib.hid ((hb.block _ (lt_of_block HKwb021.out)).trans HKwb021.out)
    have HRw022 := Lib.hid (HRw021.out.below hb (Nat.le_refl _))
    have HKwb122 := Lib.hid ((hb.block _ (lt_of_block HKwb121.out)).trans HKwb121.out)
    have HRw122 := Lib.hid (HRw121.out.below hb (Nat.le_refl _))
    have HKgb022 := Lib.hid ((hb.block _ (lt_of_block HKgb021.out)).trans HKgb021.out)
    have HKgb122 := Lib.hid ((hb.block _ (lt_of_block HKgb121.out)).trans HKgb121.out)
    have HOg022 := Lib.hid (HOg021.out.next hb)
    have HOg122 := Lib.hid (HOg121.out.next hb)
    have HBs4_22 : Hid (Below w4.heap.size w4 w22) := Lib.hid (HBs4_21.out.trans (hb.mono HBs4_21.out.size))
    clear hb
    clear ca10 fa10 lta1 cwb00 fwb00 ltwb0 cwb10 fwb10 ltwb1 cgb00 fgb00 ltgb0 cgb10 fgb10 ltgb1
    have lta1 := lt_of_block HKa122.out
    obtain ⟨ca10, fa10⟩ := cell1 HKa122.out
    have ltwb0 := lt_of_block HKwb022.out
    obtain ⟨cwb00, fwb00⟩ := cell1 HKwb022.out
    have ltwb1 := lt_of_block HKwb122.out
    obtain ⟨cwb10, fwb10⟩ := cell1 HKwb122.out
    have ltgb0 := lt_of_block HKgb022.out
    obtain ⟨cgb00, fgb00⟩ := cell1 HKgb022.out
    have ltgb1 := lt_of_block HKgb122.out
    obtain ⟨cgb10, fgb10⟩ := cell1 HKgb122.out
    go_wp2_with fail
    refine (heldAmount_any _ qs1.length (1 + (qs0.length : Int)) _ (by have := HOg122.out.reads; exact this) (by omega) (by omega)).mono ?_
    rintro e w23 ⟨rfl, hb⟩
    have HB23 : Hid (Below w.heap.size w w23) := Lib.hid (HB22.out.trans (hb.mono HB22.out.size))
    have HZ23 : Hid (w22.heap.size ≤ w23.heap.size) := Lib.hid hb.size
    have HRf023 := Lib.hid (HRf00.out.below HB23.out (Nat.le_refl _))
    have HRf123 := Lib.hid (HRf10.out.below HB23.out (Nat.le_refl _))
    have HKa123 := Lib.hid ((hb.block _ (lt_of_block HKa122.out)).trans HKa122.out)
    have HKwb023 := Lib.hid ((hb.block _ (lt_of_block HKwb022.out)).trans HKwb022.out)
    have HRw023 := Lib.hid (HRw022.out.below hb (Nat.le_refl _))
    have HKwb123 := Lib.hid ((hb.block _ (lt_of_block HKwb122.out)).trans HKwb122.out)
    have HRw123 := Lib.hid (HRw122.out.below hb (Nat.le_refl _))
    have HKgb023 := Lib.hid ((hb.block _ (lt_of_block HKgb022.out)).trans HKgb022.out)
    have HKgb123 := Lib.hid ((hb.block _ (lt_of_block HKgb122.out)).trans HKgb122.out)
    have HOg023 := Lib.hid (HOg022.out.next hb)
    have HOg123 := Lib.hid (HOg122.out.next hb)
    have HBs4_23 : Hid (Below w4.heap.size w4 w23) := Lib.hid (HBs4_22.out.trans (hb.mono HBs4_22.out.size))
    clear hb
    clear ca10 fa10 lta1 cwb00 fwb00 ltwb0 cwb10 fwb10 ltwb1 cgb00 fgb00 ltgb0 cgb10 fgb10 ltgb1
    have lta1 := lt_of_block HKa123.out
    obtain ⟨ca10, fa10⟩ := cell1 HKa123.out
    have ltwb0 := lt_of_block HKwb023.out
    obtain ⟨cwb00, fwb00⟩ := cell1 HKwb023.out
    have ltwb1 := lt_of_block HKwb123.out
    obtain ⟨cwb10, fwb10⟩ := cell1 HKwb123.out
    have ltgb0 := lt_of_block HKgb023.out
    obtain ⟨cgb00, fgb00⟩ := cell1 HKgb023.out
    have ltgb1 := lt_of_block HKgb123.out
    obtain ⟨cgb10, fgb10⟩ := cell1 HKgb123.out
    go_wp2_with fail
    clear ca10 fa10 lta1 cwb00 fwb00 ltwb0 cwb10 fwb10 ltwb1 cgb00 fgb00 ltgb0 cgb10 fgb10 ltgb1
    have lta1 := lt_of_block HKa123.out
    obtain ⟨ca10, fa10⟩ := cell1 HKa123.out
    have ltwb0 := lt_of_block HKwb023.out
    obtain ⟨cwb00, fwb00⟩ := cell1 HKwb023.out
    have ltwb1 := lt_of_block HKwb123.out
    obtain ⟨cwb10, fwb10⟩ := cell1 HKwb123.out
    have ltgb0 := lt_of_block HKgb023.out
    obtain ⟨cgb00, fgb00⟩ := cell1 HKgb023.out
    have ltgb1 := lt_of_block HKgb123.out
    obtain ⟨cgb10, fgb10⟩ := cell1 HKgb123.out
    have hlah1 : w.heap.size < w23.heap.size := lta1
    have HBWh : Hid (Below w.heap.size w w23) := Lib.hid HB23.out
    have HKAh1 := Lib.hid HKa123.out
    have HRAh0 := Lib.hid HRf023.out
    have HRAh1 := Lib.hid HRf123.out
    obtain ⟨Wh, hWh⟩ : ∃ W, W = w23.heap.size := ⟨_, rfl⟩
    have HWh := Lib.hid hWh
    clear hWh
    go_cut [19, 20, 21] from 123 (fun z0 z1 z2 wc => ∃ (b0 : Nat) (pa0 : Option Addr) (ka0 : Nat) (b1 : Nat) (pa1 : Option Addr) (ka1 : Nat), z0 = .pointer (some ⟨b0, 0, none⟩) ∧ z1 = .pointer (some ⟨b1, 0, none⟩) ∧ z2 = .bool r2 ∧ wc.heap[b0]? = some (.cells #[.slice pa0 qs0.length ka0] 34 (0, 0)) ∧ wc.heap[b1]? = some (.cells #[.slice pa1 qs1.length ka1] 34 (0, 0)) ∧ RowsR 1 inC wc (.slice pa0 qs0.length ka0) qs0 ∧ RowsR 1 inC wc (.slice pa1 qs1.length ka1) qs1 ∧ Below w23.heap.size w23 wc)
    case first =>
      apply cutG11_nnononononw (R := fun d0 d1 pc0 kc0 pc1 kc1 pr0 kr0 pr1 kr1 wv => Below w23.heap.size w23 wv ∧ (w23.heap.size ≤ d0 ∧ wv.heap[d0]? = some (.cells #[.slice none 0 0] 34 (0, 0))) ∧ (w23.heap.size ≤ d1 ∧ wv.heap[d1]? = some (.cells #[.slice none 0 0] 34 (0, 0))) ∧ d0 ≠ d1 ∧ True ∧ True ∧ (∃ lo hi, OwB lo hi wv (.slice pr0 qs0.length kr0) (.slice pr1 qs1.length kr1) qs0 qs1 ∧ lo ≤ hi ∧ hi ≤ wv.heap.size ∧ (d0 < lo ∨ hi ≤ d0) ∧ (d1 < lo ∨ hi ≤ d1)))
      case first =>
       intro hn3_01
       apply cutG7_nnononw (R := fun d0 d1 pc0 kc0 pc1 kc1 wv => Below w23.heap.size w23 wv ∧ (w23.heap.size ≤ d0 ∧ wv.heap[d0]? = some (.cells #[.slice none 0 0] 34 (0, 0))) ∧ (w23.heap.size ≤ d1 ∧ wv.heap[d1]? = some (.cells #[.slice none 0 0] 34 (0, 0))) ∧ d0 ≠ d1 ∧ RowsR 2 unC wv (.slice pc0 us0.length kc0) us0 ∧ RowsR 1 inC wv (.slice pc1 cs1.length kc1) cs1)
       case first =>
        intro hn2_01
        apply cutG10_nononononw (R := fun d0 pc0 kc0 pc1 kc1 pr0 kr0 pr1 kr1 wv => Below w23.heap.size w23 wv ∧ (w23.heap.size ≤ d0 ∧ wv.heap[d0]? = some (.cells #[.slice none 0 0] 34 (0, 0))) ∧ True ∧ True ∧ (∃ lo hi, OwB lo hi wv (.slice pr0 qs0.length kr0) (.slice pr1 qs1.length kr1) qs0 qs1 ∧ lo ≤ hi ∧ hi ≤ wv.heap.size ∧ (d0 < lo ∨ hi ≤ d0)))
        case first =>
         intro hn3_0
         apply cutG10_nononononw (R := fun d1 pc0 kc0 pc1 kc1 pr0 kr0 pr1 kr1 wv => Below w23.heap.size w23 wv ∧ (w23.heap.size ≤ d1 ∧ wv.heap[d1]? = some (.cells #[.slice none 0 0] 34 (0, 0))) ∧ True ∧ True ∧ (∃ lo hi, OwB lo hi wv (.slice pr0 qs0.length kr0) (.slice pr1 qs1.length kr1) qs0 qs1 ∧ lo ≤ hi ∧ hi ≤ wv.heap.size ∧ (d1 < lo ∨ hi ≤ d1)))
         case first =>
          intro hn3_1
          apply cutG5_nnonw (R := fun d0 d1 pc0 kc0 wv => Below w23.heap.size w23 wv ∧ (w23.heap.size ≤ d0 ∧ wv.heap[d0]? = some (.cells #[.slice none 0 0] 34 (0, 0))) ∧ (w23.heap.size ≤ d1 ∧ wv.heap[d1]? = some (.cells #[.slice none 0 0] 34 (0, 0))) ∧ d0 ≠ d1 ∧ RowsR 2 unC wv (.slice pc0 us0.length kc0) us0)
          case first =>
           intro hn1_01
           apply cutG6_nononw (R := fun d0 pc0 kc0 pc1 kc1 wv => Below w23.heap.size w23 wv ∧ (w23.heap.size ≤ d0 ∧ wv.heap[d0]? = some (.cells #[.slice none 0 0] 34 (0, 0))) ∧ RowsR 2 unC wv (.slice pc0 us0.length kc0) us0 ∧ RowsR 1 inC wv (.slice pc1 cs1.length kc1) cs1)
           case first =>
            intro hn2_0
            apply cutG6_nononw (R := fun d1 pc0 kc0 pc1 kc1 wv => Below w23.heap.size w23 wv ∧ (w23.heap.size ≤ d1 ∧ wv.heap[d1]? = some (.cells #[.slice none 0 0] 34 (0, 0))) ∧ RowsR 2 unC wv (.slice pc0 us0.length kc0) us0 ∧ RowsR 1 inC wv (.slice pc1 cs1.length kc1) cs1)
            case first =>
             intro hn2_1
             apply cutG9_ononononw (R := fun pc0 kc0 pc1 kc1 pr0 kr0 pr1 kr1 wv => Below w23.heap.size w23 wv ∧ True ∧ True ∧ (∃ lo hi, OwB lo hi wv (.slice pr0 qs0.length kr0) (.slice pr1 qs1.length kr1) qs0 qs1 ∧ lo ≤ hi ∧ hi ≤ wv.heap.size))
             case first =>
              intro hn3_
              apply cutG3_nnw (R := fun d0 d1 wv => Below w23.heap.size w23 wv ∧ (w23.heap.size ≤ d0 ∧ wv.heap[d0]? = some (.cells #[.slice none 0 0] 34 (0, 0))) ∧ (w23.heap.size ≤ d1 ∧ wv.heap[d1]? = some (.cells #[.slice none 0 0] 34 (0, 0))) ∧ d0 ≠ d1)
              case first =>
               intro hn0_01
               apply cutG4_nonw (R := fun d0 pc0 kc0 wv => Below w23.heap.size w23 wv ∧ (w23.heap.size ≤ d0 ∧ wv.heap[d0]? = some (.cells #[.slice none 0 0] 34 (0, 0))) ∧ RowsR 2 unC wv (.slice pc0 us0.length kc0) us0)
               case first =>
                intro hn1_0
                apply cutG4_nonw (R := fun d1 pc0 kc0 wv => Below w23.heap.size w23 wv ∧ (w23.heap.size ≤ d1 ∧ wv.heap[d1]? = some (.cells #[.slice none 0 0] 34 (0, 0))) ∧ RowsR 2 unC wv (.slice pc0 us0.length kc0) us0)
                case first =>
                 intro hn1_1
                 apply cutG5_ononw (R := fun pc0 kc0 pc1 kc1 wv => Below w23.heap.size w23 wv ∧ RowsR 2 unC wv (.slice pc0 us0.length kc0) us0 ∧ RowsR 1 inC wv (.slice pc1 cs1.length kc1) cs1)
                 case first =>
                  intro hn2_
                  apply cutG2_nw (R := fun d0 wv => Below w23.heap.size w23 wv ∧ (w23.heap.size ≤ d0 ∧ wv.heap[d0]? = some (.cells #[.slice none 0 0] 34 (0, 0))))
                  case first =>
                   intro hn0_0
                   apply cutG2_nw (R := fun d1 wv => Below w23.heap.size w23 wv ∧ (w23.heap.size ≤ d1 ∧ wv.heap[d1]? = some (.cells #[.slice none 0 0] 34 (0, 0))))
                   case first =>
                    intro hn0_1
                    apply cutG3_onw (R := fun pc0 kc0 wv => Below w23.heap.size w23 wv ∧ RowsR 2 unC wv (.slice pc0 us0.length kc0) us0)
                    case first =>
                     intro hn1_
                     refine wp_region_held_drew (S := (fun w' => w'.cell? ⟨w.heap.size, 0, none⟩ = some (.slice ad1 cs1.length cp1))) (by kernel_rfl) (ca10) (fun hHeld => ?_)
                     have hl : Below w23.heap.size w23 w23.drew := (Below.refl _ _).drew
                     generalize w23.drew = wv at hl hHeld ⊢
                     refine take1 (i := 0) (v := ?v21) (some 124) rfl rfl (by kernel_rfl) (by kernel_rfl) (by kernel_rfl) (fun _ _ _ h => h) (Or.inl ⟨by rfl, ?y21⟩) (by assumption) ?r21
                     case y21 => (intro w hSw; (try dsimp only at hSw); go_simp; (first | done | with_reducible rfl))
                     try simp only [Act.put, List.setIfInBounds_toArray, List.set_cons_zero, List.set_cons_succ]
                     refine take1 (i := 2) (v := ?v22) (some 126) rfl rfl (by kernel_rfl) (by kernel_rfl) (by kernel_rfl) (fun _ _ _ h => h) (Or.inl ⟨by rfl, ?y22⟩) (by assumption) ?r22
                     case y22 => (intro w hSw; (try dsimp only at hSw); go_simp; (first | done | with_reducible rfl))
                     try simp only [Act.put, List.setIfInBounds_toArray, List.set_cons_zero, List.set_cons_succ]
                     refine take1 (i := 4) (v := ?v23) (some 128) rfl rfl (by kernel_rfl) (by kernel_rfl) (by kernel_rfl) (fun _ _ _ h => h) (Or.inl ⟨by rfl, ?y23⟩) (by assumption) ?r23
                     case y23 => (intro w hSw; (try dsimp only at hSw); go_simp; (first | done | with_reducible rfl))
                     try simp only [Act.put, List.setIfInBounds_toArray, List.set_cons_zero, List.set_cons_succ]
                     refine wpAnyH_ready (rs := [1, 10, 11]) (by kernel_rfl) (by simp) ?_
                     refine AllReadyH.cons rfl (fun K hK => ?_) (AllReadyH.cons rfl (fun K hK => ?_) (AllReadyH.cons rfl (fun K hK => ?_) AllReadyH.nil))
                     · go_simp
                       go_at_call 15
                       refine (toUnitS_any _ us0 _ (HRAh0.out.below hl (Nat.le_refl _)) hn0).mono ?_
                       rintro e w2 ⟨⟨s7, rfl, ho⟩, hb⟩
                       obtain ⟨pc0, kc0, rfl⟩ := own_form ho
                       have hc0 := RowsR.of_own unC_len ho
                       clear ho
                       have hl2 := hl.trans (hb.mono hl.size)
                       try go_simp
                       refine hK.out _ _ ((cell1 ((hl2.block _ hlah1).trans HKAh1.out)).1) (fun hHeld => ?_)
                       clear hK K
                       try simp only [Act.put, List.setIfInBounds_toArray, List.set_cons_zero, List.set_cons_succ]
                       exact hn1_ pc0 kc0 w2 ⟨hl2, hc0⟩
                     · go_simp
                       have hb : Below wv.heap.size wv (wv.alloc (.cells #[.slice none 0 0] 34)) := (Below.refl _ _).alloc (Nat.le_refl _) _
                       have hd0 : (wv.alloc (.cells #[.slice none 0 0] 34)).heap[wv.heap.size]? = some (.cells #[.slice none 0 0] 34 (0, 0)) := alloc_at rfl
                       have hw0 : w23.heap.size ≤ wv.heap.size := hl.size
                       generalize wv.alloc (.cells #[.slice none 0 0] 34) = w2 at hb hd0 ⊢
                       have hl2 := hl.trans (hb.mono hl.size)
                       generalize wv.heap.size = d0 at hd0 hw0 ⊢
                       clear hb hl
                       refine hK.out _ _ ((cell1 ((hl2.block _ hlah1).trans HKAh1.out)).1) (fun hHeld => ?_)
                       clear hK K
                       try simp only [Act.put, List.setIfInBounds_toArray, List.set_cons_zero, List.set_cons_succ]
                       exact hn0_0 d0 w2 ⟨hl2, ⟨hw0, hd0⟩⟩
                     · go_simp
                       have hb : Below wv.heap.size wv (wv.alloc (.cells #[.slice none 0 0] 34)) := (Below.refl _ _).alloc (Nat.le_refl _) _
                       have hd1 : (wv.alloc (.cells #[.slice none 0 0] 34)).heap[wv.heap.size]? = some (.cells #[.slice none 0 0] 34 (0, 0)) := alloc_at rfl
                       have hw1 : w23.heap.size ≤ wv.heap.size := hl.size
                       generalize wv.alloc (.cells #[.slice none 0 0] 34) = w2 at hb hd1 ⊢
                       have hl2 := hl.trans (hb.mono hl.size)
                       generalize wv.heap.size = d1 at hd1 hw1 ⊢
                       clear hb hl
                       refine hK.out _ _ ((cell1 ((hl2.block _ hlah1).trans HKAh1.out)).1) (fun hHeld => ?_)
                       clear hK K
                       try simp only [Act.put, List.setIfInBounds_toArray, List.set_cons_zero, List.set_cons_succ]
                       exact hn0_1 d1 w2 ⟨hl2, ⟨hw1, hd1⟩⟩
                    case rest =>
                     rintro pc0 kc0 wv ⟨hl, hc0⟩
                     have hHeld := (cell1 ((hl.block _ hlah1).trans HKAh1.out)).1
                     refine wpAnyH_ready (rs := [3, 10, 11]) (by kernel_rfl) (by simp) ?_
                     refine AllReadyH.cons rfl (fun K hK => ?_) (AllReadyH.cons rfl (fun K hK => ?_) (AllReadyH.cons rfl (fun K hK => ?_) AllReadyH.nil))
                     · go_simp
                       go_at_call 20
                       refine (toAmount_any _ cs1 _ (HRAh1.out.below hl (Nat.le_refl _)) hn1).mono ?_
                       rintro e w2 ⟨⟨s7, rfl, ho⟩, hb⟩
                       obtain ⟨pc1, kc1, rfl⟩ := ho.form
                       have hc1 := ho.reads
                       clear ho
                       have hl2 := hl.trans (hb.mono hl.size)
                       replace hc0 := hc0.below hb (Nat.le_refl _)
                       try go_simp
                       refine hK.out _ _ ((cell1 ((hl2.block _ hlah1).trans HKAh1.out)).1) (fun hHeld => ?_)
                       clear hK K
                       try simp only [Act.put, List.setIfInBounds_toArray, List.set_cons_zero, List.set_cons_succ]
                       exact hn2_ pc0 kc0 pc1 kc1 w2 ⟨hl2, hc0, hc1⟩
                     · go_simp
                       have hb : Below wv.heap.size wv (wv.alloc (.cells #[.slice none 0 0] 34)) := (Below.refl _ _).alloc (Nat.le_refl _) _
                       have hd0 : (wv.alloc (.cells #[.slice none 0 0] 34)).heap[wv.heap.size]? = some (.cells #[.slice none 0 0] 34 (0, 0)) := alloc_at rfl
                       have hw0 : w23.heap.size ≤ wv.heap.size := hl.size
                       generalize wv.alloc (.cells #[.slice none 0 0] 34) = w2 at hb hd0 ⊢
                       have hl2 := hl.trans (hb.mono hl.size)
                       replace hc0 := hc0.below hb (Nat.le_refl _)
                       generalize wv.heap.size = d0 at hd0 hw0 ⊢
                       clear hb hl
                       refine hK.out _ _ ((cell1 ((hl2.block _ hlah1).trans HKAh1.out)).1) (fun hHeld => ?_)
                       clear hK K
                       try simp only [Act.put, List.setIfInBounds_toArray, List.set_cons_zero, List.set_cons_succ]
                       exact hn1_0 d0 pc0 kc0 w2 ⟨hl2, ⟨hw0, hd0⟩, hc0⟩
                     · go_simp
                       have hb : Below wv.heap.size wv (wv.alloc (.cells #[.slice none 0 0] 34)) := (Below.refl _ _).alloc (Nat.le_refl _) _
                       have hd1 : (wv.alloc (.cells #[.slice none 0 0] 34)).heap[wv.heap.size]? = some (.cells #[.slice none 0 0] 34 (0, 0)) := alloc_at rfl
                       have hw1 : w23.heap.size ≤ wv.heap.size := hl.size
                       generalize wv.alloc (.cells #[.slice none 0 0] 34) = w2 at hb hd1 ⊢
                       have hl2 := hl.trans (hb.mono hl.size)
                       replace hc0 := hc0.below hb (Nat.le_refl _)
                       generalize wv.heap.size = d1 at hd1 hw1 ⊢
                       clear hb hl
                       refine hK.out _ _ ((cell1 ((hl2.block _ hlah1).trans HKAh1.out)).1) (fun hHeld => ?_)
                       clear hK K
                       try simp only [Act.put, List.setIfInBounds_toArray, List.set_cons_zero, List.set_cons_succ]
                       exact hn1_1 d1 pc0 kc0 w2 ⟨hl2, ⟨hw1, hd1⟩, hc0⟩
                   case rest =>
                    rintro d1 wv ⟨hl, ⟨hw1, hd1⟩⟩
                    have hHeld := (cell1 ((hl.block _ hlah1).trans HKAh1.out)).1
                    refine wpAnyH_ready (rs := [1, 10]) (by kernel_rfl) (by simp) ?_
                    refine AllReadyH.cons rfl (fun K hK => ?_) (AllReadyH.cons rfl (fun K hK => ?_) AllReadyH.nil)
                    · go_simp
                      go_at_call 15
                      refine (toUnitS_any _ us0 _ (HRAh0.out.below hl (Nat.le_refl _)) hn0).mono ?_
                      rintro e w2 ⟨⟨s7, rfl, ho⟩, hb⟩
                      obtain ⟨pc0, kc0, rfl⟩ := own_form ho
                      have hc0 := RowsR.of_own unC_len ho
                      clear ho
                      have hl2 := hl.trans (hb.mono hl.size)
                      have hb1 := lt_of_block hd1
                      replace hd1 := (hb.block _ hb1).trans hd1
                      try go_simp
                      refine hK.out _ _ ((cell1 ((hl2.block _ hlah1).trans HKAh1.out)).1) (fun hHeld => ?_)
                      clear hK K
                      try simp only [Act.put, List.setIfInBounds_toArray, List.set_cons_zero, List.set_cons_succ]
                      exact hn1_1 d1 pc0 kc0 w2 ⟨hl2, ⟨hw1, hd1⟩, hc0⟩
                    · go_simp
                      have hb : Below wv.heap.size wv (wv.alloc (.cells #[.slice none 0 0] 34)) := (Below.refl _ _).alloc (Nat.le_refl _) _
                      have hd0 : (wv.alloc (.cells #[.slice none 0 0] 34)).heap[wv.heap.size]? = some (.cells #[.slice none 0 0] 34 (0, 0)) := alloc_at rfl
                      have hw0 : w23.heap.size ≤ wv.heap.size := hl.size
                      have hne : d1 < wv.heap.size := lt_of_block hd1
                      generalize wv.alloc (.cells #[.slice none 0 0] 34) = w2 at hb hd0 ⊢
                      have hl2 := hl.trans (hb.mono hl.size)
                      replace hd1 := (hb.block _ (lt_of_block hd1)).trans hd1
                      generalize wv.heap.size = d0 at hd0 hw0 hne ⊢
                      replace hne : d0 ≠ d1 := by omega
                      clear hb hl
                      refine hK.out _ _ ((cell1 ((hl2.block _ hlah1).trans HKAh1.out)).1) (fun hHeld => ?_)
                      clear hK K
                      try simp only [Act.put, List.setIfInBounds_toArray, List.set_cons_zero, List.set_cons_succ]
                      exact hn0_01 d0 d1 w2 ⟨hl2, ⟨hw0, hd0⟩, ⟨hw1, hd1⟩, hne⟩
                  case rest =>
                   rintro d0 wv ⟨hl, ⟨hw0, hd0⟩⟩
                   have hHeld := (cell1 ((hl.block _ hlah1).trans HKAh1.out)).1
                   refine wpAnyH_ready (rs := [1, 11]) (by kernel_rfl) (by simp) ?_
                   refine AllReadyH.cons rfl (fun K hK => ?_) (AllReadyH.cons rfl (fun K hK => ?_) AllReadyH.nil)
                   · go_simp
                     go_at_call 15
                     refine (toUnitS_any _ us0 _ (HRAh0.out.below hl (Nat.le_refl _)) hn0).mono ?_
                     rintro e w2 ⟨⟨s7, rfl, ho⟩, hb⟩
                     obtain ⟨pc0, kc0, rfl⟩ := own_form ho
                     have hc0 := RowsR.of_own unC_len ho
                     clear ho
                     have hl2 := hl.trans (hb.mono hl.size)
                     have hb0 := lt_of_block hd0
                     replace hd0 := (hb.block _ hb0).trans hd0
                     try go_simp
                     refine hK.out _ _ ((cell1 ((hl2.block _ hlah1).trans HKAh1.out)).1) (fun hHeld => ?_)
                     clear hK K
                     try simp only [Act.put, List.setIfInBounds_toArray, List.set_cons_zero, List.set_cons_succ]
                     exact hn1_0 d0 pc0 kc0 w2 ⟨hl2, ⟨hw0, hd0⟩, hc0⟩
                   · go_simp
                     have hb : Below wv.heap.size wv (wv.alloc (.cells #[.slice none 0 0] 34)) := (Below.refl _ _).alloc (Nat.le_refl _) _
                     have hd1 : (wv.alloc (.cells #[.slice none 0 0] 34)).heap[wv.heap.size]? = some (.cells #[.slice none 0 0] 34 (0, 0)) := alloc_at rfl
                     have hw1 : w23.heap.size ≤ wv.heap.size := hl.size
                     have hne : d0 < wv.heap.size := lt_of_block hd0
                     generalize wv.alloc (.cells #[.slice none 0 0] 34) = w2 at hb hd1 ⊢
                     have hl2 := hl.trans (hb.mono hl.size)
                     replace hd0 := (hb.block _ (lt_of_block hd0)).trans hd0
                     generalize wv.heap.size = d1 at hd1 hw1 hne ⊢
                     replace hne : d0 ≠ d1 := by omega
                     clear hb hl
                     refine hK.out _ _ ((cell1 ((hl2.block _ hlah1).trans HKAh1.out)).1) (fun hHeld => ?_)
                     clear hK K
                     try simp only [Act.put, List.setIfInBounds_toArray, List.set_cons_zero, List.set_cons_succ]
                     exact hn0_01 d0 d1 w2 ⟨hl2, ⟨hw0, hd0⟩, ⟨hw1, hd1⟩, hne⟩
                 case rest =>
                  rintro pc0 kc0 pc1 kc1 wv ⟨hl, hc0, hc1⟩
                  have hHeld := (cell1 ((hl.block _ hlah1).trans HKAh1.out)).1
                  refine wpAnyH_ready (rs := [5, 10, 11]) (by kernel_rfl) (by simp) ?_
                  refine AllReadyH.cons rfl (fun K hK => ?_) (AllReadyH.cons rfl (fun K hK => ?_) (AllReadyH.cons rfl (fun K hK => ?_) AllReadyH.nil))
                  · go_simp
                    go_at_call 37
                    refine (HI.out _ _ _ hc0 hc1).mono ?_
                    rintro e w2 ⟨⟨t0, t1, rfl, ho⟩, hb⟩
                    obtain ⟨pr0, kr0, pr1, kr1, rfl, rfl⟩ := ho.form
                    have hl2 := hl.trans (hb.mono hl.size)
                    clear hc0
                    clear hc1
                    have hlh := hb.size
                    obtain ⟨lo, hlo⟩ : ∃ lo, lo = wv.heap.size := ⟨_, rfl⟩
                    rw [← hlo] at ho hlh
                    obtain ⟨hi, hhe⟩ : ∃ hi, hi = w2.heap.size := ⟨_, rfl⟩
                    rw [← hhe] at ho hlh
                    have hhi : hi ≤ w2.heap.size := by omega
                    try go_simp
                    refine hK.out _ _ ((cell1 ((hl2.block _ hlah1).trans HKAh1.out)).1) (fun hHeld => ?_)
                    clear hK K
                    try simp only [Act.put, List.setIfInBounds_toArray, List.set_cons_zero, List.set_cons_succ]
                    refine take1 (i := 6) (v := ?v24) (some 123) rfl rfl (by kernel_rfl) (by kernel_rfl) (by kernel_rfl) (fun _ _ _ h => h) (Or.inl ⟨by rfl, ?y24⟩) (by assumption) ?r24
                    case y24 => (intro w hSw; (try dsimp only at hSw); go_simp; (first | done | with_reducible rfl))
                    try simp only [Act.put, List.setIfInBounds_toArray, List.set_cons_zero, List.set_cons_succ]
                    refine take1 (i := 7) (v := ?v25) (some 130) rfl rfl (by kernel_rfl) (by kernel_rfl) (by kernel_rfl) (fun _ _ _ h => h) (Or.inl ⟨by rfl, ?y25⟩) (by assumption) ?r25
                    case y25 => (intro w hSw; (try dsimp only at hSw); go_simp; (first | done | with_reducible rfl))
                    try simp only [Act.put, List.setIfInBounds_toArray, List.set_cons_zero, List.set_cons_succ]
                    refine take1 (i := 8) (v := ?v26) (some 131) rfl rfl (by kernel_rfl) (by kernel_rfl) (by kernel_rfl) (fun _ _ _ h => h) (Or.inl ⟨by rfl, ?y26⟩) (by assumption) ?r26
                    case y26 => (intro w hSw; (try dsimp only at hSw); go_simp; (first | done | with_reducible rfl))
                    try simp only [Act.put, List.setIfInBounds_toArray, List.set_cons_zero, List.set_cons_succ]
                    refine take1 (i := 9) (v := ?v27) (some 132) rfl rfl (by kernel_rfl) (by kernel_rfl) (by kernel_rfl) (fun _ _ _ h => h) (Or.inl ⟨by rfl, ?y27⟩) (by assumption) ?r27
                    case y27 => (intro w hSw; (try dsimp only at hSw); go_simp; (first | done | with_reducible rfl))
                    try simp only [Act.put, List.setIfInBounds_toArray, List.set_cons_zero, List.set_cons_succ]
                    exact hn3_ pc0 kc0 pc1 kc1 pr0 kr0 pr1 kr1 w2 ⟨hl2, trivial, trivial, ⟨lo, hi, ho, hlh, hhi⟩⟩
                  · go_simp
                    have hb : Below wv.heap.size wv (wv.alloc (.cells #[.slice none 0 0] 34)) := (Below.refl _ _).alloc (Nat.le_refl _) _
                    have hd0 : (wv.alloc (.cells #[.slice none 0 0] 34)).heap[wv.heap.size]? = some (.cells #[.slice none 0 0] 34 (0, 0)) := alloc_at rfl
                    have hw0 : w23.heap.size ≤ wv.heap.size := hl.size
                    generalize wv.alloc (.cells #[.slice none 0 0] 34) = w2 at hb hd0 ⊢
                    have hl2 := hl.trans (hb.mono hl.size)
                    replace hc0 := hc0.below hb (Nat.le_refl _)
                    replace hc1 := hc1.below hb (Nat.le_refl _)
                    generalize wv.heap.size = d0 at hd0 hw0 ⊢
                    clear hb hl
                    refine hK.out _ _ ((cell1 ((hl2.block _ hlah1).trans HKAh1.out)).1) (fun hHeld => ?_)
                    clear hK K
                    try simp only [Act.put, List.setIfInBounds_toArray, List.set_cons_zero, List.set_cons_succ]
                    exact hn2_0 d0 pc0 kc0 pc1 kc1 w2 ⟨hl2, ⟨hw0, hd0⟩, hc0, hc1⟩
                  · go_simp
                    have hb : Below wv.heap.size wv (wv.alloc (.cells #[.slice none 0 0] 34)) := (Below.refl _ _).alloc (Nat.le_refl _) _
                    have hd1 : (wv.alloc (.cells #[.slice none 0 0] 34)).heap[wv.heap.size]? = some (.cells #[.slice none 0 0] 34 (0, 0)) := alloc_at rfl
                    have hw1 : w23.heap.size ≤ wv.heap.size := hl.size
                    generalize wv.alloc (.cells #[.slice none 0 0] 34) = w2 at hb hd1 ⊢
                    have hl2 := hl.trans (hb.mono hl.size)
                    replace hc0 := hc0.below hb (Nat.le_refl _)
                    replace hc1 := hc1.below hb (Nat.le_refl _)
                    generalize wv.heap.size = d1 at hd1 hw1 ⊢
                    clear hb hl
                    refine hK.out _ _ ((cell1 ((hl2.block _ hlah1).trans HKAh1.out)).1) (fun hHeld => ?_)
                    clear hK K
                    try simp only [Act.put, List.setIfInBounds_toArray, List.set_cons_zero, List.set_cons_succ]
                    exact hn2_1 d1 pc0 kc0 pc1 kc1 w2 ⟨hl2, ⟨hw1, hd1⟩, hc0, hc1⟩
                case rest =>
                 rintro d1 pc0 kc0 wv ⟨hl, ⟨hw1, hd1⟩, hc0⟩
                 have hHeld := (cell1 ((hl.block _ hlah1).trans HKAh1.out)).1
                 refine wpAnyH_ready (rs := [3, 10]) (by kernel_rfl) (by simp) ?_
                 refine AllReadyH.cons rfl (fun K hK => ?_) (AllReadyH.cons rfl (fun K hK => ?_) AllReadyH.nil)
                 · go_simp
                   go_at_call 20
                   refine (toAmount_any _ cs1 _ (HRAh1.out.below hl (Nat.le_refl _)) hn1).mono ?_
                   rintro e w2 ⟨⟨s7, rfl, ho⟩, hb⟩
                   obtain ⟨pc1, kc1, rfl⟩ := ho.form
                   have hc1 := ho.reads
                   clear ho
                   have hl2 := hl.trans (hb.mono hl.size)
                   have hb1 := lt_of_block hd1
                   replace hd1 := (hb.block _ hb1).trans hd1
                   replace hc0 := hc0.below hb (Nat.le_refl _)
                   try go_simp
                   refine hK.out _ _ ((cell1 ((hl2.block _ hlah1).trans HKAh1.out)).1) (fun hHeld => ?_)
                   clear hK K
                   try simp only [Act.put, List.setIfInBounds_toArray, List.set_cons_zero, List.set_cons_succ]
                   exact hn2_1 d1 pc0 kc0 pc1 kc1 w2 ⟨hl2, ⟨hw1, hd1⟩, hc0, hc1⟩
                 · go_simp
                   have hb : Below wv.heap.size wv (wv.alloc (.cells #[.slice none 0 0] 34)) := (Below.refl _ _).alloc (Nat.le_refl _) _
                   have hd0 : (wv.alloc (.cells #[.slice none 0 0] 34)).heap[wv.heap.size]? = some (.cells #[.slice none 0 0] 34 (0, 0)) := alloc_at rfl
                   have hw0 : w23.heap.size ≤ wv.heap.size := hl.size
                   have hne : d1 < wv.heap.size := lt_of_block hd1
                   generalize wv.alloc (.cells #[.slice none 0 0] 34) = w2 at hb hd0 ⊢
                   have hl2 := hl.trans (hb.mono hl.size)
                   replace hd1 := (hb.block _ (lt_of_block hd1)).trans hd1
                   replace hc0 := hc0.below hb (Nat.le_refl _)
                   generalize wv.heap.size = d0 at hd0 hw0 hne ⊢
                   replace hne : d0 ≠ d1 := by omega
                   clear hb hl
                   refine hK.out _ _ ((cell1 ((hl2.block _ hlah1).trans HKAh1.out)).1) (fun hHeld => ?_)
                   clear hK K
                   try simp only [Act.put, List.setIfInBounds_toArray, List.set_cons_zero, List.set_cons_succ]
                   exact hn1_01 d0 d1 pc0 kc0 w2 ⟨hl2, ⟨hw0, hd0⟩, ⟨hw1, hd1⟩, hne, hc0⟩
               case rest =>
                rintro d0 pc0 kc0 wv ⟨hl, ⟨hw0, hd0⟩, hc0⟩
                have hHeld := (cell1 ((hl.block _ hlah1).trans HKAh1.out)).1
                refine wpAnyH_ready (rs := [3, 11]) (by kernel_rfl) (by simp) ?_
                refine AllReadyH.cons rfl (fun K hK => ?_) (AllReadyH.cons rfl (fun K hK => ?_) AllReadyH.nil)
                · go_simp
                  go_at_call 20
                  refine (toAmount_any _ cs1 _ (HRAh1.out.below hl (Nat.le_refl _)) hn1).mono ?_
                  rintro e w2 ⟨⟨s7, rfl, ho⟩, hb⟩
                  obtain ⟨pc1, kc1, rfl⟩ := ho.form
                  have hc1 := ho.reads
                  clear ho
                  have hl2 := hl.trans (hb.mono hl.size)
                  have hb0 := lt_of_block hd0
                  replace hd0 := (hb.block _ hb0).trans hd0
                  replace hc0 := hc0.below hb (Nat.le_refl _)
                  try go_simp
                  refine hK.out _ _ ((cell1 ((hl2.block _ hlah1).trans HKAh1.out)).1) (fun hHeld => ?_)
                  clear hK K
                  try simp only [Act.put, List.setIfInBounds_toArray, List.set_cons_zero, List.set_cons_succ]
                  exact hn2_0 d0 pc0 kc0 pc1 kc1 w2 ⟨hl2, ⟨hw0, hd0⟩, hc0, hc1⟩
                · go_simp
                  have hb : Below wv.heap.size wv (wv.alloc (.cells #[.slice none 0 0] 34)) := (Below.refl _ _).alloc (Nat.le_refl _) _
                  have hd1 : (wv.alloc (.cells #[.slice none 0 0] 34)).heap[wv.heap.size]? = some (.cells #[.slice none 0 0] 34 (0, 0)) := alloc_at rfl
                  have hw1 : w23.heap.size ≤ wv.heap.size := hl.size
                  have hne : d0 < wv.heap.size := lt_of_block hd0
                  generalize wv.alloc (.cells #[.slice none 0 0] 34) = w2 at hb hd1 ⊢
                  have hl2 := hl.trans (hb.mono hl.size)
                  replace hd0 := (hb.block _ (lt_of_block hd0)).trans hd0
                  replace hc0 := hc0.below hb (Nat.le_refl _)
                  generalize wv.heap.size = d1 at hd1 hw1 hne ⊢
                  replace hne : d0 ≠ d1 := by omega
                  clear hb hl
                  refine hK.out _ _ ((cell1 ((hl2.block _ hlah1).trans HKAh1.out)).1) (fun hHeld => ?_)
                  clear hK K
                  try simp only [Act.put, List.setIfInBounds_toArray, List.set_cons_zero, List.set_cons_succ]
                  exact hn1_01 d0 d1 pc0 kc0 w2 ⟨hl2, ⟨hw0, hd0⟩, ⟨hw1, hd1⟩, hne, hc0⟩
              case rest =>
               rintro d0 d1 wv ⟨hl, ⟨hw0, hd0⟩, ⟨hw1, hd1⟩, hne⟩
               have hHeld := (cell1 ((hl.block _ hlah1).trans HKAh1.out)).1
               refine wpAnyH_ready (rs := [1]) (by kernel_rfl) (by simp) ?_
               refine AllReadyH.cons rfl (fun K hK => ?_) AllReadyH.nil
               go_simp
               go_at_call 15
               refine (toUnitS_any _ us0 _ (HRAh0.out.below hl (Nat.le_refl _)) hn0).mono ?_
               rintro e w2 ⟨⟨s7, rfl, ho⟩, hb⟩
               obtain ⟨pc0, kc0, rfl⟩ := own_form ho
               have hc0 := RowsR.of_own unC_len ho
               clear ho
               have hl2 := hl.trans (hb.mono hl.size)
               have hb0 := lt_of_block hd0
               replace hd0 := (hb.block _ hb0).trans hd0
               have hb1 := lt_of_block hd1
               replace hd1 := (hb.block _ hb1).trans hd1
               try go_simp
               refine hK.out _ _ ((cell1 ((hl2.block _ hlah1).trans HKAh1.out)).1) (fun hHeld => ?_)
               clear hK K
               try simp only [Act.put, List.setIfInBounds_toArray, List.set_cons_zero, List.set_cons_succ]
               exact hn1_01 d0 d1 pc0 kc0 w2 ⟨hl2, ⟨hw0, hd0⟩, ⟨hw1, hd1⟩, hne, hc0⟩
             case rest =>
              rintro pc0 kc0 pc1 kc1 pr0 kr0 pr1 kr1 wv ⟨hl, hc0, hc1, ⟨lo, hi, ho, hlh, hhi⟩⟩
              have hHeld := (cell1 ((hl.block _ hlah1).trans HKAh1.out)).1
              refine wpAnyH_ready (rs := [10, 11]) (by kernel_rfl) (by simp) ?_
              refine AllReadyH.cons rfl (fun K hK => ?_) (AllReadyH.cons rfl (fun K hK => ?_) AllReadyH.nil)
              · go_simp
                have hb : Below wv.heap.size wv (wv.alloc (.cells #[.slice none 0 0] 34)) := (Below.refl _ _).alloc (Nat.le_refl _) _
                have hd0 : (wv.alloc (.cells #[.slice none 0 0] 34)).heap[wv.heap.size]? = some (.cells #[.slice none 0 0] 34 (0, 0)) := alloc_at rfl
                have hw0 : w23.heap.size ≤ wv.heap.size := hl.size
                generalize wv.alloc (.cells #[.slice none 0 0] 34) = w2 at hb hd0 ⊢
                have hl2 := hl.trans (hb.mono hl.size)
                replace ho := ho.next hb
                have hj0 : wv.heap.size < lo ∨ hi ≤ wv.heap.size := .inr hhi
                replace hhi : hi ≤ w2.heap.size := Nat.le_trans hhi hb.size
                generalize wv.heap.size = d0 at hd0 hw0 hj0 ⊢
                clear hb hl
                refine hK.out _ _ ((cell1 ((hl2.block _ hlah1).trans HKAh1.out)).1) (fun hHeld => ?_)
                clear hK K
                try simp only [Act.put, List.setIfInBounds_toArray, List.set_cons_zero, List.set_cons_succ]
                exact hn3_0 d0 pc0 kc0 pc1 kc1 pr0 kr0 pr1 kr1 w2 ⟨hl2, ⟨hw0, hd0⟩, trivial, trivial, ⟨lo, hi, ho, hlh, hhi, hj0⟩⟩
              · go_simp
                have hb : Below wv.heap.size wv (wv.alloc (.cells #[.slice none 0 0] 34)) := (Below.refl _ _).alloc (Nat.le_refl _) _
                have hd1 : (wv.alloc (.cells #[.slice none 0 0] 34)).heap[wv.heap.size]? = some (.cells #[.slice none 0 0] 34 (0, 0)) := alloc_at rfl
                have hw1 : w23.heap.size ≤ wv.heap.size := hl.size
                generalize wv.alloc (.cells #[.slice none 0 0] 34) = w2 at hb hd1 ⊢
                have hl2 := hl.trans (hb.mono hl.size)
                replace ho := ho.next hb
                have hj1 : wv.heap.size < lo ∨ hi ≤ wv.heap.size := .inr hhi
                replace hhi : hi ≤ w2.heap.size := Nat.le_trans hhi hb.size
                generalize wv.heap.size = d1 at hd1 hw1 hj1 ⊢
                clear hb hl
                refine hK.out _ _ ((cell1 ((hl2.block _ hlah1).trans HKAh1.out)).1) (fun hHeld => ?_)
                clear hK K
                try simp only [Act.put, List.setIfInBounds_toArray, List.set_cons_zero, List.set_cons_succ]
                exact hn3_1 d1 pc0 kc0 pc1 kc1 pr0 kr0 pr1 kr1 w2 ⟨hl2, ⟨hw1, hd1⟩, trivial, trivial, ⟨lo, hi, ho, hlh, hhi, hj1⟩⟩
            case rest =>
             rintro d1 pc0 kc0 pc1 kc1 wv ⟨hl, ⟨hw1, hd1⟩, hc0, hc1⟩
             have hHeld := (cell1 ((hl.block _ hlah1).trans HKAh1.out)).1
             refine wpAnyH_ready (rs := [5, 10]) (by kernel_rfl) (by simp) ?_
             refine AllReadyH.cons rfl (fun K hK => ?_) (AllReadyH.cons rfl (fun K hK => ?_) AllReadyH.nil)
             · go_simp
               go_at_call 37
               refine (HI.out _ _ _ hc0 hc1).mono ?_
               rintro e w2 ⟨⟨t0, t1, rfl, ho⟩, hb⟩
               obtain ⟨pr0, kr0, pr1, kr1, rfl, rfl⟩ := ho.form
               have hl2 := hl.trans (hb.mono hl.size)
               have hb1 := lt_of_block hd1
               replace hd1 := (hb.block _ hb1).trans hd1
               clear hc0
               clear hc1
               have hlh := hb.size
               obtain ⟨lo, hlo⟩ : ∃ lo, lo = wv.heap.size := ⟨_, rfl⟩
               rw [← hlo] at ho hlh
               obtain ⟨hi, hhe⟩ : ∃ hi, hi = w2.heap.size := ⟨_, rfl⟩
               rw [← hhe] at ho hlh
               have hhi : hi ≤ w2.heap.size := by omega
               have hj1 : d1 < lo ∨ hi ≤ d1 := .inl (by omega)
               try go_simp
               refine hK.out _ _ ((cell1 ((hl2.block _ hlah1).trans HKAh1.out)).1) (fun hHeld => ?_)
               clear hK K
               try simp only [Act.put, List.setIfInBounds_toArray, List.set_cons_zero, List.set_cons_succ]
               refine take1 (i := 6) (v := ?v28) (some 123) rfl rfl (by kernel_rfl) (by kernel_rfl) (by kernel_rfl) (fun _ _ _ h => h) (Or.inl ⟨by rfl, ?y28⟩) (by assumption) ?r28
               case y28 => (intro w hSw; (try dsimp only at hSw); go_simp; (first | done | with_reducible rfl))
               try simp only [Act.put, List.setIfInBounds_toArray, List.set_cons_zero, List.set_cons_succ]
               refine take1 (i := 7) (v := ?v29) (some 130) rfl rfl (by kernel_rfl) (by kernel_rfl) (by kernel_rfl) (fun _ _ _ h => h) (Or.inl ⟨by rfl, ?y29⟩) (by assumption) ?r29
               case y29 => (intro w hSw; (try dsimp only at hSw); go_simp; (first | done | with_reducible rfl))
               try simp only [Act.put, List.setIfInBounds_toArray, List.set_cons_zero, List.set_cons_succ]
               refine take1 (i := 8) (v := ?v30) (some 131) rfl rfl (by kernel_rfl) (by kernel_rfl) (by kernel_rfl) (fun _ _ _ h => h) (Or.inl ⟨by rfl, ?y30⟩) (by assumption) ?r30
               case y30 => (intro w hSw; (try dsimp only at hSw); go_simp; (first | done | with_reducible rfl))
               try simp only [Act.put, List.setIfInBounds_toArray, List.set_cons_zero, List.set_cons_succ]
               refine take1 (i := 9) (v := ?v31) (some 132) rfl rfl (by kernel_rfl) (by kernel_rfl) (by kernel_rfl) (fun _ _ _ h => h) (Or.inl ⟨by rfl, ?y31⟩) (by assumption) ?r31
               case y31 => (intro w hSw; (try dsimp only at hSw); go_simp; (first | done | with_reducible rfl))
               try simp only [Act.put, List.setIfInBounds_toArray, List.set_cons_zero, List.set_cons_succ]
               exact hn3_1 d1 pc0 kc0 pc1 kc1 pr0 kr0 pr1 kr1 w2 ⟨hl2, ⟨hw1, hd1⟩, trivial, trivial, ⟨lo, hi, ho, hlh, hhi, hj1⟩⟩
             · go_simp
               have hb : Below wv.heap.size wv (wv.alloc (.cells #[.slice none 0 0] 34)) := (Below.refl _ _).alloc (Nat.le_refl _) _
               have hd0 : (wv.alloc (.cells #[.slice none 0 0] 34)).heap[wv.heap.size]? = some (.cells #[.slice none 0 0] 34 (0, 0)) := alloc_at rfl
               have hw0 : w23.heap.size ≤ wv.heap.size := hl.size
               have hne : d1 < wv.heap.size := lt_of_block hd1
               generalize wv.alloc (.cells #[.slice none 0 0] 34) = w2 at hb hd0 ⊢
               have hl2 := hl.trans (hb.mono hl.size)
               replace hd1 := (hb.block _ (lt_of_block hd1)).trans hd1
               replace hc0 := hc0.below hb (Nat.le_refl _)
               replace hc1 := hc1.below hb (Nat.le_refl _)
               generalize wv.heap.size = d0 at hd0 hw0 hne ⊢
               replace hne : d0 ≠ d1 := by omega
               clear hb hl
               refine hK.out _ _ ((cell1 ((hl2.block _ hlah1).trans HKAh1.out)).1) (fun hHeld => ?_)
               clear hK K
               try simp only [Act.put, List.setIfInBounds_toArray, List.set_cons_zero, List.set_cons_succ]
               exact hn2_01 d0 d1 pc0 kc0 pc1 kc1 w2 ⟨hl2, ⟨hw0, hd0⟩, ⟨hw1, hd1⟩, hne, hc0, hc1⟩
           case rest =>
            rintro d0 pc0 kc0 pc1 kc1 wv ⟨hl, ⟨hw0, hd0⟩, hc0, hc1⟩
            have hHeld := (cell1 ((hl.block _ hlah1).trans HKAh1.out)).1
            refine wpAnyH_ready (rs := [5, 11]) (by kernel_rfl) (by simp) ?_
            refine AllReadyH.cons rfl (fun K hK => ?_) (AllReadyH.cons rfl (fun K hK => ?_) AllReadyH.nil)
            · go_simp
              go_at_call 37
              refine (HI.out _ _ _ hc0 hc1).mono ?_
              rintro e w2 ⟨⟨t0, t1, rfl, ho⟩, hb⟩
              obtain ⟨pr0, kr0, pr1, kr1, rfl, rfl⟩ := ho.form
              have hl2 := hl.trans (hb.mono hl.size)
              have hb0 := lt_of_block hd0
              replace hd0 := (hb.block _ hb0).trans hd0
              clear hc0
              clear hc1
              have hlh := hb.size
              obtain ⟨lo, hlo⟩ : ∃ lo, lo = wv.heap.size := ⟨_, rfl⟩
              rw [← hlo] at ho hlh
              obtain ⟨hi, hhe⟩ : ∃ hi, hi = w2.heap.size := ⟨_, rfl⟩
              rw [← hhe] at ho hlh
              have hhi : hi ≤ w2.heap.size := by omega
              have hj0 : d0 < lo ∨ hi ≤ d0 := .inl (by omega)
              try go_simp
              refine hK.out _ _ ((cell1 ((hl2.block _ hlah1).trans HKAh1.out)).1) (fun hHeld => ?_)
              clear hK K
              try simp only [Act.put, List.setIfInBounds_toArray, List.set_cons_zero, List.set_cons_succ]
              refine take1 (i := 6) (v := ?v32) (some 123) rfl rfl (by kernel_rfl) (by kernel_rfl) (by kernel_rfl) (fun _ _ _ h => h) (Or.inl ⟨by rfl, ?y32⟩) (by assumption) ?r32
              case y32 => (intro w hSw; (try dsimp only at hSw); go_simp; (first | done | with_reducible rfl))
              try simp only [Act.put, List.setIfInBounds_toArray, List.set_cons_zero, List.set_cons_succ]
              refine take1 (i := 7) (v := ?v33) (some 130) rfl rfl (by kernel_rfl) (by kernel_rfl) (by kernel_rfl) (fun _ _ _ h => h) (Or.inl ⟨by rfl, ?y33⟩) (by assumption) ?r33
              case y33 => (intro w hSw; (try dsimp only at hSw); go_simp; (first | done | with_reducible rfl))
              try simp only [Act.put, List.setIfInBounds_toArray, List.set_cons_zero, List.set_cons_succ]
              refine take1 (i := 8) (v := ?v34) (some 131) rfl rfl (by kernel_rfl) (by kernel_rfl) (by kernel_rfl) (fun _ _ _ h => h) (Or.inl ⟨by rfl, ?y34⟩) (by assumption) ?r34
              case y34 => (intro w hSw; (try dsimp only at hSw); go_simp; (first | done | with_reducible rfl))
              try simp only [Act.put, List.setIfInBounds_toArray, List.set_cons_zero, List.set_cons_succ]
              refine take1 (i := 9) (v := ?v35) (some 132) rfl rfl (by kernel_rfl) (by kernel_rfl) (by kernel_rfl) (fun _ _ _ h => h) (Or.inl ⟨by rfl, ?y35⟩) (by assumption) ?r35
              case y35 => (intro w hSw; (try dsimp only at hSw); go_simp; (first | done | with_reducible rfl))
              try simp only [Act.put, List.setIfInBounds_toArray, List.set_cons_zero, List.set_cons_succ]
              exact hn3_0 d0 pc0 kc0 pc1 kc1 pr0 kr0 pr1 kr1 w2 ⟨hl2, ⟨hw0, hd0⟩, trivial, trivial, ⟨lo, hi, ho, hlh, hhi, hj0⟩⟩
            · go_simp
              have hb : Below wv.heap.size wv (wv.alloc (.cells #[.slice none 0 0] 34)) := (Below.refl _ _).alloc (Nat.le_refl _) _
              have hd1 : (wv.alloc (.cells #[.slice none 0 0] 34)).heap[wv.heap.size]? = some (.cells #[.slice none 0 0] 34 (0, 0)) := alloc_at rfl
              have hw1 : w23.heap.size ≤ wv.heap.size := hl.size
              have hne : d0 < wv.heap.size := lt_of_block hd0
              generalize wv.alloc (.cells #[.slice none 0 0] 34) = w2 at hb hd1 ⊢
              have hl2 := hl.trans (hb.mono hl.size)
              replace hd0 := (hb.block _ (lt_of_block hd0)).trans hd0
              replace hc0 := hc0.below hb (Nat.le_refl _)
              replace hc1 := hc1.below hb (Nat.le_refl _)
              generalize wv.heap.size = d1 at hd1 hw1 hne ⊢
              replace hne : d0 ≠ d1 := by omega
              clear hb hl
              refine hK.out _ _ ((cell1 ((hl2.block _ hlah1).trans HKAh1.out)).1) (fun hHeld => ?_)
              clear hK K
              try simp only [Act.put, List.setIfInBounds_toArray, List.set_cons_zero, List.set_cons_succ]
              exact hn2_01 d0 d1 pc0 kc0 pc1 kc1 w2 ⟨hl2, ⟨hw0, hd0⟩, ⟨hw1, hd1⟩, hne, hc0, hc1⟩
          case rest =>
           rintro d0 d1 pc0 kc0 wv ⟨hl, ⟨hw0, hd0⟩, ⟨hw1, hd1⟩, hne, hc0⟩
           have hHeld := (cell1 ((hl.block _ hlah1).trans HKAh1.out)).1
           refine wpAnyH_ready (rs := [3]) (by kernel_rfl) (by simp) ?_
           refine AllReadyH.cons rfl (fun K hK => ?_) AllReadyH.nil
           go_simp
           go_at_call 20
           refine (toAmount_any _ cs1 _ (HRAh1.out.below hl (Nat.le_refl _)) hn1).mono ?_
           rintro e w2 ⟨⟨s7, rfl, ho⟩, hb⟩
           obtain ⟨pc1, kc1, rfl⟩ := ho.form
           have hc1 := ho.reads
           clear ho
           have hl2 := hl.trans (hb.mono hl.size)
           have hb0 := lt_of_block hd0
           replace hd0 := (hb.block _ hb0).trans hd0
           have hb1 := lt_of_block hd1
           replace hd1 := (hb.block _ hb1).trans hd1
           replace hc0 := hc0.below hb (Nat.le_refl _)
           try go_simp
           refine hK.out _ _ ((cell1 ((hl2.block _ hlah1).trans HKAh1.out)).1) (fun hHeld => ?_)
           clear hK K
           try simp only [Act.put, List.setIfInBounds_toArray, List.set_cons_zero, List.set_cons_succ]
           exact hn2_01 d0 d1 pc0 kc0 pc1 kc1 w2 ⟨hl2, ⟨hw0, hd0⟩, ⟨hw1, hd1⟩, hne, hc0, hc1⟩
         case rest =>
          rintro d1 pc0 kc0 pc1 kc1 pr0 kr0 pr1 kr1 wv ⟨hl, ⟨hw1, hd1⟩, hc0, hc1, ⟨lo, hi, ho, hlh, hhi, hj1⟩⟩
          have hHeld := (cell1 ((hl.block _ hlah1).trans HKAh1.out)).1
          refine wpAnyH_ready (rs := [10]) (by kernel_rfl) (by simp) ?_
          refine AllReadyH.cons rfl (fun K hK => ?_) AllReadyH.nil
          go_simp
          have hb : Below wv.heap.size wv (wv.alloc (.cells #[.slice none 0 0] 34)) := (Below.refl _ _).alloc (Nat.le_refl _) _
          have hd0 : (wv.alloc (.cells #[.slice none 0 0] 34)).heap[wv.heap.size]? = some (.cells #[.slice none 0 0] 34 (0, 0)) := alloc_at rfl
          have hw0 : w23.heap.size ≤ wv.heap.size := hl.size
          have hne : d1 < wv.heap.size := lt_of_block hd1
          generalize wv.alloc (.cells #[.slice none 0 0] 34) = w2 at hb hd0 ⊢
          have hl2 := hl.trans (hb.mono hl.size)
          replace hd1 := (hb.block _ (lt_of_block hd1)).trans hd1
          replace ho := ho.next hb
          have hj0 : wv.heap.size < lo ∨ hi ≤ wv.heap.size := .inr hhi
          replace hhi : hi ≤ w2.heap.size := Nat.le_trans hhi hb.size
          generalize wv.heap.size = d0 at hd0 hw0 hne hj0 ⊢
          replace hne : d0 ≠ d1 := by omega
          clear hb hl
          refine hK.out _ _ ((cell1 ((hl2.block _ hlah1).trans HKAh1.out)).1) (fun hHeld => ?_)
          clear hK K
          try simp only [Act.put, List.setIfInBounds_toArray, List.set_cons_zero, List.set_cons_succ]
          exact hn3_01 d0 d1 pc0 kc0 pc1 kc1 pr0 kr0 pr1 kr1 w2 ⟨hl2, ⟨hw0, hd0⟩, ⟨hw1, hd1⟩, hne, trivial, trivial, ⟨lo, hi, ho, hlh, hhi, hj0, hj1⟩⟩
        case rest =>
         rintro d0 pc0 kc0 pc1 kc1 pr0 kr0 pr1 kr1 wv ⟨hl, ⟨hw0, hd0⟩, hc0, hc1, ⟨lo, hi, ho, hlh, hhi, hj0⟩⟩
         have hHeld := (cell1 ((hl.block _ hlah1).trans HKAh1.out)).1
         refine wpAnyH_ready (rs := [11]) (by kernel_rfl) (by simp) ?_
         refine AllReadyH.cons rfl (fun K hK => ?_) AllReadyH.nil
         go_simp
         have hb : Below wv.heap.size wv (wv.alloc (.cells #[.slice none 0 0] 34)) := (Below.refl _ _).alloc (Nat.le_refl _) _
         have hd1 : (wv.alloc (.cells #[.slice none 0 0] 34)).heap[wv.heap.size]? = some (.cells #[.slice none 0 0] 34 (0, 0)) := alloc_at rfl
         have hw1 : w23.heap.size ≤ wv.heap.size := hl.size
         have hne : d0 < wv.heap.size := lt_of_block hd0
         generalize wv.alloc (.cells #[.slice none 0 0] 34) = w2 at hb hd1 ⊢
         have hl2 := hl.trans (hb.mono hl.size)
         replace hd0 := (hb.block _ (lt_of_block hd0)).trans hd0
         replace ho := ho.next hb
         have hj1 : wv.heap.size < lo ∨ hi ≤ wv.heap.size := .inr hhi
         replace hhi : hi ≤ w2.heap.size := Nat.le_trans hhi hb.size
         generalize wv.heap.size = d1 at hd1 hw1 hne hj1 ⊢
         replace hne : d0 ≠ d1 := by omega
         clear hb hl
         refine hK.out _ _ ((cell1 ((hl2.block _ hlah1).trans HKAh1.out)).1) (fun hHeld => ?_)
         clear hK K
         try simp only [Act.put, List.setIfInBounds_toArray, List.set_cons_zero, List.set_cons_succ]
         exact hn3_01 d0 d1 pc0 kc0 pc1 kc1 pr0 kr0 pr1 kr1 w2 ⟨hl2, ⟨hw0, hd0⟩, ⟨hw1, hd1⟩, hne, trivial, trivial, ⟨lo, hi, ho, hlh, hhi, hj0, hj1⟩⟩
       case rest =>
        rintro d0 d1 pc0 kc0 pc1 kc1 wv ⟨hl, ⟨hw0, hd0⟩, ⟨hw1, hd1⟩, hne, hc0, hc1⟩
        have hHeld := (cell1 ((hl.block _ hlah1).trans HKAh1.out)).1
        refine wpAnyH_ready (rs := [5]) (by kernel_rfl) (by simp) ?_
        refine AllReadyH.cons rfl (fun K hK => ?_) AllReadyH.nil
        go_simp
        go_at_call 37
        refine (HI.out _ _ _ hc0 hc1).mono ?_
        rintro e w2 ⟨⟨t0, t1, rfl, ho⟩, hb⟩
        obtain ⟨pr0, kr0, pr1, kr1, rfl, rfl⟩ := ho.form
        have hl2 := hl.trans (hb.mono hl.size)
        have hb0 := lt_of_block hd0
        replace hd0 := (hb.block _ hb0).trans hd0
        have hb1 := lt_of_block hd1
        replace hd1 := (hb.block _ hb1).trans hd1
        clear hc0
        clear hc1
        have hlh := hb.size
        obtain ⟨lo, hlo⟩ : ∃ lo, lo = wv.heap.size := ⟨_, rfl⟩
        rw [← hlo] at ho hlh
        obtain ⟨hi, hhe⟩ : ∃ hi, hi = w2.heap.size := ⟨_, rfl⟩
        rw [← hhe] at ho hlh
        have hhi : hi ≤ w2.heap.size := by omega
        have hj0 : d0 < lo ∨ hi ≤ d0 := .inl (by omega)
        have hj1 : d1 < lo ∨ hi ≤ d1 := .inl (by omega)
        try go_simp
        refine hK.out _ _ ((cell1 ((hl2.block _ hlah1).trans HKAh1.out)).1) (fun hHeld => ?_)
        clear hK K
        try simp only [Act.put, List.setIfInBounds_toArray, List.set_cons_zero, List.set_cons_succ]
        refine take1 (i := 6) (v := ?v36) (some 123) rfl rfl (by kernel_rfl) (by kernel_rfl) (by kernel_rfl) (fun _ _ _ h => h) (Or.inl ⟨by rfl, ?y36⟩) (by assumption) ?r36
        case y36 => (intro w hSw; (try dsimp only at hSw); go_simp; (first | done | with_reducible rfl))
        try simp only [Act.put, List.setIfInBounds_toArray, List.set_cons_zero, List.set_cons_succ]
        refine take1 (i := 7) (v := ?v37) (some 130) rfl rfl (by kernel_rfl) (by kernel_rfl) (by kernel_rfl) (fun _ _ _ h => h) (Or.inl ⟨by rfl, ?y37⟩) (by assumption) ?r37
        case y37 => (intro w hSw; (try dsimp only at hSw); go_simp; (first | done | with_reducible rfl))
        try simp only [Act.put, List.setIfInBounds_toArray, List.set_cons_zero, List.set_cons_succ]
        refine take1 (i := 8) (v := ?v38) (some 131) rfl rfl (by kernel_rfl) (by kernel_rfl) (by kernel_rfl) (fun _ _ _ h => h) (Or.inl ⟨by rfl, ?y38⟩) (by assumption) ?r38
        case y38 => (intro w hSw; (try dsimp only at hSw); go_simp; (first | done | with_reducible rfl))
        try simp only [Act.put, List.setIfInBounds_toArray, List.set_cons_zero, List.set_cons_succ]
        refine take1 (i := 9) (v := ?v39) (some 132) rfl rfl (by kernel_rfl) (by kernel_rfl) (by kernel_rfl) (fun _ _ _ h => h) (Or.inl ⟨by rfl, ?y39⟩) (by assumption) ?r39
        case y39 => (intro w hSw; (try dsimp only at hSw); go_simp; (first | done | with_reducible rfl))
        try simp only [Act.put, List.setIfInBounds_toArray, List.set_cons_zero, List.set_cons_succ]
        exact hn3_01 d0 d1 pc0 kc0 pc1 kc1 pr0 kr0 pr1 kr1 w2 ⟨hl2, ⟨hw0, hd0⟩, ⟨hw1, hd1⟩, hne, trivial, trivial, ⟨lo, hi, ho, hlh, hhi, hj0, hj1⟩⟩
      case rest =>
       rintro d0 d1 pc0 kc0 pc1 kc1 pr0 kr0 pr1 kr1 wv ⟨hl, ⟨hw0, hd0⟩, ⟨hw1, hd1⟩, hne, hc0, hc1, ⟨lo, hi, ho, hlh, hhi, hj0, hj1⟩⟩
       have hHeld := (cell1 ((hl.block _ hlah1).trans HKAh1.out)).1
       obtain ⟨cd0, fd0⟩ := cell1 hd0
       obtain ⟨cd1, fd1⟩ := cell1 hd1
       have hlt0 := lt_of_block hd0
       have hlt1 := lt_of_block hd1
       refine wpAnyH_ready (rs := [12]) (by kernel_rfl) (by simp) ?_
       refine AllReadyH.cons rfl (fun K hK => ?_) AllReadyH.nil
       go_simp
       have hd0' := box1_set hd0 (.slice pr0 qs0.length kr0)
       have hd1' := (Below.heap_setCell wv ⟨d0, 0, none⟩ (.slice pr0 qs0.length kr0) d1 (by show d1 ≠ d0; omega)).trans hd1
       have hl' := hl.setCell (p := ⟨d0, 0, none⟩) hw0 (.slice pr0 qs0.length kr0)
       have ho' := ho.btw ((Btw.refl d0 (d0 + 1) wv).setCell (p := ⟨d0, 0, none⟩) (Nat.le_refl _) (Nat.lt_succ_self _) (.slice pr0 qs0.length kr0)) (by omega)
       clear hd0 hd1 cd0 fd0 cd1 fd1 hlt0 hlt1
       generalize wv.setCell ⟨d0, 0, none⟩ (.slice pr0 qs0.length kr0) = wv2 at hd0' hd1' hl' ho' ⊢
       obtain ⟨cd0, fd0⟩ := cell1 hd0'
       obtain ⟨cd1, fd1⟩ := cell1 hd1'
       have hlt0 := lt_of_block hd0'
       have hlt1 := lt_of_block hd1'
       refine hK.out _ _ ((cell1 ((hl'.block _ hlah1).trans HKAh1.out)).1) (fun hHeld => ?_)
       clear hK K
       try simp only [Act.put]
       refine wpAnyH_ready (rs := [13]) (by kernel_rfl) (by simp) ?_
       refine AllReadyH.cons rfl (fun K hK => ?_) AllReadyH.nil
       go_simp
       have hd1'' := box1_set hd1' (.slice pr1 qs1.length kr1)
       have hd0'' := (Below.heap_setCell wv2 ⟨d1, 0, none⟩ (.slice pr1 qs1.length kr1) d0 (by show d0 ≠ d1; omega)).trans hd0'
       have hl'' := hl'.setCell (p := ⟨d1, 0, none⟩) hw1 (.slice pr1 qs1.length kr1)
       have ho'' := ho'.btw ((Btw.refl d1 (d1 + 1) wv2).setCell (p := ⟨d1, 0, none⟩) (Nat.le_refl _) (Nat.lt_succ_self _) (.slice pr1 qs1.length kr1)) (by omega)
       clear hd0' hd1' cd0 fd0 cd1 fd1 hlt0 hlt1
       generalize wv2.setCell ⟨d1, 0, none⟩ (.slice pr1 qs1.length kr1) = wv3 at hd0'' hd1'' hl'' ho'' ⊢
       refine hK.out _ _ ((cell1 ((hl''.block _ hlah1).trans HKAh1.out)).1) (fun hHeld => ?_)
       clear hK K
       try simp only [Act.put]
       refine take1 (i := 14) (v := ?v40) (some 21) rfl rfl (by kernel_rfl) (by kernel_rfl) (by kernel_rfl) (fun _ _ _ h => h) (Or.inl ⟨by rfl, ?y40⟩) (by assumption) ?r40
       case y40 => (intro w hSw; (try dsimp only at hSw); go_simp; (first | done | with_reducible rfl))
       try simp only [Act.put, List.setIfInBounds_toArray, List.set_cons_zero, List.set_cons_succ]
       refine wpAnyH_done (by kernel_rfl) ?_ _
       go_wp2_with fail
       go_meet
       exact ⟨d0, pr0, kr0, d1, pr1, kr1, rfl, rfl, rfl, hd0'', hd1'', ho''.reads.1, ho''.reads.2, hl''⟩
    case rest =>
      obtain ⟨bh0, ph0, kh0, bh1, ph1, kh1, rfl, rfl, rfl, hkq0, hkq1, hrq0, hrq1, hb⟩ := hcut
      rename World => w24
      have HB24 : Hid (Below w.heap.size w w24) := Lib.hid (HB23.out.trans (hb.mono HB23.out.size))
      have HZ24 : Hid (w23.heap.size ≤ w24.heap.size) := Lib.hid hb.size
      have HRf024 := Lib.hid (HRf00.out.below HB24.out (Nat.le_refl _))
      have HRf124 := Lib.hid (HRf10.out.below HB24.out (Nat.le_refl _))
      have HKa124 := Lib.hid ((hb.block _ (lt_of_block HKa123.out)).trans HKa123.out)
      have HKwb024 := Lib.hid ((hb.block _ (lt_of_block HKwb023.out)).trans HKwb023.out)
      have HRw024 := Lib.hid (HRw023.out.below hb (Nat.le_refl _))
      have HKwb124 := Lib.hid ((hb.block _ (lt_of_block HKwb123.out)).trans HKwb123.out)
      have HRw124 := Lib.hid (HRw123.out.below hb (Nat.le_refl _))
      have HKgb024 := Lib.hid ((hb.block _ (lt_of_block HKgb023.out)).trans HKgb023.out)
      have HKgb124 := Lib.hid ((hb.block _ (lt_of_block HKgb123.out)).trans HKgb123.out)
      have HOg024 := Lib.hid (HOg023.out.next hb)
      have HOg124 := Lib.hid (HOg123.out.next hb)
      have HBs4_24 : Hid (Below w4.heap.size w4 w24) := Lib.hid (HBs4_23.out.trans (hb.mono HBs4_23.out.size))
      clear hb
      have hlth0 := lt_of_block hkq0
      have HKhb024 := Lib.hid (hkq0)
      have HRh024 := Lib.hid (hrq0)
      have HBs24_24 : Hid (Below w24.heap.size w24 w24) := Lib.hid (Below.refl _ _)
      have hlth1 := lt_of_block hkq1
      have HKhb124 := Lib.hid (hkq1)
      have HRh124 := Lib.hid (hrq1)
      clear hkq0 hrq0 hkq1 hrq1
      clear ca10 fa10 lta1 cwb00 fwb00 ltwb0 cwb10 fwb10 ltwb1 cgb00 fgb00 ltgb0 cgb10 fgb10 ltgb1
      have lta1 := lt_of_block HKa124.out
      obtain ⟨ca10, fa10⟩ := cell1 HKa124.out
      have ltwb0 := lt_of_block HKwb024.out
      obtain ⟨cwb00, fwb00⟩ := cell1 HKwb024.out
      have ltwb1 := lt_of_block HKwb124.out
      obtain ⟨cwb10, fwb10⟩ := cell1 HKwb124.out
      have ltgb0 := lt_of_block HKgb024.out
      obtain ⟨cgb00, fgb00⟩ := cell1 HKgb024.out
      have ltgb1 := lt_of_block HKgb124.out
      obtain ⟨cgb10, fgb10⟩ := cell1 HKgb124.out
      have lthb0 := lt_of_block HKhb024.out
      obtain ⟨chb00, fhb00⟩ := cell1 HKhb024.out
      have lthb1 := lt_of_block HKhb124.out
      obtain ⟨chb10, fhb10⟩ := cell1 HKhb124.out
      go_wp2_with fail
      refine (eqAmount_yes _ _ qs0 _ HRh024.out HRw024.out).mono ?_
      rintro e w25 ⟨rfl, hb⟩
      have HB25 : Hid (Below w.heap.size w w25) := Lib.hid (HB24.out.trans (hb.mono HB24.out.size))
      have HZ25 : Hid (w24.heap.size ≤ w25.heap.size) := Lib.hid hb.size
      have HRf025 := Lib.hid (HRf00.out.below HB25.out (Nat.le_refl _))
      have HRf125 := Lib.hid (HRf10.out.below HB25.out (Nat.le_refl _))
      have HKa125 := Lib.hid ((hb.block _ (lt_of_block HKa124.out)).trans HKa124.out)
      have HKwb025 := Lib.hid ((hb.block _ (lt_of_block HKwb024.out)).trans HKwb024.out)
      have HRw025 := Lib.hid (HRw024.out.below hb (Nat.le_refl _))
      have HKwb125 := Lib.hid ((hb.block _ (lt_of_block HKwb124.out)).trans HKwb124.out)
      have HRw125 := Lib.hid (HRw124.out.below hb (Nat.le_refl _))
      have HKgb025 := Lib.hid ((hb.block _ (lt_of_block HKgb024.out)).trans HKgb024.out)
      have HKgb125 := Lib.hid ((hb.block _ (lt_of_block HKgb124.out)).trans HKgb124.out)
      have HOg025 := Lib.hid (HOg024.out.next hb)
      have HOg125 := Lib.hid (HOg124.out.next hb)
      have HKhb025 := Lib.hid ((hb.block _ (lt_of_block HKhb024.out)).trans HKhb024.out)
      have HRh025 := Lib.hid (HRh024.out.below hb (Nat.le_refl _))
      have HKhb125 := Lib.hid ((hb.block _ (lt_of_block HKhb124.out)).trans HKhb124.out)
      have HRh125 := Lib.hid (HRh124.out.below hb (Nat.le_refl _))
      have HBs4_25 : Hid (Below w4.heap.size w4 w25) := Lib.hid (HBs4_24.out.trans (hb.mono HBs4_24.out.size))
      have HBs24_25 : Hid (Below w24.heap.size w24 w25) := Lib.hid (HBs24_24.out.trans (hb.mono HBs24_24.out.size))
      clear hb
      clear ca10 fa10 lta1 cwb00 fwb00 ltwb0 cwb10 fwb10 ltwb1 cgb00 fgb00 ltgb0 cgb10 fgb10 ltgb1 chb00 fhb00 lthb0 chb10 fhb10 lthb1
      have lta1 := lt_of_block HKa125.out
      obtain ⟨ca10, fa10⟩ := cell1 HKa125.out
      have ltwb0 := lt_of_block HKwb025.out
      obtain ⟨cwb00, fwb00⟩ := cell1 HKwb025.out
      have ltwb1 := lt_of_block HKwb125.out
      obtain ⟨cwb10, fwb10⟩ := cell1 HKwb125.out
      have ltgb0 := lt_of_block HKgb025.out
      obtain ⟨cgb00, fgb00⟩ := cell1 HKgb025.out
      have ltgb1 := lt_of_block HKgb125.out
      obtain ⟨cgb10, fgb10⟩ := cell1 HKgb125.out
      have lthb0 := lt_of_block HKhb025.out
      obtain ⟨chb00, fhb00⟩ := cell1 HKhb025.out
      have lthb1 := lt_of_block HKhb125.out
      obtain ⟨chb10, fhb10⟩ := cell1 HKhb125.out
      go_wp2_with fail
      refine (eqAmount_yes _ _ qs1 _ HRh125.out HRw125.out).mono ?_
      rintro e w26 ⟨rfl, hb⟩
      have HB26 : Hid (Below w.heap.size w w26) := Lib.hid (HB25.out.trans (hb.mono HB25.out.size))
      have HZ26 : Hid (w25.heap.size ≤ w26.heap.size) := Lib.hid hb.size
      have HRf026 := Lib.hid (HRf00.out.below HB26.out (Nat.le_refl _))
      have HRf126 := Lib.hid (HRf10.out.below HB26.out (Nat.le_refl _))
      have HKa126 := Lib.hid ((hb.block _ (lt_of_block HKa125.out)).trans HKa125.out)
      have HKwb026 := Lib.hid ((hb.block _ (lt_of_block HKwb025.out)).trans HKwb025.out)
      have HRw026 := Lib.hid (HRw025.out.below hb (Nat.le_refl _))
      have HKwb126 := Lib.hid ((hb.block _ (lt_of_block HKwb125.out)).trans HKwb125.out)
      have HRw126 := Lib.hid (HRw125.out.below hb (Nat.le_refl _))
      have HKgb026 := Lib.hid ((hb.block _ (lt_of_block HKgb025.out)).trans HKgb025.out)
      have HKgb126 := Lib.hid ((hb.block _ (lt_of_block HKgb125.out)).trans HKgb125.out)
      have HOg026 := Lib.hid (HOg025.out.next hb)
      have HOg126 := Lib.hid (HOg125.out.next hb)
      have HKhb026 := Lib.hid ((hb.block _ (lt_of_block HKhb025.out)).trans HKhb025.out)
      have HRh026 := Lib.hid (HRh025.out.below hb (Nat.le_refl _))
      have HKhb126 := Lib.hid ((hb.block _ (lt_of_block HKhb125.out)).trans HKhb125.out)
      have HRh126 := Lib.hid (HRh125.out.below hb (Nat.le_refl _))
      have HBs4_26 : Hid (Below w4.heap.size w4 w26) := Lib.hid (HBs4_25.out.trans (hb.mono HBs4_25.out.size))
      have HBs24_26 : Hid (Below w24.heap.size w24 w26) := Lib.hid (HBs24_25.out.trans (hb.mono HBs24_25.out.size))
      clear hb
      clear ca10 fa10 lta1 cwb00 fwb00 ltwb0 cwb10 fwb10 ltwb1 cgb00 fgb00 ltgb0 cgb10 fgb10 ltgb1 chb00 fhb00 lthb0 chb10 fhb10 lthb1
      have lta1 := lt_of_block HKa126.out
      obtain ⟨ca10, fa10⟩ := cell1 HKa126.out
      have ltwb0 := lt_of_block HKwb026.out
      obtain ⟨cwb00, fwb00⟩ := cell1 HKwb026.out
      have ltwb1 := lt_of_block HKwb126.out
      obtain ⟨cwb10, fwb10⟩ := cell1 HKwb126.out
      have ltgb0 := lt_of_block HKgb026.out
      obtain ⟨cgb00, fgb00⟩ := cell1 HKgb026.out
      have ltgb1 := lt_of_block HKgb126.out
      obtain ⟨cgb10, fgb10⟩ := cell1 HKgb126.out
      have lthb0 := lt_of_block HKhb026.out
      obtain ⟨chb00, fhb00⟩ := cell1 HKhb026.out
      have lthb1 := lt_of_block HKhb126.out
      obtain ⟨chb10, fhb10⟩ := cell1 HKhb126.out
      go_wp2_with fail
      refine (heldAmount_any _ qs0.length (1) _ (by have := HOg026.out.reads; exact this) (by omega) (by omega)).mono ?_
      rintro e w27 ⟨rfl, hb⟩
      have HB27 : Hid (Below w.heap.size w w27) := Lib.hid (HB26.out.trans (hb.mono HB26.out.size))
      have HZ27 : Hid (w26.heap.size ≤ w27.heap.size) := Lib.hid hb.size
      have HRf027 := Lib.hid (HRf00.out.below HB27.out (Nat.le_refl _))
      have HRf127 := Lib.hid (HRf10.out.below HB27.out (Nat.le_refl _))
      have HKa127 := Lib.hid ((hb.block _ (lt_of_block HKa126.out)).trans HKa126.out)
      have HKwb027 := Lib.hid ((hb.block _ (lt_of_block HKwb026.out)).trans HKwb026.out)
      have HRw027 := Lib.hid (HRw026.out.below hb (Nat.le_refl _))
      have HKwb127 := Lib.hid ((hb.block _ (lt_of_block HKwb126.out)).trans HKwb126.out)
      have HRw127 := Lib.hid (HRw126.out.below hb (Nat.le_refl _))
      have HKgb027 := Lib.hid ((hb.block _ (lt_of_block HKgb026.out)).trans HKgb026.out)
      have HKgb127 := Lib.hid ((hb.block _ (lt_of_block HKgb126.out)).trans HKgb126.out)
      have HOg027 := Lib.hid (HOg026.out.next hb)
      have HOg127 := Lib.hid (HOg126.out.next hb)
      have HKhb027 := Lib.hid ((hb.block _ (lt_of_block HKhb026.out)).trans HKhb026.out)
      have HRh027 := Lib.hid (HRh026.out.below hb (Nat.le_refl _))
      have HKhb127 := Lib.hid ((hb.block _ (lt_of_block HKhb126.out)).trans HKhb126.out)
      have HRh127 := Lib.hid (HRh126.out.below hb (Nat.le_refl _))
      have HBs4_27 : Hid (Below w4.heap.size w4 w27) := Lib.hid (HBs4_26.out.trans (hb.mono HBs4_26.out.size))
      have HBs24_27 : Hid (Below w24.heap.size w24 w27) := Lib.hid (HBs24_26.out.trans (hb.mono HBs24_26.out.size))
      clear hb
      clear ca10 fa10 lta1 cwb00 fwb00 ltwb0 cwb10 fwb10 ltwb1 cgb00 fgb00 ltgb0 cgb10 fgb10 ltgb1 chb00 fhb00 lthb0 chb10 fhb10 lthb1
      have lta1 := lt_of_block HKa127.out
      obtain ⟨ca10, fa10⟩ := cell1 HKa127.out
      have ltwb0 := lt_of_block HKwb027.out
      obtain ⟨cwb00, fwb00⟩ := cell1 HKwb027.out
      have ltwb1 := lt_of_block HKwb127.out
      obtain ⟨cwb10, fwb10⟩ := cell1 HKwb127.out
      have ltgb0 := lt_of_block HKgb027.out
      obtain ⟨cgb00, fgb00⟩ := cell1 HKgb027.out
      have ltgb1 := lt_of_block HKgb127.out
      obtain ⟨cgb10, fgb10⟩ := cell1 HKgb127.out
      have lthb0 := lt_of_block HKhb027.out
      obtain ⟨chb00, fhb00⟩ := cell1 HKhb027.out
      have lthb1 := lt_of_block HKhb127.out
      obtain ⟨chb10, fhb10⟩ := cell1 HKhb127.out
      go_wp2_with fail
      refine (heldAmount_any _ qs1.length (1 + (qs0.length : Int)) _ (by have := HOg127.out.reads; exact this) (by omega) (by omega)).mono ?_
      rintro e w28 ⟨rfl, hb⟩
      have HB28 : Hid (Below w.heap.size w w28) := Lib.hid (HB27.out.trans (hb.mono HB27.out.size))
      have HZ28 : Hid (w27.heap.size ≤ w28.heap.size) := Lib.hid hb.size
      have HRf028 := Lib.hid (HRf00.out.below HB28.out (Nat.le_refl _))
      have HRf128 := Lib.hid (HRf10.out.below HB28.out (Nat.le_refl _))
      have HKa128 := Lib.hid ((hb.block _ (lt_of_block HKa127.out)).trans HKa127.out)
      have HKwb028 := Lib.hid ((hb.block _ (lt_of_block HKwb027.out)).trans HKwb027.out)
      have HRw028 := Lib.hid (HRw027.out.below hb (Nat.le_refl _))
      have HKwb128 := Lib.hid ((hb.block _ (lt_of_block HKwb127.out)).trans HKwb127.out)
      have HRw128 := Lib.hid (HRw127.out.below hb (Nat.le_refl _))
      have HKgb028 := Lib.hid ((hb.block _ (lt_of_block HKgb027.out)).trans HKgb027.out)
      have HKgb128 := Lib.hid ((hb.block _ (lt_of_block HKgb127.out)).trans HKgb127.out)
      have HOg028 := Lib.hid (HOg027.out.next hb)
      have HOg128 := Lib.hid (HOg127.out.next hb)
      have HKhb028 := Lib.hid ((hb.block _ (lt_of_block HKhb027.out)).trans HKhb027.out)
      have HRh028 := Lib.hid (HRh027.out.below hb (Nat.le_refl _))
      have HKhb128 := Lib.hid ((hb.block _ (lt_of_block HKhb127.out)).trans HKhb127.out)
      have HRh128 := Lib.hid (HRh127.out.below hb (Nat.le_refl _))
      have HBs4_28 : Hid (Below w4.heap.size w4 w28) := Lib.hid (HBs4_27.out.trans (hb.mono HBs4_27.out.size))
      have HBs24_28 : Hid (Below w24.heap.size w24 w28) := Lib.hid (HBs24_27.out.trans (hb.mono HBs24_27.out.size))
      clear hb
      clear ca10 fa10 lta1 cwb00 fwb00 ltwb0 cwb10 fwb10 ltwb1 cgb00 fgb00 ltgb0 cgb10 fgb10 ltgb1 chb00 fhb00 lthb0 chb10 fhb10 lthb1
      have lta1 := lt_of_block HKa128.out
      obtain ⟨ca10, fa10⟩ := cell1 HKa128.out
      have ltwb0 := lt_of_block HKwb028.out
      obtain ⟨cwb00, fwb00⟩ := cell1 HKwb028.out
      have ltwb1 := lt_of_block HKwb128.out
      obtain ⟨cwb10, fwb10⟩ := cell1 HKwb128.out
      have ltgb0 := lt_of_block HKgb028.out
      obtain ⟨cgb00, fgb00⟩ := cell1 HKgb028.out
      have ltgb1 := lt_of_block HKgb128.out
      obtain ⟨cgb10, fgb10⟩ := cell1 HKgb128.out
      have lthb0 := lt_of_block HKhb028.out
      obtain ⟨chb00, fhb00⟩ := cell1 HKhb028.out
      have lthb1 := lt_of_block HKhb128.out
      obtain ⟨chb10, fhb10⟩ := cell1 HKhb128.out
      go_wp2_with fail
      go_ret
      exact ⟨rfl, HB28.out⟩
end Go.Proofs.Ytlmnbecfaaeohaa
