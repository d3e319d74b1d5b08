/- Parts laid as one: Mchange, Mmake, Mplay. -/
import Derived.Test.YtmkocinknhaniaaKz
import Derived.Test.YtmkocinknhaniaaKa
import Derived.Test.YtmkocinknhaniaaOwn
import Derived.Test.YtmkocinknhaniaaGood
import Derived.Deep.RegionLaw
/-! Mchange -/
namespace Go.Proofs.Ytmkocinknhaniaa
set_option linter.unusedVariables false
open Go.RowKit

/-- What a bead of a move's part is worth on a frame of R rods. -/
def worthN (R : Nat) (m : Mv) : Int := (if m.part = 0 then 5 else 1) * 10 ^ (R - 1 - m.rod.toNat)
def chgI (R : Nat) (ms : List Mv) : Int := (ms.map fun m => m.amt * worthN R m).sum
theorem chg_snoc (R : Nat) (ms : List Mv) (k : Nat) (h : k < ms.length) : chgI R (ms.take (k + 1)) = chgI R (ms.take k) + ms[k].amt * worthN R ms[k] := by
  unfold chgI; rw [List.take_succ_eq_append_getElem h, List.map_append, List.sum_append]; simp
/-- The answer: s and t. -/
def ChF (ms : List Mv) (R : Int) (s : Int) (t : Bool) : Prop :=
  (okMs ms ∧ (1 ≤ R ∧ R ≤ 8) ∧ (∀ (k : Nat) (h : k < ms.length), ms[k].rod < R) ∧ s = chgI R.toNat ms ∧ t = true) ∨
  (¬ (okMs ms ∧ (1 ≤ R ∧ R ≤ 8) ∧ (∀ (k : Nat) (h : k < ms.length), ms[k].rod < R)) ∧ s = 0 ∧ t = false)
theorem chF_or (ms : List Mv) (R : Int) : ∃ s t, ChF ms R s t := by
  by_cases h : okMs ms ∧ (1 ≤ R ∧ R ≤ 8) ∧ (∀ (k : Nat) (h : k < ms.length), ms[k].rod < R)
  · exact ⟨_, true, .inl ⟨h.1, h.2.1, h.2.2, rfl, rfl⟩⟩
  · exact ⟨0, false, .inr ⟨h, rfl, rfl⟩⟩

set_option maxRecDepth 100000 in
set_option maxHeartbeats 3200000 in
theorem specChange_scan (v : Value) (ps : List Mv) (R : Nat) (w : World) (h : RowsR 3 mvC w v ps) (ho : okMs ps) (hR : 1 ≤ R ∧ R ≤ 8) (p : Nat) (hp : p ≤ ps.length) (hpre : ∀ i (h : i < ps.length), i < p → ps[i].rod < R) (hx : ∀ h : p < ps.length, ¬ ps[p].rod < R) (s : Int) (t : Bool) (hs1 : p < ps.length → s = 0 ∧ t = false) (hs2 : p = ps.length → s = chgI R ps ∧ t = true) :
    Calls Try.prog 18 #[v, .int .i64 R] w fun e w' => e = .returned (.tuple #[.int .i64 s, .bool t]) ∧ Below w.heap.size w w' := by
  have h60 := ho.2
  have HH := Lib.hid h
  obtain ⟨a, cp, rfl⟩ := h.form
  have R1 := Lib.hid h.at
  have HO := Lib.hid ho
  have HP := Lib.hid hpre
  have HX := Lib.hid hx
  have HS1 := Lib.hid hs1
  have HS2 := Lib.hid hs2
  obtain ⟨hR0, hR1⟩ := hR
  have hRi : (1 : Int) ≤ (R : Int) ∧ (R : Int) ≤ 8 := by omega
  clear h ho hpre hx hs1 hs2
  go_enter Try.func18, Try.ntmps18
  go_wp2_with fail
  refine (l4Good_any _ ps _ HH.out true ⟨fun _ => HO.out, fun _ => rfl⟩).mono ?_
  rintro e w2 ⟨rfl, hb⟩
  have HB := Lib.hid hb
  clear hb
  go_wp2_with fail
  refine (l1In_yesq _ _ _ _ hRi).mono ?_
  rintro e w' ⟨rfl, hw⟩
  subst w'
  go_wp2_with fail
  go_loopw [6, 7] (fun n i wr => ∃ (k : Nat) (S : Int), k ≤ p ∧ i = .int .i64 k ∧ n = .int .i64 S ∧ -(3000000000 * (k : Int)) ≤ S ∧ S ≤ 3000000000 * k ∧ Hid (chgI R (ps.take k) = S) ∧ Below w.heap.size w wr) (fun _ i _ => ps.length - (intOf i).toNat)
  case atStart => exact ⟨0, 0, Nat.zero_le _, rfl, rfl, by omega, by omega, Lib.hid rfl, HB.out⟩
  case round =>
    obtain ⟨k, S, hk, rfl, rfl, hS0, hS1, HSM, hb⟩ := hrel
    have HB2 := Lib.hid hb
    by_cases hlt : k < ps.length
    · have z1 : (0 : Int) ≤ (k : Int) := by omega
      have z2 : (k : Int) < (ps.length : Int) := by omega
      obtain ⟨b1, o1, rfl, l1, k1⟩ := R1.out _ hb k hlt
      have p0 : wr.cell? ⟨b1, o1 + k * 3, none⟩ = some (.int .i64 ps[k].rod) := k1 0 (by omega)
      have p1 : wr.cell? ⟨b1, o1 + k * 3 + 1, none⟩ = some (.int .i64 ps[k].part) := k1 1 (by omega)
      have p2 : wr.cell? ⟨b1, o1 + k * 3 + 2, none⟩ = some (.int .i64 ps[k].amt) := k1 2 (by omega)
      have hok := HO.out.1 k hlt
      have HSN := Lib.hid (chg_snoc R ps k hlt)
      have HBX : Hid (Below w.heap.size w (wr.alloc (.cells #[.int .i64 ps[k].rod, .int .i64 ps[k].part, .int .i64 ps[k].amt] 40))) := Lib.hid (HB2.out.alloc HB2.out.size _)
      have HPK : Hid (k < p → ps[k].rod < R) := Lib.hid (fun h => HP.out k hlt h)
      have HXK : Hid (¬ k < p → k = p ∧ ¬ ps[k].rod < R) := Lib.hid (fun h => by have e : k = p := by omega
                                                                                 subst e; exact ⟨rfl, by have := HX.out hlt; omega⟩)
      clear k1 hb
      generalize ps[k] = m at p0 p1 p2 hok HSN HBX HPK HXK
      obtain ⟨rod, part, amt⟩ := m
      obtain ⟨⟨r0, r1⟩, ⟨q0, q1⟩, ⟨m0, m1⟩, _⟩ := hok
      dsimp only at r0 r1 q0 q1 m0 m1 p0 p1 p2 HBX HPK HXK
      by_cases hkp : k < p
      · have hlR := HPK.out hkp
        obtain ⟨rr, rfl⟩ : ∃ rr : Nat, rod = (rr : Int) := ⟨rod.toNat, by omega⟩
        have hlR' : ¬ (R : Int) ≤ (rr : Int) := by omega
        obtain ⟨d, hd⟩ : ∃ d : Nat, d + rr + 1 = R := ⟨R - 1 - rr, by omega⟩
        have hwd : (R : Int) - 1 - (rr : Int) = (d : Int) := by omega
        have hw1 : IntKind.i64.wrap ((R : Int) - 1) = (R : Int) - 1 := by rw [IntKind.wrap_i64]; omega
        have hw2 : IntKind.i64.wrap ((R : Int) - 1 - (rr : Int)) = (d : Int) := by rw [IntKind.wrap_i64]; omega
        have hd8 : d ≤ 8 := by omega
        obtain ⟨b1', b2'⟩ := pow_bd d hd8
        have HPW : Hid (∀ w, Calls Try.prog 39 #[.int .i64 d] w fun e w' => e = .returned (.int .i64 ((10 : Int) ^ d)) ∧ w' = w) := Lib.hid fun w => l2Power_any d w hd8
        have HWO : Hid (worthN R ⟨(rr : Int), part, amt⟩ = (if part = 0 then 5 else 1) * (10 : Int) ^ d) := Lib.hid (by unfold worthN; rw [Int.toNat_natCast, show R - 1 - rr = d by omega])
        generalize (10 : Int) ^ d = pw at b1' b2' HPW HWO
        clear hd hwd
        have HHD := Lib.hid hlR
        have HHK := Lib.hid HPK
        clear hlR HPK HXK HHK
        by_cases hq : part = 0
        · subst hq
          rw [if_pos rfl] at HWO
          have hb5 : -(3000000000 : Int) ≤ amt * (5 * pw) ∧ amt * (5 * pw) ≤ 3000000000 := by
            have := Int.mul_le_mul_of_nonneg_right m1 (show 0 ≤ 5 * pw by omega)
            have := Int.mul_le_mul_of_nonneg_right m0 (show 0 ≤ 5 * pw by omega)
            omega
          generalize hpr : amt * (5 * pw) = pr at hb5
          obtain ⟨hb50, hb51⟩ := hb5
          have HPR := Lib.hid hpr
          have hwp : IntKind.i64.wrap (5 * pw) = 5 * pw := by rw [IntKind.wrap_i64]; omega
          have hwr : IntKind.i64.wrap (amt * (5 * pw)) = pr := by rw [hpr, IntKind.wrap_i64]; omega
          have hws : IntKind.i64.wrap (S + pr) = S + pr := by rw [IntKind.wrap_i64]; omega
          clear hpr
          go_wp2_with fail
          try rw [hw2]
          refine (HPW.out _).mono ?_
          rintro e w' ⟨rfl, hw⟩
          subst w'
          go_wp2_with fail
          go_roundw
          case rel => exact ⟨k + 1, S + pr, by omega, by go_num, (by first | rfl | rw [hws] | rw [hwr, hws]), by omega, by omega, Lib.hid (by rw [HSN.out, HSM.out, HWO.out, HPR.out]), HBX.out⟩
          case measure => simp [intOf]; omega
        · rw [if_neg hq] at HWO
          have hb5 : -(3000000000 : Int) ≤ amt * pw ∧ amt * pw ≤ 3000000000 := by
            have := Int.mul_le_mul_of_nonneg_right m1 (show 0 ≤ pw by omega)
            have := Int.mul_le_mul_of_nonneg_right m0 (show 0 ≤ pw by omega)
            omega
          generalize hpr : amt * pw = pr at hb5
          obtain ⟨hb50, hb51⟩ := hb5
          have HPR := Lib.hid hpr
          have hqb : (part == 0) = false := by simp [hq]
          have hwr : IntKind.i64.wrap (amt * pw) = pr := by rw [hpr, IntKind.wrap_i64]; omega
          have hws : IntKind.i64.wrap (S + pr) = S + pr := by rw [IntKind.wrap_i64]; omega
          clear hpr
          go_wp2_with fail
          try rw [hw2]
          refine (HPW.out _).mono ?_
          rintro e w' ⟨rfl, hw⟩
          subst w'
          go_wp2_with fail
          go_roundw
          case rel => exact ⟨k + 1, S + pr, by omega, by go_num, (by first | rfl | rw [hws] | rw [hwr, hws]), by omega, by omega, Lib.hid (by rw [HSN.out, HSM.out, HWO.out, Int.one_mul, HPR.out]), HBX.out⟩
          case measure => simp [intOf]; omega
      · obtain ⟨hke, hnr⟩ := HXK.out hkp
        subst hke
        have hnr' : (R : Int) ≤ rod := by omega
        have HST := Lib.hid (HS1.out hlt)
        clear hnr hkp HXK HPK
        go_wp2_with fail
        go_ret2
        exact ⟨by rw [HST.out.1, HST.out.2]; rfl, HBX.out⟩
    · have hke : k = ps.length := by omega
      have hpe : p = ps.length := by omega
      have HST : Hid (s = S ∧ t = true) := Lib.hid (by
        have := HS2.out hpe; have h2 := HSM.out; rw [List.take_of_length_le (by omega)] at h2; rw [← h2]; exact this)
      clear hb hke hpe
      go_wp2_with fail
      go_ret2
      exact ⟨by rw [HST.out.1, HST.out.2]; rfl, HB2.out⟩
set_option maxRecDepth 100000 in
set_option maxHeartbeats 800000 in
theorem specChange_any (v : Value) (ps : List Mv) (R : Int) (w : World) (h : RowsR 3 mvC w v ps) (s : Int) (t : Bool) (hc : ChF ps R s t) :
    Calls Try.prog 18 #[v, .int .i64 R] w fun e w' => e = .returned (.tuple #[.int .i64 s, .bool t]) ∧ Below w.heap.size w w' := by
  by_cases ho : okMs ps
  · by_cases hR : 1 ≤ R ∧ R ≤ 8
    · obtain ⟨n, rfl⟩ : ∃ n : Nat, R = (n : Int) := ⟨R.toNat, by omega⟩
      obtain ⟨p, hp, hpre, hx⟩ := first_bad ps.length (fun i _ => ps[i].rod < n)
      refine specChange_scan v ps n w h ho (by omega) p hp hpre hx s t (fun hlt => ?_) (fun he => ?_)
      · rcases hc with ⟨_, _, h3, _⟩ | ⟨_, h1, h2⟩
        · exact absurd (h3 p hlt) (hx hlt)
        · exact ⟨h1, h2⟩
      · rcases hc with ⟨_, _, _, h4, h5⟩ | ⟨h0, _⟩
        · exact ⟨by rw [h4, Int.toNat_natCast], h5⟩
        · exact absurd ⟨ho, hR, fun k hk => hpre k hk (by omega)⟩ h0
    · have HST : Hid (s = 0 ∧ t = false) := Lib.hid (by rcases hc with ⟨_, h2, _⟩ | ⟨_, h1, h2⟩; exact absurd h2 hR; exact ⟨h1, h2⟩)
      have HH := Lib.hid h
      have HO := Lib.hid ho
      clear hc h ho
      go_enter Try.func18, Try.ntmps18
      go_wp2_with fail
      refine (l4Good_any v ps _ HH.out true ⟨fun _ => HO.out, fun _ => rfl⟩).mono ?_
      rintro e w2 ⟨rfl, hb⟩
      have HB := Lib.hid hb
      clear hb
      go_wp2_with fail
      refine (l1In_noq _ _ _ _ hR).mono ?_
      rintro e w' ⟨rfl, hw⟩
      subst w'
      go_wp2_with fail
      go_ret2
      exact ⟨by rw [HST.out.1, HST.out.2]; rfl, HB.out⟩
  · have HST : Hid (s = 0 ∧ t = false) := Lib.hid (by rcases hc with ⟨h2, _⟩ | ⟨_, h1, h2⟩; exact absurd h2 ho; exact ⟨h1, h2⟩)
    have HH := Lib.hid h
    have HO := Lib.hid ho
    clear hc h ho
    go_enter Try.func18, Try.ntmps18
    go_wp2_with fail
    refine (l4Good_any v ps _ HH.out false ⟨fun h => by simp at h, fun h => absurd h HO.out⟩).mono ?_
    rintro e w2 ⟨rfl, hb⟩
    go_wp2_with fail
    go_ret2
    exact ⟨by rw [HST.out.1, HST.out.2]; rfl, hb⟩
end Go.Proofs.Ytmkocinknhaniaa

/-! Mmake -/
namespace Go.Proofs.Ytmkocinknhaniaa
set_option linter.unusedVariables false
open Go.RowKit

/-- The rod behind a move, the rods behind it. -/
def movR (r : Int × Int) (m : Mv) : Int × Int := if m.part = 0 then (r.1 + m.amt, r.2) else (r.1, r.2 + m.amt)
def movF (rs : List (Int × Int)) (m : Mv) : List (Int × Int) := rs.set m.rod.toNat (movR (rs.getD m.rod.toNat (0, 0)) m)
theorem movF_len (rs : List (Int × Int)) (m : Mv) : (movF rs m).length = rs.length := by simp [movF]
/-- A move of a good frame: the answer. -/
def MkF (up lo : Int) (rs : List (Int × Int)) (m : Mv) (fu fl : Int) (qs : List (Int × Int)) (t : Bool) : Prop :=
  (m.rod < rs.length ∧ goodF up lo (movF rs m) ∧ fu = up ∧ fl = lo ∧ qs = movF rs m ∧ t = true) ∨ (¬ (m.rod < rs.length ∧ goodF up lo (movF rs m)) ∧ fu = 0 ∧ fl = 0 ∧ qs = [] ∧ t = false)
theorem mkF_or (up lo : Int) (rs : List (Int × Int)) (m : Mv) : ∃ fu fl qs t, MkF up lo rs m fu fl qs t := by
  by_cases h : m.rod < rs.length ∧ goodF up lo (movF rs m)
  · exact ⟨up, lo, _, true, .inl ⟨h.1, h.2, rfl, rfl, rfl, rfl⟩⟩
  · exact ⟨0, 0, [], false, .inr ⟨h, rfl, rfl, rfl, rfl⟩⟩

set_option maxRecDepth 100000 in
set_option maxHeartbeats 3200000 in
theorem l4Make_out (up lo : Int) (sv : Value) (rs : List (Int × Int)) (m : Mv) (w : World) (h : RodsR w sv rs) (hr : ¬ m.rod < rs.length) :
    Calls Try.prog 54 #[.agg #[.int .i64 up, .int .i64 lo, sv], mvV m] w fun e w' => (∃ sq, e = .returned (.tuple #[.agg #[.int .i64 0, .int .i64 0, sq], .bool false]) ∧ w'.ownsRow w.heap.size 62 2 sq ([] : List (Int × Int)).length (flat [])) ∧ Below w.heap.size w w' := by
  obtain ⟨a, c, rfl⟩ : ∃ a c, sv = .slice a rs.length c := by obtain ⟨a, c, e, _⟩ := h; exact ⟨a, c, e⟩
  have hm : rs.length ≤ 9223372036854775807 := by obtain ⟨_, _, _, ⟨m, _⟩, _⟩ := h; exact m
  obtain ⟨rod, part, amt⟩ := m
  have hr' : (rs.length : Int) ≤ rod := by simpa using hr
  clear hr
  show Calls Try.prog 54 #[.agg #[.int .i64 up, .int .i64 lo, .slice a rs.length c], .agg #[.int .i64 rod, .int .i64 part, .int .i64 amt]] w fun e w' => (∃ sq, e = .returned (.tuple #[.agg #[.int .i64 0, .int .i64 0, sq], .bool false]) ∧ w'.ownsRow w.heap.size 62 2 sq ([] : List (Int × Int)).length (flat [])) ∧ Below w.heap.size w w'
  have HB0 : Hid (Below w.heap.size w w) := Lib.hid (Below.refl _ _)
  clear h
  go_enter Try.func54, Try.ntmps54
  go_wp2_with fail
  have hb : Below w.heap.size w (w.alloc (.cells #[.int .i64 up, .int .i64 lo, .slice a rs.length c] 52)) := (Below.refl _ _).alloc (Nat.le_refl _) _
  have hk : (w.alloc (.cells #[.int .i64 up, .int .i64 lo, .slice a rs.length c] 52)).heap[w.heap.size]? = some (.cells #[.int .i64 up, .int .i64 lo, .slice a rs.length c] 52 (0, 0)) := alloc_at rfl
  have hz : (w.alloc (.cells #[.int .i64 up, .int .i64 lo, .slice a rs.length c] 52)).heap.size = w.heap.size + 1 := by simp
  generalize w.alloc (.cells #[.int .i64 up, .int .i64 lo, .slice a rs.length c] 52) = w1 at hb hk hz ⊢
  have HB1 : Hid (Below w.heap.size w w1) := Lib.hid (HB0.out.trans (hb.mono HB0.out.size))
  have HZ1 : Hid (w.heap.size ≤ w1.heap.size) := Lib.hid hb.size
  have HKf1 := Lib.hid hk
  replace HZ1 : Hid (w.heap.size < w1.heap.size) := Lib.hid (by omega)
  have HE1 := Lib.hid hz
  clear hb hk hz
  have hb : Below w1.heap.size w1 (w1.alloc (.cells #[.int .i64 rod, .int .i64 part, .int .i64 amt] 40)) := (Below.refl _ _).alloc (Nat.le_refl _) _
  have hk : (w1.alloc (.cells #[.int .i64 rod, .int .i64 part, .int .i64 amt] 40)).heap[w.heap.size + 1]? = some (.cells #[.int .i64 rod, .int .i64 part, .int .i64 amt] 40 (0, 0)) := alloc_at (by have := HE1.out; omega)
  have hz : (w1.alloc (.cells #[.int .i64 rod, .int .i64 part, .int .i64 amt] 40)).heap.size = w1.heap.size + 1 := by simp
  generalize w1.alloc (.cells #[.int .i64 rod, .int .i64 part, .int .i64 amt] 40) = w2 at hb hk hz ⊢
  have HB2 : Hid (Below w.heap.size w w2) := Lib.hid (HB1.out.trans (hb.mono HB1.out.size))
  have HZ2 : Hid (w1.heap.size ≤ w2.heap.size) := Lib.hid hb.size
  have HKf2 := Lib.hid ((hb.block _ (lt_of_block HKf1.out)).trans HKf1.out)
  have HKm2 := Lib.hid hk
  replace HZ2 : Hid (w1.heap.size < w2.heap.size) := Lib.hid (by omega)
  have HE2 := Lib.hid hz
  clear hb hk hz
  have hb : Below w2.heap.size w2 (w2.alloc (.cells #[.int .i64 0, .int .i64 0, .slice none 0 0] 52)) := (Below.refl _ _).alloc (Nat.le_refl _) _
  have hk : (w2.alloc (.cells #[.int .i64 0, .int .i64 0, .slice none 0 0] 52)).heap[w.heap.size + 2]? = some (.cells #[.int .i64 0, .int .i64 0, .slice none 0 0] 52 (0, 0)) := alloc_at (by have := HE1.out; have := HE2.out; omega)
  have hz : (w2.alloc (.cells #[.int .i64 0, .int .i64 0, .slice none 0 0] 52)).heap.size = w2.heap.size + 1 := by simp
  generalize w2.alloc (.cells #[.int .i64 0, .int .i64 0, .slice none 0 0] 52) = w3 at hb hk hz ⊢
  have HB3 : Hid (Below w.heap.size w w3) := Lib.hid (HB2.out.trans (hb.mono HB2.out.size))
  have HZ3 : Hid (w2.heap.size ≤ w3.heap.size) := Lib.hid hb.size
  have HKf3 := Lib.hid ((hb.block _ (lt_of_block HKf2.out)).trans HKf2.out)
  have HKm3 := Lib.hid ((hb.block _ (lt_of_block HKm2.out)).trans HKm2.out)
  have HKz3 := Lib.hid hk
  replace HZ3 : Hid (w2.heap.size < w3.heap.size) := Lib.hid (by omega)
  have HE3 := Lib.hid hz
  clear hb hk hz
  have ltf := lt_of_block HKf3.out
  obtain ⟨cf0, cf1, cf2, ff0, ff1, ff2⟩ := cell3 HKf3.out
  have ltm := lt_of_block HKm3.out
  obtain ⟨cm0, cm1, cm2, fm0, fm1, fm2⟩ := cell3 HKm3.out
  have ltz := lt_of_block HKz3.out
  obtain ⟨cz0, cz1, cz2, fz0, fz1, fz2⟩ := cell3 HKz3.out
  go_wp2_with fail
  exact bodyPost_ret (v := .tuple #[.agg #[.int .i64 0, .int .i64 0, .slice none 0 0], .bool false]) (by simp [results, Try.results54, go_sem, cz0, cz1, cz2]) rfl ⟨⟨_, rfl, ⟨by simp [flat], .inl ⟨rfl, rfl⟩⟩⟩, HB3.out⟩

set_option maxRecDepth 100000 in
set_option maxHeartbeats 6400000 in
theorem l4Make_in (up lo : Int) (sv : Value) (rs : List (Int × Int)) (q : Nat) (part amt : Int) (w : World) (h : RodsR w sv rs) (hg : goodF up lo rs) (ha : -5 ≤ amt ∧ amt ≤ 5) (hq : q < rs.length) (r : Int × Int) (hr : r = movR rs[q] ⟨q, part, amt⟩) (fu fl : Int) (qs : List (Int × Int)) (t : Bool)
    (hk : (goodF up lo (rs.set q r) ∧ fu = up ∧ fl = lo ∧ qs = rs.set q r ∧ t = true) ∨ (¬ goodF up lo (rs.set q r) ∧ fu = 0 ∧ fl = 0 ∧ qs = [] ∧ t = false)) :
    Calls Try.prog 54 #[.agg #[.int .i64 up, .int .i64 lo, sv], .agg #[.int .i64 q, .int .i64 part, .int .i64 amt]] w fun e w' => (∃ sq, e = .returned (.tuple #[.agg #[.int .i64 fu, .int .i64 fl, sq], .bool t]) ∧ w'.ownsRow w.heap.size 62 2 sq qs.length (flat qs)) ∧ Below w.heap.size w w' := by
  obtain ⟨a, c, rfl⟩ : ∃ a c, sv = .slice a rs.length c := by obtain ⟨a, c, e, _⟩ := h; exact ⟨a, c, e⟩
  have hm : rs.length ≤ 9223372036854775807 := by obtain ⟨_, _, _, ⟨m, _⟩, _⟩ := h; exact m
  have hlen : 0 < rs.length ∧ rs.length ≤ 8 := by have := hg.2.2.2; omega
  have hrk : (0 ≤ rs[q].1 ∧ rs[q].1 ≤ 2) ∧ (0 ≤ rs[q].2 ∧ rs[q].2 ≤ 5) := by have := hg.1 q hq; have h1 := hg.2.1; have h2 := hg.2.2.1; unfold rodOk at this; omega
  have z1 : (0 : Int) ≤ (q : Int) := by omega
  have z2 : (q : Int) < (rs.length : Int) := by omega
  have z3 : ¬ (rs.length : Int) ≤ (q : Int) := by omega
  have HA := Lib.hid (rods_at h)
  have HK := Lib.hid hk
  have HQ := Lib.hid hr
  obtain ⟨r0, hr0⟩ : ∃ r0, rs[q] = r0 := ⟨_, rfl⟩
  rw [hr0] at hrk HQ
  have HR0 := Lib.hid hr0
  clear hr0
  have HB0 : Hid (Below w.heap.size w w) := Lib.hid (Below.refl _ _)
  have HRf0 := Lib.hid (h)
  clear h hk hr
  have hm3 : w.heap.size = w.heap.size := rfl
  go_enter Try.func54, Try.ntmps54
  go_wp2_with fail
  have hb : Below w.heap.size w (w.alloc (.cells #[.int .i64 up, .int .i64 lo, .slice a rs.length c] 52)) := (Below.refl _ _).alloc (Nat.le_refl _) _
  have hk : (w.alloc (.cells #[.int .i64 up, .int .i64 lo, .slice a rs.length c] 52)).heap[w.heap.size]? = some (.cells #[.int .i64 up, .int .i64 lo, .slice a rs.length c] 52 (0, 0)) := alloc_at rfl
  have hz : (w.alloc (.cells #[.int .i64 up, .int .i64 lo, .slice a rs.length c] 52)).heap.size = w.heap.size + 1 := by simp
  generalize w.alloc (.cells #[.int .i64 up, .int .i64 lo, .slice a rs.length c] 52) = w1 at hb hk hz ⊢
  have HB1 : Hid (Below w.heap.size w w1) := Lib.hid (HB0.out.trans (hb.mono HB0.out.size))
  have HZ1 : Hid (w.heap.size ≤ w1.heap.size) := Lib.hid hb.size
  have HRf1 := Lib.hid (HRf0.out.below HB1.out (Nat.le_refl _))
  have HKf1 := Lib.hid hk
  replace HZ1 : Hid (w.heap.size < w1.heap.size) := Lib.hid (by omega)
  have HE1 := Lib.hid hz
  clear hb hk hz
  have hb : Below w1.heap.size w1 (w1.alloc (.cells #[.int .i64 q, .int .i64 part, .int .i64 amt] 40)) := (Below.refl _ _).alloc (Nat.le_refl _) _
  have hk : (w1.alloc (.cells #[.int .i64 q, .int .i64 part, .int .i64 amt] 40)).heap[w.heap.size + 1]? = some (.cells #[.int .i64 q, .int .i64 part, .int .i64 amt] 40 (0, 0)) := alloc_at (by have := HE1.out; omega)
  have hz : (w1.alloc (.cells #[.int .i64 q, .int .i64 part, .int .i64 amt] 40)).heap.size = w1.heap.size + 1 := by simp
  generalize w1.alloc (.cells #[.int .i64 q, .int .i64 part, .int .i64 amt] 40) = w2 at hb hk hz ⊢
  have HB2 : Hid (Below w.heap.size w w2) := Lib.hid (HB1.out.trans (hb.mono HB1.out.size))
  have HZ2 : Hid (w1.heap.size ≤ w2.heap.size) := Lib.hid hb.size
  have HRf2 := Lib.hid (HRf0.out.below HB2.out (Nat.le_refl _))
  have HKf2 := Lib.hid ((hb.block _ (lt_of_block HKf1.out)).trans HKf1.out)
  have HKm2 := Lib.hid hk
  replace HZ2 : Hid (w1.heap.size < w2.heap.size) := Lib.hid (by omega)
  have HE2 := Lib.hid hz
  clear hb hk hz
  have hb : Below w2.heap.size w2 (w2.alloc (.cells #[.int .i64 0, .int .i64 0, .slice none 0 0] 52)) := (Below.refl _ _).alloc (Nat.le_refl _) _
  have hk : (w2.alloc (.cells #[.int .i64 0, .int .i64 0, .slice none 0 0] 52)).heap[w.heap.size + 2]? = some (.cells #[.int .i64 0, .int .i64 0, .slice none 0 0] 52 (0, 0)) := alloc_at (by have := HE1.out; have := HE2.out; omega)
  have hz : (w2.alloc (.cells #[.int .i64 0, .int .i64 0, .slice none 0 0] 52)).heap.size = w2.heap.size + 1 := by simp
  generalize w2.alloc (.cells #[.int .i64 0, .int .i64 0, .slice none 0 0] 52) = w3 at hb hk hz ⊢
  have HB3 : Hid (Below w.heap.size w w3) := Lib.hid (HB2.out.trans (hb.mono HB2.out.size))
  have HZ3 : Hid (w2.heap.size ≤ w3.heap.size) := Lib.hid hb.size
  have HRf3 := Lib.hid (HRf0.out.below HB3.out (Nat.le_refl _))
  have HKf3 := Lib.hid ((hb.block _ (lt_of_block HKf2.out)).trans HKf2.out)
  have HKm3 := Lib.hid ((hb.block _ (lt_of_block HKm2.out)).trans HKm2.out)
  have HKz3 := Lib.hid hk
  replace HZ3 : Hid (w2.heap.size < w3.heap.size) := Lib.hid (by omega)
  have HE3 := Lib.hid hz
  clear hb hk hz
  have ltf := lt_of_block HKf3.out
  obtain ⟨cf0, cf1, cf2, ff0, ff1, ff2⟩ := cell3 HKf3.out
  have ltm := lt_of_block HKm3.out
  obtain ⟨cm0, cm1, cm2, fm0, fm1, fm2⟩ := cell3 HKm3.out
  have ltz := lt_of_block HKz3.out
  obtain ⟨cz0, cz1, cz2, fz0, fz1, fz2⟩ := cell3 HKz3.out
  go_wp2_with fail
  refine (l2Own_any up lo _ rs _ HRf3.out ⟨hlen.1, by omega⟩).mono ?_
  rintro e w4 ⟨⟨v, rfl, ho⟩, hb⟩
  have HB4 : Hid (Below w.heap.size w w4) := Lib.hid (HB3.out.trans (hb.mono HB3.out.size))
  have HZ4 : Hid (w3.heap.size ≤ w4.heap.size) := Lib.hid hb.size
  have HRf4 := Lib.hid (HRf0.out.below HB4.out (Nat.le_refl _))
  have HKf4 := Lib.hid ((hb.block _ (lt_of_block HKf3.out)).trans HKf3.out)
  have HKm4 := Lib.hid ((hb.block _ (lt_of_block HKm3.out)).trans HKm3.out)
  have HKz4 := Lib.hid ((hb.block _ (lt_of_block HKz3.out)).trans HKz3.out)
  clear hb
  obtain ⟨g, cap, rfl⟩ := own_block ho hlen.1
  have hg0 := (ho.lt g rfl).1
  have hzlo := ltz
  have HOv4 := Lib.hid (Ow.mk' ho)
  clear ho
  obtain ⟨b, off, rfl, p0, p1⟩ := HA.out _ HB4.out q hq
  have hlb := cell_lt p0
  replace p0 : w4.cell? ⟨b, off + q * 2, none⟩ = some (.int .i64 r0.1) := by rw [p0, HR0.out]
  replace p1 : w4.cell? ⟨b, off + q * 2 + 1, none⟩ = some (.int .i64 r0.2) := by rw [p1, HR0.out]
  have hv1 := HOv4.out.1
  have hf0 := hv1.frozenAt (q * 2)
  have hf1 := hv1.frozenAt (q * 2 + 1)
  obtain ⟨u0, d0⟩ : ∃ u, w4.cell? ⟨g, q * 2, none⟩ = some u := ⟨_, (hv1.cellAt (q * 2) (by omega)).trans (List.getElem?_eq_getElem (by rw [flat_len]; omega))⟩
  obtain ⟨u1, d1⟩ : ∃ u, w4.cell? ⟨g, q * 2 + 1, none⟩ = some u := ⟨_, (hv1.cellAt (q * 2 + 1) (by omega)).trans (List.getElem?_eq_getElem (by rw [flat_len]; omega))⟩
  have hlg : g < w4.heap.size := (hv1.lt g rfl).2
  clear hv1
  by_cases hq0 : part = 0
  · have hws : IntKind.i64.wrap (r0.1 + amt) = r0.1 + amt := by rw [IntKind.wrap_i64]; omega
    have hqb : (part == 0) = true := by simp [hq0]
    clear cf0 cf1 cf2 ff0 ff1 ff2 ltf cm0 cm1 cm2 fm0 fm1 fm2 ltm cz0 cz1 cz2 fz0 fz1 fz2 ltz
    have ltf := lt_of_block HKf4.out
    obtain ⟨cf0, cf1, cf2, ff0, ff1, ff2⟩ := cell3 HKf4.out
    have ltm := lt_of_block HKm4.out
    obtain ⟨cm0, cm1, cm2, fm0, fm1, fm2⟩ := cell3 HKm4.out
    have ltz := lt_of_block HKz4.out
    obtain ⟨cz0, cz1, cz2, fz0, fz1, fz2⟩ := cell3 HKz4.out
    go_wp2_with fail
    have hm : Btw g (g + 1) w4 ((w4.setCell ⟨g, q * 2, none⟩ (.int .i64 (r0.1 + amt))).setCell ⟨g, q * 2 + 1, none⟩ (.int .i64 r0.2)) := ((Btw.refl g (g + 1) w4).setCell (p := ⟨g, q * 2, none⟩) (Nat.le_refl _) (Nat.lt_succ_self _) _).setCell (p := ⟨g, q * 2 + 1, none⟩) (Nat.le_refl _) (Nat.lt_succ_self _) _
    have hv5 := (HOv4.out.stored (q * 2) (.int .i64 (r0.1 + amt))).stored (q * 2 + 1) (.int .i64 r0.2)
    clear d0 d1 hf0 hf1 p0 p1
    have hs45 : ((w4.setCell ⟨g, q * 2, none⟩ (.int .i64 (r0.1 + amt))).setCell ⟨g, q * 2 + 1, none⟩ (.int .i64 r0.2)).heap.size = w4.heap.size := by simp
    generalize (w4.setCell ⟨g, q * 2, none⟩ (.int .i64 (r0.1 + amt))).setCell ⟨g, q * 2 + 1, none⟩ (.int .i64 r0.2) = w5 at hm hv5 hs45 ⊢
    have HZ5 : Hid (w4.heap.size ≤ w5.heap.size) := Lib.hid hm.size
    have HB5 : Hid (Below w.heap.size w w5) := Lib.hid (HB4.out.trans (hm.below.mono (by have := HZ1.out; have := HZ2.out; have := HZ3.out; have := HZ4.out; have := HB0.out.size; omega)))
    have HRf5 := Lib.hid (HRf0.out.below HB5.out (Nat.le_refl _))
    have HKf5 := Lib.hid ((hm.block _ (by have := lt_of_block HKf4.out; have := HZ1.out; have := HZ2.out; have := HZ3.out; have := HZ4.out; omega)).trans HKf4.out)
    have HKm5 := Lib.hid ((hm.block _ (by have := lt_of_block HKm4.out; have := HZ1.out; have := HZ2.out; have := HZ3.out; have := HZ4.out; omega)).trans HKm4.out)
    have HKz5 := Lib.hid ((hm.block _ (by have := lt_of_block HKz4.out; have := HZ1.out; have := HZ2.out; have := HZ3.out; have := HZ4.out; omega)).trans HKz4.out)
    clear hm
    have HOv5 := Lib.hid (hv5)
    clear hv5
    have hb : Below w5.heap.size w5 (w5.alloc (.cells #[.int .i64 up, .int .i64 lo, .slice (some ⟨g, 0, none⟩) rs.length cap] 52)) := (Below.refl _ _).alloc (Nat.le_refl _) _
    have hk : (w5.alloc (.cells #[.int .i64 up, .int .i64 lo, .slice (some ⟨g, 0, none⟩) rs.length cap] 52)).heap[w4.heap.size]? = some (.cells #[.int .i64 up, .int .i64 lo, .slice (some ⟨g, 0, none⟩) rs.length cap] 52 (0, 0)) := alloc_at (by have := HE1.out; have := HE2.out; have := HE3.out; omega)
    have hz : (w5.alloc (.cells #[.int .i64 up, .int .i64 lo, .slice (some ⟨g, 0, none⟩) rs.length cap] 52)).heap.size = w5.heap.size + 1 := by simp
    generalize w5.alloc (.cells #[.int .i64 up, .int .i64 lo, .slice (some ⟨g, 0, none⟩) rs.length cap] 52) = w6 at hb hk hz ⊢
    have HB6 : Hid (Below w.heap.size w w6) := Lib.hid (HB5.out.trans (hb.mono HB5.out.size))
    have HZ6 : Hid (w5.heap.size ≤ w6.heap.size) := Lib.hid hb.size
    have HRf6 := Lib.hid (HRf0.out.below HB6.out (Nat.le_refl _))
    have HKf6 := Lib.hid ((hb.block _ (lt_of_block HKf5.out)).trans HKf5.out)
    have HKm6 := Lib.hid ((hb.block _ (lt_of_block HKm5.out)).trans HKm5.out)
    have HKz6 := Lib.hid ((hb.block _ (lt_of_block HKz5.out)).trans HKz5.out)
    have HOv6 := Lib.hid (HOv5.out.next hb)
    have HKo6 := Lib.hid hk
    replace HZ6 : Hid (w5.heap.size < w6.heap.size) := Lib.hid (by omega)
    have HE6 := Lib.hid hz
    clear hb hk hz
    have hb : Below w6.heap.size w6 (w6.alloc (.cells #[.int .i64 r0.1, .int .i64 r0.2] 62)) := (Below.refl _ _).alloc (Nat.le_refl _) _
    have hk : (w6.alloc (.cells #[.int .i64 r0.1, .int .i64 r0.2] 62)).heap[w6.heap.size]? = some (.cells #[.int .i64 r0.1, .int .i64 r0.2] 62 (0, 0)) := alloc_at rfl
    have hz : (w6.alloc (.cells #[.int .i64 r0.1, .int .i64 r0.2] 62)).heap.size = w6.heap.size + 1 := by simp
    generalize w6.alloc (.cells #[.int .i64 r0.1, .int .i64 r0.2] 62) = w7 at hb hk hz ⊢
    have HB7 : Hid (Below w.heap.size w w7) := Lib.hid (HB6.out.trans (hb.mono HB6.out.size))
    have HZ7 : Hid (w6.heap.size ≤ w7.heap.size) := Lib.hid hb.size
    have HRf7 := Lib.hid (HRf0.out.below HB7.out (Nat.le_refl _))
    have HKf7 := Lib.hid ((hb.block _ (lt_of_block HKf6.out)).trans HKf6.out)
    have HKm7 := Lib.hid ((hb.block _ (lt_of_block HKm6.out)).trans HKm6.out)
    have HKz7 := Lib.hid ((hb.block _ (lt_of_block HKz6.out)).trans HKz6.out)
    have HOv7 := Lib.hid (HOv6.out.next hb)
    have HKo7 := Lib.hid ((hb.block _ (lt_of_block HKo6.out)).trans HKo6.out)
    have HKr7 := Lib.hid hk
    replace HZ7 : Hid (w6.heap.size < w7.heap.size) := Lib.hid (by omega)
    have HE7 := Lib.hid hz
    clear hb hk hz
    have hO2 : w7.ownsRow w3.heap.size 62 2 (.slice (some ⟨g, 0, none⟩) rs.length cap) (rs.set q r).length (flat (rs.set q r)) := by
      have := own_relen (show (rs.set q r).length = rs.length by simp) HOv7.out.1
      rwa [show ((flat rs).set (q * 2) (.int .i64 (r0.1 + amt))).set (q * 2 + 1) (.int .i64 r0.2) = flat (rs.set q r) from by rw [HQ.out]; unfold movR; rw [if_pos (show (Mv.mk (q : Int) part amt).part = 0 from hq0)]; exact flat_set rs q hq (r0.1 + amt, r0.2)] at this
    have HO9 := Lib.hid hO2
    have HR9 : Hid (RodsR w7 (.slice (some ⟨g, 0, none⟩) rs.length cap) (rs.set q r)) := Lib.hid (RodsR.of_own hO2)
    clear hO2
    rcases HK.out with ⟨hgd, e1, e2, e3, e4⟩ | ⟨hgd, e1, e2, e3, e4⟩
    · subst e1 e2 e3 e4
      have HGD := Lib.hid hgd
      clear hgd
      refine (l2Good_yes _ _ _ _ _ HR9.out HGD.out).mono ?_
      rintro e w8 ⟨rfl, hb⟩
      have HO21 := Lib.hid (own_below HO9.out hb)
      have HB8 : Hid (Below w.heap.size w w8) := Lib.hid (HB7.out.trans (hb.mono HB7.out.size))
      have HZ8 : Hid (w7.heap.size ≤ w8.heap.size) := Lib.hid hb.size
      have HRf8 := Lib.hid (HRf0.out.below HB8.out (Nat.le_refl _))
      have HKf8 := Lib.hid ((hb.block _ (lt_of_block HKf7.out)).trans HKf7.out)
      have HKm8 := Lib.hid ((hb.block _ (lt_of_block HKm7.out)).trans HKm7.out)
      have HKz8 := Lib.hid ((hb.block _ (lt_of_block HKz7.out)).trans HKz7.out)
      have HOv8 := Lib.hid (HOv7.out.next hb)
      have HKo8 := Lib.hid ((hb.block _ (lt_of_block HKo7.out)).trans HKo7.out)
      have HKr8 := Lib.hid ((hb.block _ (lt_of_block HKr7.out)).trans HKr7.out)
      clear hb
      clear cf0 cf1 cf2 ff0 ff1 ff2 ltf cm0 cm1 cm2 fm0 fm1 fm2 ltm cz0 cz1 cz2 fz0 fz1 fz2 ltz
      have ltf := lt_of_block HKf8.out
      obtain ⟨cf0, cf1, cf2, ff0, ff1, ff2⟩ := cell3 HKf8.out
      have ltm := lt_of_block HKm8.out
      obtain ⟨cm0, cm1, cm2, fm0, fm1, fm2⟩ := cell3 HKm8.out
      have ltz := lt_of_block HKz8.out
      obtain ⟨cz0, cz1, cz2, fz0, fz1, fz2⟩ := cell3 HKz8.out
      have lto := lt_of_block HKo8.out
      obtain ⟨co0, co1, co2, fo0, fo1, fo2⟩ := cell3 HKo8.out
      have ltr := lt_of_block HKr8.out
      obtain ⟨cr0, cr1, fr0, fr1⟩ := cell2 HKr8.out
      go_wp2_with fail
      exact bodyPost_ret (v := .tuple #[.agg #[.int .i64 fu, .int .i64 fl, .slice (some ⟨g, 0, none⟩) rs.length cap], .bool true]) (by simp [results, Try.results54, go_sem, cz0, cz1, cz2]) rfl ⟨⟨_, rfl, own_mono (own_set3 HO21.out hzlo _ _ _) (by omega)⟩, bl_set3 HB8.out (by omega) _ _ _⟩
    · subst e1 e2 e3 e4
      have HGD := Lib.hid hgd
      clear hgd
      refine (l2Good_no _ _ _ _ _ HR9.out HGD.out).mono ?_
      rintro e w8 ⟨rfl, hb⟩
      have HB8 : Hid (Below w.heap.size w w8) := Lib.hid (HB7.out.trans (hb.mono HB7.out.size))
      have HZ8 : Hid (w7.heap.size ≤ w8.heap.size) := Lib.hid hb.size
      have HRf8 := Lib.hid (HRf0.out.below HB8.out (Nat.le_refl _))
      have HKf8 := Lib.hid ((hb.block _ (lt_of_block HKf7.out)).trans HKf7.out)
      have HKm8 := Lib.hid ((hb.block _ (lt_of_block HKm7.out)).trans HKm7.out)
      have HKz8 := Lib.hid ((hb.block _ (lt_of_block HKz7.out)).trans HKz7.out)
      have HOv8 := Lib.hid (HOv7.out.next hb)
      have HKo8 := Lib.hid ((hb.block _ (lt_of_block HKo7.out)).trans HKo7.out)
      have HKr8 := Lib.hid ((hb.block _ (lt_of_block HKr7.out)).trans HKr7.out)
      clear hb
      clear cf0 cf1 cf2 ff0 ff1 ff2 ltf cm0 cm1 cm2 fm0 fm1 fm2 ltm cz0 cz1 cz2 fz0 fz1 fz2 ltz
      have ltf := lt_of_block HKf8.out
      obtain ⟨cf0, cf1, cf2, ff0, ff1, ff2⟩ := cell3 HKf8.out
      have ltm := lt_of_block HKm8.out
      obtain ⟨cm0, cm1, cm2, fm0, fm1, fm2⟩ := cell3 HKm8.out
      have ltz := lt_of_block HKz8.out
      obtain ⟨cz0, cz1, cz2, fz0, fz1, fz2⟩ := cell3 HKz8.out
      have lto := lt_of_block HKo8.out
      obtain ⟨co0, co1, co2, fo0, fo1, fo2⟩ := cell3 HKo8.out
      have ltr := lt_of_block HKr8.out
      obtain ⟨cr0, cr1, fr0, fr1⟩ := cell2 HKr8.out
      go_wp2_with fail
      exact bodyPost_ret (v := .tuple #[.agg #[.int .i64 0, .int .i64 0, .slice none 0 0], .bool false]) (by simp [results, Try.results54, go_sem, cz0, cz1, cz2]) rfl ⟨⟨_, rfl, ⟨by simp [flat], .inl ⟨rfl, rfl⟩⟩⟩, bl_set3 HB8.out (by omega) _ _ _⟩
  · have hws : IntKind.i64.wrap (r0.2 + amt) = r0.2 + amt := by rw [IntKind.wrap_i64]; omega
    have hqb : (part == 0) = false := by simp [hq0]
    clear cf0 cf1 cf2 ff0 ff1 ff2 ltf cm0 cm1 cm2 fm0 fm1 fm2 ltm cz0 cz1 cz2 fz0 fz1 fz2 ltz
    have ltf := lt_of_block HKf4.out
    obtain ⟨cf0, cf1, cf2, ff0, ff1, ff2⟩ := cell3 HKf4.out
    have ltm := lt_of_block HKm4.out
    obtain ⟨cm0, cm1, cm2, fm0, fm1, fm2⟩ := cell3 HKm4.out
    have ltz := lt_of_block HKz4.out
    obtain ⟨cz0, cz1, cz2, fz0, fz1, fz2⟩ := cell3 HKz4.out
    go_wp2_with fail
    have hm : Btw g (g + 1) w4 ((w4.setCell ⟨g, q * 2, none⟩ (.int .i64 r0.1)).setCell ⟨g, q * 2 + 1, none⟩ (.int .i64 (r0.2 + amt))) := ((Btw.refl g (g + 1) w4).setCell (p := ⟨g, q * 2, none⟩) (Nat.le_refl _) (Nat.lt_succ_self _) _).setCell (p := ⟨g, q * 2 + 1, none⟩) (Nat.le_refl _) (Nat.lt_succ_self _) _
    have hv5 := (HOv4.out.stored (q * 2) (.int .i64 r0.1)).stored (q * 2 + 1) (.int .i64 (r0.2 + amt))
    clear d0 d1 hf0 hf1 p0 p1
    have hs45 : ((w4.setCell ⟨g, q * 2, none⟩ (.int .i64 r0.1)).setCell ⟨g, q * 2 + 1, none⟩ (.int .i64 (r0.2 + amt))).heap.size = w4.heap.size := by simp
    generalize (w4.setCell ⟨g, q * 2, none⟩ (.int .i64 r0.1)).setCell ⟨g, q * 2 + 1, none⟩ (.int .i64 (r0.2 + amt)) = w5 at hm hv5 hs45 ⊢
    have HZ5 : Hid (w4.heap.size ≤ w5.heap.size) := Lib.hid hm.size
    have HB5 : Hid (Below w.heap.size w w5) := Lib.hid (HB4.out.trans (hm.below.mono (by have := HZ1.out; have := HZ2.out; have := HZ3.out; have := HZ4.out; have := HB0.out.size; omega)))
    have HRf5 := Lib.hid (HRf0.out.below HB5.out (Nat.le_refl _))
    have HKf5 := Lib.hid ((hm.block _ (by have := lt_of_block HKf4.out; have := HZ1.out; have := HZ2.out; have := HZ3.out; have := HZ4.out; omega)).trans HKf4.out)
    have HKm5 := Lib.hid ((hm.block _ (by have := lt_of_block HKm4.out; have := HZ1.out; have := HZ2.out; have := HZ3.out; have := HZ4.out; omega)).trans HKm4.out)
    have HKz5 := Lib.hid ((hm.block _ (by have := lt_of_block HKz4.out; have := HZ1.out; have := HZ2.out; have := HZ3.out; have := HZ4.out; omega)).trans HKz4.out)
    clear hm
    have HOv5 := Lib.hid (hv5)
    clear hv5
    have hb : Below w5.heap.size w5 (w5.alloc (.cells #[.int .i64 up, .int .i64 lo, .slice (some ⟨g, 0, none⟩) rs.length cap] 52)) := (Below.refl _ _).alloc (Nat.le_refl _) _
    have hk : (w5.alloc (.cells #[.int .i64 up, .int .i64 lo, .slice (some ⟨g, 0, none⟩) rs.length cap] 52)).heap[w4.heap.size]? = some (.cells #[.int .i64 up, .int .i64 lo, .slice (some ⟨g, 0, none⟩) rs.length cap] 52 (0, 0)) := alloc_at (by have := HE1.out; have := HE2.out; have := HE3.out; omega)
    have hz : (w5.alloc (.cells #[.int .i64 up, .int .i64 lo, .slice (some ⟨g, 0, none⟩) rs.length cap] 52)).heap.size = w5.heap.size + 1 := by simp
    generalize w5.alloc (.cells #[.int .i64 up, .int .i64 lo, .slice (some ⟨g, 0, none⟩) rs.length cap] 52) = w6 at hb hk hz ⊢
    have HB6 : Hid (Below w.heap.size w w6) := Lib.hid (HB5.out.trans (hb.mono HB5.out.size))
    have HZ6 : Hid (w5.heap.size ≤ w6.heap.size) := Lib.hid hb.size
    have HRf6 := Lib.hid (HRf0.out.below HB6.out (Nat.le_refl _))
    have HKf6 := Lib.hid ((hb.block _ (lt_of_block HKf5.out)).trans HKf5.out)
    have HKm6 := Lib.hid ((hb.block _ (lt_of_block HKm5.out)).trans HKm5.out)
    have HKz6 := Lib.hid ((hb.block _ (lt_of_block HKz5.out)).trans HKz5.out)
    have HOv6 := Lib.hid (HOv5.out.next hb)
    have HKo6 := Lib.hid hk
    replace HZ6 : Hid (w5.heap.size < w6.heap.size) := Lib.hid (by omega)
    have HE6 := Lib.hid hz
    clear hb hk hz
    have hb : Below w6.heap.size w6 (w6.alloc (.cells #[.int .i64 r0.1, .int .i64 r0.2] 62)) := (Below.refl _ _).alloc (Nat.le_refl _) _
    have hk : (w6.alloc (.cells #[.int .i64 r0.1, .int .i64 r0.2] 62)).heap[w6.heap.size]? = some (.cells #[.int .i64 r0.1, .int .i64 r0.2] 62 (0, 0)) := alloc_at rfl
    have hz : (w6.alloc (.cells #[.int .i64 r0.1, .int .i64 r0.2] 62)).heap.size = w6.heap.size + 1 := by simp
    generalize w6.alloc (.cells #[.int .i64 r0.1, .int .i64 r0.2] 62) = w7 at hb hk hz ⊢
    have HB7 : Hid (Below w.heap.size w w7) := Lib.hid (HB6.out.trans (hb.mono HB6.out.size))
    have HZ7 : Hid (w6.heap.size ≤ w7.heap.size) := Lib.hid hb.size
    have HRf7 := Lib.hid (HRf0.out.below HB7.out (Nat.le_refl _))
    have HKf7 := Lib.hid ((hb.block _ (lt_of_block HKf6.out)).trans HKf6.out)
    have HKm7 := Lib.hid ((hb.block _ (lt_of_block HKm6.out)).trans HKm6.out)
    have HKz7 := Lib.hid ((hb.block _ (lt_of_block HKz6.out)).trans HKz6.out)
    have HOv7 := Lib.hid (HOv6.out.next hb)
    have HKo7 := Lib.hid ((hb.block _ (lt_of_block HKo6.out)).trans HKo6.out)
    have HKr7 := Lib.hid hk
    replace HZ7 : Hid (w6.heap.size < w7.heap.size) := Lib.hid (by omega)
    have HE7 := Lib.hid hz
    clear hb hk hz
    have hO2 : w7.ownsRow w3.heap.size 62 2 (.slice (some ⟨g, 0, none⟩) rs.length cap) (rs.set q r).length (flat (rs.set q r)) := by
      have := own_relen (show (rs.set q r).length = rs.length by simp) HOv7.out.1
      rwa [show ((flat rs).set (q * 2) (.int .i64 r0.1)).set (q * 2 + 1) (.int .i64 (r0.2 + amt)) = flat (rs.set q r) from by rw [HQ.out]; unfold movR; rw [if_neg (show ¬ (Mv.mk (q : Int) part amt).part = 0 from hq0)]; exact flat_set rs q hq (r0.1, r0.2 + amt)] at this
    have HO9 := Lib.hid hO2
    have HR9 : Hid (RodsR w7 (.slice (some ⟨g, 0, none⟩) rs.length cap) (rs.set q r)) := Lib.hid (RodsR.of_own hO2)
    clear hO2
    rcases HK.out with ⟨hgd, e1, e2, e3, e4⟩ | ⟨hgd, e1, e2, e3, e4⟩
    · subst e1 e2 e3 e4
      have HGD := Lib.hid hgd
      clear hgd
      refine (l2Good_yes _ _ _ _ _ HR9.out HGD.out).mono ?_
      rintro e w8 ⟨rfl, hb⟩
      have HO21 := Lib.hid (own_below HO9.out hb)
      have HB8 : Hid (Below w.heap.size w w8) := Lib.hid (HB7.out.trans (hb.mono HB7.out.size))
      have HZ8 : Hid (w7.heap.size ≤ w8.heap.size) := Lib.hid hb.size
      have HRf8 := Lib.hid (HRf0.out.below HB8.out (Nat.le_refl _))
      have HKf8 := Lib.hid ((hb.block _ (lt_of_block HKf7.out)).trans HKf7.out)
      have HKm8 := Lib.hid ((hb.block _ (lt_of_block HKm7.out)).trans HKm7.out)
      have HKz8 := Lib.hid ((hb.block _ (lt_of_block HKz7.out)).trans HKz7.out)
      have HOv8 := Lib.hid (HOv7.out.next hb)
      have HKo8 := Lib.hid ((hb.block _ (lt_of_block HKo7.out)).trans HKo7.out)
      have HKr8 := Lib.hid ((hb.block _ (lt_of_block HKr7.out)).trans HKr7.out)
      clear hb
      clear cf0 cf1 cf2 ff0 ff1 ff2 ltf cm0 cm1 cm2 fm0 fm1 fm2 ltm cz0 cz1 cz2 fz0 fz1 fz2 ltz
      have ltf := lt_of_block HKf8.out
      obtain ⟨cf0, cf1, cf2, ff0, ff1, ff2⟩ := cell3 HKf8.out
      have ltm := lt_of_block HKm8.out
      obtain ⟨cm0, cm1, cm2, fm0, fm1, fm2⟩ := cell3 HKm8.out
      have ltz := lt_of_block HKz8.out
      obtain ⟨cz0, cz1, cz2, fz0, fz1, fz2⟩ := cell3 HKz8.out
      have lto := lt_of_block HKo8.out
      obtain ⟨co0, co1, co2, fo0, fo1, fo2⟩ := cell3 HKo8.out
      have ltr := lt_of_block HKr8.out
      obtain ⟨cr0, cr1, fr0, fr1⟩ := cell2 HKr8.out
      go_wp2_with fail
      exact bodyPost_ret (v := .tuple #[.agg #[.int .i64 fu, .int .i64 fl, .slice (some ⟨g, 0, none⟩) rs.length cap], .bool true]) (by simp [results, Try.results54, go_sem, cz0, cz1, cz2]) rfl ⟨⟨_, rfl, own_mono (own_set3 HO21.out hzlo _ _ _) (by omega)⟩, bl_set3 HB8.out (by omega) _ _ _⟩
    · subst e1 e2 e3 e4
      have HGD := Lib.hid hgd
      clear hgd
      refine (l2Good_no _ _ _ _ _ HR9.out HGD.out).mono ?_
      rintro e w8 ⟨rfl, hb⟩
      have HB8 : Hid (Below w.heap.size w w8) := Lib.hid (HB7.out.trans (hb.mono HB7.out.size))
      have HZ8 : Hid (w7.heap.size ≤ w8.heap.size) := Lib.hid hb.size
      have HRf8 := Lib.hid (HRf0.out.below HB8.out (Nat.le_refl _))
      have HKf8 := Lib.hid ((hb.block _ (lt_of_block HKf7.out)).trans HKf7.out)
      have HKm8 := Lib.hid ((hb.block _ (lt_of_block HKm7.out)).trans HKm7.out)
      have HKz8 := Lib.hid ((hb.block _ (lt_of_block HKz7.out)).trans HKz7.out)
      have HOv8 := Lib.hid (HOv7.out.next hb)
      have HKo8 := Lib.hid ((hb.block _ (lt_of_block HKo7.out)).trans HKo7.out)
      have HKr8 := Lib.hid ((hb.block _ (lt_of_block HKr7.out)).trans HKr7.out)
      clear hb
      clear cf0 cf1 cf2 ff0 ff1 ff2 ltf cm0 cm1 cm2 fm0 fm1 fm2 ltm cz0 cz1 cz2 fz0 fz1 fz2 ltz
      have ltf := lt_of_block HKf8.out
      obtain ⟨cf0, cf1, cf2, ff0, ff1, ff2⟩ := cell3 HKf8.out
      have ltm := lt_of_block HKm8.out
      obtain ⟨cm0, cm1, cm2, fm0, fm1, fm2⟩ := cell3 HKm8.out
      have ltz := lt_of_block HKz8.out
      obtain ⟨cz0, cz1, cz2, fz0, fz1, fz2⟩ := cell3 HKz8.out
      have lto := lt_of_block HKo8.out
      obtain ⟨co0, co1, co2, fo0, fo1, fo2⟩ := cell3 HKo8.out
      have ltr := lt_of_block HKr8.out
      obtain ⟨cr0, cr1, fr0, fr1⟩ := cell2 HKr8.out
      go_wp2_with fail
      exact bodyPost_ret (v := .tuple #[.agg #[.int .i64 0, .int .i64 0, .slice none 0 0], .bool false]) (by simp [results, Try.results54, go_sem, cz0, cz1, cz2]) rfl ⟨⟨_, rfl, ⟨by simp [flat], .inl ⟨rfl, rfl⟩⟩⟩, bl_set3 HB8.out (by omega) _ _ _⟩

theorem l4Make_any (up lo : Int) (sv : Value) (rs : List (Int × Int)) (m : Mv) (w : World) (h : RodsR w sv rs) (hg : goodF up lo rs) (hm : okMv m) (fu fl : Int) (qs : List (Int × Int)) (t : Bool) (hk : MkF up lo rs m fu fl qs t) :
    Calls Try.prog 54 #[.agg #[.int .i64 up, .int .i64 lo, sv], mvV m] w fun e w' => (∃ sq, e = .returned (.tuple #[.agg #[.int .i64 fu, .int .i64 fl, sq], .bool t]) ∧ w'.ownsRow w.heap.size 62 2 sq qs.length (flat qs)) ∧ Below w.heap.size w w' := by
  by_cases hr : m.rod < rs.length
  · obtain ⟨rod, part, amt⟩ := m
    obtain ⟨⟨h0, h1⟩, h2, h3, h4⟩ := hm
    obtain ⟨q, rfl⟩ : ∃ q : Nat, rod = (q : Int) := ⟨rod.toNat, by simp at h0; omega⟩
    have hq : q < rs.length := by simpa using hr
    have he : movF rs ⟨(q : Int), part, amt⟩ = rs.set q (movR rs[q] ⟨(q : Int), part, amt⟩) := by
      unfold movF
      show rs.set (q : Int).toNat (movR (rs.getD (q : Int).toNat (0, 0)) _) = _
      rw [Int.toNat_natCast, List.getD_eq_getElem?_getD, List.getElem?_eq_getElem hq]; rfl
    refine l4Make_in up lo sv rs q part amt w h hg h3 hq _ rfl fu fl qs t ?_
    rw [← he]
    rcases hk with ⟨_, k1, k2, k3, k4, k5⟩ | ⟨k0, k2, k3, k4, k5⟩
    · exact .inl ⟨k1, k2, k3, k4, k5⟩
    · exact .inr ⟨fun hgd => k0 ⟨hr, hgd⟩, k2, k3, k4, k5⟩
  · rcases hk with ⟨k1, _⟩ | ⟨k0, rfl, rfl, rfl, rfl⟩
    · exact absurd k1 hr
    · exact l4Make_out up lo sv rs m w h hr

/-- MoveBeads: the answer. -/
def MvF (up lo : Int) (rs : List (Int × Int)) (m : Mv) (fu fl : Int) (qs : List (Int × Int)) (t : Bool) : Prop :=
  (goodF up lo rs ∧ okMv m ∧ MkF up lo rs m fu fl qs t) ∨ (¬ (goodF up lo rs ∧ okMv m) ∧ fu = 0 ∧ fl = 0 ∧ qs = [] ∧ t = false)
theorem mvF_or (up lo : Int) (rs : List (Int × Int)) (m : Mv) : ∃ fu fl qs t, MvF up lo rs m fu fl qs t := by
  by_cases h : goodF up lo rs ∧ okMv m
  · obtain ⟨fu, fl, qs, t, hk⟩ := mkF_or up lo rs m
    exact ⟨fu, fl, qs, t, .inl ⟨h.1, h.2, hk⟩⟩
  · exact ⟨0, 0, [], false, .inr ⟨h, rfl, rfl, rfl, rfl⟩⟩
theorem mkF_len {up lo : Int} {rs : List (Int × Int)} {m : Mv} {fu fl : Int} {qs : List (Int × Int)} {t : Bool} (hg : goodF up lo rs) (h : MkF up lo rs m fu fl qs t) : qs.length ≤ 8 := by
  rcases h with ⟨_, _, _, _, rfl, _⟩ | ⟨_, _, _, rfl, _⟩
  · rw [movF_len]; exact hg.2.2.2.2
  · simp
theorem mvF_len {up lo : Int} {rs : List (Int × Int)} {m : Mv} {fu fl : Int} {qs : List (Int × Int)} {t : Bool} (h : MvF up lo rs m fu fl qs t) : qs.length ≤ 8 := by
  rcases h with ⟨hg, _, hk⟩ | ⟨_, _, _, rfl, _⟩
  · exact mkF_len hg hk
  · simp

set_option maxRecDepth 100000 in
set_option maxHeartbeats 3200000 in
theorem specMove_any (up lo : Int) (sv : Value) (rs : List (Int × Int)) (m : Mv) (w : World) (h : RodsR w sv rs) (fu fl : Int) (qs : List (Int × Int)) (t : Bool) (hk : MvF up lo rs m fu fl qs t) :
    Calls Try.prog 47 #[.agg #[.int .i64 up, .int .i64 lo, sv], mvV m] w fun e w' => (∃ sq, e = .returned (.tuple #[.agg #[.int .i64 fu, .int .i64 fl, sq], .bool t]) ∧ w'.ownsRow w.heap.size 62 2 sq qs.length (flat qs)) ∧ Below w.heap.size w w' := by
  obtain ⟨a, c, rfl⟩ : ∃ a c, sv = .slice a rs.length c := by obtain ⟨a, c, e, _⟩ := h; exact ⟨a, c, e⟩
  have HK := Lib.hid hk
  have HONE := Lib.hid (fun w r hr => l4One_any m w r hr)
  have HMK := Lib.hid (fun s w h hg hm fu fl qs t hk => l4Make_any up lo s rs m w h hg hm fu fl qs t hk)
  obtain ⟨rod, part, amt⟩ := m
  change Hid (∀ (w : World) (r : Bool) (hr : r = true ↔ okMv ⟨rod, part, amt⟩), Calls Try.prog 43 #[.agg #[.int .i64 rod, .int .i64 part, .int .i64 amt]] w fun e w' => e = .returned (.bool r) ∧ Below w.heap.size w w') at HONE
  change Hid (∀ (s : Value) (w : World) (h : RodsR w s rs) (hg : goodF up lo rs) (hm : okMv ⟨rod, part, amt⟩) (fu fl : Int) (qs : List (Int × Int)) (t : Bool) (hk : MkF up lo rs ⟨rod, part, amt⟩ fu fl qs t), Calls Try.prog 54 #[.agg #[.int .i64 up, .int .i64 lo, s], .agg #[.int .i64 rod, .int .i64 part, .int .i64 amt]] w fun e w' => (∃ sq, e = .returned (.tuple #[.agg #[.int .i64 fu, .int .i64 fl, sq], .bool t]) ∧ w'.ownsRow w.heap.size 62 2 sq qs.length (flat qs)) ∧ Below w.heap.size w w') at HMK
  show Calls Try.prog 47 #[.agg #[.int .i64 up, .int .i64 lo, .slice a rs.length c], .agg #[.int .i64 rod, .int .i64 part, .int .i64 amt]] w fun e w' => (∃ sq, e = .returned (.tuple #[.agg #[.int .i64 fu, .int .i64 fl, sq], .bool t]) ∧ w'.ownsRow w.heap.size 62 2 sq qs.length (flat qs)) ∧ Below w.heap.size w w'
  have HB0 : Hid (Below w.heap.size w w) := Lib.hid (Below.refl _ _)
  have HRf0 := Lib.hid (h)
  clear h hk
  go_enter Try.func47, Try.ntmps47
  go_wp2_with fail
  have hb : Below w.heap.size w (w.alloc (.cells #[.int .i64 up, .int .i64 lo, .slice a rs.length c] 52)) := (Below.refl _ _).alloc (Nat.le_refl _) _
  have hk : (w.alloc (.cells #[.int .i64 up, .int .i64 lo, .slice a rs.length c] 52)).heap[w.heap.size]? = some (.cells #[.int .i64 up, .int .i64 lo, .slice a rs.length c] 52 (0, 0)) := alloc_at rfl
  have hz : (w.alloc (.cells #[.int .i64 up, .int .i64 lo, .slice a rs.length c] 52)).heap.size = w.heap.size + 1 := by simp
  generalize w.alloc (.cells #[.int .i64 up, .int .i64 lo, .slice a rs.length c] 52) = w1 at hb hk hz ⊢
  have HB1 : Hid (Below w.heap.size w w1) := Lib.hid (HB0.out.trans (hb.mono HB0.out.size))
  have HZ1 : Hid (w.heap.size ≤ w1.heap.size) := Lib.hid hb.size
  have HRf1 := Lib.hid (HRf0.out.below HB1.out (Nat.le_refl _))
  have HKf1 := Lib.hid hk
  replace HZ1 : Hid (w.heap.size < w1.heap.size) := Lib.hid (by omega)
  have HE1 := Lib.hid hz
  clear hb hk hz
  have hb : Below w1.heap.size w1 (w1.alloc (.cells #[.int .i64 rod, .int .i64 part, .int .i64 amt] 40)) := (Below.refl _ _).alloc (Nat.le_refl _) _
  have hk : (w1.alloc (.cells #[.int .i64 rod, .int .i64 part, .int .i64 amt] 40)).heap[w.heap.size + 1]? = some (.cells #[.int .i64 rod, .int .i64 part, .int .i64 amt] 40 (0, 0)) := alloc_at (by have := HE1.out; omega)
  have hz : (w1.alloc (.cells #[.int .i64 rod, .int .i64 part, .int .i64 amt] 40)).heap.size = w1.heap.size + 1 := by simp
  generalize w1.alloc (.cells #[.int .i64 rod, .int .i64 part, .int .i64 amt] 40) = w2 at hb hk hz ⊢
  have HB2 : Hid (Below w.heap.size w w2) := Lib.hid (HB1.out.trans (hb.mono HB1.out.size))
  have HZ2 : Hid (w1.heap.size ≤ w2.heap.size) := Lib.hid hb.size
  have HRf2 := Lib.hid (HRf0.out.below HB2.out (Nat.le_refl _))
  have HKf2 := Lib.hid ((hb.block _ (lt_of_block HKf1.out)).trans HKf1.out)
  have HKm2 := Lib.hid hk
  replace HZ2 : Hid (w1.heap.size < w2.heap.size) := Lib.hid (by omega)
  have HE2 := Lib.hid hz
  clear hb hk hz
  have hb : Below w2.heap.size w2 (w2.alloc (.cells #[.int .i64 0, .int .i64 0, .slice none 0 0] 52)) := (Below.refl _ _).alloc (Nat.le_refl _) _
  have hk : (w2.alloc (.cells #[.int .i64 0, .int .i64 0, .slice none 0 0] 52)).heap[w.heap.size + 2]? = some (.cells #[.int .i64 0, .int .i64 0, .slice none 0 0] 52 (0, 0)) := alloc_at (by have := HE1.out; have := HE2.out; omega)
  have hz : (w2.alloc (.cells #[.int .i64 0, .int .i64 0, .slice none 0 0] 52)).heap.size = w2.heap.size + 1 := by simp
  generalize w2.alloc (.cells #[.int .i64 0, .int .i64 0, .slice none 0 0] 52) = w3 at hb hk hz ⊢
  have HB3 : Hid (Below w.heap.size w w3) := Lib.hid (HB2.out.trans (hb.mono HB2.out.size))
  have HZ3 : Hid (w2.heap.size ≤ w3.heap.size) := Lib.hid hb.size
  have HRf3 := Lib.hid (HRf0.out.below HB3.out (Nat.le_refl _))
  have HKf3 := Lib.hid ((hb.block _ (lt_of_block HKf2.out)).trans HKf2.out)
  have HKm3 := Lib.hid ((hb.block _ (lt_of_block HKm2.out)).trans HKm2.out)
  have HKz3 := Lib.hid hk
  replace HZ3 : Hid (w2.heap.size < w3.heap.size) := Lib.hid (by omega)
  have HE3 := Lib.hid hz
  clear hb hk hz
  have ltf := lt_of_block HKf3.out
  obtain ⟨cf0, cf1, cf2, ff0, ff1, ff2⟩ := cell3 HKf3.out
  have ltm := lt_of_block HKm3.out
  obtain ⟨cm0, cm1, cm2, fm0, fm1, fm2⟩ := cell3 HKm3.out
  have ltz := lt_of_block HKz3.out
  obtain ⟨cz0, cz1, cz2, fz0, fz1, fz2⟩ := cell3 HKz3.out
  go_wp2_with fail
  by_cases hg : goodF up lo rs
  · have HG := Lib.hid hg
    clear hg
    refine (l2Good_yes _ _ _ _ _ HRf3.out HG.out).mono ?_
    rintro e w4 ⟨rfl, hb⟩
    have HB4 : Hid (Below w.heap.size w w4) := Lib.hid (HB3.out.trans (hb.mono HB3.out.size))
    have HZ4 : Hid (w3.heap.size ≤ w4.heap.size) := Lib.hid hb.size
    have HRf4 := Lib.hid (HRf0.out.below HB4.out (Nat.le_refl _))
    have HKf4 := Lib.hid ((hb.block _ (lt_of_block HKf3.out)).trans HKf3.out)
    have HKm4 := Lib.hid ((hb.block _ (lt_of_block HKm3.out)).trans HKm3.out)
    have HKz4 := Lib.hid ((hb.block _ (lt_of_block HKz3.out)).trans HKz3.out)
    clear hb
    clear cf0 cf1 cf2 ff0 ff1 ff2 ltf cm0 cm1 cm2 fm0 fm1 fm2 ltm cz0 cz1 cz2 fz0 fz1 fz2 ltz
    have ltf := lt_of_block HKf4.out
    obtain ⟨cf0, cf1, cf2, ff0, ff1, ff2⟩ := cell3 HKf4.out
    have ltm := lt_of_block HKm4.out
    obtain ⟨cm0, cm1, cm2, fm0, fm1, fm2⟩ := cell3 HKm4.out
    have ltz := lt_of_block HKz4.out
    obtain ⟨cz0, cz1, cz2, fz0, fz1, fz2⟩ := cell3 HKz4.out
    go_wp2_with fail
    by_cases hm : okMv ⟨rod, part, amt⟩
    · have HM := Lib.hid hm
      clear hm
      have HKK : Hid (MkF up lo rs ⟨rod, part, amt⟩ fu fl qs t) := Lib.hid (by rcases HK.out with ⟨_, _, hk⟩ | ⟨hn, _⟩; exact hk; exact absurd ⟨HG.out, HM.out⟩ hn)
      refine (HONE.out _ true ⟨fun _ => HM.out, fun _ => rfl⟩).mono ?_
      rintro e w5 ⟨rfl, hb⟩
      have HB5 : Hid (Below w.heap.size w w5) := Lib.hid (HB4.out.trans (hb.mono HB4.out.size))
      have HZ5 : Hid (w4.heap.size ≤ w5.heap.size) := Lib.hid hb.size
      have HRf5 := Lib.hid (HRf0.out.below HB5.out (Nat.le_refl _))
      have HKf5 := Lib.hid ((hb.block _ (lt_of_block HKf4.out)).trans HKf4.out)
      have HKm5 := Lib.hid ((hb.block _ (lt_of_block HKm4.out)).trans HKm4.out)
      have HKz5 := Lib.hid ((hb.block _ (lt_of_block HKz4.out)).trans HKz4.out)
      clear hb
      clear cf0 cf1 cf2 ff0 ff1 ff2 ltf cm0 cm1 cm2 fm0 fm1 fm2 ltm cz0 cz1 cz2 fz0 fz1 fz2 ltz
      have ltf := lt_of_block HKf5.out
      obtain ⟨cf0, cf1, cf2, ff0, ff1, ff2⟩ := cell3 HKf5.out
      have ltm := lt_of_block HKm5.out
      obtain ⟨cm0, cm1, cm2, fm0, fm1, fm2⟩ := cell3 HKm5.out
      have ltz := lt_of_block HKz5.out
      obtain ⟨cz0, cz1, cz2, fz0, fz1, fz2⟩ := cell3 HKz5.out
      go_wp2_with fail
      have hzlo := ltz
      refine (HMK.out _ _ HRf5.out HG.out HM.out fu fl qs t HKK.out).mono ?_
      rintro e w6 ⟨⟨v, rfl, ho⟩, hb⟩
      have HB6 : Hid (Below w.heap.size w w6) := Lib.hid (HB5.out.trans (hb.mono HB5.out.size))
      have HZ6 : Hid (w5.heap.size ≤ w6.heap.size) := Lib.hid hb.size
      have HRf6 := Lib.hid (HRf0.out.below HB6.out (Nat.le_refl _))
      have HKf6 := Lib.hid ((hb.block _ (lt_of_block HKf5.out)).trans HKf5.out)
      have HKm6 := Lib.hid ((hb.block _ (lt_of_block HKm5.out)).trans HKm5.out)
      have HKz6 := Lib.hid ((hb.block _ (lt_of_block HKz5.out)).trans HKz5.out)
      clear hb
      obtain ⟨pv, kv, rfl⟩ := own_form ho
      have HOv6 := Lib.hid (Ow.mk' ho)
      clear ho
      clear cf0 cf1 cf2 ff0 ff1 ff2 ltf cm0 cm1 cm2 fm0 fm1 fm2 ltm cz0 cz1 cz2 fz0 fz1 fz2 ltz
      have ltf := lt_of_block HKf6.out
      obtain ⟨cf0, cf1, cf2, ff0, ff1, ff2⟩ := cell3 HKf6.out
      have ltm := lt_of_block HKm6.out
      obtain ⟨cm0, cm1, cm2, fm0, fm1, fm2⟩ := cell3 HKm6.out
      have ltz := lt_of_block HKz6.out
      obtain ⟨cz0, cz1, cz2, fz0, fz1, fz2⟩ := cell3 HKz6.out
      go_wp2_with fail
      have hzs : w.heap.size ≤ w6.heap.size := by omega
      exact bodyPost_ret (v := .tuple #[.agg #[.int .i64 fu, .int .i64 fl, .slice pv qs.length kv], .bool t]) (by simp [results, Try.results47, go_sem, cz0, cz1, cz2, ltz]) rfl ⟨⟨_, rfl, own_mono ((own_set3 HOv6.out.1 hzlo _ _ _).alloc _) (by omega)⟩, (bl_set3 HB6.out (by omega) _ _ _).alloc (by simp; omega) _⟩
    · have HE : Hid (fu = 0 ∧ fl = 0 ∧ qs = [] ∧ t = false) := Lib.hid (by rcases HK.out with ⟨_, h2, _⟩ | ⟨_, h2⟩; exact absurd h2 hm; exact h2)
      obtain ⟨rfl, rfl, rfl, rfl⟩ := HE.out
      have HM := Lib.hid hm
      clear hm
      refine (HONE.out _ false ⟨fun h => by simp at h, fun h => absurd h HM.out⟩).mono ?_
      rintro e w5 ⟨rfl, hb⟩
      have HB5 : Hid (Below w.heap.size w w5) := Lib.hid (HB4.out.trans (hb.mono HB4.out.size))
      have HZ5 : Hid (w4.heap.size ≤ w5.heap.size) := Lib.hid hb.size
      have HRf5 := Lib.hid (HRf0.out.below HB5.out (Nat.le_refl _))
      have HKf5 := Lib.hid ((hb.block _ (lt_of_block HKf4.out)).trans HKf4.out)
      have HKm5 := Lib.hid ((hb.block _ (lt_of_block HKm4.out)).trans HKm4.out)
      have HKz5 := Lib.hid ((hb.block _ (lt_of_block HKz4.out)).trans HKz4.out)
      clear hb
      clear cf0 cf1 cf2 ff0 ff1 ff2 ltf cm0 cm1 cm2 fm0 fm1 fm2 ltm cz0 cz1 cz2 fz0 fz1 fz2 ltz
      have ltf := lt_of_block HKf5.out
      obtain ⟨cf0, cf1, cf2, ff0, ff1, ff2⟩ := cell3 HKf5.out
      have ltm := lt_of_block HKm5.out
      obtain ⟨cm0, cm1, cm2, fm0, fm1, fm2⟩ := cell3 HKm5.out
      have ltz := lt_of_block HKz5.out
      obtain ⟨cz0, cz1, cz2, fz0, fz1, fz2⟩ := cell3 HKz5.out
      go_wp2_with fail
      exact bodyPost_ret (v := .tuple #[.agg #[.int .i64 0, .int .i64 0, .slice none 0 0], .bool false]) (by simp [results, Try.results47, go_sem, cz0, cz1, cz2]) rfl ⟨⟨_, rfl, ⟨by simp [flat], .inl ⟨rfl, rfl⟩⟩⟩, bl_set3 HB5.out (by omega) _ _ _⟩
  · have HE : Hid (fu = 0 ∧ fl = 0 ∧ qs = [] ∧ t = false) := Lib.hid (by rcases HK.out with ⟨h2, _⟩ | ⟨_, h2⟩; exact absurd h2 hg; exact h2)
    obtain ⟨rfl, rfl, rfl, rfl⟩ := HE.out
    have HG := Lib.hid hg
    clear hg
    refine (l2Good_no _ _ _ _ _ HRf3.out HG.out).mono ?_
    rintro e w4 ⟨rfl, hb⟩
    have HB4 : Hid (Below w.heap.size w w4) := Lib.hid (HB3.out.trans (hb.mono HB3.out.size))
    have HZ4 : Hid (w3.heap.size ≤ w4.heap.size) := Lib.hid hb.size
    have HRf4 := Lib.hid (HRf0.out.below HB4.out (Nat.le_refl _))
    have HKf4 := Lib.hid ((hb.block _ (lt_of_block HKf3.out)).trans HKf3.out)
    have HKm4 := Lib.hid ((hb.block _ (lt_of_block HKm3.out)).trans HKm3.out)
    have HKz4 := Lib.hid ((hb.block _ (lt_of_block HKz3.out)).trans HKz3.out)
    clear hb
    clear cf0 cf1 cf2 ff0 ff1 ff2 ltf cm0 cm1 cm2 fm0 fm1 fm2 ltm cz0 cz1 cz2 fz0 fz1 fz2 ltz
    have ltf := lt_of_block HKf4.out
    obtain ⟨cf0, cf1, cf2, ff0, ff1, ff2⟩ := cell3 HKf4.out
    have ltm := lt_of_block HKm4.out
    obtain ⟨cm0, cm1, cm2, fm0, fm1, fm2⟩ := cell3 HKm4.out
    have ltz := lt_of_block HKz4.out
    obtain ⟨cz0, cz1, cz2, fz0, fz1, fz2⟩ := cell3 HKz4.out
    go_wp2_with fail
    exact bodyPost_ret (v := .tuple #[.agg #[.int .i64 0, .int .i64 0, .slice none 0 0], .bool false]) (by simp [results, Try.results47, go_sem, cz0, cz1, cz2]) rfl ⟨⟨_, rfl, ⟨by simp [flat], .inl ⟨rfl, rfl⟩⟩⟩, bl_set3 HB4.out (by omega) _ _ _⟩
end Go.Proofs.Ytmkocinknhaniaa

/-! Mplay -/
namespace Go.Proofs.Ytmkocinknhaniaa
set_option linter.unusedVariables false
open Go.RowKit

open Classical in
noncomputable def stepO (up lo : Int) (rs : List (Int × Int)) (m : Mv) : Option (List (Int × Int)) := if m.rod < rs.length ∧ goodF up lo (movF rs m) then some (movF rs m) else none
noncomputable def playO (up lo : Int) (rs : List (Int × Int)) (ms : List Mv) : Option (List (Int × Int)) := ms.foldl (fun o m => o.bind fun r => stepO up lo r m) (some rs)
theorem stepO_mk (up lo : Int) (rs : List (Int × Int)) (m : Mv) (fu fl : Int) (qs : List (Int × Int)) (t : Bool) (h : MkF up lo rs m fu fl qs t) : (t = true → fu = up ∧ fl = lo ∧ goodF up lo qs ∧ stepO up lo rs m = some qs) ∧ (t = false → fu = 0 ∧ fl = 0 ∧ qs = [] ∧ stepO up lo rs m = none) := by
  unfold stepO
  rcases h with ⟨h1, h2, rfl, rfl, rfl, rfl⟩ | ⟨h0, rfl, rfl, rfl, rfl⟩
  · exact ⟨fun _ => ⟨rfl, rfl, h2, by rw [if_pos ⟨h1, h2⟩]⟩, fun h => by simp at h⟩
  · exact ⟨fun h => by simp at h, fun _ => ⟨rfl, rfl, rfl, by rw [if_neg h0]⟩⟩
theorem playO_snoc (up lo : Int) (rs : List (Int × Int)) (ms : List Mv) (k : Nat) (h : k < ms.length) : playO up lo rs (ms.take (k + 1)) = (playO up lo rs (ms.take k)).bind fun r => stepO up lo r ms[k] := by
  unfold playO; rw [List.take_succ_eq_append_getElem h, List.foldl_append]; rfl
theorem play_none (up lo : Int) (ms : List Mv) : ms.foldl (fun o m => o.bind fun r => stepO up lo r m) none = none := by
  induction ms with
  | nil => rfl
  | cons m t ih => exact ih
theorem playO_none (up lo : Int) (rs : List (Int × Int)) (ms : List Mv) (k : Nat) (h : playO up lo rs (ms.take k) = none) : playO up lo rs ms = none := by
  have : playO up lo rs ms = (ms.drop k).foldl (fun o m => o.bind fun r => stepO up lo r m) (playO up lo rs (ms.take k)) := by
    unfold playO; rw [← List.foldl_append, List.take_append_drop]
  rw [this, h, play_none]
/-- PlayMoves: the answer. -/
def PlF (up lo : Int) (rs : List (Int × Int)) (ms : List Mv) (fu fl : Int) (qs : List (Int × Int)) (t : Bool) : Prop :=
  (goodF up lo rs ∧ okMs ms ∧ playO up lo rs ms = some qs ∧ goodF up lo qs ∧ fu = up ∧ fl = lo ∧ t = true) ∨ (¬ (goodF up lo rs ∧ okMs ms ∧ playO up lo rs ms ≠ none) ∧ fu = 0 ∧ fl = 0 ∧ qs = [] ∧ t = false)
theorem playO_good (up lo : Int) (rs : List (Int × Int)) (ms : List Mv) (hg : goodF up lo rs) : ∀ k, k ≤ ms.length → ∀ qs, playO up lo rs (ms.take k) = some qs → goodF up lo qs := by
  intro k
  induction k with
  | zero => intro _ qs h; unfold playO at h; simp at h; subst h; exact hg
  | succ k ih =>
    intro hk qs h
    rw [playO_snoc up lo rs ms k (by omega)] at h
    cases hp : playO up lo rs (ms.take k) with
    | none => rw [hp] at h; simp at h
    | some r =>
      rw [hp] at h
      simp only [Option.bind_some] at h
      unfold stepO at h
      split at h
      · injection h with h; subst h; rename_i hh; exact hh.2
      · simp at h
theorem plF_or (up lo : Int) (rs : List (Int × Int)) (ms : List Mv) : ∃ fu fl qs t, PlF up lo rs ms fu fl qs t := by
  by_cases h : goodF up lo rs ∧ okMs ms ∧ playO up lo rs ms ≠ none
  · cases hp : playO up lo rs ms with
    | none => exact absurd hp h.2.2
    | some qs => exact ⟨up, lo, qs, true, .inl ⟨h.1, h.2.1, hp, playO_good up lo rs ms h.1 ms.length (Nat.le_refl _) qs (by rwa [List.take_length]), rfl, rfl, rfl⟩⟩
  · exact ⟨0, 0, [], false, .inr ⟨h, rfl, rfl, rfl, rfl⟩⟩
theorem plF_len {up lo : Int} {rs : List (Int × Int)} {ms : List Mv} {fu fl : Int} {qs : List (Int × Int)} {t : Bool} (h : PlF up lo rs ms fu fl qs t) : qs.length ≤ 8 := by
  rcases h with ⟨_, _, _, h, _⟩ | ⟨_, _, _, rfl, _⟩
  · exact h.2.2.2.2
  · simp

theorem box3_set {w : World} {g : Nat} {a b c : Value} {T : TypeId} (h : w.heap[g]? = some (.cells #[a, b, c] T (0, 0))) (x y z : Value) :
    (((w.setCell ⟨g, 0, none⟩ x).setCell ⟨g, 1, none⟩ y).setCell ⟨g, 2, none⟩ z).heap[g]? = some (.cells #[x, y, z] T (0, 0)) := by
  have h1 := heap_setCell_same w g 0 _ _ x h
  have h2 := heap_setCell_same _ g 1 _ _ y h1
  have h3 := heap_setCell_same _ g 2 _ _ z h2
  simpa using h3

end Go.Proofs.Ytmkocinknhaniaa
