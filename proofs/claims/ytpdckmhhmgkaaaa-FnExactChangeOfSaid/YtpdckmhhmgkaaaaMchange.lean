/- The model's ChangeOf. -/
import Derived.Test.YtpdckmhhmgkaaaaMone
import Derived.Test.YtpdckmhhmgkaaaaPow
namespace Go.Proofs.Ytpdckmhhmgkaaaa
set_option linter.unusedVariables false
open Go.RowKit

/-- What a bead of a move's part is worth on a frame of R rods. -/
def worthN (R : Nat) (m : Mv) : Int := (if m.part = 0 then 5 else 1) * 10 ^ (R - 1 - m.rod.toNat)
def chgI (R : Nat) (ms : List Mv) : Int := (ms.map fun m => m.amt * worthN R m).sum
theorem chg_snoc (R : Nat) (ms : List Mv) (k : Nat) (h : k < ms.length) : chgI R (ms.take (k + 1)) = chgI R (ms.take k) + ms[k].amt * worthN R ms[k] := by
  unfold chgI; rw [List.take_succ_eq_append_getElem h, List.map_append, List.sum_append]; simp
/-- The answer: s and t. -/
def ChF (ms : List Mv) (R : Int) (s : Int) (t : Bool) : Prop :=
  (okMs ms ∧ (1 ≤ R ∧ R ≤ 8) ∧ (∀ (k : Nat) (h : k < ms.length), ms[k].rod < R) ∧ s = chgI R.toNat ms ∧ t = true) ∨
  (¬ (okMs ms ∧ (1 ≤ R ∧ R ≤ 8) ∧ (∀ (k : Nat) (h : k < ms.length), ms[k].rod < R)) ∧ s = 0 ∧ t = false)
theorem chF_or (ms : List Mv) (R : Int) : ∃ s t, ChF ms R s t := by
  by_cases h : okMs ms ∧ (1 ≤ R ∧ R ≤ 8) ∧ (∀ (k : Nat) (h : k < ms.length), ms[k].rod < R)
  · exact ⟨_, true, .inl ⟨h.1, h.2.1, h.2.2, rfl, rfl⟩⟩
  · exact ⟨0, false, .inr ⟨h, rfl, rfl⟩⟩

set_option maxRecDepth 100000 in
set_option maxHeartbeats 3200000 in
theorem specChange_scan (v : Value) (ps : List Mv) (R : Nat) (w : World) (h : RowsR 3 mvC w v ps) (ho : okMs ps) (hR : 1 ≤ R ∧ R ≤ 8) (p : Nat) (hp : p ≤ ps.length) (hpre : ∀ i (h : i < ps.length), i < p → ps[i].rod < R) (hx : ∀ h : p < ps.length, ¬ ps[p].rod < R) (s : Int) (t : Bool) (hs1 : p < ps.length → s = 0 ∧ t = false) (hs2 : p = ps.length → s = chgI R ps ∧ t = true) :
    Calls Try.prog 42 #[v, .int .i64 R] w fun e w' => e = .returned (.tuple #[.int .i64 s, .bool t]) ∧ Below w.heap.size w w' := by
  have h60 := ho.2
  have HH := Lib.hid h
  obtain ⟨a, cp, rfl⟩ := h.form
  have R1 := Lib.hid h.at
  have HO := Lib.hid ho
  have HP := Lib.hid hpre
  have HX := Lib.hid hx
  have HS1 := Lib.hid hs1
  have HS2 := Lib.hid hs2
  obtain ⟨hR0, hR1⟩ := hR
  have hRi : (1 : Int) ≤ (R : Int) ∧ (R : Int) ≤ 8 := by omega
  clear h ho hpre hx hs1 hs2
  go_enter Try.func42, Try.ntmps42
  go_wp2_with fail
  refine (l4Good_any _ ps _ HH.out true ⟨fun _ => HO.out, fun _ => rfl⟩).mono ?_
  rintro e w2 ⟨rfl, hb⟩
  have HB := Lib.hid hb
  clear hb
  go_wp2_with fail
  refine (l1In_yesq _ _ _ _ hRi).mono ?_
  rintro e w' ⟨rfl, hw⟩
  subst w'
  go_wp2_with fail
  go_loopw [6, 7] (fun n i wr => ∃ (k : Nat) (S : Int), k ≤ p ∧ i = .int .i64 k ∧ n = .int .i64 S ∧ -(3000000000 * (k : Int)) ≤ S ∧ S ≤ 3000000000 * k ∧ Hid (chgI R (ps.take k) = S) ∧ Below w.heap.size w wr) (fun _ i _ => ps.length - (intOf i).toNat)
  case atStart => exact ⟨0, 0, Nat.zero_le _, rfl, rfl, by omega, by omega, Lib.hid rfl, HB.out⟩
  case round =>
    obtain ⟨k, S, hk, rfl, rfl, hS0, hS1, HSM, hb⟩ := hrel
    have HB2 := Lib.hid hb
    by_cases hlt : k < ps.length
    · have z1 : (0 : Int) ≤ (k : Int) := by omega
      have z2 : (k : Int) < (ps.length : Int) := by omega
      obtain ⟨b1, o1, rfl, l1, k1⟩ := R1.out _ hb k hlt
      have p0 : wr.cell? ⟨b1, o1 + k * 3, none⟩ = some (.int .i64 ps[k].rod) := k1 0 (by omega)
      have p1 : wr.cell? ⟨b1, o1 + k * 3 + 1, none⟩ = some (.int .i64 ps[k].part) := k1 1 (by omega)
      have p2 : wr.cell? ⟨b1, o1 + k * 3 + 2, none⟩ = some (.int .i64 ps[k].amt) := k1 2 (by omega)
      have hok := HO.out.1 k hlt
      have HSN := Lib.hid (chg_snoc R ps k hlt)
      have HBX : Hid (Below w.heap.size w (wr.alloc (.cells #[.int .i64 ps[k].rod, .int .i64 ps[k].part, .int .i64 ps[k].amt] 38))) := Lib.hid (HB2.out.alloc HB2.out.size _)
      have HPK : Hid (k < p → ps[k].rod < R) := Lib.hid (fun h => HP.out k hlt h)
      have HXK : Hid (¬ k < p → k = p ∧ ¬ ps[k].rod < R) := Lib.hid (fun h => by have e : k = p := by omega
                                                                                 subst e; exact ⟨rfl, by have := HX.out hlt; omega⟩)
      clear k1 hb
      generalize ps[k] = m at p0 p1 p2 hok HSN HBX HPK HXK
      obtain ⟨rod, part, amt⟩ := m
      obtain ⟨⟨r0, r1⟩, ⟨q0, q1⟩, ⟨m0, m1⟩, _⟩ := hok
      dsimp only at r0 r1 q0 q1 m0 m1 p0 p1 p2 HBX HPK HXK
      by_cases hkp : k < p
      · have hlR := HPK.out hkp
        obtain ⟨rr, rfl⟩ : ∃ rr : Nat, rod = (rr : Int) := ⟨rod.toNat, by omega⟩
        have hlR' : ¬ (R : Int) ≤ (rr : Int) := by omega
        obtain ⟨d, hd⟩ : ∃ d : Nat, d + rr + 1 = R := ⟨R - 1 - rr, by omega⟩
        have hwd : (R : Int) - 1 - (rr : Int) = (d : Int) := by omega
        have hw1 : IntKind.i64.wrap ((R : Int) - 1) = (R : Int) - 1 := by rw [IntKind.wrap_i64]; omega
        have hw2 : IntKind.i64.wrap ((R : Int) - 1 - (rr : Int)) = (d : Int) := by rw [IntKind.wrap_i64]; omega
        have hd8 : d ≤ 8 := by omega
        obtain ⟨b1', b2'⟩ := pow_bd d hd8
        have HPW : Hid (∀ w, Calls Try.prog 57 #[.int .i64 d] w fun e w' => e = .returned (.int .i64 ((10 : Int) ^ d)) ∧ w' = w) := Lib.hid fun w => l2Power_any d w hd8
        have HWO : Hid (worthN R ⟨(rr : Int), part, amt⟩ = (if part = 0 then 5 else 1) * (10 : Int) ^ d) := Lib.hid (by unfold worthN; rw [Int.toNat_natCast, show R - 1 - rr = d by omega])
        generalize (10 : Int) ^ d = pw at b1' b2' HPW HWO
        clear hd hwd
        have HHD := Lib.hid hlR
        have HHK := Lib.hid HPK
        clear hlR HPK HXK HHK
        by_cases hq : part = 0
        · subst hq
          rw [if_pos rfl] at HWO
          have hb5 : -(3000000000 : Int) ≤ amt * (5 * pw) ∧ amt * (5 * pw) ≤ 3000000000 := by
            have := Int.mul_le_mul_of_nonneg_right m1 (show 0 ≤ 5 * pw by omega)
            have := Int.mul_le_mul_of_nonneg_right m0 (show 0 ≤ 5 * pw by omega)
            omega
          generalize hpr : amt * (5 * pw) = pr at hb5
          obtain ⟨hb50, hb51⟩ := hb5
          have HPR := Lib.hid hpr
          have hwp : IntKind.i64.wrap (5 * pw) = 5 * pw := by rw [IntKind.wrap_i64]; omega
          have hwr : IntKind.i64.wrap (amt * (5 * pw)) = pr := by rw [hpr, IntKind.wrap_i64]; omega
          have hws : IntKind.i64.wrap (S + pr) = S + pr := by rw [IntKind.wrap_i64]; omega
          clear hpr
          go_wp2_with fail
          try rw [hw2]
          refine (HPW.out _).mono ?_
          rintro e w' ⟨rfl, hw⟩
          subst w'
          go_wp2_with fail
          go_roundw
          case rel => exact ⟨k + 1, S + pr, by omega, by go_num, (by first | rfl | rw [hws] | rw [hwr, hws]), by omega, by omega, Lib.hid (by rw [HSN.out, HSM.out, HWO.out, HPR.out]), HBX.out⟩
          case measure => simp [intOf]; omega
        · rw [if_neg hq] at HWO
          have hb5 : -(3000000000 : Int) ≤ amt * pw ∧ amt * pw ≤ 3000000000 := by
            have := Int.mul_le_mul_of_nonneg_right m1 (show 0 ≤ pw by omega)
            have := Int.mul_le_mul_of_nonneg_right m0 (show 0 ≤ pw by omega)
            omega
          generalize hpr : amt * pw = pr at hb5
          obtain ⟨hb50, hb51⟩ := hb5
          have HPR := Lib.hid hpr
          have hqb : (part == 0) = false := by simp [hq]
          have hwr : IntKind.i64.wrap (amt * pw) = pr := by rw [hpr, IntKind.wrap_i64]; omega
          have hws : IntKind.i64.wrap (S + pr) = S + pr := by rw [IntKind.wrap_i64]; omega
          clear hpr
          go_wp2_with fail
          try rw [hw2]
          refine (HPW.out _).mono ?_
          rintro e w' ⟨rfl, hw⟩
          subst w'
          go_wp2_with fail
          go_roundw
          case rel => exact ⟨k + 1, S + pr, by omega, by go_num, (by first | rfl | rw [hws] | rw [hwr, hws]), by omega, by omega, Lib.hid (by rw [HSN.out, HSM.out, HWO.out, Int.one_mul, HPR.out]), HBX.out⟩
          case measure => simp [intOf]; omega
      · obtain ⟨hke, hnr⟩ := HXK.out hkp
        subst hke
        have hnr' : (R : Int) ≤ rod := by omega
        have HST := Lib.hid (HS1.out hlt)
        clear hnr hkp HXK HPK
        go_wp2_with fail
        go_ret2
        exact ⟨by rw [HST.out.1, HST.out.2]; rfl, HBX.out⟩
    · have hke : k = ps.length := by omega
      have hpe : p = ps.length := by omega
      have HST : Hid (s = S ∧ t = true) := Lib.hid (by
        have := HS2.out hpe; have h2 := HSM.out; rw [List.take_of_length_le (by omega)] at h2; rw [← h2]; exact this)
      clear hb hke hpe
      go_wp2_with fail
      go_ret2
      exact ⟨by rw [HST.out.1, HST.out.2]; rfl, HB2.out⟩
set_option maxRecDepth 100000 in
set_option maxHeartbeats 800000 in
theorem specChange_any (v : Value) (ps : List Mv) (R : Int) (w : World) (h : RowsR 3 mvC w v ps) (s : Int) (t : Bool) (hc : ChF ps R s t) :
    Calls Try.prog 42 #[v, .int .i64 R] w fun e w' => e = .returned (.tuple #[.int .i64 s, .bool t]) ∧ Below w.heap.size w w' := by
  by_cases ho : okMs ps
  · by_cases hR : 1 ≤ R ∧ R ≤ 8
    · obtain ⟨n, rfl⟩ : ∃ n : Nat, R = (n : Int) := ⟨R.toNat, by omega⟩
      obtain ⟨p, hp, hpre, hx⟩ := first_bad ps.length (fun i _ => ps[i].rod < n)
      refine specChange_scan v ps n w h ho (by omega) p hp hpre hx s t (fun hlt => ?_) (fun he => ?_)
      · rcases hc with ⟨_, _, h3, _⟩ | ⟨_, h1, h2⟩
        · exact absurd (h3 p hlt) (hx hlt)
        · exact ⟨h1, h2⟩
      · rcases hc with ⟨_, _, _, h4, h5⟩ | ⟨h0, _⟩
        · exact ⟨by rw [h4, Int.toNat_natCast], h5⟩
        · exact absurd ⟨ho, hR, fun k hk => hpre k hk (by omega)⟩ h0
    · have HST : Hid (s = 0 ∧ t = false) := Lib.hid (by rcases hc with ⟨_, h2, _⟩ | ⟨_, h1, h2⟩; exact absurd h2 hR; exact ⟨h1, h2⟩)
      have HH := Lib.hid h
      have HO := Lib.hid ho
      clear hc h ho
      go_enter Try.func42, Try.ntmps42
      go_wp2_with fail
      refine (l4Good_any v ps _ HH.out true ⟨fun _ => HO.out, fun _ => rfl⟩).mono ?_
      rintro e w2 ⟨rfl, hb⟩
      have HB := Lib.hid hb
      clear hb
      go_wp2_with fail
      refine (l1In_noq _ _ _ _ hR).mono ?_
      rintro e w' ⟨rfl, hw⟩
      subst w'
      go_wp2_with fail
      go_ret2
      exact ⟨by rw [HST.out.1, HST.out.2]; rfl, HB.out⟩
  · have HST : Hid (s = 0 ∧ t = false) := Lib.hid (by rcases hc with ⟨h2, _⟩ | ⟨_, h1, h2⟩; exact absurd h2 ho; exact ⟨h1, h2⟩)
    have HH := Lib.hid h
    have HO := Lib.hid ho
    clear hc h ho
    go_enter Try.func42, Try.ntmps42
    go_wp2_with fail
    refine (l4Good_any v ps _ HH.out false ⟨fun h => by simp at h, fun h => absurd h HO.out⟩).mono ?_
    rintro e w2 ⟨rfl, hb⟩
    go_wp2_with fail
    go_ret2
    exact ⟨by rw [HST.out.1, HST.out.2]; rfl, hb⟩
end Go.Proofs.Ytpdckmhhmgkaaaa
