/- Parts laid as one: Tkp, Tkq. -/
import Derived.Test.YtjkjaadcdolbhaaKt
import Derived.Test.YtjkjaadcdolbhaaIScal
import Derived.Test.YtjkjaadcdolbhaaKf
/-! Tkp -/
namespace Go.Proofs.Ytjkjaadcdolbhaa
set_option linter.unusedVariables false
open Go.RowKit

/-- In a world: a chain of takings from block lo on. -/
def TkCh (w : World) (lo : Nat) : Value → List (Nat × Int) → Prop
  | p, [] => p = .pointer none
  | p, (q, x) :: t => ∃ a p', p = .pointer (some ⟨a, 0, none⟩) ∧ lo ≤ a ∧ w.heap[a]? = some (.cells #[.int .i64 (q : Nat), .int .i64 x, p'] 126 (0, 0)) ∧ TkCh w lo p' t
theorem TkCh.kept {w w' : World} : ∀ (L : List (Nat × Int)) (lo : Nat) (p : Value), TkCh w lo p L → (∀ a cs, lo ≤ a → w.heap[a]? = some (.cells cs 126 (0, 0)) → w'.heap[a]? = w.heap[a]?) → TkCh w' lo p L
  | [], _, _, h, _ => h
  | (q, x) :: t, lo, p, h, hk => by
    obtain ⟨a, p', e, hl, hb, ht⟩ := h
    exact ⟨a, p', e, hl, (hk a _ hl hb).trans hb, TkCh.kept t lo p' ht hk⟩
theorem TkCh.next {w w' : World} {L : List (Nat × Int)} {lo : Nat} {p : Value} (h : TkCh w lo p L) (hb : Below w.heap.size w w') : TkCh w' lo p L :=
  TkCh.kept L lo p h fun a _ _ ha => hb.block a (Array.getElem?_eq_some_iff.1 ha).1
theorem TkCh.mono {w : World} : ∀ {L : List (Nat × Int)} {lo lo' : Nat} {p : Value}, TkCh w lo p L → lo' ≤ lo → TkCh w lo' p L
  | [], _, _, _, h, _ => h
  | (q, x) :: t, lo, lo', p, h, hl => by
    obtain ⟨a, p', e, h1, hb, ht⟩ := h
    exact ⟨a, p', e, by omega, hb, ht.mono hl⟩
/-- A chain that there is if the taking did not fail. -/
def TkO (b : Bool) (w : World) (lo : Nat) (p : Value) (L : List (Nat × Int)) : Prop := b = true → TkCh w lo p L
theorem TkO.next {b : Bool} {w w' : World} {L : List (Nat × Int)} {lo : Nat} {p : Value} (h : TkO b w lo p L) (hb : Below w.heap.size w w') : TkO b w' lo p L := fun e => (h e).next hb
theorem TkCh.form {w : World} {L : List (Nat × Int)} {lo : Nat} {p : Value} (h : TkCh w lo p L) : ∃ o, p = .pointer o := by
  cases L with
  | nil => exact ⟨_, h⟩
  | cons c t => obtain ⟨a, p', e, _⟩ := h; exact ⟨_, e⟩

set_option maxRecDepth 100000 in
set_option maxHeartbeats 1600000 in
theorem takingOf_any (rs : List (Int × Int)) (hs : stdF rs) (hn : rs.length ≤ 8) : ∀ (k : Nat) (d : Int) (b : Bool) (sv : Value) (w : World), RodsR w sv rs → k ≤ rs.length → 0 ≤ d → d ≤ 9 → (b = true ↔ endB k d rs) →
    Calls Try.prog 122 #[sv, .int .i64 ((k : Int) - 1), .int .i64 d] w fun e w' => (∃ o, e = .returned (.tuple #[.pointer o, .bool b]) ∧ TkO b w' w.heap.size (.pointer o) (brL k d rs)) ∧ Below w.heap.size w w'
  | 0, d, b, sv, w, h, hk, h0, h9, hb => by
    obtain ⟨a, c, rfl⟩ : ∃ a c, sv = .slice a rs.length c := by obtain ⟨a, c, e, _⟩ := h; exact ⟨a, c, e⟩
    obtain rfl : b = false := by cases b with | true => exact (hb.1 rfl).elim | false => rfl
    clear h hb
    simp only [Int.natCast_zero, Int.zero_sub]
    go_enter Try.func122, Try.ntmps122
    go_wp2_with fail
    go_ret2
    exact ⟨⟨_, rfl, fun h => (by cases h)⟩, Below.refl _ _⟩
  | k + 1, d, b, sv, w, h, hk, h0, h9, hb => by
    have hm : rs.length ≤ 9223372036854775807 := by omega
    obtain ⟨a, c, rfl⟩ : ∃ a c, sv = .slice a rs.length c := by obtain ⟨a, c, e, _⟩ := h; exact ⟨a, c, e⟩
    have hq1 : (((k + 1 : Nat) : Int) - 1) = (k : Int) := by omega
    simp only [hq1]
    clear hq1
    have hkr : k < rs.length := by omega
    obtain ⟨b1, o1, rfl, p1, p2⟩ := rods_at h w (Below.refl _ _) k hkr
    have hr := hs k hkr
    have HV : Hid (5 * rs[k].1 + rs[k].2 = vAt rs k) := Lib.hid (by rw [vAt_in hkr]; rfl)
    obtain ⟨v, hv⟩ : ∃ v, v = vAt rs k := ⟨_, rfl⟩
    have hvb := vAt_bd hs k
    rw [← hv] at hvb
    have HVE := Lib.hid hv
    have z1 : (0 : Int) ≤ (k : Int) := by omega
    have z2 : (k : Int) < (rs.length : Int) := by omega
    have HE : Hid (b = true ↔ d ≤ v ∨ endB k 1 rs) := Lib.hid (by rw [hv]; exact hb)
    have HL : Hid (brL (k + 1) d rs = if d ≤ v then [(k, v - d)] else (k, v + 10 - d) :: brL k 1 rs) := Lib.hid (by rw [hv]; rfl)
    have HS := Lib.hid hs
    have HR0 := Lib.hid h
    clear hv hb hs
    have HB0 : Hid (Below w.heap.size w w) := Lib.hid (Below.refl _ _)
    have HRf0 := Lib.hid (h)
    clear h
    go_enter Try.func122, Try.ntmps122
    go_wp2_with fail
    refine (valueOf_sgn rs[k].1 rs[k].2 _ ⟨by omega, by omega⟩).mono ?_
    rintro e w1 ⟨rfl, hb⟩
    have HB1 : Hid (Below w.heap.size w w1) := Lib.hid (HB0.out.trans (hb.mono HB0.out.size))
    have HZ1 : Hid (w.heap.size ≤ w1.heap.size) := Lib.hid hb.size
    have HRf1 := Lib.hid (HRf0.out.below HB1.out (Nat.le_refl _))
    clear hb
    rw [HV.out, ← HVE.out]
    by_cases hd : d ≤ v
    · obtain rfl : b = true := HE.out.2 (Or.inl hd)
      rw [if_pos hd] at HL
      go_wp2_with fail
      have hb : Below w1.heap.size w1 (w1.alloc (.cells #[.int .i64 k, .int .i64 (v - d), .pointer none] 126)) := (Below.refl _ _).alloc (Nat.le_refl _) _
      have hk : (w1.alloc (.cells #[.int .i64 k, .int .i64 (v - d), .pointer none] 126)).heap[w1.heap.size]? = some (.cells #[.int .i64 k, .int .i64 (v - d), .pointer none] 126 (0, 0)) := alloc_at rfl
      have hz : (w1.alloc (.cells #[.int .i64 k, .int .i64 (v - d), .pointer none] 126)).heap.size = w1.heap.size + 1 := by simp
      generalize w1.alloc (.cells #[.int .i64 k, .int .i64 (v - d), .pointer none] 126) = w2 at hb hk hz ⊢
      have HB2 : Hid (Below w.heap.size w w2) := Lib.hid (HB1.out.trans (hb.mono HB1.out.size))
      have HZ2 : Hid (w1.heap.size ≤ w2.heap.size) := Lib.hid hb.size
      have HRf2 := Lib.hid (HRf0.out.below HB2.out (Nat.le_refl _))
      have HKt2 := Lib.hid hk
      replace HZ2 : Hid (w1.heap.size < w2.heap.size) := Lib.hid (by omega)
      have HE2 := Lib.hid hz
      clear hb hk hz
      go_ret2
      refine ⟨⟨_, rfl, fun _ => ?_⟩, HB2.out⟩
      rw [HL.out]
      exact ⟨_, _, rfl, HB1.out.size, HKt2.out, rfl⟩
    · rw [if_neg hd] at HL
      have HE2 : Hid (b = true ↔ endB k 1 rs) := Lib.hid ⟨fun h => (HE.out.1 h).resolve_left hd, fun h => HE.out.2 (Or.inr h)⟩
      have hwk : IntKind.i64.wrap ((k : Int) - 1) = (k : Int) - 1 := by rw [IntKind.wrap_i64]; omega
      have hwv : IntKind.i64.wrap (v + 10) = v + 10 := by rw [IntKind.wrap_i64]; omega
      have hwd : IntKind.i64.wrap (v + 10 - d) = v + 10 - d := by rw [IntKind.wrap_i64]; omega
      clear HE
      go_wp2_with fail
      refine (takingOf_any rs HS.out hn k 1 b _ _ HRf1.out (by omega) (by omega) (by omega) HE2.out).mono ?_
      rintro e w2 ⟨⟨o, rfl, hch⟩, hb⟩
      have HB2 : Hid (Below w.heap.size w w2) := Lib.hid (HB1.out.trans (hb.mono HB1.out.size))
      have HZ2 : Hid (w1.heap.size ≤ w2.heap.size) := Lib.hid hb.size
      have HRf2 := Lib.hid (HRf0.out.below HB2.out (Nat.le_refl _))
      clear hb
      have HOch2 := Lib.hid (hch)
      clear hch
      go_wp2_with fail
      have hb : Below w2.heap.size w2 (w2.alloc (.cells #[.int .i64 k, .int .i64 (v + 10 - d), .pointer o] 126)) := (Below.refl _ _).alloc (Nat.le_refl _) _
      have hk : (w2.alloc (.cells #[.int .i64 k, .int .i64 (v + 10 - d), .pointer o] 126)).heap[w2.heap.size]? = some (.cells #[.int .i64 k, .int .i64 (v + 10 - d), .pointer o] 126 (0, 0)) := alloc_at rfl
      have hz : (w2.alloc (.cells #[.int .i64 k, .int .i64 (v + 10 - d), .pointer o] 126)).heap.size = w2.heap.size + 1 := by simp
      generalize w2.alloc (.cells #[.int .i64 k, .int .i64 (v + 10 - d), .pointer o] 126) = w3 at hb hk hz ⊢
      have HB3 : Hid (Below w.heap.size w w3) := Lib.hid (HB2.out.trans (hb.mono HB2.out.size))
      have HZ3 : Hid (w2.heap.size ≤ w3.heap.size) := Lib.hid hb.size
      have HRf3 := Lib.hid (HRf0.out.below HB3.out (Nat.le_refl _))
      have HOch3 := Lib.hid (HOch2.out.next hb)
      have HKt3 := Lib.hid hk
      replace HZ3 : Hid (w2.heap.size < w3.heap.size) := Lib.hid (by omega)
      have HE3 := Lib.hid hz
      clear hb hk hz
      go_ret2
      refine ⟨⟨_, rfl, fun hbt => ?_⟩, HB3.out⟩
      rw [HL.out]
      exact ⟨_, _, rfl, HB2.out.size, HKt3.out, (HOch3.out hbt).mono HB1.out.size⟩
end Go.Proofs.Ytjkjaadcdolbhaa

/-! Tkq -/
namespace Go.Proofs.Ytjkjaadcdolbhaa
set_option linter.unusedVariables false
open Go.RowKit

theorem takingOf_at (rs : List (Int × Int)) (hs : stdF rs) (hn : rs.length ≤ 8) (q : Nat) (d : Int) (b : Bool) (sv : Value) (w : World) (h : RodsR w sv rs) (hq : q < rs.length) (h0 : 0 ≤ d) (h9 : d ≤ 9) (hb : b = true ↔ endB (q + 1) d rs) :
    Calls Try.prog 122 #[sv, .int .i64 (q : Int), .int .i64 d] w fun e w' => (∃ o, e = .returned (.tuple #[.pointer o, .bool b]) ∧ TkO b w' w.heap.size (.pointer o) (brL (q + 1) d rs)) ∧ Below w.heap.size w w' := by
  have := takingOf_any rs hs hn (q + 1) d b sv w h (by omega) h0 h9 hb
  rwa [show (((q + 1 : Nat) : Int) - 1) = (q : Int) by omega] at this
theorem brL_cons (q : Nat) (d : Int) (rs : List (Int × Int)) : ∃ x t, brL (q + 1) d rs = (q, x) :: t := by
  unfold brL; split
  · exact ⟨_, _, rfl⟩
  · exact ⟨_, _, rfl⟩
/-- What a world's cell holds as a number. -/
def cellI (w : World) (a : Addr) : Int := match w.cell? a with | some v => intOf v | none => 0
theorem cellI_of {w : World} {a : Addr} {x : Int} (h : w.cell? a = some (.int .i64 x)) : cellI w a = x := by unfold cellI; rw [h]; rfl

set_option maxRecDepth 100000 in
set_option maxHeartbeats 3200000 in
theorem take_rod (B A mg mc : Nat) (up lo : Int) (sv : Value) (rs : List (Int × Int)) (ms : List Mv) (c : Int) (q d : Int) (w : World) (h : CoAt B w A 67 [.int .i64 c] up lo sv mg mc rs ms) (hg : goodF up lo rs) (hs : stdF rs) (hq : ¬ (0 ≤ q ∧ q ≤ (rs.length : Int) - 1)) :
    Calls Try.prog 108 #[.pointer (some ⟨A, 0, none⟩), .agg #[.int .i64 q, .int .i64 d]] w fun e w' => e = .returned (.bool false) ∧ CoAt B w' A 67 [.int .i64 c] up lo sv mg mc rs ms ∧ Below B w w' := by
  have hi : inB q 0 ((rs.length : Int) - 1) = false := inB_no hq
  obtain ⟨sa, sc, rfl⟩ := own_form h.rods
  have HG := Lib.hid hg
  have HS := Lib.hid hs
  have hl8 : rs.length ≤ 8 := hg.2.2.2.2
  have HBB : Hid (B ≤ w.heap.size) := Lib.hid (by have := h.ord; have := h.lt; omega)
  have HB0 : Hid (Below w.heap.size w w) := Lib.hid (Below.refl _ _)
  have HOco0 := Lib.hid (h)
  have HKs0 := Lib.hid (h.box)
  clear h hg hs
  go_enter Try.func108, Try.ntmps108
  go_wp2_with fail
  have hb : Below w.heap.size w (w.alloc (.cells #[.int .i64 q, .int .i64 d] 87)) := (Below.refl _ _).alloc (Nat.le_refl _) _
  have hk : (w.alloc (.cells #[.int .i64 q, .int .i64 d] 87)).heap[w.heap.size]? = some (.cells #[.int .i64 q, .int .i64 d] 87 (0, 0)) := alloc_at rfl
  have hz : (w.alloc (.cells #[.int .i64 q, .int .i64 d] 87)).heap.size = w.heap.size + 1 := by simp
  generalize w.alloc (.cells #[.int .i64 q, .int .i64 d] 87) = w1 at hb hk hz ⊢
  have HB1 : Hid (Below w.heap.size w w1) := Lib.hid (HB0.out.trans (hb.mono HB0.out.size))
  have HZ1 : Hid (w.heap.size ≤ w1.heap.size) := Lib.hid hb.size
  have HOco1 := Lib.hid (HOco0.out.next hb)
  have HKs1 := Lib.hid ((hb.block _ (lt_of_block HKs0.out)).trans HKs0.out)
  have HKd1 := Lib.hid hk
  replace HZ1 : Hid (w.heap.size < w1.heap.size) := Lib.hid (by omega)
  have HE1 := Lib.hid hz
  clear hb hk hz
  have lts := lt_of_block HKs1.out
  obtain ⟨cs0, cs1, cs2, cs3, cs4, fs0, fs1, fs2, fs3, fs4⟩ := cell5 HKs1.out
  have ltd := lt_of_block HKd1.out
  obtain ⟨cd0, cd1, fd0, fd1⟩ := cell2 HKd1.out
  try go_wp2_with fail
  refine wp_region_held_drew (S := (fun u => u.cell? ⟨A, 0, none⟩ = some (.int .i64 up) ∧ u.cell? ⟨A, 1, none⟩ = some (.int .i64 lo) ∧ u.cell? ⟨A, 2, none⟩ = some (.slice sa rs.length sc) ∧ u.cell? ⟨w.heap.size, 0, none⟩ = some (.int .i64 q) ∧ u.cell? ⟨w.heap.size, 1, none⟩ = some (.int .i64 d))) (by kernel_rfl) (⟨cs0, cs1, cs2, cd0, cd1⟩) (fun hHeld => ?_)
  have hb : Below w1.heap.size w1 w1.drew := (Below.refl _ _).drew
  generalize w1.drew = w2 at hb hHeld ⊢
  have HB2 : Hid (Below w.heap.size w w2) := Lib.hid (HB1.out.trans (hb.mono HB1.out.size))
  have HZ2 : Hid (w1.heap.size ≤ w2.heap.size) := Lib.hid hb.size
  have HOco2 := Lib.hid (HOco1.out.next hb)
  have HKs2 := Lib.hid ((hb.block _ (lt_of_block HKs1.out)).trans HKs1.out)
  have HKd2 := Lib.hid ((hb.block _ (lt_of_block HKd1.out)).trans HKd1.out)
  clear hb
  clear cs0 cs1 cs2 cs3 cs4 fs0 fs1 fs2 fs3 fs4 lts cd0 cd1 fd0 fd1 ltd
  have lts := lt_of_block HKs2.out
  obtain ⟨cs0, cs1, cs2, cs3, cs4, fs0, fs1, fs2, fs3, fs4⟩ := cell5 HKs2.out
  have ltd := lt_of_block HKd2.out
  obtain ⟨cd0, cd1, fd0, fd1⟩ := cell2 HKd2.out
  refine take1 (i := 0) (v := ?v1) (some 8) rfl rfl (by kernel_rfl) (by kernel_rfl) (by kernel_rfl) (fun _ _ _ h => h) (Or.inl ⟨by rfl, ?y1⟩) (by assumption) ?r1
  case y1 => (intro w hSw; (try dsimp only at hSw); go_simp; (first | done | with_reducible rfl))
  try simp only [Act.put, List.setIfInBounds_toArray, List.set_cons_zero, List.set_cons_succ]
  refine take1 (i := 1) (v := ?v2) (some 9) rfl rfl (by kernel_rfl) (by kernel_rfl) (by kernel_rfl) (fun _ _ _ h => h) (Or.inl ⟨by rfl, ?y2⟩) (by assumption) ?r2
  case y2 => (intro w hSw; (try dsimp only at hSw); go_simp; (first | done | with_reducible rfl))
  try simp only [Act.put, List.setIfInBounds_toArray, List.set_cons_zero, List.set_cons_succ]
  refine take1 (i := 2) (v := ?v3) (some 10) rfl rfl (by kernel_rfl) (by kernel_rfl) (by kernel_rfl) (fun _ _ _ h => h) (Or.inl ⟨by rfl, ?y3⟩) (by assumption) ?r3
  case y3 => (intro w hSw; (try dsimp only at hSw); go_simp; (first | done | with_reducible rfl))
  try simp only [Act.put, List.setIfInBounds_toArray, List.set_cons_zero, List.set_cons_succ]
  refine take1 (i := 3) (v := ?v4) (some 11) rfl rfl (by kernel_rfl) (by kernel_rfl) (by kernel_rfl) (fun _ _ _ h => h) (Or.inl ⟨by rfl, ?y4⟩) (by assumption) ?r4
  case y4 => (intro w hSw; (try dsimp only at hSw); go_simp; (first | done | with_reducible rfl))
  try simp only [Act.put, List.setIfInBounds_toArray, List.set_cons_zero, List.set_cons_succ]
  refine take1 (i := 4) (v := ?v5) (some 12) rfl rfl (by kernel_rfl) (by kernel_rfl) (by kernel_rfl) (fun _ _ _ h => h) (Or.inl ⟨by rfl, ?y5⟩) (by assumption) ?r5
  case y5 => (intro w hSw; (try dsimp only at hSw); go_simp; (first | done | with_reducible rfl))
  try simp only [Act.put, List.setIfInBounds_toArray, List.set_cons_zero, List.set_cons_succ]
  refine take1 (i := 5) (v := ?v6) (some 13) rfl rfl (by kernel_rfl) (by kernel_rfl) (by kernel_rfl) (fun _ _ _ h => h) (Or.inl ⟨by rfl, ?y6⟩) (by assumption) ?r6
  case y6 => (intro w hSw; (try dsimp only at hSw); go_simp; (first | done | with_reducible rfl))
  try simp only [Act.put, List.setIfInBounds_toArray, List.set_cons_zero, List.set_cons_succ]
  refine take1 (i := 6) (v := ?v7) (some 14) rfl rfl (by kernel_rfl) (by kernel_rfl) (by kernel_rfl) (fun _ _ _ h => h) (Or.inl ⟨by rfl, ?y7⟩) (by assumption) ?r7
  case y7 => (intro w hSw; (try dsimp only at hSw); go_simp; (first | done | with_reducible rfl))
  try simp only [Act.put, List.setIfInBounds_toArray, List.set_cons_zero, List.set_cons_succ]
  refine wpAnyH_ready (rs := [7]) (by kernel_rfl) (by simp) ?_
  refine AllReadyH.cons rfl (fun K hK => ?_) AllReadyH.nil
  go_simp
  go_at_call 121
  refine (hasRod_good up lo _ rs _ (RodsR.of_own HOco2.out.rods) q HG.out).mono ?_
  rintro e w3 ⟨rfl, hb⟩
  have HB3 : Hid (Below w.heap.size w w3) := Lib.hid (HB2.out.trans (hb.mono HB2.out.size))
  have HZ3 : Hid (w2.heap.size ≤ w3.heap.size) := Lib.hid hb.size
  have HOco3 := Lib.hid (HOco2.out.next hb)
  have HKs3 := Lib.hid ((hb.block _ (lt_of_block HKs2.out)).trans HKs2.out)
  have HKd3 := Lib.hid ((hb.block _ (lt_of_block HKd2.out)).trans HKd2.out)
  clear hb
  clear cs0 cs1 cs2 cs3 cs4 fs0 fs1 fs2 fs3 fs4 lts cd0 cd1 fd0 fd1 ltd
  have lts := lt_of_block HKs3.out
  obtain ⟨cs0, cs1, cs2, cs3, cs4, fs0, fs1, fs2, fs3, fs4⟩ := cell5 HKs3.out
  have ltd := lt_of_block HKd3.out
  obtain ⟨cd0, cd1, fd0, fd1⟩ := cell2 HKd3.out
  rw [hi]
  try go_simp
  refine hK.out _ _ (⟨cs0, cs1, cs2, cd0, cd1⟩) (fun hHeld => ?_)
  clear hK K
  try simp only [Act.put, List.setIfInBounds_toArray, List.set_cons_zero, List.set_cons_succ]
  refine take1 (i := 8) (v := ?v8) (some 16) rfl rfl (by kernel_rfl) (by kernel_rfl) (by kernel_rfl) (fun _ _ _ h => h) (Or.inl ⟨by rfl, ?y8⟩) (by assumption) ?r8
  case y8 => (intro w hSw; (try dsimp only at hSw); go_simp; (first | done | with_reducible rfl))
  try simp only [Act.put, List.setIfInBounds_toArray, List.set_cons_zero, List.set_cons_succ]
  refine take1 (i := 9) (v := ?v9) (some 17) rfl rfl (by kernel_rfl) (by kernel_rfl) (by kernel_rfl) (fun _ _ _ h => h) (Or.inl ⟨by rfl, ?y9⟩) (by assumption) ?r9
  case y9 => (intro w hSw; (try dsimp only at hSw); go_simp; (first | done | with_reducible rfl))
  try simp only [Act.put, List.setIfInBounds_toArray, List.set_cons_zero, List.set_cons_succ]
  refine take1 (i := 10) (v := undef) (some 18) rfl rfl (by kernel_rfl) (by kernel_rfl) (by kernel_rfl) (fun _ _ _ h => h) (Or.inr ⟨by rfl, rfl⟩) (by assumption) ?_
  try simp only [Act.put, List.setIfInBounds_toArray, List.set_cons_zero, List.set_cons_succ]
  refine take1 (i := 11) (v := undef) (some 19) rfl rfl (by kernel_rfl) (by kernel_rfl) (by kernel_rfl) (fun _ _ _ h => h) (Or.inr ⟨by rfl, rfl⟩) (by assumption) ?_
  try simp only [Act.put, List.setIfInBounds_toArray, List.set_cons_zero, List.set_cons_succ]
  refine take1 (i := 12) (v := undef) (some 20) rfl rfl (by kernel_rfl) (by kernel_rfl) (by kernel_rfl) (fun _ _ _ h => h) (Or.inr ⟨by rfl, rfl⟩) (by assumption) ?_
  try simp only [Act.put, List.setIfInBounds_toArray, List.set_cons_zero, List.set_cons_succ]
  refine take1 (i := 13) (v := ?v13) (some 21) rfl rfl (by kernel_rfl) (by kernel_rfl) (by kernel_rfl) (fun _ _ _ h => h) (Or.inl ⟨by rfl, ?y13⟩) (by assumption) ?r13
  case y13 => (intro w hSw; (try dsimp only at hSw); go_simp; (first | done | with_reducible rfl))
  try simp only [Act.put, List.setIfInBounds_toArray, List.set_cons_zero, List.set_cons_succ]
  refine take1 (i := 14) (v := ?v14) (some 22) rfl rfl (by kernel_rfl) (by kernel_rfl) (by kernel_rfl) (fun _ _ _ h => h) (Or.inl ⟨by rfl, ?y14⟩) (by assumption) ?r14
  case y14 => (intro w hSw; (try dsimp only at hSw); go_simp; (first | done | with_reducible rfl))
  try simp only [Act.put, List.setIfInBounds_toArray, List.set_cons_zero, List.set_cons_succ]
  refine take1 (i := 15) (v := undef) (some 23) rfl rfl (by kernel_rfl) (by kernel_rfl) (by kernel_rfl) (fun _ _ _ h => h) (Or.inr ⟨by rfl, rfl⟩) (by assumption) ?_
  try simp only [Act.put, List.setIfInBounds_toArray, List.set_cons_zero, List.set_cons_succ]
  refine take1 (i := 16) (v := undef) (some 24) rfl rfl (by kernel_rfl) (by kernel_rfl) (by kernel_rfl) (fun _ _ _ h => h) (Or.inr ⟨by rfl, rfl⟩) (by assumption) ?_
  try simp only [Act.put, List.setIfInBounds_toArray, List.set_cons_zero, List.set_cons_succ]
  refine take1 (i := 17) (v := undef) (some 25) rfl rfl (by kernel_rfl) (by kernel_rfl) (by kernel_rfl) (fun _ _ _ h => h) (Or.inr ⟨by rfl, rfl⟩) (by assumption) ?_
  try simp only [Act.put, List.setIfInBounds_toArray, List.set_cons_zero, List.set_cons_succ]
  refine take1 (i := 18) (v := ?v18) (some 26) rfl rfl (by kernel_rfl) (by kernel_rfl) (by kernel_rfl) (fun _ _ _ h => h) (Or.inl ⟨by rfl, ?y18⟩) (by assumption) ?r18
  case y18 => (intro w hSw; (try dsimp only at hSw); go_simp; (first | done | with_reducible rfl))
  try simp only [Act.put, List.setIfInBounds_toArray, List.set_cons_zero, List.set_cons_succ]
  refine wpAnyH_done (by kernel_rfl) ?_ _
  go_wp2_with fail
  go_ret
  exact ⟨rfl, HOco3.out, HB3.out.mono HBB.out⟩
set_option maxRecDepth 100000 in
set_option maxHeartbeats 3200000 in
theorem take_low (B A mg mc : Nat) (up lo : Int) (sv : Value) (rs : List (Int × Int)) (ms : List Mv) (c : Int) (q d : Int) (w : World) (h : CoAt B w A 67 [.int .i64 c] up lo sv mg mc rs ms) (hg : goodF up lo rs) (hs : stdF rs) (hq : 0 ≤ q ∧ q ≤ (rs.length : Int) - 1) (hd : d < 0) :
    Calls Try.prog 108 #[.pointer (some ⟨A, 0, none⟩), .agg #[.int .i64 q, .int .i64 d]] w fun e w' => e = .returned (.bool false) ∧ CoAt B w' A 67 [.int .i64 c] up lo sv mg mc rs ms ∧ Below B w w' := by
  have hi : inB q 0 ((rs.length : Int) - 1) = true := inB_yes hq.1 hq.2
  obtain ⟨sa, sc, rfl⟩ := own_form h.rods
  have HG := Lib.hid hg
  have HS := Lib.hid hs
  have hl8 : rs.length ≤ 8 := hg.2.2.2.2
  have HBB : Hid (B ≤ w.heap.size) := Lib.hid (by have := h.ord; have := h.lt; omega)
  have HB0 : Hid (Below w.heap.size w w) := Lib.hid (Below.refl _ _)
  have HOco0 := Lib.hid (h)
  have HKs0 := Lib.hid (h.box)
  clear h hg hs
  go_enter Try.func108, Try.ntmps108
  go_wp2_with fail
  have hb : Below w.heap.size w (w.alloc (.cells #[.int .i64 q, .int .i64 d] 87)) := (Below.refl _ _).alloc (Nat.le_refl _) _
  have hk : (w.alloc (.cells #[.int .i64 q, .int .i64 d] 87)).heap[w.heap.size]? = some (.cells #[.int .i64 q, .int .i64 d] 87 (0, 0)) := alloc_at rfl
  have hz : (w.alloc (.cells #[.int .i64 q, .int .i64 d] 87)).heap.size = w.heap.size + 1 := by simp
  generalize w.alloc (.cells #[.int .i64 q, .int .i64 d] 87) = w1 at hb hk hz ⊢
  have HB1 : Hid (Below w.heap.size w w1) := Lib.hid (HB0.out.trans (hb.mono HB0.out.size))
  have HZ1 : Hid (w.heap.size ≤ w1.heap.size) := Lib.hid hb.size
  have HOco1 := Lib.hid (HOco0.out.next hb)
  have HKs1 := Lib.hid ((hb.block _ (lt_of_block HKs0.out)).trans HKs0.out)
  have HKd1 := Lib.hid hk
  replace HZ1 : Hid (w.heap.size < w1.heap.size) := Lib.hid (by omega)
  have HE1 := Lib.hid hz
  clear hb hk hz
  have lts := lt_of_block HKs1.out
  obtain ⟨cs0, cs1, cs2, cs3, cs4, fs0, fs1, fs2, fs3, fs4⟩ := cell5 HKs1.out
  have ltd := lt_of_block HKd1.out
  obtain ⟨cd0, cd1, fd0, fd1⟩ := cell2 HKd1.out
  try go_wp2_with fail
  refine wp_region_held_drew (S := (fun u => u.cell? ⟨A, 0, none⟩ = some (.int .i64 up) ∧ u.cell? ⟨A, 1, none⟩ = some (.int .i64 lo) ∧ u.cell? ⟨A, 2, none⟩ = some (.slice sa rs.length sc) ∧ u.cell? ⟨w.heap.size, 0, none⟩ = some (.int .i64 q) ∧ u.cell? ⟨w.heap.size, 1, none⟩ = some (.int .i64 d))) (by kernel_rfl) (⟨cs0, cs1, cs2, cd0, cd1⟩) (fun hHeld => ?_)
  have hb : Below w1.heap.size w1 w1.drew := (Below.refl _ _).drew
  generalize w1.drew = w2 at hb hHeld ⊢
  have HB2 : Hid (Below w.heap.size w w2) := Lib.hid (HB1.out.trans (hb.mono HB1.out.size))
  have HZ2 : Hid (w1.heap.size ≤ w2.heap.size) := Lib.hid hb.size
  have HOco2 := Lib.hid (HOco1.out.next hb)
  have HKs2 := Lib.hid ((hb.block _ (lt_of_block HKs1.out)).trans HKs1.out)
  have HKd2 := Lib.hid ((hb.block _ (lt_of_block HKd1.out)).trans HKd1.out)
  clear hb
  clear cs0 cs1 cs2 cs3 cs4 fs0 fs1 fs2 fs3 fs4 lts cd0 cd1 fd0 fd1 ltd
  have lts := lt_of_block HKs2.out
  obtain ⟨cs0, cs1, cs2, cs3, cs4, fs0, fs1, fs2, fs3, fs4⟩ := cell5 HKs2.out
  have ltd := lt_of_block HKd2.out
  obtain ⟨cd0, cd1, fd0, fd1⟩ := cell2 HKd2.out
  refine take1 (i := 0) (v := ?v19) (some 8) rfl rfl (by kernel_rfl) (by kernel_rfl) (by kernel_rfl) (fun _ _ _ h => h) (Or.inl ⟨by rfl, ?y19⟩) (by assumption) ?r19
  case y19 => (intro w hSw; (try dsimp only at hSw); go_simp; (first | done | with_reducible rfl))
  try simp only [Act.put, List.setIfInBounds_toArray, List.set_cons_zero, List.set_cons_succ]
  refine take1 (i := 1) (v := ?v20) (some 9) rfl rfl (by kernel_rfl) (by kernel_rfl) (by kernel_rfl) (fun _ _ _ h => h) (Or.inl ⟨by rfl, ?y20⟩) (by assumption) ?r20
  case y20 => (intro w hSw; (try dsimp only at hSw); go_simp; (first | done | with_reducible rfl))
  try simp only [Act.put, List.setIfInBounds_toArray, List.set_cons_zero, List.set_cons_succ]
  refine take1 (i := 2) (v := ?v21) (some 10) rfl rfl (by kernel_rfl) (by kernel_rfl) (by kernel_rfl) (fun _ _ _ h => h) (Or.inl ⟨by rfl, ?y21⟩) (by assumption) ?r21
  case y21 => (intro w hSw; (try dsimp only at hSw); go_simp; (first | done | with_reducible rfl))
  try simp only [Act.put, List.setIfInBounds_toArray, List.set_cons_zero, List.set_cons_succ]
  refine take1 (i := 3) (v := ?v22) (some 11) rfl rfl (by kernel_rfl) (by kernel_rfl) (by kernel_rfl) (fun _ _ _ h => h) (Or.inl ⟨by rfl, ?y22⟩) (by assumption) ?r22
  case y22 => (intro w hSw; (try dsimp only at hSw); go_simp; (first | done | with_reducible rfl))
  try simp only [Act.put, List.setIfInBounds_toArray, List.set_cons_zero, List.set_cons_succ]
  refine take1 (i := 4) (v := ?v23) (some 12) rfl rfl (by kernel_rfl) (by kernel_rfl) (by kernel_rfl) (fun _ _ _ h => h) (Or.inl ⟨by rfl, ?y23⟩) (by assumption) ?r23
  case y23 => (intro w hSw; (try dsimp only at hSw); go_simp; (first | done | with_reducible rfl))
  try simp only [Act.put, List.setIfInBounds_toArray, List.set_cons_zero, List.set_cons_succ]
  refine take1 (i := 5) (v := ?v24) (some 13) rfl rfl (by kernel_rfl) (by kernel_rfl) (by kernel_rfl) (fun _ _ _ h => h) (Or.inl ⟨by rfl, ?y24⟩) (by assumption) ?r24
  case y24 => (intro w hSw; (try dsimp only at hSw); go_simp; (first | done | with_reducible rfl))
  try simp only [Act.put, List.setIfInBounds_toArray, List.set_cons_zero, List.set_cons_succ]
  refine take1 (i := 6) (v := ?v25) (some 14) rfl rfl (by kernel_rfl) (by kernel_rfl) (by kernel_rfl) (fun _ _ _ h => h) (Or.inl ⟨by rfl, ?y25⟩) (by assumption) ?r25
  case y25 => (intro w hSw; (try dsimp only at hSw); go_simp; (first | done | with_reducible rfl))
  try simp only [Act.put, List.setIfInBounds_toArray, List.set_cons_zero, List.set_cons_succ]
  refine wpAnyH_ready (rs := [7]) (by kernel_rfl) (by simp) ?_
  refine AllReadyH.cons rfl (fun K hK => ?_) AllReadyH.nil
  go_simp
  go_at_call 121
  refine (hasRod_good up lo _ rs _ (RodsR.of_own HOco2.out.rods) q HG.out).mono ?_
  rintro e w3 ⟨rfl, hb⟩
  have HB3 : Hid (Below w.heap.size w w3) := Lib.hid (HB2.out.trans (hb.mono HB2.out.size))
  have HZ3 : Hid (w2.heap.size ≤ w3.heap.size) := Lib.hid hb.size
  have HOco3 := Lib.hid (HOco2.out.next hb)
  have HKs3 := Lib.hid ((hb.block _ (lt_of_block HKs2.out)).trans HKs2.out)
  have HKd3 := Lib.hid ((hb.block _ (lt_of_block HKd2.out)).trans HKd2.out)
  clear hb
  clear cs0 cs1 cs2 cs3 cs4 fs0 fs1 fs2 fs3 fs4 lts cd0 cd1 fd0 fd1 ltd
  have lts := lt_of_block HKs3.out
  obtain ⟨cs0, cs1, cs2, cs3, cs4, fs0, fs1, fs2, fs3, fs4⟩ := cell5 HKs3.out
  have ltd := lt_of_block HKd3.out
  obtain ⟨cd0, cd1, fd0, fd1⟩ := cell2 HKd3.out
  rw [hi]
  try go_simp
  refine hK.out _ _ (⟨cs0, cs1, cs2, cd0, cd1⟩) (fun hHeld => ?_)
  clear hK K
  try simp only [Act.put, List.setIfInBounds_toArray, List.set_cons_zero, List.set_cons_succ]
  refine take1 (i := 8) (v := ?v26) (some 16) rfl rfl (by kernel_rfl) (by kernel_rfl) (by kernel_rfl) (fun _ _ _ h => h) (Or.inl ⟨by rfl, ?y26⟩) (by assumption) ?r26
  case y26 => (intro w hSw; (try dsimp only at hSw); go_simp; (first | done | with_reducible rfl))
  try simp only [Act.put, List.setIfInBounds_toArray, List.set_cons_zero, List.set_cons_succ]
  refine take1 (i := 9) (v := ?v27) (some 17) rfl rfl (by kernel_rfl) (by kernel_rfl) (by kernel_rfl) (fun _ _ _ h => h) (Or.inl ⟨by rfl, ?y27⟩) (by assumption) ?r27
  case y27 => (intro w hSw; (try dsimp only at hSw); go_simp; (first | done | with_reducible rfl))
  try simp only [Act.put, List.setIfInBounds_toArray, List.set_cons_zero, List.set_cons_succ]
  refine take1 (i := 10) (v := ?v28) (some 18) rfl rfl (by kernel_rfl) (by kernel_rfl) (by kernel_rfl) (fun _ _ _ h => h) (Or.inl ⟨by rfl, ?y28⟩) (by assumption) ?r28
  case y28 => (intro w hSw; (try dsimp only at hSw); go_simp; (first | done | with_reducible rfl))
  try simp only [Act.put, List.setIfInBounds_toArray, List.set_cons_zero, List.set_cons_succ]
  refine take1 (i := 11) (v := ?v29) (some 19) rfl rfl (by kernel_rfl) (by kernel_rfl) (by kernel_rfl) (fun _ _ _ h => h) (Or.inl ⟨by rfl, ?y29⟩) (by assumption) ?r29
  case y29 => (intro w hSw; (try dsimp only at hSw); go_simp; (first | done | with_reducible rfl))
  try simp only [Act.put, List.setIfInBounds_toArray, List.set_cons_zero, List.set_cons_succ]
  refine take1 (i := 12) (v := ?v30) (some 20) rfl rfl (by kernel_rfl) (by kernel_rfl) (by kernel_rfl) (fun _ _ _ h => h) (Or.inl ⟨by rfl, ?y30⟩) (by assumption) ?r30
  case y30 => (intro w hSw; (try dsimp only at hSw); go_simp; (first | done | with_reducible rfl))
  try simp only [Act.put, List.setIfInBounds_toArray, List.set_cons_zero, List.set_cons_succ]
  refine take1 (i := 13) (v := ?v31) (some 21) rfl rfl (by kernel_rfl) (by kernel_rfl) (by kernel_rfl) (fun _ _ _ h => h) (Or.inl ⟨by rfl, ?y31⟩) (by assumption) ?r31
  case y31 => (intro w hSw; (try dsimp only at hSw); go_simp; (first | done | with_reducible rfl))
  try simp only [Act.put, List.setIfInBounds_toArray, List.set_cons_zero, List.set_cons_succ]
  refine take1 (i := 14) (v := ?v32) (some 22) rfl rfl (by kernel_rfl) (by kernel_rfl) (by kernel_rfl) (fun _ _ _ h => h) (Or.inl ⟨by rfl, ?y32⟩) (by assumption) ?r32
  case y32 => (intro w hSw; (try dsimp only at hSw); go_simp; (first | done | with_reducible rfl))
  try simp only [Act.put, List.setIfInBounds_toArray, List.set_cons_zero, List.set_cons_succ]
  refine take1 (i := 15) (v := undef) (some 23) rfl rfl (by kernel_rfl) (by kernel_rfl) (by kernel_rfl) (fun _ _ _ h => h) (Or.inr ⟨by rfl, rfl⟩) (by assumption) ?_
  try simp only [Act.put, List.setIfInBounds_toArray, List.set_cons_zero, List.set_cons_succ]
  refine take1 (i := 16) (v := undef) (some 24) rfl rfl (by kernel_rfl) (by kernel_rfl) (by kernel_rfl) (fun _ _ _ h => h) (Or.inr ⟨by rfl, rfl⟩) (by assumption) ?_
  try simp only [Act.put, List.setIfInBounds_toArray, List.set_cons_zero, List.set_cons_succ]
  refine take1 (i := 17) (v := undef) (some 25) rfl rfl (by kernel_rfl) (by kernel_rfl) (by kernel_rfl) (fun _ _ _ h => h) (Or.inr ⟨by rfl, rfl⟩) (by assumption) ?_
  try simp only [Act.put, List.setIfInBounds_toArray, List.set_cons_zero, List.set_cons_succ]
  refine take1 (i := 18) (v := ?v36) (some 26) rfl rfl (by kernel_rfl) (by kernel_rfl) (by kernel_rfl) (fun _ _ _ h => h) (Or.inl ⟨by rfl, ?y36⟩) (by assumption) ?r36
  case y36 => (intro w hSw; (try dsimp only at hSw); go_simp; (first | done | with_reducible rfl))
  try simp only [Act.put, List.setIfInBounds_toArray, List.set_cons_zero, List.set_cons_succ]
  refine wpAnyH_done (by kernel_rfl) ?_ _
  go_wp2_with fail
  go_ret
  exact ⟨rfl, HOco3.out, HB3.out.mono HBB.out⟩
set_option maxRecDepth 100000 in
set_option maxHeartbeats 3200000 in
theorem take_high (B A mg mc : Nat) (up lo : Int) (sv : Value) (rs : List (Int × Int)) (ms : List Mv) (c : Int) (q d : Int) (w : World) (h : CoAt B w A 67 [.int .i64 c] up lo sv mg mc rs ms) (hg : goodF up lo rs) (hs : stdF rs) (hq : 0 ≤ q ∧ q ≤ (rs.length : Int) - 1) (hd0 : decide (d < 0) = false) (hd : 9 < d) :
    Calls Try.prog 108 #[.pointer (some ⟨A, 0, none⟩), .agg #[.int .i64 q, .int .i64 d]] w fun e w' => e = .returned (.bool false) ∧ CoAt B w' A 67 [.int .i64 c] up lo sv mg mc rs ms ∧ Below B w w' := by
  have hi : inB q 0 ((rs.length : Int) - 1) = true := inB_yes hq.1 hq.2
  obtain ⟨sa, sc, rfl⟩ := own_form h.rods
  have HG := Lib.hid hg
  have HS := Lib.hid hs
  have hl8 : rs.length ≤ 8 := hg.2.2.2.2
  have HBB : Hid (B ≤ w.heap.size) := Lib.hid (by have := h.ord; have := h.lt; omega)
  have HB0 : Hid (Below w.heap.size w w) := Lib.hid (Below.refl _ _)
  have HOco0 := Lib.hid (h)
  have HKs0 := Lib.hid (h.box)
  clear h hg hs
  go_enter Try.func108, Try.ntmps108
  go_wp2_with fail
  have hb : Below w.heap.size w (w.alloc (.cells #[.int .i64 q, .int .i64 d] 87)) := (Below.refl _ _).alloc (Nat.le_refl _) _
  have hk : (w.alloc (.cells #[.int .i64 q, .int .i64 d] 87)).heap[w.heap.size]? = some (.cells #[.int .i64 q, .int .i64 d] 87 (0, 0)) := alloc_at rfl
  have hz : (w.alloc (.cells #[.int .i64 q, .int .i64 d] 87)).heap.size = w.heap.size + 1 := by simp
  generalize w.alloc (.cells #[.int .i64 q, .int .i64 d] 87) = w1 at hb hk hz ⊢
  have HB1 : Hid (Below w.heap.size w w1) := Lib.hid (HB0.out.trans (hb.mono HB0.out.size))
  have HZ1 : Hid (w.heap.size ≤ w1.heap.size) := Lib.hid hb.size
  have HOco1 := Lib.hid (HOco0.out.next hb)
  have HKs1 := Lib.hid ((hb.block _ (lt_of_block HKs0.out)).trans HKs0.out)
  have HKd1 := Lib.hid hk
  replace HZ1 : Hid (w.heap.size < w1.heap.size) := Lib.hid (by omega)
  have HE1 := Lib.hid hz
  clear hb hk hz
  have lts := lt_of_block HKs1.out
  obtain ⟨cs0, cs1, cs2, cs3, cs4, fs0, fs1, fs2, fs3, fs4⟩ := cell5 HKs1.out
  have ltd := lt_of_block HKd1.out
  obtain ⟨cd0, cd1, fd0, fd1⟩ := cell2 HKd1.out
  try go_wp2_with fail
  refine wp_region_held_drew (S := (fun u => u.cell? ⟨A, 0, none⟩ = some (.int .i64 up) ∧ u.cell? ⟨A, 1, none⟩ = some (.int .i64 lo) ∧ u.cell? ⟨A, 2, none⟩ = some (.slice sa rs.length sc) ∧ u.cell? ⟨w.heap.size, 0, none⟩ = some (.int .i64 q) ∧ u.cell? ⟨w.heap.size, 1, none⟩ = some (.int .i64 d))) (by kernel_rfl) (⟨cs0, cs1, cs2, cd0, cd1⟩) (fun hHeld => ?_)
  have hb : Below w1.heap.size w1 w1.drew := (Below.refl _ _).drew
  generalize w1.drew = w2 at hb hHeld ⊢
  have HB2 : Hid (Below w.heap.size w w2) := Lib.hid (HB1.out.trans (hb.mono HB1.out.size))
  have HZ2 : Hid (w1.heap.size ≤ w2.heap.size) := Lib.hid hb.size
  have HOco2 := Lib.hid (HOco1.out.next hb)
  have HKs2 := Lib.hid ((hb.block _ (lt_of_block HKs1.out)).trans HKs1.out)
  have HKd2 := Lib.hid ((hb.block _ (lt_of_block HKd1.out)).trans HKd1.out)
  clear hb
  clear cs0 cs1 cs2 cs3 cs4 fs0 fs1 fs2 fs3 fs4 lts cd0 cd1 fd0 fd1 ltd
  have lts := lt_of_block HKs2.out
  obtain ⟨cs0, cs1, cs2, cs3, cs4, fs0, fs1, fs2, fs3, fs4⟩ := cell5 HKs2.out
  have ltd := lt_of_block HKd2.out
  obtain ⟨cd0, cd1, fd0, fd1⟩ := cell2 HKd2.out
  refine take1 (i := 0) (v := ?v37) (some 8) rfl rfl (by kernel_rfl) (by kernel_rfl) (by kernel_rfl) (fun _ _ _ h => h) (Or.inl ⟨by rfl, ?y37⟩) (by assumption) ?r37
  case y37 => (intro w hSw; (try dsimp only at hSw); go_simp; (first | done | with_reducible rfl))
  try simp only [Act.put, List.setIfInBounds_toArray, List.set_cons_zero, List.set_cons_succ]
  refine take1 (i := 1) (v := ?v38) (some 9) rfl rfl (by kernel_rfl) (by kernel_rfl) (by kernel_rfl) (fun _ _ _ h => h) (Or.inl ⟨by rfl, ?y38⟩) (by assumption) ?r38
  case y38 => (intro w hSw; (try dsimp only at hSw); go_simp; (first | done | with_reducible rfl))
  try simp only [Act.put, List.setIfInBounds_toArray, List.set_cons_zero, List.set_cons_succ]
  refine take1 (i := 2) (v := ?v39) (some 10) rfl rfl (by kernel_rfl) (by kernel_rfl) (by kernel_rfl) (fun _ _ _ h => h) (Or.inl ⟨by rfl, ?y39⟩) (by assumption) ?r39
  case y39 => (intro w hSw; (try dsimp only at hSw); go_simp; (first | done | with_reducible rfl))
  try simp only [Act.put, List.setIfInBounds_toArray, List.set_cons_zero, List.set_cons_succ]
  refine take1 (i := 3) (v := ?v40) (some 11) rfl rfl (by kernel_rfl) (by kernel_rfl) (by kernel_rfl) (fun _ _ _ h => h) (Or.inl ⟨by rfl, ?y40⟩) (by assumption) ?r40
  case y40 => (intro w hSw; (try dsimp only at hSw); go_simp; (first | done | with_reducible rfl))
  try simp only [Act.put, List.setIfInBounds_toArray, List.set_cons_zero, List.set_cons_succ]
  refine take1 (i := 4) (v := ?v41) (some 12) rfl rfl (by kernel_rfl) (by kernel_rfl) (by kernel_rfl) (fun _ _ _ h => h) (Or.inl ⟨by rfl, ?y41⟩) (by assumption) ?r41
  case y41 => (intro w hSw; (try dsimp only at hSw); go_simp; (first | done | with_reducible rfl))
  try simp only [Act.put, List.setIfInBounds_toArray, List.set_cons_zero, List.set_cons_succ]
  refine take1 (i := 5) (v := ?v42) (some 13) rfl rfl (by kernel_rfl) (by kernel_rfl) (by kernel_rfl) (fun _ _ _ h => h) (Or.inl ⟨by rfl, ?y42⟩) (by assumption) ?r42
  case y42 => (intro w hSw; (try dsimp only at hSw); go_simp; (first | done | with_reducible rfl))
  try simp only [Act.put, List.setIfInBounds_toArray, List.set_cons_zero, List.set_cons_succ]
  refine take1 (i := 6) (v := ?v43) (some 14) rfl rfl (by kernel_rfl) (by kernel_rfl) (by kernel_rfl) (fun _ _ _ h => h) (Or.inl ⟨by rfl, ?y43⟩) (by assumption) ?r43
  case y43 => (intro w hSw; (try dsimp only at hSw); go_simp; (first | done | with_reducible rfl))
  try simp only [Act.put, List.setIfInBounds_toArray, List.set_cons_zero, List.set_cons_succ]
  refine wpAnyH_ready (rs := [7]) (by kernel_rfl) (by simp) ?_
  refine AllReadyH.cons rfl (fun K hK => ?_) AllReadyH.nil
  go_simp
  go_at_call 121
  refine (hasRod_good up lo _ rs _ (RodsR.of_own HOco2.out.rods) q HG.out).mono ?_
  rintro e w3 ⟨rfl, hb⟩
  have HB3 : Hid (Below w.heap.size w w3) := Lib.hid (HB2.out.trans (hb.mono HB2.out.size))
  have HZ3 : Hid (w2.heap.size ≤ w3.heap.size) := Lib.hid hb.size
  have HOco3 := Lib.hid (HOco2.out.next hb)
  have HKs3 := Lib.hid ((hb.block _ (lt_of_block HKs2.out)).trans HKs2.out)
  have HKd3 := Lib.hid ((hb.block _ (lt_of_block HKd2.out)).trans HKd2.out)
  clear hb
  clear cs0 cs1 cs2 cs3 cs4 fs0 fs1 fs2 fs3 fs4 lts cd0 cd1 fd0 fd1 ltd
  have lts := lt_of_block HKs3.out
  obtain ⟨cs0, cs1, cs2, cs3, cs4, fs0, fs1, fs2, fs3, fs4⟩ := cell5 HKs3.out
  have ltd := lt_of_block HKd3.out
  obtain ⟨cd0, cd1, fd0, fd1⟩ := cell2 HKd3.out
  rw [hi]
  try go_simp
  refine hK.out _ _ (⟨cs0, cs1, cs2, cd0, cd1⟩) (fun hHeld => ?_)
  clear hK K
  try simp only [Act.put, List.setIfInBounds_toArray, List.set_cons_zero, List.set_cons_succ]
  refine take1 (i := 8) (v := ?v44) (some 16) rfl rfl (by kernel_rfl) (by kernel_rfl) (by kernel_rfl) (fun _ _ _ h => h) (Or.inl ⟨by rfl, ?y44⟩) (by assumption) ?r44
  case y44 => (intro w hSw; (try dsimp only at hSw); go_simp; (first | done | with_reducible rfl))
  try simp only [Act.put, List.setIfInBounds_toArray, List.set_cons_zero, List.set_cons_succ]
  refine take1 (i := 9) (v := ?v45) (some 17) rfl rfl (by kernel_rfl) (by kernel_rfl) (by kernel_rfl) (fun _ _ _ h => h) (Or.inl ⟨by rfl, ?y45⟩) (by assumption) ?r45
  case y45 => (intro w hSw; (try dsimp only at hSw); go_simp; (first | done | with_reducible rfl))
  try simp only [Act.put, List.setIfInBounds_toArray, List.set_cons_zero, List.set_cons_succ]
  refine take1 (i := 10) (v := ?v46) (some 18) rfl rfl (by kernel_rfl) (by kernel_rfl) (by kernel_rfl) (fun _ _ _ h => h) (Or.inl ⟨by rfl, ?y46⟩) (by assumption) ?r46
  case y46 => (intro w hSw; (try dsimp only at hSw); go_simp; (first | done | with_reducible rfl))
  try simp only [Act.put, List.setIfInBounds_toArray, List.set_cons_zero, List.set_cons_succ]
  refine take1 (i := 11) (v := ?v47) (some 19) rfl rfl (by kernel_rfl) (by kernel_rfl) (by kernel_rfl) (fun _ _ _ h => h) (Or.inl ⟨by rfl, ?y47⟩) (by assumption) ?r47
  case y47 => (intro w hSw; (try dsimp only at hSw); go_simp; (first | done | with_reducible rfl))
  try simp only [Act.put, List.setIfInBounds_toArray, List.set_cons_zero, List.set_cons_succ]
  refine take1 (i := 12) (v := ?v48) (some 20) rfl rfl (by kernel_rfl) (by kernel_rfl) (by kernel_rfl) (fun _ _ _ h => h) (Or.inl ⟨by rfl, ?y48⟩) (by assumption) ?r48
  case y48 => (intro w hSw; (try dsimp only at hSw); go_simp; (first | done | with_reducible rfl))
  try simp only [Act.put, List.setIfInBounds_toArray, List.set_cons_zero, List.set_cons_succ]
  refine take1 (i := 13) (v := ?v49) (some 21) rfl rfl (by kernel_rfl) (by kernel_rfl) (by kernel_rfl) (fun _ _ _ h => h) (Or.inl ⟨by rfl, ?y49⟩) (by assumption) ?r49
  case y49 => (intro w hSw; (try dsimp only at hSw); go_simp; (first | done | with_reducible rfl))
  try simp only [Act.put, List.setIfInBounds_toArray, List.set_cons_zero, List.set_cons_succ]
  refine take1 (i := 14) (v := ?v50) (some 22) rfl rfl (by kernel_rfl) (by kernel_rfl) (by kernel_rfl) (fun _ _ _ h => h) (Or.inl ⟨by rfl, ?y50⟩) (by assumption) ?r50
  case y50 => (intro w hSw; (try dsimp only at hSw); go_simp; (first | done | with_reducible rfl))
  try simp only [Act.put, List.setIfInBounds_toArray, List.set_cons_zero, List.set_cons_succ]
  refine take1 (i := 15) (v := ?v51) (some 23) rfl rfl (by kernel_rfl) (by kernel_rfl) (by kernel_rfl) (fun _ _ _ h => h) (Or.inl ⟨by rfl, ?y51⟩) (by assumption) ?r51
  case y51 => (intro w hSw; (try dsimp only at hSw); go_simp; (first | done | with_reducible rfl))
  try simp only [Act.put, List.setIfInBounds_toArray, List.set_cons_zero, List.set_cons_succ]
  refine take1 (i := 16) (v := ?v52) (some 24) rfl rfl (by kernel_rfl) (by kernel_rfl) (by kernel_rfl) (fun _ _ _ h => h) (Or.inl ⟨by rfl, ?y52⟩) (by assumption) ?r52
  case y52 => (intro w hSw; (try dsimp only at hSw); go_simp; (first | done | with_reducible rfl))
  try simp only [Act.put, List.setIfInBounds_toArray, List.set_cons_zero, List.set_cons_succ]
  refine take1 (i := 17) (v := ?v53) (some 25) rfl rfl (by kernel_rfl) (by kernel_rfl) (by kernel_rfl) (fun _ _ _ h => h) (Or.inl ⟨by rfl, ?y53⟩) (by assumption) ?r53
  case y53 => (intro w hSw; (try dsimp only at hSw); go_simp; (first | done | with_reducible rfl))
  try simp only [Act.put, List.setIfInBounds_toArray, List.set_cons_zero, List.set_cons_succ]
  refine take1 (i := 18) (v := ?v54) (some 26) rfl rfl (by kernel_rfl) (by kernel_rfl) (by kernel_rfl) (fun _ _ _ h => h) (Or.inl ⟨by rfl, ?y54⟩) (by assumption) ?r54
  case y54 => (intro w hSw; (try dsimp only at hSw); go_simp; (first | done | with_reducible rfl))
  try simp only [Act.put, List.setIfInBounds_toArray, List.set_cons_zero, List.set_cons_succ]
  refine wpAnyH_done (by kernel_rfl) ?_ _
  go_wp2_with fail
  go_ret
  exact ⟨rfl, HOco3.out, HB3.out.mono HBB.out⟩
set_option maxRecDepth 100000 in
set_option maxHeartbeats 3200000 in
theorem take_end (B A mg mc : Nat) (up lo : Int) (sv : Value) (rs : List (Int × Int)) (ms : List Mv) (c : Int) (q : Nat) (d : Int) (w : World) (h : CoAt B w A 67 [.int .i64 c] up lo sv mg mc rs ms) (hg : goodF up lo rs) (hs : stdF rs) (hqn : q < rs.length) (h0 : 0 ≤ d) (h9 : d ≤ 9) (he : ¬ endB (q + 1) d rs) :
    Calls Try.prog 108 #[.pointer (some ⟨A, 0, none⟩), .agg #[.int .i64 (q : Int), .int .i64 d]] w fun e w' => e = .returned (.bool false) ∧ CoAt B w' A 67 [.int .i64 c] up lo sv mg mc rs ms ∧ Below B w w' := by
  have hi : inB (q : Int) 0 ((rs.length : Int) - 1) = true := inB_yes (by omega) (by omega)
  have hd1 : decide (d < 0) = false := decide_eq_false (by omega)
  have hd2 : decide (9 < d) = false := decide_eq_false (by omega)
  obtain ⟨sa, sc, rfl⟩ := own_form h.rods
  have HG := Lib.hid hg
  have HS := Lib.hid hs
  have hl8 : rs.length ≤ 8 := hg.2.2.2.2
  have HBB : Hid (B ≤ w.heap.size) := Lib.hid (by have := h.ord; have := h.lt; omega)
  have HB0 : Hid (Below w.heap.size w w) := Lib.hid (Below.refl _ _)
  have HOco0 := Lib.hid (h)
  have HKs0 := Lib.hid (h.box)
  clear h hg hs
  go_enter Try.func108, Try.ntmps108
  go_wp2_with fail
  have hb : Below w.heap.size w (w.alloc (.cells #[.int .i64 (q : Int), .int .i64 d] 87)) := (Below.refl _ _).alloc (Nat.le_refl _) _
  have hk : (w.alloc (.cells #[.int .i64 (q : Int), .int .i64 d] 87)).heap[w.heap.size]? = some (.cells #[.int .i64 (q : Int), .int .i64 d] 87 (0, 0)) := alloc_at rfl
  have hz : (w.alloc (.cells #[.int .i64 (q : Int), .int .i64 d] 87)).heap.size = w.heap.size + 1 := by simp
  generalize w.alloc (.cells #[.int .i64 (q : Int), .int .i64 d] 87) = w1 at hb hk hz ⊢
  have HB1 : Hid (Below w.heap.size w w1) := Lib.hid (HB0.out.trans (hb.mono HB0.out.size))
  have HZ1 : Hid (w.heap.size ≤ w1.heap.size) := Lib.hid hb.size
  have HOco1 := Lib.hid (HOco0.out.next hb)
  have HKs1 := Lib.hid ((hb.block _ (lt_of_block HKs0.out)).trans HKs0.out)
  have HKd1 := Lib.hid hk
  replace HZ1 : Hid (w.heap.size < w1.heap.size) := Lib.hid (by omega)
  have HE1 := Lib.hid hz
  clear hb hk hz
  have lts := lt_of_block HKs1.out
  obtain ⟨cs0, cs1, cs2, cs3, cs4, fs0, fs1, fs2, fs3, fs4⟩ := cell5 HKs1.out
  have ltd := lt_of_block HKd1.out
  obtain ⟨cd0, cd1, fd0, fd1⟩ := cell2 HKd1.out
  try go_wp2_with fail
  refine wp_region_held_drew (S := (fun u => u.cell? ⟨A, 0, none⟩ = some (.int .i64 up) ∧ u.cell? ⟨A, 1, none⟩ = some (.int .i64 lo) ∧ u.cell? ⟨A, 2, none⟩ = some (.slice sa rs.length sc) ∧ u.cell? ⟨w.heap.size, 0, none⟩ = some (.int .i64 (q : Int)) ∧ u.cell? ⟨w.heap.size, 1, none⟩ = some (.int .i64 d))) (by kernel_rfl) (⟨cs0, cs1, cs2, cd0, cd1⟩) (fun hHeld => ?_)
  have hb : Below w1.heap.size w1 w1.drew := (Below.refl _ _).drew
  generalize w1.drew = w2 at hb hHeld ⊢
  have HB2 : Hid (Below w.heap.size w w2) := Lib.hid (HB1.out.trans (hb.mono HB1.out.size))
  have HZ2 : Hid (w1.heap.size ≤ w2.heap.size) := Lib.hid hb.size
  have HOco2 := Lib.hid (HOco1.out.next hb)
  have HKs2 := Lib.hid ((hb.block _ (lt_of_block HKs1.out)).trans HKs1.out)
  have HKd2 := Lib.hid ((hb.block _ (lt_of_block HKd1.out)).trans HKd1.out)
  clear hb
  clear cs0 cs1 cs2 cs3 cs4 fs0 fs1 fs2 fs3 fs4 lts cd0 cd1 fd0 fd1 ltd
  have lts := lt_of_block HKs2.out
  obtain ⟨cs0, cs1, cs2, cs3, cs4, fs0, fs1, fs2, fs3, fs4⟩ := cell5 HKs2.out
  have ltd := lt_of_block HKd2.out
  obtain ⟨cd0, cd1, fd0, fd1⟩ := cell2 HKd2.out
  refine take1 (i := 0) (v := ?v55) (some 8) rfl rfl (by kernel_rfl) (by kernel_rfl) (by kernel_rfl) (fun _ _ _ h => h) (Or.inl ⟨by rfl, ?y55⟩) (by assumption) ?r55
  case y55 => (intro w hSw; (try dsimp only at hSw); go_simp; (first | done | with_reducible rfl))
  try simp only [Act.put, List.setIfInBounds_toArray, List.set_cons_zero, List.set_cons_succ]
  refine take1 (i := 1) (v := ?v56) (some 9) rfl rfl (by kernel_rfl) (by kernel_rfl) (by kernel_rfl) (fun _ _ _ h => h) (Or.inl ⟨by rfl, ?y56⟩) (by assumption) ?r56
  case y56 => (intro w hSw; (try dsimp only at hSw); go_simp; (first | done | with_reducible rfl))
  try simp only [Act.put, List.setIfInBounds_toArray, List.set_cons_zero, List.set_cons_succ]
  refine take1 (i := 2) (v := ?v57) (some 10) rfl rfl (by kernel_rfl) (by kernel_rfl) (by kernel_rfl) (fun _ _ _ h => h) (Or.inl ⟨by rfl, ?y57⟩) (by assumption) ?r57
  case y57 => (intro w hSw; (try dsimp only at hSw); go_simp; (first | done | with_reducible rfl))
  try simp only [Act.put, List.setIfInBounds_toArray, List.set_cons_zero, List.set_cons_succ]
  refine take1 (i := 3) (v := ?v58) (some 11) rfl rfl (by kernel_rfl) (by kernel_rfl) (by kernel_rfl) (fun _ _ _ h => h) (Or.inl ⟨by rfl, ?y58⟩) (by assumption) ?r58
  case y58 => (intro w hSw; (try dsimp only at hSw); go_simp; (first | done | with_reducible rfl))
  try simp only [Act.put, List.setIfInBounds_toArray, List.set_cons_zero, List.set_cons_succ]
  refine take1 (i := 4) (v := ?v59) (some 12) rfl rfl (by kernel_rfl) (by kernel_rfl) (by kernel_rfl) (fun _ _ _ h => h) (Or.inl ⟨by rfl, ?y59⟩) (by assumption) ?r59
  case y59 => (intro w hSw; (try dsimp only at hSw); go_simp; (first | done | with_reducible rfl))
  try simp only [Act.put, List.setIfInBounds_toArray, List.set_cons_zero, List.set_cons_succ]
  refine take1 (i := 5) (v := ?v60) (some 13) rfl rfl (by kernel_rfl) (by kernel_rfl) (by kernel_rfl) (fun _ _ _ h => h) (Or.inl ⟨by rfl, ?y60⟩) (by assumption) ?r60
  case y60 => (intro w hSw; (try dsimp only at hSw); go_simp; (first | done | with_reducible rfl))
  try simp only [Act.put, List.setIfInBounds_toArray, List.set_cons_zero, List.set_cons_succ]
  refine take1 (i := 6) (v := ?v61) (some 14) rfl rfl (by kernel_rfl) (by kernel_rfl) (by kernel_rfl) (fun _ _ _ h => h) (Or.inl ⟨by rfl, ?y61⟩) (by assumption) ?r61
  case y61 => (intro w hSw; (try dsimp only at hSw); go_simp; (first | done | with_reducible rfl))
  try simp only [Act.put, List.setIfInBounds_toArray, List.set_cons_zero, List.set_cons_succ]
  refine wpAnyH_ready (rs := [7]) (by kernel_rfl) (by simp) ?_
  refine AllReadyH.cons rfl (fun K hK => ?_) AllReadyH.nil
  go_simp
  go_at_call 121
  refine (hasRod_good up lo _ rs _ (RodsR.of_own HOco2.out.rods) (q : Int) HG.out).mono ?_
  rintro e w3 ⟨rfl, hb⟩
  have HB3 : Hid (Below w.heap.size w w3) := Lib.hid (HB2.out.trans (hb.mono HB2.out.size))
  have HZ3 : Hid (w2.heap.size ≤ w3.heap.size) := Lib.hid hb.size
  have HOco3 := Lib.hid (HOco2.out.next hb)
  have HKs3 := Lib.hid ((hb.block _ (lt_of_block HKs2.out)).trans HKs2.out)
  have HKd3 := Lib.hid ((hb.block _ (lt_of_block HKd2.out)).trans HKd2.out)
  clear hb
  clear cs0 cs1 cs2 cs3 cs4 fs0 fs1 fs2 fs3 fs4 lts cd0 cd1 fd0 fd1 ltd
  have lts := lt_of_block HKs3.out
  obtain ⟨cs0, cs1, cs2, cs3, cs4, fs0, fs1, fs2, fs3, fs4⟩ := cell5 HKs3.out
  have ltd := lt_of_block HKd3.out
  obtain ⟨cd0, cd1, fd0, fd1⟩ := cell2 HKd3.out
  rw [hi]
  try go_simp
  refine hK.out _ _ (⟨cs0, cs1, cs2, cd0, cd1⟩) (fun hHeld => ?_)
  clear hK K
  try simp only [Act.put, List.setIfInBounds_toArray, List.set_cons_zero, List.set_cons_succ]
  refine take1 (i := 8) (v := ?v62) (some 16) rfl rfl (by kernel_rfl) (by kernel_rfl) (by kernel_rfl) (fun _ _ _ h => h) (Or.inl ⟨by rfl, ?y62⟩) (by assumption) ?r62
  case y62 => (intro w hSw; (try dsimp only at hSw); go_simp; (first | done | with_reducible rfl))
  try simp only [Act.put, List.setIfInBounds_toArray, List.set_cons_zero, List.set_cons_succ]
  refine take1 (i := 9) (v := ?v63) (some 17) rfl rfl (by kernel_rfl) (by kernel_rfl) (by kernel_rfl) (fun _ _ _ h => h) (Or.inl ⟨by rfl, ?y63⟩) (by assumption) ?r63
  case y63 => (intro w hSw; (try dsimp only at hSw); go_simp; (first | done | with_reducible rfl))
  try simp only [Act.put, List.setIfInBounds_toArray, List.set_cons_zero, List.set_cons_succ]
  refine take1 (i := 10) (v := ?v64) (some 18) rfl rfl (by kernel_rfl) (by kernel_rfl) (by kernel_rfl) (fun _ _ _ h => h) (Or.inl ⟨by rfl, ?y64⟩) (by assumption) ?r64
  case y64 => (intro w hSw; (try dsimp only at hSw); go_simp; (first | done | with_reducible rfl))
  try simp only [Act.put, List.setIfInBounds_toArray, List.set_cons_zero, List.set_cons_succ]
  refine take1 (i := 11) (v := ?v65) (some 19) rfl rfl (by kernel_rfl) (by kernel_rfl) (by kernel_rfl) (fun _ _ _ h => h) (Or.inl ⟨by rfl, ?y65⟩) (by assumption) ?r65
  case y65 => (intro w hSw; (try dsimp only at hSw); go_simp; (first | done | with_reducible rfl))
  try simp only [Act.put, List.setIfInBounds_toArray, List.set_cons_zero, List.set_cons_succ]
  refine take1 (i := 12) (v := ?v66) (some 20) rfl rfl (by kernel_rfl) (by kernel_rfl) (by kernel_rfl) (fun _ _ _ h => h) (Or.inl ⟨by rfl, ?y66⟩) (by assumption) ?r66
  case y66 => (intro w hSw; (try dsimp only at hSw); go_simp; (first | done | with_reducible rfl))
  try simp only [Act.put, List.setIfInBounds_toArray, List.set_cons_zero, List.set_cons_succ]
  refine take1 (i := 13) (v := ?v67) (some 21) rfl rfl (by kernel_rfl) (by kernel_rfl) (by kernel_rfl) (fun _ _ _ h => h) (Or.inl ⟨by rfl, ?y67⟩) (by assumption) ?r67
  case y67 => (intro w hSw; (try dsimp only at hSw); go_simp; (first | done | with_reducible rfl))
  try simp only [Act.put, List.setIfInBounds_toArray, List.set_cons_zero, List.set_cons_succ]
  refine take1 (i := 14) (v := ?v68) (some 22) rfl rfl (by kernel_rfl) (by kernel_rfl) (by kernel_rfl) (fun _ _ _ h => h) (Or.inl ⟨by rfl, ?y68⟩) (by assumption) ?r68
  case y68 => (intro w hSw; (try dsimp only at hSw); go_simp; (first | done | with_reducible rfl))
  try simp only [Act.put, List.setIfInBounds_toArray, List.set_cons_zero, List.set_cons_succ]
  refine take1 (i := 15) (v := ?v69) (some 23) rfl rfl (by kernel_rfl) (by kernel_rfl) (by kernel_rfl) (fun _ _ _ h => h) (Or.inl ⟨by rfl, ?y69⟩) (by assumption) ?r69
  case y69 => (intro w hSw; (try dsimp only at hSw); go_simp; (first | done | with_reducible rfl))
  try simp only [Act.put, List.setIfInBounds_toArray, List.set_cons_zero, List.set_cons_succ]
  refine take1 (i := 16) (v := ?v70) (some 24) rfl rfl (by kernel_rfl) (by kernel_rfl) (by kernel_rfl) (fun _ _ _ h => h) (Or.inl ⟨by rfl, ?y70⟩) (by assumption) ?r70
  case y70 => (intro w hSw; (try dsimp only at hSw); go_simp; (first | done | with_reducible rfl))
  try simp only [Act.put, List.setIfInBounds_toArray, List.set_cons_zero, List.set_cons_succ]
  refine take1 (i := 17) (v := ?v71) (some 25) rfl rfl (by kernel_rfl) (by kernel_rfl) (by kernel_rfl) (fun _ _ _ h => h) (Or.inl ⟨by rfl, ?y71⟩) (by assumption) ?r71
  case y71 => (intro w hSw; (try dsimp only at hSw); go_simp; (first | done | with_reducible rfl))
  try simp only [Act.put, List.setIfInBounds_toArray, List.set_cons_zero, List.set_cons_succ]
  refine take1 (i := 18) (v := ?v72) (some 26) rfl rfl (by kernel_rfl) (by kernel_rfl) (by kernel_rfl) (fun _ _ _ h => h) (Or.inl ⟨by rfl, ?y72⟩) (by assumption) ?r72
  case y72 => (intro w hSw; (try dsimp only at hSw); go_simp; (first | done | with_reducible rfl))
  try simp only [Act.put, List.setIfInBounds_toArray, List.set_cons_zero, List.set_cons_succ]
  refine wpAnyH_done (by kernel_rfl) ?_ _
  go_wp2_with fail
  refine wp_region_held_drew (S := (fun u => u.cell? ⟨A, 0, none⟩ = some (.int .i64 up) ∧ u.cell? ⟨A, 1, none⟩ = some (.int .i64 lo) ∧ u.cell? ⟨A, 2, none⟩ = some (.slice sa rs.length sc) ∧ u.cell? ⟨w.heap.size, 0, none⟩ = some (.int .i64 (q : Int)) ∧ u.cell? ⟨w.heap.size, 1, none⟩ = some (.int .i64 d))) (by kernel_rfl) (⟨cs0, cs1, cs2, cd0, cd1⟩) (fun hHeld => ?_)
  have hb : Below w3.heap.size w3 w3.drew := (Below.refl _ _).drew
  generalize w3.drew = w4 at hb hHeld ⊢
  have HB4 : Hid (Below w.heap.size w w4) := Lib.hid (HB3.out.trans (hb.mono HB3.out.size))
  have HZ4 : Hid (w3.heap.size ≤ w4.heap.size) := Lib.hid hb.size
  have HOco4 := Lib.hid (HOco3.out.next hb)
  have HKs4 := Lib.hid ((hb.block _ (lt_of_block HKs3.out)).trans HKs3.out)
  have HKd4 := Lib.hid ((hb.block _ (lt_of_block HKd3.out)).trans HKd3.out)
  clear hb
  clear cs0 cs1 cs2 cs3 cs4 fs0 fs1 fs2 fs3 fs4 lts cd0 cd1 fd0 fd1 ltd
  have lts := lt_of_block HKs4.out
  obtain ⟨cs0, cs1, cs2, cs3, cs4, fs0, fs1, fs2, fs3, fs4⟩ := cell5 HKs4.out
  have ltd := lt_of_block HKd4.out
  obtain ⟨cd0, cd1, fd0, fd1⟩ := cell2 HKd4.out
  refine take1 (i := 0) (v := ?v73) (some 28) rfl rfl (by kernel_rfl) (by kernel_rfl) (by kernel_rfl) (fun _ _ _ h => h) (Or.inl ⟨by rfl, ?y73⟩) (by assumption) ?r73
  case y73 => (intro w hSw; (try dsimp only at hSw); go_simp; (first | done | with_reducible rfl))
  try simp only [Act.put, List.setIfInBounds_toArray, List.set_cons_zero, List.set_cons_succ]
  refine take1 (i := 1) (v := ?v74) (some 29) rfl rfl (by kernel_rfl) (by kernel_rfl) (by kernel_rfl) (fun _ _ _ h => h) (Or.inl ⟨by rfl, ?y74⟩) (by assumption) ?r74
  case y74 => (intro w hSw; (try dsimp only at hSw); go_simp; (first | done | with_reducible rfl))
  try simp only [Act.put, List.setIfInBounds_toArray, List.set_cons_zero, List.set_cons_succ]
  refine take1 (i := 2) (v := ?v75) (some 30) rfl rfl (by kernel_rfl) (by kernel_rfl) (by kernel_rfl) (fun _ _ _ h => h) (Or.inl ⟨by rfl, ?y75⟩) (by assumption) ?r75
  case y75 => (intro w hSw; (try dsimp only at hSw); go_simp; (first | done | with_reducible rfl))
  try simp only [Act.put, List.setIfInBounds_toArray, List.set_cons_zero, List.set_cons_succ]
  refine take1 (i := 3) (v := ?v76) (some 31) rfl rfl (by kernel_rfl) (by kernel_rfl) (by kernel_rfl) (fun _ _ _ h => h) (Or.inl ⟨by rfl, ?y76⟩) (by assumption) ?r76
  case y76 => (intro w hSw; (try dsimp only at hSw); go_simp; (first | done | with_reducible rfl))
  try simp only [Act.put, List.setIfInBounds_toArray, List.set_cons_zero, List.set_cons_succ]
  refine take1 (i := 4) (v := ?v77) (some 32) rfl rfl (by kernel_rfl) (by kernel_rfl) (by kernel_rfl) (fun _ _ _ h => h) (Or.inl ⟨by rfl, ?y77⟩) (by assumption) ?r77
  case y77 => (intro w hSw; (try dsimp only at hSw); go_simp; (first | done | with_reducible rfl))
  try simp only [Act.put, List.setIfInBounds_toArray, List.set_cons_zero, List.set_cons_succ]
  refine take1 (i := 5) (v := ?v78) (some 33) rfl rfl (by kernel_rfl) (by kernel_rfl) (by kernel_rfl) (fun _ _ _ h => h) (Or.inl ⟨by rfl, ?y78⟩) (by assumption) ?r78
  case y78 => (intro w hSw; (try dsimp only at hSw); go_simp; (first | done | with_reducible rfl))
  try simp only [Act.put, List.setIfInBounds_toArray, List.set_cons_zero, List.set_cons_succ]
  refine take1 (i := 6) (v := ?v79) (some 34) rfl rfl (by kernel_rfl) (by kernel_rfl) (by kernel_rfl) (fun _ _ _ h => h) (Or.inl ⟨by rfl, ?y79⟩) (by assumption) ?r79
  case y79 => (intro w hSw; (try dsimp only at hSw); go_simp; (first | done | with_reducible rfl))
  try simp only [Act.put, List.setIfInBounds_toArray, List.set_cons_zero, List.set_cons_succ]
  refine take1 (i := 7) (v := ?v80) (some 35) rfl rfl (by kernel_rfl) (by kernel_rfl) (by kernel_rfl) (fun _ _ _ h => h) (Or.inl ⟨by rfl, ?y80⟩) (by assumption) ?r80
  case y80 => (intro w hSw; (try dsimp only at hSw); go_simp; (first | done | with_reducible rfl))
  try simp only [Act.put, List.setIfInBounds_toArray, List.set_cons_zero, List.set_cons_succ]
  refine take1 (i := 8) (v := ?v81) (some 36) rfl rfl (by kernel_rfl) (by kernel_rfl) (by kernel_rfl) (fun _ _ _ h => h) (Or.inl ⟨by rfl, ?y81⟩) (by assumption) ?r81
  case y81 => (intro w hSw; (try dsimp only at hSw); go_simp; (first | done | with_reducible rfl))
  try simp only [Act.put, List.setIfInBounds_toArray, List.set_cons_zero, List.set_cons_succ]
  refine take1 (i := 9) (v := ?v82) (some 37) rfl rfl (by kernel_rfl) (by kernel_rfl) (by kernel_rfl) (fun _ _ _ h => h) (Or.inl ⟨by rfl, ?y82⟩) (by assumption) ?r82
  case y82 => (intro w hSw; (try dsimp only at hSw); go_simp; (first | done | with_reducible rfl))
  try simp only [Act.put, List.setIfInBounds_toArray, List.set_cons_zero, List.set_cons_succ]
  refine wpAnyH_ready (rs := [10]) (by kernel_rfl) (by simp) ?_
  refine AllReadyH.cons rfl (fun K hK => ?_) AllReadyH.nil
  go_simp
  go_at_call 122
  refine (takingOf_at rs HS.out hl8 q d false _ _ (RodsR.of_own HOco4.out.rods) hqn h0 h9 ⟨fun h => (by cases h), fun h => absurd h he⟩).mono ?_
  rintro e w5 ⟨⟨o, rfl, hch⟩, hb⟩
  have HB5 : Hid (Below w.heap.size w w5) := Lib.hid (HB4.out.trans (hb.mono HB4.out.size))
  have HZ5 : Hid (w4.heap.size ≤ w5.heap.size) := Lib.hid hb.size
  have HOco5 := Lib.hid (HOco4.out.next hb)
  have HKs5 := Lib.hid ((hb.block _ (lt_of_block HKs4.out)).trans HKs4.out)
  have HKd5 := Lib.hid ((hb.block _ (lt_of_block HKd4.out)).trans HKd4.out)
  clear hb
  have HOch5 := Lib.hid (hch)
  clear hch
  clear cs0 cs1 cs2 cs3 cs4 fs0 fs1 fs2 fs3 fs4 lts cd0 cd1 fd0 fd1 ltd
  have lts := lt_of_block HKs5.out
  obtain ⟨cs0, cs1, cs2, cs3, cs4, fs0, fs1, fs2, fs3, fs4⟩ := cell5 HKs5.out
  have ltd := lt_of_block HKd5.out
  obtain ⟨cd0, cd1, fd0, fd1⟩ := cell2 HKd5.out
  try go_simp
  refine hK.out _ _ (⟨cs0, cs1, cs2, cd0, cd1⟩) (fun hHeld => ?_)
  clear hK K
  try simp only [Act.put, List.setIfInBounds_toArray, List.set_cons_zero, List.set_cons_succ]
  refine take1 (i := 11) (v := ?v83) (some 27) rfl rfl (by kernel_rfl) (by kernel_rfl) (by kernel_rfl) (fun _ _ _ h => h) (Or.inl ⟨by rfl, ?y83⟩) (by assumption) ?r83
  case y83 => (intro w hSw; (try dsimp only at hSw); go_simp; (first | done | with_reducible rfl))
  try simp only [Act.put, List.setIfInBounds_toArray, List.set_cons_zero, List.set_cons_succ]
  refine take1 (i := 12) (v := ?v84) (some 39) rfl rfl (by kernel_rfl) (by kernel_rfl) (by kernel_rfl) (fun _ _ _ h => h) (Or.inl ⟨by rfl, ?y84⟩) (by assumption) ?r84
  case y84 => (intro w hSw; (try dsimp only at hSw); go_simp; (first | done | with_reducible rfl))
  try simp only [Act.put, List.setIfInBounds_toArray, List.set_cons_zero, List.set_cons_succ]
  refine take1 (i := 13) (v := ?v85) (some 40) rfl rfl (by kernel_rfl) (by kernel_rfl) (by kernel_rfl) (fun _ _ _ h => h) (Or.inl ⟨by rfl, ?y85⟩) (by assumption) ?r85
  case y85 => (intro w hSw; (try dsimp only at hSw); go_simp; (first | done | with_reducible rfl))
  try simp only [Act.put, List.setIfInBounds_toArray, List.set_cons_zero, List.set_cons_succ]
  refine take1 (i := 14) (v := ?v86) (some 5) rfl rfl (by kernel_rfl) (by kernel_rfl) (by kernel_rfl) (fun _ _ _ h => h) (Or.inl ⟨by rfl, ?y86⟩) (by assumption) ?r86
  case y86 => (intro w hSw; (try dsimp only at hSw); go_simp; (first | done | with_reducible rfl))
  try simp only [Act.put, List.setIfInBounds_toArray, List.set_cons_zero, List.set_cons_succ]
  refine take1 (i := 15) (v := ?v87) (some 6) rfl rfl (by kernel_rfl) (by kernel_rfl) (by kernel_rfl) (fun _ _ _ h => h) (Or.inl ⟨by rfl, ?y87⟩) (by assumption) ?r87
  case y87 => (intro w hSw; (try dsimp only at hSw); go_simp; (first | done | with_reducible rfl))
  try simp only [Act.put, List.setIfInBounds_toArray, List.set_cons_zero, List.set_cons_succ]
  refine wpAnyH_done (by kernel_rfl) ?_ _
  go_wp2_with fail
  go_ret
  exact ⟨rfl, HOco5.out, HB5.out.mono HBB.out⟩

theorem take_no (B A mg mc : Nat) (up lo : Int) (sv : Value) (rs : List (Int × Int)) (ms : List Mv) (c : Int) (q d : Int) (w : World) (h : CoAt B w A 67 [.int .i64 c] up lo sv mg mc rs ms) (hg : goodF up lo rs) (hs : stdF rs) (hno : ¬ okT rs q d) :
    Calls Try.prog 108 #[.pointer (some ⟨A, 0, none⟩), .agg #[.int .i64 q, .int .i64 d]] w fun e w' => e = .returned (.bool false) ∧ CoAt B w' A 67 [.int .i64 c] up lo sv mg mc rs ms ∧ Below B w w' := by
  by_cases hq : 0 ≤ q ∧ q ≤ (rs.length : Int) - 1
  · by_cases h0 : d < 0
    · exact take_low B A mg mc up lo sv rs ms c q d w h hg hs hq h0
    · by_cases h9 : 9 < d
      · exact take_high B A mg mc up lo sv rs ms c q d w h hg hs hq (decide_eq_false h0) h9
      · obtain ⟨k, rfl⟩ : ∃ k : Nat, q = (k : Int) := ⟨q.toNat, by omega⟩
        refine take_end B A mg mc up lo sv rs ms c k d w h hg hs (by omega) (by omega) (by omega) (fun he => hno ⟨hq, ⟨by omega, by omega⟩, ?_⟩)
        rw [Int.toNat_natCast]
        exact (endB_iff k d rs hs (by omega) (by omega) (by omega)).1 he
  · exact take_rod B A mg mc up lo sv rs ms c q d w h hg hs hq

theorem tk_apart {B : Nat} {w : World} {A : Nat} {R : List Value} {up lo : Int} {sv : Value} {mg mc : Nat} {rs : List (Int × Int)} {ms : List Mv} (h : CoAt B w A 67 R up lo sv mg mc rs ms) {a : Nat} {cs : Array Value} (hb : w.heap[a]? = some (.cells cs 126 (0, 0))) : a < w.heap.size ∧ a ≠ A ∧ a ≠ mg := by
  refine ⟨(Array.getElem?_eq_some_iff.1 hb).1, ?_, fun e => own_box h.moves hb (by decide) mg rfl e.symm⟩
  intro e
  subst e
  have := h.box
  rw [hb] at this
  injection this with this
  injection this with _ h3 _
  exact absurd h3 (by decide)
theorem TkCh.set {B : Nat} {w w' : World} {A : Nat} {R : List Value} {up lo : Int} {sv : Value} {mg mc : Nat} {rs : List (Int × Int)} {ms : List Mv} {lb : Nat} {p : Value} {L : List (Nat × Int)} (ht : TkCh w lb p L) (h : CoAt B w A 67 R up lo sv mg mc rs ms) (hk : ∀ b, b < w.heap.size → b ≠ A → b ≠ mg → w'.heap[b]? = w.heap[b]?) : TkCh w' lb p L :=
  TkCh.kept L lb p ht fun a _ _ ha => by
    obtain ⟨h1, h2, h3⟩ := tk_apart h ha
    exact hk a h1 h2 h3
/-- Where the setting of a chain's rods stands. -/
structure RuAt (n : Nat) (RT : List (Int × Int)) (MT : List Mv) (CT : Int) (L : List (Nat × Int)) (rs : List (Int × Int)) (ms : List Mv) (c : Int) : Prop where
  std : stdF rs
  len : rs.length = n
  c0 : 0 ≤ c
  rT : setL L rs = RT
  mT : ms ++ setM L rs = MT
  cT : c + L.length = CT
  bd : ∀ p ∈ L, p.1 < n ∧ 0 ≤ p.2 ∧ p.2 ≤ 9
theorem RuAt.step {n : Nat} {RT : List (Int × Int)} {MT : List Mv} {CT : Int} {L : List (Nat × Int)} {rs : List (Int × Int)} {ms : List Mv} {c : Int} {q : Nat} {x : Int} (h : RuAt n RT MT CT ((q, x) :: L) rs ms c) : RuAt n RT MT CT L (rs.set q (digR x)) (ms ++ turnM q (vAt rs q) x) (c + 1) := by
  have hb := h.bd (q, x) (List.mem_cons_self ..)
  refine ⟨stdF_set h.std _ _ hb.2.1 hb.2.2, by rw [List.length_set]; exact h.len, by have := h.c0; omega, h.rT, ?_, ?_, fun p hp => h.bd p (List.mem_cons_of_mem _ hp)⟩
  · rw [List.append_assoc]; exact h.mT
  · have := h.cT; rw [List.length_cons] at this; omega
theorem RuAt.short {n : Nat} {RT : List (Int × Int)} {MT : List Mv} {CT : Int} {L : List (Nat × Int)} {rs : List (Int × Int)} {ms : List Mv} {c : Int} (h : RuAt n RT MT CT L rs ms c) : ms.length ≤ MT.length := by rw [← h.mT, List.length_append]; omega

set_option maxRecDepth 100000 in
set_option maxHeartbeats 3200000 in
theorem take_yes (B A mg mc : Nat) (up lo : Int) (sv : Value) (rs : List (Int × Int)) (ms : List Mv) (c : Int) (q : Nat) (d : Int) (w : World) (h : CoAt B w A 67 [.int .i64 c] up lo sv mg mc rs ms) (hg : goodF up lo rs) (hs : stdF rs) (hqn : q < rs.length) (h0 : 0 ≤ d) (h9 : d ≤ 9) (he : endB (q + 1) d rs) (hn : ms.length ≤ 150) (hc : 0 ≤ c ∧ c ≤ 100) :
    Calls Try.prog 108 #[.pointer (some ⟨A, 0, none⟩), .agg #[.int .i64 (q : Int), .int .i64 d]] w fun e w' => e = .returned (.bool true) ∧ (∃ sv' mg' mc', CoAt B w' A 67 [.int .i64 (c + (brC (q + 1) d rs : Nat))] up lo sv' mg' mc' (brR (q + 1) d rs) (ms ++ brM (q + 1) d rs)) ∧ Below B w w' := by
  obtain ⟨hR, hM, hC⟩ := brL_all q d rs hs hqn h0 h9 he
  have hbd := brL_bd (q + 1) d rs hs h0 h9
  obtain ⟨x, t, hL⟩ := brL_cons q d rs
  have HL := Lib.hid hL
  rw [hL] at hR hM hC hbd
  have hms : (ms ++ brM (q + 1) d rs).length ≤ 180 := by rw [List.length_append]; have := brM_len (q + 1) d rs; have := hg.2.2.2.2; omega
  have hcb : c + (brC (q + 1) d rs : Nat) ≤ 110 := by have := brC_le (q + 1) d rs; have := hg.2.2.2.2; omega
  have hru : RuAt rs.length (brR (q + 1) d rs) (ms ++ brM (q + 1) d rs) (c + (brC (q + 1) d rs : Nat)) t (rs.set q (digR x)) (ms ++ turnM q (vAt rs q) x) c := by
    have hb := hbd (q, x) (List.mem_cons_self ..)
    exact ⟨stdF_set hs _ _ hb.2.1 hb.2.2, List.length_set, hc.1, hR, by rw [List.append_assoc, ← hM]; rfl, by rw [List.length_cons] at hC; omega, fun p hp => by have := hbd p (List.mem_cons_of_mem _ hp); have h2 := brL_bd (q + 1) d rs hs h0 h9 p (by rw [hL]; exact List.mem_cons_of_mem _ hp); omega⟩
  have hxb := hbd (q, x) (List.mem_cons_self ..)
  have hx0 : 0 ≤ x := hxb.2.1
  have hx9 : x ≤ 9 := hxb.2.2
  generalize brR (q + 1) d rs = RT at hru ⊢
  generalize ms ++ brM (q + 1) d rs = MT at hru hms ⊢
  generalize c + (brC (q + 1) d rs : Nat) = CT at hru hcb ⊢
  have HRU := Lib.hid hru
  have HDM : Hid ((1 ≤ up ∧ up ≤ 2) ∧ (4 ≤ lo ∧ lo ≤ 5) ∧ (1 ≤ rs.length ∧ rs.length ≤ 8)) := Lib.hid hg.2
  clear hR hM hC hbd hL hru hxb
  have hi : inB (q : Int) 0 ((rs.length : Int) - 1) = true := inB_yes (by omega) (by omega)
  have hd1 : decide (d < 0) = false := decide_eq_false (by omega)
  have hd2 : decide (9 < d) = false := decide_eq_false (by omega)
  obtain ⟨sa, sc, rfl⟩ := own_form h.rods
  have HG := Lib.hid hg
  have HS := Lib.hid hs
  have hl8 : rs.length ≤ 8 := hg.2.2.2.2
  have HBB : Hid (B ≤ w.heap.size) := Lib.hid (by have := h.ord; have := h.lt; omega)
  have HB0 : Hid (Below w.heap.size w w) := Lib.hid (Below.refl _ _)
  have HOco0 := Lib.hid (h)
  have HKs0 := Lib.hid (h.box)
  clear h hg hs
  go_enter Try.func108, Try.ntmps108
  go_wp2_with fail
  have hb : Below w.heap.size w (w.alloc (.cells #[.int .i64 (q : Int), .int .i64 d] 87)) := (Below.refl _ _).alloc (Nat.le_refl _) _
  have hk : (w.alloc (.cells #[.int .i64 (q : Int), .int .i64 d] 87)).heap[w.heap.size]? = some (.cells #[.int .i64 (q : Int), .int .i64 d] 87 (0, 0)) := alloc_at rfl
  have hz : (w.alloc (.cells #[.int .i64 (q : Int), .int .i64 d] 87)).heap.size = w.heap.size + 1 := by simp
  generalize w.alloc (.cells #[.int .i64 (q : Int), .int .i64 d] 87) = w1 at hb hk hz ⊢
  have HB1 : Hid (Below w.heap.size w w1) := Lib.hid (HB0.out.trans (hb.mono HB0.out.size))
  have HZ1 : Hid (w.heap.size ≤ w1.heap.size) := Lib.hid hb.size
  have HOco1 := Lib.hid (HOco0.out.next hb)
  have HKs1 := Lib.hid ((hb.block _ (lt_of_block HKs0.out)).trans HKs0.out)
  have HKd1 := Lib.hid hk
  replace HZ1 : Hid (w.heap.size < w1.heap.size) := Lib.hid (by omega)
  have HE1 := Lib.hid hz
  clear hb hk hz
  have lts := lt_of_block HKs1.out
  obtain ⟨cs0, cs1, cs2, cs3, cs4, fs0, fs1, fs2, fs3, fs4⟩ := cell5 HKs1.out
  have ltd := lt_of_block HKd1.out
  obtain ⟨cd0, cd1, fd0, fd1⟩ := cell2 HKd1.out
  try go_wp2_with fail
  refine wp_region_held_drew (S := (fun u => u.cell? ⟨A, 0, none⟩ = some (.int .i64 up) ∧ u.cell? ⟨A, 1, none⟩ = some (.int .i64 lo) ∧ u.cell? ⟨A, 2, none⟩ = some (.slice sa rs.length sc) ∧ u.cell? ⟨w.heap.size, 0, none⟩ = some (.int .i64 (q : Int)) ∧ u.cell? ⟨w.heap.size, 1, none⟩ = some (.int .i64 d))) (by kernel_rfl) (⟨cs0, cs1, cs2, cd0, cd1⟩) (fun hHeld => ?_)
  have hb : Below w1.heap.size w1 w1.drew := (Below.refl _ _).drew
  generalize w1.drew = w2 at hb hHeld ⊢
  have HB2 : Hid (Below w.heap.size w w2) := Lib.hid (HB1.out.trans (hb.mono HB1.out.size))
  have HZ2 : Hid (w1.heap.size ≤ w2.heap.size) := Lib.hid hb.size
  have HOco2 := Lib.hid (HOco1.out.next hb)
  have HKs2 := Lib.hid ((hb.block _ (lt_of_block HKs1.out)).trans HKs1.out)
  have HKd2 := Lib.hid ((hb.block _ (lt_of_block HKd1.out)).trans HKd1.out)
  clear hb
  clear cs0 cs1 cs2 cs3 cs4 fs0 fs1 fs2 fs3 fs4 lts cd0 cd1 fd0 fd1 ltd
  have lts := lt_of_block HKs2.out
  obtain ⟨cs0, cs1, cs2, cs3, cs4, fs0, fs1, fs2, fs3, fs4⟩ := cell5 HKs2.out
  have ltd := lt_of_block HKd2.out
  obtain ⟨cd0, cd1, fd0, fd1⟩ := cell2 HKd2.out
  refine take1 (i := 0) (v := ?v88) (some 8) rfl rfl (by kernel_rfl) (by kernel_rfl) (by kernel_rfl) (fun _ _ _ h => h) (Or.inl ⟨by rfl, ?y88⟩) (by assumption) ?r88
  case y88 => (intro w hSw; (try dsimp only at hSw); go_simp; (first | done | with_reducible rfl))
  try simp only [Act.put, List.setIfInBounds_toArray, List.set_cons_zero, List.set_cons_succ]
  refine take1 (i := 1) (v := ?v89) (some 9) rfl rfl (by kernel_rfl) (by kernel_rfl) (by kernel_rfl) (fun _ _ _ h => h) (Or.inl ⟨by rfl, ?y89⟩) (by assumption) ?r89
  case y89 => (intro w hSw; (try dsimp only at hSw); go_simp; (first | done | with_reducible rfl))
  try simp only [Act.put, List.setIfInBounds_toArray, List.set_cons_zero, List.set_cons_succ]
  refine take1 (i := 2) (v := ?v90) (some 10) rfl rfl (by kernel_rfl) (by kernel_rfl) (by kernel_rfl) (fun _ _ _ h => h) (Or.inl ⟨by rfl, ?y90⟩) (by assumption) ?r90
  case y90 => (intro w hSw; (try dsimp only at hSw); go_simp; (first | done | with_reducible rfl))
  try simp only [Act.put, List.setIfInBounds_toArray, List.set_cons_zero, List.set_cons_succ]
  refine take1 (i := 3) (v := ?v91) (some 11) rfl rfl (by kernel_rfl) (by kernel_rfl) (by kernel_rfl) (fun _ _ _ h => h) (Or.inl ⟨by rfl, ?y91⟩) (by assumption) ?r91
  case y91 => (intro w hSw; (try dsimp only at hSw); go_simp; (first | done | with_reducible rfl))
  try simp only [Act.put, List.setIfInBounds_toArray, List.set_cons_zero, List.set_cons_succ]
  refine take1 (i := 4) (v := ?v92) (some 12) rfl rfl (by kernel_rfl) (by kernel_rfl) (by kernel_rfl) (fun _ _ _ h => h) (Or.inl ⟨by rfl, ?y92⟩) (by assumption) ?r92
  case y92 => (intro w hSw; (try dsimp only at hSw); go_simp; (first | done | with_reducible rfl))
  try simp only [Act.put, List.setIfInBounds_toArray, List.set_cons_zero, List.set_cons_succ]
  refine take1 (i := 5) (v := ?v93) (some 13) rfl rfl (by kernel_rfl) (by kernel_rfl) (by kernel_rfl) (fun _ _ _ h => h) (Or.inl ⟨by rfl, ?y93⟩) (by assumption) ?r93
  case y93 => (intro w hSw; (try dsimp only at hSw); go_simp; (first | done | with_reducible rfl))
  try simp only [Act.put, List.setIfInBounds_toArray, List.set_cons_zero, List.set_cons_succ]
  refine take1 (i := 6) (v := ?v94) (some 14) rfl rfl (by kernel_rfl) (by kernel_rfl) (by kernel_rfl) (fun _ _ _ h => h) (Or.inl ⟨by rfl, ?y94⟩) (by assumption) ?r94
  case y94 => (intro w hSw; (try dsimp only at hSw); go_simp; (first | done | with_reducible rfl))
  try simp only [Act.put, List.setIfInBounds_toArray, List.set_cons_zero, List.set_cons_succ]
  refine wpAnyH_ready (rs := [7]) (by kernel_rfl) (by simp) ?_
  refine AllReadyH.cons rfl (fun K hK => ?_) AllReadyH.nil
  go_simp
  go_at_call 121
  refine (hasRod_good up lo _ rs _ (RodsR.of_own HOco2.out.rods) (q : Int) HG.out).mono ?_
  rintro e w3 ⟨rfl, hb⟩
  have HB3 : Hid (Below w.heap.size w w3) := Lib.hid (HB2.out.trans (hb.mono HB2.out.size))
  have HZ3 : Hid (w2.heap.size ≤ w3.heap.size) := Lib.hid hb.size
  have HOco3 := Lib.hid (HOco2.out.next hb)
  have HKs3 := Lib.hid ((hb.block _ (lt_of_block HKs2.out)).trans HKs2.out)
  have HKd3 := Lib.hid ((hb.block _ (lt_of_block HKd2.out)).trans HKd2.out)
  clear hb
  clear cs0 cs1 cs2 cs3 cs4 fs0 fs1 fs2 fs3 fs4 lts cd0 cd1 fd0 fd1 ltd
  have lts := lt_of_block HKs3.out
  obtain ⟨cs0, cs1, cs2, cs3, cs4, fs0, fs1, fs2, fs3, fs4⟩ := cell5 HKs3.out
  have ltd := lt_of_block HKd3.out
  obtain ⟨cd0, cd1, fd0, fd1⟩ := cell2 HKd3.out
  rw [hi]
  try go_simp
  refine hK.out _ _ (⟨cs0, cs1, cs2, cd0, cd1⟩) (fun hHeld => ?_)
  clear hK K
  try simp only [Act.put, List.setIfInBounds_toArray, List.set_cons_zero, List.set_cons_succ]
  refine take1 (i := 8) (v := ?v95) (some 16) rfl rfl (by kernel_rfl) (by kernel_rfl) (by kernel_rfl) (fun _ _ _ h => h) (Or.inl ⟨by rfl, ?y95⟩) (by assumption) ?r95
  case y95 => (intro w hSw; (try dsimp only at hSw); go_simp; (first | done | with_reducible rfl))
  try simp only [Act.put, List.setIfInBounds_toArray, List.set_cons_zero, List.set_cons_succ]
  refine take1 (i := 9) (v := ?v96) (some 17) rfl rfl (by kernel_rfl) (by kernel_rfl) (by kernel_rfl) (fun _ _ _ h => h) (Or.inl ⟨by rfl, ?y96⟩) (by assumption) ?r96
  case y96 => (intro w hSw; (try dsimp only at hSw); go_simp; (first | done | with_reducible rfl))
  try simp only [Act.put, List.setIfInBounds_toArray, List.set_cons_zero, List.set_cons_succ]
  refine take1 (i := 10) (v := ?v97) (some 18) rfl rfl (by kernel_rfl) (by kernel_rfl) (by kernel_rfl) (fun _ _ _ h => h) (Or.inl ⟨by rfl, ?y97⟩) (by assumption) ?r97
  case y97 => (intro w hSw; (try dsimp only at hSw); go_simp; (first | done | with_reducible rfl))
  try simp only [Act.put, List.setIfInBounds_toArray, List.set_cons_zero, List.set_cons_succ]
  refine take1 (i := 11) (v := ?v98) (some 19) rfl rfl (by kernel_rfl) (by kernel_rfl) (by kernel_rfl) (fun _ _ _ h => h) (Or.inl ⟨by rfl, ?y98⟩) (by assumption) ?r98
  case y98 => (intro w hSw; (try dsimp only at hSw); go_simp; (first | done | with_reducible rfl))
  try simp only [Act.put, List.setIfInBounds_toArray, List.set_cons_zero, List.set_cons_succ]
  refine take1 (i := 12) (v := ?v99) (some 20) rfl rfl (by kernel_rfl) (by kernel_rfl) (by kernel_rfl) (fun _ _ _ h => h) (Or.inl ⟨by rfl, ?y99⟩) (by assumption) ?r99
  case y99 => (intro w hSw; (try dsimp only at hSw); go_simp; (first | done | with_reducible rfl))
  try simp only [Act.put, List.setIfInBounds_toArray, List.set_cons_zero, List.set_cons_succ]
  refine take1 (i := 13) (v := ?v100) (some 21) rfl rfl (by kernel_rfl) (by kernel_rfl) (by kernel_rfl) (fun _ _ _ h => h) (Or.inl ⟨by rfl, ?y100⟩) (by assumption) ?r100
  case y100 => (intro w hSw; (try dsimp only at hSw); go_simp; (first | done | with_reducible rfl))
  try simp only [Act.put, List.setIfInBounds_toArray, List.set_cons_zero, List.set_cons_succ]
  refine take1 (i := 14) (v := ?v101) (some 22) rfl rfl (by kernel_rfl) (by kernel_rfl) (by kernel_rfl) (fun _ _ _ h => h) (Or.inl ⟨by rfl, ?y101⟩) (by assumption) ?r101
  case y101 => (intro w hSw; (try dsimp only at hSw); go_simp; (first | done | with_reducible rfl))
  try simp only [Act.put, List.setIfInBounds_toArray, List.set_cons_zero, List.set_cons_succ]
  refine take1 (i := 15) (v := ?v102) (some 23) rfl rfl (by kernel_rfl) (by kernel_rfl) (by kernel_rfl) (fun _ _ _ h => h) (Or.inl ⟨by rfl, ?y102⟩) (by assumption) ?r102
  case y102 => (intro w hSw; (try dsimp only at hSw); go_simp; (first | done | with_reducible rfl))
  try simp only [Act.put, List.setIfInBounds_toArray, List.set_cons_zero, List.set_cons_succ]
  refine take1 (i := 16) (v := ?v103) (some 24) rfl rfl (by kernel_rfl) (by kernel_rfl) (by kernel_rfl) (fun _ _ _ h => h) (Or.inl ⟨by rfl, ?y103⟩) (by assumption) ?r103
  case y103 => (intro w hSw; (try dsimp only at hSw); go_simp; (first | done | with_reducible rfl))
  try simp only [Act.put, List.setIfInBounds_toArray, List.set_cons_zero, List.set_cons_succ]
  refine take1 (i := 17) (v := ?v104) (some 25) rfl rfl (by kernel_rfl) (by kernel_rfl) (by kernel_rfl) (fun _ _ _ h => h) (Or.inl ⟨by rfl, ?y104⟩) (by assumption) ?r104
  case y104 => (intro w hSw; (try dsimp only at hSw); go_simp; (first | done | with_reducible rfl))
  try simp only [Act.put, List.setIfInBounds_toArray, List.set_cons_zero, List.set_cons_succ]
  refine take1 (i := 18) (v := ?v105) (some 26) rfl rfl (by kernel_rfl) (by kernel_rfl) (by kernel_rfl) (fun _ _ _ h => h) (Or.inl ⟨by rfl, ?y105⟩) (by assumption) ?r105
  case y105 => (intro w hSw; (try dsimp only at hSw); go_simp; (first | done | with_reducible rfl))
  try simp only [Act.put, List.setIfInBounds_toArray, List.set_cons_zero, List.set_cons_succ]
  refine wpAnyH_done (by kernel_rfl) ?_ _
  go_wp2_with fail
  refine wp_region_held_drew (S := (fun u => u.cell? ⟨A, 0, none⟩ = some (.int .i64 up) ∧ u.cell? ⟨A, 1, none⟩ = some (.int .i64 lo) ∧ u.cell? ⟨A, 2, none⟩ = some (.slice sa rs.length sc) ∧ u.cell? ⟨w.heap.size, 0, none⟩ = some (.int .i64 (q : Int)) ∧ u.cell? ⟨w.heap.size, 1, none⟩ = some (.int .i64 d))) (by kernel_rfl) (⟨cs0, cs1, cs2, cd0, cd1⟩) (fun hHeld => ?_)
  have hb : Below w3.heap.size w3 w3.drew := (Below.refl _ _).drew
  generalize w3.drew = w4 at hb hHeld ⊢
  have HB4 : Hid (Below w.heap.size w w4) := Lib.hid (HB3.out.trans (hb.mono HB3.out.size))
  have HZ4 : Hid (w3.heap.size ≤ w4.heap.size) := Lib.hid hb.size
  have HOco4 := Lib.hid (HOco3.out.next hb)
  have HKs4 := Lib.hid ((hb.block _ (lt_of_block HKs3.out)).trans HKs3.out)
  have HKd4 := Lib.hid ((hb.block _ (lt_of_block HKd3.out)).trans HKd3.out)
  clear hb
  clear cs0 cs1 cs2 cs3 cs4 fs0 fs1 fs2 fs3 fs4 lts cd0 cd1 fd0 fd1 ltd
  have lts := lt_of_block HKs4.out
  obtain ⟨cs0, cs1, cs2, cs3, cs4, fs0, fs1, fs2, fs3, fs4⟩ := cell5 HKs4.out
  have ltd := lt_of_block HKd4.out
  obtain ⟨cd0, cd1, fd0, fd1⟩ := cell2 HKd4.out
  refine take1 (i := 0) (v := ?v106) (some 28) rfl rfl (by kernel_rfl) (by kernel_rfl) (by kernel_rfl) (fun _ _ _ h => h) (Or.inl ⟨by rfl, ?y106⟩) (by assumption) ?r106
  case y106 => (intro w hSw; (try dsimp only at hSw); go_simp; (first | done | with_reducible rfl))
  try simp only [Act.put, List.setIfInBounds_toArray, List.set_cons_zero, List.set_cons_succ]
  refine take1 (i := 1) (v := ?v107) (some 29) rfl rfl (by kernel_rfl) (by kernel_rfl) (by kernel_rfl) (fun _ _ _ h => h) (Or.inl ⟨by rfl, ?y107⟩) (by assumption) ?r107
  case y107 => (intro w hSw; (try dsimp only at hSw); go_simp; (first | done | with_reducible rfl))
  try simp only [Act.put, List.setIfInBounds_toArray, List.set_cons_zero, List.set_cons_succ]
  refine take1 (i := 2) (v := ?v108) (some 30) rfl rfl (by kernel_rfl) (by kernel_rfl) (by kernel_rfl) (fun _ _ _ h => h) (Or.inl ⟨by rfl, ?y108⟩) (by assumption) ?r108
  case y108 => (intro w hSw; (try dsimp only at hSw); go_simp; (first | done | with_reducible rfl))
  try simp only [Act.put, List.setIfInBounds_toArray, List.set_cons_zero, List.set_cons_succ]
  refine take1 (i := 3) (v := ?v109) (some 31) rfl rfl (by kernel_rfl) (by kernel_rfl) (by kernel_rfl) (fun _ _ _ h => h) (Or.inl ⟨by rfl, ?y109⟩) (by assumption) ?r109
  case y109 => (intro w hSw; (try dsimp only at hSw); go_simp; (first | done | with_reducible rfl))
  try simp only [Act.put, List.setIfInBounds_toArray, List.set_cons_zero, List.set_cons_succ]
  refine take1 (i := 4) (v := ?v110) (some 32) rfl rfl (by kernel_rfl) (by kernel_rfl) (by kernel_rfl) (fun _ _ _ h => h) (Or.inl ⟨by rfl, ?y110⟩) (by assumption) ?r110
  case y110 => (intro w hSw; (try dsimp only at hSw); go_simp; (first | done | with_reducible rfl))
  try simp only [Act.put, List.setIfInBounds_toArray, List.set_cons_zero, List.set_cons_succ]
  refine take1 (i := 5) (v := ?v111) (some 33) rfl rfl (by kernel_rfl) (by kernel_rfl) (by kernel_rfl) (fun _ _ _ h => h) (Or.inl ⟨by rfl, ?y111⟩) (by assumption) ?r111
  case y111 => (intro w hSw; (try dsimp only at hSw); go_simp; (first | done | with_reducible rfl))
  try simp only [Act.put, List.setIfInBounds_toArray, List.set_cons_zero, List.set_cons_succ]
  refine take1 (i := 6) (v := ?v112) (some 34) rfl rfl (by kernel_rfl) (by kernel_rfl) (by kernel_rfl) (fun _ _ _ h => h) (Or.inl ⟨by rfl, ?y112⟩) (by assumption) ?r112
  case y112 => (intro w hSw; (try dsimp only at hSw); go_simp; (first | done | with_reducible rfl))
  try simp only [Act.put, List.setIfInBounds_toArray, List.set_cons_zero, List.set_cons_succ]
  refine take1 (i := 7) (v := ?v113) (some 35) rfl rfl (by kernel_rfl) (by kernel_rfl) (by kernel_rfl) (fun _ _ _ h => h) (Or.inl ⟨by rfl, ?y113⟩) (by assumption) ?r113
  case y113 => (intro w hSw; (try dsimp only at hSw); go_simp; (first | done | with_reducible rfl))
  try simp only [Act.put, List.setIfInBounds_toArray, List.set_cons_zero, List.set_cons_succ]
  refine take1 (i := 8) (v := ?v114) (some 36) rfl rfl (by kernel_rfl) (by kernel_rfl) (by kernel_rfl) (fun _ _ _ h => h) (Or.inl ⟨by rfl, ?y114⟩) (by assumption) ?r114
  case y114 => (intro w hSw; (try dsimp only at hSw); go_simp; (first | done | with_reducible rfl))
  try simp only [Act.put, List.setIfInBounds_toArray, List.set_cons_zero, List.set_cons_succ]
  refine take1 (i := 9) (v := ?v115) (some 37) rfl rfl (by kernel_rfl) (by kernel_rfl) (by kernel_rfl) (fun _ _ _ h => h) (Or.inl ⟨by rfl, ?y115⟩) (by assumption) ?r115
  case y115 => (intro w hSw; (try dsimp only at hSw); go_simp; (first | done | with_reducible rfl))
  try simp only [Act.put, List.setIfInBounds_toArray, List.set_cons_zero, List.set_cons_succ]
  refine wpAnyH_ready (rs := [10]) (by kernel_rfl) (by simp) ?_
  refine AllReadyH.cons rfl (fun K hK => ?_) AllReadyH.nil
  go_simp
  go_at_call 122
  refine (takingOf_at rs HS.out hl8 q d true _ _ (RodsR.of_own HOco4.out.rods) hqn h0 h9 ⟨fun _ => he, fun _ => rfl⟩).mono ?_
  rintro e w5 ⟨⟨o, rfl, hch⟩, hb⟩
  have HB5 : Hid (Below w.heap.size w w5) := Lib.hid (HB4.out.trans (hb.mono HB4.out.size))
  have HZ5 : Hid (w4.heap.size ≤ w5.heap.size) := Lib.hid hb.size
  have HOco5 := Lib.hid (HOco4.out.next hb)
  have HKs5 := Lib.hid ((hb.block _ (lt_of_block HKs4.out)).trans HKs4.out)
  have HKd5 := Lib.hid ((hb.block _ (lt_of_block HKd4.out)).trans HKd4.out)
  clear hb
  have hch2 := hch rfl
  rw [HL.out] at hch2
  obtain ⟨a, p', e1, hla, hbx, htl⟩ := hch2
  injection e1 with e1
  subst e1
  obtain ⟨o2, rfl⟩ := htl.form
  have HKn5 := Lib.hid (hbx)
  have HOtl5 := Lib.hid (htl)
  clear hch hla hbx htl
  clear cs0 cs1 cs2 cs3 cs4 fs0 fs1 fs2 fs3 fs4 lts cd0 cd1 fd0 fd1 ltd
  have lts := lt_of_block HKs5.out
  obtain ⟨cs0, cs1, cs2, cs3, cs4, fs0, fs1, fs2, fs3, fs4⟩ := cell5 HKs5.out
  have ltd := lt_of_block HKd5.out
  obtain ⟨cd0, cd1, fd0, fd1⟩ := cell2 HKd5.out
  have ltn := lt_of_block HKn5.out
  obtain ⟨cn0, cn1, cn2, fn0, fn1, fn2⟩ := cell3 HKn5.out
  try go_simp
  refine hK.out _ _ (⟨cs0, cs1, cs2, cd0, cd1⟩) (fun hHeld => ?_)
  clear hK K
  try simp only [Act.put, List.setIfInBounds_toArray, List.set_cons_zero, List.set_cons_succ]
  refine take1 (i := 11) (v := ?v116) (some 27) rfl rfl (by kernel_rfl) (by kernel_rfl) (by kernel_rfl) (fun _ _ _ h => h) (Or.inl ⟨by rfl, ?y116⟩) (by assumption) ?r116
  case y116 => (intro w hSw; (try dsimp only at hSw); go_simp; (first | done | with_reducible rfl))
  try simp only [Act.put, List.setIfInBounds_toArray, List.set_cons_zero, List.set_cons_succ]
  refine take1 (i := 12) (v := ?v117) (some 39) rfl rfl (by kernel_rfl) (by kernel_rfl) (by kernel_rfl) (fun _ _ _ h => h) (Or.inl ⟨by rfl, ?y117⟩) (by assumption) ?r117
  case y117 => (intro w hSw; (try dsimp only at hSw); go_simp; (first | done | with_reducible rfl))
  try simp only [Act.put, List.setIfInBounds_toArray, List.set_cons_zero, List.set_cons_succ]
  refine take1 (i := 13) (v := ?v118) (some 40) rfl rfl (by kernel_rfl) (by kernel_rfl) (by kernel_rfl) (fun _ _ _ h => h) (Or.inl ⟨by rfl, ?y118⟩) (by assumption) ?r118
  case y118 => (intro w hSw; (try dsimp only at hSw); go_simp; (first | done | with_reducible rfl))
  try simp only [Act.put, List.setIfInBounds_toArray, List.set_cons_zero, List.set_cons_succ]
  refine take1 (i := 14) (v := ?v119) (some 5) rfl rfl (by kernel_rfl) (by kernel_rfl) (by kernel_rfl) (fun _ _ _ h => h) (Or.inl ⟨by rfl, ?y119⟩) (by assumption) ?r119
  case y119 => (intro w hSw; (try dsimp only at hSw); go_simp; (first | done | with_reducible rfl))
  try simp only [Act.put, List.setIfInBounds_toArray, List.set_cons_zero, List.set_cons_succ]
  refine take1 (i := 15) (v := ?v120) (some 6) rfl rfl (by kernel_rfl) (by kernel_rfl) (by kernel_rfl) (fun _ _ _ h => h) (Or.inl ⟨by rfl, ?y120⟩) (by assumption) ?r120
  case y120 => (intro w hSw; (try dsimp only at hSw); go_simp; (first | done | with_reducible rfl))
  try simp only [Act.put, List.setIfInBounds_toArray, List.set_cons_zero, List.set_cons_succ]
  refine wpAnyH_done (by kernel_rfl) ?_ _
  go_wp2_with fail
  refine wp_region_held_drew (S := (fun u => u.cell? ⟨a, 0, none⟩ = some (.int .i64 (q : Nat)) ∧ u.cell? ⟨a, 1, none⟩ = some (.int .i64 x))) (by kernel_rfl) (⟨cn0, cn1⟩) (fun hHeld => ?_)
  have hb : Below w5.heap.size w5 w5.drew := (Below.refl _ _).drew
  generalize w5.drew = w6 at hb hHeld ⊢
  have HB6 : Hid (Below w.heap.size w w6) := Lib.hid (HB5.out.trans (hb.mono HB5.out.size))
  have HZ6 : Hid (w5.heap.size ≤ w6.heap.size) := Lib.hid hb.size
  have HOco6 := Lib.hid (HOco5.out.next hb)
  have HKs6 := Lib.hid ((hb.block _ (lt_of_block HKs5.out)).trans HKs5.out)
  have HKd6 := Lib.hid ((hb.block _ (lt_of_block HKd5.out)).trans HKd5.out)
  have HKn6 := Lib.hid ((hb.block _ (lt_of_block HKn5.out)).trans HKn5.out)
  have HOtl6 := Lib.hid (HOtl5.out.next hb)
  clear hb
  clear cs0 cs1 cs2 cs3 cs4 fs0 fs1 fs2 fs3 fs4 lts cd0 cd1 fd0 fd1 ltd cn0 cn1 cn2 fn0 fn1 fn2 ltn
  have lts := lt_of_block HKs6.out
  obtain ⟨cs0, cs1, cs2, cs3, cs4, fs0, fs1, fs2, fs3, fs4⟩ := cell5 HKs6.out
  have ltd := lt_of_block HKd6.out
  obtain ⟨cd0, cd1, fd0, fd1⟩ := cell2 HKd6.out
  have ltn := lt_of_block HKn6.out
  obtain ⟨cn0, cn1, cn2, fn0, fn1, fn2⟩ := cell3 HKn6.out
  refine take1 (i := 0) (v := ?v121) (some 43) rfl rfl (by kernel_rfl) (by kernel_rfl) (by kernel_rfl) (fun _ _ _ h => h) (Or.inl ⟨by rfl, ?y121⟩) (by assumption) ?r121
  case y121 => (intro w hSw; (try dsimp only at hSw); go_simp; (first | done | with_reducible rfl))
  try simp only [Act.put, List.setIfInBounds_toArray, List.set_cons_zero, List.set_cons_succ]
  refine take1 (i := 1) (v := ?v122) (some 44) rfl rfl (by kernel_rfl) (by kernel_rfl) (by kernel_rfl) (fun _ _ _ h => h) (Or.inl ⟨by rfl, ?y122⟩) (by assumption) ?r122
  case y122 => (intro w hSw; (try dsimp only at hSw); go_simp; (first | done | with_reducible rfl))
  try simp only [Act.put, List.setIfInBounds_toArray, List.set_cons_zero, List.set_cons_succ]
  refine take1 (i := 2) (v := ?v123) (some 45) rfl rfl (by kernel_rfl) (by kernel_rfl) (by kernel_rfl) (fun _ _ _ h => h) (Or.inl ⟨by rfl, ?y123⟩) (by assumption) ?r123
  case y123 => (intro w hSw; (try dsimp only at hSw); go_simp; (first | done | with_reducible rfl))
  try simp only [Act.put, List.setIfInBounds_toArray, List.set_cons_zero, List.set_cons_succ]
  refine take1 (i := 3) (v := ?v124) (some 46) rfl rfl (by kernel_rfl) (by kernel_rfl) (by kernel_rfl) (fun _ _ _ h => h) (Or.inl ⟨by rfl, ?y124⟩) (by assumption) ?r124
  case y124 => (intro w hSw; (try dsimp only at hSw); go_simp; (first | done | with_reducible rfl))
  try simp only [Act.put, List.setIfInBounds_toArray, List.set_cons_zero, List.set_cons_succ]
  refine take1 (i := 4) (v := ?v125) (some 47) rfl rfl (by kernel_rfl) (by kernel_rfl) (by kernel_rfl) (fun _ _ _ h => h) (Or.inl ⟨by rfl, ?y125⟩) (by assumption) ?r125
  case y125 => (intro w hSw; (try dsimp only at hSw); go_simp; (first | done | with_reducible rfl))
  try simp only [Act.put, List.setIfInBounds_toArray, List.set_cons_zero, List.set_cons_succ]
  refine take1 (i := 5) (v := ?v126) (some 48) rfl rfl (by kernel_rfl) (by kernel_rfl) (by kernel_rfl) (fun _ _ _ h => h) (Or.inl ⟨by rfl, ?y126⟩) (by assumption) ?r126
  case y126 => (intro w hSw; (try dsimp only at hSw); go_simp; (first | done | with_reducible rfl))
  try simp only [Act.put, List.setIfInBounds_toArray, List.set_cons_zero, List.set_cons_succ]
  refine take1 (i := 6) (v := ?v127) (some 49) rfl rfl (by kernel_rfl) (by kernel_rfl) (by kernel_rfl) (fun _ _ _ h => h) (Or.inl ⟨by rfl, ?y127⟩) (by assumption) ?r127
  case y127 => (intro w hSw; (try dsimp only at hSw); go_simp; (first | done | with_reducible rfl))
  try simp only [Act.put, List.setIfInBounds_toArray, List.set_cons_zero, List.set_cons_succ]
  refine take1 (i := 7) (v := ?v128) (some 50) rfl rfl (by kernel_rfl) (by kernel_rfl) (by kernel_rfl) (fun _ _ _ h => h) (Or.inl ⟨by rfl, ?y128⟩) (by assumption) ?r128
  case y128 => (intro w hSw; (try dsimp only at hSw); go_simp; (first | done | with_reducible rfl))
  try simp only [Act.put, List.setIfInBounds_toArray, List.set_cons_zero, List.set_cons_succ]
  refine take1 (i := 8) (v := ?v129) (some 51) rfl rfl (by kernel_rfl) (by kernel_rfl) (by kernel_rfl) (fun _ _ _ h => h) (Or.inl ⟨by rfl, ?y129⟩) (by assumption) ?r129
  case y129 => (intro w hSw; (try dsimp only at hSw); go_simp; (first | done | with_reducible rfl))
  try simp only [Act.put, List.setIfInBounds_toArray, List.set_cons_zero, List.set_cons_succ]
  refine take1 (i := 9) (v := ?v130) (some 52) rfl rfl (by kernel_rfl) (by kernel_rfl) (by kernel_rfl) (fun _ _ _ h => h) (Or.inl ⟨by rfl, ?y130⟩) (by assumption) ?r130
  case y130 => (intro w hSw; (try dsimp only at hSw); go_simp; (first | done | with_reducible rfl))
  try simp only [Act.put, List.setIfInBounds_toArray, List.set_cons_zero, List.set_cons_succ]
  refine take1 (i := 10) (v := ?v131) (some 53) rfl rfl (by kernel_rfl) (by kernel_rfl) (by kernel_rfl) (fun _ _ _ h => h) (Or.inl ⟨by rfl, ?y131⟩) (by assumption) ?r131
  case y131 => (intro w hSw; (try dsimp only at hSw); go_simp; (first | done | with_reducible rfl))
  try simp only [Act.put, List.setIfInBounds_toArray, List.set_cons_zero, List.set_cons_succ]
  refine wpAnyH_ready (rs := [11]) (by kernel_rfl) (by simp) ?_
  refine AllReadyH.cons rfl (fun K hK => ?_) AllReadyH.nil
  go_simp
  go_at_call 120
  refine (coSet_any B A mg mc up lo _ rs ms _ _ q x _ HOco6.out HG.out HS.out hqn hx0 hx9 (by omega)).mono ?_
  rintro e w9 ⟨rfl, ⟨sv9, mg9, mc9, ha⟩, hb, hk⟩
  have HA9 := Lib.hid ha
  have HT9 : Hid (TkCh w9 _ (.pointer o2) t) := Lib.hid (HOtl6.out.set HOco6.out hk)
  obtain ⟨q1, q2, q3⟩ := tk_apart HOco6.out HKn6.out
  have HN9 := Lib.hid ((hk a q1 q2 q3).trans HKn6.out)
  have HB9 : Hid (Below B w w9) := Lib.hid ((HB6.out.mono HBB.out).trans hb)
  clear ha hb hk q1 q2 q3
  clear cs0 fs0 cs1 fs1 cs2 fs2 cs3 fs3 cs4 fs4 cd0 fd0 cd1 fd1 cn0 fn0 cn1 fn1 cn2 fn2
  obtain ⟨cn0, cn1, cn2, -, -, -⟩ := cell3 HN9.out
  try go_simp
  refine hK.out _ _ (⟨cn0, cn1⟩) (fun hHeld => ?_)
  clear hK K
  try simp only [Act.put, List.setIfInBounds_toArray, List.set_cons_zero, List.set_cons_succ]
  refine wpAnyH_done (by kernel_rfl) ?_ _
  go_wp2_with fail
  go_loopw [7] (fun tv wr => ∃ (o' : Option Addr) (L' : List (Nat × Int)) (rs' : List (Int × Int)) (ms' : List Mv) (c' : Int) (sv' : Value) (mg' mc' lb : Nat), tv = .pointer o' ∧ CoAt B wr A 67 [.int .i64 c'] up lo sv' mg' mc' rs' ms' ∧ TkCh wr lb (.pointer o') L' ∧ Below B w wr ∧ RuAt rs.length RT MT CT L' rs' ms' c') (fun _ wr => (CT - cellI wr ⟨A, 4, none⟩).toNat)
  case atStart => exact ⟨o2, t, _, _, c, sv9, mg9, mc9, _, rfl, HA9.out, HT9.out, HB9.out, HRU.out⟩
  case round =>
    obtain ⟨o', L', rs', ms', c', sv', mg', mc', lb, rfl, ha, ht, hb, hru⟩ := hrel
    have HA0 := Lib.hid ha
    have HT0 := Lib.hid ht
    have HB0 := Lib.hid hb
    have HR0 := Lib.hid hru
    clear ha ht hb hru cn0 cn1 cn2
    cases L' with
    | nil =>
      have e0 : Value.pointer o' = .pointer none := HT0.out
      injection e0 with e0
      subst e0
      have e1 : rs' = RT := HR0.out.rT
      have e2 : ms' = MT := by have := HR0.out.mT; simp only [setM, List.append_nil] at this; exact this
      have e3 : c' = CT := by have := HR0.out.cT; simp at this; exact this
      subst e1 e2 e3
      go_wp2_with fail
      go_ret
      exact ⟨rfl, ⟨_, _, _, HA0.out⟩, HB0.out⟩
    | cons hd t' =>
      obtain ⟨k, y⟩ := hd
      obtain ⟨b, p', e1, hla, hbx, htl⟩ := HT0.out
      injection e1 with e1
      subst e1
      obtain ⟨o3, rfl⟩ := htl.form
      have HN0 := Lib.hid hbx
      have HL0 := Lib.hid htl
      have hkb := HR0.out.bd (k, y) (List.mem_cons_self ..)
      have hkn : k < rs'.length := by rw [HR0.out.len]; exact hkb.1
      have hy0 : 0 ≤ y := hkb.2.1
      have hy9 : y ≤ 9 := hkb.2.2
      have hcT := HR0.out.cT
      have hc0 := HR0.out.c0
      rw [List.length_cons] at hcT
      have hwc : IntKind.i64.wrap (c' + 1) = c' + 1 := by rw [IntKind.wrap_i64]; omega
      have hclt : c' < CT := by omega
      have HCT := Lib.hid hcT
      have hcA := cellI_of (cell5 HA0.out.box).2.2.2.2.1
      have HCA := Lib.hid hcA
      clear hla hbx htl hkb hcT HT0 hcA
      obtain ⟨cs0, cs1, cs2, cs3, cs4, fs0, fs1, fs2, fs3, fs4⟩ := cell5 HA0.out.box
      have hAlt := HA0.out.lt
      go_wp2_with fail
      have ha1 := HA0.out.setC (.int .i64 (c' + 1))
      obtain ⟨q1, q2, q3⟩ := tk_apart HA0.out HN0.out
      have hn1 := (Below.heap_setCell wr ⟨A, 4, none⟩ (.int .i64 (c' + 1)) b q2).trans HN0.out
      have hl1 : TkCh (wr.setCell ⟨A, 4, none⟩ (.int .i64 (c' + 1))) lb (.pointer o3) t' := HL0.out.set HA0.out (fun g _ h2 _ => Below.heap_setCell wr ⟨A, 4, none⟩ _ g h2)
      have hb1 := HB0.out.setCell (p := ⟨A, 4, none⟩) HA0.out.ord (.int .i64 (c' + 1))
      clear cs0 cs1 cs2 cs3 cs4 fs0 fs1 fs2 fs3 fs4 hAlt q1 q2 q3
      generalize wr.setCell ⟨A, 4, none⟩ (.int .i64 (c' + 1)) = u1 at ha1 hn1 hl1 hb1 ⊢
      obtain ⟨cn0, cn1, cn2, -, -, -⟩ := cell3 hn1
      refine wp_region_held_drew (S := (fun u => u.cell? ⟨b, 0, none⟩ = some (.int .i64 (k : Nat)) ∧ u.cell? ⟨b, 1, none⟩ = some (.int .i64 y))) (by kernel_rfl) (⟨cn0, cn1⟩) (fun hHeld => ?_)
      have hb2 : Below u1.heap.size u1 u1.drew := (Below.refl _ _).drew
      generalize u1.drew = u2 at hb2 hHeld ⊢
      have HA2 := Lib.hid (ha1.next hb2)
      have HN2 := Lib.hid ((hb2.block _ (lt_of_block hn1)).trans hn1)
      have HL2 := Lib.hid (hl1.next hb2)
      have HB2 : Hid (Below B w u2) := Lib.hid (hb1.trans (hb2.mono (by have := ha1.ord; have := ha1.lt; omega)))
      clear ha1 hn1 hl1 hb1 hb2 cn0 cn1 cn2
      refine take1 (i := 0) (v := ?v132) (some 72) rfl rfl (by kernel_rfl) (by kernel_rfl) (by kernel_rfl) (fun _ _ _ h => h) (Or.inl ⟨by rfl, ?y132⟩) (by assumption) ?r132
      case y132 => (intro w hSw; (try dsimp only at hSw); go_simp; (first | done | with_reducible rfl))
      try simp only [Act.put, List.setIfInBounds_toArray, List.set_cons_zero, List.set_cons_succ]
      refine take1 (i := 1) (v := ?v133) (some 73) rfl rfl (by kernel_rfl) (by kernel_rfl) (by kernel_rfl) (fun _ _ _ h => h) (Or.inl ⟨by rfl, ?y133⟩) (by assumption) ?r133
      case y133 => (intro w hSw; (try dsimp only at hSw); go_simp; (first | done | with_reducible rfl))
      try simp only [Act.put, List.setIfInBounds_toArray, List.set_cons_zero, List.set_cons_succ]
      refine take1 (i := 2) (v := ?v134) (some 74) rfl rfl (by kernel_rfl) (by kernel_rfl) (by kernel_rfl) (fun _ _ _ h => h) (Or.inl ⟨by rfl, ?y134⟩) (by assumption) ?r134
      case y134 => (intro w hSw; (try dsimp only at hSw); go_simp; (first | done | with_reducible rfl))
      try simp only [Act.put, List.setIfInBounds_toArray, List.set_cons_zero, List.set_cons_succ]
      refine take1 (i := 3) (v := ?v135) (some 75) rfl rfl (by kernel_rfl) (by kernel_rfl) (by kernel_rfl) (fun _ _ _ h => h) (Or.inl ⟨by rfl, ?y135⟩) (by assumption) ?r135
      case y135 => (intro w hSw; (try dsimp only at hSw); go_simp; (first | done | with_reducible rfl))
      try simp only [Act.put, List.setIfInBounds_toArray, List.set_cons_zero, List.set_cons_succ]
      refine take1 (i := 4) (v := ?v136) (some 76) rfl rfl (by kernel_rfl) (by kernel_rfl) (by kernel_rfl) (fun _ _ _ h => h) (Or.inl ⟨by rfl, ?y136⟩) (by assumption) ?r136
      case y136 => (intro w hSw; (try dsimp only at hSw); go_simp; (first | done | with_reducible rfl))
      try simp only [Act.put, List.setIfInBounds_toArray, List.set_cons_zero, List.set_cons_succ]
      refine take1 (i := 5) (v := ?v137) (some 77) rfl rfl (by kernel_rfl) (by kernel_rfl) (by kernel_rfl) (fun _ _ _ h => h) (Or.inl ⟨by rfl, ?y137⟩) (by assumption) ?r137
      case y137 => (intro w hSw; (try dsimp only at hSw); go_simp; (first | done | with_reducible rfl))
      try simp only [Act.put, List.setIfInBounds_toArray, List.set_cons_zero, List.set_cons_succ]
      refine take1 (i := 6) (v := ?v138) (some 78) rfl rfl (by kernel_rfl) (by kernel_rfl) (by kernel_rfl) (fun _ _ _ h => h) (Or.inl ⟨by rfl, ?y138⟩) (by assumption) ?r138
      case y138 => (intro w hSw; (try dsimp only at hSw); go_simp; (first | done | with_reducible rfl))
      try simp only [Act.put, List.setIfInBounds_toArray, List.set_cons_zero, List.set_cons_succ]
      refine take1 (i := 7) (v := ?v139) (some 79) rfl rfl (by kernel_rfl) (by kernel_rfl) (by kernel_rfl) (fun _ _ _ h => h) (Or.inl ⟨by rfl, ?y139⟩) (by assumption) ?r139
      case y139 => (intro w hSw; (try dsimp only at hSw); go_simp; (first | done | with_reducible rfl))
      try simp only [Act.put, List.setIfInBounds_toArray, List.set_cons_zero, List.set_cons_succ]
      refine take1 (i := 8) (v := ?v140) (some 80) rfl rfl (by kernel_rfl) (by kernel_rfl) (by kernel_rfl) (fun _ _ _ h => h) (Or.inl ⟨by rfl, ?y140⟩) (by assumption) ?r140
      case y140 => (intro w hSw; (try dsimp only at hSw); go_simp; (first | done | with_reducible rfl))
      try simp only [Act.put, List.setIfInBounds_toArray, List.set_cons_zero, List.set_cons_succ]
      refine take1 (i := 9) (v := ?v141) (some 81) rfl rfl (by kernel_rfl) (by kernel_rfl) (by kernel_rfl) (fun _ _ _ h => h) (Or.inl ⟨by rfl, ?y141⟩) (by assumption) ?r141
      case y141 => (intro w hSw; (try dsimp only at hSw); go_simp; (first | done | with_reducible rfl))
      try simp only [Act.put, List.setIfInBounds_toArray, List.set_cons_zero, List.set_cons_succ]
      refine take1 (i := 10) (v := ?v142) (some 82) rfl rfl (by kernel_rfl) (by kernel_rfl) (by kernel_rfl) (fun _ _ _ h => h) (Or.inl ⟨by rfl, ?y142⟩) (by assumption) ?r142
      case y142 => (intro w hSw; (try dsimp only at hSw); go_simp; (first | done | with_reducible rfl))
      try simp only [Act.put, List.setIfInBounds_toArray, List.set_cons_zero, List.set_cons_succ]
      refine wpAnyH_ready (rs := [11]) (by kernel_rfl) (by simp) ?_
      refine AllReadyH.cons rfl (fun K hK => ?_) AllReadyH.nil
      go_simp
      go_at_call 120
      have hms1 := HR0.out.short
      refine (coSet_any B A mg' mc' up lo _ rs' ms' _ _ k y _ HA2.out (stdF_good HR0.out.std HDM.out.1 HDM.out.2.1 (by rw [HR0.out.len]; exact HDM.out.2.2)) HR0.out.std hkn hy0 hy9 (by omega)).mono ?_
      rintro e u3 ⟨rfl, ⟨sv3, mg3, mc3, ha⟩, hb, hk⟩
      have HA3 := Lib.hid ha
      have HL3 := Lib.hid (HL2.out.set HA2.out hk)
      obtain ⟨q1, q2, q3⟩ := tk_apart HA2.out HN2.out
      have HN3 := Lib.hid ((hk b q1 q2 q3).trans HN2.out)
      have HB3 := Lib.hid (HB2.out.trans hb)
      clear ha hb hk q1 q2 q3 hms1
      obtain ⟨cn0, cn1, cn2, -, -, -⟩ := cell3 HN3.out
      try go_simp
      refine hK.out _ _ (⟨cn0, cn1⟩) (fun hHeld => ?_)
      clear hK K
      try simp only [Act.put, List.setIfInBounds_toArray, List.set_cons_zero, List.set_cons_succ]
      refine wpAnyH_done (by kernel_rfl) ?_ _
      have hc3 := cellI_of (cell5 HA3.out.box).2.2.2.2.1
      have HC3 := Lib.hid hc3
      clear hc3
      go_wp2_with fail
      go_roundw
      case rel => exact ⟨o3, t', _, _, c' + 1, sv3, mg3, mc3, lb, rfl, HA3.out, HL3.out, HB3.out, HR0.out.step⟩
      case measure => rw [HC3.out, HCA.out]; omega
end Go.Proofs.Ytjkjaadcdolbhaa
