/- The model's PlayMoves. -/
import Derived.Test.YtpdckmhhmgkaaaaMmake
import Derived.Deep.RegionLaw
namespace Go.Proofs.Ytpdckmhhmgkaaaa
set_option linter.unusedVariables false
open Go.RowKit

open Classical in
noncomputable def stepO (up lo : Int) (rs : List (Int × Int)) (m : Mv) : Option (List (Int × Int)) := if m.rod < rs.length ∧ goodF up lo (movF rs m) then some (movF rs m) else none
noncomputable def playO (up lo : Int) (rs : List (Int × Int)) (ms : List Mv) : Option (List (Int × Int)) := ms.foldl (fun o m => o.bind fun r => stepO up lo r m) (some rs)
theorem stepO_mk (up lo : Int) (rs : List (Int × Int)) (m : Mv) (fu fl : Int) (qs : List (Int × Int)) (t : Bool) (h : MkF up lo rs m fu fl qs t) : (t = true → fu = up ∧ fl = lo ∧ goodF up lo qs ∧ stepO up lo rs m = some qs) ∧ (t = false → fu = 0 ∧ fl = 0 ∧ qs = [] ∧ stepO up lo rs m = none) := by
  unfold stepO
  rcases h with ⟨h1, h2, rfl, rfl, rfl, rfl⟩ | ⟨h0, rfl, rfl, rfl, rfl⟩
  · exact ⟨fun _ => ⟨rfl, rfl, h2, by rw [if_pos ⟨h1, h2⟩]⟩, fun h => by simp at h⟩
  · exact ⟨fun h => by simp at h, fun _ => ⟨rfl, rfl, rfl, by rw [if_neg h0]⟩⟩
theorem playO_snoc (up lo : Int) (rs : List (Int × Int)) (ms : List Mv) (k : Nat) (h : k < ms.length) : playO up lo rs (ms.take (k + 1)) = (playO up lo rs (ms.take k)).bind fun r => stepO up lo r ms[k] := by
  unfold playO; rw [List.take_succ_eq_append_getElem h, List.foldl_append]; rfl
theorem play_none (up lo : Int) (ms : List Mv) : ms.foldl (fun o m => o.bind fun r => stepO up lo r m) none = none := by
  induction ms with
  | nil => rfl
  | cons m t ih => exact ih
theorem playO_none (up lo : Int) (rs : List (Int × Int)) (ms : List Mv) (k : Nat) (h : playO up lo rs (ms.take k) = none) : playO up lo rs ms = none := by
  have : playO up lo rs ms = (ms.drop k).foldl (fun o m => o.bind fun r => stepO up lo r m) (playO up lo rs (ms.take k)) := by
    unfold playO; rw [← List.foldl_append, List.take_append_drop]
  rw [this, h, play_none]
/-- PlayMoves: the answer. -/
def PlF (up lo : Int) (rs : List (Int × Int)) (ms : List Mv) (fu fl : Int) (qs : List (Int × Int)) (t : Bool) : Prop :=
  (goodF up lo rs ∧ okMs ms ∧ playO up lo rs ms = some qs ∧ goodF up lo qs ∧ fu = up ∧ fl = lo ∧ t = true) ∨ (¬ (goodF up lo rs ∧ okMs ms ∧ playO up lo rs ms ≠ none) ∧ fu = 0 ∧ fl = 0 ∧ qs = [] ∧ t = false)
theorem playO_good (up lo : Int) (rs : List (Int × Int)) (ms : List Mv) (hg : goodF up lo rs) : ∀ k, k ≤ ms.length → ∀ qs, playO up lo rs (ms.take k) = some qs → goodF up lo qs := by
  intro k
  induction k with
  | zero => intro _ qs h; unfold playO at h; simp at h; subst h; exact hg
  | succ k ih =>
    intro hk qs h
    rw [playO_snoc up lo rs ms k (by omega)] at h
    cases hp : playO up lo rs (ms.take k) with
    | none => rw [hp] at h; simp at h
    | some r =>
      rw [hp] at h
      simp only [Option.bind_some] at h
      unfold stepO at h
      split at h
      · injection h with h; subst h; rename_i hh; exact hh.2
      · simp at h
theorem plF_or (up lo : Int) (rs : List (Int × Int)) (ms : List Mv) : ∃ fu fl qs t, PlF up lo rs ms fu fl qs t := by
  by_cases h : goodF up lo rs ∧ okMs ms ∧ playO up lo rs ms ≠ none
  · cases hp : playO up lo rs ms with
    | none => exact absurd hp h.2.2
    | some qs => exact ⟨up, lo, qs, true, .inl ⟨h.1, h.2.1, hp, playO_good up lo rs ms h.1 ms.length (Nat.le_refl _) qs (by rwa [List.take_length]), rfl, rfl, rfl⟩⟩
  · exact ⟨0, 0, [], false, .inr ⟨h, rfl, rfl, rfl, rfl⟩⟩
theorem plF_len {up lo : Int} {rs : List (Int × Int)} {ms : List Mv} {fu fl : Int} {qs : List (Int × Int)} {t : Bool} (h : PlF up lo rs ms fu fl qs t) : qs.length ≤ 8 := by
  rcases h with ⟨_, _, _, h, _⟩ | ⟨_, _, _, rfl, _⟩
  · exact h.2.2.2.2
  · simp

theorem box3_set {w : World} {g : Nat} {a b c : Value} {T : TypeId} (h : w.heap[g]? = some (.cells #[a, b, c] T (0, 0))) (x y z : Value) :
    (((w.setCell ⟨g, 0, none⟩ x).setCell ⟨g, 1, none⟩ y).setCell ⟨g, 2, none⟩ z).heap[g]? = some (.cells #[x, y, z] T (0, 0)) := by
  have h1 := heap_setCell_same w g 0 _ _ x h
  have h2 := heap_setCell_same _ g 1 _ _ y h1
  have h3 := heap_setCell_same _ g 2 _ _ z h2
  simpa using h3

set_option maxRecDepth 100000 in
set_option maxHeartbeats 6400000 in
theorem specPlay_in (up lo : Int) (s1 : Value) (rs : List (Int × Int)) (s2 : Value) (ms : List Mv) (w : World) (h1 : RodsR w s1 rs) (h2 : RowsR 3 mvC w s2 ms) (hg : goodF up lo rs) (hm : okMs ms) (fu fl : Int) (qs : List (Int × Int)) (t : Bool)
    (hk : (playO up lo rs ms = some qs ∧ fu = up ∧ fl = lo ∧ t = true) ∨ (playO up lo rs ms = none ∧ fu = 0 ∧ fl = 0 ∧ qs = [] ∧ t = false)) :
    Calls Try.prog 30 #[.agg #[.int .i64 up, .int .i64 lo, s1], s2] w fun e w' => (∃ sq, e = .returned (.tuple #[.agg #[.int .i64 fu, .int .i64 fl, sq], .bool t]) ∧ w'.ownsRow w.heap.size 74 2 sq qs.length (flat qs)) ∧ Below w.heap.size w w' := by
  obtain ⟨a1, c1, rfl⟩ : ∃ a c, s1 = .slice a rs.length c := by obtain ⟨a, c, e, _⟩ := h1; exact ⟨a, c, e⟩
  have h60 := hm.2
  have hlen : 0 < rs.length ∧ rs.length ≤ 8 := by have := hg.2.2.2; omega
  have HH := Lib.hid h2
  obtain ⟨a2, c2, rfl⟩ := h2.form
  have R1 := Lib.hid h2.at
  have HG := Lib.hid hg
  have HM := Lib.hid hm
  have HK := Lib.hid hk
  have HB0 : Hid (Below w.heap.size w w) := Lib.hid (Below.refl _ _)
  have HRf0 := Lib.hid (h1)
  have HRg0 := Lib.hid (h2)
  clear h1 h2 hg hm hk
  go_enter Try.func30, Try.ntmps30
  go_wp2_with fail
  have hb : Below w.heap.size w (w.alloc (.cells #[.int .i64 up, .int .i64 lo, .slice a1 rs.length c1] 28)) := (Below.refl _ _).alloc (Nat.le_refl _) _
  have hk : (w.alloc (.cells #[.int .i64 up, .int .i64 lo, .slice a1 rs.length c1] 28)).heap[w.heap.size]? = some (.cells #[.int .i64 up, .int .i64 lo, .slice a1 rs.length c1] 28 (0, 0)) := alloc_at rfl
  have hz : (w.alloc (.cells #[.int .i64 up, .int .i64 lo, .slice a1 rs.length c1] 28)).heap.size = w.heap.size + 1 := by simp
  generalize w.alloc (.cells #[.int .i64 up, .int .i64 lo, .slice a1 rs.length c1] 28) = w1 at hb hk hz ⊢
  have HB1 : Hid (Below w.heap.size w w1) := Lib.hid (HB0.out.trans (hb.mono HB0.out.size))
  have HZ1 : Hid (w.heap.size ≤ w1.heap.size) := Lib.hid hb.size
  have HRf1 := Lib.hid (HRf0.out.below HB1.out (Nat.le_refl _))
  have HRg1 := Lib.hid (HRg0.out.below HB1.out (Nat.le_refl _))
  have HKf1 := Lib.hid hk
  replace HZ1 : Hid (w.heap.size < w1.heap.size) := Lib.hid (by omega)
  have HE1 := Lib.hid hz
  clear hb hk hz
  have hb : Below w1.heap.size w1 (w1.alloc (.cells #[.int .i64 0, .int .i64 0, .slice none 0 0] 28)) := (Below.refl _ _).alloc (Nat.le_refl _) _
  have hk : (w1.alloc (.cells #[.int .i64 0, .int .i64 0, .slice none 0 0] 28)).heap[w.heap.size + 1]? = some (.cells #[.int .i64 0, .int .i64 0, .slice none 0 0] 28 (0, 0)) := alloc_at (by have := HE1.out; omega)
  have hz : (w1.alloc (.cells #[.int .i64 0, .int .i64 0, .slice none 0 0] 28)).heap.size = w1.heap.size + 1 := by simp
  generalize w1.alloc (.cells #[.int .i64 0, .int .i64 0, .slice none 0 0] 28) = w2 at hb hk hz ⊢
  have HB2 : Hid (Below w.heap.size w w2) := Lib.hid (HB1.out.trans (hb.mono HB1.out.size))
  have HZ2 : Hid (w1.heap.size ≤ w2.heap.size) := Lib.hid hb.size
  have HRf2 := Lib.hid (HRf0.out.below HB2.out (Nat.le_refl _))
  have HRg2 := Lib.hid (HRg0.out.below HB2.out (Nat.le_refl _))
  have HKf2 := Lib.hid ((hb.block _ (lt_of_block HKf1.out)).trans HKf1.out)
  have HKz2 := Lib.hid hk
  replace HZ2 : Hid (w1.heap.size < w2.heap.size) := Lib.hid (by omega)
  have HE2 := Lib.hid hz
  clear hb hk hz
  have ltf := lt_of_block HKf2.out
  obtain ⟨cf0, cf1, cf2, ff0, ff1, ff2⟩ := cell3 HKf2.out
  have ltz := lt_of_block HKz2.out
  obtain ⟨cz0, cz1, cz2, fz0, fz1, fz2⟩ := cell3 HKz2.out
  refine (l2Good_yes _ _ _ _ _ HRf2.out HG.out).mono ?_
  rintro e w3 ⟨rfl, hb⟩
  have HB3 : Hid (Below w.heap.size w w3) := Lib.hid (HB2.out.trans (hb.mono HB2.out.size))
  have HZ3 : Hid (w2.heap.size ≤ w3.heap.size) := Lib.hid hb.size
  have HRf3 := Lib.hid (HRf0.out.below HB3.out (Nat.le_refl _))
  have HRg3 := Lib.hid (HRg0.out.below HB3.out (Nat.le_refl _))
  have HKf3 := Lib.hid ((hb.block _ (lt_of_block HKf2.out)).trans HKf2.out)
  have HKz3 := Lib.hid ((hb.block _ (lt_of_block HKz2.out)).trans HKz2.out)
  clear hb
  clear cf0 cf1 cf2 ff0 ff1 ff2 ltf cz0 cz1 cz2 fz0 fz1 fz2 ltz
  have ltf := lt_of_block HKf3.out
  obtain ⟨cf0, cf1, cf2, ff0, ff1, ff2⟩ := cell3 HKf3.out
  have ltz := lt_of_block HKz3.out
  obtain ⟨cz0, cz1, cz2, fz0, fz1, fz2⟩ := cell3 HKz3.out
  go_wp2_with fail
  refine (l4Good_any _ ms _ HRg3.out true ⟨fun _ => HM.out, fun _ => rfl⟩).mono ?_
  rintro e w4 ⟨rfl, hb⟩
  have HB4 : Hid (Below w.heap.size w w4) := Lib.hid (HB3.out.trans (hb.mono HB3.out.size))
  have HZ4 : Hid (w3.heap.size ≤ w4.heap.size) := Lib.hid hb.size
  have HRf4 := Lib.hid (HRf0.out.below HB4.out (Nat.le_refl _))
  have HRg4 := Lib.hid (HRg0.out.below HB4.out (Nat.le_refl _))
  have HKf4 := Lib.hid ((hb.block _ (lt_of_block HKf3.out)).trans HKf3.out)
  have HKz4 := Lib.hid ((hb.block _ (lt_of_block HKz3.out)).trans HKz3.out)
  clear hb
  clear cf0 cf1 cf2 ff0 ff1 ff2 ltf cz0 cz1 cz2 fz0 fz1 fz2 ltz
  have ltf := lt_of_block HKf4.out
  obtain ⟨cf0, cf1, cf2, ff0, ff1, ff2⟩ := cell3 HKf4.out
  have ltz := lt_of_block HKz4.out
  obtain ⟨cz0, cz1, cz2, fz0, fz1, fz2⟩ := cell3 HKz4.out
  go_wp2_with fail
  refine (l2Own_any up lo _ rs _ HRf4.out ⟨hlen.1, by omega⟩).mono ?_
  rintro e w5 ⟨⟨v, rfl, ho⟩, hb⟩
  have HB5 : Hid (Below w.heap.size w w5) := Lib.hid (HB4.out.trans (hb.mono HB4.out.size))
  have HZ5 : Hid (w4.heap.size ≤ w5.heap.size) := Lib.hid hb.size
  have HRf5 := Lib.hid (HRf0.out.below HB5.out (Nat.le_refl _))
  have HRg5 := Lib.hid (HRg0.out.below HB5.out (Nat.le_refl _))
  have HKf5 := Lib.hid ((hb.block _ (lt_of_block HKf4.out)).trans HKf4.out)
  have HKz5 := Lib.hid ((hb.block _ (lt_of_block HKz4.out)).trans HKz4.out)
  clear hb
  obtain ⟨pv, kv, rfl⟩ := own_form ho
  have HOv5 := Lib.hid (Ow.mk' ho)
  clear ho
  clear cf0 cf1 cf2 ff0 ff1 ff2 ltf cz0 cz1 cz2 fz0 fz1 fz2 ltz
  have ltf := lt_of_block HKf5.out
  obtain ⟨cf0, cf1, cf2, ff0, ff1, ff2⟩ := cell3 HKf5.out
  have ltz := lt_of_block HKz5.out
  obtain ⟨cz0, cz1, cz2, fz0, fz1, fz2⟩ := cell3 HKz5.out
  go_wp2_with fail
  have hb : Below w5.heap.size w5 (w5.alloc (.cells #[.int .i64 up, .int .i64 lo, .slice pv rs.length kv] 28)) := (Below.refl _ _).alloc (Nat.le_refl _) _
  have hk : (w5.alloc (.cells #[.int .i64 up, .int .i64 lo, .slice pv rs.length kv] 28)).heap[w5.heap.size]? = some (.cells #[.int .i64 up, .int .i64 lo, .slice pv rs.length kv] 28 (0, 0)) := alloc_at rfl
  have hz : (w5.alloc (.cells #[.int .i64 up, .int .i64 lo, .slice pv rs.length kv] 28)).heap.size = w5.heap.size + 1 := by simp
  generalize w5.alloc (.cells #[.int .i64 up, .int .i64 lo, .slice pv rs.length kv] 28) = w6 at hb hk hz ⊢
  have HB6 : Hid (Below w.heap.size w w6) := Lib.hid (HB5.out.trans (hb.mono HB5.out.size))
  have HZ6 : Hid (w5.heap.size ≤ w6.heap.size) := Lib.hid hb.size
  have HRf6 := Lib.hid (HRf0.out.below HB6.out (Nat.le_refl _))
  have HRg6 := Lib.hid (HRg0.out.below HB6.out (Nat.le_refl _))
  have HKf6 := Lib.hid ((hb.block _ (lt_of_block HKf5.out)).trans HKf5.out)
  have HKz6 := Lib.hid ((hb.block _ (lt_of_block HKz5.out)).trans HKz5.out)
  have HOv6 := Lib.hid (HOv5.out.next hb)
  have HKo6 := Lib.hid hk
  replace HZ6 : Hid (w5.heap.size < w6.heap.size) := Lib.hid (by omega)
  have HE6 := Lib.hid hz
  clear hb hk hz
  clear cf0 cf1 cf2 ff0 ff1 ff2 ltf cz0 cz1 cz2 fz0 fz1 fz2 ltz
  have ltf := lt_of_block HKf6.out
  obtain ⟨cf0, cf1, cf2, ff0, ff1, ff2⟩ := cell3 HKf6.out
  have ltz := lt_of_block HKz6.out
  obtain ⟨cz0, cz1, cz2, fz0, fz1, fz2⟩ := cell3 HKz6.out
  have lto := lt_of_block HKo6.out
  obtain ⟨co0, co1, co2, fo0, fo1, fo2⟩ := cell3 HKo6.out
  have hob := HE6.out
  have hz45 := HZ5.out
  go_wp2_with fail
  go_loopw [7, 8] (fun ok i wr => ∃ (k : Nat) (rk : List (Int × Int)) (sa : Option Addr) (sc : Nat) (lo' hi' : Nat), k ≤ ms.length ∧ i = .int .i64 k ∧ ok = .bool true ∧ Hid (playO up lo rs (ms.take k) = some rk) ∧ Hid (goodF up lo rk) ∧ wr.heap[w5.heap.size]? = some (.cells #[.int .i64 up, .int .i64 lo, .slice sa rk.length sc] 28 (0, 0)) ∧ wr.heap[w.heap.size + 1]? = some (.cells #[.int .i64 0, .int .i64 0, .slice none 0 0] 28 (0, 0)) ∧ Ow lo' hi' wr 74 2 (.slice sa rk.length sc) rk.length (flat rk) ∧ (w4.heap.size ≤ lo' ∧ (hi' ≤ w5.heap.size ∨ w5.heap.size + 1 ≤ lo')) ∧ Below w.heap.size w wr ∧ w6.heap.size ≤ wr.heap.size) (fun _ i _ => ms.length - (intOf i).toNat)
  case atStart => exact ⟨0, rs, pv, kv, w4.heap.size, w5.heap.size, Nat.zero_le _, rfl, rfl, Lib.hid rfl, Lib.hid HG.out, HKo6.out, HKz6.out, HOv6.out, ⟨Nat.le_refl _, .inl (Nat.le_refl _)⟩, HB6.out, Nat.le_refl _⟩
  case round =>
    obtain ⟨k, rk, sa, sc, lo', hi', hk, rfl, rfl, hp, hgk, hko, hkz, how, ⟨hlo1, hlo2⟩, hb, hs6⟩ := hrel
    have HB := Lib.hid hb
    have HKO := Lib.hid hko
    have HKZ := Lib.hid hkz
    have HOW := Lib.hid how
    obtain ⟨x0, x1, x2, xf0, xf1, xf2⟩ := cell3 hko
    obtain ⟨y0, y1, y2, yf0, yf1, yf2⟩ := cell3 hkz
    have hlo3 : w5.heap.size < wr.heap.size := by omega
    have hlz3 : w.heap.size + 1 < wr.heap.size := by have := HE1.out; have := HZ2.out; have := HZ3.out; have := HZ4.out; omega
    have hlz5 : w.heap.size + 1 < w4.heap.size := by have := HE1.out; have := HE2.out; have := HZ3.out; have := HZ4.out; omega
    by_cases hlt : k < ms.length
    · have z1 : (0 : Int) ≤ (k : Int) := by omega
      have z2 : (k : Int) < (ms.length : Int) := by omega
      obtain ⟨b1, o1, rfl, l1, k1⟩ := R1.out _ hb k hlt
      have l2 : b1 < wr.heap.size := Nat.lt_of_lt_of_le l1 hb.size
      have p0 : wr.cell? ⟨b1, o1 + k * 3, none⟩ = some (.int .i64 ms[k].rod) := k1 0 (by omega)
      have p1 : wr.cell? ⟨b1, o1 + k * 3 + 1, none⟩ = some (.int .i64 ms[k].part) := k1 1 (by omega)
      have p2 : wr.cell? ⟨b1, o1 + k * 3 + 2, none⟩ = some (.int .i64 ms[k].amt) := k1 2 (by omega)
      obtain ⟨fu', fl', qk, t', hmk⟩ := mkF_or up lo rk ms[k]
      have HMK := Lib.hid hmk
      have HST := Lib.hid (stepO_mk up lo rk ms[k] fu' fl' qk t' hmk)
      have HSN := Lib.hid (playO_snoc up lo rs ms k hlt)
      have HRK : Hid (∀ w', Below wr.heap.size wr w' → RodsR w' (.slice sa rk.length sc) rk) := Lib.hid (fun w' hb' => (RodsR.of_own HOW.out.1).below hb' (Nat.le_refl _))
      clear hb hko hkz how k1 hmk
      cases t' with
      | true =>
        obtain ⟨e1, e2, hgq, hst⟩ := HST.out.1 rfl
        subst e1 e2
        have HGQ := Lib.hid hgq
        have HS2 := Lib.hid hst
        clear hgq hst
        go_wp2_with fail
        go_region_law (first
          | (go_simp; go_at_call 63; refine (l4Make_any _ _ _ rk ms[k] _ (HRK.out _ (Below.drew (Below.refl _ _))) hgk.out (HM.out.1 k hlt) _ _ qk true HMK.out).mono ?_
             rintro e w20 ⟨⟨sq, rfl, ho⟩, hb'⟩
             obtain ⟨sa2, sc2, rfl⟩ := own_form ho
             have HO20 := Lib.hid (Ow.mk' ho)
             have hb : Below wr.heap.size wr w20 := Below.trans (Below.drew (Below.refl _ _)) hb'
             clear hb' ho
             have HKO20 := Lib.hid ((hb.block _ hlo3).trans HKO.out)
             obtain ⟨v0, v1, v2, vf0, vf1, vf2⟩ := cell3 HKO20.out))
        all_goals
          have hm : Btw w5.heap.size (w5.heap.size + 1) w20 (((w20.setCell ⟨w5.heap.size, 0, none⟩ (.int .i64 fu')).setCell ⟨w5.heap.size, 1, none⟩ (.int .i64 fl')).setCell ⟨w5.heap.size, 2, none⟩ (.slice sa2 qk.length sc2)) := (((Btw.refl w5.heap.size (w5.heap.size + 1) w20).setCell (p := ⟨w5.heap.size, 0, none⟩) (Nat.le_refl _) (Nat.lt_succ_self _) _).setCell (p := ⟨w5.heap.size, 1, none⟩) (Nat.le_refl _) (Nat.lt_succ_self _) _).setCell (p := ⟨w5.heap.size, 2, none⟩) (Nat.le_refl _) (Nat.lt_succ_self _) _
          have HKO21 := Lib.hid (box3_set HKO20.out (.int .i64 fu') (.int .i64 fl') (.slice sa2 qk.length sc2))
          have HKZ21 := Lib.hid ((hm.block _ (.inl (show w.heap.size + 1 < w5.heap.size by omega))).trans ((hb.block _ hlz3).trans HKZ.out))
          have HO21 := Lib.hid (HO20.out.btw hm (.inr (show w5.heap.size + 1 ≤ wr.heap.size by omega)))
          have HB21 := Lib.hid ((HB.out.trans (hb.mono HB.out.size)).trans (hm.below.mono (show w.heap.size ≤ w5.heap.size by omega)))
          have hs21 := hb.size
          have hs22 := hm.size
          clear v0 v1 v2 vf0 vf1 vf2
          generalize ((w20.setCell ⟨w5.heap.size, 0, none⟩ (.int .i64 fu')).setCell ⟨w5.heap.size, 1, none⟩ (.int .i64 fl')).setCell ⟨w5.heap.size, 2, none⟩ (.slice sa2 qk.length sc2) = w21 at hm HKO21 HKZ21 HO21 HB21 hs22 ⊢
          clear hm hb
          obtain ⟨g0, g1, g2, gf0, gf1, gf2⟩ := cell3 HKZ21.out
          have hlz6 : w.heap.size + 1 < w21.heap.size := by omega
          go_wp2_with fail
          go_roundw
          case rel => exact ⟨k + 1, qk, sa2, sc2, wr.heap.size, w20.heap.size, by omega, by go_num, rfl, Lib.hid (by rw [HSN.out, hp.out]; exact HS2.out), HGQ, HKO21.out, HKZ21.out, HO21.out, ⟨by omega, .inr (by omega)⟩, HB21.out, by omega⟩
          case measure => simp [intOf]; omega
      | false =>
        obtain ⟨e1, e2, e3, hst⟩ := HST.out.2 rfl
        subst e1 e2 e3
        have HS2 := Lib.hid hst
        have HNO := Lib.hid (playO_none _ _ rs ms (k + 1) (by rw [HSN.out, hp.out]; exact HS2.out))
        have HKK : Hid (fu = 0 ∧ fl = 0 ∧ qs = [] ∧ t = false) := Lib.hid (by
          rcases HK.out with ⟨h, _⟩ | ⟨_, h⟩
          · rw [HNO.out] at h; simp at h
          · exact h)
        obtain ⟨rfl, rfl, rfl, rfl⟩ := HKK.out
        clear hst
        go_wp2_with fail
        go_region_law (first
          | (go_simp; go_at_call 63; refine (l4Make_any _ _ _ rk ms[k] _ (HRK.out _ (Below.drew (Below.refl _ _))) hgk.out (HM.out.1 k hlt) _ _ [] false HMK.out).mono ?_
             rintro e w20 ⟨⟨sq, rfl, ho⟩, hb'⟩
             obtain ⟨sa2, sc2, rfl⟩ := own_form ho
             have HO20 := Lib.hid (Ow.mk' ho)
             have hb : Below wr.heap.size wr w20 := Below.trans (Below.drew (Below.refl _ _)) hb'
             clear hb' ho
             have HKO20 := Lib.hid ((hb.block _ hlo3).trans HKO.out)
             obtain ⟨v0, v1, v2, vf0, vf1, vf2⟩ := cell3 HKO20.out))
        all_goals
          have hm : Btw w5.heap.size (w5.heap.size + 1) w20 (((w20.setCell ⟨w5.heap.size, 0, none⟩ (.int .i64 0)).setCell ⟨w5.heap.size, 1, none⟩ (.int .i64 0)).setCell ⟨w5.heap.size, 2, none⟩ (.slice sa2 0 sc2)) := (((Btw.refl w5.heap.size (w5.heap.size + 1) w20).setCell (p := ⟨w5.heap.size, 0, none⟩) (Nat.le_refl _) (Nat.lt_succ_self _) _).setCell (p := ⟨w5.heap.size, 1, none⟩) (Nat.le_refl _) (Nat.lt_succ_self _) _).setCell (p := ⟨w5.heap.size, 2, none⟩) (Nat.le_refl _) (Nat.lt_succ_self _) _
          have HKO21 := Lib.hid (box3_set HKO20.out (.int .i64 0) (.int .i64 0) (.slice sa2 0 sc2))
          have HKZ21 := Lib.hid ((hm.block _ (.inl (show w.heap.size + 1 < w5.heap.size by omega))).trans ((hb.block _ hlz3).trans HKZ.out))
          have HO21 := Lib.hid (HO20.out.btw hm (.inr (show w5.heap.size + 1 ≤ wr.heap.size by omega)))
          have HB21 := Lib.hid ((HB.out.trans (hb.mono HB.out.size)).trans (hm.below.mono (show w.heap.size ≤ w5.heap.size by omega)))
          have hs21 := hb.size
          have hs22 := hm.size
          clear v0 v1 v2 vf0 vf1 vf2
          generalize ((w20.setCell ⟨w5.heap.size, 0, none⟩ (.int .i64 0)).setCell ⟨w5.heap.size, 1, none⟩ (.int .i64 0)).setCell ⟨w5.heap.size, 2, none⟩ (.slice sa2 0 sc2) = w21 at hm HKO21 HKZ21 HO21 HB21 hs22 ⊢
          clear hm hb
          obtain ⟨g0, g1, g2, gf0, gf1, gf2⟩ := cell3 HKZ21.out
          have hlz6 : w.heap.size + 1 < w21.heap.size := by omega
          go_wp2_with fail
          exact bodyPost_ret (v := .tuple #[.agg #[.int .i64 0, .int .i64 0, .slice none 0 0], .bool false]) (by simp [results, Try.results30, go_sem, g0, g1, g2]) rfl ⟨⟨_, rfl, ⟨by simp [flat], .inl ⟨rfl, rfl⟩⟩⟩, bl_set3 HB21.out (by omega) _ _ _⟩
    · have hke : k = ms.length := by omega
      have HKK : Hid (qs = rk ∧ fu = up ∧ fl = lo ∧ t = true) := Lib.hid (by
        have h2 := hp.out
        rw [hke, List.take_length] at h2
        rcases HK.out with ⟨h, e⟩ | ⟨h, _⟩
        · rw [h2] at h; injection h with h; exact ⟨h.symm, e⟩
        · rw [h2] at h; simp at h)
      obtain ⟨rfl, rfl, rfl, rfl⟩ := HKK.out
      clear hb hko hkz how hke
      go_wp2_with fail
      exact bodyPost_ret (v := .tuple #[.agg #[.int .i64 fu, .int .i64 fl, .slice sa qs.length sc], .bool true]) (by simp [results, Try.results30, go_sem, y0, y1, y2]) rfl ⟨⟨_, rfl, own_mono (own_set3 HOW.out.1 (show w.heap.size + 1 < lo' by omega) _ _ _) (by omega)⟩, bl_set3 HB.out (by omega) _ _ _⟩
set_option maxRecDepth 100000 in
set_option maxHeartbeats 3200000 in
theorem specPlay_any (up lo : Int) (s1 : Value) (rs : List (Int × Int)) (s2 : Value) (ms : List Mv) (w : World) (h1 : RodsR w s1 rs) (h2 : RowsR 3 mvC w s2 ms) (fu fl : Int) (qs : List (Int × Int)) (t : Bool) (hk : PlF up lo rs ms fu fl qs t) :
    Calls Try.prog 30 #[.agg #[.int .i64 up, .int .i64 lo, s1], s2] w fun e w' => (∃ sq, e = .returned (.tuple #[.agg #[.int .i64 fu, .int .i64 fl, sq], .bool t]) ∧ w'.ownsRow w.heap.size 74 2 sq qs.length (flat qs)) ∧ Below w.heap.size w w' := by
  by_cases hgm : goodF up lo rs ∧ okMs ms
  · refine specPlay_in up lo s1 rs s2 ms w h1 h2 hgm.1 hgm.2 fu fl qs t ?_
    rcases hk with ⟨_, _, h, _, e⟩ | ⟨h, e⟩
    · exact .inl ⟨h, e⟩
    · exact .inr ⟨Classical.byContradiction fun hn => h ⟨hgm.1, hgm.2, hn⟩, e⟩
  · obtain ⟨rfl, rfl, rfl, rfl⟩ : fu = 0 ∧ fl = 0 ∧ qs = [] ∧ t = false := by
      rcases hk with ⟨g1, g2, _⟩ | ⟨_, e⟩
      · exact absurd ⟨g1, g2⟩ hgm
      · exact e
    obtain ⟨a1, c1, rfl⟩ : ∃ a c, s1 = .slice a rs.length c := by obtain ⟨a, c, e, _⟩ := h1; exact ⟨a, c, e⟩
    obtain ⟨a2, c2, rfl⟩ := h2.form
    have HN := Lib.hid hgm
    have HB0 : Hid (Below w.heap.size w w) := Lib.hid (Below.refl _ _)
    have HRf0 := Lib.hid (h1)
    have HRg0 := Lib.hid (h2)
    clear h1 h2 hk hgm
    go_enter Try.func30, Try.ntmps30
    go_wp2_with fail
    have hb : Below w.heap.size w (w.alloc (.cells #[.int .i64 up, .int .i64 lo, .slice a1 rs.length c1] 28)) := (Below.refl _ _).alloc (Nat.le_refl _) _
    have hk : (w.alloc (.cells #[.int .i64 up, .int .i64 lo, .slice a1 rs.length c1] 28)).heap[w.heap.size]? = some (.cells #[.int .i64 up, .int .i64 lo, .slice a1 rs.length c1] 28 (0, 0)) := alloc_at rfl
    have hz : (w.alloc (.cells #[.int .i64 up, .int .i64 lo, .slice a1 rs.length c1] 28)).heap.size = w.heap.size + 1 := by simp
    generalize w.alloc (.cells #[.int .i64 up, .int .i64 lo, .slice a1 rs.length c1] 28) = w1 at hb hk hz ⊢
    have HB1 : Hid (Below w.heap.size w w1) := Lib.hid (HB0.out.trans (hb.mono HB0.out.size))
    have HZ1 : Hid (w.heap.size ≤ w1.heap.size) := Lib.hid hb.size
    have HRf1 := Lib.hid (HRf0.out.below HB1.out (Nat.le_refl _))
    have HRg1 := Lib.hid (HRg0.out.below HB1.out (Nat.le_refl _))
    have HKf1 := Lib.hid hk
    replace HZ1 : Hid (w.heap.size < w1.heap.size) := Lib.hid (by omega)
    have HE1 := Lib.hid hz
    clear hb hk hz
    have hb : Below w1.heap.size w1 (w1.alloc (.cells #[.int .i64 0, .int .i64 0, .slice none 0 0] 28)) := (Below.refl _ _).alloc (Nat.le_refl _) _
    have hk : (w1.alloc (.cells #[.int .i64 0, .int .i64 0, .slice none 0 0] 28)).heap[w.heap.size + 1]? = some (.cells #[.int .i64 0, .int .i64 0, .slice none 0 0] 28 (0, 0)) := alloc_at (by have := HE1.out; omega)
    have hz : (w1.alloc (.cells #[.int .i64 0, .int .i64 0, .slice none 0 0] 28)).heap.size = w1.heap.size + 1 := by simp
    generalize w1.alloc (.cells #[.int .i64 0, .int .i64 0, .slice none 0 0] 28) = w2 at hb hk hz ⊢
    have HB2 : Hid (Below w.heap.size w w2) := Lib.hid (HB1.out.trans (hb.mono HB1.out.size))
    have HZ2 : Hid (w1.heap.size ≤ w2.heap.size) := Lib.hid hb.size
    have HRf2 := Lib.hid (HRf0.out.below HB2.out (Nat.le_refl _))
    have HRg2 := Lib.hid (HRg0.out.below HB2.out (Nat.le_refl _))
    have HKf2 := Lib.hid ((hb.block _ (lt_of_block HKf1.out)).trans HKf1.out)
    have HKz2 := Lib.hid hk
    replace HZ2 : Hid (w1.heap.size < w2.heap.size) := Lib.hid (by omega)
    have HE2 := Lib.hid hz
    clear hb hk hz
    have ltf := lt_of_block HKf2.out
    obtain ⟨cf0, cf1, cf2, ff0, ff1, ff2⟩ := cell3 HKf2.out
    have ltz := lt_of_block HKz2.out
    obtain ⟨cz0, cz1, cz2, fz0, fz1, fz2⟩ := cell3 HKz2.out
    by_cases hg : goodF up lo rs
    · have HG := Lib.hid hg
      have HM := Lib.hid (show ¬ okMs ms from fun h => HN.out ⟨hg, h⟩)
      clear hg
      refine (l2Good_yes _ _ _ _ _ HRf2.out HG.out).mono ?_
      rintro e w3 ⟨rfl, hb⟩
      have HB3 : Hid (Below w.heap.size w w3) := Lib.hid (HB2.out.trans (hb.mono HB2.out.size))
      have HZ3 : Hid (w2.heap.size ≤ w3.heap.size) := Lib.hid hb.size
      have HRf3 := Lib.hid (HRf0.out.below HB3.out (Nat.le_refl _))
      have HRg3 := Lib.hid (HRg0.out.below HB3.out (Nat.le_refl _))
      have HKf3 := Lib.hid ((hb.block _ (lt_of_block HKf2.out)).trans HKf2.out)
      have HKz3 := Lib.hid ((hb.block _ (lt_of_block HKz2.out)).trans HKz2.out)
      clear hb
      clear cf0 cf1 cf2 ff0 ff1 ff2 ltf cz0 cz1 cz2 fz0 fz1 fz2 ltz
      have ltf := lt_of_block HKf3.out
      obtain ⟨cf0, cf1, cf2, ff0, ff1, ff2⟩ := cell3 HKf3.out
      have ltz := lt_of_block HKz3.out
      obtain ⟨cz0, cz1, cz2, fz0, fz1, fz2⟩ := cell3 HKz3.out
      go_wp2_with fail
      refine (l4Good_any _ ms _ HRg3.out false ⟨fun h => by simp at h, fun h => absurd h HM.out⟩).mono ?_
      rintro e w4 ⟨rfl, hb⟩
      have HB4 : Hid (Below w.heap.size w w4) := Lib.hid (HB3.out.trans (hb.mono HB3.out.size))
      have HZ4 : Hid (w3.heap.size ≤ w4.heap.size) := Lib.hid hb.size
      have HRf4 := Lib.hid (HRf0.out.below HB4.out (Nat.le_refl _))
      have HRg4 := Lib.hid (HRg0.out.below HB4.out (Nat.le_refl _))
      have HKf4 := Lib.hid ((hb.block _ (lt_of_block HKf3.out)).trans HKf3.out)
      have HKz4 := Lib.hid ((hb.block _ (lt_of_block HKz3.out)).trans HKz3.out)
      clear hb
      clear cf0 cf1 cf2 ff0 ff1 ff2 ltf cz0 cz1 cz2 fz0 fz1 fz2 ltz
      have ltf := lt_of_block HKf4.out
      obtain ⟨cf0, cf1, cf2, ff0, ff1, ff2⟩ := cell3 HKf4.out
      have ltz := lt_of_block HKz4.out
      obtain ⟨cz0, cz1, cz2, fz0, fz1, fz2⟩ := cell3 HKz4.out
      go_wp2_with fail
      exact bodyPost_ret (v := .tuple #[.agg #[.int .i64 0, .int .i64 0, .slice none 0 0], .bool false]) (by simp [results, Try.results30, go_sem, cz0, cz1, cz2]) rfl ⟨⟨_, rfl, ⟨by simp [flat], .inl ⟨rfl, rfl⟩⟩⟩, bl_set3 HB4.out (by omega) _ _ _⟩
    · have HG := Lib.hid hg
      clear hg
      refine (l2Good_no _ _ _ _ _ HRf2.out HG.out).mono ?_
      rintro e w3 ⟨rfl, hb⟩
      have HB3 : Hid (Below w.heap.size w w3) := Lib.hid (HB2.out.trans (hb.mono HB2.out.size))
      have HZ3 : Hid (w2.heap.size ≤ w3.heap.size) := Lib.hid hb.size
      have HRf3 := Lib.hid (HRf0.out.below HB3.out (Nat.le_refl _))
      have HRg3 := Lib.hid (HRg0.out.below HB3.out (Nat.le_refl _))
      have HKf3 := Lib.hid ((hb.block _ (lt_of_block HKf2.out)).trans HKf2.out)
      have HKz3 := Lib.hid ((hb.block _ (lt_of_block HKz2.out)).trans HKz2.out)
      clear hb
      clear cf0 cf1 cf2 ff0 ff1 ff2 ltf cz0 cz1 cz2 fz0 fz1 fz2 ltz
      have ltf := lt_of_block HKf3.out
      obtain ⟨cf0, cf1, cf2, ff0, ff1, ff2⟩ := cell3 HKf3.out
      have ltz := lt_of_block HKz3.out
      obtain ⟨cz0, cz1, cz2, fz0, fz1, fz2⟩ := cell3 HKz3.out
      go_wp2_with fail
      exact bodyPost_ret (v := .tuple #[.agg #[.int .i64 0, .int .i64 0, .slice none 0 0], .bool false]) (by simp [results, Try.results30, go_sem, cz0, cz1, cz2]) rfl ⟨⟨_, rfl, ⟨by simp [flat], .inl ⟨rfl, rfl⟩⟩⟩, bl_set3 HB3.out (by omega) _ _ _⟩
end Go.Proofs.Ytpdckmhhmgkaaaa
