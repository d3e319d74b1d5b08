/- What is drawn for texts of numbers and checksums. -/
import Derived.Test.YtfbilfplbjjoaaaDoorCode
import Derived.Test.YtfbilfplbjjoaaaDoorNum
namespace Go.Proofs.YtfbilfplbjjoaaaDoor
set_option linter.unusedVariables false
open Go.RowKit

theorem Tryd.infoByteS : (Tryd.prog.info? 5).map (fun i => (i.zero, i.size, i.bytes)) = some (some (.int .u8 0), 1, 1) := by kernel_rfl
set_option maxRecDepth 100000 in
set_option maxHeartbeats 800000 in
theorem among_any (cb : Nat) (cd : Value) (L : List UInt8) (n : Nat) (v : Value) (zs : List Int) (w : World) (hn : n < 4611686018427387000) (hl : 1 ≤ zs.length ∧ zs.length ≤ 100) (h : SlR w v (zs.map (Value.int .i64))) (hne : ∀ a m c, v = .slice (some a) m c → a.block ≠ cb) (hc : CurAt w cb cd n) (hr : CodeR w cb cd L) :
    Calls Tryd.prog 16 #[.pointer (some ⟨cb, 0, none⟩), v] w fun e w' => (∃ z, e = .returned (.int .i64 z) ∧ z ∈ zs) ∧ CurAt w' cb cd (n + 2) ∧ w.grownBy w' (some cb) := by
  obtain ⟨a, cp, rfl, ⟨m1, _⟩, r1⟩ := h
  rw [List.length_map] at *
  obtain ⟨b1, o1, rfl, l1, k1⟩ := r1 (by intro e; rw [List.map_eq_nil_iff] at e; subst e; simp at hl)
  have hbb : b1 ≠ cb := hne _ _ _ rfl
  have K1 : Hid (∀ (i : Nat) (h : i < zs.length), w.cell? ⟨b1, o1 + i, none⟩ = some (.int .i64 zs[i])) := Lib.hid fun i h => by have q := k1 i (by simpa using h); rwa [List.getElem_map] at q
  have HP := Lib.hid (fun m h1 h2 => pick_any cb cd L n m w (by omega) h1 h2 hc hr)
  obtain ⟨hl1, hl2⟩ := hl
  clear r1 k1 hne hc hr m1
  go_enter Tryd.func16, Tryd.ntmps16
  go_wp2_with fail
  refine (HP.out (zs.length : Int) (by omega) (by omega)).mono ?_
  rintro e w1 ⟨⟨r, rfl, r0, r1⟩, hc1, hg⟩
  obtain ⟨k, rfl⟩ : ∃ k : Nat, r = k := ⟨r.toNat, by omega⟩
  have hk : k < zs.length := by omega
  have q := hg.cell (K1.out k hk) (by simpa using fun e => hbb e)
  have HC1 := Lib.hid hc1
  have HG := Lib.hid hg
  clear hc1 hg
  go_wp2_with fail
  go_ret
  exact ⟨⟨zs[k], rfl, List.getElem_mem _⟩, HC1.out, HG.out⟩
def numL (r : Int) : List Int := [0, 1, -1, 10, 999999, -999999, 1000000, -1000000, r]
set_option maxRecDepth 100000 in
set_option maxHeartbeats 1600000 in
theorem drawFormat_any (cd : Value) (L : List UInt8) (w : World) (h : SlR w cd (L.map fun c => .int .u8 (c.toNat : Int))) :
    Calls Tryd.prog 5 #[cd] w fun e w' => (∃ z, e = .returned (.int .i64 z)) ∧ Below w.heap.size w w' := by
  obtain ⟨ad, cp, rfl⟩ : ∃ a c, cd = .slice a L.length c := by obtain ⟨a, c, e, _⟩ := h; exact ⟨a, c, by rw [e, List.length_map]⟩
  have hT : (Lit.int .u64 0).wf = true := by decide
  have HN := Lib.hid (code_new h)
  obtain ⟨W1, hW1⟩ : ∃ W1, w.alloc (.cells #[.slice ad L.length cp, .int .i64 0, .int .u64 0] 35) = W1 := ⟨_, rfl⟩
  have hc1 : CurAt W1 w.heap.size (.slice ad L.length cp) 0 := ⟨0, 0, _, Nat.le_refl _, Lib.hid hT, by rw [← hW1]; exact alloc_at rfl⟩
  have hr1 : CodeR W1 w.heap.size (.slice ad L.length cp) L := by rw [← hW1]; exact HN.out _
  have hb1 : Below w.heap.size w W1 := by rw [← hW1]; exact (Below.refl _ w).alloc (Nat.le_refl _) _
  have HA := Lib.hid (pick_any w.heap.size _ L 0 1000 W1 (by omega) (by omega) (by omega) hc1 hr1)
  have HR1 := Lib.hid hr1
  have HB1 := Lib.hid hb1
  clear hc1 hr1 hb1 h HN
  go_enter Tryd.func5, Tryd.ntmps5
  go_wp2_with fail
  try rw [hW1]
  refine (HA.out).mono ?_
  rintro e w2 ⟨⟨r, rfl, r0, r1⟩, hc2, hg2⟩
  have hw : IntKind.i64.wrap (r - 500) = r - 500 := by rw [IntKind.wrap_i64]; omega
  have hlt := hc2.lt
  have HB2 : Hid (Below w.heap.size w w2) := Lib.hid (HB1.out.grown hg2 HB1.out.size (fun k e => by cases e; exact Nat.le_refl _))
  have hga := grown_alloc w2 (.cells ((numL (r - 500)).map (Value.int .i64)).toArray 3) none
  have HO := Lib.hid (among_any w.heap.size _ L 2 _ (numL (r - 500)) _ (by omega) ⟨by unfold numL; simp, by unfold numL; simp⟩ (slr_lit w2 ((numL (r - 500)).map (Value.int .i64)) 3 (by unfold numL maxLen; simp)) (fun a m c e => by cases e; show w2.heap.size ≠ w.heap.size; omega) (hc2.old hga) ((HR1.out.grown hg2).grown (grown_any hga)))
  have HB3 : Hid (Below w.heap.size w (w2.alloc (.cells ((numL (r - 500)).map (Value.int .i64)).toArray 3))) := Lib.hid (HB2.out.alloc HB2.out.size _)
  clear hc2 hg2 hga hlt
  go_wp2_with fail
  refine (HO.out).mono ?_
  rintro e w3 ⟨⟨y, rfl, hy⟩, hc3, hg3⟩
  have HB4 : Hid (Below w.heap.size w w3) := Lib.hid (HB3.out.grown hg3 HB3.out.size (fun k e => by cases e; exact Nat.le_refl _))
  clear hc3 hg3 hy
  go_wp2_with fail
  go_ret
  exact ⟨⟨y, rfl⟩, HB4.out⟩
def partL : List ByteArray := [⟨#[]⟩, ⟨#[45]⟩, ⟨#[45, 48]⟩, ⟨#[48, 48]⟩, ⟨#[48, 49]⟩, ⟨#[45, 45, 49]⟩, ⟨#[49, 120]⟩, ⟨#[57, 57, 57, 57, 57, 57]⟩, ⟨#[49, 48, 48, 48, 48, 48, 48]⟩, ⟨#[45, 57, 57, 57, 57, 57, 57]⟩, ⟨#[49, 56, 52, 52, 54, 55, 52, 52, 48, 55, 51, 55, 48, 57, 53, 53, 49, 54, 49, 55]⟩]
theorem partL_le : ∀ x ∈ partL, x.size ≤ 100 := by
  intro x hx
  simp only [partL, List.mem_cons, List.not_mem_nil, or_false] at hx
  rcases hx with rfl | rfl | rfl | rfl | rfl | rfl | rfl | rfl | rfl | rfl | rfl <;> decide
theorem itoa_short (z : Int) (h0 : -9223372036854775807 ≤ z) (h1 : z ≤ 9223372036854775807) : (Lib.itoa z).length ≤ 100 := by
  by_cases hz : z < 0
  · rw [itoa_neg z hz, List.length_cons, itoa_small (-z) (by omega), Lib.decDigits_length]
    have := nDig_le 18 (-z).toNat (by omega)
    omega
  · rw [itoa_small z (by omega), Lib.decDigits_length]
    have := nDig_le 18 z.toNat (by omega)
    omega
set_option maxRecDepth 100000 in
set_option maxHeartbeats 1600000 in
theorem drawParse_any (cd : Value) (L : List UInt8) (w : World) (h : SlR w cd (L.map fun c => .int .u8 (c.toNat : Int))) :
    Calls Tryd.prog 8 #[cd] w fun e w' => (∃ x, e = .returned (.string x) ∧ x.size ≤ 5000) ∧ Below w.heap.size w w' := by
  obtain ⟨ad, cp, rfl⟩ : ∃ a c, cd = .slice a L.length c := by obtain ⟨a, c, e, _⟩ := h; exact ⟨a, c, by rw [e, List.length_map]⟩
  have hT : (Lit.int .u64 0).wf = true := by decide
  have HN := Lib.hid (code_new h)
  obtain ⟨W1, hW1⟩ : ∃ W1, w.alloc (.cells #[.slice ad L.length cp, .int .i64 0, .int .u64 0] 35) = W1 := ⟨_, rfl⟩
  have hc1 : CurAt W1 w.heap.size (.slice ad L.length cp) 0 := ⟨0, 0, _, Nat.le_refl _, Lib.hid hT, by rw [← hW1]; exact alloc_at rfl⟩
  have hr1 : CodeR W1 w.heap.size (.slice ad L.length cp) L := by rw [← hW1]; exact HN.out _
  have hb1 : Below w.heap.size w W1 := by rw [← hW1]; exact (Below.refl _ w).alloc (Nat.le_refl _) _
  have HA := Lib.hid (one_any w.heap.size _ L 0 2 W1 (by omega) (by omega) hc1 hr1)
  have HR1 := Lib.hid hr1
  have HB1 := Lib.hid hb1
  clear hc1 hr1 hb1 h HN
  go_enter Tryd.func8, Tryd.ntmps8
  go_wp2_with fail
  try rw [hW1]
  refine (HA.out).mono ?_
  rintro e w2 ⟨⟨x, rfl⟩, hc2, hg2⟩
  have hlt := hc2.lt
  have HB2 : Hid (Below w.heap.size w w2) := Lib.hid (HB1.out.grown hg2 HB1.out.size (fun k e => by cases e; exact Nat.le_refl _))
  cases x with
  | true =>
    have hga := grown_alloc w2 (.cells (partL.map Value.string).toArray 9) none
    have HO := Lib.hid (of_any w.heap.size _ L 2 _ partL _ (by omega) (by decide) (slr_lit w2 (partL.map Value.string) 9 (by decide)) (fun a m c e => by cases e; show w2.heap.size ≠ w.heap.size; omega) (hc2.old hga) ((HR1.out.grown hg2).grown (grown_any hga)))
    have HB3 : Hid (Below w.heap.size w (w2.alloc (.cells (partL.map Value.string).toArray 9))) := Lib.hid (HB2.out.alloc HB2.out.size _)
    clear hc2 hg2 hga hlt
    go_wp2_with fail
    refine (HO.out).mono ?_
    rintro e w3 ⟨⟨y, rfl, hy⟩, hc3, hg3⟩
    have HY := Lib.hid (partL_le y hy)
    have HB4 : Hid (Below w.heap.size w w3) := Lib.hid (HB3.out.grown hg3 HB3.out.size (fun k e => by cases e; exact Nat.le_refl _))
    clear hc3 hg3 hy
    go_wp2_with fail
    go_ret
    exact ⟨⟨y, rfl, Nat.le_trans HY.out (by omega)⟩, HB4.out⟩
  | false =>
    have HO := Lib.hid (pick_any w.heap.size _ L 2 2000 w2 (by omega) (by omega) (by omega) hc2 (HR1.out.grown hg2))
    clear hc2 hg2 hlt
    go_wp2_with fail
    refine (HO.out).mono ?_
    rintro e w3 ⟨⟨r, rfl, r0, r1⟩, hc3, hg3⟩
    have hw : IntKind.i64.wrap (r - 1000) = r - 1000 := by rw [IntKind.wrap_i64]; omega
    have HB4 : Hid (Below w.heap.size w w3) := Lib.hid (HB2.out.grown hg3 HB2.out.size (fun k e => by cases e; exact Nat.le_refl _))
    have HL := Lib.hid (itoa_short (r - 1000) (by omega) (by omega))
    clear hc3 hg3
    go_wp2_with fail
    refine (l1Num_any (r - 1000) _ (by omega) (by omega)).mono ?_
    rintro e w4 ⟨rfl, m, hw4⟩
    subst w4
    go_wp2_with fail
    go_ret
    exact ⟨⟨_, rfl, by have := HL.out; show (List.toArray _).size ≤ 5000; rw [List.size_toArray]; omega⟩, bl_drewN HB4.out _⟩
set_option maxRecDepth 100000 in
set_option maxHeartbeats 1600000 in
theorem drawAppend_any (cd : Value) (L : List UInt8) (w : World) (h : SlR w cd (L.map fun c => .int .u8 (c.toNat : Int))) :
    Calls Tryd.prog 11 #[cd] w fun e w' => (∃ x, e = .returned (.string x) ∧ x.size ≤ 5000) ∧ Below w.heap.size w w' := by
  obtain ⟨j0, hj, hy0, hy1, hy2⟩ := info_parts Tryd.infoByteS
  obtain ⟨ad, cp, rfl⟩ : ∃ a c, cd = .slice a L.length c := by obtain ⟨a, c, e, _⟩ := h; exact ⟨a, c, by rw [e, List.length_map]⟩
  have hT : (Lit.int .u64 0).wf = true := by decide
  have HN := Lib.hid (code_new h)
  obtain ⟨W1, hW1⟩ : ∃ W1, w.alloc (.cells #[.slice ad L.length cp, .int .i64 0, .int .u64 0] 35) = W1 := ⟨_, rfl⟩
  have hc1 : CurAt W1 w.heap.size (.slice ad L.length cp) 0 := ⟨0, 0, _, Nat.le_refl _, Lib.hid hT, by rw [← hW1]; exact alloc_at rfl⟩
  have hr1 : CodeR W1 w.heap.size (.slice ad L.length cp) L := by rw [← hW1]; exact HN.out _
  have hb1 : Below w.heap.size w W1 := by rw [← hW1]; exact (Below.refl _ w).alloc (Nat.le_refl _) _
  have HA := Lib.hid (one_any w.heap.size _ L 0 20 W1 (by omega) (by omega) hc1 hr1)
  have HR1 := Lib.hid hr1
  have HB1 := Lib.hid hb1
  clear hc1 hr1 hb1 h HN
  go_enter Tryd.func11, Tryd.ntmps11
  go_wp2_with fail
  try rw [hW1]
  refine (HA.out).mono ?_
  rintro e w2 ⟨⟨x, rfl⟩, hc2, hg2⟩
  have HB2 : Hid (Below w.heap.size w w2) := Lib.hid (HB1.out.grown hg2 HB1.out.size (fun k e => by cases e; exact Nat.le_refl _))
  cases x with
  | true =>
    have HO := Lib.hid (pick_any w.heap.size _ L 2 10 w2 (by omega) (by omega) (by omega) hc2 (HR1.out.grown hg2))
    clear hc2 hg2
    go_wp2_with fail
    refine (HO.out).mono ?_
    rintro e w5 ⟨⟨r2, rfl, r20, r21⟩, hc3, hg3⟩
    have HB5 : Hid (Below w.heap.size w w5) := Lib.hid (HB2.out.grown hg3 HB2.out.size (fun k e => by cases e; exact Nat.le_refl _))
    clear hc3 hg3
    obtain ⟨M, hM⟩ : ∃ M : Nat, (M : Int) = 3990 + r2 := ⟨(3990 + r2).toNat, by omega⟩
    have wM : IntKind.i64.wrap (3990 + r2) = (M : Int) := by rw [hM, IntKind.wrap_i64]; omega
    have hM2 : M ≤ 4010 := by omega
    clear hM
    go_wp2_with (at_make; refine wpList_make_full _ rfl _ _ 22 rfl w5.heap.size 5 j0 (.int .u8 0) 1 Tryd.underlying22 hj hy0 hy1 _ _ _ _ M rfl rfl rfl rfl ?m2 ?m3 (Nat.le_refl _) ?_)
    case m2 => rw [hy2]; omega
    case m3 => unfold maxLen; omega
    intro w6 hown6 hgrow6
    have hb56 : Below w5.heap.size w5 w6 := (Below.refl _ _).grown hgrow6 (Nat.le_refl _) (fun k h => by cases h)
    have HB6 : Hid (Below w.heap.size w w6) := Lib.hid (HB5.out.trans (hb56.mono HB5.out.size))
    have hcv : ∀ (T : TypeId), Tryd.prog.underlying T = some .string → (convert 22 T (.slice (some ⟨w5.heap.size, 0, none⟩) M M)).run Tryd.prog w6 = .ok (.string ⟨(List.replicate M (0 : UInt8)).toArray⟩) w6 := by
      intro T hT
      have := run_convert_bytes_back (P := Tryd.prog) w6 22 T 5 ⟨w5.heap.size, 0, none⟩ M (List.replicate M (0 : UInt8)) Tryd.underlying22 Tryd.underlying5 hT (fun j hj2 => by
        have hj3 : j < M := by simpa using hj2
        exact hown6.cells (g := w5.heap.size) rfl j _ (by simp [madeCells, hj3, Nat.mod_one]))
      rwa [List.length_replicate] at this
    have hcv9 := hcv _ Tryd.underlying9
    obtain ⟨z, hz⟩ : ∃ z : ByteArray, (⟨(List.replicate M (0 : UInt8)).toArray⟩ : ByteArray) = z := ⟨_, rfl⟩
    have HZ : Hid (z.size ≤ 5000) := Lib.hid (by rw [← hz]; show (List.replicate M (0 : UInt8)).toArray.size ≤ 5000; simp; omega)
    rw [hz] at hcv9
    clear hcv hz hown6 hgrow6 hb56
    go_wp2_with fail
    go_ret
    exact ⟨⟨z, rfl, HZ.out⟩, HB6.out⟩
  | false =>
    have HO := Lib.hid (any1_any w.heap.size _ L 2 w2 (by omega) hc2 (HR1.out.grown hg2))
    clear hc2 hg2
    go_wp2_with fail
    refine (HO.out).mono ?_
    rintro e w3 ⟨⟨y, rfl, hy⟩, hc3, hg3⟩
    have HB4 : Hid (Below w.heap.size w w3) := Lib.hid (HB2.out.grown hg3 HB2.out.size (fun k e => by cases e; exact Nat.le_refl _))
    clear hc3 hg3
    go_wp2_with fail
    go_ret
    exact ⟨⟨y, rfl, Nat.le_trans hy (by omega)⟩, HB4.out⟩
/-- What a law reads of its code at a fixed place. -/
theorem vAt_some (L : List UInt8) (k : Nat) (hk : k ≤ 100) (hm : L.length ≤ 65536) : ∃ r : Nat, r ≤ 255 ∧ ∀ (ad : Option Addr) (cp : Nat) (w : World), SlR w (.slice ad L.length cp) (L.map fun c => .int .u8 (c.toNat : Int)) →
    Calls Tryd.prog 15 #[.slice ad L.length cp, .int .i64 (k : Int)] w fun e w' => e = .returned (.int .i64 (r : Int)) ∧ w' = w := by
  by_cases h : k < L.length
  · refine ⟨L[k].toNat, by have := L[k].toNat_lt; omega, fun ad cp w hr => ?_⟩
    obtain ⟨a, c, e, ⟨m, _⟩, r1⟩ := hr
    injection e with e1 e2 e3
    subst e1 e3
    obtain ⟨b1, o1, rfl, l1, k1⟩ := r1 (by intro e; rw [List.map_eq_nil_iff] at e; subst e; simp at h)
    have q : w.cell? ⟨b1, o1 + k, none⟩ = some (.int .u8 (L[k].toNat : Int)) := by have q := k1 k (by simpa using h); rwa [List.getElem_map] at q
    have hb := L[k].toNat_lt
    generalize L[k].toNat = z at q hb
    clear r1 k1 m e2
    go_enter Tryd.func15, Tryd.ntmps15
    go_wp2_with fail
    go_ret
    exact ⟨rfl, rfl⟩
  · refine ⟨(k * 7 + L.length) % 256, by omega, fun ad cp w hr => ?_⟩
    clear hr
    have h1 : IntKind.i64.wrap ((k : Int) * 7) = (k : Int) * 7 := by rw [IntKind.wrap_i64]; omega
    have h2 : IntKind.i64.wrap ((k : Int) * 7 + (L.length : Int)) = (k : Int) * 7 + (L.length : Int) := by rw [IntKind.wrap_i64]; omega
    have h3 : ((k : Int) * 7 + (L.length : Int)).tmod 256 = (((k * 7 + L.length) % 256 : Nat) : Int) := by rw [Int.tmod_eq_emod_of_nonneg (by omega)]; omega
    go_enter Tryd.func15, Tryd.ntmps15
    go_wp2_with fail
    go_ret
    exact ⟨by first | rfl | simp_all, rfl⟩
end Go.Proofs.YtfbilfplbjjoaaaDoor
