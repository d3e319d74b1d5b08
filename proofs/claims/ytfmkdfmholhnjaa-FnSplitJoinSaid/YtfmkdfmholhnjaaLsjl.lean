/- The law FnSplitJoin. -/
import Derived.Test.YtfmkdfmholhnjaaLsj
import Derived.Test.YtfmkdfmholhnjaaDjoin
namespace Go.Proofs.Ytfmkdfmholhnjaa
set_option linter.unusedVariables false
open Go.RowKit

/-- Bytes that came in, read as a code. -/
theorem code_read {w : World} {a : Option Addr} {len cap : Nat} {zs : List Int} (h : (a = none ∧ len = 0 ∧ cap = 0 ∧ zs = []) ∨ ∃ x, a = some x ∧ len ≤ cap ∧ cap ≤ maxLen ∧ zs.length = cap ∧ (∀ i, i < zs.length → w.cell? (x.add i) = some (.int .u8 (zs.getD i 0))) ∧ ∀ n ∈ zs, (Lit.int .u8 n).wf = true) :
    ∃ L : List UInt8, L.length = len ∧ SlR w (.slice a len cap) (L.map fun c => .int .u8 (c.toNat : Int)) := by
  rcases h with ⟨rfl, rfl, rfl, rfl⟩ | ⟨x, rfl, h1, h2, h3, h4, h5⟩
  · exact ⟨[], rfl, none, 0, rfl, ⟨Nat.zero_le _, Nat.le_refl _⟩, fun e => absurd rfl e⟩
  · refine ⟨(zs.take len).map fun z => UInt8.ofNat z.toNat, by rw [List.length_map, List.length_take]; omega, slr_cells (by rw [List.length_map, List.length_map, List.length_take]; omega) (Nat.le_trans h1 h2) h1 (fun i hi => ?_)⟩
    rw [List.length_map, List.length_map, List.length_take] at hi
    have hz : i < zs.length := by omega
    rw [h4 i hz, List.getElem_map, List.getElem_map, List.getElem_take, List.getD_eq_getElem?_getD, List.getElem?_eq_getElem hz]
    have hw := h5 zs[i] (List.getElem_mem _)
    have hb : 0 ≤ zs[i] ∧ zs[i] ≤ 255 := by simpa [Lit.wf, IntKind.min, IntKind.max, IntKind.bits, IntKind.signed] using hw
    generalize zs[i] = z at hb
    obtain ⟨m, rfl⟩ : ∃ m : Nat, z = m := ⟨z.toNat, by omega⟩
    have hm : m < 256 := by omega
    simp [Nat.mod_eq_of_lt hm]
theorem join_below {P : Program} {f : Nat} {av : Array Value} {w : World} {v : Value} (h : Calls P f av w fun e w' => e = .returned v ∧ ∃ m, w' = w.drewN m) : Calls P f av w fun e w' => e = .returned v ∧ Below w.heap.size w w' :=
  h.mono fun e w' ⟨he, m, hw⟩ => ⟨he, by subst hw; exact bl_drewN (Below.refl _ _) m⟩
set_option maxRecDepth 100000 in
set_option maxHeartbeats 400000 in
theorem vBig_any (ad : Option Addr) (n cp : Nat) (w : World) (r : Bool) (hr : decide ((65536 : Int) < (n : Int)) = r) :
    Calls Try.prog 10 #[.slice ad n cp] w fun e w' => e = .returned (.bool r) ∧ w' = w := by
  subst hr
  go_enter Try.func10, Try.ntmps10
  go_wp2
  go_ret
  exact ⟨by simp, rfl⟩
set_option maxRecDepth 100000 in
set_option maxHeartbeats 3200000 in
theorem lawSplitJoin (w : World) (ad : Option Addr) (cp : Nat) (L : List UInt8) (h : SlR w (.slice ad L.length cp) (L.map fun c => .int .u8 (c.toNat : Int))) :
    Calls Try.prog 4 #[.slice ad L.length cp] w fun e w' => e = .returned (.bool true) ∧ Below w.heap.size w w' := by
  have hm : L.length ≤ 9223372036854775807 := by
    obtain ⟨a, c, e, ⟨m, _⟩, _⟩ := h
    rw [List.length_map] at m
    exact m
  have HB0 : Hid (Below w.heap.size w w) := Lib.hid (Below.refl _ _)
  have HRf0 := Lib.hid (h)
  clear h
  by_cases hbig : (65536 : Int) < (L.length : Int)
  · go_enter Try.func4, Try.ntmps4
    go_wp2_with fail
    refine (vBig_any ad L.length cp _ true (decide_eq_true hbig)).mono ?_
    rintro e w' ⟨rfl, hw⟩
    subst w'
    go_wp2_with fail
    go_ret
    exact ⟨rfl, Below.refl _ _⟩
  · go_enter Try.func4, Try.ntmps4
    go_wp2_with fail
    refine (vBig_any ad L.length cp _ false (decide_eq_false (by omega))).mono ?_
    rintro e w' ⟨rfl, hw⟩
    subst w'
    go_wp2_with fail
    refine (drawSplit_any _ L _ HRf0.out).mono ?_
    rintro e w1 ⟨⟨s, sep, rfl, hs, hsep⟩, hb⟩
    have HB1 : Hid (Below w.heap.size w w1) := Lib.hid (HB0.out.trans (hb.mono HB0.out.size))
    have HZ1 : Hid (w.heap.size ≤ w1.heap.size) := Lib.hid hb.size
    have HRf1 := Lib.hid (HRf0.out.below HB1.out (Nat.le_refl _))
    clear hb
    by_cases h1 : sep.size = 1
    · obtain ⟨c, rfl⟩ : ∃ c, sep = ⟨#[c]⟩ := by
        obtain ⟨⟨l⟩⟩ := sep
        have hl : l.length = 1 := h1
        obtain ⟨c, rfl⟩ := List.length_eq_one_iff.1 hl
        exact ⟨c, rfl⟩
      have hsc : (⟨#[c]⟩ : ByteArray).size = 1 := rfl
      have HPOS := Lib.hid (pcs_pos c s)
      have HCAN := Lib.hid (pcs_can c s (by omega))
      have hpl := pcs_le c s
      have hss : (s.toList == s.toList) = true := by simp
      clear h1
      go_wp2_with fail
      refine (implSplit_yes s c _ (by omega)).mono ?_
      rintro e w2 ⟨⟨v, rfl, ho⟩, hb⟩
      have HB2 : Hid (Below w.heap.size w w2) := Lib.hid (HB1.out.trans (hb.mono HB1.out.size))
      have HZ2 : Hid (w1.heap.size ≤ w2.heap.size) := Lib.hid hb.size
      have HRf2 := Lib.hid (HRf0.out.below HB2.out (Nat.le_refl _))
      clear hb
      have HOl2 := Lib.hid (Ow.mk' ho)
      clear ho
      go_wp2_with fail
      refine (drawJoin_any _ L _ HRf2.out).mono ?_
      rintro e w3 ⟨⟨k, ss, mark, rfl, hk, hsl, hsz, hmk⟩, hb⟩
      have HB3 : Hid (Below w.heap.size w w3) := Lib.hid (HB2.out.trans (hb.mono HB2.out.size))
      have HZ3 : Hid (w2.heap.size ≤ w3.heap.size) := Lib.hid hb.size
      have HRf3 := Lib.hid (HRf0.out.below HB3.out (Nat.le_refl _))
      have HOl3 := Lib.hid (HOl2.out.next hb)
      clear hb
      have HRk3 := Lib.hid (hk)
      have HBs3_3 : Hid (Below w3.heap.size w3 w3) := Lib.hid (Below.refl _ _)
      clear hk
      obtain ⟨r, b, hJs, hJi⟩ := join_same ss mark (by omega) (fun x hx => by have := hsz x hx; omega) (by omega)
      have HJS := Lib.hid hJs
      have HJI := Lib.hid hJi
      have hrr : (!r.toList == r.toList) = false := by simp
      have hbb : (b != b) = false := by simp
      clear hJs hJi hsz
      go_wp2_with fail
      refine (HJI.out _ _ HRk3.out).mono ?_
      rintro e w4 ⟨rfl, hb⟩
      have HB4 : Hid (Below w.heap.size w w4) := Lib.hid (HB3.out.trans (hb.mono HB3.out.size))
      have HZ4 : Hid (w3.heap.size ≤ w4.heap.size) := Lib.hid hb.size
      have HRf4 := Lib.hid (HRf0.out.below HB4.out (Nat.le_refl _))
      have HOl4 := Lib.hid (HOl3.out.next hb)
      have HRk4 := Lib.hid (HRk3.out.below hb (Nat.le_refl _))
      have HBs3_4 : Hid (Below w3.heap.size w3 w4) := Lib.hid (HBs3_3.out.trans (hb.mono HBs3_3.out.size))
      clear hb
      go_wp2_with fail
      refine (join_below (HJS.out _ _ HRk4.out)).mono ?_
      rintro e w5 ⟨rfl, hb⟩
      have HB5 : Hid (Below w.heap.size w w5) := Lib.hid (HB4.out.trans (hb.mono HB4.out.size))
      have HZ5 : Hid (w4.heap.size ≤ w5.heap.size) := Lib.hid hb.size
      have HRf5 := Lib.hid (HRf0.out.below HB5.out (Nat.le_refl _))
      have HOl5 := Lib.hid (HOl4.out.next hb)
      have HRk5 := Lib.hid (HRk4.out.below hb (Nat.le_refl _))
      have HBs3_5 : Hid (Below w3.heap.size w3 w5) := Lib.hid (HBs3_4.out.trans (hb.mono HBs3_4.out.size))
      clear hb
      go_wp2_with fail
      refine (drawLess_any _ L _ HRf5.out).mono ?_
      rintro e w6 ⟨⟨x, y, rfl, hx, hy⟩, hb⟩
      have HB6 : Hid (Below w.heap.size w w6) := Lib.hid (HB5.out.trans (hb.mono HB5.out.size))
      have HZ6 : Hid (w5.heap.size ≤ w6.heap.size) := Lib.hid hb.size
      have HRf6 := Lib.hid (HRf0.out.below HB6.out (Nat.le_refl _))
      have HOl6 := Lib.hid (HOl5.out.next hb)
      have HRk6 := Lib.hid (HRk5.out.below hb (Nat.le_refl _))
      have HBs3_6 : Hid (Below w3.heap.size w3 w6) := Lib.hid (HBs3_5.out.trans (hb.mono HBs3_5.out.size))
      clear hb
      have HAS := Lib.hid (less_asym x.toList y.toList)
      have HI1 := Lib.hid (fun w => implLess_any x y w)
      have HS1 := Lib.hid (fun w => specLess_any x y w)
      have HI2 := Lib.hid (fun w => implLess_any y x w)
      generalize Op.bytesLess x.toList y.toList = B1 at HAS HI1 HS1
      generalize Op.bytesLess y.toList x.toList = B2 at HAS HI2
      have hB1 : (B1 != B1) = false := by simp
      cases B1 with
      | true =>
        have HB2 := HAS.out rfl
        subst HB2
        go_wp2_with fail
        refine (HI1.out _).mono ?_
        rintro e w' ⟨rfl, hw⟩
        subst w'
        go_wp2_with fail
        refine (HS1.out _).mono ?_
        rintro e w' ⟨rfl, hw⟩
        subst w'
        go_wp2_with fail
        refine (HI1.out _).mono ?_
        rintro e w' ⟨rfl, hw⟩
        subst w'
        go_wp2_with fail
        refine (HI2.out _).mono ?_
        rintro e w' ⟨rfl, hw⟩
        subst w'
        go_wp2_with fail
        refine (implJoin_yes _ (pcs c s) c _ (slr_own HOl6.out.1) (by omega) HPOS.out HCAN.out).mono ?_
        rintro e w7 ⟨rfl, hb⟩
        have HB7 : Hid (Below w.heap.size w w7) := Lib.hid (HB6.out.trans (hb.mono HB6.out.size))
        have HZ7 : Hid (w6.heap.size ≤ w7.heap.size) := Lib.hid hb.size
        have HRf7 := Lib.hid (HRf0.out.below HB7.out (Nat.le_refl _))
        have HOl7 := Lib.hid (HOl6.out.next hb)
        have HRk7 := Lib.hid (HRk6.out.below hb (Nat.le_refl _))
        have HBs3_7 : Hid (Below w3.heap.size w3 w7) := Lib.hid (HBs3_6.out.trans (hb.mono HBs3_6.out.size))
        clear hb
        rw [pcs_join]
        go_wp2_with fail
        go_ret
        exact ⟨rfl, HB7.out⟩
      | false =>
        go_wp2_with fail
        refine (HI1.out _).mono ?_
        rintro e w' ⟨rfl, hw⟩
        subst w'
        go_wp2_with fail
        refine (HS1.out _).mono ?_
        rintro e w' ⟨rfl, hw⟩
        subst w'
        go_wp2_with fail
        refine (HI1.out _).mono ?_
        rintro e w' ⟨rfl, hw⟩
        subst w'
        go_wp2_with fail
        refine (implJoin_yes _ (pcs c s) c _ (slr_own HOl6.out.1) (by omega) HPOS.out HCAN.out).mono ?_
        rintro e w7 ⟨rfl, hb⟩
        have HB7 : Hid (Below w.heap.size w w7) := Lib.hid (HB6.out.trans (hb.mono HB6.out.size))
        have HZ7 : Hid (w6.heap.size ≤ w7.heap.size) := Lib.hid hb.size
        have HRf7 := Lib.hid (HRf0.out.below HB7.out (Nat.le_refl _))
        have HOl7 := Lib.hid (HOl6.out.next hb)
        have HRk7 := Lib.hid (HRk6.out.below hb (Nat.le_refl _))
        have HBs3_7 : Hid (Below w3.heap.size w3 w7) := Lib.hid (HBs3_6.out.trans (hb.mono HBs3_6.out.size))
        clear hb
        rw [pcs_join]
        go_wp2_with fail
        go_ret
        exact ⟨rfl, HB7.out⟩
    · have hse : ((sep.size : Int) != 1) = true := by rw [bne_iff_ne]; omega
      go_wp2_with fail
      refine (implSplit_no s sep _ (fun e => h1 e.2)).mono ?_
      rintro e w2 ⟨⟨v, rfl, ho⟩, hb⟩
      have HB2 : Hid (Below w.heap.size w w2) := Lib.hid (HB1.out.trans (hb.mono HB1.out.size))
      have HZ2 : Hid (w1.heap.size ≤ w2.heap.size) := Lib.hid hb.size
      have HRf2 := Lib.hid (HRf0.out.below HB2.out (Nat.le_refl _))
      clear hb
      obtain ⟨al, cl, rfl⟩ := own_form ho
      clear ho
      clear h1
      go_wp2_with fail
      refine (drawJoin_any _ L _ HRf2.out).mono ?_
      rintro e w3 ⟨⟨k, ss, mark, rfl, hk, hsl, hsz, hmk⟩, hb⟩
      have HB3 : Hid (Below w.heap.size w w3) := Lib.hid (HB2.out.trans (hb.mono HB2.out.size))
      have HZ3 : Hid (w2.heap.size ≤ w3.heap.size) := Lib.hid hb.size
      have HRf3 := Lib.hid (HRf0.out.below HB3.out (Nat.le_refl _))
      clear hb
      have HRk3 := Lib.hid (hk)
      have HBs3_3 : Hid (Below w3.heap.size w3 w3) := Lib.hid (Below.refl _ _)
      clear hk
      obtain ⟨r, b, hJs, hJi⟩ := join_same ss mark (by omega) (fun x hx => by have := hsz x hx; omega) (by omega)
      have HJS := Lib.hid hJs
      have HJI := Lib.hid hJi
      have hrr : (!r.toList == r.toList) = false := by simp
      have hbb : (b != b) = false := by simp
      clear hJs hJi hsz
      go_wp2_with fail
      refine (HJI.out _ _ HRk3.out).mono ?_
      rintro e w4 ⟨rfl, hb⟩
      have HB4 : Hid (Below w.heap.size w w4) := Lib.hid (HB3.out.trans (hb.mono HB3.out.size))
      have HZ4 : Hid (w3.heap.size ≤ w4.heap.size) := Lib.hid hb.size
      have HRf4 := Lib.hid (HRf0.out.below HB4.out (Nat.le_refl _))
      have HRk4 := Lib.hid (HRk3.out.below hb (Nat.le_refl _))
      have HBs3_4 : Hid (Below w3.heap.size w3 w4) := Lib.hid (HBs3_3.out.trans (hb.mono HBs3_3.out.size))
      clear hb
      go_wp2_with fail
      refine (join_below (HJS.out _ _ HRk4.out)).mono ?_
      rintro e w5 ⟨rfl, hb⟩
      have HB5 : Hid (Below w.heap.size w w5) := Lib.hid (HB4.out.trans (hb.mono HB4.out.size))
      have HZ5 : Hid (w4.heap.size ≤ w5.heap.size) := Lib.hid hb.size
      have HRf5 := Lib.hid (HRf0.out.below HB5.out (Nat.le_refl _))
      have HRk5 := Lib.hid (HRk4.out.below hb (Nat.le_refl _))
      have HBs3_5 : Hid (Below w3.heap.size w3 w5) := Lib.hid (HBs3_4.out.trans (hb.mono HBs3_4.out.size))
      clear hb
      go_wp2_with fail
      refine (drawLess_any _ L _ HRf5.out).mono ?_
      rintro e w6 ⟨⟨x, y, rfl, hx, hy⟩, hb⟩
      have HB6 : Hid (Below w.heap.size w w6) := Lib.hid (HB5.out.trans (hb.mono HB5.out.size))
      have HZ6 : Hid (w5.heap.size ≤ w6.heap.size) := Lib.hid hb.size
      have HRf6 := Lib.hid (HRf0.out.below HB6.out (Nat.le_refl _))
      have HRk6 := Lib.hid (HRk5.out.below hb (Nat.le_refl _))
      have HBs3_6 : Hid (Below w3.heap.size w3 w6) := Lib.hid (HBs3_5.out.trans (hb.mono HBs3_5.out.size))
      clear hb
      have HAS := Lib.hid (less_asym x.toList y.toList)
      have HI1 := Lib.hid (fun w => implLess_any x y w)
      have HS1 := Lib.hid (fun w => specLess_any x y w)
      have HI2 := Lib.hid (fun w => implLess_any y x w)
      generalize Op.bytesLess x.toList y.toList = B1 at HAS HI1 HS1
      generalize Op.bytesLess y.toList x.toList = B2 at HAS HI2
      have hB1 : (B1 != B1) = false := by simp
      cases B1 with
      | true =>
        have HB2 := HAS.out rfl
        subst HB2
        go_wp2_with fail
        refine (HI1.out _).mono ?_
        rintro e w' ⟨rfl, hw⟩
        subst w'
        go_wp2_with fail
        refine (HS1.out _).mono ?_
        rintro e w' ⟨rfl, hw⟩
        subst w'
        go_wp2_with fail
        refine (HI1.out _).mono ?_
        rintro e w' ⟨rfl, hw⟩
        subst w'
        go_wp2_with fail
        refine (HI2.out _).mono ?_
        rintro e w' ⟨rfl, hw⟩
        subst w'
        go_wp2_with fail
        go_ret
        exact ⟨rfl, HB6.out⟩
      | false =>
        go_wp2_with fail
        refine (HI1.out _).mono ?_
        rintro e w' ⟨rfl, hw⟩
        subst w'
        go_wp2_with fail
        refine (HS1.out _).mono ?_
        rintro e w' ⟨rfl, hw⟩
        subst w'
        go_wp2_with fail
        refine (HI1.out _).mono ?_
        rintro e w' ⟨rfl, hw⟩
        subst w'
        go_wp2_with fail
        go_ret
        exact ⟨rfl, HB6.out⟩
end Go.Proofs.Ytfmkdfmholhnjaa
