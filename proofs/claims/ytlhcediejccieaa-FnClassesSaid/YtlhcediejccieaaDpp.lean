/- A list of pupils, drawn. -/
import Derived.Test.YtlhcediejccieaaDpu
import Derived.Test.YtlhcediejccieaaPgood
import Derived.Test.YtlhcediejccieaaAppn
namespace Go.Proofs.Ytlhcediejccieaa
set_option linter.unusedVariables false
open Go.RowKit
set_option linter.unusedSimpArgs false

theorem puC_oneD (p : Pu) : ∀ u ∈ puC p, u.oneCell' = true := by intro u hu; simp [puC] at hu; rcases hu with rfl | rfl | rfl | rfl | rfl <;> rfl
theorem grown_freshD {w wi w' : World} {r cr : Option Nat} (h1 : w.grownBy wi cr) (h2 : wi.grownBy w' r) (hr : ∀ q, q < w.heap.size → some q ≠ r) : w.grownBy w' cr :=
  ⟨h2.os.trans h1.os, h2.tape.trans h1.tape, h2.output.trans h1.output, Nat.le_trans h1.size h2.size, fun q hq hn => (h2.block q (Nat.lt_of_lt_of_le hq h1.size) (hr q hq)).trans (h1.block q hq hn)⟩
theorem five_new {w : World} {a b c d e : Value} {T : TypeId} {j : Nat} {u : Value} (hu : [a, b, c, d, e][j]? = some u) : (w.alloc (.cells #[a, b, c, d, e] T)).cell? ((⟨w.heap.size, 0, none⟩ : Addr).add j) = some u := by
  have h2 := cell5 (alloc_at (w := w) (o := .cells #[a, b, c, d, e] T) rfl)
  match j, hu with
  | 0, hu => simp at hu; subst hu; exact h2.1
  | 1, hu => simp at hu; subst hu; exact h2.2.1
  | 2, hu => simp at hu; subst hu; exact h2.2.2.1
  | 3, hu => simp at hu; subst hu; exact h2.2.2.2.1
  | 4, hu => simp at hu; subst hu; exact h2.2.2.2.2.1
  | k + 5, hu => simp at hu

set_option maxRecDepth 100000 in
set_option maxHeartbeats 6400000 in
theorem pupils_any (cb : Nat) (cd : Value) (L : List UInt8) (n : Nat) (w : World) (hn : n < 4611686018427200000) (hc : CurAt w cb cd n) (hr : CodeR w cb cd L) :
    Calls Try.prog 46 #[.pointer (some ⟨cb, 0, none⟩)] w fun e w' => (∃ (v : Value) (ps : List Pu), e = .returned v ∧ PuX w.heap.size w' v ps ∧ ps.length ≤ 13 ∧ ∀ p ∈ ps, p.name.size ≤ 11) ∧ CurAt w' cb cd (n + 400) ∧ w.grownBy w' (some cb) := by
  obtain ⟨i0, hi, hz0, hz1, hz2⟩ := info_parts Try.infoPupil
  have hcb := hc.lt
  have HR := Lib.hid hr
  obtain ⟨w1, hW1⟩ : ∃ u, w.alloc (.cells #[] 38) = u := ⟨_, rfl⟩
  have hg1 : w.grownBy w1 (some cb) := by rw [← hW1]; exact grown_any (grown_alloc _ _ _)
  have HX1 : Hid (PuX w.heap.size w1 (.slice (some ⟨w.heap.size, 0, none⟩) 0 0) []) := Lib.hid ⟨⟨_, 0, rfl, ⟨Nat.zero_le _, Nat.le_refl _⟩, fun h => absurd h (by simp)⟩, fun a m c e => by cases e; exact Nat.le_refl _⟩
  have hc1 : CurAt w1 cb cd n := by rw [← hW1]; exact hc.old (grown_alloc _ _ _)
  have HP1 := Lib.hid (pick_any cb cd L n 11 w1 (by omega) (by omega) (by omega) hc1 (HR.out.grown hg1))
  have HG1 := Lib.hid hg1
  clear hc hr hg1 hc1
  go_enter Try.func46, Try.ntmps46
  go_wp2_with fail
  try rw [hW1]
  refine (HP1.out).mono ?_
  rintro e w3 ⟨⟨r, rfl, r0, r1⟩, hc3, hg3⟩
  have HC3 := Lib.hid hc3
  have HX3 := Lib.hid (HX1.out.grown hg3 hcb)
  have HG3 := Lib.hid (grown_trans HG1.out hg3)
  clear hc3 hg3 hW1
  go_wp2_with fail
  go_loopw [3, 4, 5] (fun out iv nv wr => ∃ (K : Int) (m : Nat) (idv : Int) (ps : List Pu) (oa : Option Addr) (cp : Nat), nv = .int .i64 K ∧ iv = .int .i64 idv ∧ out = .slice oa ps.length cp ∧ 0 ≤ K ∧ (ps.length : Int) + K ≤ 10 ∧ (∀ p ∈ ps, p.name.size ≤ 11) ∧ (m : Int) + 20 * K ≤ n + 300 ∧ w.grownBy wr (some cb) ∧ CurAt wr cb cd m ∧ PuX w.heap.size wr (.slice oa ps.length cp) ps) (fun _ _ nv _ => (intOf nv).toNat)
  case atStart => exact ⟨r, n + 2, 0, [], _, 0, rfl, rfl, rfl, r0, by simp; omega, (fun p hp => by cases hp), by omega, HG3.out, HC3.out, HX3.out⟩
  case round =>
    obtain ⟨K, m, idv, ps, oa, cp, rfl, rfl, rfl, hK, hl, hnm, hm, hg, hc, hx⟩ := hrel
    by_cases hk : 0 < K
    · skip
      have z0 : (0 : Int) < K := hk
      have hw1 : IntKind.i64.wrap (K - 1) = K - 1 := by rw [IntKind.wrap_i64]; omega
      have HX := Lib.hid hx
      have HNM := Lib.hid hnm
      have HG := Lib.hid hg
      have HPK := Lib.hid (pick_any cb cd L m 3 wr (by omega) (by omega) (by omega) hc (HR.out.grown hg))
      clear hx hnm hg hc
      go_wp2_with fail
      refine (HPK.out).mono ?_
      rintro e w2 ⟨⟨r, rfl, r0, r1⟩, hc2, hg2⟩
      have HX2 := Lib.hid (HX.out.grown hg2 hcb)
      have HG2 := Lib.hid (grown_trans HG.out hg2)
      have HSRC := Lib.hid (HX2.out.1.src puC_len (by omega))
      have HC2 := Lib.hid hc2
      clear hc2 hg2
      have HLE : Hid (w.heap.size ≤ w2.heap.size) := Lib.hid HG2.out.size
      go_wp2_with (at_builtin; refine wpList_append_src rfl _ _ 24 rfl w2.heap.size 38 i0 (.agg #[.int .i64 0, .string ⟨#[]⟩, .int .i64 0, .int .i64 0, .int .i64 0]) 5 48 Try.underlying24 hi hz0 hz1 hz2 rfl (by decide) puC_len puC_oneD w2.heap.size rfl (World.ownsRow_made w2 #[] 0 (Nat.le_refl _) (Nat.zero_le _) (by simp)) oa cp ps rfl ?qc1 ?qc4 ?qc5 ?qc6 ?_)
      case qc1 =>
        rcases HSRC.out with h | ⟨ad, h1, h2⟩
        · exact .inl h
        · exact .inr ⟨ad, h1, h2 _ ((Below.refl _ w2).alloc (Nat.le_refl _) _)⟩
      case qc4 => unfold maxLen; omega
      case qc5 => omega
      case qc6 => simp
      intro v4 w4 hown hgrow
      have HG4 := Lib.hid (grown_freshD (grown_any (r := some cb) (grown_alloc w2 (.cells #[] 38) none)) hgrow (fun q hq e => by injection e with e; omega))
      have hc4 := (HC2.out.old (grown_alloc w2 (.cells #[] 38) none)).row hgrow (by intro e; injection e with e; have := HG2.out.size; omega)
      obtain ⟨qa, qc, rfl⟩ := own_form hown
      have HO4 := Lib.hid hown
      have HPU := Lib.hid (fun id2 => pupil_any cb cd L (m + 2) id2 w4 (by omega) hc4 (HR.out.grown (grown_trans HG2.out HG4.out)))
      clear hown hgrow hc4
      go_wp2_with fail
      refine (HPU.out _).mono ?_
      generalize wrap64 (wrap64 (idv + 1) + r) = id2
      rintro e w5 ⟨⟨i, x, b, c, l, rfl, hx11⟩, hc5, hg5⟩
      have HO5 := Lib.hid (own_grown HO4.out hg5 (by have := HLE.out; omega))
      have HG5 := Lib.hid (grown_trans HG4.out hg5)
      have HC5 := Lib.hid hc5
      have HXX := Lib.hid hx11
      clear hc5 hg5 hx11
      go_wp2_with (at_builtin; refine wpList_append_own _ rfl _ _ 24 rfl w2.heap.size 38 i0 (.agg #[.int .i64 0, .string ⟨#[]⟩, .int .i64 0, .int .i64 0, .int .i64 0]) 5 48 Try.underlying24 hi hz0 hz1 hz2 rfl (by decide) _ _ _ rfl (HO5.out.alloc _) ⟨w5.heap.size, 0, none⟩ 1 1 [.int .i64 i, .string x, .int .i64 b, .int .i64 c, .int .i64 l] rfl rfl ?d1 ?d2 ?d3 ?d4 ?d5 ?_)
      case d1 => intro j u hu; exact five_new hu
      case d2 => exact puC_oneD ⟨i, x, b, c, l⟩
      case d3 => unfold maxLen; omega
      case d4 => omega
      case d5 => have := HG5.out.size; simp; omega
      intro v7 w7 hown7 hgrow7 _
      have HG7 := Lib.hid (grown_freshD (grown_trans HG5.out (grown_any (r := some cb) (grown_alloc w5 (.cells #[.int .i64 i, .string x, .int .i64 b, .int .i64 c, .int .i64 l] 38) none))) hgrow7 (fun q hq e => by have := (HO5.out.lt q e.symm).1; omega))
      have HC7 := Lib.hid ((HC5.out.old (grown_alloc w5 (.cells #[.int .i64 i, .string x, .int .i64 b, .int .i64 c, .int .i64 l] 38) none)).row hgrow7 (by intro e; have := (HO5.out.lt cb e.symm).1; have := HLE.out; omega))
      have HO7 : Hid (w7.ownsRow w2.heap.size 38 5 v7 (ps ++ [⟨i, x, b, c, l⟩] : List Pu).length (flatC puC (ps ++ [⟨i, x, b, c, l⟩] : List Pu))) := Lib.hid (by rw [List.length_append, List.length_singleton, flatC_app]; exact hown7)
      have HP7 := Lib.hid ((PuX.of_own HO7.out).mono HLE.out)
      have HN7 : Hid (∀ p ∈ (ps ++ [⟨i, x, b, c, l⟩] : List Pu), p.name.size ≤ 11) := Lib.hid (by
        intro p hp
        rcases List.mem_append.1 hp with h1 | h1
        · exact HNM.out p h1
        · rw [List.mem_singleton.1 h1]; exact HXX.out)
      have hl7 : (ps ++ [⟨i, x, b, c, l⟩] : List Pu).length = ps.length + 1 := by rw [List.length_append, List.length_singleton]
      have HL7 := Lib.hid hl7
      obtain ⟨g, hgd⟩ : ∃ g : Bool, g = true ↔ okL (ps ++ [⟨i, x, b, c, l⟩] : List Pu) := by
        by_cases h : okL (ps ++ [⟨i, x, b, c, l⟩] : List Pu)
        · exact ⟨true, by simp [h]⟩
        · exact ⟨false, by simp [h]⟩
      have HGD := Lib.hid (l3Good_any v7 (ps ++ [⟨i, x, b, c, l⟩] : List Pu) w7 HP7.out.1 (fun p hp => by have := HN7.out p hp; unfold maxLen; omega) (by omega) g hgd)
      clear hown7 hgrow7 hl7 hgd
      generalize (ps ++ [⟨i, x, b, c, l⟩] : List Pu) = qs at HO7 HP7 HN7 HL7 HGD
      obtain ⟨sa, sc, rfl⟩ := own_form HO7.out
      go_wp2_with fail
      refine (HGD.out).mono ?_
      rintro e w8 ⟨rfl, hb8⟩
      have hn8 : w7.grownBy w8 none := ⟨hb8.os, hb8.tape, hb8.output, hb8.size, fun k hk _ => hb8.block k hk⟩
      have HG8 := Lib.hid (grown_trans HG7.out (grown_any (r := some cb) hn8))
      have HC8 := Lib.hid (HC7.out.old hn8)
      have HP8 := Lib.hid (HP7.out.grown (grown_any (r := some cb) hn8) hcb)
      clear hb8 hn8
      cases g with
      | true =>
        go_wp2_with fail
        go_roundw
        case rel => exact ⟨K - 1, m + 2 + 12, id2, qs, sa, sc, rfl, rfl, rfl, by omega, by have := HL7.out; omega, HN7.out, by omega, grown_trans HG2.out HG8.out, HC8.out, HP8.out⟩
        case measure => simp [intOf]; omega
      | false =>
        go_wp2_with fail
        refine (one_any cb cd L (m + 2 + 12) 60 w8 (by omega) ⟨by omega, by omega⟩ HC8.out (HR.out.grown (grown_trans HG2.out HG8.out))).mono ?_
        rintro e w9 ⟨⟨b9, rfl⟩, hc9, hg9⟩
        have HG9 := Lib.hid (grown_trans HG8.out hg9)
        have HC9 := Lib.hid hc9
        have HP9 := Lib.hid (HP8.out.grown hg9 hcb)
        clear hc9 hg9
        cases b9 with
        | true =>
          go_wp2_with fail
          go_roundw
          case rel => exact ⟨K - 1, m + 2 + 12 + 2, id2, qs, sa, sc, rfl, rfl, rfl, by omega, by have := HL7.out; omega, HN7.out, by omega, grown_trans HG2.out HG9.out, HC9.out, HP9.out⟩
          case measure => simp [intOf]; omega
        | false =>
          go_wp2_with fail
          go_roundw
          case rel => exact ⟨K - 1, m + 2 + 12 + 2, id2, ps, oa, cp, rfl, rfl, rfl, by omega, by omega, HNM.out, by omega, grown_trans HG2.out HG9.out, HC9.out, HX2.out.grown HG9.out hcb⟩
          case measure => simp [intOf]; omega
    · have HX := Lib.hid hx
      have HNM := Lib.hid hnm
      have HG := Lib.hid hg
      have HON := Lib.hid (one_any cb cd L m 24 wr (by omega) ⟨by omega, by omega⟩ hc (HR.out.grown hg))
      clear hx hnm hg hc
      go_wp2_with fail
      refine (HON.out).mono ?_
      rintro e w5 ⟨⟨b, rfl⟩, hc5, hg5⟩
      have HX5 := Lib.hid (HX.out.grown hg5 hcb)
      have HG5 := Lib.hid (grown_trans HG.out hg5)
      obtain ⟨m5, hm5⟩ : ∃ m5, m + 2 = m5 := ⟨_, rfl⟩
      rw [hm5] at hc5
      have HC5 := Lib.hid hc5
      clear hc5 hg5
      cases b with
      | false =>
        go_wp2_with fail
        go_ret
        exact ⟨⟨_, ps, rfl, HX5.out, by omega, HNM.out⟩, HC5.out.more (by omega), HG5.out⟩
      | true =>
        have HO0 := World.ownsRow_made w5 #[] (e := 38) (size := 5) 0 (Nat.le_refl w5.heap.size) (Nat.zero_le _) (by simp)
        have HO1 : Hid ((w5.alloc (.cells #[] 38)).ownsRow w.heap.size 38 5 (.slice (some ⟨w5.heap.size, 0, none⟩) ([] : List Pu).length 0) ([] : List Pu).length (flatC puC [])) := Lib.hid (own_mono HO0 HG5.out.size)
        have HG6 := Lib.hid (grown_trans HG5.out (grown_any (r := some cb) (grown_alloc w5 (.cells #[] 38) none)))
        have HC6 := Lib.hid (HC5.out.old (grown_alloc w5 (.cells #[] 38) none))
        clear HO0
        go_wp2_with fail
        go_loopw [3, 7] (fun out nv wr => ∃ (J : Int) (m : Nat) (ps : List Pu) (oa : Option Addr) (cp : Nat), nv = .int .i64 J ∧ out = .slice oa ps.length cp ∧ (ps.length : Int) = J ∧ J ≤ 13 ∧ Hid (∀ p ∈ ps, p.name.size ≤ 11) ∧ (m : Int) ≤ n + 310 + 2 * J ∧ Hid (w.grownBy wr (some cb)) ∧ Hid (CurAt wr cb cd m) ∧ Hid (wr.ownsRow w.heap.size 38 5 (.slice oa ps.length cp) ps.length (flatC puC ps))) (fun _ nv _ => 14 - (intOf nv).toNat)
        case atStart => exact ⟨0, m5, [], _, _, rfl, rfl, rfl, by omega, Lib.hid (fun p hp => by cases hp), by omega, HG6, HC6, HO1⟩
        case round =>
          obtain ⟨J, m, ps, oa, cp, rfl, rfl, hJ, hJ13, HNM, hm, HG, HC, HO⟩ := hrel
          have hJ0 : 0 ≤ J := by omega
          have HPK := Lib.hid (pick_any cb cd L m 2 wr (by omega) (by omega) (by omega) HC.out (HR.out.grown HG.out))
          go_wp2_with fail
          refine (HPK.out).mono ?_
          rintro e wp ⟨⟨r, rfl, r0, r1⟩, hc2, hg2⟩
          have HG2 := Lib.hid (grown_trans HG.out hg2)
          have HC2 := Lib.hid hc2
          have HO2 := Lib.hid (own_grown HO.out hg2 hcb)
          clear hc2 hg2
          have hw12 : IntKind.i64.wrap (12 + r) = 12 + r := by rw [IntKind.wrap_i64]; omega
          by_cases hlt : J < 12 + r
          · have hw1 : IntKind.i64.wrap (J + 1) = J + 1 := by rw [IntKind.wrap_i64]; omega
            obtain ⟨q6, hq6⟩ : ∃ q, IntKind.i64.wrap (J.tdiv 6) = q := ⟨_, rfl⟩
            go_wp2_with (at_builtin; refine wpList_append_own _ rfl _ _ 24 rfl w.heap.size 38 i0 (.agg #[.int .i64 0, .string ⟨#[]⟩, .int .i64 0, .int .i64 0, .int .i64 0]) 5 48 Try.underlying24 hi hz0 hz1 hz2 rfl (by decide) _ _ _ rfl (HO2.out.alloc _) ⟨wp.heap.size, 0, none⟩ 1 1 [.int .i64 (J + 1), .string ⟨#[120]⟩, .int .i64 2000, .int .i64 q6, .int .i64 3] rfl rfl ?d1 ?d2 ?d3 ?d4 ?d5 ?_)
            case d1 => intro j u hu; exact five_new hu
            case d2 => exact puC_oneD ⟨J + 1, ⟨#[120]⟩, 2000, q6, 3⟩
            case d3 => unfold maxLen; omega
            case d4 => omega
            case d5 => have := HG2.out.size; simp; omega
            intro v7 w7 hown7 hgrow7 _
            have HG7 := Lib.hid (grown_freshD (grown_trans HG2.out (grown_any (r := some cb) (grown_alloc wp (.cells #[.int .i64 (J + 1), .string ⟨#[120]⟩, .int .i64 2000, .int .i64 q6, .int .i64 3] 38) none))) hgrow7 (fun q hq e => by have := (HO2.out.lt q e.symm).1; omega))
            have HC7 := Lib.hid ((HC2.out.old (grown_alloc wp (.cells #[.int .i64 (J + 1), .string ⟨#[120]⟩, .int .i64 2000, .int .i64 q6, .int .i64 3] 38) none)).row hgrow7 (by intro e; have := (HO2.out.lt cb e.symm).1; omega))
            have HO7 : Hid (w7.ownsRow w.heap.size 38 5 v7 (ps ++ [⟨J + 1, ⟨#[120]⟩, 2000, q6, 3⟩] : List Pu).length (flatC puC (ps ++ [⟨J + 1, ⟨#[120]⟩, 2000, q6, 3⟩] : List Pu))) := Lib.hid (by rw [List.length_append, List.length_singleton, flatC_app]; exact hown7)
            have HN7 : Hid (∀ p ∈ (ps ++ [⟨J + 1, ⟨#[120]⟩, 2000, q6, 3⟩] : List Pu), p.name.size ≤ 11) := Lib.hid (by
              intro p hp
              rcases List.mem_append.1 hp with h1 | h1
              · exact HNM.out p h1
              · rw [List.mem_singleton.1 h1]; show 1 ≤ 11; omega)
            have HL7 : Hid ((ps ++ [⟨J + 1, ⟨#[120]⟩, 2000, q6, 3⟩] : List Pu).length = ps.length + 1) := Lib.hid (by rw [List.length_append, List.length_singleton])
            clear hown7 hgrow7
            generalize (ps ++ [⟨J + 1, ⟨#[120]⟩, 2000, q6, 3⟩] : List Pu) = qs at HO7 HN7 HL7
            obtain ⟨sa, sc, rfl⟩ := own_form HO7.out
            go_wp2_with fail
            go_roundw
            case rel => exact ⟨J + 1, m + 2, qs, sa, sc, rfl, rfl, by have := HL7.out; omega, by omega, HN7, by omega, HG7, HC7, HO7⟩
            case measure => simp [intOf]; omega
          · go_wp2_with fail
            go_ret
            exact ⟨⟨_, ps, rfl, PuX.of_own HO2.out, by omega, HNM.out⟩, HC2.out.more (by omega), HG2.out⟩
end Go.Proofs.Ytlhcediejccieaa
