/- The model's MergedMoves. -/
import Derived.Test.YtmkocinknhaniaaMgmath
import Derived.Test.YtmkocinknhaniaaKa
import Derived.BigQuiet
import Derived.StillTailTactics
namespace Go.Proofs.Ytmkocinknhaniaa
set_option linter.unusedVariables false
open Go.RowKit

theorem own_set3m {w : World} {B g cap : Nat} {e : TypeId} (p : List Mv) (l m : Mv) (h : w.ownsRow B e 3 (.slice (some ⟨g, 0, none⟩) (p.length + 1) cap) (p.length + 1) (flatC mvC (p ++ [l]))) :
    (((w.setCell ⟨g, p.length * 3, none⟩ (.int .i64 m.rod)).setCell ⟨g, p.length * 3 + 1, none⟩ (.int .i64 m.part)).setCell ⟨g, p.length * 3 + 2, none⟩ (.int .i64 m.amt)).ownsRow B e 3 (.slice (some ⟨g, 0, none⟩) (p.length + 1) cap) (p.length + 1) (flatC mvC (p ++ [m])) := by
  have h1 := (((h.stored (p.length * 3) (.int .i64 m.rod)).1.stored (p.length * 3 + 1) (.int .i64 m.part)).1.stored (p.length * 3 + 2) (.int .i64 m.amt)).1
  rw [flatC_app] at h1 ⊢
  have hl : (flatC mvC p).length = p.length * 3 := flatC_len mvC_len p
  have e1 : (((flatC mvC p ++ flatC mvC [l]).set (p.length * 3) (.int .i64 m.rod)).set (p.length * 3 + 1) (.int .i64 m.part)).set (p.length * 3 + 2) (.int .i64 m.amt) = flatC mvC p ++ flatC mvC [m] := by
    rw [← hl]
    simp [flatC, mvC, List.set_append_right]
  rwa [e1] at h1

set_option maxRecDepth 100000 in
set_option maxHeartbeats 6400000 in
theorem specMerged_in (v : Value) (ms : List Mv) (w : World) (h : RowsR 3 mvC w v ms) (ho : okMs ms) (qs : List Mv) (t : Bool) (hk : (mergeO ms = some qs ∧ t = true) ∨ (mergeO ms = none ∧ qs = [] ∧ t = false)) :
    Calls Try.prog 14 #[v] w fun e w' => (∃ sq, e = .returned (.tuple #[sq, .bool t]) ∧ w'.ownsRow w.heap.size 40 3 sq qs.length (flatC mvC qs)) ∧ Below w.heap.size w w' := by
  obtain ⟨i0, hi, hz0, hz1, hz2⟩ := info_parts Try.infoBeadMove
  have h60 : ms.length ≤ 60 := ho.2
  have HH := Lib.hid h
  obtain ⟨a, cp, rfl⟩ := h.form
  have R1 := Lib.hid h.at
  have HM := Lib.hid ho
  have HK := Lib.hid hk
  have HLE := Lib.hid (mergeO_len ms)
  clear h ho hk
  go_enter Try.func14, Try.ntmps14
  go_wp2_with fail
  have hb1 := (Below.refl w.heap.size w).alloc (Nat.le_refl _) (.cells #[] 40)
  refine (l4Good_any _ ms _ (HH.out.below hb1 (Nat.le_refl _)) true ⟨fun _ => HM.out, fun _ => rfl⟩).mono ?_
  rintro e w2 ⟨rfl, hb⟩
  have HO2 := Lib.hid (own_below (World.ownsRow_made (base := w.heap.size) (e := 40) (size := 3) w #[] 0 (Nat.le_refl _) (Nat.zero_le _) (by simp)) hb)
  have HB2 := Lib.hid (hb1.trans (hb.mono hb1.size))
  clear hb hb1
  go_wp2_with fail
  go_loopw [4, 5] (fun out i wr => ∃ (k : Nat) (o : List Mv) (g cap : Nat), k ≤ ms.length ∧ i = .int .i64 k ∧ out = .slice (some ⟨g, 0, none⟩) o.length cap ∧ Hid (mergeO (ms.take k) = some o) ∧ Hid (∀ m ∈ o, okMv m) ∧ wr.ownsRow w.heap.size 40 3 (.slice (some ⟨g, 0, none⟩) o.length cap) o.length (flatC mvC o) ∧ Below w.heap.size w wr) (fun _ i _ => ms.length - (intOf i).toNat)
  case atStart => exact ⟨0, [], _, _, Nat.zero_le _, rfl, rfl, Lib.hid rfl, Lib.hid (fun m h => by cases h), HO2.out, HB2.out⟩
  case round =>
    obtain ⟨k, o, g, cap, hk, rfl, rfl, HP, HOO, hown, hb⟩ := hrel
    have HO := Lib.hid hown
    have HB := Lib.hid hb
    have hszr := hb.size
    have holk : o.length ≤ k := HLE.out k hk o HP.out
    by_cases hlt : k < ms.length
    · have z1 : (0 : Int) ≤ (k : Int) := by omega
      have z2 : (k : Int) < (ms.length : Int) := by omega
      obtain ⟨b1, o1, rfl, l1, k1⟩ := R1.out _ hb k hlt
      have p0 : wr.cell? ⟨b1, o1 + k * 3, none⟩ = some (.int .i64 ms[k].rod) := k1 0 (by omega)
      have p1 : wr.cell? ⟨b1, o1 + k * 3 + 1, none⟩ = some (.int .i64 ms[k].part) := k1 1 (by omega)
      have p2 : wr.cell? ⟨b1, o1 + k * 3 + 2, none⟩ = some (.int .i64 ms[k].amt) := k1 2 (by omega)
      have HMK := Lib.hid (HM.out.1 k hlt)
      have HSN : Hid (mergeO (ms.take (k + 1)) = mergeStep o ms[k]) := Lib.hid (by rw [mergeO_snoc ms k hlt, HP.out]; rfl)
      have HON : Hid (mergeO (ms.take (k + 1)) = none → mergeO ms = none) := Lib.hid (mergeO_none ms (k + 1))
      generalize ms[k] = m at p0 p1 p2 HMK HSN
      obtain ⟨rod, part, amt⟩ := m
      have HBX : Hid (Below w.heap.size w (wr.alloc (.cells #[.int .i64 rod, .int .i64 part, .int .i64 amt] 40))) := Lib.hid (HB.out.alloc HB.out.size _)
      clear k1 hb hown
      rcases List.eq_nil_or_concat o with rfl | ⟨p, l, rfl⟩
      · have HST : Hid (mergeO (ms.take (k + 1)) = some [⟨rod, part, amt⟩]) := Lib.hid (by rw [HSN.out]; rfl)
        go_wp2_with fail
        have hmk : (wr.alloc (.cells #[.int .i64 rod, .int .i64 part, .int .i64 amt] 40)).heap[wr.heap.size]? = some (.cells #[.int .i64 rod, .int .i64 part, .int .i64 amt] 40 (0, 0)) := alloc_at rfl
        have how := HO.out.alloc (.cells #[.int .i64 rod, .int .i64 part, .int .i64 amt] 40)
        clear p0 p1 p2
        generalize wr.alloc (.cells #[.int .i64 rod, .int .i64 part, .int .i64 amt] 40) = w21 at hmk how HBX ⊢
        have HMB := Lib.hid hmk
        have HOW := Lib.hid how
        obtain ⟨c0, c1, c2, _, _, _⟩ := cell3 hmk
        clear hmk how
        go_quiet (fail)
        rename Nat => nq
        have hbq : Below w21.heap.size w21 (w21.drewN nq) := bl_drewN (Below.refl _ w21) nq
        have HO22 := Lib.hid (own_below HOW.out hbq)
        have HB22 := Lib.hid (HBX.out.trans (hbq.mono HBX.out.size))
        have hm22 := (hbq.block _ (lt_of_block HMB.out)).trans HMB.out
        clear c0 c1 c2
        generalize w21.drewN nq = w22 at HO22 HB22 hm22 hbq ⊢
        obtain ⟨c0, c1, c2, _, _, _⟩ := cell3 hm22
        have HM22 := Lib.hid hm22
        have HLM := Lib.hid (lt_of_block hm22)
        have hsz22 := HB22.out.size
        clear hm22 hbq

        go_wp2_with (at_builtin; refine wpList_append_own _ rfl _ _ 24 rfl w.heap.size 40 i0 (.agg #[.int .i64 0, .int .i64 0, .int .i64 0]) 3 24 Try.underlying24 hi hz0 hz1 hz2 rfl (by decide) _ _ _ rfl (HO22.out.alloc _) ⟨w22.heap.size, 0, none⟩ 1 1 (mvC ⟨rod, part, amt⟩) rfl rfl ?c1 ?c2 ?c3 ?c4 ?c5 ?_)
        case c1 => exact news_at (vs := mvC ⟨rod, part, amt⟩) (alloc_at (by simp))
        case c2 => exact mvC_one _
        case c3 => first | (unfold maxLen; omega) | (simp; unfold maxLen; omega) | simp [maxLen]
        case c4 => first | omega | (simp; omega) | simp
        case c5 => simp; omega
        intro v' w23 hown23 hgrow23 _
        have HB23 : Hid (Below w.heap.size w w23) := Lib.hid ((HB22.out.alloc HB22.out.size _).grown hgrow23 (by simp; omega) (fun q hq => (HO22.out.lt q hq).1))
        obtain ⟨g2, cap2, rfl⟩ := own_some hown23 (by omega)
        have HO23 := Lib.hid hown23
        clear hown23 hgrow23
        go_wp2_with fail
        go_roundw
        case rel =>
          refine ⟨k + 1, [⟨rod, part, amt⟩], g2, cap2, by omega, by go_num, by simp, HST, Lib.hid (fun x hx => ?_), ?_, HB23.out⟩
          · rw [List.mem_singleton.1 hx]; exact HMK.out
          · have := HO23.out
            simpa [flatC, flatC_app] using this
        case measure => simp [intOf]; omega
      · rw [List.concat_eq_append] at HSN HOO HO holk HP ⊢
        have hln : (p ++ [l]).length = p.length + 1 := by simp
        rw [hln] at holk
        have hq0 : (0 : Int) ≤ (p.length : Int) := by omega
        have hq1 : (p.length : Int) < (p.length : Int) + 1 := by omega
        have hq2 : ¬ (p.length : Int) < 0 := by omega
        have hq60 : (p.length : Int) ≤ 60 := by omega
        have hqw : IntKind.i64.wrap (p.length : Int) = (p.length : Int) := by rw [IntKind.wrap_i64]; omega
        have hokl := HOO.out l (by simp)
        obtain ⟨lr, lp, la⟩ := l
        obtain ⟨⟨_, _⟩, ⟨_, _⟩, ⟨la0, la1⟩, _⟩ := hokl
        obtain ⟨⟨_, _⟩, ⟨_, _⟩, ⟨ma0, ma1⟩, _⟩ := HMK.out
        dsimp only at la0 la1 ma0 ma1
        clear hln
        by_cases hrd : lr = rod
        · by_cases hpt : lp = part
          · have hb1 : (lr != rod) = false := by simp [hrd]
            have hb2 : (lp != part) = false := by simp [hpt]
            have HRD := Lib.hid hrd
            have HPT := Lib.hid hpt
            clear hrd hpt
            go_wp2_with fail
            have hmk : (wr.alloc (.cells #[.int .i64 rod, .int .i64 part, .int .i64 amt] 40)).heap[wr.heap.size]? = some (.cells #[.int .i64 rod, .int .i64 part, .int .i64 amt] 40 (0, 0)) := alloc_at rfl
            have how := HO.out.alloc (.cells #[.int .i64 rod, .int .i64 part, .int .i64 amt] 40)
            clear p0 p1 p2
            generalize wr.alloc (.cells #[.int .i64 rod, .int .i64 part, .int .i64 amt] 40) = w21 at hmk how HBX ⊢
            have HMB := Lib.hid hmk
            have HOW := Lib.hid how
            obtain ⟨c0, c1, c2, _, _, _⟩ := cell3 hmk
            obtain ⟨⟨a0, a1, a2⟩, _⟩ := own_lastC p ⟨lr, lp, la⟩ (by simpa using how)
            dsimp only at a0 a1 a2
            have hglt := (how.lt g rfl).2
            clear hmk how
            go_quiet (fail)
            rename Nat => nq
            have hbq : Below w21.heap.size w21 (w21.drewN nq) := bl_drewN (Below.refl _ w21) nq
            have HO22 := Lib.hid (own_below HOW.out hbq)
            have HB22 := Lib.hid (HBX.out.trans (hbq.mono HBX.out.size))
            have hm22 := (hbq.block _ (lt_of_block HMB.out)).trans HMB.out
            clear c0 c1 c2
            clear a0 a1 a2
            generalize w21.drewN nq = w22 at HO22 HB22 hm22 hbq ⊢
            obtain ⟨c0, c1, c2, _, _, _⟩ := cell3 hm22
            have HM22 := Lib.hid hm22
            have HLM := Lib.hid (lt_of_block hm22)
            have hsz22 := HB22.out.size
            clear hm22 hbq

            have HO22' : Hid (w22.ownsRow w.heap.size 40 3 (.slice (some ⟨g, 0, none⟩) (p.length + 1) cap) (p.length + 1) (flatC mvC (p ++ [⟨lr, lp, la⟩]))) := Lib.hid (by have := HO22.out; simpa using this)
            obtain ⟨⟨a0, a1, a2⟩, hfz⟩ := own_lastC p ⟨lr, lp, la⟩ HO22'.out
            dsimp only at a0 a1 a2
            obtain ⟨S, hS⟩ : ∃ S, la + amt = S := ⟨_, rfl⟩
            have HS := Lib.hid hS
            have hSw : IntKind.i64.wrap (la + amt) = S := by rw [hS, IntKind.wrap_i64]; omega
            clear hfz hS
            have hcap := (own_cap HO22'.out).1
            have hcap2 := (own_cap HO22'.out).2
            unfold maxLen at hcap2
            have hgb : w.heap.size ≤ g := (HO22'.out.lt g rfl).1
            go_wp2_with fail
            go_quiet (fail)
            rename Nat => nq
            have hb23 : Below w22.heap.size w22 (w22.drewN nq) := bl_drewN (Below.refl _ w22) nq
            have HO23 := Lib.hid (own_below HO22'.out hb23)
            have HB23 := Lib.hid (HB22.out.trans (hb23.mono HB22.out.size))
            have hm23 := (hb23.block _ HLM.out).trans HM22.out
            clear a0 a1 a2 c0 c1 c2 hSw
            generalize w22.drewN nq = w23 at hb23 HO23 HB23 hm23 ⊢
            obtain ⟨c0, c1, c2, _, _, _⟩ := cell3 hm23
            obtain ⟨⟨a0, a1, a2⟩, hfz⟩ := own_lastC p ⟨lr, lp, la⟩ HO23.out
            dsimp only at a0 a1 a2
            clear hb23 hm23
            by_cases hS0 : S = 0
            · have HST : Hid (mergeO (ms.take (k + 1)) = some p) := Lib.hid (by rw [HSN.out]; exact mg_zero HRD.out HPT.out (by show la + amt = 0; rw [HS.out]; exact hS0))
              have hs0 : (S == 0) = true := by simp [hS0]
              have hc1 : (p.length : Int) ≤ (cap : Int) := by omega
              clear hS0 hfz
              go_wp2_with fail
              go_roundw
              case rel => exact ⟨k + 1, p, g, cap, by omega, by go_num, rfl, HST, Lib.hid (fun x hx => HOO.out x (by simp [hx])), own_pop p _ HO23.out, HB23.out⟩
              case measure => simp [intOf]; omega
            · have hs0 : (S == 0) = false := by simp [hS0]
              have HS0 := Lib.hid hS0
              by_cases hSb : -5 ≤ S ∧ S ≤ 5
              · have HOKS : Hid (okMv ⟨lr, lp, S⟩) := Lib.hid (by
                  have h1 := HOO.out ⟨lr, lp, la⟩ (by simp)
                  exact ⟨h1.1, h1.2.1, hSb, HS0.out⟩)
                have HST : Hid (mergeO (ms.take (k + 1)) = some (p ++ [⟨lr, lp, S⟩])) := Lib.hid (by
                  have := mg_sum (p := p) (l := ⟨lr, lp, la⟩) (m := ⟨rod, part, amt⟩) HRD.out HPT.out (by show ¬ la + amt = 0; rw [HS.out]; exact HS0.out) (by show -5 ≤ la + amt ∧ la + amt ≤ 5; rw [HS.out]; exact hSb)
                  rw [HSN.out, this, ← HRD.out, ← HPT.out]
                  show some (p ++ [Mv.mk lr lp (la + amt)]) = _
                  rw [HS.out])
                have HSB := Lib.hid hSb
                have hf0 := hfz (p.length * 3)
                have hf1 := hfz (p.length * 3 + 1)
                have hf2 := hfz (p.length * 3 + 2)
                have HNW : Hid ((((w23.setCell ⟨g, p.length * 3, none⟩ (.int .i64 rod)).setCell ⟨g, p.length * 3 + 1, none⟩ (.int .i64 part)).setCell ⟨g, p.length * 3 + 2, none⟩ (.int .i64 S)).ownsRow w.heap.size 40 3 (.slice (some ⟨g, 0, none⟩) (p.length + 1) cap) (p.length + 1) (flatC mvC (p ++ [⟨rod, part, S⟩]))) := Lib.hid (own_set3m p ⟨lr, lp, la⟩ ⟨rod, part, S⟩ HO23.out)
                have HBW : Hid (Below w.heap.size w (((w23.setCell ⟨g, p.length * 3, none⟩ (.int .i64 rod)).setCell ⟨g, p.length * 3 + 1, none⟩ (.int .i64 part)).setCell ⟨g, p.length * 3 + 2, none⟩ (.int .i64 S))) := Lib.hid (((HB23.out.setCell hgb _).setCell hgb _).setCell hgb _)
                clear hS0 hSb hfz
                go_wp2_with fail
                refine (l1In_yesq _ _ _ _ HSB.out).mono ?_
                rintro e w24 ⟨rfl, hw24⟩
                subst w24
                go_wp2_with fail
                go_roundw
                case rel =>
                  refine ⟨k + 1, p ++ [⟨lr, lp, S⟩], g, cap, by omega, by go_num, by simp, HST, Lib.hid (fun x hx => ?_), ?_, HBW.out⟩
                  · rcases List.mem_append.1 hx with hx | hx
                    · exact HOO.out x (by simp [hx])
                    · rw [List.mem_singleton.1 hx]; exact HOKS.out
                  · have := HNW.out
                    rw [HRD.out, HPT.out]
                    simpa using this
                case measure => simp [intOf]; omega
              · have HNS : Hid (¬ okMv ⟨lr, lp, S⟩) := Lib.hid (fun h => hSb h.2.2.1)
                have HE : Hid (qs = [] ∧ t = false) := Lib.hid (by
                  have hno := HON.out (by
                    rw [HSN.out]
                    exact mg_out (p := p) (l := ⟨lr, lp, la⟩) (m := ⟨rod, part, amt⟩) HRD.out HPT.out (by show ¬ la + amt = 0; rw [HS.out]; exact HS0.out) (by show ¬ (-5 ≤ la + amt ∧ la + amt ≤ 5); rw [HS.out]; exact hSb))
                  rcases HK.out with ⟨h, _⟩ | ⟨_, h⟩
                  · rw [hno] at h; cases h
                  · exact h)
                obtain ⟨rfl, rfl⟩ := HE.out
                have HSB := Lib.hid hSb
                clear hS0 hSb hfz
                go_wp2_with fail
                refine (l1In_noq _ _ _ _ HSB.out).mono ?_
                rintro e w24 ⟨rfl, hw24⟩
                subst w24
                go_wp2_with fail
                go_ret2
                exact ⟨⟨_, rfl, World.ownsRow_made (base := w.heap.size) (e := 40) (size := 3) _ #[] 0 HB23.out.size (Nat.zero_le _) (by simp)⟩, HB23.out.alloc HB23.out.size _⟩
          · have hb1 : (lr != rod) = false := by simp [hrd]
            have hb2 : (lp != part) = true := by simp [hpt]
            have HST : Hid (mergeO (ms.take (k + 1)) = some (p ++ [⟨lr, lp, la⟩] ++ [⟨rod, part, amt⟩])) := Lib.hid (by rw [HSN.out]; exact mg_diff (fun h => hpt h.2))
            clear hrd hpt
            go_wp2_with fail
            have hmk : (wr.alloc (.cells #[.int .i64 rod, .int .i64 part, .int .i64 amt] 40)).heap[wr.heap.size]? = some (.cells #[.int .i64 rod, .int .i64 part, .int .i64 amt] 40 (0, 0)) := alloc_at rfl
            have how := HO.out.alloc (.cells #[.int .i64 rod, .int .i64 part, .int .i64 amt] 40)
            clear p0 p1 p2
            generalize wr.alloc (.cells #[.int .i64 rod, .int .i64 part, .int .i64 amt] 40) = w21 at hmk how HBX ⊢
            have HMB := Lib.hid hmk
            have HOW := Lib.hid how
            obtain ⟨c0, c1, c2, _, _, _⟩ := cell3 hmk
            obtain ⟨⟨a0, a1, a2⟩, _⟩ := own_lastC p ⟨lr, lp, la⟩ (by simpa using how)
            dsimp only at a0 a1 a2
            have hglt := (how.lt g rfl).2
            clear hmk how
            go_quiet (fail)
            rename Nat => nq
            have hbq : Below w21.heap.size w21 (w21.drewN nq) := bl_drewN (Below.refl _ w21) nq
            have HO22 := Lib.hid (own_below HOW.out hbq)
            have HB22 := Lib.hid (HBX.out.trans (hbq.mono HBX.out.size))
            have hm22 := (hbq.block _ (lt_of_block HMB.out)).trans HMB.out
            clear c0 c1 c2
            clear a0 a1 a2
            generalize w21.drewN nq = w22 at HO22 HB22 hm22 hbq ⊢
            obtain ⟨c0, c1, c2, _, _, _⟩ := cell3 hm22
            have HM22 := Lib.hid hm22
            have HLM := Lib.hid (lt_of_block hm22)
            have hsz22 := HB22.out.size
            clear hm22 hbq
            have HO22' : Hid (w22.ownsRow w.heap.size 40 3 (.slice (some ⟨g, 0, none⟩) (p.length + 1) cap) (p.length + 1) (flatC mvC (p ++ [⟨lr, lp, la⟩]))) := Lib.hid (by have := HO22.out; simpa using this)

            go_wp2_with (at_builtin; refine wpList_append_own _ rfl _ _ 24 rfl w.heap.size 40 i0 (.agg #[.int .i64 0, .int .i64 0, .int .i64 0]) 3 24 Try.underlying24 hi hz0 hz1 hz2 rfl (by decide) _ _ _ rfl (HO22'.out.alloc _) ⟨w22.heap.size, 0, none⟩ 1 1 (mvC ⟨rod, part, amt⟩) rfl rfl ?c1 ?c2 ?c3 ?c4 ?c5 ?_)
            case c1 => exact news_at (vs := mvC ⟨rod, part, amt⟩) (alloc_at (by simp))
            case c2 => exact mvC_one _
            case c3 => first | (unfold maxLen; omega) | (simp; unfold maxLen; omega) | simp [maxLen]
            case c4 => first | omega | (simp; omega) | simp
            case c5 => simp; omega
            intro v' w23 hown23 hgrow23 _
            have HB23 : Hid (Below w.heap.size w w23) := Lib.hid ((HB22.out.alloc HB22.out.size _).grown hgrow23 (by simp; omega) (fun q hq => (HO22'.out.lt q hq).1))
            obtain ⟨g2, cap2, rfl⟩ := own_some hown23 (by omega)
            have HO23 := Lib.hid hown23
            clear hown23 hgrow23
            go_wp2_with fail
            go_roundw
            case rel =>
              refine ⟨k + 1, p ++ [⟨lr, lp, la⟩] ++ [⟨rod, part, amt⟩], g2, cap2, by omega, by go_num, by simp, HST, Lib.hid (fun x hx => ?_), ?_, HB23.out⟩
              · rcases List.mem_append.1 hx with hx | hx
                · exact HOO.out x hx
                · rw [List.mem_singleton.1 hx]; exact HMK.out
              · have := HO23.out
                simpa [flatC, flatC_app] using this
            case measure => simp [intOf]; omega
        · have hb1 : (lr != rod) = true := by simp [hrd]
          have HST : Hid (mergeO (ms.take (k + 1)) = some (p ++ [⟨lr, lp, la⟩] ++ [⟨rod, part, amt⟩])) := Lib.hid (by rw [HSN.out]; exact mg_diff (fun h => hrd h.1))
          clear hrd
          go_wp2_with fail
          have hmk : (wr.alloc (.cells #[.int .i64 rod, .int .i64 part, .int .i64 amt] 40)).heap[wr.heap.size]? = some (.cells #[.int .i64 rod, .int .i64 part, .int .i64 amt] 40 (0, 0)) := alloc_at rfl
          have how := HO.out.alloc (.cells #[.int .i64 rod, .int .i64 part, .int .i64 amt] 40)
          clear p0 p1 p2
          generalize wr.alloc (.cells #[.int .i64 rod, .int .i64 part, .int .i64 amt] 40) = w21 at hmk how HBX ⊢
          have HMB := Lib.hid hmk
          have HOW := Lib.hid how
          obtain ⟨c0, c1, c2, _, _, _⟩ := cell3 hmk
          obtain ⟨⟨a0, a1, a2⟩, _⟩ := own_lastC p ⟨lr, lp, la⟩ (by simpa using how)
          dsimp only at a0 a1 a2
          have hglt := (how.lt g rfl).2
          clear hmk how
          refine wp_region_held_drew (S := (fun w' => w'.cell? ⟨g, p.length * 3, none⟩ = some (.int .i64 lr) ∧ w'.cell? ⟨wr.heap.size, 0, none⟩ = some (.int .i64 rod))) (by kernel_rfl) (⟨a0, c0⟩) (fun hHeld => ?_)
          refine take1 (i := 0) (v := ?v1) (some 26) rfl rfl (by kernel_rfl) (by kernel_rfl) (by kernel_rfl) (fun _ _ _ h => h) (Or.inl ⟨by rfl, ?y1⟩) (by assumption) ?r1
          case y1 => (intro w hSw; (try dsimp only at hSw); go_simp; (first | done | with_reducible rfl))
          try simp only [Act.put, List.setIfInBounds_toArray, List.set_cons_zero, List.set_cons_succ]
          refine take1 (i := 1) (v := ?v2) (some 27) rfl rfl (by kernel_rfl) (by kernel_rfl) (by kernel_rfl) (fun _ _ _ h => h) (Or.inl ⟨by rfl, ?y2⟩) (by assumption) ?r2
          case y2 => (intro w hSw; (try dsimp only at hSw); go_simp; (first | done | with_reducible rfl))
          try simp only [Act.put, List.setIfInBounds_toArray, List.set_cons_zero, List.set_cons_succ]
          refine take1 (i := 2) (v := ?v3) (some 28) rfl rfl (by kernel_rfl) (by kernel_rfl) (by kernel_rfl) (fun _ _ _ h => h) (Or.inl ⟨by rfl, ?y3⟩) (by assumption) ?r3
          case y3 => (intro w hSw; (try dsimp only at hSw); go_simp; (first | done | with_reducible rfl))
          try simp only [Act.put, List.setIfInBounds_toArray, List.set_cons_zero, List.set_cons_succ]
          refine take1 (i := 3) (v := ?v4) (some 29) rfl rfl (by kernel_rfl) (by kernel_rfl) (by kernel_rfl) (fun _ _ _ h => h) (Or.inl ⟨by rfl, ?y4⟩) (by assumption) ?r4
          case y4 => (intro w hSw; (try dsimp only at hSw); go_simp; (first | done | with_reducible rfl))
          try simp only [Act.put, List.setIfInBounds_toArray, List.set_cons_zero, List.set_cons_succ]
          refine take1 (i := 4) (v := ?v5) (some 30) rfl rfl (by kernel_rfl) (by kernel_rfl) (by kernel_rfl) (fun _ _ _ h => h) (Or.inl ⟨by rfl, ?y5⟩) (by assumption) ?r5
          case y5 => (intro w hSw; (try dsimp only at hSw); go_simp; (first | done | with_reducible rfl))
          try simp only [Act.put, List.setIfInBounds_toArray, List.set_cons_zero, List.set_cons_succ]
          refine take1 (i := 5) (v := ?v6) (some 31) rfl rfl (by kernel_rfl) (by kernel_rfl) (by kernel_rfl) (fun _ _ _ h => h) (Or.inl ⟨by rfl, ?y6⟩) (by assumption) ?r6
          case y6 => (intro w hSw; (try dsimp only at hSw); go_simp; (first | done | with_reducible rfl))
          try simp only [Act.put, List.setIfInBounds_toArray, List.set_cons_zero, List.set_cons_succ]
          refine take1 (i := 6) (v := ?v7) (some 32) rfl rfl (by kernel_rfl) (by kernel_rfl) (by kernel_rfl) (fun _ _ _ h => h) (Or.inl ⟨by rfl, ?y7⟩) (by assumption) ?r7
          case y7 => (intro w hSw; (try dsimp only at hSw); go_simp; (first | done | with_reducible rfl))
          try simp only [Act.put, List.setIfInBounds_toArray, List.set_cons_zero, List.set_cons_succ]
          refine take1 (i := 7) (v := ?v8) (some 33) rfl rfl (by kernel_rfl) (by kernel_rfl) (by kernel_rfl) (fun _ _ _ h => h) (Or.inl ⟨by rfl, ?y8⟩) (by assumption) ?r8
          case y8 => (intro w hSw; (try dsimp only at hSw); go_simp; (first | done | with_reducible rfl))
          try simp only [Act.put, List.setIfInBounds_toArray, List.set_cons_zero, List.set_cons_succ]
          refine take1 (i := 8) (v := ?v9) (some 34) rfl rfl (by kernel_rfl) (by kernel_rfl) (by kernel_rfl) (fun _ _ _ h => h) (Or.inl ⟨by rfl, ?y9⟩) (by assumption) ?r9
          case y9 => (intro w hSw; (try dsimp only at hSw); go_simp; (first | done | with_reducible rfl))
          try simp only [Act.put, List.setIfInBounds_toArray, List.set_cons_zero, List.set_cons_succ]
          refine take1 (i := 9) (v := ?v10) (some 35) rfl rfl (by kernel_rfl) (by kernel_rfl) (by kernel_rfl) (fun _ _ _ h => h) (Or.inl ⟨by rfl, ?y10⟩) (by assumption) ?r10
          case y10 => (intro w hSw; (try dsimp only at hSw); go_simp; (first | done | with_reducible rfl))
          try simp only [Act.put, List.setIfInBounds_toArray, List.set_cons_zero, List.set_cons_succ]
          refine take1 (i := 10) (v := ?v11) (some 36) rfl rfl (by kernel_rfl) (by kernel_rfl) (by kernel_rfl) (fun _ _ _ h => h) (Or.inl ⟨by rfl, ?y11⟩) (by assumption) ?r11
          case y11 => (intro w hSw; (try dsimp only at hSw); go_simp; (first | done | with_reducible rfl))
          try simp only [Act.put, List.setIfInBounds_toArray, List.set_cons_zero, List.set_cons_succ]
          refine take1 (i := 11) (v := ?v12) (some 37) rfl rfl (by kernel_rfl) (by kernel_rfl) (by kernel_rfl) (fun _ _ _ h => h) (Or.inl ⟨by rfl, ?y12⟩) (by assumption) ?r12
          case y12 => (intro w hSw; (try dsimp only at hSw); go_simp; (first | done | with_reducible rfl))
          try simp only [Act.put, List.setIfInBounds_toArray, List.set_cons_zero, List.set_cons_succ]
          refine take1 (i := 12) (v := ?v13) (some 38) rfl rfl (by kernel_rfl) (by kernel_rfl) (by kernel_rfl) (fun _ _ _ h => h) (Or.inl ⟨by rfl, ?y13⟩) (by assumption) ?r13
          case y13 => (intro w hSw; (try dsimp only at hSw); go_simp; (first | done | with_reducible rfl))
          try simp only [Act.put, List.setIfInBounds_toArray, List.set_cons_zero, List.set_cons_succ]
          refine take1 (i := 13) (v := ?v14) (some 39) rfl rfl (by kernel_rfl) (by kernel_rfl) (by kernel_rfl) (fun _ _ _ h => h) (Or.inl ⟨by rfl, ?y14⟩) (by assumption) ?r14
          case y14 => (intro w hSw; (try dsimp only at hSw); go_simp; (first | done | with_reducible rfl))
          try simp only [Act.put, List.setIfInBounds_toArray, List.set_cons_zero, List.set_cons_succ]
          refine take1 (i := 14) (v := undef) (some 40) rfl rfl (by kernel_rfl) (by kernel_rfl) (by kernel_rfl) (fun _ _ _ h => h) (Or.inr ⟨by rfl, rfl⟩) (by assumption) ?_
          try simp only [Act.put, List.setIfInBounds_toArray, List.set_cons_zero, List.set_cons_succ]
          refine take1 (i := 15) (v := undef) (some 41) rfl rfl (by kernel_rfl) (by kernel_rfl) (by kernel_rfl) (fun _ _ _ h => h) (Or.inr ⟨by rfl, rfl⟩) (by assumption) ?_
          try simp only [Act.put, List.setIfInBounds_toArray, List.set_cons_zero, List.set_cons_succ]
          refine take1 (i := 16) (v := undef) (some 42) rfl rfl (by kernel_rfl) (by kernel_rfl) (by kernel_rfl) (fun _ _ _ h => h) (Or.inr ⟨by rfl, rfl⟩) (by assumption) ?_
          try simp only [Act.put, List.setIfInBounds_toArray, List.set_cons_zero, List.set_cons_succ]
          refine take1 (i := 17) (v := undef) (some 43) rfl rfl (by kernel_rfl) (by kernel_rfl) (by kernel_rfl) (fun _ _ _ h => h) (Or.inr ⟨by rfl, rfl⟩) (by assumption) ?_
          try simp only [Act.put, List.setIfInBounds_toArray, List.set_cons_zero, List.set_cons_succ]
          refine take1 (i := 18) (v := undef) (some 44) rfl rfl (by kernel_rfl) (by kernel_rfl) (by kernel_rfl) (fun _ _ _ h => h) (Or.inr ⟨by rfl, rfl⟩) (by assumption) ?_
          try simp only [Act.put, List.setIfInBounds_toArray, List.set_cons_zero, List.set_cons_succ]
          refine take1 (i := 19) (v := undef) (some 45) rfl rfl (by kernel_rfl) (by kernel_rfl) (by kernel_rfl) (fun _ _ _ h => h) (Or.inr ⟨by rfl, rfl⟩) (by assumption) ?_
          try simp only [Act.put, List.setIfInBounds_toArray, List.set_cons_zero, List.set_cons_succ]
          refine take1 (i := 20) (v := undef) (some 46) rfl rfl (by kernel_rfl) (by kernel_rfl) (by kernel_rfl) (fun _ _ _ h => h) (Or.inr ⟨by rfl, rfl⟩) (by assumption) ?_
          try simp only [Act.put, List.setIfInBounds_toArray, List.set_cons_zero, List.set_cons_succ]
          refine take1 (i := 21) (v := undef) (some 47) rfl rfl (by kernel_rfl) (by kernel_rfl) (by kernel_rfl) (fun _ _ _ h => h) (Or.inr ⟨by rfl, rfl⟩) (by assumption) ?_
          try simp only [Act.put, List.setIfInBounds_toArray, List.set_cons_zero, List.set_cons_succ]
          refine take1 (i := 22) (v := undef) (some 48) rfl rfl (by kernel_rfl) (by kernel_rfl) (by kernel_rfl) (fun _ _ _ h => h) (Or.inr ⟨by rfl, rfl⟩) (by assumption) ?_
          try simp only [Act.put, List.setIfInBounds_toArray, List.set_cons_zero, List.set_cons_succ]
          refine take1 (i := 23) (v := ?v24) (some 49) rfl rfl (by kernel_rfl) (by kernel_rfl) (by kernel_rfl) (fun _ _ _ h => h) (Or.inl ⟨by rfl, ?y24⟩) (by assumption) ?r24
          case y24 => (intro w hSw; (try dsimp only at hSw); go_simp; (first | done | with_reducible rfl))
          try simp only [Act.put, List.setIfInBounds_toArray, List.set_cons_zero, List.set_cons_succ]
          refine wpAnyH_done (by kernel_rfl) ?_ _
          have hbq : Below w21.heap.size w21 w21.drew := (Below.refl _ w21).drew
          have HO22 := Lib.hid (own_below HOW.out hbq)
          have HB22 := Lib.hid (HBX.out.trans (hbq.mono HBX.out.size))
          have hm22 := (hbq.block _ (lt_of_block HMB.out)).trans HMB.out
          clear c0 c1 c2
          clear a0 a1 a2 hHeld
          generalize w21.drew = w22 at HO22 HB22 hm22 hbq ⊢
          obtain ⟨c0, c1, c2, _, _, _⟩ := cell3 hm22
          have HM22 := Lib.hid hm22
          have HLM := Lib.hid (lt_of_block hm22)
          have hsz22 := HB22.out.size
          clear hm22 hbq
          have HO22' : Hid (w22.ownsRow w.heap.size 40 3 (.slice (some ⟨g, 0, none⟩) (p.length + 1) cap) (p.length + 1) (flatC mvC (p ++ [⟨lr, lp, la⟩]))) := Lib.hid (by have := HO22.out; simpa using this)

          go_wp2_with (at_builtin; refine wpList_append_own _ rfl _ _ 24 rfl w.heap.size 40 i0 (.agg #[.int .i64 0, .int .i64 0, .int .i64 0]) 3 24 Try.underlying24 hi hz0 hz1 hz2 rfl (by decide) _ _ _ rfl (HO22'.out.alloc _) ⟨w22.heap.size, 0, none⟩ 1 1 (mvC ⟨rod, part, amt⟩) rfl rfl ?c1 ?c2 ?c3 ?c4 ?c5 ?_)
          case c1 => exact news_at (vs := mvC ⟨rod, part, amt⟩) (alloc_at (by simp))
          case c2 => exact mvC_one _
          case c3 => first | (unfold maxLen; omega) | (simp; unfold maxLen; omega) | simp [maxLen]
          case c4 => first | omega | (simp; omega) | simp
          case c5 => simp; omega
          intro v' w23 hown23 hgrow23 _
          have HB23 : Hid (Below w.heap.size w w23) := Lib.hid ((HB22.out.alloc HB22.out.size _).grown hgrow23 (by simp; omega) (fun q hq => (HO22'.out.lt q hq).1))
          obtain ⟨g2, cap2, rfl⟩ := own_some hown23 (by omega)
          have HO23 := Lib.hid hown23
          clear hown23 hgrow23
          go_wp2_with fail
          go_roundw
          case rel =>
            refine ⟨k + 1, p ++ [⟨lr, lp, la⟩] ++ [⟨rod, part, amt⟩], g2, cap2, by omega, by go_num, by simp, HST, Lib.hid (fun x hx => ?_), ?_, HB23.out⟩
            · rcases List.mem_append.1 hx with hx | hx
              · exact HOO.out x hx
              · rw [List.mem_singleton.1 hx]; exact HMK.out
            · have := HO23.out
              simpa [flatC, flatC_app] using this
          case measure => simp [intOf]; omega
    · have HE : Hid (o = qs ∧ t = true) := Lib.hid (by
        have h1 := HP.out
        rw [List.take_of_length_le (by omega)] at h1
        rcases HK.out with ⟨h, h2⟩ | ⟨h, _⟩
        · rw [h1] at h; injection h with h; exact ⟨h, h2⟩
        · rw [h1] at h; cases h)
      clear hb hown
      go_wp2_with fail
      go_ret2
      exact ⟨⟨_, by rw [HE.out.2]; rfl, by rw [← HE.out.1]; exact HO.out⟩, HB.out⟩
set_option maxRecDepth 100000 in
set_option maxHeartbeats 400000 in
theorem specMerged_no (v : Value) (ps : List Mv) (w : World) (h : RowsR 3 mvC w v ps) (ho : ¬ okMs ps) :
    Calls Try.prog 14 #[v] w fun e w' => (∃ sq, e = .returned (.tuple #[sq, .bool false]) ∧ w'.ownsRow w.heap.size 40 3 sq ([] : List Mv).length (flatC mvC [])) ∧ Below w.heap.size w w' := by
  have HH := Lib.hid h
  have HO := Lib.hid ho
  clear h ho
  go_enter Try.func14, Try.ntmps14
  go_wp2_with fail
  have hb1 := (Below.refl w.heap.size w).alloc (Nat.le_refl _) (.cells #[] 40)
  refine (l4Good_any v ps _ (HH.out.below hb1 (Nat.le_refl _)) false ⟨fun h => by simp at h, fun h => absurd h HO.out⟩).mono ?_
  rintro e w2 ⟨rfl, hb⟩
  have HO1 := Lib.hid (own_below (World.ownsRow_made (base := w.heap.size) (e := 40) (size := 3) w #[] 0 (Nat.le_refl _) (Nat.zero_le _) (by simp)) hb)
  have HB := Lib.hid (hb1.trans (hb.mono hb1.size))
  clear hb hb1
  go_wp2_with fail
  go_ret2
  exact ⟨⟨_, rfl, HO1.out⟩, HB.out⟩
theorem specMerged_any (v : Value) (ms : List Mv) (w : World) (h : RowsR 3 mvC w v ms) (qs : List Mv) (t : Bool) (hk : MgF ms qs t) :
    Calls Try.prog 14 #[v] w fun e w' => (∃ sq, e = .returned (.tuple #[sq, .bool t]) ∧ w'.ownsRow w.heap.size 40 3 sq qs.length (flatC mvC qs)) ∧ Below w.heap.size w w' := by
  by_cases ho : okMs ms
  · refine specMerged_in v ms w h ho qs t ?_
    rcases hk with ⟨_, h1, h2⟩ | ⟨h0, h1, h2⟩
    · exact .inl ⟨h1, h2⟩
    · refine .inr ⟨?_, h1, h2⟩
      cases hp : mergeO ms with
      | none => rfl
      | some r => exact absurd ⟨ho, by rw [hp]; simp⟩ h0
  · rcases hk with ⟨h0, _⟩ | ⟨_, rfl, rfl⟩
    · exact absurd h0 ho
    · exact specMerged_no v ms w h ho
end Go.Proofs.Ytmkocinknhaniaa
