/- Those with the same name: the model's. -/
import Derived.Test.YtlhcediejccieaaPmem
import Derived.Test.YtlhcediejccieaaPush
namespace Go.Proofs.Ytlhcediejccieaa
set_option linter.unusedVariables false
open Go.RowKit

theorem Try.infoInts : (Try.prog.info? 27).map (fun i => (i.zero, i.size, i.bytes)) = some (some (.slice none 0 0), 1, 24) := by kernel_rfl
def nmEq (p q : Pu) : Bool := p.name.toList == q.name.toList
/-- The Ids of all with q's name. -/
def sameOf (ps : List Pu) (q : Pu) : List Int := idL (ps.filter fun p => nmEq p q)
theorem sameOf_yes (ps : List Pu) (q : Pu) (k : Nat) (h : k < ps.length) (hc : nmEq ps[k] q = true) : sameOf (ps.take (k + 1)) q = sameOf (ps.take k) q ++ [ps[k].id] := by
  unfold sameOf idL; rw [List.take_succ_eq_append_getElem h, List.filter_append]; simp [hc]
theorem sameOf_no (ps : List Pu) (q : Pu) (k : Nat) (h : k < ps.length) (hc : nmEq ps[k] q = false) : sameOf (ps.take (k + 1)) q = sameOf (ps.take k) q := by
  unfold sameOf idL; rw [List.take_succ_eq_append_getElem h, List.filter_append]; simp [hc]
theorem sameOf_len (ps : List Pu) (q : Pu) : (sameOf ps q).length ≤ ps.length := by unfold sameOf; rw [idL_len]; exact List.length_filter_le _ _
theorem flat_int0 (S : List Int) (h : 0 < S.length) : (flatC inC S)[0]? = some (.int .i64 (S.getD 0 0)) := by
  cases S with
  | nil => simp at h
  | cons x t => rfl
/-- What is told after k pupils. -/
def samL (ps : List Pu) : Nat → List (List Int)
  | 0 => []
  | k + 1 => match ps[k]? with
    | none => samL ps k
    | some q => if 1 < (sameOf ps q).length ∧ (sameOf ps q).getD 0 0 = q.id then samL ps k ++ [sameOf ps q] else samL ps k
theorem samL_yes (ps : List Pu) (k : Nat) (h : k < ps.length) (hc : 1 < (sameOf ps ps[k]).length ∧ (sameOf ps ps[k]).getD 0 0 = ps[k].id) : samL ps (k + 1) = samL ps k ++ [sameOf ps ps[k]] := by
  rw [samL, List.getElem?_eq_getElem h]; exact if_pos hc
theorem samL_no (ps : List Pu) (k : Nat) (h : k < ps.length) (hc : ¬ (1 < (sameOf ps ps[k]).length ∧ (sameOf ps ps[k]).getD 0 0 = ps[k].id)) : samL ps (k + 1) = samL ps k := by
  rw [samL, List.getElem?_eq_getElem h]; exact if_neg hc
theorem samL_len (ps : List Pu) : ∀ k, (samL ps k).length ≤ k ∧ ∀ ys ∈ samL ps k, ys.length ≤ ps.length
  | 0 => ⟨by simp [samL], fun ys h => by simp [samL] at h⟩
  | k + 1 => by
    obtain ⟨h1, h2⟩ := samL_len ps k
    by_cases hk : k < ps.length
    · by_cases hc : 1 < (sameOf ps ps[k]).length ∧ (sameOf ps ps[k]).getD 0 0 = ps[k].id
      · rw [samL_yes ps k hk hc]
        refine ⟨by simp; omega, fun ys h => ?_⟩
        rcases List.mem_append.1 h with h | h
        · exact h2 ys h
        · rw [List.mem_singleton.1 h]; exact sameOf_len _ _
      · rw [samL_no ps k hk hc]
        exact ⟨by omega, h2⟩
    · have e : samL ps (k + 1) = samL ps k := by rw [samL, List.getElem?_eq_none (by omega)]
      rw [e]
      exact ⟨by omega, h2⟩
theorem offs_bound (c : Nat) : ∀ (xss : List (List Int)) (m : Nat), (∀ ys ∈ xss, ys.length ≤ c) → offs xss m ≤ xss.length * c
  | [], _, _ => by simp [offs]
  | x :: t, 0, _ => by rw [offs_zero]; exact Nat.zero_le _
  | x :: t, m + 1, h => by
    have h1 := offs_bound c t m (fun ys hy => h ys (List.mem_cons_of_mem _ hy))
    have h2 := h x (by simp)
    simp only [offs, List.length_cons]
    rw [Nat.succ_mul]; omega

set_option maxRecDepth 100000 in
set_option maxHeartbeats 800000 in
theorem specSame_no (v : Value) (ps : List Pu) (w : World) (h : RowsR 5 puC w v ps) (hs : ∀ p ∈ ps, p.name.size ≤ maxLen) (hl : ps.length ≤ 1048576) (hn : ¬ okL ps) :
    Calls Try.prog 32 #[v] w fun e w' => (∃ sq vs, e = .returned (.tuple #[sq, .bool false]) ∧ OwnSS w.heap.size w'.heap.size w' sq vs []) ∧ Below w.heap.size w w' := by
  have HC := Lib.hid (fun w' (hb : Below w.heap.size w w') => l3Good_no v ps w' (h.below hb (Nat.le_refl _)) hs hl hn)
  clear h hs hn
  go_enter Try.func32, Try.ntmps32
  go_wp2_with fail
  refine (HC.out _ ((Below.refl _ _).alloc (Nat.le_refl _) _)).mono ?_
  rintro e w2 ⟨rfl, hb2⟩
  have HO := Lib.hid (own_below (World.ownsRow_made (base := w.heap.size) (e := 27) (size := 1) w #[] 0 (Nat.le_refl _) (Nat.zero_le _) (by simp)) hb2)
  have HB : Hid (Below w.heap.size w w2) := Lib.hid (((Below.refl _ _).alloc (Nat.le_refl _) _).trans (hb2.mono (by simp)))
  clear hb2
  go_wp2_with fail
  go_ret2
  exact ⟨⟨_, [], rfl, OwnSS.empty HB.out.size HO.out (fun g hg => (HO.out.lt g hg).2)⟩, HB.out⟩
set_option maxRecDepth 100000 in
set_option maxHeartbeats 3200000 in
theorem specSame_ok (v : Value) (ps : List Pu) (w : World) (h : RowsR 5 puC w v ps) (ho : okL ps) (hs : ∀ p ∈ ps, p.name.size ≤ maxLen) :
    Calls Try.prog 32 #[v] w fun e w' => (∃ sq vs, e = .returned (.tuple #[sq, .bool true]) ∧ OwnSS w.heap.size w'.heap.size w' sq vs (samL ps ps.length)) ∧ Below w.heap.size w w' := by
  obtain ⟨i0, hi, hz0, hz1, hz2⟩ := info_parts Try.infoInt
  obtain ⟨i1, ii, iz0, iz1, iz2⟩ := info_parts Try.infoInts
  have hl := okL_len ho
  have HC := Lib.hid (fun w' (hb : Below w.heap.size w w') => l3Good_yes v ps w' (h.below hb (Nat.le_refl _)) hs (by omega) ho)
  obtain ⟨a, cp, rfl⟩ := h.form
  have R1 := Lib.hid h.at
  clear h hs ho
  go_enter Try.func32, Try.ntmps32
  go_wp2_with fail
  refine (HC.out _ ((Below.refl _ _).alloc (Nat.le_refl _) _)).mono ?_
  rintro e w2 ⟨rfl, hb2⟩
  have HO := Lib.hid (own_below (World.ownsRow_made (base := w.heap.size) (e := 27) (size := 1) w #[] 0 (Nat.le_refl _) (Nat.zero_le _) (by simp)) hb2)
  have HB : Hid (Below w.heap.size w w2) := Lib.hid (((Below.refl _ _).alloc (Nat.le_refl _) _).trans (hb2.mono (by simp)))
  clear hb2
  go_wp2_with fail
  go_loopw [4, 5] (fun out i wr => ∃ (k : Nat) (vs : List Value), k ≤ ps.length ∧ i = .int .i64 k ∧ OwnSS w.heap.size wr.heap.size wr out vs (samL ps k) ∧ Below w.heap.size w wr) (fun _ i _ => ps.length - (intOf i).toNat)
  case atStart => exact ⟨0, [], Nat.zero_le _, rfl, OwnSS.empty HB.out.size HO.out (fun g hg => (HO.out.lt g hg).2), HB.out⟩
  case round =>
    obtain ⟨k, vs, hk, rfl, hss, hb⟩ := hrel
    rename World => wo
    have HB2 := Lib.hid hb
    have HSS := Lib.hid hss
    obtain ⟨oa, oc, hform⟩ := hss.form
    subst hform
    by_cases hlt : k < ps.length
    · have z1 : (0 : Int) ≤ (k : Int) := by omega
      have z2 : (k : Int) < (ps.length : Int) := by omega
      have HSL := Lib.hid (samL_len ps k)
      clear hb hss
      go_wp2_with fail
      have HO3 := Lib.hid (World.ownsRow_made (base := wo.heap.size) (e := 3) (size := 1) wo #[] 0 (Nat.le_refl _) (Nat.zero_le _) (by simp))
      go_loopw [6, 7] (fun ids i wi => ∃ j : Nat, j ≤ ps.length ∧ i = .int .i64 j ∧ wi.ownsRow wo.heap.size 3 1 ids (sameOf (ps.take j) ps[k]).length (flatC inC (sameOf (ps.take j) ps[k])) ∧ Below wo.heap.size wo wi) (fun _ i _ => ps.length - (intOf i).toNat)
      case atStart => exact ⟨0, Nat.zero_le _, rfl, HO3.out, (Below.refl _ _).alloc (Nat.le_refl _) _⟩
      case round =>
        obtain ⟨j, hj, rfl, hown, hbi⟩ := hrel
        rename World => wi
        obtain ⟨da, dc, hfm⟩ := own_form hown
        subst hfm
        have HBI := Lib.hid hbi
        have HOI := Lib.hid hown
        have HBW : Hid (Below w.heap.size w wi) := Lib.hid (HB2.out.trans (hbi.mono HB2.out.size))
        have hidl := sameOf_len (ps.take j) ps[k]
        have htl : (ps.take j).length ≤ j := List.length_take_le _ _
        by_cases hjl : j < ps.length
        · have y1 : (0 : Int) ≤ (j : Int) := by omega
          have y2 : (j : Int) < (ps.length : Int) := by omega
          obtain ⟨b1, o1, rfl, l1, k1⟩ := R1.out _ HBW.out j hjl
          obtain ⟨b1', o1', e1, _, k2⟩ := R1.out _ HBW.out k hlt
          obtain ⟨rfl, rfl⟩ : b1 = b1' ∧ o1 = o1' := by injection e1 with e1; injection e1 with e1 e2; exact ⟨e1, e2⟩
          have p1 : wi.cell? ⟨b1, o1 + j * 5 + 1, none⟩ = some (.string ps[j].name) := k1 1 (by omega)
          have p0 : wi.cell? ⟨b1, o1 + j * 5, none⟩ = some (.int .i64 ps[j].id) := k1 0 (by omega)
          have q1 : wi.cell? ⟨b1, o1 + k * 5 + 1, none⟩ = some (.string ps[k].name) := k2 1 (by omega)
          have hlen2 : (sameOf (ps.take j) ps[k]).length ≤ 12 := by omega
          clear hbi hown k1 k2 e1 hidl htl
          by_cases hq : nmEq ps[j] ps[k] = true
          · have HE := Lib.hid (sameOf_yes ps ps[k] j hjl hq)
            have hcc : (ps[j].name.toList == ps[k].name.toList) = true := hq
            clear hq
            generalize ps[k].name = nk at q1 hcc
            go_wp2_with fail
            go_quiet (fail)
            rename Nat => nq
            have hbq : Below wi.heap.size wi (wi.drewN nq) := bl_drewN (Below.refl _ _) nq
            have l1' : b1 < wi.heap.size := Nat.lt_of_lt_of_le l1 HBW.out.size
            have p0' := (hbq.cell (p := ⟨b1, o1 + j * 5, none⟩) l1').trans p0
            have HO4 := Lib.hid (own_below HOI.out hbq)
            have HB4 : Hid (Below wo.heap.size wo (wi.drewN nq)) := Lib.hid (HBI.out.trans (hbq.mono HBI.out.size))
            clear p0 p1 q1
            generalize wi.drewN nq = wj at p0' HO4 HB4 hbq ⊢
            clear hbq
            go_wp2_with (at_builtin; refine wpList_append_own _ rfl _ _ 27 rfl wo.heap.size 3 i0 (.int .i64 0) 1 8 Try.underlying27 hi hz0 hz1 hz2 rfl (by decide) _ _ _ rfl (HO4.out.alloc _) ⟨wj.heap.size, 0, none⟩ 1 1 [.int .i64 ps[j].id] rfl rfl ?c1 ?c2 ?c3 ?c4 ?c5 ?_)
            case c1 => exact one_new _ _ _
            case c2 => intro u hu; rw [List.mem_singleton.1 hu]; rfl
            case c3 => unfold maxLen; omega
            case c4 => omega
            case c5 => have := HB4.out.size; simp; omega
            intro v' w5 hown5 hgrow5 _
            have HO5 := Lib.hid hown5
            have HB5 : Hid (Below wo.heap.size wo w5) := Lib.hid ((HB4.out.alloc HB4.out.size _).grown hgrow5 (by have := HB4.out.size; simp; omega) (fun q hq => (HO4.out.lt q hq).1))
            clear hown5 hgrow5 p0'
            go_wp2_with fail
            go_roundw
            case rel =>
              refine ⟨j + 1, by omega, by go_num, ?_, HB5.out⟩
              rw [HE.out, flatC_app, List.length_append]
              have := HO5.out
              simpa [flatC, inC] using this
            case measure => simp [intOf]; omega
          · have hqf : nmEq ps[j] ps[k] = false := by simpa using hq
            have HE := Lib.hid (sameOf_no ps ps[k] j hjl hqf)
            have hcc : (ps[j].name.toList == ps[k].name.toList) = false := hqf
            clear hq hqf
            generalize ps[k].name = nk at q1 hcc
            go_wp2_with fail
            go_quiet (fail)
            rename Nat => nq
            have hbq : Below wi.heap.size wi (wi.drewN nq) := bl_drewN (Below.refl _ _) nq
            have HO4 := Lib.hid (own_below HOI.out hbq)
            have HB4 : Hid (Below wo.heap.size wo (wi.drewN nq)) := Lib.hid (HBI.out.trans (hbq.mono HBI.out.size))
            clear p0 p1 q1 hbq
            go_wp2_with fail
            go_roundw
            case rel => exact ⟨j + 1, by omega, by go_num, by rw [HE.out]; exact HO4.out, HB4.out⟩
            case measure => simp [intOf]; omega
        · have HE : Hid (sameOf (ps.take j) ps[k] = sameOf ps ps[k]) := Lib.hid (by rw [List.take_of_length_le (by omega)])
          rw [HE.out] at HOI ⊢
          have hlen2 := sameOf_len ps ps[k]
          obtain ⟨b1, o1, rfl, l1, k1⟩ := R1.out _ HBW.out k hlt
          have p0 : wi.cell? ⟨b1, o1 + k * 5, none⟩ = some (.int .i64 ps[k].id) := k1 0 (by omega)
          clear hbi hown k1 hidl htl
          by_cases hc : 1 < (sameOf ps ps[k]).length ∧ (sameOf ps ps[k]).getD 0 0 = ps[k].id
          · have HSY := Lib.hid (samL_yes ps k hlt hc)
            generalize sameOf ps ps[k] = S at HOI HSY hlen2 hc ⊢
            obtain ⟨h1, h2⟩ := hc
            obtain ⟨gi, gc, hge⟩ := own_some HOI.out (by omega)
            injection hge with hg1 hg2 hg3
            subst hg1
            have d0 : wi.cell? ⟨gi, 0, none⟩ = some (.int .i64 ps[k].id) := by rw [← h2]; exact (HOI.out.cellAt 0 (by omega)).trans (flat_int0 S (by omega))
            have hL1 : (1 : Int) < (S.length : Int) := by omega
            have hL0 : (0 : Int) < (S.length : Int) := by omega
            have hcc : (ps[k].id == ps[k].id) = true := by simp
            clear h2 hg2 hg3
            go_wp2_with fail
            go_quiet (fail)
            rename Nat => nq
            have hbq : Below wi.heap.size wi (wi.drewN nq) := bl_drewN (Below.refl _ _) nq
            have HO4 := Lib.hid (own_below HOI.out hbq)
            have HB4 : Hid (Below wo.heap.size wo (wi.drewN nq)) := Lib.hid (HBI.out.trans (hbq.mono HBI.out.size))
            have HB5 : Hid (Below w.heap.size w (wi.drewN nq)) := Lib.hid (HBW.out.trans (hbq.mono HBW.out.size))
            clear p0 hbq
            clear d0
            generalize wi.drewN nq = wj at HO4 HB4 HB5 ⊢
            go_wp2_with (at_builtin; refine wpList_append_own_at _ rfl _ _ 46 rfl w.heap.size 27 i1 (.slice none 0 0) 1 24 Try.underlying46 ii iz0 iz1 iz2 rfl (by decide) _ _ _ rfl ((own_below HSS.out.outer.1 HB4.out).alloc _) ⟨wj.heap.size, 0, none⟩ 1 1 [.slice (some ⟨gi, 0, none⟩) S.length dc] rfl rfl ?d1 ?d2 ?d3 ?d4 ?d5 ?_)
            case d1 => exact one_new _ _ _
            case d2 => intro u hu; rw [List.mem_singleton.1 hu]; rfl
            case d3 => have := HSL.out.1; have := HSS.out.len; unfold maxLen; omega
            case d4 => have := HSL.out.1; have := HSS.out.len; omega
            case d5 => have := HB5.out.size; simp; omega
            intro v6 w6 hown6 hgrow6 _ hloc6
            have HPU := Lib.hid (HSS.out.push (Nat.le_refl _) (HB4.out.alloc HB4.out.size _) (HO4.out.alloc _) hown6 hgrow6 (by simpa using hloc6))
            have HB6 : Hid (Below w.heap.size w w6) := Lib.hid ((HB5.out.alloc HB5.out.size _).grown hgrow6 (by have := HB5.out.size; simp; omega) (fun q hq => ((HSS.out.outer.1).lt q hq).1))
            clear hown6 hgrow6 hloc6
            go_wp2_with fail
            go_roundw
            case rel => exact ⟨k + 1, vs ++ [.slice (some ⟨gi, 0, none⟩) S.length dc], by omega, by go_num, by rw [HSY.out]; exact HPU.out, HB6.out⟩
            case measure => simp [intOf]; omega
          · have HSN := Lib.hid (samL_no ps k hlt hc)
            generalize sameOf ps ps[k] = S at HOI hlen2 hc ⊢
            by_cases h1 : 1 < S.length
            · obtain ⟨gi, gc, hge⟩ := own_some HOI.out (by omega)
              injection hge with hg1 hg2 hg3
              subst hg1
              have d0 : wi.cell? ⟨gi, 0, none⟩ = some (.int .i64 (S.getD 0 0)) := (HOI.out.cellAt 0 (by omega)).trans (flat_int0 S (by omega))
              have hcc : (S.getD 0 0 == ps[k].id) = false := by rw [beq_eq_false_iff_ne]; exact fun e => hc ⟨h1, e⟩
              have hL1 : (1 : Int) < (S.length : Int) := by omega
              have hL0 : (0 : Int) < (S.length : Int) := by omega
              clear hc hg2 hg3
              generalize S.getD 0 0 = x0 at d0 hcc
              go_wp2_with fail
              go_quiet (fail)
              rename Nat => nq
              have hbq : Below wi.heap.size wi (wi.drewN nq) := bl_drewN (Below.refl _ _) nq
              have HO4 := Lib.hid (own_below HOI.out hbq)
              have HB4 : Hid (Below wo.heap.size wo (wi.drewN nq)) := Lib.hid (HBI.out.trans (hbq.mono HBI.out.size))
              have HB5 : Hid (Below w.heap.size w (wi.drewN nq)) := Lib.hid (HBW.out.trans (hbq.mono HBW.out.size))
              clear p0 hbq
              clear d0
              have HS4 := Lib.hid ((HSS.out.next HB4.out).rehi HB4.out.size)
              go_wp2_with fail
              go_roundw
              case rel => exact ⟨k + 1, vs, by omega, by go_num, by rw [HSN.out]; exact HS4.out, HB5.out⟩
              case measure => simp [intOf]; omega
            · have hL1 : ¬ (1 : Int) < (S.length : Int) := by omega
              have hLd : decide ((1 : Int) < (S.length : Int)) = false := decide_eq_false hL1
              clear hc h1
              go_wp2_with fail
              go_quiet (fail)
              rename Nat => nq
              have hbq : Below wi.heap.size wi (wi.drewN nq) := bl_drewN (Below.refl _ _) nq
              have HO4 := Lib.hid (own_below HOI.out hbq)
              have HB4 : Hid (Below wo.heap.size wo (wi.drewN nq)) := Lib.hid (HBI.out.trans (hbq.mono HBI.out.size))
              have HB5 : Hid (Below w.heap.size w (wi.drewN nq)) := Lib.hid (HBW.out.trans (hbq.mono HBW.out.size))
              clear p0 hbq
              have HS4 := Lib.hid ((HSS.out.next HB4.out).rehi HB4.out.size)
              go_wp2_with fail
              go_roundw
              case rel => exact ⟨k + 1, vs, by omega, by go_num, by rw [HSN.out]; exact HS4.out, HB5.out⟩
              case measure => simp [intOf]; omega
    · have HE : Hid (samL ps k = samL ps ps.length) := Lib.hid (by rw [show k = ps.length by omega])
      clear hb hss
      go_wp2_with fail
      go_ret2
      exact ⟨⟨_, vs, rfl, HE.out ▸ HSS.out⟩, HB2.out⟩
end Go.Proofs.Ytlhcediejccieaa
