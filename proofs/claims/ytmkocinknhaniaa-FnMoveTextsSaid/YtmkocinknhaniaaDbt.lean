/- Moves are drawn. -/
import Derived.Test.YtmkocinknhaniaaDbs
namespace Go.Proofs.Ytmkocinknhaniaa
set_option linter.unusedVariables false
open Go.RowKit
set_option linter.unusedSimpArgs false

def slLen : Value → Nat
  | .slice _ n _ => n
  | _ => 0
set_option maxRecDepth 100000 in
set_option maxHeartbeats 6400000 in
theorem beads_any (cb : Nat) (cd : Value) (L : List UInt8) (n : Nat) (up lo : Int) (a : Option Addr) (c : Nat) (rs : List (Int × Int)) (w : World) (hn : n < 4611686018427300000) (hrs : RodsR w (.slice a rs.length c) rs) (hl : rs.length ≤ 20) (hne : ∀ p, a = some p → p.block ≠ cb) (hc : CurAt w cb cd n) (hr : CodeR w cb cd L) :
    Calls Try.prog 29 #[.pointer (some ⟨cb, 0, none⟩), .agg #[.int .i64 up, .int .i64 lo, .slice a rs.length c]] w fun e w' => (∃ (sq : Value) (ms : List Mv), e = .returned sq ∧ w'.ownsRow w.heap.size 40 3 sq ms.length (flatC mvC ms) ∧ ms.length ≤ 70) ∧ CurAt w' cb cd (n + 400) ∧ w.grownBy w' (some cb) := by
  obtain ⟨i0, hi, hz0, hz1, hz2⟩ := info_parts Try.infoBeadMove
  have hcb := hc.lt
  have HR := Lib.hid hr
  have hs : SdAt w (((w.alloc (.cells #[.int .i64 up, .int .i64 lo, .slice a rs.length c] 52)).alloc (.cells #[] 40)).alloc (.cells #[.int .i64 up, .int .i64 lo, .slice a rs.length c] 52)) cb cd n (w.heap.size + 1 + 1) up lo a c rs (.slice (some ⟨w.heap.size + 1, 0, none⟩) 0 0) [] := by
    have g1 := grown_alloc w (.cells #[.int .i64 up, .int .i64 lo, .slice a rs.length c] 52) none
    have g2 := grown_alloc (w.alloc (.cells #[.int .i64 up, .int .i64 lo, .slice a rs.length c] 52)) (.cells #[] 40) none
    have g3 := grown_alloc ((w.alloc (.cells #[.int .i64 up, .int .i64 lo, .slice a rs.length c] 52)).alloc (.cells #[] 40)) (.cells #[.int .i64 up, .int .i64 lo, .slice a rs.length c] 52) none
    have ho : ((w.alloc (.cells #[.int .i64 up, .int .i64 lo, .slice a rs.length c] 52)).alloc (.cells #[] 40)).ownsRow w.heap.size 40 3 (.slice (some ⟨(w.alloc (.cells #[.int .i64 up, .int .i64 lo, .slice a rs.length c] 52)).heap.size, 0, none⟩) 0 0) 0 [] := World.ownsRow_made _ _ _ (by simp) (Nat.zero_le _) (by simp)
    have hsz : (w.alloc (.cells #[.int .i64 up, .int .i64 lo, .slice a rs.length c] 52)).heap.size = w.heap.size + 1 := by simp
    rw [hsz] at ho
    exact ⟨grown_any (grown_trans (grown_trans g1 g2) g3), hc.old (grown_trans (grown_trans g1 g2) g3), alloc_at (by simp), .inl ⟨hrs, hne⟩, ho.alloc _, hl, by omega, hcb⟩
  clear hc hr hrs hne hl
  go_enter Try.func29, Try.ntmps29
  go_wp2_with fail
  generalize ((w.alloc (.cells #[.int .i64 up, .int .i64 lo, .slice a rs.length c] 52)).alloc (.cells #[] 40)).alloc (.cells #[.int .i64 up, .int .i64 lo, .slice a rs.length c] 52) = w1 at hs ⊢
  generalize w.heap.size + 1 + 1 = NB at hs ⊢
  have HS := Lib.hid hs
  clear hs
  refine (pick_any cb cd L n 9 w1 (by omega) (by omega) (by omega) HS.out.2.1 (HR.out.grown HS.out.1)).mono ?_
  rintro e w2 ⟨⟨r, rfl, r0, r1⟩, hc2, hg2⟩
  have HS2 := Lib.hid (HS.out.step hg2 hc2)
  obtain ⟨k0, hk0⟩ : ∃ k : Nat, r = (k : Int) := ⟨r.toNat, by omega⟩
  subst hk0
  clear hc2 hg2 HS
  go_wp2_with fail
  go_loopw [5, 7] (fun ov nv wr => ∃ (k m : Nat) (fu fl : Int) (a2 : Option Addr) (c2 : Nat) (rs2 : List (Int × Int)) (ms : List Mv), nv = .int .i64 (k : Int) ∧ ms.length + k ≤ 8 ∧ m + 22 * k ≤ n + 2 + 22 * 8 ∧ SdAt w wr cb cd m NB fu fl a2 c2 rs2 ov ms) (fun _ nv _ => (intOf nv).toNat)
  case atStart => exact ⟨k0, n + 2, up, lo, a, c, rs, [], rfl, by simp; omega, by omega, HS2.out⟩
  case round =>
    obtain ⟨k, m, fu, fl, a2, c2, rs2, ms, rfl, hk8, hm, hs⟩ := hrel
    have HSd := Lib.hid hs
    clear hs HS2
    by_cases hk : 0 < (k : Int)
    · obtain ⟨k, rfl⟩ : ∃ j, k = j + 1 := ⟨k - 1, by omega⟩
      have q5 : IntKind.i64.wrap (((k + 1 : Nat) : Int) - 1) = (k : Int) := by rw [IntKind.wrap_i64]; omega
      obtain ⟨hrd, hrn⟩ := HSd.out.2.2.2.1.rods HSd.out.1 hcb
      obtain ⟨p0, p1, p2, o0, o1, o2⟩ := cell3 HSd.out.2.2.1
      have HBD := Lib.hid (bead_any cb cd L m fu fl a2 c2 rs2 wr (by omega) hrd HSd.out.2.2.2.2.2.1 hrn HSd.out.2.1 (HR.out.grown HSd.out.1))
      clear hrd hrn
      go_wp2_with fail
      clear p0 p1 p2 o0 o1 o2
      refine (HBD.out).mono ?_
      rintro e w3 ⟨⟨x, y, z, rfl⟩, hc3, hg3⟩
      have hs3 := HSd.out.step hg3 hc3
      obtain ⟨p0, p1, p2, o0, o1, o2⟩ := cell3 hs3.2.2.1
      have hlN := lt_of_block hs3.2.2.1
      have hXW := hs3.1.size
      have HS4 := Lib.hid (hs3.alloc (.cells #[.int .i64 x, .int .i64 y, .int .i64 z] 40))
      have hmb : (w3.alloc (.cells #[.int .i64 x, .int .i64 y, .int .i64 z] 40)).heap[w3.heap.size]? = some (.cells #[.int .i64 x, .int .i64 y, .int .i64 z] 40 (0, 0)) := alloc_at rfl
      clear hc3 hg3 hs3 HBD HSd
      go_wp2_with fail
      generalize w3.alloc (.cells #[.int .i64 x, .int .i64 y, .int .i64 z] 40) = w4 at HS4 hmb ⊢
      generalize w3.heap.size = XB at hmb hlN hXW ⊢
      clear p0 p1 p2 o0 o1 o2
      obtain ⟨gu, gl, qs, t, hmv⟩ := mvF_or fu fl rs2 ⟨x, y, z⟩
      have hql := mvF_len hmv
      refine (specMove_any fu fl _ rs2 ⟨x, y, z⟩ w4 (HS4.out.2.2.2.1.rods HS4.out.1 hcb).1 gu gl qs t hmv).mono ?_
      rintro e w5 ⟨⟨sq, rfl, ho⟩, hb⟩
      obtain ⟨a3, c3, rfl⟩ : ∃ a c, sq = .slice a qs.length c := by obtain ⟨a, c, e, _⟩ := RodsR.of_own ho; exact ⟨a, c, e⟩
      have hn5 : w4.grownBy w5 none := ⟨hb.os, hb.tape, hb.output, hb.size, fun k hk _ => hb.block k hk⟩
      have hs5 := HS4.out.old hn5
      have hm5 := (hn5.block _ (lt_of_block hmb) (by simp)).trans hmb
      have HO6 := Lib.hid ((own_mono ho HS4.out.1.size).alloc (.cells #[.int .i64 gu, .int .i64 gl, .slice a3 qs.length c3] 52))
      have HS6 := Lib.hid (hs5.alloc (.cells #[.int .i64 gu, .int .i64 gl, .slice a3 qs.length c3] 52))
      have hyb : (w5.alloc (.cells #[.int .i64 gu, .int .i64 gl, .slice a3 qs.length c3] 52)).heap[w5.heap.size]? = some (.cells #[.int .i64 gu, .int .i64 gl, .slice a3 qs.length c3] 52 (0, 0)) := alloc_at rfl
      have hxb : (w5.alloc (.cells #[.int .i64 gu, .int .i64 gl, .slice a3 qs.length c3] 52)).heap[XB]? = some (.cells #[.int .i64 x, .int .i64 y, .int .i64 z] 40 (0, 0)) := (alloc_old (lt_of_block hm5)).trans hm5
      have HYB := Lib.hid hyb
      have HXB := Lib.hid hxb
      obtain ⟨x0, x1, x2, y0, y1, y2⟩ := cell3 hm5
      have hlx := lt_of_block hm5
      clear hmv ho hb hn5 hs5 hm5 hmb HS4 hyb hxb
      cases t with
      | true =>
        go_wp2_with (at_builtin; refine wpList_append_own _ rfl _ _ 24 rfl w.heap.size 40 i0 (.agg #[.int .i64 0, .int .i64 0, .int .i64 0]) 3 24 Try.underlying24 hi hz0 hz1 hz2 rfl (by decide) _ _ _ rfl (HS6.out.2.2.2.2.1.alloc _) ⟨w5.heap.size + 1, 0, none⟩ 1 1 (mvC ⟨x, y, z⟩) rfl rfl ?c1 ?c2 ?c3 ?c4 ?c5 ?_)
        case c1 => exact news_at (vs := mvC ⟨x, y, z⟩) (alloc_at (by simp))
        case c2 => exact mvC_one _
        case c3 => unfold maxLen; omega
        case c4 => omega
        case c5 => have := HS6.out.1.size; simp at this ⊢; omega
        intro v' wn hown hgrow _
        have HSn := Lib.hid ((HS6.out.alloc (.cells #[.int .i64 x, .int .i64 y, .int .i64 z] 40)).push (x := ⟨x, y, z⟩) hown hgrow)
        have hya := (alloc_old (o := .cells #[.int .i64 x, .int .i64 y, .int .i64 z] 40) (lt_of_block HYB.out)).trans HYB.out
        have hyn := (hgrow.block _ (lt_of_block hya) (fun e => own_box (HS6.out.2.2.2.2.1.alloc (.cells #[.int .i64 x, .int .i64 y, .int .i64 z] 40)) hya (by decide) _ e.symm rfl)).trans hya
        have hon := own_kept2 (HO6.out.alloc (.cells #[.int .i64 x, .int .i64 y, .int .i64 z] 40)) (HS6.out.2.2.2.2.1.alloc (.cells #[.int .i64 x, .int .i64 y, .int .i64 z] 40)) (by decide) hgrow
        obtain ⟨t0, t1, t2, s0, s1, s2⟩ := cell3 hyn
        obtain ⟨p0, p1, p2, o0, o1, o2⟩ := cell3 HSn.out.2.2.1
        have HSf := Lib.hid (HSn.out.now gu gl a3 c3 qs hon (by omega))
        clear hown hgrow hya hyn hon x0 x1 x2 y0 y1 y2 hlx hlN HS6 HO6 HYB HXB HSn
        go_wp2_with fail
        go_roundw
        case rel => exact ⟨k, m + 20, gu, gl, a3, c3, qs, ms ++ [⟨x, y, z⟩], by first | rfl | go_num, by simp; omega, by omega, HSf.out⟩
        case measure => simp [intOf]
      | false =>
        go_wp2_with fail
        generalize w5.alloc (.cells #[.int .i64 gu, .int .i64 gl, .slice a3 qs.length c3] 52) = w6 at HS6 HXB ⊢
        refine (one_any cb cd L (m + 20) 8 w6 (by omega) ⟨by omega, by omega⟩ HS6.out.2.1 (HR.out.grown HS6.out.1)).mono ?_
        rintro e w7 ⟨⟨b, rfl⟩, hc7, hg7⟩
        have HS7 := Lib.hid (HS6.out.step hg7 hc7)
        have hx7 := (hg7.block _ (lt_of_block HXB.out) (by intro e; injection e with e; omega)).trans HXB.out
        clear hc7 hg7 HS6 x0 x1 x2 y0 y1 y2 hlx HO6 HYB HXB
        cases b with
        | true =>
          obtain ⟨x0, x1, x2, y0, y1, y2⟩ := cell3 hx7
          go_wp2_with (at_builtin; refine wpList_append_own _ rfl _ _ 24 rfl w.heap.size 40 i0 (.agg #[.int .i64 0, .int .i64 0, .int .i64 0]) 3 24 Try.underlying24 hi hz0 hz1 hz2 rfl (by decide) _ _ _ rfl (HS7.out.2.2.2.2.1.alloc _) ⟨w7.heap.size, 0, none⟩ 1 1 (mvC ⟨x, y, z⟩) rfl rfl ?c1 ?c2 ?c3 ?c4 ?c5 ?_)
          case c1 => exact news_at (vs := mvC ⟨x, y, z⟩) (alloc_at (by simp))
          case c2 => exact mvC_one _
          case c3 => unfold maxLen; omega
          case c4 => omega
          case c5 => have := HS7.out.1.size; simp at this ⊢; omega
          intro v' wn hown hgrow _
          have HSn := Lib.hid ((HS7.out.alloc (.cells #[.int .i64 x, .int .i64 y, .int .i64 z] 40)).push (x := ⟨x, y, z⟩) hown hgrow)
          clear hown hgrow x0 x1 x2 y0 y1 y2 hlN HS7 hx7
          go_wp2_with fail
          go_roundw
          case rel => exact ⟨k, m + 20 + 2, fu, fl, a2, c2, rs2, ms ++ [⟨x, y, z⟩], by first | rfl | go_num, by simp; omega, by omega, HSn.out⟩
          case measure => simp [intOf]
        | false =>
          clear hx7
          go_wp2_with fail
          go_roundw
          case rel => exact ⟨k, m + 20 + 2, fu, fl, a2, c2, rs2, ms, by first | rfl | go_num, by omega, by omega, HS7.out⟩
          case measure => simp [intOf]
    · obtain rfl : k = 0 := by omega
      go_wp2_with fail
      refine (one_any cb cd L m 40 wr (by omega) ⟨by omega, by omega⟩ HSd.out.2.1 (HR.out.grown HSd.out.1)).mono ?_
      rintro e w3 ⟨⟨b, rfl⟩, hc3, hg3⟩
      have HS3 := Lib.hid (HSd.out.step hg3 hc3)
      clear hc3 hg3 HSd
      cases b with
      | false =>
        go_wp2_with fail
        go_ret
        exact ⟨⟨_, ms, rfl, HS3.out.2.2.2.2.1, by omega⟩, HS3.out.2.1.more (by omega), HS3.out.1⟩
      | true =>
        obtain ⟨oa, oc, rfl⟩ := (RowsR.of_own mvC_len HS3.out.2.2.2.2.1).form
        go_wp2_with fail
        go_loopw [5] (fun ov wr => ∃ (m : Nat) (ms : List Mv) (oa : Option Addr) (oc : Nat), ov = .slice oa ms.length oc ∧ ms.length ≤ 61 ∧ m ≤ n + 200 + 2 * ms.length ∧ SdAt w wr cb cd m NB fu fl a2 c2 rs2 (.slice oa ms.length oc) ms) (fun ov _ => 70 - slLen ov)
        case atStart => exact ⟨m + 2, ms, oa, oc, rfl, by omega, by omega, HS3.out⟩
        case round =>
          obtain ⟨m2, ms2, ob, oc2, rfl, hl2, hm2, hs⟩ := hrel
          have HS4 := Lib.hid hs
          clear hs HS3
          go_wp2_with fail
          refine (pick_any cb cd L m2 2 wr (by omega) (by omega) (by omega) HS4.out.2.1 (HR.out.grown HS4.out.1)).mono ?_
          rintro e w4 ⟨⟨r, rfl, r0, r1⟩, hc4, hg4⟩
          have HS5 := Lib.hid (HS4.out.step hg4 hc4)
          have q6 : IntKind.i64.wrap (60 + r) = 60 + r := by rw [IntKind.wrap_i64]; omega
          clear hc4 hg4 HS4
          by_cases hlt : (ms2.length : Int) < 60 + r
          · obtain ⟨D, hD⟩ : ∃ D, (ms2.length : Int).tmod 2 = D := ⟨_, rfl⟩
            have hDb : 0 ≤ D ∧ D ≤ 1 := by rw [← hD, Int.tmod_eq_emod_of_nonneg (by omega)]; omega
            have hw1 : IntKind.i64.wrap (2 * D) = 2 * D := by rw [IntKind.wrap_i64]; omega
            have hw2 : IntKind.i64.wrap (1 - 2 * D) = 1 - 2 * D := by rw [IntKind.wrap_i64]; omega
            go_wp2_with (at_builtin; refine wpList_append_own _ rfl _ _ 24 rfl w.heap.size 40 i0 (.agg #[.int .i64 0, .int .i64 0, .int .i64 0]) 3 24 Try.underlying24 hi hz0 hz1 hz2 rfl (by decide) _ _ _ rfl (HS5.out.2.2.2.2.1.alloc _) ⟨w4.heap.size, 0, none⟩ 1 1 (mvC ⟨0, 1, 1 - 2 * D⟩) rfl rfl ?c1 ?c2 ?c3 ?c4 ?c5 ?_)
            case c1 => exact news_at (vs := mvC ⟨0, 1, 1 - 2 * D⟩) (alloc_at (by simp))
            case c2 => exact mvC_one _
            case c3 => unfold maxLen; omega
            case c4 => omega
            case c5 => have := HS5.out.1.size; simp at this ⊢; omega
            intro v' wn hown hgrow _
            have HSn := Lib.hid ((HS5.out.alloc (.cells #[.int .i64 0, .int .i64 1, .int .i64 (1 - 2 * D)] 40)).push (x := ⟨0, 1, 1 - 2 * D⟩) hown hgrow)
            obtain ⟨ob2, oc3, rfl⟩ := (RowsR.of_own mvC_len HSn.out.2.2.2.2.1).form
            clear hown hgrow hD hw1 hw2 q6 HS5
            go_wp2_with fail
            go_roundw
            case rel => exact ⟨m2 + 2, ms2 ++ [⟨0, 1, 1 - 2 * D⟩], ob2, oc3, rfl, by simp; omega, by simp; omega, HSn.out⟩
            case measure => simp [slLen]; omega
          · go_wp2_with fail
            go_ret
            exact ⟨⟨_, ms2, rfl, HS5.out.2.2.2.2.1, by omega⟩, HS5.out.2.1.more (by omega), HS5.out.1⟩
end Go.Proofs.Ytmkocinknhaniaa
