/- The program's JoinBoards. -/
import Derived.Test.YtbdddpchlmddbaaDoorJcarry
import Derived.Test.YtbdddpchlmddbaaDoorIlvb
import Derived.Test.YtbdddpchlmddbaaDoorBjoin
namespace Go.Proofs.YtbdddpchlmddbaaDoor
set_option linter.unusedVariables false
open Go.RowKit

theorem ilv_jn (ls ss ms ts : List Int) (hs : ss.length = ls.length) (ht : ts.length = ms.length) (hl : ls.length = ms.length) : jn (ilv ls ss) (ilv ms ts) (ilv ls ss).length = ilv (jn ls ms ls.length) (jn ss ts ss.length) := by
  have h1 := ilv_len ls ss
  have h2 := ilv_len ms ts
  refine List.ext_getElem (by rw [jn_len, ilv_len, ilv_len, jn_len]) fun i hi hi2 => ?_
  rw [jn_len] at hi
  rw [jn_early _ _ _ i _ hi (by omega) hi]
  rcases ev_or i with ⟨k, rfl⟩ | ⟨k, rfl⟩
  · have k1 : k < ls.length := by omega
    rw [ilv_ev ls ss k hi k1, ilv_ev ms ts k _ (by omega), ilv_ev _ _ k hi2 (by rw [jn_len]; exact k1), jn_early _ _ _ k _ k1 (by omega) k1]
  · have k1 : k < ss.length := by omega
    rw [ilv_od ls ss k hi k1, ilv_od ms ts k _ (by omega), ilv_od _ _ k hi2 (by rw [jn_len]; exact k1), jn_early _ _ _ k _ k1 (by omega) k1]
set_option maxRecDepth 100000 in
set_option maxHeartbeats 6400000 in
theorem implJoin_yes (v1 v2 u1 u2 : Value) (ls ss ms ts : List Int) (w : World) (h : BrdR w v1 v2 ls ss) (h' : BrdR w u1 u2 ms ts) (hg1 : okB ls ss) (hg2 : okB ms ts) (hl : ls.length = ms.length) (qs qt : List Int) (r : Bool)
    (hk : (ctr (jn (ilv ls ss) (ilv ms ts) (ilv ls ss).length) ∧ qs = evs (jn (ilv ls ss) (ilv ms ts) (ilv ls ss).length) ∧ qt = ods (jn (ilv ls ss) (ilv ms ts) (ilv ls ss).length) ∧ r = true) ∨ (¬ ctr (jn (ilv ls ss) (ilv ms ts) (ilv ls ss).length) ∧ qs = [] ∧ qt = [] ∧ r = false)) :
    Calls Tryd.prog 14 #[.agg #[v1, v2], .agg #[u1, u2]] w fun e w' => (∃ s1 t1, e = .returned (.tuple #[.agg #[s1, t1], .bool r]) ∧ OwB w.heap.size w'.heap.size w' s1 t1 qs qt) ∧ Below w.heap.size w w' := by
  obtain ⟨a1, c1, a2, c2, rfl, rfl⟩ := h.form
  obtain ⟨b1, d1, b2, d2, rfl, rfl⟩ := h'.form
  have H1 := Lib.hid hg1
  have H2 := Lib.hid hg2
  have hlb : ((ls.length : Int) != (ms.length : Int)) = false := by simp [hl]
  have HPA := Lib.hid (fun v1 v2 w (h : BrdR w v1 v2 ls ss) => placesOf_any v1 v2 ls ss w h hg1.1.2 hg1.2.1)
  have HPB := Lib.hid (fun v1 v2 w (h : BrdR w v1 v2 ms ts) => placesOf_any v1 v2 ms ts w h hg2.1.2 hg2.2.1)
  have HL1 : Hid ((ilv ls ss).length = 2 * ls.length) := Lib.hid (ilv_len ls ss)
  have HL2 : Hid ((ilv ms ts).length = (ilv ls ss).length) := Lib.hid (by rw [ilv_len, ilv_len, hl])
  have HC1 : Hid (ctr (ilv ls ss)) := Lib.hid ((okB_ilv ls ss).1 hg1).2
  have HC2 : Hid (ctr (ilv ms ts)) := Lib.hid ((okB_ilv ms ts).1 hg2).2
  have hn12 : (ilv ls ss).length ≤ 12 := by rw [ilv_len]; have := hg1.1.2; omega
  have hl6 : ls.length ≤ 6 := hg1.1.2
  generalize ilv ls ss = ps at hk HPA HL1 HL2 HC1 hn12
  generalize ilv ms ts = rs at hk HPB HL2 HC2
  have HK := Lib.hid hk
  have HB0 : Hid (Below w.heap.size w w) := Lib.hid (Below.refl _ _)
  have HRf0 := Lib.hid (h)
  have HRg0 := Lib.hid (h')
  clear h h' hg1 hg2 hk hl
  go_enter Tryd.func14, Tryd.ntmps14
  go_wp2_with fail
  have hb : Below w.heap.size w (w.alloc (.cells #[.slice a1 ls.length c1, .slice a2 ss.length c2] 26)) := (Below.refl _ _).alloc (Nat.le_refl _) _
  have hk : (w.alloc (.cells #[.slice a1 ls.length c1, .slice a2 ss.length c2] 26)).heap[w.heap.size]? = some (.cells #[.slice a1 ls.length c1, .slice a2 ss.length c2] 26 (0, 0)) := alloc_at rfl
  have hz : (w.alloc (.cells #[.slice a1 ls.length c1, .slice a2 ss.length c2] 26)).heap.size = w.heap.size + 1 := by simp
  generalize w.alloc (.cells #[.slice a1 ls.length c1, .slice a2 ss.length c2] 26) = w1 at hb hk hz ⊢
  have HB1 : Hid (Below w.heap.size w w1) := Lib.hid (HB0.out.trans (hb.mono HB0.out.size))
  have HZ1 : Hid (w.heap.size ≤ w1.heap.size) := Lib.hid hb.size
  have HRf1 := Lib.hid (HRf0.out.below HB1.out (Nat.le_refl _))
  have HRg1 := Lib.hid (HRg0.out.below HB1.out (Nat.le_refl _))
  have HKa1 := Lib.hid hk
  replace HZ1 : Hid (w.heap.size < w1.heap.size) := Lib.hid (by omega)
  have HE1 := Lib.hid hz
  clear hb hk hz
  have hb : Below w1.heap.size w1 (w1.alloc (.cells #[.slice b1 ms.length d1, .slice b2 ts.length d2] 26)) := (Below.refl _ _).alloc (Nat.le_refl _) _
  have hk : (w1.alloc (.cells #[.slice b1 ms.length d1, .slice b2 ts.length d2] 26)).heap[w.heap.size + 1]? = some (.cells #[.slice b1 ms.length d1, .slice b2 ts.length d2] 26 (0, 0)) := alloc_at (by have := HE1.out; omega)
  have hz : (w1.alloc (.cells #[.slice b1 ms.length d1, .slice b2 ts.length d2] 26)).heap.size = w1.heap.size + 1 := by simp
  generalize w1.alloc (.cells #[.slice b1 ms.length d1, .slice b2 ts.length d2] 26) = w2 at hb hk hz ⊢
  have HB2 : Hid (Below w.heap.size w w2) := Lib.hid (HB1.out.trans (hb.mono HB1.out.size))
  have HZ2 : Hid (w1.heap.size ≤ w2.heap.size) := Lib.hid hb.size
  have HRf2 := Lib.hid (HRf0.out.below HB2.out (Nat.le_refl _))
  have HRg2 := Lib.hid (HRg0.out.below HB2.out (Nat.le_refl _))
  have HKa2 := Lib.hid ((hb.block _ (lt_of_block HKa1.out)).trans HKa1.out)
  have HKc2 := Lib.hid hk
  replace HZ2 : Hid (w1.heap.size < w2.heap.size) := Lib.hid (by omega)
  have HE2 := Lib.hid hz
  clear hb hk hz
  have hb : Below w2.heap.size w2 (w2.alloc (.cells #[.slice none 0 0, .slice none 0 0] 26)) := (Below.refl _ _).alloc (Nat.le_refl _) _
  have hk : (w2.alloc (.cells #[.slice none 0 0, .slice none 0 0] 26)).heap[w.heap.size + 2]? = some (.cells #[.slice none 0 0, .slice none 0 0] 26 (0, 0)) := alloc_at (by have := HE1.out; have := HE2.out; omega)
  have hz : (w2.alloc (.cells #[.slice none 0 0, .slice none 0 0] 26)).heap.size = w2.heap.size + 1 := by simp
  generalize w2.alloc (.cells #[.slice none 0 0, .slice none 0 0] 26) = w3 at hb hk hz ⊢
  have HB3 : Hid (Below w.heap.size w w3) := Lib.hid (HB2.out.trans (hb.mono HB2.out.size))
  have HZ3 : Hid (w2.heap.size ≤ w3.heap.size) := Lib.hid hb.size
  have HRf3 := Lib.hid (HRf0.out.below HB3.out (Nat.le_refl _))
  have HRg3 := Lib.hid (HRg0.out.below HB3.out (Nat.le_refl _))
  have HKa3 := Lib.hid ((hb.block _ (lt_of_block HKa2.out)).trans HKa2.out)
  have HKc3 := Lib.hid ((hb.block _ (lt_of_block HKc2.out)).trans HKc2.out)
  have HKz3 := Lib.hid hk
  replace HZ3 : Hid (w2.heap.size < w3.heap.size) := Lib.hid (by omega)
  have HE3 := Lib.hid hz
  clear hb hk hz
  have lta := lt_of_block HKa3.out
  obtain ⟨ca0, ca1, fa0, fa1⟩ := cell2 HKa3.out
  have ltc := lt_of_block HKc3.out
  obtain ⟨cc0, cc1, fc0, fc1⟩ := cell2 HKc3.out
  have ltz := lt_of_block HKz3.out
  obtain ⟨cz0, cz1, fz0, fz1⟩ := cell2 HKz3.out
  have hlz3 : w.heap.size + 2 < w3.heap.size := ltz
  refine (implIsBoard_any _ _ ls ss _ HRf3.out true ⟨fun _ => H1.out, fun _ => rfl⟩).mono ?_
  rintro e w4 ⟨rfl, hb⟩
  have HB4 : Hid (Below w.heap.size w w4) := Lib.hid (HB3.out.trans (hb.mono HB3.out.size))
  have HZ4 : Hid (w3.heap.size ≤ w4.heap.size) := Lib.hid hb.size
  have HRf4 := Lib.hid (HRf0.out.below HB4.out (Nat.le_refl _))
  have HRg4 := Lib.hid (HRg0.out.below HB4.out (Nat.le_refl _))
  have HKa4 := Lib.hid ((hb.block _ (lt_of_block HKa3.out)).trans HKa3.out)
  have HKc4 := Lib.hid ((hb.block _ (lt_of_block HKc3.out)).trans HKc3.out)
  have HKz4 := Lib.hid ((hb.block _ (lt_of_block HKz3.out)).trans HKz3.out)
  clear hb
  clear ca0 ca1 fa0 fa1 lta cc0 cc1 fc0 fc1 ltc cz0 cz1 fz0 fz1 ltz
  have lta := lt_of_block HKa4.out
  obtain ⟨ca0, ca1, fa0, fa1⟩ := cell2 HKa4.out
  have ltc := lt_of_block HKc4.out
  obtain ⟨cc0, cc1, fc0, fc1⟩ := cell2 HKc4.out
  have ltz := lt_of_block HKz4.out
  obtain ⟨cz0, cz1, fz0, fz1⟩ := cell2 HKz4.out
  go_wp2_with fail
  refine (implIsBoard_any _ _ ms ts _ HRg4.out true ⟨fun _ => H2.out, fun _ => rfl⟩).mono ?_
  rintro e w5 ⟨rfl, hb⟩
  have HB5 : Hid (Below w.heap.size w w5) := Lib.hid (HB4.out.trans (hb.mono HB4.out.size))
  have HZ5 : Hid (w4.heap.size ≤ w5.heap.size) := Lib.hid hb.size
  have HRf5 := Lib.hid (HRf0.out.below HB5.out (Nat.le_refl _))
  have HRg5 := Lib.hid (HRg0.out.below HB5.out (Nat.le_refl _))
  have HKa5 := Lib.hid ((hb.block _ (lt_of_block HKa4.out)).trans HKa4.out)
  have HKc5 := Lib.hid ((hb.block _ (lt_of_block HKc4.out)).trans HKc4.out)
  have HKz5 := Lib.hid ((hb.block _ (lt_of_block HKz4.out)).trans HKz4.out)
  clear hb
  clear ca0 ca1 fa0 fa1 lta cc0 cc1 fc0 fc1 ltc cz0 cz1 fz0 fz1 ltz
  have lta := lt_of_block HKa5.out
  obtain ⟨ca0, ca1, fa0, fa1⟩ := cell2 HKa5.out
  have ltc := lt_of_block HKc5.out
  obtain ⟨cc0, cc1, fc0, fc1⟩ := cell2 HKc5.out
  have ltz := lt_of_block HKz5.out
  obtain ⟨cz0, cz1, fz0, fz1⟩ := cell2 HKz5.out
  go_wp2_with fail
  have hlz5 : w.heap.size + 2 < w5.heap.size := by have := HZ5.out; have := HZ4.out; omega
  refine (HPA.out _ _ _ HRf5.out).mono ?_
  rintro e w6 ⟨⟨v', rfl, ho⟩, hb⟩
  have HB6 : Hid (Below w.heap.size w w6) := Lib.hid (HB5.out.trans (hb.mono HB5.out.size))
  have HZ6 : Hid (w5.heap.size ≤ w6.heap.size) := Lib.hid hb.size
  have HRf6 := Lib.hid (HRf0.out.below HB6.out (Nat.le_refl _))
  have HRg6 := Lib.hid (HRg0.out.below HB6.out (Nat.le_refl _))
  have HKa6 := Lib.hid ((hb.block _ (lt_of_block HKa5.out)).trans HKa5.out)
  have HKc6 := Lib.hid ((hb.block _ (lt_of_block HKc5.out)).trans HKc5.out)
  have HKz6 := Lib.hid ((hb.block _ (lt_of_block HKz5.out)).trans HKz5.out)
  clear hb
  obtain ⟨g1, k1, rfl⟩ := own_some ho.1 (by have := HL1.out; have := H1.out.1.1; omega)
  have hg15 : w5.heap.size ≤ g1 := (ho.1.lt g1 rfl).1
  have hg16 : g1 < w6.heap.size := (ho.1.lt g1 rfl).2
  have HOp6 := Lib.hid (ho)
  clear ho
  clear ca0 ca1 fa0 fa1 lta cc0 cc1 fc0 fc1 ltc cz0 cz1 fz0 fz1 ltz
  have lta := lt_of_block HKa6.out
  obtain ⟨ca0, ca1, fa0, fa1⟩ := cell2 HKa6.out
  have ltc := lt_of_block HKc6.out
  obtain ⟨cc0, cc1, fc0, fc1⟩ := cell2 HKc6.out
  have ltz := lt_of_block HKz6.out
  obtain ⟨cz0, cz1, fz0, fz1⟩ := cell2 HKz6.out
  go_wp2_with fail
  refine (HPB.out _ _ _ HRg6.out).mono ?_
  rintro e w7 ⟨⟨v', rfl, ho⟩, hb⟩
  have HB7 : Hid (Below w.heap.size w w7) := Lib.hid (HB6.out.trans (hb.mono HB6.out.size))
  have HZ7 : Hid (w6.heap.size ≤ w7.heap.size) := Lib.hid hb.size
  have HRf7 := Lib.hid (HRf0.out.below HB7.out (Nat.le_refl _))
  have HRg7 := Lib.hid (HRg0.out.below HB7.out (Nat.le_refl _))
  have HKa7 := Lib.hid ((hb.block _ (lt_of_block HKa6.out)).trans HKa6.out)
  have HKc7 := Lib.hid ((hb.block _ (lt_of_block HKc6.out)).trans HKc6.out)
  have HKz7 := Lib.hid ((hb.block _ (lt_of_block HKz6.out)).trans HKz6.out)
  have HOp7 := Lib.hid (HOp6.out.next hb)
  clear hb
  obtain ⟨g2, k2, rfl⟩ := own_some ho.1 (by have := HL1.out; have := HL2.out; have := H1.out.1.1; omega)
  have hg26 : w6.heap.size ≤ g2 := (ho.1.lt g2 rfl).1
  have HOq7 := Lib.hid (ho)
  clear ho
  clear ca0 ca1 fa0 fa1 lta cc0 cc1 fc0 fc1 ltc cz0 cz1 fz0 fz1 ltz
  have lta := lt_of_block HKa7.out
  obtain ⟨ca0, ca1, fa0, fa1⟩ := cell2 HKa7.out
  have ltc := lt_of_block HKc7.out
  obtain ⟨cc0, cc1, fc0, fc1⟩ := cell2 HKc7.out
  have ltz := lt_of_block HKz7.out
  obtain ⟨cz0, cz1, fz0, fz1⟩ := cell2 HKz7.out
  go_wp2_with fail
  go_loopw [32] (fun i wr => ∃ k : Nat, k ≤ rs.length ∧ i = .int .i64 k ∧ Ow w5.heap.size w6.heap.size wr 3 1 (.slice (some ⟨g1, 0, none⟩) ps.length k1) ps.length (flatC inC (jn ps rs k)) ∧ Ow w6.heap.size w7.heap.size wr 3 1 (.slice (some ⟨g2, 0, none⟩) rs.length k2) rs.length (flatC inC rs) ∧ wr.heap[w.heap.size + 2]? = some (.cells #[.slice none 0 0, .slice none 0 0] 26 (0, 0)) ∧ Below w.heap.size w wr ∧ w7.heap.size ≤ wr.heap.size) (fun i _ => rs.length - (intOf i).toNat)
  case atStart => exact ⟨0, Nat.zero_le _, rfl, HOp7.out, HOq7.out, HKz7.out, HB7.out, Nat.le_refl _⟩
  case round =>
    obtain ⟨k, hk, rfl, hop, hoq, hkz, hb, hsz⟩ := hrel
    have HSZ := Lib.hid hsz
    have HB := Lib.hid hb
    have HKZ := Lib.hid hkz
    have HOP := Lib.hid hop
    have HOQ := Lib.hid hoq
    clear hop hoq hkz hb hsz
    by_cases hlt : k < rs.length
    · have hlp : k < ps.length := by have := HL2.out; omega
      have z1 : (0 : Int) ≤ (k : Int) := by omega
      have z2 : (k : Int) < (rs.length : Int) := by omega
      have z3 : (k : Int) < (ps.length : Int) := by omega
      have hjl : k < (jn ps rs k).length := by rw [jn_len]; exact hlp
      obtain ⟨x, hx⟩ : ∃ x, ps[k] = x := ⟨_, rfl⟩
      obtain ⟨y, hy⟩ : ∃ y, rs[k] = y := ⟨_, rfl⟩
      have hxb := HC1.out k hlp
      have hyb := HC2.out k hlt
      rw [hx] at hxb
      rw [hy] at hyb
      obtain ⟨x0, x1⟩ := hxb
      obtain ⟨y0, y1⟩ := hyb
      have w1' : IntKind.i64.wrap (x + y) = x + y := by rw [IntKind.wrap_i64]; omega
      have d0 : wr.cell? ⟨g1, k, none⟩ = some (.int .i64 x) := (HOP.out.1.cellAt k (by omega)).trans (by rw [flat_iat _ k hjl, jn_late _ _ k k hjl hlp (Nat.le_refl _), hx])
      have e0 : wr.cell? ⟨g2, k, none⟩ = some (.int .i64 y) := (HOQ.out.1.cellAt k (by omega)).trans (by rw [flat_iat _ k hlt, hy])
      have f0 := HOP.out.1.frozenAt k
      have hm : Btw g1 (g1 + 1) wr (wr.setCell ⟨g1, k, none⟩ (.int .i64 (x + y))) := (Btw.refl g1 (g1 + 1) wr).setCell (p := ⟨g1, k, none⟩) (Nat.le_refl _) (Nat.lt_succ_self _) _
      have HS : Hid ((jn ps rs k).set k (x + y) = jn ps rs (k + 1)) := Lib.hid (by rw [← hx, ← hy]; exact jn_step ps rs k hlp hlt)
      have HOP2 : Hid (Ow w5.heap.size w6.heap.size (wr.setCell ⟨g1, k, none⟩ (.int .i64 (x + y))) 3 1 (.slice (some ⟨g1, 0, none⟩) ps.length k1) ps.length (flatC inC (jn ps rs (k + 1)))) := Lib.hid (by
        have := HOP.out.stored k (.int .i64 (x + y))
        rw [flat_iset, HS.out] at this
        exact this)
      have HOQ2 := Lib.hid (HOQ.out.btw hm (by omega))
      have HKZ2 := Lib.hid ((hm.block (w.heap.size + 2) (by omega)).trans HKZ.out)
      have HB2 := Lib.hid (HB.out.trans (hm.below.mono (by omega)))
      have HSZ2 : Hid (w7.heap.size ≤ (wr.setCell ⟨g1, k, none⟩ (.int .i64 (x + y))).heap.size) := Lib.hid (by have := HSZ.out; simp [World.setCell]; omega)
      clear hx hy hm hjl
      go_wp2_with fail
      go_roundw
      case rel => exact ⟨k + 1, by omega, by go_num, HOP2.out, HOQ2.out, HKZ2.out, HB2.out, HSZ2.out⟩
      case measure => simp [intOf]; omega
    · obtain rfl : k = rs.length := by omega
      obtain ⟨js, hjs⟩ : ∃ js, jn ps rs rs.length = js := ⟨_, rfl⟩
      have HJL : Hid (js.length = ps.length) := Lib.hid (by rw [← hjs, jn_len])
      have HKJ : Hid ((ctr js ∧ qs = evs js ∧ qt = ods js ∧ r = true) ∨ (¬ ctr js ∧ qs = [] ∧ qt = [] ∧ r = false)) := Lib.hid (by rw [← hjs, HL2.out]; exact HK.out)
      have hop := HOP.out
      rw [hjs] at hop
      have hb := HB.out
      have HB20 : Hid (Below w.heap.size w wr) := Lib.hid hb
      have HRf20 := Lib.hid (HRf0.out.below HB20.out (Nat.le_refl _))
      have HRg20 := Lib.hid (HRg0.out.below HB20.out (Nat.le_refl _))
      have HKz20 := Lib.hid (HKZ.out)
      clear hb hjs
      have hsz := HSZ.out
      have HOJ := Lib.hid hop
      have hread : RowsR 1 inC wr (.slice (some ⟨g1, 0, none⟩) ps.length k1) js := (by have := RowsR.of_own inC_len (own_relen' HJL.out hop.1); exact this) 
      have HRD := Lib.hid hread
      clear hop hread
      have ltz := lt_of_block HKz20.out
      obtain ⟨cz0, cz1, fz0, fz1⟩ := cell2 HKz20.out
      go_wp2_with fail
      by_cases hc : ctr js
      · have HC := Lib.hid hc
        have HR : Hid (qs = evs js ∧ qt = ods js ∧ r = true) := Lib.hid (by
          rcases HKJ.out with ⟨_, h2⟩ | ⟨h1, _⟩
          · exact h2
          · exact absurd hc h1)
        obtain ⟨rfl, rfl, rfl⟩ := HR.out
        clear hc
        have HOj20 := Lib.hid (HOJ.out)
        refine (areCounters_any _ js _ HRD.out (by rw [HJL.out]; exact hn12) true (Lib.hid ⟨fun _ => HC.out, fun _ => rfl⟩)).mono ?_
        rintro e w21 ⟨rfl, hb⟩
        have HB21 : Hid (Below w.heap.size w w21) := Lib.hid (HB20.out.trans (hb.mono HB20.out.size))
        have HZ21 : Hid (wr.heap.size ≤ w21.heap.size) := Lib.hid hb.size
        have HRf21 := Lib.hid (HRf0.out.below HB21.out (Nat.le_refl _))
        have HRg21 := Lib.hid (HRg0.out.below HB21.out (Nat.le_refl _))
        have HKz21 := Lib.hid ((hb.block _ (lt_of_block HKz20.out)).trans HKz20.out)
        have HOj21 := Lib.hid (HOj20.out.next hb)
        clear hb
        have HRD2 : Hid (RowsR 1 inC w21 (.slice (some ⟨g1, 0, none⟩) ps.length k1) js) := Lib.hid (RowsR.of_own inC_len (own_relen' HJL.out HOj21.out.1))
        clear cz0 cz1 fz0 fz1 ltz
        have ltz := lt_of_block HKz21.out
        obtain ⟨cz0, cz1, fz0, fz1⟩ := cell2 HKz21.out
        go_wp2_with fail
        refine (boardOf_any _ js ls.length _ HRD2.out hl6 (by rw [HJL.out]; exact HL1.out)).mono ?_
        rintro e w22 ⟨⟨s1, s2, rfl, ho⟩, hb⟩
        have HB22 : Hid (Below w.heap.size w w22) := Lib.hid (HB21.out.trans (hb.mono HB21.out.size))
        have HZ22 : Hid (w21.heap.size ≤ w22.heap.size) := Lib.hid hb.size
        have HRf22 := Lib.hid (HRf0.out.below HB22.out (Nat.le_refl _))
        have HRg22 := Lib.hid (HRg0.out.below HB22.out (Nat.le_refl _))
        have HKz22 := Lib.hid ((hb.block _ (lt_of_block HKz21.out)).trans HKz21.out)
        have HOj22 := Lib.hid (HOj21.out.next hb)
        clear hb
        obtain ⟨p1, k3, p2, k4, rfl, rfl⟩ := ho.form
        have hl21 : w.heap.size + 2 < w21.heap.size := by have := HZ21.out; omega
        have HOv22 := Lib.hid (ho)
        clear ho
        clear cz0 cz1 fz0 fz1 ltz
        have ltz := lt_of_block HKz22.out
        obtain ⟨cz0, cz1, fz0, fz1⟩ := cell2 HKz22.out
        go_wp2_with fail
        exact bodyPost_ret (v := .tuple #[.agg #[.slice p1 (evs js).length k3, .slice p2 (ods js).length k4], .bool true]) (by simp [results, Tryd.results14, go_sem, cz0, cz1]) rfl ⟨⟨_, _, rfl, ((HOv22.out.set (a := ⟨w.heap.size + 2, 0, none⟩) hl21 _).set (a := ⟨w.heap.size + 2, 1, none⟩) hl21 _).mono (by omega) (by simp [World.setCell])⟩, by first | exact HB22.out | exact (HB22.out.setCell (p := ⟨w.heap.size + 2, 0, none⟩) (by show w.heap.size ≤ w.heap.size + 2; omega) _).setCell (p := ⟨w.heap.size + 2, 1, none⟩) (by show w.heap.size ≤ w.heap.size + 2; omega) _⟩
      · have HC := Lib.hid hc
        have HR : Hid (qs = [] ∧ qt = [] ∧ r = false) := Lib.hid (by
          rcases HKJ.out with ⟨h1, _⟩ | ⟨_, h2⟩
          · exact absurd h1 hc
          · exact h2)
        obtain ⟨rfl, rfl, rfl⟩ := HR.out
        clear hc
        refine (areCounters_any _ js _ HRD.out (by rw [HJL.out]; exact hn12) false (Lib.hid ⟨fun e => by simp at e, fun e => absurd e HC.out⟩)).mono ?_
        rintro e w21 ⟨rfl, hb⟩
        have HB21 : Hid (Below w.heap.size w w21) := Lib.hid (HB20.out.trans (hb.mono HB20.out.size))
        have HZ21 : Hid (wr.heap.size ≤ w21.heap.size) := Lib.hid hb.size
        have HRf21 := Lib.hid (HRf0.out.below HB21.out (Nat.le_refl _))
        have HRg21 := Lib.hid (HRg0.out.below HB21.out (Nat.le_refl _))
        have HKz21 := Lib.hid ((hb.block _ (lt_of_block HKz20.out)).trans HKz20.out)
        clear hb
        clear cz0 cz1 fz0 fz1 ltz
        have ltz := lt_of_block HKz21.out
        obtain ⟨cz0, cz1, fz0, fz1⟩ := cell2 HKz21.out
        go_wp2_with fail
        exact bodyPost_ret (v := .tuple #[.agg #[.slice none 0 0, .slice none 0 0], .bool false]) (by simp [results, Tryd.results14, go_sem, cz0, cz1]) rfl ⟨⟨_, _, rfl, OwB.nil' _ _ _⟩, by first | exact HB21.out | exact (HB21.out.setCell (p := ⟨w.heap.size + 2, 0, none⟩) (by show w.heap.size ≤ w.heap.size + 2; omega) _).setCell (p := ⟨w.heap.size + 2, 1, none⟩) (by show w.heap.size ≤ w.heap.size + 2; omega) _⟩
set_option maxRecDepth 100000 in
set_option maxHeartbeats 3200000 in
theorem implJoin_no (v1 v2 u1 u2 : Value) (ls ss ms ts : List Int) (w : World) (h : BrdR w v1 v2 ls ss) (h' : BrdR w u1 u2 ms ts) (hg : ¬ (okB ls ss ∧ okB ms ts ∧ ls.length = ms.length)) (qs qt : List Int) (r : Bool) (hk : qs = [] ∧ qt = [] ∧ r = false) :
    Calls Tryd.prog 14 #[.agg #[v1, v2], .agg #[u1, u2]] w fun e w' => (∃ s1 t1, e = .returned (.tuple #[.agg #[s1, t1], .bool r]) ∧ OwB w.heap.size w'.heap.size w' s1 t1 qs qt) ∧ Below w.heap.size w w' := by
  obtain ⟨a1, c1, a2, c2, rfl, rfl⟩ := h.form
  obtain ⟨b1, d1, b2, d2, rfl, rfl⟩ := h'.form
  obtain ⟨rfl, rfl, rfl⟩ := hk
  have HB0 : Hid (Below w.heap.size w w) := Lib.hid (Below.refl _ _)
  have HRf0 := Lib.hid (h)
  have HRg0 := Lib.hid (h')
  clear h h'
  by_cases h1 : okB ls ss
  · by_cases h2 : okB ms ts
    · have hlb : ((ls.length : Int) != (ms.length : Int)) = true := by
        rw [bne_iff_ne]; intro e; exact hg ⟨h1, h2, by omega⟩
      have H1 := Lib.hid h1
      have H2 := Lib.hid h2
      clear h1 h2 hg
      go_enter Tryd.func14, Tryd.ntmps14
      go_wp2_with fail
      have hb : Below w.heap.size w (w.alloc (.cells #[.slice a1 ls.length c1, .slice a2 ss.length c2] 26)) := (Below.refl _ _).alloc (Nat.le_refl _) _
      have hk : (w.alloc (.cells #[.slice a1 ls.length c1, .slice a2 ss.length c2] 26)).heap[w.heap.size]? = some (.cells #[.slice a1 ls.length c1, .slice a2 ss.length c2] 26 (0, 0)) := alloc_at rfl
      have hz : (w.alloc (.cells #[.slice a1 ls.length c1, .slice a2 ss.length c2] 26)).heap.size = w.heap.size + 1 := by simp
      generalize w.alloc (.cells #[.slice a1 ls.length c1, .slice a2 ss.length c2] 26) = w1 at hb hk hz ⊢
      have HB1 : Hid (Below w.heap.size w w1) := Lib.hid (HB0.out.trans (hb.mono HB0.out.size))
      have HZ1 : Hid (w.heap.size ≤ w1.heap.size) := Lib.hid hb.size
      have HRf1 := Lib.hid (HRf0.out.below HB1.out (Nat.le_refl _))
      have HRg1 := Lib.hid (HRg0.out.below HB1.out (Nat.le_refl _))
      have HKa1 := Lib.hid hk
      replace HZ1 : Hid (w.heap.size < w1.heap.size) := Lib.hid (by omega)
      have HE1 := Lib.hid hz
      clear hb hk hz
      have hb : Below w1.heap.size w1 (w1.alloc (.cells #[.slice b1 ms.length d1, .slice b2 ts.length d2] 26)) := (Below.refl _ _).alloc (Nat.le_refl _) _
      have hk : (w1.alloc (.cells #[.slice b1 ms.length d1, .slice b2 ts.length d2] 26)).heap[w.heap.size + 1]? = some (.cells #[.slice b1 ms.length d1, .slice b2 ts.length d2] 26 (0, 0)) := alloc_at (by have := HE1.out; omega)
      have hz : (w1.alloc (.cells #[.slice b1 ms.length d1, .slice b2 ts.length d2] 26)).heap.size = w1.heap.size + 1 := by simp
      generalize w1.alloc (.cells #[.slice b1 ms.length d1, .slice b2 ts.length d2] 26) = w2 at hb hk hz ⊢
      have HB2 : Hid (Below w.heap.size w w2) := Lib.hid (HB1.out.trans (hb.mono HB1.out.size))
      have HZ2 : Hid (w1.heap.size ≤ w2.heap.size) := Lib.hid hb.size
      have HRf2 := Lib.hid (HRf0.out.below HB2.out (Nat.le_refl _))
      have HRg2 := Lib.hid (HRg0.out.below HB2.out (Nat.le_refl _))
      have HKa2 := Lib.hid ((hb.block _ (lt_of_block HKa1.out)).trans HKa1.out)
      have HKc2 := Lib.hid hk
      replace HZ2 : Hid (w1.heap.size < w2.heap.size) := Lib.hid (by omega)
      have HE2 := Lib.hid hz
      clear hb hk hz
      have hb : Below w2.heap.size w2 (w2.alloc (.cells #[.slice none 0 0, .slice none 0 0] 26)) := (Below.refl _ _).alloc (Nat.le_refl _) _
      have hk : (w2.alloc (.cells #[.slice none 0 0, .slice none 0 0] 26)).heap[w.heap.size + 2]? = some (.cells #[.slice none 0 0, .slice none 0 0] 26 (0, 0)) := alloc_at (by have := HE1.out; have := HE2.out; omega)
      have hz : (w2.alloc (.cells #[.slice none 0 0, .slice none 0 0] 26)).heap.size = w2.heap.size + 1 := by simp
      generalize w2.alloc (.cells #[.slice none 0 0, .slice none 0 0] 26) = w3 at hb hk hz ⊢
      have HB3 : Hid (Below w.heap.size w w3) := Lib.hid (HB2.out.trans (hb.mono HB2.out.size))
      have HZ3 : Hid (w2.heap.size ≤ w3.heap.size) := Lib.hid hb.size
      have HRf3 := Lib.hid (HRf0.out.below HB3.out (Nat.le_refl _))
      have HRg3 := Lib.hid (HRg0.out.below HB3.out (Nat.le_refl _))
      have HKa3 := Lib.hid ((hb.block _ (lt_of_block HKa2.out)).trans HKa2.out)
      have HKc3 := Lib.hid ((hb.block _ (lt_of_block HKc2.out)).trans HKc2.out)
      have HKz3 := Lib.hid hk
      replace HZ3 : Hid (w2.heap.size < w3.heap.size) := Lib.hid (by omega)
      have HE3 := Lib.hid hz
      clear hb hk hz
      have lta := lt_of_block HKa3.out
      obtain ⟨ca0, ca1, fa0, fa1⟩ := cell2 HKa3.out
      have ltc := lt_of_block HKc3.out
      obtain ⟨cc0, cc1, fc0, fc1⟩ := cell2 HKc3.out
      have ltz := lt_of_block HKz3.out
      obtain ⟨cz0, cz1, fz0, fz1⟩ := cell2 HKz3.out
      refine (implIsBoard_any _ _ ls ss _ HRf3.out true ⟨fun _ => H1.out, fun _ => rfl⟩).mono ?_
      rintro e w4 ⟨rfl, hb⟩
      have HB4 : Hid (Below w.heap.size w w4) := Lib.hid (HB3.out.trans (hb.mono HB3.out.size))
      have HZ4 : Hid (w3.heap.size ≤ w4.heap.size) := Lib.hid hb.size
      have HRf4 := Lib.hid (HRf0.out.below HB4.out (Nat.le_refl _))
      have HRg4 := Lib.hid (HRg0.out.below HB4.out (Nat.le_refl _))
      have HKa4 := Lib.hid ((hb.block _ (lt_of_block HKa3.out)).trans HKa3.out)
      have HKc4 := Lib.hid ((hb.block _ (lt_of_block HKc3.out)).trans HKc3.out)
      have HKz4 := Lib.hid ((hb.block _ (lt_of_block HKz3.out)).trans HKz3.out)
      clear hb
      clear ca0 ca1 fa0 fa1 lta cc0 cc1 fc0 fc1 ltc cz0 cz1 fz0 fz1 ltz
      have lta := lt_of_block HKa4.out
      obtain ⟨ca0, ca1, fa0, fa1⟩ := cell2 HKa4.out
      have ltc := lt_of_block HKc4.out
      obtain ⟨cc0, cc1, fc0, fc1⟩ := cell2 HKc4.out
      have ltz := lt_of_block HKz4.out
      obtain ⟨cz0, cz1, fz0, fz1⟩ := cell2 HKz4.out
      go_wp2_with fail
      refine (implIsBoard_any _ _ ms ts _ HRg4.out true ⟨fun _ => H2.out, fun _ => rfl⟩).mono ?_
      rintro e w5 ⟨rfl, hb⟩
      have HB5 : Hid (Below w.heap.size w w5) := Lib.hid (HB4.out.trans (hb.mono HB4.out.size))
      have HZ5 : Hid (w4.heap.size ≤ w5.heap.size) := Lib.hid hb.size
      have HRf5 := Lib.hid (HRf0.out.below HB5.out (Nat.le_refl _))
      have HRg5 := Lib.hid (HRg0.out.below HB5.out (Nat.le_refl _))
      have HKa5 := Lib.hid ((hb.block _ (lt_of_block HKa4.out)).trans HKa4.out)
      have HKc5 := Lib.hid ((hb.block _ (lt_of_block HKc4.out)).trans HKc4.out)
      have HKz5 := Lib.hid ((hb.block _ (lt_of_block HKz4.out)).trans HKz4.out)
      clear hb
      clear ca0 ca1 fa0 fa1 lta cc0 cc1 fc0 fc1 ltc cz0 cz1 fz0 fz1 ltz
      have lta := lt_of_block HKa5.out
      obtain ⟨ca0, ca1, fa0, fa1⟩ := cell2 HKa5.out
      have ltc := lt_of_block HKc5.out
      obtain ⟨cc0, cc1, fc0, fc1⟩ := cell2 HKc5.out
      have ltz := lt_of_block HKz5.out
      obtain ⟨cz0, cz1, fz0, fz1⟩ := cell2 HKz5.out
      go_wp2_with fail
      exact bodyPost_ret (v := .tuple #[.agg #[.slice none 0 0, .slice none 0 0], .bool false]) (by simp [results, Tryd.results14, go_sem, cz0, cz1]) rfl ⟨⟨_, _, rfl, OwB.nil' _ _ _⟩, by first | exact HB5.out | exact (HB5.out.setCell (p := ⟨w.heap.size + 2, 0, none⟩) (by show w.heap.size ≤ w.heap.size + 2; omega) _).setCell (p := ⟨w.heap.size + 2, 1, none⟩) (by show w.heap.size ≤ w.heap.size + 2; omega) _⟩
    · have H1 := Lib.hid h1
      have H2 := Lib.hid h2
      clear h1 h2 hg
      go_enter Tryd.func14, Tryd.ntmps14
      go_wp2_with fail
      have hb : Below w.heap.size w (w.alloc (.cells #[.slice a1 ls.length c1, .slice a2 ss.length c2] 26)) := (Below.refl _ _).alloc (Nat.le_refl _) _
      have hk : (w.alloc (.cells #[.slice a1 ls.length c1, .slice a2 ss.length c2] 26)).heap[w.heap.size]? = some (.cells #[.slice a1 ls.length c1, .slice a2 ss.length c2] 26 (0, 0)) := alloc_at rfl
      have hz : (w.alloc (.cells #[.slice a1 ls.length c1, .slice a2 ss.length c2] 26)).heap.size = w.heap.size + 1 := by simp
      generalize w.alloc (.cells #[.slice a1 ls.length c1, .slice a2 ss.length c2] 26) = w1 at hb hk hz ⊢
      have HB1 : Hid (Below w.heap.size w w1) := Lib.hid (HB0.out.trans (hb.mono HB0.out.size))
      have HZ1 : Hid (w.heap.size ≤ w1.heap.size) := Lib.hid hb.size
      have HRf1 := Lib.hid (HRf0.out.below HB1.out (Nat.le_refl _))
      have HRg1 := Lib.hid (HRg0.out.below HB1.out (Nat.le_refl _))
      have HKa1 := Lib.hid hk
      replace HZ1 : Hid (w.heap.size < w1.heap.size) := Lib.hid (by omega)
      have HE1 := Lib.hid hz
      clear hb hk hz
      have hb : Below w1.heap.size w1 (w1.alloc (.cells #[.slice b1 ms.length d1, .slice b2 ts.length d2] 26)) := (Below.refl _ _).alloc (Nat.le_refl _) _
      have hk : (w1.alloc (.cells #[.slice b1 ms.length d1, .slice b2 ts.length d2] 26)).heap[w.heap.size + 1]? = some (.cells #[.slice b1 ms.length d1, .slice b2 ts.length d2] 26 (0, 0)) := alloc_at (by have := HE1.out; omega)
      have hz : (w1.alloc (.cells #[.slice b1 ms.length d1, .slice b2 ts.length d2] 26)).heap.size = w1.heap.size + 1 := by simp
      generalize w1.alloc (.cells #[.slice b1 ms.length d1, .slice b2 ts.length d2] 26) = w2 at hb hk hz ⊢
      have HB2 : Hid (Below w.heap.size w w2) := Lib.hid (HB1.out.trans (hb.mono HB1.out.size))
      have HZ2 : Hid (w1.heap.size ≤ w2.heap.size) := Lib.hid hb.size
      have HRf2 := Lib.hid (HRf0.out.below HB2.out (Nat.le_refl _))
      have HRg2 := Lib.hid (HRg0.out.below HB2.out (Nat.le_refl _))
      have HKa2 := Lib.hid ((hb.block _ (lt_of_block HKa1.out)).trans HKa1.out)
      have HKc2 := Lib.hid hk
      replace HZ2 : Hid (w1.heap.size < w2.heap.size) := Lib.hid (by omega)
      have HE2 := Lib.hid hz
      clear hb hk hz
      have hb : Below w2.heap.size w2 (w2.alloc (.cells #[.slice none 0 0, .slice none 0 0] 26)) := (Below.refl _ _).alloc (Nat.le_refl _) _
      have hk : (w2.alloc (.cells #[.slice none 0 0, .slice none 0 0] 26)).heap[w.heap.size + 2]? = some (.cells #[.slice none 0 0, .slice none 0 0] 26 (0, 0)) := alloc_at (by have := HE1.out; have := HE2.out; omega)
      have hz : (w2.alloc (.cells #[.slice none 0 0, .slice none 0 0] 26)).heap.size = w2.heap.size + 1 := by simp
      generalize w2.alloc (.cells #[.slice none 0 0, .slice none 0 0] 26) = w3 at hb hk hz ⊢
      have HB3 : Hid (Below w.heap.size w w3) := Lib.hid (HB2.out.trans (hb.mono HB2.out.size))
      have HZ3 : Hid (w2.heap.size ≤ w3.heap.size) := Lib.hid hb.size
      have HRf3 := Lib.hid (HRf0.out.below HB3.out (Nat.le_refl _))
      have HRg3 := Lib.hid (HRg0.out.below HB3.out (Nat.le_refl _))
      have HKa3 := Lib.hid ((hb.block _ (lt_of_block HKa2.out)).trans HKa2.out)
      have HKc3 := Lib.hid ((hb.block _ (lt_of_block HKc2.out)).trans HKc2.out)
      have HKz3 := Lib.hid hk
      replace HZ3 : Hid (w2.heap.size < w3.heap.size) := Lib.hid (by omega)
      have HE3 := Lib.hid hz
      clear hb hk hz
      have lta := lt_of_block HKa3.out
      obtain ⟨ca0, ca1, fa0, fa1⟩ := cell2 HKa3.out
      have ltc := lt_of_block HKc3.out
      obtain ⟨cc0, cc1, fc0, fc1⟩ := cell2 HKc3.out
      have ltz := lt_of_block HKz3.out
      obtain ⟨cz0, cz1, fz0, fz1⟩ := cell2 HKz3.out
      refine (implIsBoard_any _ _ ls ss _ HRf3.out true ⟨fun _ => H1.out, fun _ => rfl⟩).mono ?_
      rintro e w4 ⟨rfl, hb⟩
      have HB4 : Hid (Below w.heap.size w w4) := Lib.hid (HB3.out.trans (hb.mono HB3.out.size))
      have HZ4 : Hid (w3.heap.size ≤ w4.heap.size) := Lib.hid hb.size
      have HRf4 := Lib.hid (HRf0.out.below HB4.out (Nat.le_refl _))
      have HRg4 := Lib.hid (HRg0.out.below HB4.out (Nat.le_refl _))
      have HKa4 := Lib.hid ((hb.block _ (lt_of_block HKa3.out)).trans HKa3.out)
      have HKc4 := Lib.hid ((hb.block _ (lt_of_block HKc3.out)).trans HKc3.out)
      have HKz4 := Lib.hid ((hb.block _ (lt_of_block HKz3.out)).trans HKz3.out)
      clear hb
      clear ca0 ca1 fa0 fa1 lta cc0 cc1 fc0 fc1 ltc cz0 cz1 fz0 fz1 ltz
      have lta := lt_of_block HKa4.out
      obtain ⟨ca0, ca1, fa0, fa1⟩ := cell2 HKa4.out
      have ltc := lt_of_block HKc4.out
      obtain ⟨cc0, cc1, fc0, fc1⟩ := cell2 HKc4.out
      have ltz := lt_of_block HKz4.out
      obtain ⟨cz0, cz1, fz0, fz1⟩ := cell2 HKz4.out
      go_wp2_with fail
      refine (implIsBoard_any _ _ ms ts _ HRg4.out false ⟨fun e => by simp at e, fun e => absurd e H2.out⟩).mono ?_
      rintro e w5 ⟨rfl, hb⟩
      have HB5 : Hid (Below w.heap.size w w5) := Lib.hid (HB4.out.trans (hb.mono HB4.out.size))
      have HZ5 : Hid (w4.heap.size ≤ w5.heap.size) := Lib.hid hb.size
      have HRf5 := Lib.hid (HRf0.out.below HB5.out (Nat.le_refl _))
      have HRg5 := Lib.hid (HRg0.out.below HB5.out (Nat.le_refl _))
      have HKa5 := Lib.hid ((hb.block _ (lt_of_block HKa4.out)).trans HKa4.out)
      have HKc5 := Lib.hid ((hb.block _ (lt_of_block HKc4.out)).trans HKc4.out)
      have HKz5 := Lib.hid ((hb.block _ (lt_of_block HKz4.out)).trans HKz4.out)
      clear hb
      clear ca0 ca1 fa0 fa1 lta cc0 cc1 fc0 fc1 ltc cz0 cz1 fz0 fz1 ltz
      have lta := lt_of_block HKa5.out
      obtain ⟨ca0, ca1, fa0, fa1⟩ := cell2 HKa5.out
      have ltc := lt_of_block HKc5.out
      obtain ⟨cc0, cc1, fc0, fc1⟩ := cell2 HKc5.out
      have ltz := lt_of_block HKz5.out
      obtain ⟨cz0, cz1, fz0, fz1⟩ := cell2 HKz5.out
      go_wp2_with fail
      exact bodyPost_ret (v := .tuple #[.agg #[.slice none 0 0, .slice none 0 0], .bool false]) (by simp [results, Tryd.results14, go_sem, cz0, cz1]) rfl ⟨⟨_, _, rfl, OwB.nil' _ _ _⟩, by first | exact HB5.out | exact (HB5.out.setCell (p := ⟨w.heap.size + 2, 0, none⟩) (by show w.heap.size ≤ w.heap.size + 2; omega) _).setCell (p := ⟨w.heap.size + 2, 1, none⟩) (by show w.heap.size ≤ w.heap.size + 2; omega) _⟩
  · have H1 := Lib.hid h1
    clear h1 hg
    go_enter Tryd.func14, Tryd.ntmps14
    go_wp2_with fail
    have hb : Below w.heap.size w (w.alloc (.cells #[.slice a1 ls.length c1, .slice a2 ss.length c2] 26)) := (Below.refl _ _).alloc (Nat.le_refl _) _
    have hk : (w.alloc (.cells #[.slice a1 ls.length c1, .slice a2 ss.length c2] 26)).heap[w.heap.size]? = some (.cells #[.slice a1 ls.length c1, .slice a2 ss.length c2] 26 (0, 0)) := alloc_at rfl
    have hz : (w.alloc (.cells #[.slice a1 ls.length c1, .slice a2 ss.length c2] 26)).heap.size = w.heap.size + 1 := by simp
    generalize w.alloc (.cells #[.slice a1 ls.length c1, .slice a2 ss.length c2] 26) = w1 at hb hk hz ⊢
    have HB1 : Hid (Below w.heap.size w w1) := Lib.hid (HB0.out.trans (hb.mono HB0.out.size))
    have HZ1 : Hid (w.heap.size ≤ w1.heap.size) := Lib.hid hb.size
    have HRf1 := Lib.hid (HRf0.out.below HB1.out (Nat.le_refl _))
    have HRg1 := Lib.hid (HRg0.out.below HB1.out (Nat.le_refl _))
    have HKa1 := Lib.hid hk
    replace HZ1 : Hid (w.heap.size < w1.heap.size) := Lib.hid (by omega)
    have HE1 := Lib.hid hz
    clear hb hk hz
    have hb : Below w1.heap.size w1 (w1.alloc (.cells #[.slice b1 ms.length d1, .slice b2 ts.length d2] 26)) := (Below.refl _ _).alloc (Nat.le_refl _) _
    have hk : (w1.alloc (.cells #[.slice b1 ms.length d1, .slice b2 ts.length d2] 26)).heap[w.heap.size + 1]? = some (.cells #[.slice b1 ms.length d1, .slice b2 ts.length d2] 26 (0, 0)) := alloc_at (by have := HE1.out; omega)
    have hz : (w1.alloc (.cells #[.slice b1 ms.length d1, .slice b2 ts.length d2] 26)).heap.size = w1.heap.size + 1 := by simp
    generalize w1.alloc (.cells #[.slice b1 ms.length d1, .slice b2 ts.length d2] 26) = w2 at hb hk hz ⊢
    have HB2 : Hid (Below w.heap.size w w2) := Lib.hid (HB1.out.trans (hb.mono HB1.out.size))
    have HZ2 : Hid (w1.heap.size ≤ w2.heap.size) := Lib.hid hb.size
    have HRf2 := Lib.hid (HRf0.out.below HB2.out (Nat.le_refl _))
    have HRg2 := Lib.hid (HRg0.out.below HB2.out (Nat.le_refl _))
    have HKa2 := Lib.hid ((hb.block _ (lt_of_block HKa1.out)).trans HKa1.out)
    have HKc2 := Lib.hid hk
    replace HZ2 : Hid (w1.heap.size < w2.heap.size) := Lib.hid (by omega)
    have HE2 := Lib.hid hz
    clear hb hk hz
    have hb : Below w2.heap.size w2 (w2.alloc (.cells #[.slice none 0 0, .slice none 0 0] 26)) := (Below.refl _ _).alloc (Nat.le_refl _) _
    have hk : (w2.alloc (.cells #[.slice none 0 0, .slice none 0 0] 26)).heap[w.heap.size + 2]? = some (.cells #[.slice none 0 0, .slice none 0 0] 26 (0, 0)) := alloc_at (by have := HE1.out; have := HE2.out; omega)
    have hz : (w2.alloc (.cells #[.slice none 0 0, .slice none 0 0] 26)).heap.size = w2.heap.size + 1 := by simp
    generalize w2.alloc (.cells #[.slice none 0 0, .slice none 0 0] 26) = w3 at hb hk hz ⊢
    have HB3 : Hid (Below w.heap.size w w3) := Lib.hid (HB2.out.trans (hb.mono HB2.out.size))
    have HZ3 : Hid (w2.heap.size ≤ w3.heap.size) := Lib.hid hb.size
    have HRf3 := Lib.hid (HRf0.out.below HB3.out (Nat.le_refl _))
    have HRg3 := Lib.hid (HRg0.out.below HB3.out (Nat.le_refl _))
    have HKa3 := Lib.hid ((hb.block _ (lt_of_block HKa2.out)).trans HKa2.out)
    have HKc3 := Lib.hid ((hb.block _ (lt_of_block HKc2.out)).trans HKc2.out)
    have HKz3 := Lib.hid hk
    replace HZ3 : Hid (w2.heap.size < w3.heap.size) := Lib.hid (by omega)
    have HE3 := Lib.hid hz
    clear hb hk hz
    have lta := lt_of_block HKa3.out
    obtain ⟨ca0, ca1, fa0, fa1⟩ := cell2 HKa3.out
    have ltc := lt_of_block HKc3.out
    obtain ⟨cc0, cc1, fc0, fc1⟩ := cell2 HKc3.out
    have ltz := lt_of_block HKz3.out
    obtain ⟨cz0, cz1, fz0, fz1⟩ := cell2 HKz3.out
    refine (implIsBoard_any _ _ ls ss _ HRf3.out false ⟨fun e => by simp at e, fun e => absurd e H1.out⟩).mono ?_
    rintro e w4 ⟨rfl, hb⟩
    have HB4 : Hid (Below w.heap.size w w4) := Lib.hid (HB3.out.trans (hb.mono HB3.out.size))
    have HZ4 : Hid (w3.heap.size ≤ w4.heap.size) := Lib.hid hb.size
    have HRf4 := Lib.hid (HRf0.out.below HB4.out (Nat.le_refl _))
    have HRg4 := Lib.hid (HRg0.out.below HB4.out (Nat.le_refl _))
    have HKa4 := Lib.hid ((hb.block _ (lt_of_block HKa3.out)).trans HKa3.out)
    have HKc4 := Lib.hid ((hb.block _ (lt_of_block HKc3.out)).trans HKc3.out)
    have HKz4 := Lib.hid ((hb.block _ (lt_of_block HKz3.out)).trans HKz3.out)
    clear hb
    clear ca0 ca1 fa0 fa1 lta cc0 cc1 fc0 fc1 ltc cz0 cz1 fz0 fz1 ltz
    have lta := lt_of_block HKa4.out
    obtain ⟨ca0, ca1, fa0, fa1⟩ := cell2 HKa4.out
    have ltc := lt_of_block HKc4.out
    obtain ⟨cc0, cc1, fc0, fc1⟩ := cell2 HKc4.out
    have ltz := lt_of_block HKz4.out
    obtain ⟨cz0, cz1, fz0, fz1⟩ := cell2 HKz4.out
    go_wp2_with fail
    exact bodyPost_ret (v := .tuple #[.agg #[.slice none 0 0, .slice none 0 0], .bool false]) (by simp [results, Tryd.results14, go_sem, cz0, cz1]) rfl ⟨⟨_, _, rfl, OwB.nil' _ _ _⟩, by first | exact HB4.out | exact (HB4.out.setCell (p := ⟨w.heap.size + 2, 0, none⟩) (by show w.heap.size ≤ w.heap.size + 2; omega) _).setCell (p := ⟨w.heap.size + 2, 1, none⟩) (by show w.heap.size ≤ w.heap.size + 2; omega) _⟩
theorem implJoinBoards_any (v1 v2 u1 u2 : Value) (ls ss ms ts : List Int) (w : World) (h : BrdR w v1 v2 ls ss) (h' : BrdR w u1 u2 ms ts) (qs qt : List Int) (r : Bool) (hk : JbF ls ss ms ts qs qt r) :
    Calls Tryd.prog 14 #[.agg #[v1, v2], .agg #[u1, u2]] w fun e w' => (∃ s1 t1, e = .returned (.tuple #[.agg #[s1, t1], .bool r]) ∧ OwB w.heap.size w'.heap.size w' s1 t1 qs qt) ∧ Below w.heap.size w w' := by
  by_cases hg : okB ls ss ∧ okB ms ts ∧ ls.length = ms.length
  · refine implJoin_yes v1 v2 u1 u2 ls ss ms ts w h h' hg.1 hg.2.1 hg.2.2 qs qt r ?_
    have hs := hg.1.2.1
    have e := ilv_jn ls ss ms ts hs hg.2.1.2.1 hg.2.2
    have ho : okB (jn ls ms ls.length) (jn ss ts ss.length) ↔ ctr (jn (ilv ls ss) (ilv ms ts) (ilv ls ss).length) := by
      rw [e, okB_ilv, jn_len, jn_len]
      exact ⟨fun x => x.2, fun x => ⟨⟨hg.1.1, hs⟩, x⟩⟩
    rcases hk with ⟨_, h3, rfl, rfl, rfl⟩ | ⟨h1, h2⟩
    · refine .inl ⟨ho.1 h3, ?_, ?_, rfl⟩
      · rw [e, evs_ilv]
      · rw [e, ods_ilv _ _ (by rw [jn_len, jn_len]; exact hs)]
    · exact .inr ⟨fun x => h1 ⟨hg, ho.2 x⟩, h2⟩
  · refine implJoin_no v1 v2 u1 u2 ls ss ms ts w h h' hg qs qt r ?_
    rcases hk with ⟨h1, _⟩ | ⟨_, h2⟩
    · exact absurd h1 hg
    · exact h2
end Go.Proofs.YtbdddpchlmddbaaDoor
