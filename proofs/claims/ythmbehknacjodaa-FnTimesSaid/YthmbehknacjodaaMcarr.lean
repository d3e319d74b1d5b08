/- The model's CarriesOf. -/
import Derived.Test.YthmbehknacjodaaMnw
import Derived.Test.YthmbehknacjodaaKx
namespace Go.Proofs.Ythmbehknacjodaa
set_option linter.unusedVariables false
open Go.RowKit

set_option maxRecDepth 100000 in
set_option maxHeartbeats 3200000 in
theorem speCarriesOf_no (up lo : Int) (sv : Value) (rs : List (Int × Int)) (m : Int) (w : World) (h : RodsR w sv rs) (hc : ¬ canF up lo rs m) :
    Calls Try.prog 83 #[.agg #[.int .i64 up, .int .i64 lo, sv], .int .i64 m] w fun e w' => e = .returned (.tuple #[.int .i64 0, .bool false]) ∧ Below w.heap.size w w' := by
  obtain ⟨a, cp, rfl⟩ : ∃ a c, sv = .slice a rs.length c := by obtain ⟨a, c, e, _⟩ := h; exact ⟨a, c, e⟩
  have hm : rs.length ≤ 9223372036854775807 := by obtain ⟨_, _, _, ⟨m, _⟩, _⟩ := h; exact m
  have HC := Lib.hid hc
  have HB0 : Hid (Below w.heap.size w w) := Lib.hid (Below.refl _ _)
  have HRf0 := Lib.hid (h)
  clear h hc
  go_enter Try.func83, Try.ntmps83
  go_wp2_with fail
  have hb : Below w.heap.size w (w.alloc (.cells #[.int .i64 up, .int .i64 lo, .slice a rs.length cp] 42)) := (Below.refl _ _).alloc (Nat.le_refl _) _
  have hk : (w.alloc (.cells #[.int .i64 up, .int .i64 lo, .slice a rs.length cp] 42)).heap[w.heap.size]? = some (.cells #[.int .i64 up, .int .i64 lo, .slice a rs.length cp] 42 (0, 0)) := alloc_at rfl
  have hz : (w.alloc (.cells #[.int .i64 up, .int .i64 lo, .slice a rs.length cp] 42)).heap.size = w.heap.size + 1 := by simp
  generalize w.alloc (.cells #[.int .i64 up, .int .i64 lo, .slice a rs.length cp] 42) = w1 at hb hk hz ⊢
  have HB1 : Hid (Below w.heap.size w w1) := Lib.hid (HB0.out.trans (hb.mono HB0.out.size))
  have HZ1 : Hid (w.heap.size ≤ w1.heap.size) := Lib.hid hb.size
  have HRf1 := Lib.hid (HRf0.out.below HB1.out (Nat.le_refl _))
  have HKf1 := Lib.hid hk
  replace HZ1 : Hid (w.heap.size < w1.heap.size) := Lib.hid (by omega)
  have HE1 := Lib.hid hz
  clear hb hk hz
  refine (l6Can_no up lo _ rs m _ HRf1.out HC.out).mono ?_
  rintro e w2 ⟨rfl, hb⟩
  have HB2 : Hid (Below w.heap.size w w2) := Lib.hid (HB1.out.trans (hb.mono HB1.out.size))
  have HZ2 : Hid (w1.heap.size ≤ w2.heap.size) := Lib.hid hb.size
  have HRf2 := Lib.hid (HRf0.out.below HB2.out (Nat.le_refl _))
  have HKf2 := Lib.hid ((hb.block _ (lt_of_block HKf1.out)).trans HKf1.out)
  clear hb
  have ltf := lt_of_block HKf2.out
  obtain ⟨cf0, cf1, cf2, ff0, ff1, ff2⟩ := cell3 HKf2.out
  go_wp2_with fail
  go_ret2
  exact ⟨rfl, HB2.out⟩

set_option maxRecDepth 100000 in
set_option maxHeartbeats 6400000 in
theorem speCarriesOf_yes (up lo : Int) (sv : Value) (rs : List (Int × Int)) (m : Int) (w : World) (h : RodsR w sv rs) (hc : canF up lo rs m) :
    Calls Try.prog 83 #[.agg #[.int .i64 up, .int .i64 lo, sv], .int .i64 m] w fun e w' => e = .returned (.tuple #[.int .i64 ((goC 0 (digs rs.length m) rs : Nat) : Int), .bool true]) ∧ Below w.heap.size w w' := by
  have HRW := Lib.hid h
  obtain ⟨a, cp, rfl⟩ : ∃ a c, sv = .slice a rs.length c := by obtain ⟨a, c, e, _⟩ := h; exact ⟨a, c, e⟩
  have hm : rs.length ≤ 9223372036854775807 := by obtain ⟨_, _, _, ⟨m, _⟩, _⟩ := h; exact m
  have HC := Lib.hid hc
  have hgo := GoAt.start hc
  have hcs := goC_small rs.length m rs hc.1.2.2.2.2
  generalize goR 0 (digs rs.length m) rs = RT at hgo
  generalize goM 0 (digs rs.length m) rs = MT at hgo
  generalize goC 0 (digs rs.length m) rs = CT at hgo hcs ⊢
  generalize goK 0 (digs rs.length m) rs [0, 0, 0, 0] = KT at hgo
  have HGO := Lib.hid hgo
  have hn0 : 0 < rs.length := by have := hc.1.2.2.2; omega
  have hn1 : rs.length ≤ 8 := hc.1.2.2.2.2
  have hp8 := pow_bd rs.length hn1
  have hm0 : 0 ≤ m := hc.2.2.1
  have hm1 : m ≤ 1000000000 := by have := hc.2.2.2.1; omega
  have HB0 : Hid (Below w.heap.size w w) := Lib.hid (Below.refl _ _)
  have HRf0 := Lib.hid (h)
  clear h hc hgo hp8
  go_enter Try.func83, Try.ntmps83
  go_wp2_with fail
  have hb : Below w.heap.size w (w.alloc (.cells #[.int .i64 up, .int .i64 lo, .slice a rs.length cp] 42)) := (Below.refl _ _).alloc (Nat.le_refl _) _
  have hk : (w.alloc (.cells #[.int .i64 up, .int .i64 lo, .slice a rs.length cp] 42)).heap[w.heap.size]? = some (.cells #[.int .i64 up, .int .i64 lo, .slice a rs.length cp] 42 (0, 0)) := alloc_at rfl
  have hz : (w.alloc (.cells #[.int .i64 up, .int .i64 lo, .slice a rs.length cp] 42)).heap.size = w.heap.size + 1 := by simp
  generalize w.alloc (.cells #[.int .i64 up, .int .i64 lo, .slice a rs.length cp] 42) = w1 at hb hk hz ⊢
  have HB1 : Hid (Below w.heap.size w w1) := Lib.hid (HB0.out.trans (hb.mono HB0.out.size))
  have HZ1 : Hid (w.heap.size ≤ w1.heap.size) := Lib.hid hb.size
  have HRf1 := Lib.hid (HRf0.out.below HB1.out (Nat.le_refl _))
  have HKf1 := Lib.hid hk
  replace HZ1 : Hid (w.heap.size < w1.heap.size) := Lib.hid (by omega)
  have HE1 := Lib.hid hz
  clear hb hk hz
  refine (l6Can_yes up lo _ rs m _ HRf1.out HC.out).mono ?_
  rintro e w2 ⟨rfl, hb⟩
  have HB2 : Hid (Below w.heap.size w w2) := Lib.hid (HB1.out.trans (hb.mono HB1.out.size))
  have HZ2 : Hid (w1.heap.size ≤ w2.heap.size) := Lib.hid hb.size
  have HRf2 := Lib.hid (HRf0.out.below HB2.out (Nat.le_refl _))
  have HKf2 := Lib.hid ((hb.block _ (lt_of_block HKf1.out)).trans HKf1.out)
  clear hb
  have ltf := lt_of_block HKf2.out
  obtain ⟨cf0, cf1, cf2, ff0, ff1, ff2⟩ := cell3 HKf2.out
  go_wp2_with fail
  refine (l2Own_any up lo _ rs _ HRf2.out ⟨hn0, by omega⟩).mono ?_
  rintro e w3 ⟨⟨v, rfl, ho⟩, hb⟩
  have HB3 : Hid (Below w.heap.size w w3) := Lib.hid (HB2.out.trans (hb.mono HB2.out.size))
  have HZ3 : Hid (w2.heap.size ≤ w3.heap.size) := Lib.hid hb.size
  have HRf3 := Lib.hid (HRf0.out.below HB3.out (Nat.le_refl _))
  have HKf3 := Lib.hid ((hb.block _ (lt_of_block HKf2.out)).trans HKf2.out)
  clear hb
  obtain ⟨rb0, rc0, rfl⟩ := own_block ho hn0
  obtain ⟨B, hB⟩ : ∃ B, B = w.heap.size + 1 := ⟨_, rfl⟩
  have hB2 : B ≤ w2.heap.size := by have := lt_of_block HKf2.out; omega
  have hro := own_mono ho hB2
  clear ho
  clear cf0 cf1 cf2 ff0 ff1 ff2 ltf
  have ltf := lt_of_block HKf3.out
  obtain ⟨cf0, cf1, cf2, ff0, ff1, ff2⟩ := cell3 HKf3.out
  go_wp2_with fail
  have hb3 : Below w3.heap.size w3 (w3.alloc (.cells #[.int .i64 up, .int .i64 lo, .slice (some ⟨rb0, 0, none⟩) rs.length rc0] 42)) := (Below.refl _ _).alloc (Nat.le_refl _) _
  have ha3 : NwAt B (w3.alloc (.cells #[.int .i64 up, .int .i64 lo, .slice (some ⟨rb0, 0, none⟩) rs.length rc0] 42)) w3.heap.size up lo rb0 rc0 rs :=
    ⟨by have := HZ1.out; have := HZ2.out; have := HZ3.out;  omega, alloc_at rfl, hro.alloc _⟩
  have hkf3 : (w3.alloc (.cells #[.int .i64 up, .int .i64 lo, .slice (some ⟨rb0, 0, none⟩) rs.length rc0] 42)).heap[w.heap.size]? = some (.cells #[.int .i64 up, .int .i64 lo, .slice a rs.length cp] 42 (0, 0)) := (alloc_old (lt_of_block HKf3.out)).trans HKf3.out
  have hbwQ := HB3.out.trans (hb3.mono HB3.out.size)
  generalize w3.alloc (.cells #[.int .i64 up, .int .i64 lo, .slice (some ⟨rb0, 0, none⟩) rs.length rc0] 42) = wQ at hb3 ha3 hkf3 hbwQ ⊢
  generalize w3.heap.size = N at ha3 ⊢
  have HA := Lib.hid ha3
  have HFB := Lib.hid hkf3
  have HBW := Lib.hid hbwQ
  have HWB : Hid (w.heap.size < B) := Lib.hid (by omega)
  have HWB2 : Hid (w.heap.size ≤ B) := Lib.hid (by omega)
  clear cf0 cf1 cf2 ff0 ff1 ff2 ha3 hb3 hkf3 hbwQ hro hB hB2
  go_loopw [6, 8] (fun nv kv wr => ∃ (k : Nat) (rs' : List (Int × Int)) (ms' : List Mv) (c' : Int) (ks' : List Int) (rb rc : Nat), kv = .int .i64 k ∧ nv = .int .i64 c' ∧ NwAt B wr N up lo rb rc rs' ∧ Below B wQ wr ∧ GoAt rs.length m RT MT CT KT k rs' ms' c' ks') (fun _ kv _ => rs.length - (intOf kv).toNat)
  case atStart => exact ⟨0, rs, [], 0, _, rb0, rc0, rfl, rfl, HA.out, Below.refl _ _, HGO.out⟩
  case round =>
    rename World => wo
    obtain ⟨k, rs', ms', c', ks', rb, rc, rfl, rfl, ha, hb, hg⟩ := hrel
    have HAa := Lib.hid ha
    have HBa := Lib.hid hb
    have HG := Lib.hid hg
    have HST := Lib.hid hg.std
    have HLN := Lib.hid hg.len
    have hkn := hg.le
    obtain ⟨n0, n1, n2, m0, m1, m2⟩ := cell3 ha.box
    obtain ⟨p0, p1, p2, -, -, -⟩ := cell3 ((hb.block _ HWB.out).trans HFB.out)
    clear ha hb hg
    by_cases hlt : k < rs.length
    · obtain ⟨dd, hdd⟩ : ∃ dd, m / 10 ^ (rs.length - 1 - k) % 10 = dd := ⟨_, rfl⟩
      have hd9 : 0 ≤ dd ∧ dd ≤ 9 := by omega
      have HDD := Lib.hid hdd
      have z2 : (k : Int) < (rs.length : Int) := by omega
      obtain ⟨ms2, hgn⟩ := HG.out.any hlt dd hdd hd9.1
      have hcv0 : 0 < dd → ChV rs' (c' + (chC (k + 1) dd rs' : Nat)) k dd c' := fun h0 => ChV.of_go HG.out hlt dd hdd h0 hd9.2
      have hcz : dd = 0 → c' = c' + (chC (k + 1) dd rs' : Nat) := fun h0 => by rw [h0, chC_zero]; simp
      have hct := hgn.cle
      have hcc0 := HG.out.c0
      obtain ⟨CX, hCX⟩ : ∃ CX, CX = c' + (chC (k + 1) dd rs' : Nat) := ⟨_, rfl⟩
      rw [← hCX] at hgn hcv0 hcz hct
      have HGN' := Lib.hid hgn
      have HV0 := Lib.hid hcv0
      have HZ0 := Lib.hid hcz
      clear hdd hgn hcv0 hcz hCX
      go_wp2_with fail
      refine (l6At_any up lo _ rs m k _ (HRW.out.below (HBW.out.trans (HBa.out.mono HWB2.out)) (Nat.le_refl _)) hn1 hlt hm0 hm1).mono ?_
      rintro e wa ⟨rfl, hb⟩
      rw [HDD.out]
      have HAb := Lib.hid (HAa.out.next hb)
      have HBb : Hid (Below B wQ wa) := Lib.hid (HBa.out.trans (hb.mono (by have := HAa.out.lt; have := HAa.out.ord; omega)))
      clear hb n0 n1 n2 m0 m1 m2 p0 p1 p2
      go_wp2_with fail
      go_loopw [6, 9, 10] (fun nv dv jv wr => ∃ (j : Nat) (d2 cn : Int), jv = .int .i64 j ∧ dv = .int .i64 d2 ∧ nv = .int .i64 cn ∧ Below wa.heap.size wa wr ∧ j < rs.length ∧ (0 ≤ d2 ∧ d2 ≤ 9) ∧ (0 ≤ cn ∧ cn ≤ CX) ∧ (dd = 0 → d2 = 0 ∧ cn = CX) ∧ (0 < dd → ChV rs' CX j d2 cn)) (fun _ _ jv _ => (intOf jv).toNat)
      case atStart => exact ⟨k, dd, c', rfl, rfl, rfl, Below.refl _ _, hlt, hd9, ⟨hcc0, by rcases Int.lt_or_le 0 dd with h | h; exact (HV0.out h).bd.2.2; exact Int.le_of_eq (HZ0.out (by omega))⟩, fun h => ⟨h, HZ0.out h⟩, fun h => HV0.out h⟩
      case round =>
        obtain ⟨j, d2, cn, rfl, rfl, rfl, hb, hjl, hdb, hcb, hz, hv⟩ := hrel
        have HA0 := Lib.hid (HAb.out.next hb)
        have HB0 : Hid (Below B wQ wr) := Lib.hid (HBb.out.trans (hb.mono (by have := HAb.out.lt; have := HAb.out.ord; omega)))
        have HBi := Lib.hid hb
        have HZ := Lib.hid hz
        have HV := Lib.hid hv
        have hjr : j < rs'.length := by have := HLN.out; omega
        obtain ⟨n0, n1, n2, m0, m1, m2⟩ := cell3 HA0.out.box
        obtain ⟨p0, p1, p2, -, -, -⟩ := cell3 ((HB0.out.block _ HWB.out).trans HFB.out)
        obtain ⟨x0, x1⟩ := HA0.out.rodAt hjr
        have hr0 := HST.out j hjr
        have HVV : Hid (5 * rs'[j].1 + rs'[j].2 = vAt rs' j) := Lib.hid (by rw [vAt_in hjr]; rfl)
        have hvb := vAt_bd HST.out j
        have z3 : (j : Int) < (rs'.length : Int) := by omega
        have z4 : (0 : Int) ≤ (j : Int) := by omega
        clear hb hz hv
        by_cases hj : 0 < j
        · have hj2 : 0 < (j : Int) := by omega
          go_wp2_with fail
          refine (l2Value_any rs'[j].1 rs'[j].2 _ (by omega) (by omega) (by omega) (by omega)).mono ?_
          rintro e wb ⟨rfl, hb⟩
          rw [HVV.out]
          have HA0' := Lib.hid (HA0.out.next hb)
          have HB0' : Hid (Below B wQ wb) := Lib.hid (HB0.out.trans (hb.mono (by have := HA0.out.lt; have := HA0.out.ord; omega)))
          have HBi' := Lib.hid (HBi.out.trans (hb.mono HBi.out.size))
          clear hb n0 n1 n2 m0 m1 m2 p0 p1 p2 x0 x1 HA0 HB0 HBi
          by_cases h9 : 9 < vAt rs' j + d2
          · have hdd0 : 0 < dd := by
              rcases Int.lt_or_le 0 dd with h | h
              · exact h
              · have := (HZ.out (by omega)).1; omega
            obtain ⟨i, rfl, hcv⟩ := (HV.out hdd0).step h9
            have hbd := hcv.bd
            have HCV := Lib.hid hcv
            clear hcv
            go_wp2_with fail
            go_roundw
            case rel => exact ⟨i, 1, cn + 1, by first | rfl | go_num, rfl, by first | rfl | go_num, HBi'.out, by omega, ⟨by omega, by omega⟩, hbd.2, fun h => by omega, fun _ => HCV.out⟩
            case measure => simp [intOf]; try omega
          · have hce : cn = CX := by
              rcases Int.lt_or_le 0 dd with h | h
              · exact (HV.out h).last (by omega)
              · exact (HZ.out (by omega)).2
            subst hce
            have HGN := Lib.hid HGN'.out
            obtain ⟨n0, n1, n2, m0, m1, m2⟩ := cell3 HA0'.out.box
            obtain ⟨p0, p1, p2, -, -, -⟩ := cell3 ((HB0'.out.block _ HWB.out).trans HFB.out)
            have HA0 := Lib.hid HA0'.out
            have HB0 := Lib.hid HB0'.out
            go_wp2_with fail
            refine wp_region_held_drew (S := (fun u => u.cell? ⟨N, 0, none⟩ = some (.int .i64 up) ∧ u.cell? ⟨N, 1, none⟩ = some (.int .i64 lo) ∧ u.cell? ⟨N, 2, none⟩ = some (.slice (some ⟨rb, 0, none⟩) rs'.length rc) ∧ u.cell? ⟨w.heap.size, 0, none⟩ = some (.int .i64 up) ∧ u.cell? ⟨w.heap.size, 1, none⟩ = some (.int .i64 lo) ∧ u.cell? ⟨w.heap.size, 2, none⟩ = some (.slice a rs.length cp))) (by kernel_rfl) (⟨n0, n1, n2, p0, p1, p2⟩) (fun hHeld => ?_)
            have hb : Below wb.heap.size wb wb.drew := (Below.refl _ _).drew
            generalize wb.drew = v1 at hb hHeld ⊢
            have HA1 := Lib.hid (HA0.out.next hb)
            have HS0 : Hid (B ≤ wb.heap.size) := Lib.hid (by have := HA0.out.lt; have := HA0.out.ord; omega)
            have HB1 : Hid (Below B wQ v1) := Lib.hid (HB0.out.trans (hb.mono HS0.out))
            clear hb
            try clear n0 n1 n2 p0 p1 p2
            obtain ⟨n0, n1, n2, -, -, -⟩ := cell3 HA1.out.box
            obtain ⟨p0, p1, p2, -, -, -⟩ := cell3 ((HB1.out.block _ HWB.out).trans HFB.out)
            refine take1 (i := 0) (v := ?v1) (some 49) rfl rfl (by kernel_rfl) (by kernel_rfl) (by kernel_rfl) (fun _ _ _ h => h) (Or.inl ⟨by rfl, ?y1⟩) (by assumption) ?r1
            case y1 => (intro w hSw; (try dsimp only at hSw); go_simp; (first | done | with_reducible rfl))
            try simp only [Act.put, List.setIfInBounds_toArray, List.set_cons_zero, List.set_cons_succ]
            refine take1 (i := 1) (v := ?v2) (some 50) rfl rfl (by kernel_rfl) (by kernel_rfl) (by kernel_rfl) (fun _ _ _ h => h) (Or.inl ⟨by rfl, ?y2⟩) (by assumption) ?r2
            case y2 => (intro w hSw; (try dsimp only at hSw); go_simp; (first | done | with_reducible rfl))
            try simp only [Act.put, List.setIfInBounds_toArray, List.set_cons_zero, List.set_cons_succ]
            refine take1 (i := 2) (v := ?v3) (some 51) rfl rfl (by kernel_rfl) (by kernel_rfl) (by kernel_rfl) (fun _ _ _ h => h) (Or.inl ⟨by rfl, ?y3⟩) (by assumption) ?r3
            case y3 => (intro w hSw; (try dsimp only at hSw); go_simp; (first | done | with_reducible rfl))
            try simp only [Act.put, List.setIfInBounds_toArray, List.set_cons_zero, List.set_cons_succ]
            refine take1 (i := 3) (v := ?v4) (some 52) rfl rfl (by kernel_rfl) (by kernel_rfl) (by kernel_rfl) (fun _ _ _ h => h) (Or.inl ⟨by rfl, ?y4⟩) (by assumption) ?r4
            case y4 => (intro w hSw; (try dsimp only at hSw); go_simp; (first | done | with_reducible rfl))
            try simp only [Act.put, List.setIfInBounds_toArray, List.set_cons_zero, List.set_cons_succ]
            refine take1 (i := 4) (v := ?v5) (some 53) rfl rfl (by kernel_rfl) (by kernel_rfl) (by kernel_rfl) (fun _ _ _ h => h) (Or.inl ⟨by rfl, ?y5⟩) (by assumption) ?r5
            case y5 => (intro w hSw; (try dsimp only at hSw); go_simp; (first | done | with_reducible rfl))
            try simp only [Act.put, List.setIfInBounds_toArray, List.set_cons_zero, List.set_cons_succ]
            refine wpAnyH_ready (rs := [5, 10]) (by kernel_rfl) (by simp) ?_
            refine AllReadyH.cons rfl (fun K hK => ?_) (AllReadyH.cons rfl (fun K hK => ?_) AllReadyH.nil)
            · go_simp
              go_at_call 124
              refine (l6At_any up lo _ rs m k _ (HRW.out.below (HBW.out.trans (HB1.out.mono HWB2.out)) (Nat.le_refl _)) hn1 hlt hm0 hm1).mono ?_
              rintro e v2 ⟨rfl, hb⟩
              rw [HDD.out]
              have HA2 := Lib.hid (HA1.out.next hb)
              have HS1 : Hid (B ≤ v1.heap.size) := Lib.hid (by have := HA1.out.lt; have := HA1.out.ord; omega)
              have HB2 : Hid (Below B wQ v2) := Lib.hid (HB1.out.trans (hb.mono HS1.out))
              clear hb
              try clear n0 n1 n2 p0 p1 p2
              obtain ⟨n0, n1, n2, -, -, -⟩ := cell3 HA2.out.box
              obtain ⟨p0, p1, p2, -, -, -⟩ := cell3 ((HB2.out.block _ HWB.out).trans HFB.out)
              try go_simp
              refine hK.out _ _ (⟨n0, n1, n2, p0, p1, p2⟩) (fun hHeld => ?_)
              clear hK K
              try simp only [Act.put, List.setIfInBounds_toArray, List.set_cons_zero, List.set_cons_succ]
              refine wpAnyH_ready (rs := [6, 10]) (by kernel_rfl) (by simp) ?_
              refine AllReadyH.cons rfl (fun K hK => ?_) (AllReadyH.cons rfl (fun K hK => ?_) AllReadyH.nil)
              · go_simp
                go_at_call 126
                refine (l6Digit_any up lo _ rs' k dd _ (RodsR.of_own HA2.out.rods) HST.out (by have := HLN.out; omega) (by have := HLN.out; omega) hd9.1 hd9.2).mono ?_
                rintro e v3 ⟨⟨g2, c2, rb2, rc2, rfl, hor, hom⟩, hb⟩
                have HSX : Hid (B ≤ v2.heap.size) := Lib.hid (by have := HA2.out.lt; have := HA2.out.ord; omega)
                have HR3 := Lib.hid (own_mono hor HSX.out)
                have HM3 := Lib.hid (own_mono hom HSX.out)
                clear hor hom
                have HA3 := Lib.hid (HA2.out.next hb)
                have HS2 : Hid (B ≤ v2.heap.size) := Lib.hid (by have := HA2.out.lt; have := HA2.out.ord; omega)
                have HB3 : Hid (Below B wQ v3) := Lib.hid (HB2.out.trans (hb.mono HS2.out))
                clear hb
                try clear n0 n1 n2 p0 p1 p2
                obtain ⟨n0, n1, n2, -, -, -⟩ := cell3 HA3.out.box
                obtain ⟨p0, p1, p2, -, -, -⟩ := cell3 ((HB3.out.block _ HWB.out).trans HFB.out)
                try go_simp
                refine hK.out _ _ (⟨n0, n1, n2, p0, p1, p2⟩) (fun hHeld => ?_)
                clear hK K
                try simp only [Act.put, List.setIfInBounds_toArray, List.set_cons_zero, List.set_cons_succ]
                refine take1 (i := 7) (v := ?v6) (some 48) rfl rfl (by kernel_rfl) (by kernel_rfl) (by kernel_rfl) (fun _ _ _ h => h) (Or.inl ⟨by rfl, ?y6⟩) (by assumption) ?r6
                case y6 => (intro w hSw; (try dsimp only at hSw); go_simp; (first | done | with_reducible rfl))
                try simp only [Act.put, List.setIfInBounds_toArray, List.set_cons_zero, List.set_cons_succ]
                refine take1 (i := 8) (v := ?v7) (some 56) rfl rfl (by kernel_rfl) (by kernel_rfl) (by kernel_rfl) (fun _ _ _ h => h) (Or.inl ⟨by rfl, ?y7⟩) (by assumption) ?r7
                case y7 => (intro w hSw; (try dsimp only at hSw); go_simp; (first | done | with_reducible rfl))
                try simp only [Act.put, List.setIfInBounds_toArray, List.set_cons_zero, List.set_cons_succ]
                refine take1 (i := 9) (v := ?v8) (some 57) rfl rfl (by kernel_rfl) (by kernel_rfl) (by kernel_rfl) (fun _ _ _ h => h) (Or.inl ⟨by rfl, ?y8⟩) (by assumption) ?r8
                case y8 => (intro w hSw; (try dsimp only at hSw); go_simp; (first | done | with_reducible rfl))
                try simp only [Act.put, List.setIfInBounds_toArray, List.set_cons_zero, List.set_cons_succ]
                refine wpAnyH_ready (rs := [10]) (by kernel_rfl) (by simp) ?_
                refine AllReadyH.cons rfl (fun K hK => ?_) AllReadyH.nil
                go_simp
                have hb : Below v3.heap.size v3 (v3.alloc (.cells #[.int .i64 0, .int .i64 0, .slice none 0 0] 42)) := (Below.refl _ _).alloc (Nat.le_refl _) _
                have ht : (v3.alloc (.cells #[.int .i64 0, .int .i64 0, .slice none 0 0] 42)).heap[v3.heap.size]? = some (.cells #[.int .i64 0, .int .i64 0, .slice none 0 0] 42 (0, 0)) := alloc_at rfl
                have hnt := HA3.out.lt
                generalize v3.alloc (.cells #[.int .i64 0, .int .i64 0, .slice none 0 0] 42) = v4 at hb ht ⊢
                obtain ⟨T, hTe⟩ : ∃ T, T = v3.heap.size := ⟨_, rfl⟩
                rw [← hTe] at ht hnt
                simp only [← hTe]
                have HT4 := Lib.hid ht
                have HNT4 := Lib.hid hnt
                clear ht hnt hTe
                have HA4 := Lib.hid (HA3.out.next hb)
                have HS3 : Hid (B ≤ v3.heap.size) := Lib.hid (by have := HA3.out.lt; have := HA3.out.ord; omega)
                have HB4 : Hid (Below B wQ v4) := Lib.hid (HB3.out.trans (hb.mono HS3.out))
                have HR4 := Lib.hid (own_below HR3.out hb)
                have HM4 := Lib.hid (own_below HM3.out hb)
                clear hb
                try clear n0 n1 n2 p0 p1 p2
                obtain ⟨n0, n1, n2, -, -, -⟩ := cell3 HA4.out.box
                obtain ⟨p0, p1, p2, -, -, -⟩ := cell3 ((HB4.out.block _ HWB.out).trans HFB.out)
                refine hK.out _ _ (⟨n0, n1, n2, p0, p1, p2⟩) (fun hHeld => ?_)
                clear hK K
                try simp only [Act.put, List.setIfInBounds_toArray, List.set_cons_zero, List.set_cons_succ]
                refine take1 (i := 11) (v := ?v9) (some 11) rfl rfl (by kernel_rfl) (by kernel_rfl) (by kernel_rfl) (fun _ _ _ h => h) (Or.inl ⟨by rfl, ?y9⟩) (by assumption) ?r9
                case y9 => (intro w hSw; (try dsimp only at hSw); go_simp; (first | done | with_reducible rfl))
                try simp only [Act.put, List.setIfInBounds_toArray, List.set_cons_zero, List.set_cons_succ]
                obtain ⟨t0, t1, t2, s0, s1, s2⟩ := cell3 HT4.out
                refine wpAnyH_ready (rs := [12]) (by kernel_rfl) (by simp) ?_
                refine AllReadyH.cons rfl (fun K hK => ?_) AllReadyH.nil
                go_simp
                clear t0 t1 t2 s0 s1 s2
                have ha9 := HA4.out.store3 HT4.out (by have := HNT4.out; omega) (.int .i64 up) (.int .i64 lo) (.slice (some ⟨rb2, 0, none⟩) (chR (k + 1) dd rs').length rc2)
                have ht9 := box3_set HT4.out (.int .i64 up) (.int .i64 lo) (.slice (some ⟨rb2, 0, none⟩) (chR (k + 1) dd rs').length rc2)
                have hTB : B ≤ T := by have := HNT4.out; have := HA4.out.ord; omega
                have hb9 := bl_set3 HB4.out hTB (.int .i64 up) (.int .i64 lo) (.slice (some ⟨rb2, 0, none⟩) (chR (k + 1) dd rs').length rc2)
                have hr9 := own_setb3 HR4.out (own_box HR4.out HT4.out (by decide)) (.int .i64 up) (.int .i64 lo) (.slice (some ⟨rb2, 0, none⟩) (chR (k + 1) dd rs').length rc2)
                have hm9 := own_setb3 HM4.out (own_box HM4.out HT4.out (by decide)) (.int .i64 up) (.int .i64 lo) (.slice (some ⟨rb2, 0, none⟩) (chR (k + 1) dd rs').length rc2)
                generalize (((v4.setCell ⟨T, 0, none⟩ (.int .i64 up)).setCell ⟨T, 1, none⟩ (.int .i64 lo)).setCell ⟨T, 2, none⟩ (.slice (some ⟨rb2, 0, none⟩) (chR (k + 1) dd rs').length rc2)) = w9 at ha9 ht9 hb9 hr9 hm9 ⊢
                have HA9 := Lib.hid ha9
                have HT9 := Lib.hid ht9
                have HB9 := Lib.hid hb9
                have HR9 := Lib.hid hr9
                have HM9 := Lib.hid hm9
                have HNT9 := Lib.hid HNT4.out
                clear ha9 ht9 hb9 hr9 hm9
                try clear n0 n1 n2 p0 p1 p2
                obtain ⟨n0, n1, n2, -, -, -⟩ := cell3 HA9.out.box
                obtain ⟨p0, p1, p2, -, -, -⟩ := cell3 ((HB9.out.block _ HWB.out).trans HFB.out)
                refine hK.out _ _ (⟨n0, n1, n2, p0, p1, p2⟩) (fun hHeld => ?_)
                clear hK K
                try simp only [Act.put]
                refine wpAnyH_done (by kernel_rfl) ?_ _
                clear n0 n1 n2 p0 p1 p2
                obtain ⟨t0, t1, t2, -, -, -⟩ := cell3 HT9.out
                obtain ⟨n0, n1, n2, m0, m1, m2⟩ := cell3 HA9.out.box
                have ha11 := HA9.out.setF HR9.out
                have hb11 := bl_set3 HB9.out HA9.out.ord (.int .i64 up) (.int .i64 lo) (.slice (some ⟨rb2, 0, none⟩) (chR (k + 1) dd rs').length rc2)
                have HA11 := Lib.hid ha11
                have HB11 := Lib.hid hb11
                clear ha11 hb11
                go_wp2_with fail
                go_roundw
                case rel => exact ⟨k + 1, chR (k + 1) dd rs', ms2, cn, _, rb2, rc2, by go_num, rfl, HA11.out, HB11.out, HGN.out⟩
                case measure => simp [intOf]; omega
              · go_simp
                have hb : Below v2.heap.size v2 (v2.alloc (.cells #[.int .i64 0, .int .i64 0, .slice none 0 0] 42)) := (Below.refl _ _).alloc (Nat.le_refl _) _
                have ht : (v2.alloc (.cells #[.int .i64 0, .int .i64 0, .slice none 0 0] 42)).heap[v2.heap.size]? = some (.cells #[.int .i64 0, .int .i64 0, .slice none 0 0] 42 (0, 0)) := alloc_at rfl
                have hnt := HA2.out.lt
                generalize v2.alloc (.cells #[.int .i64 0, .int .i64 0, .slice none 0 0] 42) = v3 at hb ht ⊢
                obtain ⟨T, hTe⟩ : ∃ T, T = v2.heap.size := ⟨_, rfl⟩
                rw [← hTe] at ht hnt
                simp only [← hTe]
                have HT3 := Lib.hid ht
                have HNT3 := Lib.hid hnt
                clear ht hnt hTe
                have HA3 := Lib.hid (HA2.out.next hb)
                have HS2 : Hid (B ≤ v2.heap.size) := Lib.hid (by have := HA2.out.lt; have := HA2.out.ord; omega)
                have HB3 : Hid (Below B wQ v3) := Lib.hid (HB2.out.trans (hb.mono HS2.out))
                clear hb
                try clear n0 n1 n2 p0 p1 p2
                obtain ⟨n0, n1, n2, -, -, -⟩ := cell3 HA3.out.box
                obtain ⟨p0, p1, p2, -, -, -⟩ := cell3 ((HB3.out.block _ HWB.out).trans HFB.out)
                refine hK.out _ _ (⟨n0, n1, n2, p0, p1, p2⟩) (fun hHeld => ?_)
                clear hK K
                try simp only [Act.put, List.setIfInBounds_toArray, List.set_cons_zero, List.set_cons_succ]
                refine wpAnyH_ready (rs := [6]) (by kernel_rfl) (by simp) ?_
                refine AllReadyH.cons rfl (fun K hK => ?_) AllReadyH.nil
                go_simp
                go_at_call 126
                refine (l6Digit_any up lo _ rs' k dd _ (RodsR.of_own HA3.out.rods) HST.out (by have := HLN.out; omega) (by have := HLN.out; omega) hd9.1 hd9.2).mono ?_
                rintro e v4 ⟨⟨g2, c2, rb2, rc2, rfl, hor, hom⟩, hb⟩
                have HSX : Hid (B ≤ v3.heap.size) := Lib.hid (by have := HA3.out.lt; have := HA3.out.ord; omega)
                have HR4 := Lib.hid (own_mono hor HSX.out)
                have HM4 := Lib.hid (own_mono hom HSX.out)
                clear hor hom
                have HA4 := Lib.hid (HA3.out.next hb)
                have HS3 : Hid (B ≤ v3.heap.size) := Lib.hid (by have := HA3.out.lt; have := HA3.out.ord; omega)
                have HB4 : Hid (Below B wQ v4) := Lib.hid (HB3.out.trans (hb.mono HS3.out))
                have HT4 := Lib.hid ((hb.block _ (lt_of_block HT3.out)).trans HT3.out)
                have HNT4 := Lib.hid HNT3.out
                clear hb
                try clear n0 n1 n2 p0 p1 p2
                obtain ⟨n0, n1, n2, -, -, -⟩ := cell3 HA4.out.box
                obtain ⟨p0, p1, p2, -, -, -⟩ := cell3 ((HB4.out.block _ HWB.out).trans HFB.out)
                try go_simp
                refine hK.out _ _ (⟨n0, n1, n2, p0, p1, p2⟩) (fun hHeld => ?_)
                clear hK K
                try simp only [Act.put, List.setIfInBounds_toArray, List.set_cons_zero, List.set_cons_succ]
                refine take1 (i := 7) (v := ?v10) (some 48) rfl rfl (by kernel_rfl) (by kernel_rfl) (by kernel_rfl) (fun _ _ _ h => h) (Or.inl ⟨by rfl, ?y10⟩) (by assumption) ?r10
                case y10 => (intro w hSw; (try dsimp only at hSw); go_simp; (first | done | with_reducible rfl))
                try simp only [Act.put, List.setIfInBounds_toArray, List.set_cons_zero, List.set_cons_succ]
                refine take1 (i := 8) (v := ?v11) (some 56) rfl rfl (by kernel_rfl) (by kernel_rfl) (by kernel_rfl) (fun _ _ _ h => h) (Or.inl ⟨by rfl, ?y11⟩) (by assumption) ?r11
                case y11 => (intro w hSw; (try dsimp only at hSw); go_simp; (first | done | with_reducible rfl))
                try simp only [Act.put, List.setIfInBounds_toArray, List.set_cons_zero, List.set_cons_succ]
                refine take1 (i := 9) (v := ?v12) (some 57) rfl rfl (by kernel_rfl) (by kernel_rfl) (by kernel_rfl) (fun _ _ _ h => h) (Or.inl ⟨by rfl, ?y12⟩) (by assumption) ?r12
                case y12 => (intro w hSw; (try dsimp only at hSw); go_simp; (first | done | with_reducible rfl))
                try simp only [Act.put, List.setIfInBounds_toArray, List.set_cons_zero, List.set_cons_succ]
                refine take1 (i := 11) (v := ?v13) (some 11) rfl rfl (by kernel_rfl) (by kernel_rfl) (by kernel_rfl) (fun _ _ _ h => h) (Or.inl ⟨by rfl, ?y13⟩) (by assumption) ?r13
                case y13 => (intro w hSw; (try dsimp only at hSw); go_simp; (first | done | with_reducible rfl))
                try simp only [Act.put, List.setIfInBounds_toArray, List.set_cons_zero, List.set_cons_succ]
                obtain ⟨t0, t1, t2, s0, s1, s2⟩ := cell3 HT4.out
                refine wpAnyH_ready (rs := [12]) (by kernel_rfl) (by simp) ?_
                refine AllReadyH.cons rfl (fun K hK => ?_) AllReadyH.nil
                go_simp
                clear t0 t1 t2 s0 s1 s2
                have ha9 := HA4.out.store3 HT4.out (by have := HNT4.out; omega) (.int .i64 up) (.int .i64 lo) (.slice (some ⟨rb2, 0, none⟩) (chR (k + 1) dd rs').length rc2)
                have ht9 := box3_set HT4.out (.int .i64 up) (.int .i64 lo) (.slice (some ⟨rb2, 0, none⟩) (chR (k + 1) dd rs').length rc2)
                have hTB : B ≤ T := by have := HNT4.out; have := HA4.out.ord; omega
                have hb9 := bl_set3 HB4.out hTB (.int .i64 up) (.int .i64 lo) (.slice (some ⟨rb2, 0, none⟩) (chR (k + 1) dd rs').length rc2)
                have hr9 := own_setb3 HR4.out (own_box HR4.out HT4.out (by decide)) (.int .i64 up) (.int .i64 lo) (.slice (some ⟨rb2, 0, none⟩) (chR (k + 1) dd rs').length rc2)
                have hm9 := own_setb3 HM4.out (own_box HM4.out HT4.out (by decide)) (.int .i64 up) (.int .i64 lo) (.slice (some ⟨rb2, 0, none⟩) (chR (k + 1) dd rs').length rc2)
                generalize (((v4.setCell ⟨T, 0, none⟩ (.int .i64 up)).setCell ⟨T, 1, none⟩ (.int .i64 lo)).setCell ⟨T, 2, none⟩ (.slice (some ⟨rb2, 0, none⟩) (chR (k + 1) dd rs').length rc2)) = w9 at ha9 ht9 hb9 hr9 hm9 ⊢
                have HA9 := Lib.hid ha9
                have HT9 := Lib.hid ht9
                have HB9 := Lib.hid hb9
                have HR9 := Lib.hid hr9
                have HM9 := Lib.hid hm9
                have HNT9 := Lib.hid HNT4.out
                clear ha9 ht9 hb9 hr9 hm9
                try clear n0 n1 n2 p0 p1 p2
                obtain ⟨n0, n1, n2, -, -, -⟩ := cell3 HA9.out.box
                obtain ⟨p0, p1, p2, -, -, -⟩ := cell3 ((HB9.out.block _ HWB.out).trans HFB.out)
                refine hK.out _ _ (⟨n0, n1, n2, p0, p1, p2⟩) (fun hHeld => ?_)
                clear hK K
                try simp only [Act.put]
                refine wpAnyH_done (by kernel_rfl) ?_ _
                clear n0 n1 n2 p0 p1 p2
                obtain ⟨t0, t1, t2, -, -, -⟩ := cell3 HT9.out
                obtain ⟨n0, n1, n2, m0, m1, m2⟩ := cell3 HA9.out.box
                have ha11 := HA9.out.setF HR9.out
                have hb11 := bl_set3 HB9.out HA9.out.ord (.int .i64 up) (.int .i64 lo) (.slice (some ⟨rb2, 0, none⟩) (chR (k + 1) dd rs').length rc2)
                have HA11 := Lib.hid ha11
                have HB11 := Lib.hid hb11
                clear ha11 hb11
                go_wp2_with fail
                go_roundw
                case rel => exact ⟨k + 1, chR (k + 1) dd rs', ms2, cn, _, rb2, rc2, by go_num, rfl, HA11.out, HB11.out, HGN.out⟩
                case measure => simp [intOf]; omega
            · go_simp
              have hb : Below v1.heap.size v1 (v1.alloc (.cells #[.int .i64 0, .int .i64 0, .slice none 0 0] 42)) := (Below.refl _ _).alloc (Nat.le_refl _) _
              have ht : (v1.alloc (.cells #[.int .i64 0, .int .i64 0, .slice none 0 0] 42)).heap[v1.heap.size]? = some (.cells #[.int .i64 0, .int .i64 0, .slice none 0 0] 42 (0, 0)) := alloc_at rfl
              have hnt := HA1.out.lt
              generalize v1.alloc (.cells #[.int .i64 0, .int .i64 0, .slice none 0 0] 42) = v2 at hb ht ⊢
              obtain ⟨T, hTe⟩ : ∃ T, T = v1.heap.size := ⟨_, rfl⟩
              rw [← hTe] at ht hnt
              simp only [← hTe]
              have HT2 := Lib.hid ht
              have HNT2 := Lib.hid hnt
              clear ht hnt hTe
              have HA2 := Lib.hid (HA1.out.next hb)
              have HS1 : Hid (B ≤ v1.heap.size) := Lib.hid (by have := HA1.out.lt; have := HA1.out.ord; omega)
              have HB2 : Hid (Below B wQ v2) := Lib.hid (HB1.out.trans (hb.mono HS1.out))
              clear hb
              try clear n0 n1 n2 p0 p1 p2
              obtain ⟨n0, n1, n2, -, -, -⟩ := cell3 HA2.out.box
              obtain ⟨p0, p1, p2, -, -, -⟩ := cell3 ((HB2.out.block _ HWB.out).trans HFB.out)
              refine hK.out _ _ (⟨n0, n1, n2, p0, p1, p2⟩) (fun hHeld => ?_)
              clear hK K
              try simp only [Act.put, List.setIfInBounds_toArray, List.set_cons_zero, List.set_cons_succ]
              refine wpAnyH_ready (rs := [5]) (by kernel_rfl) (by simp) ?_
              refine AllReadyH.cons rfl (fun K hK => ?_) AllReadyH.nil
              go_simp
              go_at_call 124
              refine (l6At_any up lo _ rs m k _ (HRW.out.below (HBW.out.trans (HB2.out.mono HWB2.out)) (Nat.le_refl _)) hn1 hlt hm0 hm1).mono ?_
              rintro e v3 ⟨rfl, hb⟩
              rw [HDD.out]
              have HA3 := Lib.hid (HA2.out.next hb)
              have HS2 : Hid (B ≤ v2.heap.size) := Lib.hid (by have := HA2.out.lt; have := HA2.out.ord; omega)
              have HB3 : Hid (Below B wQ v3) := Lib.hid (HB2.out.trans (hb.mono HS2.out))
              have HT3 := Lib.hid ((hb.block _ (lt_of_block HT2.out)).trans HT2.out)
              have HNT3 := Lib.hid HNT2.out
              clear hb
              try clear n0 n1 n2 p0 p1 p2
              obtain ⟨n0, n1, n2, -, -, -⟩ := cell3 HA3.out.box
              obtain ⟨p0, p1, p2, -, -, -⟩ := cell3 ((HB3.out.block _ HWB.out).trans HFB.out)
              try go_simp
              refine hK.out _ _ (⟨n0, n1, n2, p0, p1, p2⟩) (fun hHeld => ?_)
              clear hK K
              try simp only [Act.put, List.setIfInBounds_toArray, List.set_cons_zero, List.set_cons_succ]
              refine wpAnyH_ready (rs := [6]) (by kernel_rfl) (by simp) ?_
              refine AllReadyH.cons rfl (fun K hK => ?_) AllReadyH.nil
              go_simp
              go_at_call 126
              refine (l6Digit_any up lo _ rs' k dd _ (RodsR.of_own HA3.out.rods) HST.out (by have := HLN.out; omega) (by have := HLN.out; omega) hd9.1 hd9.2).mono ?_
              rintro e v4 ⟨⟨g2, c2, rb2, rc2, rfl, hor, hom⟩, hb⟩
              have HSX : Hid (B ≤ v3.heap.size) := Lib.hid (by have := HA3.out.lt; have := HA3.out.ord; omega)
              have HR4 := Lib.hid (own_mono hor HSX.out)
              have HM4 := Lib.hid (own_mono hom HSX.out)
              clear hor hom
              have HA4 := Lib.hid (HA3.out.next hb)
              have HS3 : Hid (B ≤ v3.heap.size) := Lib.hid (by have := HA3.out.lt; have := HA3.out.ord; omega)
              have HB4 : Hid (Below B wQ v4) := Lib.hid (HB3.out.trans (hb.mono HS3.out))
              have HT4 := Lib.hid ((hb.block _ (lt_of_block HT3.out)).trans HT3.out)
              have HNT4 := Lib.hid HNT3.out
              clear hb
              try clear n0 n1 n2 p0 p1 p2
              obtain ⟨n0, n1, n2, -, -, -⟩ := cell3 HA4.out.box
              obtain ⟨p0, p1, p2, -, -, -⟩ := cell3 ((HB4.out.block _ HWB.out).trans HFB.out)
              try go_simp
              refine hK.out _ _ (⟨n0, n1, n2, p0, p1, p2⟩) (fun hHeld => ?_)
              clear hK K
              try simp only [Act.put, List.setIfInBounds_toArray, List.set_cons_zero, List.set_cons_succ]
              refine take1 (i := 7) (v := ?v14) (some 48) rfl rfl (by kernel_rfl) (by kernel_rfl) (by kernel_rfl) (fun _ _ _ h => h) (Or.inl ⟨by rfl, ?y14⟩) (by assumption) ?r14
              case y14 => (intro w hSw; (try dsimp only at hSw); go_simp; (first | done | with_reducible rfl))
              try simp only [Act.put, List.setIfInBounds_toArray, List.set_cons_zero, List.set_cons_succ]
              refine take1 (i := 8) (v := ?v15) (some 56) rfl rfl (by kernel_rfl) (by kernel_rfl) (by kernel_rfl) (fun _ _ _ h => h) (Or.inl ⟨by rfl, ?y15⟩) (by assumption) ?r15
              case y15 => (intro w hSw; (try dsimp only at hSw); go_simp; (first | done | with_reducible rfl))
              try simp only [Act.put, List.setIfInBounds_toArray, List.set_cons_zero, List.set_cons_succ]
              refine take1 (i := 9) (v := ?v16) (some 57) rfl rfl (by kernel_rfl) (by kernel_rfl) (by kernel_rfl) (fun _ _ _ h => h) (Or.inl ⟨by rfl, ?y16⟩) (by assumption) ?r16
              case y16 => (intro w hSw; (try dsimp only at hSw); go_simp; (first | done | with_reducible rfl))
              try simp only [Act.put, List.setIfInBounds_toArray, List.set_cons_zero, List.set_cons_succ]
              refine take1 (i := 11) (v := ?v17) (some 11) rfl rfl (by kernel_rfl) (by kernel_rfl) (by kernel_rfl) (fun _ _ _ h => h) (Or.inl ⟨by rfl, ?y17⟩) (by assumption) ?r17
              case y17 => (intro w hSw; (try dsimp only at hSw); go_simp; (first | done | with_reducible rfl))
              try simp only [Act.put, List.setIfInBounds_toArray, List.set_cons_zero, List.set_cons_succ]
              obtain ⟨t0, t1, t2, s0, s1, s2⟩ := cell3 HT4.out
              refine wpAnyH_ready (rs := [12]) (by kernel_rfl) (by simp) ?_
              refine AllReadyH.cons rfl (fun K hK => ?_) AllReadyH.nil
              go_simp
              clear t0 t1 t2 s0 s1 s2
              have ha9 := HA4.out.store3 HT4.out (by have := HNT4.out; omega) (.int .i64 up) (.int .i64 lo) (.slice (some ⟨rb2, 0, none⟩) (chR (k + 1) dd rs').length rc2)
              have ht9 := box3_set HT4.out (.int .i64 up) (.int .i64 lo) (.slice (some ⟨rb2, 0, none⟩) (chR (k + 1) dd rs').length rc2)
              have hTB : B ≤ T := by have := HNT4.out; have := HA4.out.ord; omega
              have hb9 := bl_set3 HB4.out hTB (.int .i64 up) (.int .i64 lo) (.slice (some ⟨rb2, 0, none⟩) (chR (k + 1) dd rs').length rc2)
              have hr9 := own_setb3 HR4.out (own_box HR4.out HT4.out (by decide)) (.int .i64 up) (.int .i64 lo) (.slice (some ⟨rb2, 0, none⟩) (chR (k + 1) dd rs').length rc2)
              have hm9 := own_setb3 HM4.out (own_box HM4.out HT4.out (by decide)) (.int .i64 up) (.int .i64 lo) (.slice (some ⟨rb2, 0, none⟩) (chR (k + 1) dd rs').length rc2)
              generalize (((v4.setCell ⟨T, 0, none⟩ (.int .i64 up)).setCell ⟨T, 1, none⟩ (.int .i64 lo)).setCell ⟨T, 2, none⟩ (.slice (some ⟨rb2, 0, none⟩) (chR (k + 1) dd rs').length rc2)) = w9 at ha9 ht9 hb9 hr9 hm9 ⊢
              have HA9 := Lib.hid ha9
              have HT9 := Lib.hid ht9
              have HB9 := Lib.hid hb9
              have HR9 := Lib.hid hr9
              have HM9 := Lib.hid hm9
              have HNT9 := Lib.hid HNT4.out
              clear ha9 ht9 hb9 hr9 hm9
              try clear n0 n1 n2 p0 p1 p2
              obtain ⟨n0, n1, n2, -, -, -⟩ := cell3 HA9.out.box
              obtain ⟨p0, p1, p2, -, -, -⟩ := cell3 ((HB9.out.block _ HWB.out).trans HFB.out)
              refine hK.out _ _ (⟨n0, n1, n2, p0, p1, p2⟩) (fun hHeld => ?_)
              clear hK K
              try simp only [Act.put]
              refine wpAnyH_done (by kernel_rfl) ?_ _
              clear n0 n1 n2 p0 p1 p2
              obtain ⟨t0, t1, t2, -, -, -⟩ := cell3 HT9.out
              obtain ⟨n0, n1, n2, m0, m1, m2⟩ := cell3 HA9.out.box
              have ha11 := HA9.out.setF HR9.out
              have hb11 := bl_set3 HB9.out HA9.out.ord (.int .i64 up) (.int .i64 lo) (.slice (some ⟨rb2, 0, none⟩) (chR (k + 1) dd rs').length rc2)
              have HA11 := Lib.hid ha11
              have HB11 := Lib.hid hb11
              clear ha11 hb11
              go_wp2_with fail
              go_roundw
              case rel => exact ⟨k + 1, chR (k + 1) dd rs', ms2, cn, _, rb2, rc2, by go_num, rfl, HA11.out, HB11.out, HGN.out⟩
              case measure => simp [intOf]; omega
        · have hj0 : j = 0 := by omega
          have hce : cn = CX := by
            rcases Int.lt_or_le 0 dd with h | h
            · refine (HV.out h).last ?_
              rcases Int.lt_or_le 9 (vAt rs' j + d2) with h2 | h2
              · obtain ⟨i, hi, _⟩ := (HV.out h).step h2
                omega
              · exact h2
            · exact (HZ.out (by omega)).2
          subst hce
          subst hj0
          have HGN := Lib.hid HGN'.out
          go_wp2_with fail
          refine wp_region_held_drew (S := (fun u => u.cell? ⟨N, 0, none⟩ = some (.int .i64 up) ∧ u.cell? ⟨N, 1, none⟩ = some (.int .i64 lo) ∧ u.cell? ⟨N, 2, none⟩ = some (.slice (some ⟨rb, 0, none⟩) rs'.length rc) ∧ u.cell? ⟨w.heap.size, 0, none⟩ = some (.int .i64 up) ∧ u.cell? ⟨w.heap.size, 1, none⟩ = some (.int .i64 lo) ∧ u.cell? ⟨w.heap.size, 2, none⟩ = some (.slice a rs.length cp))) (by kernel_rfl) (⟨n0, n1, n2, p0, p1, p2⟩) (fun hHeld => ?_)
          have hb : Below wr.heap.size wr wr.drew := (Below.refl _ _).drew
          generalize wr.drew = v1 at hb hHeld ⊢
          have HA1 := Lib.hid (HA0.out.next hb)
          have HS0 : Hid (B ≤ wr.heap.size) := Lib.hid (by have := HA0.out.lt; have := HA0.out.ord; omega)
          have HB1 : Hid (Below B wQ v1) := Lib.hid (HB0.out.trans (hb.mono HS0.out))
          clear hb
          try clear n0 n1 n2 p0 p1 p2
          obtain ⟨n0, n1, n2, -, -, -⟩ := cell3 HA1.out.box
          obtain ⟨p0, p1, p2, -, -, -⟩ := cell3 ((HB1.out.block _ HWB.out).trans HFB.out)
          refine take1 (i := 0) (v := ?v18) (some 49) rfl rfl (by kernel_rfl) (by kernel_rfl) (by kernel_rfl) (fun _ _ _ h => h) (Or.inl ⟨by rfl, ?y18⟩) (by assumption) ?r18
          case y18 => (intro w hSw; (try dsimp only at hSw); go_simp; (first | done | with_reducible rfl))
          try simp only [Act.put, List.setIfInBounds_toArray, List.set_cons_zero, List.set_cons_succ]
          refine take1 (i := 1) (v := ?v19) (some 50) rfl rfl (by kernel_rfl) (by kernel_rfl) (by kernel_rfl) (fun _ _ _ h => h) (Or.inl ⟨by rfl, ?y19⟩) (by assumption) ?r19
          case y19 => (intro w hSw; (try dsimp only at hSw); go_simp; (first | done | with_reducible rfl))
          try simp only [Act.put, List.setIfInBounds_toArray, List.set_cons_zero, List.set_cons_succ]
          refine take1 (i := 2) (v := ?v20) (some 51) rfl rfl (by kernel_rfl) (by kernel_rfl) (by kernel_rfl) (fun _ _ _ h => h) (Or.inl ⟨by rfl, ?y20⟩) (by assumption) ?r20
          case y20 => (intro w hSw; (try dsimp only at hSw); go_simp; (first | done | with_reducible rfl))
          try simp only [Act.put, List.setIfInBounds_toArray, List.set_cons_zero, List.set_cons_succ]
          refine take1 (i := 3) (v := ?v21) (some 52) rfl rfl (by kernel_rfl) (by kernel_rfl) (by kernel_rfl) (fun _ _ _ h => h) (Or.inl ⟨by rfl, ?y21⟩) (by assumption) ?r21
          case y21 => (intro w hSw; (try dsimp only at hSw); go_simp; (first | done | with_reducible rfl))
          try simp only [Act.put, List.setIfInBounds_toArray, List.set_cons_zero, List.set_cons_succ]
          refine take1 (i := 4) (v := ?v22) (some 53) rfl rfl (by kernel_rfl) (by kernel_rfl) (by kernel_rfl) (fun _ _ _ h => h) (Or.inl ⟨by rfl, ?y22⟩) (by assumption) ?r22
          case y22 => (intro w hSw; (try dsimp only at hSw); go_simp; (first | done | with_reducible rfl))
          try simp only [Act.put, List.setIfInBounds_toArray, List.set_cons_zero, List.set_cons_succ]
          refine wpAnyH_ready (rs := [5, 10]) (by kernel_rfl) (by simp) ?_
          refine AllReadyH.cons rfl (fun K hK => ?_) (AllReadyH.cons rfl (fun K hK => ?_) AllReadyH.nil)
          · go_simp
            go_at_call 124
            refine (l6At_any up lo _ rs m k _ (HRW.out.below (HBW.out.trans (HB1.out.mono HWB2.out)) (Nat.le_refl _)) hn1 hlt hm0 hm1).mono ?_
            rintro e v2 ⟨rfl, hb⟩
            rw [HDD.out]
            have HA2 := Lib.hid (HA1.out.next hb)
            have HS1 : Hid (B ≤ v1.heap.size) := Lib.hid (by have := HA1.out.lt; have := HA1.out.ord; omega)
            have HB2 : Hid (Below B wQ v2) := Lib.hid (HB1.out.trans (hb.mono HS1.out))
            clear hb
            try clear n0 n1 n2 p0 p1 p2
            obtain ⟨n0, n1, n2, -, -, -⟩ := cell3 HA2.out.box
            obtain ⟨p0, p1, p2, -, -, -⟩ := cell3 ((HB2.out.block _ HWB.out).trans HFB.out)
            try go_simp
            refine hK.out _ _ (⟨n0, n1, n2, p0, p1, p2⟩) (fun hHeld => ?_)
            clear hK K
            try simp only [Act.put, List.setIfInBounds_toArray, List.set_cons_zero, List.set_cons_succ]
            refine wpAnyH_ready (rs := [6, 10]) (by kernel_rfl) (by simp) ?_
            refine AllReadyH.cons rfl (fun K hK => ?_) (AllReadyH.cons rfl (fun K hK => ?_) AllReadyH.nil)
            · go_simp
              go_at_call 126
              refine (l6Digit_any up lo _ rs' k dd _ (RodsR.of_own HA2.out.rods) HST.out (by have := HLN.out; omega) (by have := HLN.out; omega) hd9.1 hd9.2).mono ?_
              rintro e v3 ⟨⟨g2, c2, rb2, rc2, rfl, hor, hom⟩, hb⟩
              have HSX : Hid (B ≤ v2.heap.size) := Lib.hid (by have := HA2.out.lt; have := HA2.out.ord; omega)
              have HR3 := Lib.hid (own_mono hor HSX.out)
              have HM3 := Lib.hid (own_mono hom HSX.out)
              clear hor hom
              have HA3 := Lib.hid (HA2.out.next hb)
              have HS2 : Hid (B ≤ v2.heap.size) := Lib.hid (by have := HA2.out.lt; have := HA2.out.ord; omega)
              have HB3 : Hid (Below B wQ v3) := Lib.hid (HB2.out.trans (hb.mono HS2.out))
              clear hb
              try clear n0 n1 n2 p0 p1 p2
              obtain ⟨n0, n1, n2, -, -, -⟩ := cell3 HA3.out.box
              obtain ⟨p0, p1, p2, -, -, -⟩ := cell3 ((HB3.out.block _ HWB.out).trans HFB.out)
              try go_simp
              refine hK.out _ _ (⟨n0, n1, n2, p0, p1, p2⟩) (fun hHeld => ?_)
              clear hK K
              try simp only [Act.put, List.setIfInBounds_toArray, List.set_cons_zero, List.set_cons_succ]
              refine take1 (i := 7) (v := ?v23) (some 48) rfl rfl (by kernel_rfl) (by kernel_rfl) (by kernel_rfl) (fun _ _ _ h => h) (Or.inl ⟨by rfl, ?y23⟩) (by assumption) ?r23
              case y23 => (intro w hSw; (try dsimp only at hSw); go_simp; (first | done | with_reducible rfl))
              try simp only [Act.put, List.setIfInBounds_toArray, List.set_cons_zero, List.set_cons_succ]
              refine take1 (i := 8) (v := ?v24) (some 56) rfl rfl (by kernel_rfl) (by kernel_rfl) (by kernel_rfl) (fun _ _ _ h => h) (Or.inl ⟨by rfl, ?y24⟩) (by assumption) ?r24
              case y24 => (intro w hSw; (try dsimp only at hSw); go_simp; (first | done | with_reducible rfl))
              try simp only [Act.put, List.setIfInBounds_toArray, List.set_cons_zero, List.set_cons_succ]
              refine take1 (i := 9) (v := ?v25) (some 57) rfl rfl (by kernel_rfl) (by kernel_rfl) (by kernel_rfl) (fun _ _ _ h => h) (Or.inl ⟨by rfl, ?y25⟩) (by assumption) ?r25
              case y25 => (intro w hSw; (try dsimp only at hSw); go_simp; (first | done | with_reducible rfl))
              try simp only [Act.put, List.setIfInBounds_toArray, List.set_cons_zero, List.set_cons_succ]
              refine wpAnyH_ready (rs := [10]) (by kernel_rfl) (by simp) ?_
              refine AllReadyH.cons rfl (fun K hK => ?_) AllReadyH.nil
              go_simp
              have hb : Below v3.heap.size v3 (v3.alloc (.cells #[.int .i64 0, .int .i64 0, .slice none 0 0] 42)) := (Below.refl _ _).alloc (Nat.le_refl _) _
              have ht : (v3.alloc (.cells #[.int .i64 0, .int .i64 0, .slice none 0 0] 42)).heap[v3.heap.size]? = some (.cells #[.int .i64 0, .int .i64 0, .slice none 0 0] 42 (0, 0)) := alloc_at rfl
              have hnt := HA3.out.lt
              generalize v3.alloc (.cells #[.int .i64 0, .int .i64 0, .slice none 0 0] 42) = v4 at hb ht ⊢
              obtain ⟨T, hTe⟩ : ∃ T, T = v3.heap.size := ⟨_, rfl⟩
              rw [← hTe] at ht hnt
              simp only [← hTe]
              have HT4 := Lib.hid ht
              have HNT4 := Lib.hid hnt
              clear ht hnt hTe
              have HA4 := Lib.hid (HA3.out.next hb)
              have HS3 : Hid (B ≤ v3.heap.size) := Lib.hid (by have := HA3.out.lt; have := HA3.out.ord; omega)
              have HB4 : Hid (Below B wQ v4) := Lib.hid (HB3.out.trans (hb.mono HS3.out))
              have HR4 := Lib.hid (own_below HR3.out hb)
              have HM4 := Lib.hid (own_below HM3.out hb)
              clear hb
              try clear n0 n1 n2 p0 p1 p2
              obtain ⟨n0, n1, n2, -, -, -⟩ := cell3 HA4.out.box
              obtain ⟨p0, p1, p2, -, -, -⟩ := cell3 ((HB4.out.block _ HWB.out).trans HFB.out)
              refine hK.out _ _ (⟨n0, n1, n2, p0, p1, p2⟩) (fun hHeld => ?_)
              clear hK K
              try simp only [Act.put, List.setIfInBounds_toArray, List.set_cons_zero, List.set_cons_succ]
              refine take1 (i := 11) (v := ?v26) (some 11) rfl rfl (by kernel_rfl) (by kernel_rfl) (by kernel_rfl) (fun _ _ _ h => h) (Or.inl ⟨by rfl, ?y26⟩) (by assumption) ?r26
              case y26 => (intro w hSw; (try dsimp only at hSw); go_simp; (first | done | with_reducible rfl))
              try simp only [Act.put, List.setIfInBounds_toArray, List.set_cons_zero, List.set_cons_succ]
              obtain ⟨t0, t1, t2, s0, s1, s2⟩ := cell3 HT4.out
              refine wpAnyH_ready (rs := [12]) (by kernel_rfl) (by simp) ?_
              refine AllReadyH.cons rfl (fun K hK => ?_) AllReadyH.nil
              go_simp
              clear t0 t1 t2 s0 s1 s2
              have ha9 := HA4.out.store3 HT4.out (by have := HNT4.out; omega) (.int .i64 up) (.int .i64 lo) (.slice (some ⟨rb2, 0, none⟩) (chR (k + 1) dd rs').length rc2)
              have ht9 := box3_set HT4.out (.int .i64 up) (.int .i64 lo) (.slice (some ⟨rb2, 0, none⟩) (chR (k + 1) dd rs').length rc2)
              have hTB : B ≤ T := by have := HNT4.out; have := HA4.out.ord; omega
              have hb9 := bl_set3 HB4.out hTB (.int .i64 up) (.int .i64 lo) (.slice (some ⟨rb2, 0, none⟩) (chR (k + 1) dd rs').length rc2)
              have hr9 := own_setb3 HR4.out (own_box HR4.out HT4.out (by decide)) (.int .i64 up) (.int .i64 lo) (.slice (some ⟨rb2, 0, none⟩) (chR (k + 1) dd rs').length rc2)
              have hm9 := own_setb3 HM4.out (own_box HM4.out HT4.out (by decide)) (.int .i64 up) (.int .i64 lo) (.slice (some ⟨rb2, 0, none⟩) (chR (k + 1) dd rs').length rc2)
              generalize (((v4.setCell ⟨T, 0, none⟩ (.int .i64 up)).setCell ⟨T, 1, none⟩ (.int .i64 lo)).setCell ⟨T, 2, none⟩ (.slice (some ⟨rb2, 0, none⟩) (chR (k + 1) dd rs').length rc2)) = w9 at ha9 ht9 hb9 hr9 hm9 ⊢
              have HA9 := Lib.hid ha9
              have HT9 := Lib.hid ht9
              have HB9 := Lib.hid hb9
              have HR9 := Lib.hid hr9
              have HM9 := Lib.hid hm9
              have HNT9 := Lib.hid HNT4.out
              clear ha9 ht9 hb9 hr9 hm9
              try clear n0 n1 n2 p0 p1 p2
              obtain ⟨n0, n1, n2, -, -, -⟩ := cell3 HA9.out.box
              obtain ⟨p0, p1, p2, -, -, -⟩ := cell3 ((HB9.out.block _ HWB.out).trans HFB.out)
              refine hK.out _ _ (⟨n0, n1, n2, p0, p1, p2⟩) (fun hHeld => ?_)
              clear hK K
              try simp only [Act.put]
              refine wpAnyH_done (by kernel_rfl) ?_ _
              clear n0 n1 n2 p0 p1 p2
              obtain ⟨t0, t1, t2, -, -, -⟩ := cell3 HT9.out
              obtain ⟨n0, n1, n2, m0, m1, m2⟩ := cell3 HA9.out.box
              have ha11 := HA9.out.setF HR9.out
              have hb11 := bl_set3 HB9.out HA9.out.ord (.int .i64 up) (.int .i64 lo) (.slice (some ⟨rb2, 0, none⟩) (chR (k + 1) dd rs').length rc2)
              have HA11 := Lib.hid ha11
              have HB11 := Lib.hid hb11
              clear ha11 hb11
              go_wp2_with fail
              go_roundw
              case rel => exact ⟨k + 1, chR (k + 1) dd rs', ms2, cn, _, rb2, rc2, by go_num, rfl, HA11.out, HB11.out, HGN.out⟩
              case measure => simp [intOf]; omega
            · go_simp
              have hb : Below v2.heap.size v2 (v2.alloc (.cells #[.int .i64 0, .int .i64 0, .slice none 0 0] 42)) := (Below.refl _ _).alloc (Nat.le_refl _) _
              have ht : (v2.alloc (.cells #[.int .i64 0, .int .i64 0, .slice none 0 0] 42)).heap[v2.heap.size]? = some (.cells #[.int .i64 0, .int .i64 0, .slice none 0 0] 42 (0, 0)) := alloc_at rfl
              have hnt := HA2.out.lt
              generalize v2.alloc (.cells #[.int .i64 0, .int .i64 0, .slice none 0 0] 42) = v3 at hb ht ⊢
              obtain ⟨T, hTe⟩ : ∃ T, T = v2.heap.size := ⟨_, rfl⟩
              rw [← hTe] at ht hnt
              simp only [← hTe]
              have HT3 := Lib.hid ht
              have HNT3 := Lib.hid hnt
              clear ht hnt hTe
              have HA3 := Lib.hid (HA2.out.next hb)
              have HS2 : Hid (B ≤ v2.heap.size) := Lib.hid (by have := HA2.out.lt; have := HA2.out.ord; omega)
              have HB3 : Hid (Below B wQ v3) := Lib.hid (HB2.out.trans (hb.mono HS2.out))
              clear hb
              try clear n0 n1 n2 p0 p1 p2
              obtain ⟨n0, n1, n2, -, -, -⟩ := cell3 HA3.out.box
              obtain ⟨p0, p1, p2, -, -, -⟩ := cell3 ((HB3.out.block _ HWB.out).trans HFB.out)
              refine hK.out _ _ (⟨n0, n1, n2, p0, p1, p2⟩) (fun hHeld => ?_)
              clear hK K
              try simp only [Act.put, List.setIfInBounds_toArray, List.set_cons_zero, List.set_cons_succ]
              refine wpAnyH_ready (rs := [6]) (by kernel_rfl) (by simp) ?_
              refine AllReadyH.cons rfl (fun K hK => ?_) AllReadyH.nil
              go_simp
              go_at_call 126
              refine (l6Digit_any up lo _ rs' k dd _ (RodsR.of_own HA3.out.rods) HST.out (by have := HLN.out; omega) (by have := HLN.out; omega) hd9.1 hd9.2).mono ?_
              rintro e v4 ⟨⟨g2, c2, rb2, rc2, rfl, hor, hom⟩, hb⟩
              have HSX : Hid (B ≤ v3.heap.size) := Lib.hid (by have := HA3.out.lt; have := HA3.out.ord; omega)
              have HR4 := Lib.hid (own_mono hor HSX.out)
              have HM4 := Lib.hid (own_mono hom HSX.out)
              clear hor hom
              have HA4 := Lib.hid (HA3.out.next hb)
              have HS3 : Hid (B ≤ v3.heap.size) := Lib.hid (by have := HA3.out.lt; have := HA3.out.ord; omega)
              have HB4 : Hid (Below B wQ v4) := Lib.hid (HB3.out.trans (hb.mono HS3.out))
              have HT4 := Lib.hid ((hb.block _ (lt_of_block HT3.out)).trans HT3.out)
              have HNT4 := Lib.hid HNT3.out
              clear hb
              try clear n0 n1 n2 p0 p1 p2
              obtain ⟨n0, n1, n2, -, -, -⟩ := cell3 HA4.out.box
              obtain ⟨p0, p1, p2, -, -, -⟩ := cell3 ((HB4.out.block _ HWB.out).trans HFB.out)
              try go_simp
              refine hK.out _ _ (⟨n0, n1, n2, p0, p1, p2⟩) (fun hHeld => ?_)
              clear hK K
              try simp only [Act.put, List.setIfInBounds_toArray, List.set_cons_zero, List.set_cons_succ]
              refine take1 (i := 7) (v := ?v27) (some 48) rfl rfl (by kernel_rfl) (by kernel_rfl) (by kernel_rfl) (fun _ _ _ h => h) (Or.inl ⟨by rfl, ?y27⟩) (by assumption) ?r27
              case y27 => (intro w hSw; (try dsimp only at hSw); go_simp; (first | done | with_reducible rfl))
              try simp only [Act.put, List.setIfInBounds_toArray, List.set_cons_zero, List.set_cons_succ]
              refine take1 (i := 8) (v := ?v28) (some 56) rfl rfl (by kernel_rfl) (by kernel_rfl) (by kernel_rfl) (fun _ _ _ h => h) (Or.inl ⟨by rfl, ?y28⟩) (by assumption) ?r28
              case y28 => (intro w hSw; (try dsimp only at hSw); go_simp; (first | done | with_reducible rfl))
              try simp only [Act.put, List.setIfInBounds_toArray, List.set_cons_zero, List.set_cons_succ]
              refine take1 (i := 9) (v := ?v29) (some 57) rfl rfl (by kernel_rfl) (by kernel_rfl) (by kernel_rfl) (fun _ _ _ h => h) (Or.inl ⟨by rfl, ?y29⟩) (by assumption) ?r29
              case y29 => (intro w hSw; (try dsimp only at hSw); go_simp; (first | done | with_reducible rfl))
              try simp only [Act.put, List.setIfInBounds_toArray, List.set_cons_zero, List.set_cons_succ]
              refine take1 (i := 11) (v := ?v30) (some 11) rfl rfl (by kernel_rfl) (by kernel_rfl) (by kernel_rfl) (fun _ _ _ h => h) (Or.inl ⟨by rfl, ?y30⟩) (by assumption) ?r30
              case y30 => (intro w hSw; (try dsimp only at hSw); go_simp; (first | done | with_reducible rfl))
              try simp only [Act.put, List.setIfInBounds_toArray, List.set_cons_zero, List.set_cons_succ]
              obtain ⟨t0, t1, t2, s0, s1, s2⟩ := cell3 HT4.out
              refine wpAnyH_ready (rs := [12]) (by kernel_rfl) (by simp) ?_
              refine AllReadyH.cons rfl (fun K hK => ?_) AllReadyH.nil
              go_simp
              clear t0 t1 t2 s0 s1 s2
              have ha9 := HA4.out.store3 HT4.out (by have := HNT4.out; omega) (.int .i64 up) (.int .i64 lo) (.slice (some ⟨rb2, 0, none⟩) (chR (k + 1) dd rs').length rc2)
              have ht9 := box3_set HT4.out (.int .i64 up) (.int .i64 lo) (.slice (some ⟨rb2, 0, none⟩) (chR (k + 1) dd rs').length rc2)
              have hTB : B ≤ T := by have := HNT4.out; have := HA4.out.ord; omega
              have hb9 := bl_set3 HB4.out hTB (.int .i64 up) (.int .i64 lo) (.slice (some ⟨rb2, 0, none⟩) (chR (k + 1) dd rs').length rc2)
              have hr9 := own_setb3 HR4.out (own_box HR4.out HT4.out (by decide)) (.int .i64 up) (.int .i64 lo) (.slice (some ⟨rb2, 0, none⟩) (chR (k + 1) dd rs').length rc2)
              have hm9 := own_setb3 HM4.out (own_box HM4.out HT4.out (by decide)) (.int .i64 up) (.int .i64 lo) (.slice (some ⟨rb2, 0, none⟩) (chR (k + 1) dd rs').length rc2)
              generalize (((v4.setCell ⟨T, 0, none⟩ (.int .i64 up)).setCell ⟨T, 1, none⟩ (.int .i64 lo)).setCell ⟨T, 2, none⟩ (.slice (some ⟨rb2, 0, none⟩) (chR (k + 1) dd rs').length rc2)) = w9 at ha9 ht9 hb9 hr9 hm9 ⊢
              have HA9 := Lib.hid ha9
              have HT9 := Lib.hid ht9
              have HB9 := Lib.hid hb9
              have HR9 := Lib.hid hr9
              have HM9 := Lib.hid hm9
              have HNT9 := Lib.hid HNT4.out
              clear ha9 ht9 hb9 hr9 hm9
              try clear n0 n1 n2 p0 p1 p2
              obtain ⟨n0, n1, n2, -, -, -⟩ := cell3 HA9.out.box
              obtain ⟨p0, p1, p2, -, -, -⟩ := cell3 ((HB9.out.block _ HWB.out).trans HFB.out)
              refine hK.out _ _ (⟨n0, n1, n2, p0, p1, p2⟩) (fun hHeld => ?_)
              clear hK K
              try simp only [Act.put]
              refine wpAnyH_done (by kernel_rfl) ?_ _
              clear n0 n1 n2 p0 p1 p2
              obtain ⟨t0, t1, t2, -, -, -⟩ := cell3 HT9.out
              obtain ⟨n0, n1, n2, m0, m1, m2⟩ := cell3 HA9.out.box
              have ha11 := HA9.out.setF HR9.out
              have hb11 := bl_set3 HB9.out HA9.out.ord (.int .i64 up) (.int .i64 lo) (.slice (some ⟨rb2, 0, none⟩) (chR (k + 1) dd rs').length rc2)
              have HA11 := Lib.hid ha11
              have HB11 := Lib.hid hb11
              clear ha11 hb11
              go_wp2_with fail
              go_roundw
              case rel => exact ⟨k + 1, chR (k + 1) dd rs', ms2, cn, _, rb2, rc2, by go_num, rfl, HA11.out, HB11.out, HGN.out⟩
              case measure => simp [intOf]; omega
          · go_simp
            have hb : Below v1.heap.size v1 (v1.alloc (.cells #[.int .i64 0, .int .i64 0, .slice none 0 0] 42)) := (Below.refl _ _).alloc (Nat.le_refl _) _
            have ht : (v1.alloc (.cells #[.int .i64 0, .int .i64 0, .slice none 0 0] 42)).heap[v1.heap.size]? = some (.cells #[.int .i64 0, .int .i64 0, .slice none 0 0] 42 (0, 0)) := alloc_at rfl
            have hnt := HA1.out.lt
            generalize v1.alloc (.cells #[.int .i64 0, .int .i64 0, .slice none 0 0] 42) = v2 at hb ht ⊢
            obtain ⟨T, hTe⟩ : ∃ T, T = v1.heap.size := ⟨_, rfl⟩
            rw [← hTe] at ht hnt
            simp only [← hTe]
            have HT2 := Lib.hid ht
            have HNT2 := Lib.hid hnt
            clear ht hnt hTe
            have HA2 := Lib.hid (HA1.out.next hb)
            have HS1 : Hid (B ≤ v1.heap.size) := Lib.hid (by have := HA1.out.lt; have := HA1.out.ord; omega)
            have HB2 : Hid (Below B wQ v2) := Lib.hid (HB1.out.trans (hb.mono HS1.out))
            clear hb
            try clear n0 n1 n2 p0 p1 p2
            obtain ⟨n0, n1, n2, -, -, -⟩ := cell3 HA2.out.box
            obtain ⟨p0, p1, p2, -, -, -⟩ := cell3 ((HB2.out.block _ HWB.out).trans HFB.out)
            refine hK.out _ _ (⟨n0, n1, n2, p0, p1, p2⟩) (fun hHeld => ?_)
            clear hK K
            try simp only [Act.put, List.setIfInBounds_toArray, List.set_cons_zero, List.set_cons_succ]
            refine wpAnyH_ready (rs := [5]) (by kernel_rfl) (by simp) ?_
            refine AllReadyH.cons rfl (fun K hK => ?_) AllReadyH.nil
            go_simp
            go_at_call 124
            refine (l6At_any up lo _ rs m k _ (HRW.out.below (HBW.out.trans (HB2.out.mono HWB2.out)) (Nat.le_refl _)) hn1 hlt hm0 hm1).mono ?_
            rintro e v3 ⟨rfl, hb⟩
            rw [HDD.out]
            have HA3 := Lib.hid (HA2.out.next hb)
            have HS2 : Hid (B ≤ v2.heap.size) := Lib.hid (by have := HA2.out.lt; have := HA2.out.ord; omega)
            have HB3 : Hid (Below B wQ v3) := Lib.hid (HB2.out.trans (hb.mono HS2.out))
            have HT3 := Lib.hid ((hb.block _ (lt_of_block HT2.out)).trans HT2.out)
            have HNT3 := Lib.hid HNT2.out
            clear hb
            try clear n0 n1 n2 p0 p1 p2
            obtain ⟨n0, n1, n2, -, -, -⟩ := cell3 HA3.out.box
            obtain ⟨p0, p1, p2, -, -, -⟩ := cell3 ((HB3.out.block _ HWB.out).trans HFB.out)
            try go_simp
            refine hK.out _ _ (⟨n0, n1, n2, p0, p1, p2⟩) (fun hHeld => ?_)
            clear hK K
            try simp only [Act.put, List.setIfInBounds_toArray, List.set_cons_zero, List.set_cons_succ]
            refine wpAnyH_ready (rs := [6]) (by kernel_rfl) (by simp) ?_
            refine AllReadyH.cons rfl (fun K hK => ?_) AllReadyH.nil
            go_simp
            go_at_call 126
            refine (l6Digit_any up lo _ rs' k dd _ (RodsR.of_own HA3.out.rods) HST.out (by have := HLN.out; omega) (by have := HLN.out; omega) hd9.1 hd9.2).mono ?_
            rintro e v4 ⟨⟨g2, c2, rb2, rc2, rfl, hor, hom⟩, hb⟩
            have HSX : Hid (B ≤ v3.heap.size) := Lib.hid (by have := HA3.out.lt; have := HA3.out.ord; omega)
            have HR4 := Lib.hid (own_mono hor HSX.out)
            have HM4 := Lib.hid (own_mono hom HSX.out)
            clear hor hom
            have HA4 := Lib.hid (HA3.out.next hb)
            have HS3 : Hid (B ≤ v3.heap.size) := Lib.hid (by have := HA3.out.lt; have := HA3.out.ord; omega)
            have HB4 : Hid (Below B wQ v4) := Lib.hid (HB3.out.trans (hb.mono HS3.out))
            have HT4 := Lib.hid ((hb.block _ (lt_of_block HT3.out)).trans HT3.out)
            have HNT4 := Lib.hid HNT3.out
            clear hb
            try clear n0 n1 n2 p0 p1 p2
            obtain ⟨n0, n1, n2, -, -, -⟩ := cell3 HA4.out.box
            obtain ⟨p0, p1, p2, -, -, -⟩ := cell3 ((HB4.out.block _ HWB.out).trans HFB.out)
            try go_simp
            refine hK.out _ _ (⟨n0, n1, n2, p0, p1, p2⟩) (fun hHeld => ?_)
            clear hK K
            try simp only [Act.put, List.setIfInBounds_toArray, List.set_cons_zero, List.set_cons_succ]
            refine take1 (i := 7) (v := ?v31) (some 48) rfl rfl (by kernel_rfl) (by kernel_rfl) (by kernel_rfl) (fun _ _ _ h => h) (Or.inl ⟨by rfl, ?y31⟩) (by assumption) ?r31
            case y31 => (intro w hSw; (try dsimp only at hSw); go_simp; (first | done | with_reducible rfl))
            try simp only [Act.put, List.setIfInBounds_toArray, List.set_cons_zero, List.set_cons_succ]
            refine take1 (i := 8) (v := ?v32) (some 56) rfl rfl (by kernel_rfl) (by kernel_rfl) (by kernel_rfl) (fun _ _ _ h => h) (Or.inl ⟨by rfl, ?y32⟩) (by assumption) ?r32
            case y32 => (intro w hSw; (try dsimp only at hSw); go_simp; (first | done | with_reducible rfl))
            try simp only [Act.put, List.setIfInBounds_toArray, List.set_cons_zero, List.set_cons_succ]
            refine take1 (i := 9) (v := ?v33) (some 57) rfl rfl (by kernel_rfl) (by kernel_rfl) (by kernel_rfl) (fun _ _ _ h => h) (Or.inl ⟨by rfl, ?y33⟩) (by assumption) ?r33
            case y33 => (intro w hSw; (try dsimp only at hSw); go_simp; (first | done | with_reducible rfl))
            try simp only [Act.put, List.setIfInBounds_toArray, List.set_cons_zero, List.set_cons_succ]
            refine take1 (i := 11) (v := ?v34) (some 11) rfl rfl (by kernel_rfl) (by kernel_rfl) (by kernel_rfl) (fun _ _ _ h => h) (Or.inl ⟨by rfl, ?y34⟩) (by assumption) ?r34
            case y34 => (intro w hSw; (try dsimp only at hSw); go_simp; (first | done | with_reducible rfl))
            try simp only [Act.put, List.setIfInBounds_toArray, List.set_cons_zero, List.set_cons_succ]
            obtain ⟨t0, t1, t2, s0, s1, s2⟩ := cell3 HT4.out
            refine wpAnyH_ready (rs := [12]) (by kernel_rfl) (by simp) ?_
            refine AllReadyH.cons rfl (fun K hK => ?_) AllReadyH.nil
            go_simp
            clear t0 t1 t2 s0 s1 s2
            have ha9 := HA4.out.store3 HT4.out (by have := HNT4.out; omega) (.int .i64 up) (.int .i64 lo) (.slice (some ⟨rb2, 0, none⟩) (chR (k + 1) dd rs').length rc2)
            have ht9 := box3_set HT4.out (.int .i64 up) (.int .i64 lo) (.slice (some ⟨rb2, 0, none⟩) (chR (k + 1) dd rs').length rc2)
            have hTB : B ≤ T := by have := HNT4.out; have := HA4.out.ord; omega
            have hb9 := bl_set3 HB4.out hTB (.int .i64 up) (.int .i64 lo) (.slice (some ⟨rb2, 0, none⟩) (chR (k + 1) dd rs').length rc2)
            have hr9 := own_setb3 HR4.out (own_box HR4.out HT4.out (by decide)) (.int .i64 up) (.int .i64 lo) (.slice (some ⟨rb2, 0, none⟩) (chR (k + 1) dd rs').length rc2)
            have hm9 := own_setb3 HM4.out (own_box HM4.out HT4.out (by decide)) (.int .i64 up) (.int .i64 lo) (.slice (some ⟨rb2, 0, none⟩) (chR (k + 1) dd rs').length rc2)
            generalize (((v4.setCell ⟨T, 0, none⟩ (.int .i64 up)).setCell ⟨T, 1, none⟩ (.int .i64 lo)).setCell ⟨T, 2, none⟩ (.slice (some ⟨rb2, 0, none⟩) (chR (k + 1) dd rs').length rc2)) = w9 at ha9 ht9 hb9 hr9 hm9 ⊢
            have HA9 := Lib.hid ha9
            have HT9 := Lib.hid ht9
            have HB9 := Lib.hid hb9
            have HR9 := Lib.hid hr9
            have HM9 := Lib.hid hm9
            have HNT9 := Lib.hid HNT4.out
            clear ha9 ht9 hb9 hr9 hm9
            try clear n0 n1 n2 p0 p1 p2
            obtain ⟨n0, n1, n2, -, -, -⟩ := cell3 HA9.out.box
            obtain ⟨p0, p1, p2, -, -, -⟩ := cell3 ((HB9.out.block _ HWB.out).trans HFB.out)
            refine hK.out _ _ (⟨n0, n1, n2, p0, p1, p2⟩) (fun hHeld => ?_)
            clear hK K
            try simp only [Act.put]
            refine wpAnyH_done (by kernel_rfl) ?_ _
            clear n0 n1 n2 p0 p1 p2
            obtain ⟨t0, t1, t2, -, -, -⟩ := cell3 HT9.out
            obtain ⟨n0, n1, n2, m0, m1, m2⟩ := cell3 HA9.out.box
            have ha11 := HA9.out.setF HR9.out
            have hb11 := bl_set3 HB9.out HA9.out.ord (.int .i64 up) (.int .i64 lo) (.slice (some ⟨rb2, 0, none⟩) (chR (k + 1) dd rs').length rc2)
            have HA11 := Lib.hid ha11
            have HB11 := Lib.hid hb11
            clear ha11 hb11
            go_wp2_with fail
            go_roundw
            case rel => exact ⟨k + 1, chR (k + 1) dd rs', ms2, cn, _, rb2, rc2, by go_num, rfl, HA11.out, HB11.out, HGN.out⟩
            case measure => simp [intOf]; omega
    · have hke : k = rs.length := by omega
      subst hke
      have HD : Hid (c' = (CT : Int)) := Lib.hid HG.out.done.2.2.1
      have HBF : Hid (Below w.heap.size w wo) := Lib.hid (HBW.out.trans (HBa.out.mono HWB2.out))
      have z2 : ¬ ((rs.length : Int) < (rs.length : Int)) := by omega
      go_wp2_with fail
      go_ret2
      exact ⟨ret_int2 HD.out, HBF.out⟩
end Go.Proofs.Ythmbehknacjodaa
