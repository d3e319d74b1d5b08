/- The model's pairs, root steps, sums of two squares. -/
import Derived.Test.YtlfplnbmgmookaaRm1
namespace Go.Proofs.Ytlfplnbmgmookaa
set_option linter.unusedVariables false
open Go.RowKit

set_option maxRecDepth 100000 in
set_option maxHeartbeats 1600000 in
/-- The pairs, from the left. -/
theorem l12Pairs_any (n : Nat) (w : World) (h : n < 1000000000) :
    Calls Try.prog 61 #[.int .i64 (n : Int)] w fun e w' => (∃ sq, e = .returned sq ∧ w'.ownsRow w.heap.size 3 1 sq (dgB 100 n).length (flatC inC (dgB 100 n))) ∧ Below w.heap.size w w' := by
  obtain ⟨i0, hi, hz0, hz1, hz2⟩ := info_parts Try.infoI9
  have HL : Hid ((dgB 100 n).length ≤ 5) := Lib.hid (dgB_len (by omega) 5 n (by omega))
  go_enter Try.func61, Try.ntmps61
  go_wp2_with fail
  go_loopw [0, 3] (fun mv ov wr => ∃ (m g c : Nat) (ys : List Int), m ≤ n ∧ mv = .int .i64 (m : Int) ∧ ov = .slice (some ⟨g, 0, none⟩) ys.length c ∧ Hid (dgB 100 n = dgB 100 m ++ ys) ∧ wr.ownsRow w.heap.size 3 1 (.slice (some ⟨g, 0, none⟩) ys.length c) ys.length (flatC inC ys) ∧ Below w.heap.size w wr) (fun mv _ _ => (intOf mv).toNat)
  case atStart => exact ⟨n, w.heap.size, 0, [], Nat.le_refl _, rfl, rfl, Lib.hid (by simp), World.ownsRow_made (base := w.heap.size) (e := 3) (size := 1) w #[] 0 (Nat.le_refl _) (Nat.zero_le _) (by simp), (Below.refl _ _).alloc (Nat.le_refl _) _⟩
  case round =>
    obtain ⟨m, g, c, ys, hm, rfl, rfl, HY, hown, hb⟩ := hrel
    have HO := Lib.hid hown
    have HB := Lib.hid hb
    have hyl : ys.length ≤ 5 := by have h1 := HL.out; rw [HY.out, List.length_append] at h1; omega
    by_cases hlt : 0 < m
    · have z1 : (0 : Int) < (m : Int) := by omega
      have HY2 : Hid (dgB 100 n = dgB 100 (m / 100) ++ (((m : Int) % 100) :: ys)) := Lib.hid (by rw [HY.out, dgB_pos (by omega) hlt, List.append_assoc, List.singleton_append]; rfl)
      have HMB := Lib.hid hm
      have HDV : Hid ((m : Int) / 100 = ((m / 100 : Nat) : Int)) := Lib.hid (by omega)
      clear hown hb
      have ho1 : (wr.alloc (.cells #[.int .i64 ((m : Int) % 100)] 3)).ownsRow w.heap.size 3 1 (.slice (some ⟨wr.heap.size, 0, none⟩) 1 1) 1 (flatC inC [((m : Int) % 100)]) := World.ownsRow_lit wr #[.int .i64 ((m : Int) % 100)] 1 HB.out.size (by decide) (by simp)
      have HO1 := Lib.hid ho1
      clear ho1
      go_wp2_with (at_builtin; refine wpList_append_rows (w := wr.alloc (.cells #[.int .i64 ((m : Int) % 100)] 3)) rfl _ _ 36 rfl w.heap.size 3 i0 (.int .i64 0) 1 8 Try.underlying36 hi hz0 hz1 hz2 rfl (by decide) inC_len inC_one9 wr.heap.size 1 1 _ rfl HO1.out (some ⟨g, 0, none⟩) c ys rfl ?c1 ?c3 ?c4 ?c5 ?_)
      case c1 => exact .inr ⟨_, rfl, fun j u hu => (HO.out.alloc _).cells rfl j u hu⟩
      case c3 => unfold maxLen; omega
      case c4 => omega
      case c5 => have := HB.out.size; simp; omega
      intro g3 k3 w3 hown3 hgrow3 _
      have HO3 : Hid (w3.ownsRow w.heap.size 3 1 (.slice (some ⟨g3, 0, none⟩) (((m : Int) % 100) :: ys).length k3) (((m : Int) % 100) :: ys).length (flatC inC (((m : Int) % 100) :: ys))) := Lib.hid (by
        rw [List.length_cons, Nat.add_comm ys.length 1]; simpa [flatC, inC] using hown3)
      have HB3 : Hid (Below w.heap.size w w3) := Lib.hid ((HB.out.alloc HB.out.size _).grown hgrow3 (by have := HB.out.size; simp; omega) (fun q hq => by have := HB.out.size; simp at hq; omega))
      clear hown3 hgrow3
      have hlen : 1 + ys.length = (((m : Int) % 100) :: ys).length := by rw [List.length_cons]; omega
      rw [hlen]
      clear hlen
      generalize hzs : (((m : Int) % 100) :: ys) = zs at HO3 HY2 ⊢
      clear hzs
      go_wp2_with fail
      go_roundw
      case rel => exact ⟨m / 100, g3, k3, zs, by omega, by first | rfl | rw [HDV.out], rfl, HY2, HO3.out, HB3.out⟩
      case measure => simp [intOf]; omega
    · obtain rfl : m = 0 := by omega
      have HY2 : Hid (ys = dgB 100 n) := Lib.hid (by rw [HY.out, dgB_zero, List.nil_append])
      clear hown hb
      go_wp2_with fail
      go_ret
      exact ⟨⟨_, rfl, HY2.out ▸ HO.out⟩, HB.out⟩
set_option maxRecDepth 100000 in
set_option maxHeartbeats 800000 in
theorem spePairsOf_yes (n : Nat) (w : World) (h : n ≤ 99999999) :
    Calls Try.prog 28 #[.int .i64 (n : Int)] w fun e w' => (∃ sq, e = .returned (.tuple #[sq, .bool true]) ∧ RowsR 1 inC w' sq (dgB 100 n)) ∧ Below w.heap.size w w' := by
  have HOK : Hid (okN (n : Int)) := Lib.hid ⟨by omega, by omega⟩
  go_enter Try.func28, Try.ntmps28
  go_wp2_with fail
  refine (l12Good_yes _ w HOK.out).mono ?_
  rintro e w2 ⟨rfl, rfl⟩
  go_wp2_with fail
  refine (l12Pairs_any n w (by omega)).mono ?_
  rintro e w2 ⟨⟨sq, rfl, ho⟩, hb2⟩
  have HO := Lib.hid ho
  have HB := Lib.hid hb2
  clear ho hb2
  go_wp2_with fail
  go_ret2
  exact ⟨⟨_, rfl, RowsR.of_own inC_len HO.out⟩, HB.out⟩
set_option maxRecDepth 100000 in
set_option maxHeartbeats 800000 in
theorem spePairsOf_no (a : Int) (w : World) (h : ¬ okN a) :
    Calls Try.prog 28 #[.int .i64 a] w fun e w' => (∃ sq, e = .returned (.tuple #[sq, .bool false]) ∧ RowsR 1 inC w' sq []) ∧ Below w.heap.size w w' := by
  go_enter Try.func28, Try.ntmps28
  go_wp2_with fail
  refine (l12Good_no _ w h).mono ?_
  rintro e w2 ⟨rfl, rfl⟩
  go_wp2_with fail
  go_ret2
  exact ⟨⟨_, rfl, ⟨_, 0, rfl, ⟨Nat.zero_le _, Nat.le_refl _⟩, fun h => absurd h (by simp)⟩⟩, (Below.refl _ _).alloc (Nat.le_refl _) _⟩

/-- What both sides reckon in a root step. -/
theorem root_facts {T R x : Int} (h : okR (T, R)) (ht : T ≤ 99999999) (hx : 0 ≤ x ∧ x ≤ 99) : ∃ (H N A E V T2 : Int) (G : Nat), IntKind.i64.wrap (100 * R) = H ∧ IntKind.i64.wrap (H + x) = N ∧ IntKind.i64.wrap (20 * T) = A ∧ IntKind.i64.wrap (10 * T) = E ∧ IntKind.i64.wrap (E + (G : Int)) = T2 ∧ G ≤ 9 ∧
    (∀ d : Nat, d ≤ 15 → ∃ B C, IntKind.i64.wrap (A + (d : Int)) = B ∧ IntKind.i64.wrap (B * (d : Int)) = C ∧ (C ≤ N ↔ d ≤ G) ∧ (d = G → IntKind.i64.wrap (N - C) = V)) ∧ mkR (T, R) x = ⟨N, (G : Int), V⟩ ∧ nxR (T, R) x = (T2, V) := by
  obtain ⟨h1, h2, h3⟩ := h
  dsimp only at h1 h2 h3
  have hn : 0 ≤ 100 * R + x := by omega
  have hi := dgR_iff (t := T) h1 hn (by omega)
  have hg := dgR_le T (100 * R + x)
  refine ⟨100 * R, 100 * R + x, 20 * T, 10 * T, 100 * R + x - (20 * T + (dgR T (100 * R + x) : Int)) * (dgR T (100 * R + x) : Int), 10 * T + (dgR T (100 * R + x) : Int), dgR T (100 * R + x), ?_, ?_, ?_, ?_, ?_, hg, ?_, rfl, rfl⟩
  · rw [IntKind.wrap_i64]; omega
  · rw [IntKind.wrap_i64]; omega
  · rw [IntKind.wrap_i64]; omega
  · rw [IntKind.wrap_i64]; omega
  · rw [IntKind.wrap_i64]; omega
  · intro d hd
    have c1 : 0 ≤ (20 * T + (d : Int)) * (d : Int) := Int.mul_nonneg (by omega) (by omega)
    have c2 : (20 * T + (d : Int)) * (d : Int) ≤ 2000000000 * 15 := Int.mul_le_mul (by omega) (by omega) (by omega) (by omega)
    refine ⟨20 * T + (d : Int), (20 * T + (d : Int)) * (d : Int), ?_, ?_, hi d, ?_⟩
    · rw [IntKind.wrap_i64]; omega
    · rw [IntKind.wrap_i64]; omega
    · intro e
      rw [← e, IntKind.wrap_i64]; omega
theorem okR_at {L : List Int} (h8 : L.length ≤ 8) (hx : ∀ x ∈ L, 0 ≤ x ∧ x ≤ 99) (k : Nat) (hk : k ≤ L.length) : okR (rtP (L.take k)) ∧ (rtP (L.take k)).1 ≤ 99999999 := by
  have hl : (L.take k).length = k := by rw [List.length_take]; omega
  obtain ⟨h1, _, h3⟩ := okR_list k (L.take k) hl (fun x h => hx x (List.mem_of_mem_take h))
  refine ⟨h1, ?_⟩
  have h4 : (10 : Nat) ^ k ≤ 10 ^ 8 := Nat.pow_le_pow_right (by omega) (by omega)
  have h5 : ((10 : Int) ^ k) = ((10 ^ k : Nat) : Int) := by simp
  rw [h5] at h3
  omega
set_option maxRecDepth 100000 in
set_option maxHeartbeats 3200000 in
theorem l12Steps_any (m : Nat) (w : World) (hm : m ≤ 99999999) :
    Calls Try.prog 58 #[.int .i64 (m : Int)] w fun e w' => (∃ sq z, e = .returned (.tuple #[sq, .int .i64 z]) ∧ w'.ownsRow w.heap.size 31 3 sq (rtS (dgB 100 m)).length (flatC trC (rtS (dgB 100 m)))) ∧ Below w.heap.size w w' := by
  obtain ⟨i0, hi, hz0, hz1, hz2⟩ := info_parts Try.infoTri
  have hl4 := dgB_len (b := 100) (by omega) 4 m (by omega)
  have HLN : Hid ((dgB 100 m).length ≤ 4) := Lib.hid hl4
  have HDB : Hid (∀ x ∈ dgB 100 m, 0 ≤ x ∧ x ≤ 99) := Lib.hid (fun x h => by have := dgB_bd (b := 100) (by omega) m x h; omega)
  have HG := Lib.hid (fun w => l12Pairs_any m w (by omega))
  rw [rtS_len]
  generalize dgB 100 m = L at HLN HDB HG ⊢
  clear hm hl4
  go_enter Try.func58, Try.ntmps58
  go_wp2_with fail
  refine (HG.out w).mono ?_
  rintro e w1 ⟨⟨sd, rfl, od⟩, hb1⟩
  obtain ⟨ad, cd, rfl⟩ := own_form od
  have hsz1 := hb1.size
  have HR := Lib.hid (fun (wr : World) (hk : KeepB w.heap.size w1.heap.size w1 wr) i (hi : i < L.length) => own_read inC_len od rfl hk i hi)
  have HZ : Hid (L.length ≤ 9223372036854775807) := Lib.hid (by have := HLN.out; omega)
  have HO0 : Hid (OutA w.heap.size w.heap.size w1.heap.size (w1.alloc (.cells #[] 31)) 31 3 w1.heap.size 0 0 []) := Lib.hid (outA_made w1 _ 3 hsz1 (Nat.le_refl _))
  have HB0 : Hid (Below w.heap.size w (w1.alloc (.cells #[] 31))) := Lib.hid (hb1.alloc hsz1 _)
  have HK0 : Hid (KeepB w.heap.size w1.heap.size w1 (w1.alloc (.cells #[] 31))) := Lib.hid (KeepB.of_below ((Below.refl _ _).alloc (Nat.le_refl _) _) (Nat.le_refl _))
  clear od hb1 hsz1
  go_wp2_with fail
  generalize w1.alloc (.cells #[] 31) = w2 at HO0 HB0 HK0 ⊢
  go_loopw [5, 6, 7, 8] (fun ov tv rv iv wr => ∃ (k g c : Nat) (T R : Int), k ≤ L.length ∧ iv = .int .i64 (k : Int) ∧ tv = .int .i64 T ∧ rv = .int .i64 R ∧ ov = .slice (some ⟨g, 0, none⟩) k c ∧ Hid (rtP (L.take k) = (T, R)) ∧ OutA w.heap.size w.heap.size w1.heap.size wr 31 3 g k c (flatC trC (rtS (L.take k))) ∧ Below w.heap.size w wr ∧ KeepB w.heap.size w1.heap.size w1 wr) (fun _ _ _ iv _ => 20 - (intOf iv).toNat)
  case atStart => exact ⟨0, w1.heap.size, 0, 0, 0, Nat.zero_le _, rfl, rfl, rfl, rfl, Lib.hid rfl, HO0.out, HB0.out, HK0.out⟩
  case round =>
    obtain ⟨k, g, c, T, R, hk, rfl, rfl, rfl, rfl, HP, hO, hb, hK⟩ := hrel
    rename World => wr
    have HO := Lib.hid hO
    have HB := Lib.hid hb
    have HK := Lib.hid hK
    have hk8 : k ≤ 4 := by have := HLN.out; omega
    by_cases hlt : k < L.length
    · obtain ⟨b, rfl, hc⟩ := HR.out wr hK k hlt
      have c0 : wr.cell? ⟨b, k, none⟩ = some (.int .i64 L[k]) := by have := hc 0 (by omega); rw [Nat.mul_one] at this; exact this
      have hx := HDB.out _ (List.getElem_mem hlt)
      have hok := okR_at (by have := HLN.out; omega) HDB.out k hk
      have hst := rtS_take L k hlt
      have hrt := rtP_take L k hlt
      rw [HP.out] at hok hst hrt
      obtain ⟨x, hxe⟩ : ∃ x, L[k] = x := ⟨_, rfl⟩
      rw [hxe] at c0 hx hst hrt
      obtain ⟨H, N, A, E, V, T2, G, e1, e2, e3, e4, e5, e6, e7, e8, e9⟩ := root_facts hok.1 hok.2 hx
      rw [e8] at hst
      rw [e9] at hrt
      have HST := Lib.hid hst
      have HRT := Lib.hid hrt
      have HD := Lib.hid e7
      have z1 : (0 : Int) ≤ (k : Int) := by omega
      have z2 : (k : Int) < (L.length : Int) := by omega
      clear hst hrt hc hO hb hK hxe e7 e8 e9 hok hx
      go_wp2_with fail
      go_loopw [10] (fun dv wq => ∃ (d : Nat), d ≤ 9 ∧ G ≤ d ∧ dv = .int .i64 (d : Int) ∧ wq = wr) (fun dv _ => (intOf dv).toNat)
      case atStart => exact ⟨9, Nat.le_refl _, e6, rfl, rfl⟩
      case round =>
        obtain ⟨d, hd9, hdG, rfl, hwq⟩ := hrel
        subst hwq
        obtain ⟨B, C, f1, f2, f3, f4⟩ := HD.out d (by omega)
        by_cases hq : d ≤ G
        · obtain rfl : d = G := by omega
          have z3 := f3.2 hq
          have z4 : ¬ N < C := by omega
          have z5 := f4 rfl
          clear f3 f4
          go_wp2_with (at_builtin; refine wpList_push (wr := wr) rfl _ _ 27 rfl w.heap.size w.heap.size w1.heap.size w 31 i0 (.agg #[.int .i64 0, .int .i64 0, .int .i64 0]) 3 24 Try.underlying27 hi hz0 hz1 hz2 rfl (by decide) g k c (flatC trC (rtS (L.take k))) [.int .i64 N, .int .i64 (d : Int), .int .i64 V] rfl rfl rfl ?c1 ?c2 (by decide) HO.out HB.out ?_)
          case c1 => first | rfl | exact ⟨rfl, rfl⟩ | exact ⟨rfl, rfl, rfl⟩ | (intro u hu; simp only [List.mem_cons, List.not_mem_nil, or_false] at hu; rcases hu with rfl | rfl | rfl <;> rfl)
          case c2 => omega
          intro g3 c3 w3 hO3 hB3 hK3
          have HO3 : Hid (OutA w.heap.size w.heap.size w1.heap.size w3 31 3 g3 (k + 1) c3 (flatC trC (rtS (L.take (k + 1))))) := Lib.hid (by rw [HST.out, flatC_app]; exact hO3)
          have HB3 := Lib.hid hB3
          have HK3 := Lib.hid (HK.out.trans hK3)
          clear hO3 hB3 hK3 c0
          go_wp2_with fail
          go_roundw
          case rel => exact ⟨k + 1, g3, c3, T2, V, by omega, by go_num, rfl, rfl, rfl, HRT, HO3.out, HB3.out, HK3.out⟩
          case measure => simp [intOf]; omega
        · have z3 := mt f3.1 hq
          have z4 : N < C := by omega
          clear f3 f4
          go_wp2_with fail
          go_roundw
          case rel => exact ⟨d - 1, by omega, by omega, by go_num, trivial⟩
          case measure => simp [intOf]; omega
    · obtain rfl : k = L.length := by omega
      have HE : Hid (wr.ownsRow w.heap.size 31 3 (.slice (some ⟨g, 0, none⟩) L.length c) L.length (flatC trC (rtS L))) := Lib.hid (by have h1 := hO.own; rw [List.take_length] at h1; exact h1)
      clear hO hb hK
      go_wp2_with fail
      go_ret2
      exact ⟨⟨_, _, rfl, HE.out⟩, HB.out⟩
set_option maxRecDepth 100000 in
set_option maxHeartbeats 800000 in
theorem speRootSteps_yes (m : Nat) (w : World) (hm : m ≤ 99999999) :
    Calls Try.prog 19 #[.int .i64 (m : Int)] w fun e w' => (∃ sq, e = .returned (.tuple #[sq, .bool true]) ∧ RowsR 3 trC w' sq (rtS (dgB 100 m))) ∧ Below w.heap.size w w' := by
  have HOK : Hid (okN (m : Int)) := Lib.hid ⟨by omega, by omega⟩
  go_enter Try.func19, Try.ntmps19
  go_wp2_with fail
  refine (l12Good_yes _ w HOK.out).mono ?_
  rintro e w2 ⟨rfl, rfl⟩
  go_wp2_with fail
  refine (l12Steps_any m w hm).mono ?_
  rintro e w2 ⟨⟨sq, z, rfl, ho⟩, hb2⟩
  have HO := Lib.hid ho
  have HB := Lib.hid hb2
  clear ho hb2
  go_wp2_with fail
  go_ret2
  exact ⟨⟨_, rfl, RowsR.of_own trC_len HO.out⟩, HB.out⟩
set_option maxRecDepth 100000 in
set_option maxHeartbeats 800000 in
theorem speRootSteps_no (a : Int) (w : World) (h : ¬ okN a) :
    Calls Try.prog 19 #[.int .i64 a] w fun e w' => (∃ sq, e = .returned (.tuple #[sq, .bool false]) ∧ RowsR 3 trC w' sq []) ∧ Below w.heap.size w w' := by
  go_enter Try.func19, Try.ntmps19
  go_wp2_with fail
  refine (l12Good_no _ w h).mono ?_
  rintro e w2 ⟨rfl, rfl⟩
  go_wp2_with fail
  go_ret2
  exact ⟨⟨_, rfl, ⟨_, 0, rfl, ⟨Nat.zero_le _, Nat.le_refl _⟩, fun h => absurd h (by simp)⟩⟩, (Below.refl _ _).alloc (Nat.le_refl _) _⟩
end Go.Proofs.Ytlfplnbmgmookaa
