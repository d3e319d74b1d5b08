/- The program's ChangeOf. -/
import Derived.Test.YtmkocinknhaniaaKi
import Derived.Test.YtmkocinknhaniaaKj
import Derived.Test.YtmkocinknhaniaaIScal
namespace Go.Proofs.Ytmkocinknhaniaa
set_option linter.unusedVariables false
open Go.RowKit

theorem numF_from (rs : List (Int × Int)) : ∀ a : Int, rs.foldl (fun n r => 10 * n + valF r) a = a * 10 ^ rs.length + numF rs := by
  induction rs with
  | nil => intro a; simp [numF]
  | cons r t ih =>
    intro a
    show t.foldl _ (10 * a + valF r) = _
    rw [ih]
    have h0 : numF (r :: t) = t.foldl (fun n r => 10 * n + valF r) (10 * 0 + valF r) := rfl
    rw [h0, ih, List.length_cons, Int.pow_succ, Int.add_mul, Int.add_mul]
    have e1 : 10 * a * 10 ^ t.length = a * (10 ^ t.length * 10) := by rw [Int.mul_comm 10 a, Int.mul_assoc, Int.mul_comm 10]
    rw [e1]; simp; omega
theorem numF_mid (a b : List (Int × Int)) (r : Int × Int) : numF (a ++ r :: b) = (10 * numF a + valF r) * 10 ^ b.length + numF b := by
  have : numF (a ++ r :: b) = b.foldl (fun n r => 10 * n + valF r) (10 * numF a + valF r) := by unfold numF; rw [List.foldl_append]; rfl
  rw [this, numF_from]
theorem numF_set (rs : List (Int × Int)) (q : Nat) (hq : q < rs.length) (r : Int × Int) : numF (rs.set q r) = numF rs + (valF r - valF rs[q]) * 10 ^ (rs.length - 1 - q) := by
  have e1 : rs = rs.take q ++ rs[q] :: rs.drop (q + 1) := by rw [← List.drop_eq_getElem_cons hq, List.take_append_drop]
  have e2 : rs.set q r = rs.take q ++ r :: rs.drop (q + 1) := by rw [List.set_eq_take_append_cons_drop, if_pos hq]
  have h1 : numF rs = (10 * numF (rs.take q) + valF rs[q]) * 10 ^ (rs.drop (q + 1)).length + numF (rs.drop (q + 1)) := by
    conv => lhs; rw [e1]
    rw [numF_mid]
  rw [e2, numF_mid, h1, List.length_drop, show rs.length - (q + 1) = rs.length - 1 - q by omega, Int.add_mul, Int.add_mul, Int.sub_mul]
  omega
theorem numF_mov (rs : List (Int × Int)) (q p : Nat) (amt : Int) (hq : q < rs.length) (hp : p < 2) : numF (movF rs ⟨(q : Int), (p : Int), amt⟩) = numF rs + amt * worthN rs.length ⟨(q : Int), (p : Int), amt⟩ := by
  have hm : movF rs ⟨(q : Int), (p : Int), amt⟩ = rs.set q (movR rs[q] ⟨(q : Int), (p : Int), amt⟩) := by
    unfold movF
    show rs.set (q : Int).toNat (movR (rs.getD (q : Int).toNat (0, 0)) _) = _
    rw [Int.toNat_natCast, List.getD_eq_getElem?_getD, List.getElem?_eq_getElem hq]; rfl
  rw [hm, numF_set rs q hq]
  have hw : worthN rs.length ⟨(q : Int), (p : Int), amt⟩ = (if (p : Int) = 0 then 5 else 1) * 10 ^ (rs.length - 1 - q) := rfl
  rw [hw]
  have hv : valF (movR rs[q] ⟨(q : Int), (p : Int), amt⟩) - valF rs[q] = amt * (if (p : Int) = 0 then 5 else 1) := by
    unfold movR valF
    dsimp only
    split <;> dsimp only <;> omega
  rw [hv, Int.mul_assoc]
theorem movF_bd (rs : List (Int × Int)) (q p : Nat) (amt : Int) (hq : q < rs.length) (b : Int) (hb : ∀ i (h : i < rs.length), (-b ≤ rs[i].1 ∧ rs[i].1 ≤ b) ∧ (-b ≤ rs[i].2 ∧ rs[i].2 ≤ b)) (ha : -5 ≤ amt ∧ amt ≤ 5) :
    ∀ i (h : i < (movF rs ⟨(q : Int), (p : Int), amt⟩).length), (-(b + 5) ≤ (movF rs ⟨(q : Int), (p : Int), amt⟩)[i].1 ∧ (movF rs ⟨(q : Int), (p : Int), amt⟩)[i].1 ≤ b + 5) ∧ (-(b + 5) ≤ (movF rs ⟨(q : Int), (p : Int), amt⟩)[i].2 ∧ (movF rs ⟨(q : Int), (p : Int), amt⟩)[i].2 ≤ b + 5) := by
  have hm : movF rs ⟨(q : Int), (p : Int), amt⟩ = rs.set q (movR rs[q] ⟨(q : Int), (p : Int), amt⟩) := by
    unfold movF
    show rs.set (q : Int).toNat (movR (rs.getD (q : Int).toNat (0, 0)) _) = _
    rw [Int.toNat_natCast, List.getD_eq_getElem?_getD, List.getElem?_eq_getElem hq]; rfl
  rw [hm]
  intro i h
  rw [List.length_set] at h
  have h1 := hb i h
  by_cases e : i = q
  · subst e
    rw [List.getElem_set_self]
    unfold movR
    dsimp only
    split <;> dsimp only <;> omega
  · rw [List.getElem_set_ne (fun h => e h.symm)]
    omega
theorem numF_wide (rs : List (Int × Int)) (hl : rs.length ≤ 8) (hb : ∀ i (h : i < rs.length), (-300 ≤ rs[i].1 ∧ rs[i].1 ≤ 300) ∧ (-300 ≤ rs[i].2 ∧ rs[i].2 ≤ 300)) (k : Nat) (hk : k ≤ rs.length) : -1000000000000 ≤ numF (rs.take k) ∧ numF (rs.take k) ≤ 1000000000000 := by
  have key : ∀ k, k ≤ rs.length → -(200 * 10 ^ k) ≤ numF (rs.take k) - 200 ∧ numF (rs.take k) + 200 ≤ 200 * 10 ^ k := by
    intro k
    induction k with
    | zero => intro _; simp [numF]
    | succ k ih =>
      intro hk
      obtain ⟨i1, i2⟩ := ih (by omega)
      have h := hb k (by omega)
      rw [numF_snoc rs k (by omega), Int.pow_succ]
      unfold valF
      omega
  obtain ⟨h1, h2⟩ := key k hk
  have h3 := (pow_bd k (by omega)).2
  omega
theorem made_rods (n : Nat) : (madeCells #[.int .i64 0, .int .i64 0] (n * 2)).toList = flat (List.replicate n ((0 : Int), (0 : Int))) := by
  refine flat_of _ _ (by simp [madeCells]) fun j h => ?_
  rw [List.length_replicate] at h
  have e0 : j * 2 < n * 2 := by omega
  have e1 : j * 2 + 1 < n * 2 := by omega
  have m0 : j * 2 % 2 = 0 := by omega
  have m1 : (j * 2 + 1) % 2 = 1 := by omega
  exact ⟨by simp [madeCells, e0, m0], by simp [madeCells, e1, m1]⟩

set_option maxRecDepth 100000 in
set_option maxHeartbeats 3200000 in
theorem implChange_scan (v : Value) (ps : List Mv) (R : Nat) (w : World) (h : RowsR 3 mvC w v ps) (ho : okMs ps) (hR : 1 ≤ R ∧ R ≤ 8) (p : Nat) (hp : p ≤ ps.length) (hpre : ∀ i (h : i < ps.length), i < p → ps[i].rod < R) (hx : ∀ h : p < ps.length, ¬ ps[p].rod < R) (s : Int) (t : Bool) (hs1 : p < ps.length → s = 0 ∧ t = false) (hs2 : p = ps.length → s = chgI R ps ∧ t = true) :
    Calls Try.prog 15 #[v, .int .i64 R] w fun e w' => e = .returned (.tuple #[.int .i64 s, .bool t]) ∧ Below w.heap.size w w' := by
  obtain ⟨i0, hi, hz0, hz1, hz2⟩ := info_parts Try.infoRod
  have h60 := ho.2
  have HA := Lib.hid (areMoves_any v ps w h true ⟨fun _ => ho, fun _ => rfl⟩)
  obtain ⟨a, cp, rfl⟩ := h.form
  have R1 := Lib.hid h.at
  have HM := Lib.hid ho
  have HP := Lib.hid hpre
  have HX := Lib.hid hx
  have HS1 := Lib.hid hs1
  have HS2 := Lib.hid hs2
  obtain ⟨hR0, hR1⟩ := hR
  have hr1 : (1 : Int) ≤ (R : Int) := by omega
  have hr2 : (R : Int) ≤ 8 := by omega
  have hr3 : ¬ (R : Int) < 1 := by omega
  have hr4 : ¬ 8 < (R : Int) := by omega
  clear h ho hpre hx hs1 hs2
  have HB0 : Hid (Below w.heap.size w w) := Lib.hid (Below.refl _ _)
  go_enter Try.func15, Try.ntmps15
  go_wp2_with fail
  refine (HA.out).mono ?_
  rintro e w1 ⟨rfl, hb⟩
  have HB1 : Hid (Below w.heap.size w w1) := Lib.hid (HB0.out.trans (hb.mono HB0.out.size))
  have HZ1 : Hid (w.heap.size ≤ w1.heap.size) := Lib.hid hb.size
  clear hb
  go_wp2_with (at_make; refine wpList_make_full _ rfl _ _ 50 rfl w1.heap.size 62 i0 (.agg #[.int .i64 0, .int .i64 0]) 2 Try.underlying50 hi hz0 hz1 _ _ _ _ R rfl rfl rfl rfl ?b2 ?b3 (Nat.le_refl _) ?_)
  case b2 => rw [hz2]; omega
  case b3 => unfold maxLen; omega
  intro w2 hownm hgrowm
  have hb : Below w1.heap.size w1 w2 := (Below.refl _ _).grown hgrowm (Nat.le_refl _) (fun k h => by cases h)
  rw [made_rods R] at hownm
  clear hgrowm
  have HB2 : Hid (Below w.heap.size w w2) := Lib.hid (HB1.out.trans (hb.mono HB1.out.size))
  have HZ2 : Hid (w1.heap.size ≤ w2.heap.size) := Lib.hid hb.size
  clear hb
  have HOv2 := Lib.hid (Ow.mk' hownm)
  clear hownm
  go_wp2_with fail
  go_loopw [24] (fun i wr => ∃ (k : Nat) (rk : List (Int × Int)), k ≤ p ∧ i = .int .i64 k ∧ Hid (rk.length = R) ∧ Hid (numF rk = chgI R (ps.take k)) ∧ Hid (∀ i (h : i < rk.length), (-(5 * (k : Int)) ≤ rk[i].1 ∧ rk[i].1 ≤ 5 * k) ∧ (-(5 * (k : Int)) ≤ rk[i].2 ∧ rk[i].2 ≤ 5 * k)) ∧ Ow w1.heap.size wr.heap.size wr 62 2 (.slice (some ⟨w1.heap.size, 0, none⟩) R R) R (flat rk) ∧ Below w.heap.size w wr) (fun i _ => ps.length - (intOf i).toNat)
  case atStart => exact ⟨0, List.replicate R (0, 0), Nat.zero_le _, rfl, Lib.hid (by simp), Lib.hid (by
      show numF _ = 0
      have : ∀ n : Nat, numF (List.replicate n ((0 : Int), (0 : Int))) = 0 := by
        intro n
        induction n with
        | zero => rfl
        | succ n ih => show (List.replicate n ((0 : Int), (0 : Int))).foldl _ (10 * 0 + valF (0, 0)) = 0; rw [numF_from, ih]; simp [valF]
      exact this R), Lib.hid (fun i h => by simp), Ow.mk' HOv2.out.1, HB2.out⟩
  case round =>
    obtain ⟨k, rk, hk, rfl, HLR, HNF, HBD, how, hb⟩ := hrel
    have hlwr : w1.heap.size < wr.heap.size := (how.1.lt _ rfl).2
    by_cases hlt : k < ps.length
    · have z1 : (0 : Int) ≤ (k : Int) := by omega
      have z2 : (k : Int) < (ps.length : Int) := by omega
      obtain ⟨b2, o2, rfl, l1, k1⟩ := R1.out _ hb k hlt
      have p0 : wr.cell? ⟨b2, o2 + k * 3, none⟩ = some (.int .i64 ps[k].rod) := k1 0 (by omega)
      have p1 : wr.cell? ⟨b2, o2 + k * 3 + 1, none⟩ = some (.int .i64 ps[k].part) := k1 1 (by omega)
      have p2 : wr.cell? ⟨b2, o2 + k * 3 + 2, none⟩ = some (.int .i64 ps[k].amt) := k1 2 (by omega)
      have hok := HM.out.1 k hlt
      obtain ⟨⟨r0, r1⟩, ⟨t0, t1⟩, ⟨m0, m1⟩, mne⟩ := hok
      have HSN := Lib.hid (chg_snoc R ps k hlt)
      have HLP : Hid (k < p → ps[k].rod < R) := Lib.hid (HP.out k hlt)
      have HXP : Hid (k = p → ¬ ps[k].rod < R) := Lib.hid (by intro e; subst e; have := HX.out hlt; omega)
      generalize ps[k] = mk at p0 p1 p2 HSN HLP HXP r0 r1 t0 t1 m0 m1 mne
      obtain ⟨rod, part, x⟩ := mk
      obtain ⟨q, rfl⟩ : ∃ q : Nat, rod = (q : Int) := ⟨rod.toNat, by simp at r0; omega⟩
      obtain ⟨pt, rfl⟩ : ∃ p : Nat, part = (p : Int) := ⟨part.toNat, by simp at t0; omega⟩
      dsimp only at p0 p1 p2 r0 r1 t0 t1 m0 m1 mne HLP HXP
      have hp2 : pt < 2 := by omega
      clear k1 mne
      by_cases hkp : k < p
      · have hqr : q < R := by have := HLP.out hkp; omega
        have hqk : q < rk.length := by rw [HLR.out]; exact hqr
        have x1 : (q : Int) < (R : Int) := by omega
        have x2 : ¬ (R : Int) ≤ (q : Int) := by omega
        have x0 : (0 : Int) ≤ (q : Int) := by omega
        have x3 : (0 : Int) ≤ (pt : Int) := by omega
        have x4 : (pt : Int) < 2 := by omega
        obtain ⟨y, hy⟩ : ∃ y, pt2 rk[q] pt = y := ⟨_, rfl⟩
        have hyb : -300 ≤ y ∧ y ≤ 300 := by
          have h1 := HBD.out q hqk; rw [← hy]; unfold pt2; split <;> omega
        obtain ⟨y0, y1⟩ := hyb
        have hws : IntKind.i64.wrap (y + x) = y + x := by rw [IntKind.wrap_i64]; omega
        have HFL := Lib.hid (movF_flat rk q pt x hqk hp2)
        have HPT := Lib.hid (flat_pt rk q pt hqk hp2)
        have HNM := Lib.hid (numF_mov rk q pt x hqk hp2)
        have HMB := Lib.hid (movF_bd rk q pt x hqk (5 * (k : Int)) HBD.out ⟨m0, m1⟩)
        have HML : Hid ((movF rk ⟨(q : Int), (pt : Int), x⟩).length = R) := Lib.hid (by rw [movF_len]; exact HLR.out)
        rw [hy] at HFL HPT
        have HB20 : Hid (Below w.heap.size w wr) := Lib.hid hb
        have HOv20 := Lib.hid (how)
        clear hy hb how
        go_wp2_with fail
        have hb : Below wr.heap.size wr (wr.alloc (.cells #[.int .i64 q, .int .i64 pt, .int .i64 x] 40)) := (Below.refl _ _).alloc (Nat.le_refl _) _
        have hk : (wr.alloc (.cells #[.int .i64 q, .int .i64 pt, .int .i64 x] 40)).heap[wr.heap.size]? = some (.cells #[.int .i64 q, .int .i64 pt, .int .i64 x] 40 (0, 0)) := alloc_at rfl
        have hz : (wr.alloc (.cells #[.int .i64 q, .int .i64 pt, .int .i64 x] 40)).heap.size = wr.heap.size + 1 := by simp
        generalize wr.alloc (.cells #[.int .i64 q, .int .i64 pt, .int .i64 x] 40) = w21 at hb hk hz ⊢
        have HB21 : Hid (Below w.heap.size w w21) := Lib.hid (HB20.out.trans (hb.mono HB20.out.size))
        have HZ21 : Hid (wr.heap.size ≤ w21.heap.size) := Lib.hid hb.size
        have HOv21 := Lib.hid (HOv20.out.next hb)
        have HKm21 := Lib.hid hk
        replace HZ21 : Hid (wr.heap.size < w21.heap.size) := Lib.hid (by omega)
        have HE21 := Lib.hid hz
        clear hb hk hz
        have hd : w21.cell? ⟨w1.heap.size, q * 2 + pt, none⟩ = some (.int .i64 y) := (HOv21.out.1.cellAt (q * 2 + pt) (by omega)).trans HPT.out
        have ltm := lt_of_block HKm21.out
        obtain ⟨cm0, cm1, cm2, fm0, fm1, fm2⟩ := cell3 HKm21.out
        go_still_tail 13, (by kernel_rfl)
        change wpList _ _ _ _ _ w21.drew
        have hb : Below w21.heap.size w21 w21.drew := (Below.refl _ _).drew
        generalize w21.drew = w22 at hb ⊢
        clear hd
        have HB22 : Hid (Below w.heap.size w w22) := Lib.hid (HB21.out.trans (hb.mono HB21.out.size))
        have HZ22 : Hid (w21.heap.size ≤ w22.heap.size) := Lib.hid hb.size
        have HOv22 := Lib.hid (HOv21.out.next hb)
        have HKm22 := Lib.hid ((hb.block _ (lt_of_block HKm21.out)).trans HKm21.out)
        clear hb
        have hd : w22.cell? ⟨w1.heap.size, q * 2 + pt, none⟩ = some (.int .i64 y) := (HOv22.out.1.cellAt (q * 2 + pt) (by omega)).trans HPT.out
        have hfr := HOv22.out.1.frozenAt (q * 2 + pt)
        have hv := HOv22.out.stored (q * 2 + pt) (.int .i64 (y + x))
        have hm : Btw w1.heap.size (w1.heap.size + 1) w22 (w22.setCell ⟨w1.heap.size, q * 2 + pt, none⟩ (.int .i64 (y + x))) := (Btw.refl w1.heap.size (w1.heap.size + 1) w22).setCell (p := ⟨w1.heap.size, q * 2 + pt, none⟩) (Nat.le_refl _) (Nat.lt_succ_self _) _
        clear cm0 cm1 cm2 fm0 fm1 fm2 ltm
        have ltm := lt_of_block HKm22.out
        obtain ⟨cm0, cm1, cm2, fm0, fm1, fm2⟩ := cell3 HKm22.out
        go_wp2_with fail
        clear hd hfr
        generalize w22.setCell ⟨w1.heap.size, q * 2 + pt, none⟩ (.int .i64 (y + x)) = w23 at hm hv ⊢
        have hw1 : w.heap.size ≤ w1.heap.size := HB1.out.size
        have HZ23 : Hid (w22.heap.size ≤ w23.heap.size) := Lib.hid hm.size
        have HB23 : Hid (Below w.heap.size w w23) := Lib.hid (HB22.out.trans (hm.below.mono (by have := HZ21.out; have := HZ22.out; have := HB20.out.size; omega)))
        have HKm23 := Lib.hid ((hm.block _ (by have := lt_of_block HKm22.out; have := HZ21.out; have := HZ22.out; omega)).trans HKm22.out)
        clear hm
        have HOv23 := Lib.hid (hv)
        clear hv
        go_roundw
        case rel =>
          refine ⟨k + 1, movF rk ⟨(q : Int), (pt : Int), x⟩, by omega, by go_num, HML, Lib.hid ?_, Lib.hid ?_, ?_, HB23.out⟩
          · rw [HNM.out, HNF.out, HLR.out, HSN.out]
          · have := HMB.out
            intro i h
            have := this i h
            omega
          · rw [← HFL.out]; exact Ow.mk' HOv23.out.1
        case measure => simp [intOf]; omega
      · have hke : k = p := by omega
        have x1 : (R : Int) ≤ (q : Int) := by have := HXP.out hke; omega
        have HE := HS1.out (by omega)
        obtain ⟨rfl, rfl⟩ := HE
        have HB := Lib.hid hb
        clear hb how hke
        go_wp2_with fail
        go_ret2
        exact ⟨rfl, HB.out.alloc HB.out.size _⟩
    · have HE := HS2.out (by omega)
      have HQ : Hid (s = numF rk) := Lib.hid (by rw [HE.1, HNF.out, List.take_of_length_le (by omega)])
      obtain ⟨HE1, rfl⟩ := HE
      clear HE1
      have HB := Lib.hid hb
      have HRR : Hid (RodsR wr (.slice (some ⟨w1.heap.size, 0, none⟩) R R) rk) := Lib.hid (RodsR.of_own (own_relen HLR.out how.1))
      clear hb how
      go_wp2_with fail
      refine (numberOf_any _ rk _ HRR.out (fun i h => by have := HBD.out i h; omega) (numF_wide rk (by rw [HLR.out]; omega) (fun i h => by have := HBD.out i h; omega))).mono ?_
      rintro e w9 ⟨rfl, hb9⟩
      have HB9 := Lib.hid (HB.out.trans (hb9.mono HB.out.size))
      clear hb9
      go_wp2_with fail
      go_ret2
      exact ⟨ret_int2 HQ.out.symm, HB9.out⟩
set_option maxRecDepth 100000 in
set_option maxHeartbeats 800000 in
theorem implChange_any (v : Value) (ps : List Mv) (R : Int) (w : World) (h : RowsR 3 mvC w v ps) (s : Int) (t : Bool) (hc : ChF ps R s t) :
    Calls Try.prog 15 #[v, .int .i64 R] w fun e w' => e = .returned (.tuple #[.int .i64 s, .bool t]) ∧ Below w.heap.size w w' := by
  by_cases hR : 1 ≤ R ∧ R ≤ 8
  · by_cases ho : okMs ps
    · obtain ⟨n, rfl⟩ : ∃ n : Nat, R = (n : Int) := ⟨R.toNat, by omega⟩
      obtain ⟨p, hp, hpre, hx⟩ := first_bad ps.length (fun i _ => ps[i].rod < n)
      refine implChange_scan v ps n w h ho (by omega) p hp hpre hx s t (fun hlt => ?_) (fun he => ?_)
      · rcases hc with ⟨_, _, h3, _⟩ | ⟨_, h1, h2⟩
        · exact absurd (h3 p hlt) (hx hlt)
        · exact ⟨h1, h2⟩
      · rcases hc with ⟨_, _, _, h4, h5⟩ | ⟨h0, _⟩
        · exact ⟨by rw [h4, Int.toNat_natCast], h5⟩
        · exact absurd ⟨ho, hR, fun k hk => hpre k hk (by omega)⟩ h0
    · have HST : Hid (s = 0 ∧ t = false) := Lib.hid (by rcases hc with ⟨h2, _⟩ | ⟨_, h1, h2⟩; exact absurd h2 ho; exact ⟨h1, h2⟩)
      obtain ⟨rfl, rfl⟩ := HST.out
      have HA := Lib.hid (areMoves_any v ps w h false ⟨fun e => by simp at e, fun e => absurd e ho⟩)
      obtain ⟨r1, r2⟩ := hR
      have r3 : ¬ R < 1 := by omega
      have r4 : ¬ 8 < R := by omega
      clear hc h ho
      go_enter Try.func15, Try.ntmps15
      go_wp2_with fail
      refine HA.out.mono ?_
      rintro e w2 ⟨rfl, hb⟩
      have HB := Lib.hid hb
      clear hb
      go_wp2_with fail
      go_ret2
      exact ⟨rfl, HB.out⟩
  · have HST : Hid (s = 0 ∧ t = false) := Lib.hid (by rcases hc with ⟨_, h2, _⟩ | ⟨_, h1, h2⟩; exact absurd h2 hR; exact ⟨h1, h2⟩)
    obtain ⟨rfl, rfl⟩ := HST.out
    clear hc h
    by_cases h1 : R < 1
    · clear hR
      go_enter Try.func15, Try.ntmps15
      go_wp2_with fail
      go_ret2
      exact ⟨rfl, Below.refl _ _⟩
    · have h8 : 8 < R := by omega
      clear hR
      go_enter Try.func15, Try.ntmps15
      go_wp2_with fail
      go_ret2
      exact ⟨rfl, Below.refl _ _⟩
end Go.Proofs.Ytmkocinknhaniaa
