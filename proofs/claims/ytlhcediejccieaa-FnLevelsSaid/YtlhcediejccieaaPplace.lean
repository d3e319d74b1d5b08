/- All pupils placed: the model's, the program's. -/
import Derived.Test.YtlhcediejccieaaPcls
import Derived.Test.YtlhcediejccieaaAppn
namespace Go.Proofs.Ytlhcediejccieaa
set_option linter.unusedVariables false
open Go.RowKit

theorem okL_lt {ps : List Pu} (h : okL ps) : ∀ (d j : Nat) (hi : j + d + 1 < ps.length), ps[j].id < ps[j + d + 1].id
  | 0, j, hi => by have := (h.1 (j + 1) hi).2 (by omega); simpa using this
  | d + 1, j, hi => by
    have h1 := okL_lt h d j (by omega)
    have h2 := (h.1 (j + d + 1 + 1) (by omega)).2 (by omega)
    simp only [Nat.add_sub_cancel] at h2
    exact Int.lt_trans h1 (by simpa [Nat.add_assoc] using h2)
theorem okL_fnd {ps : List Pu} (h : okL ps) (i : Nat) (hi : i < ps.length) : fndAt ps ps[i].id i := by
  refine ⟨hi, rfl, fun j hj hji e => ?_⟩
  obtain ⟨d, rfl⟩ : ∃ d, i = j + d + 1 := ⟨i - j - 1, by omega⟩
  have := okL_lt h d j hi
  omega
theorem clsF_mem {ps : List Pu} {k : Nat} {hk : k < ps.length} : ∀ {n xs}, ClsF ps k hk n xs → ∀ c ∈ xs, okL (put ps k hk c)
  | 0, _, h, c, hc => by rw [show _ = [] from h] at hc; cases hc
  | n + 1, xs, ⟨u, h1, h1'⟩, c, hc => by
    rcases h1' with ⟨ho, rfl⟩ | ⟨_, rfl⟩
    · rcases List.mem_append.1 hc with hc | hc
      · exact clsF_mem h1 c hc
      · rw [List.mem_singleton.1 hc]; exact ho
    · exact clsF_mem h1 c hc
/-- What holds after i pupils: the list, how many are left. -/
def PlcF (ps : List Pu) : Nat → List Pu → Nat → Prop
  | 0, out, n => out = ps ∧ n = 0
  | i + 1, out', n' => ∃ out n, PlcF ps i out n ∧ ∃ h : i < out.length, (out[i].cls ≠ 0 ∧ out' = out ∧ n' = n) ∨ (out[i].cls = 0 ∧ ∃ xs, ClsF out i h 9 xs ∧ ((xs = [] ∧ out' = out ∧ n' = n + 1) ∨ ∃ c rest, xs = c :: rest ∧ out' = put out i h c ∧ n' = n))
theorem plcF_inv {ps : List Pu} (ho : okL ps) : ∀ {i out n}, PlcF ps i out n → okL out ∧ out.length = ps.length ∧ n ≤ i ∧ ∀ j (h1 : j < out.length) (h2 : j < ps.length), i ≤ j → out[j] = ps[j]
  | 0, _, _, ⟨h1, h2⟩ => by subst h1 h2; exact ⟨ho, rfl, Nat.le_refl _, fun _ _ _ _ => rfl⟩
  | i + 1, out', n', ⟨out, n, hp, h, hc⟩ => by
    obtain ⟨i1, i2, i3, i4⟩ := plcF_inv ho hp
    rcases hc with ⟨_, rfl, rfl⟩ | ⟨_, xs, hx, ⟨_, rfl, rfl⟩ | ⟨c, rest, rfl, rfl, rfl⟩⟩
    · exact ⟨i1, i2, by omega, fun j h1 h2 hj => i4 j h1 h2 (by omega)⟩
    · exact ⟨i1, i2, by omega, fun j h1 h2 hj => i4 j h1 h2 (by omega)⟩
    · refine ⟨clsF_mem hx c (by simp), by unfold put; rw [List.length_set]; exact i2, by omega, fun j h1 h2 hj => ?_⟩
      have hj' : j < out.length := by omega
      rw [← i4 j hj' h2 (by omega)]
      unfold put
      exact List.getElem_set_ne (by omega) _
theorem plcF_ex {ps : List Pu} (ho : okL ps) : ∀ i, i ≤ ps.length → ∃ out n, PlcF ps i out n
  | 0, _ => ⟨ps, 0, rfl, rfl⟩
  | i + 1, hi => by
    obtain ⟨out, n, hp⟩ := plcF_ex ho i (by omega)
    have hl := (plcF_inv ho hp).2.1
    have h : i < out.length := by omega
    by_cases hc : out[i].cls = 0
    · obtain ⟨xs, hx⟩ := clsF_ex out i h 9
      cases hxs : xs with
      | nil => exact ⟨out, n + 1, out, n, hp, h, .inr ⟨hc, xs, hx, .inl ⟨hxs, rfl, rfl⟩⟩⟩
      | cons c rest => exact ⟨_, n, out, n, hp, h, .inr ⟨hc, xs, hx, .inr ⟨c, rest, hxs, rfl, rfl⟩⟩⟩
    · exact ⟨out, n, out, n, hp, h, .inl ⟨hc, rfl, rfl⟩⟩
theorem plcF_one {ps : List Pu} : ∀ {i o1 n1 o2 n2}, PlcF ps i o1 n1 → PlcF ps i o2 n2 → o1 = o2 ∧ n1 = n2
  | 0, _, _, _, _, ⟨h1, h2⟩, ⟨h3, h4⟩ => ⟨h1.trans h3.symm, h2.trans h4.symm⟩
  | i + 1, _, _, _, _, ⟨oa, na, pa, ha, ca⟩, ⟨ob, nb, pb, hb, cb⟩ => by
    obtain ⟨e1, e2⟩ := plcF_one pa pb
    subst e1 e2
    rcases ca with ⟨a1, rfl, rfl⟩ | ⟨a1, xs, hx, a2⟩ <;> rcases cb with ⟨b1, rfl, rfl⟩ | ⟨b1, ys, hy, b2⟩
    · exact ⟨rfl, rfl⟩
    · exact absurd b1 a1
    · exact absurd a1 b1
    · have e := clsF_one hx hy
      subst e
      rcases a2 with ⟨rfl, rfl, rfl⟩ | ⟨c, rest, rfl, rfl, rfl⟩ <;> rcases b2 with ⟨h, rfl, rfl⟩ | ⟨c', rest', h, rfl, rfl⟩
      · exact ⟨rfl, rfl⟩
      · cases h
      · cases h
      · injection h with h1 h2
        subst h1
        exact ⟨rfl, rfl⟩
theorem cls_hs {ps : List Pu} (h : okL ps) : ∀ p ∈ ps, p.name.size ≤ maxLen := by
  intro p hp
  obtain ⟨j, hj, rfl⟩ := List.getElem_of_mem hp
  have := (h.1 j hj).1.2.1.2.2
  unfold maxLen; omega
theorem put_len (ps : List Pu) (k : Nat) (hk : k < ps.length) (c : Int) : (put ps k hk c).length = ps.length := by unfold put; simp

set_option maxRecDepth 100000 in
set_option maxHeartbeats 800000 in
theorem specPlace_no (v : Value) (ps : List Pu) (w : World) (h : RowsR 5 puC w v ps) (hs : ∀ p ∈ ps, p.name.size ≤ maxLen) (hl : ps.length ≤ 1048576) (hn : ¬ okL ps) :
    Calls Try.prog 26 #[v] w fun e w' => (∃ sq, e = .returned (.tuple #[sq, .int .i64 0, .bool false]) ∧ w'.ownsRow w.heap.size 38 5 sq ([] : List Pu).length (flatC puC [])) ∧ Below w.heap.size w w' := by
  have HC := Lib.hid (l3Good_no v ps w h hs hl hn)
  clear h hs hn
  go_enter Try.func26, Try.ntmps26
  go_wp2_with fail
  refine HC.out.mono ?_
  rintro e w2 ⟨rfl, hb2⟩
  have HB := Lib.hid hb2
  clear hb2
  go_wp2_with fail
  exact bodyPost_ret (v := .tuple #[.slice (some ⟨w2.heap.size, 0, none⟩) 0 0, .int .i64 0, .bool false]) (by simp [results, Try.results26, go_sem]) rfl ⟨⟨_, rfl, World.ownsRow_made (base := w.heap.size) (e := 38) (size := 5) _ #[] 0 HB.out.size (Nat.zero_le _) (by simp)⟩, HB.out.alloc HB.out.size _⟩
set_option maxRecDepth 100000 in
set_option maxHeartbeats 800000 in
theorem implPlace_no (v : Value) (ps : List Pu) (w : World) (h : RowsR 5 puC w v ps) (hs : ∀ p ∈ ps, p.name.size ≤ maxLen) (hn : ¬ okL ps) :
    Calls Try.prog 25 #[v] w fun e w' => (∃ sq, e = .returned (.tuple #[sq, .int .i64 0, .bool false]) ∧ w'.ownsRow w.heap.size 38 5 sq ([] : List Pu).length (flatC puC [])) ∧ Below w.heap.size w w' := by
  have HC := Lib.hid (iGood_no v ps w h hs hn)
  clear h hs hn
  go_enter Try.func25, Try.ntmps25
  go_wp2_with fail
  refine HC.out.mono ?_
  rintro e w2 ⟨rfl, hb2⟩
  have HB := Lib.hid hb2
  clear hb2
  go_wp2_with fail
  exact bodyPost_ret (v := .tuple #[.slice (some ⟨w2.heap.size, 0, none⟩) 0 0, .int .i64 0, .bool false]) (by simp [results, Try.results25, go_sem]) rfl ⟨⟨_, rfl, World.ownsRow_made (base := w.heap.size) (e := 38) (size := 5) _ #[] 0 HB.out.size (Nat.zero_le _) (by simp)⟩, HB.out.alloc HB.out.size _⟩
set_option maxRecDepth 100000 in
set_option maxHeartbeats 3200000 in
theorem specPlace_loop (v : Value) (ps qs : List Pu) (nn : Nat) (w : World) (h : RowsR 5 puC w v ps) (ho : okL ps) (hq : PlcF ps ps.length qs nn) :
    Calls Try.prog 26 #[v] w fun e w' => (∃ sq, e = .returned (.tuple #[sq, .int .i64 (nn : Int), .bool true]) ∧ w'.ownsRow w.heap.size 38 5 sq qs.length (flatC puC qs)) ∧ Below w.heap.size w w' := by
  obtain ⟨i0, hi, hz0, hz1, hz2⟩ := info_parts Try.infoPupil
  have hl := okL_len ho
  have HC := Lib.hid (l3Good_yes v ps w h (cls_hs ho) (by omega) ho)
  obtain ⟨a, cp, rfl⟩ := h.form
  have HOK := Lib.hid ho
  have HQ := Lib.hid hq
  have hsrc := h.src puC_len (by omega)
  clear h ho hq
  go_enter Try.func26, Try.ntmps26
  go_wp2_with fail
  refine HC.out.mono ?_
  rintro e w2 ⟨rfl, hb2⟩
  have HB := Lib.hid hb2
  clear hb2
  have HSRC : Hid ((a = none ∧ ps = []) ∨ ∃ ad, a = some ad ∧ ∀ w', Below w.heap.size w w' → ∀ j u, (flatC puC ps)[j]? = some u → w'.cell? (ad.add j) = some u) := Lib.hid hsrc
  clear hsrc
  go_wp2_with (at_builtin; refine wpList_append_src rfl _ _ 24 rfl w2.heap.size 38 i0 (.agg #[.int .i64 0, .string ⟨#[]⟩, .int .i64 0, .int .i64 0, .int .i64 0]) 5 48 Try.underlying24 hi hz0 hz1 hz2 rfl (by decide) puC_len puC_one w2.heap.size rfl (World.ownsRow_made w2 #[] 0 (Nat.le_refl _) (Nat.zero_le _) (by simp)) a cp ps rfl ?qc1 ?qc4 ?qc5 ?qc6 ?_)
  case qc1 =>
    rcases HSRC.out with h | ⟨ad, h1, h2⟩
    · exact .inl h
    · exact .inr ⟨ad, h1, h2 _ (HB.out.alloc HB.out.size _)⟩
  case qc4 => unfold maxLen; omega
  case qc5 => omega
  case qc6 => simp
  intro v' w3 hown hgrow
  have HO := Lib.hid hown
  have HB3 := Lib.hid ((HB.out.alloc HB.out.size _).grown hgrow (by have := HB.out.size; simp; omega) (by intro k hk; simp at hk; have := HB.out.size; omega))
  clear hown hgrow
  go_wp2_with fail
  go_loopw [5, 6, 7] (fun sv n i wr => ∃ (k : Nat) (out : List Pu) (m : Nat), k ≤ ps.length ∧ i = .int .i64 k ∧ n = .int .i64 (m : Int) ∧ m ≤ k ∧ out.length = ps.length ∧ Hid (PlcF ps k out m) ∧ wr.ownsRow w.heap.size 38 5 sv out.length (flatC puC out) ∧ Below w.heap.size w wr) (fun _ _ i _ => ps.length - (intOf i).toNat)
  case atStart => exact ⟨0, ps, 0, Nat.zero_le _, rfl, rfl, Nat.le_refl _, rfl, Lib.hid ⟨rfl, rfl⟩, own_mono HO.out HB.out.size, HB3.out⟩
  case round =>
    obtain ⟨k, out, m, hk, rfl, rfl, hmk, hol, HP, hown, hb⟩ := hrel
    have HB4 := Lib.hid hb
    have HO4 := Lib.hid hown
    have HOL := Lib.hid hol
    obtain ⟨oa, oc, rfl⟩ := own_form hown
    by_cases hlt : k < ps.length
    · have hko : k < out.length := by omega
      have io := (plcF_inv HOK.out HP.out).1
      have HIO := Lib.hid io
      have hol12 : out.length ≤ 12 := by omega
      have hRR := RowsR.of_own puC_len hown
      have R4 := Lib.hid hRR.at
      have HRR := Lib.hid hRR
      obtain ⟨b1, o1, rfl, l1, k1⟩ := R4.out _ (Below.refl _ _) k hko
      have p0 : wr.cell? ⟨b1, o1 + k * 5, none⟩ = some (.int .i64 out[k].id) := k1 0 (by omega)
      have p3 : wr.cell? ⟨b1, o1 + k * 5 + 3, none⟩ = some (.int .i64 out[k].cls) := k1 3 (by omega)
      have p4 : wr.cell? ⟨b1, o1 + k * 5 + 4, none⟩ = some (.int .i64 out[k].lvl) := k1 4 (by omega)
      have z1 : (0 : Int) ≤ (k : Int) := by omega
      have z2 : (k : Int) < (out.length : Int) := by omega
      have hcb := okL_cls io k hko
      clear k1 io hRR hb hown hol
      by_cases hc0 : out[k].cls = 0
      · obtain ⟨xs, hx⟩ := clsF_ex out k hko 9
        have hxl := clsF_len hx
        have HX := Lib.hid hx
        have HC0 := Lib.hid hc0
        have HCL := Lib.hid (specCls_yes _ out out[k].id wr HRR.out (cls_hs HIO.out) HIO.out k (okL_fnd HIO.out k hko) hko xs hx)
        have hcg : decide (0 < out[k].cls) = false := decide_eq_false (by omega)
        have HW := Lib.hid (fun (c : Int) w' (hb : Below wr.heap.size wr w') => l3With_any _ out w' (HRR.out.below hb (Nat.le_refl _)) (by omega) k hko c out[k].lvl)
        clear hc0 hcb hx
        go_wp2_with fail
        refine HCL.out.mono ?_
        rintro e w5 ⟨⟨sq, rfl, ho5⟩, hb5⟩
        have HB5 : Hid (Below w.heap.size w w5) := Lib.hid (HB4.out.trans (hb5.mono HB4.out.size))
        have HO5 := Lib.hid (own_below HO4.out hb5)
        have HBB := Lib.hid hb5
        have p5 : w5.cell? ⟨b1, o1 + k * 5 + 4, none⟩ = some (.int .i64 out[k].lvl) := (hb5.cell (p := ⟨b1, _, none⟩) l1).trans p4
        have l5 : b1 < w5.heap.size := Nat.lt_of_lt_of_le l1 hb5.size
        clear hb5 p0 p3 p4 hcg
        cases xs with
        | nil =>
          obtain ⟨ia, ic, rfl⟩ := own_form ho5
          have HN : Hid (PlcF ps (k + 1) out (m + 1)) := Lib.hid ⟨out, m, HP.out, hko, .inr ⟨HC0.out, [], HX.out, .inl ⟨rfl, rfl, rfl⟩⟩⟩
          clear ho5
          go_wp2_with fail
          go_roundw
          case rel => exact ⟨k + 1, out, m + 1, by omega, by go_num, by go_num, by omega, HOL.out, HN, HO5.out, HB5.out⟩
          case measure => simp [intOf]; omega
        | cons c rest =>
          have HN : Hid (PlcF ps (k + 1) (put out k hko c) m) := Lib.hid ⟨out, m, HP.out, hko, .inr ⟨HC0.out, c :: rest, HX.out, .inr ⟨c, rest, rfl, rfl, rfl⟩⟩⟩
          have q0 : (flatC inC (c :: rest))[0]? = some (.int .i64 c) := rfl
          have hL0 : 0 < (c :: rest).length := by simp
          have hL9 : (c :: rest).length ≤ 9 := hxl
          generalize (c :: rest).length = L at ho5 hL0 hL9
          generalize flatC inC (c :: rest) = fl at ho5 q0
          obtain ⟨gi, ic, rfl⟩ := own_some ho5 hL0
          have lgi : gi < w5.heap.size := (ho5.lt gi rfl).2
          have p6 : w5.cell? ⟨gi, 0, none⟩ = some (.int .i64 c) := (ho5.cellAt 0 (by omega)).trans q0
          have hLb : ((L : Int) == 0) = false := by simp; omega
          have hL1 : (0 : Int) < (L : Int) := by omega
          clear ho5 q0 hxl HX
          go_wp2_with fail
          refine wp_region_held_drew (S := (fun w' => w'.cell? ⟨gi, 0, none⟩ = some (.int .i64 c) ∧ w'.cell? ⟨b1, o1 + k * 5 + 4, none⟩ = some (.int .i64 out[k].lvl))) (by kernel_rfl) (⟨p6, p5⟩) (fun hHeld => ?_)
          refine take1 (i := 0) (v := ?v1) (some 44) rfl rfl (by kernel_rfl) (by kernel_rfl) (by kernel_rfl) (fun _ _ _ h => h) (Or.inl ⟨by rfl, ?y1⟩) (by assumption) ?r1
          case y1 => (intro w hSw; (try dsimp only at hSw); go_simp; (first | done | with_reducible rfl))
          try simp only [Act.put, List.setIfInBounds_toArray, List.set_cons_zero, List.set_cons_succ]
          refine take1 (i := 1) (v := ?v2) (some 45) rfl rfl (by kernel_rfl) (by kernel_rfl) (by kernel_rfl) (fun _ _ _ h => h) (Or.inl ⟨by rfl, ?y2⟩) (by assumption) ?r2
          case y2 => (intro w hSw; (try dsimp only at hSw); go_simp; (first | done | with_reducible rfl))
          try simp only [Act.put, List.setIfInBounds_toArray, List.set_cons_zero, List.set_cons_succ]
          refine take1 (i := 2) (v := ?v3) (some 46) rfl rfl (by kernel_rfl) (by kernel_rfl) (by kernel_rfl) (fun _ _ _ h => h) (Or.inl ⟨by rfl, ?y3⟩) (by assumption) ?r3
          case y3 => (intro w hSw; (try dsimp only at hSw); go_simp; (first | done | with_reducible rfl))
          try simp only [Act.put, List.setIfInBounds_toArray, List.set_cons_zero, List.set_cons_succ]
          refine take1 (i := 3) (v := ?v4) (some 47) rfl rfl (by kernel_rfl) (by kernel_rfl) (by kernel_rfl) (fun _ _ _ h => h) (Or.inl ⟨by rfl, ?y4⟩) (by assumption) ?r4
          case y4 => (intro w hSw; (try dsimp only at hSw); go_simp; (first | done | with_reducible rfl))
          try simp only [Act.put, List.setIfInBounds_toArray, List.set_cons_zero, List.set_cons_succ]
          refine take1 (i := 4) (v := ?v5) (some 48) rfl rfl (by kernel_rfl) (by kernel_rfl) (by kernel_rfl) (fun _ _ _ h => h) (Or.inl ⟨by rfl, ?y5⟩) (by assumption) ?r5
          case y5 => (intro w hSw; (try dsimp only at hSw); go_simp; (first | done | with_reducible rfl))
          try simp only [Act.put, List.setIfInBounds_toArray, List.set_cons_zero, List.set_cons_succ]
          refine take1 (i := 5) (v := ?v6) (some 49) rfl rfl (by kernel_rfl) (by kernel_rfl) (by kernel_rfl) (fun _ _ _ h => h) (Or.inl ⟨by rfl, ?y6⟩) (by assumption) ?r6
          case y6 => (intro w hSw; (try dsimp only at hSw); go_simp; (first | done | with_reducible rfl))
          try simp only [Act.put, List.setIfInBounds_toArray, List.set_cons_zero, List.set_cons_succ]
          refine take1 (i := 6) (v := ?v7) (some 50) rfl rfl (by kernel_rfl) (by kernel_rfl) (by kernel_rfl) (fun _ _ _ h => h) (Or.inl ⟨by rfl, ?y7⟩) (by assumption) ?r7
          case y7 => (intro w hSw; (try dsimp only at hSw); go_simp; (first | done | with_reducible rfl))
          try simp only [Act.put, List.setIfInBounds_toArray, List.set_cons_zero, List.set_cons_succ]
          refine take1 (i := 7) (v := ?v8) (some 51) rfl rfl (by kernel_rfl) (by kernel_rfl) (by kernel_rfl) (fun _ _ _ h => h) (Or.inl ⟨by rfl, ?y8⟩) (by assumption) ?r8
          case y8 => (intro w hSw; (try dsimp only at hSw); go_simp; (first | done | with_reducible rfl))
          try simp only [Act.put, List.setIfInBounds_toArray, List.set_cons_zero, List.set_cons_succ]
          refine take1 (i := 8) (v := ?v9) (some 52) rfl rfl (by kernel_rfl) (by kernel_rfl) (by kernel_rfl) (fun _ _ _ h => h) (Or.inl ⟨by rfl, ?y9⟩) (by assumption) ?r9
          case y9 => (intro w hSw; (try dsimp only at hSw); go_simp; (first | done | with_reducible rfl))
          try simp only [Act.put, List.setIfInBounds_toArray, List.set_cons_zero, List.set_cons_succ]
          refine take1 (i := 9) (v := ?v10) (some 53) rfl rfl (by kernel_rfl) (by kernel_rfl) (by kernel_rfl) (fun _ _ _ h => h) (Or.inl ⟨by rfl, ?y10⟩) (by assumption) ?r10
          case y10 => (intro w hSw; (try dsimp only at hSw); go_simp; (first | done | with_reducible rfl))
          try simp only [Act.put, List.setIfInBounds_toArray, List.set_cons_zero, List.set_cons_succ]
          refine wpAnyH_ready (rs := [10]) (by kernel_rfl) (by simp) ?_
          refine AllReadyH.cons rfl (fun K hK => ?_) AllReadyH.nil
          go_simp
          go_at_call 42
          refine (HW.out c _ HBB.out.drew).mono ?_
          rintro e w6 ⟨⟨v6, rfl, hown⟩, hb'⟩
          have hb6 : Below w5.heap.size w5 w6 := Below.trans (Below.drew (Below.refl _ _)) hb'
          have HO6 := Lib.hid (own_relen' (put_len out k hko c) hown)
          clear hb' hown
          try go_simp
          refine hK.out _ _ (⟨(hb6.cell (p := ⟨gi, _, none⟩) lgi).trans p6, (hb6.cell (p := ⟨b1, _, none⟩) l5).trans p5⟩) (fun hHeld => ?_)
          clear hK K
          try simp only [Act.put, List.setIfInBounds_toArray, List.set_cons_zero, List.set_cons_succ]
          refine take1 (i := 11) (v := ?v11) (some 5) rfl rfl (by kernel_rfl) (by kernel_rfl) (by kernel_rfl) (fun _ _ _ h => h) (Or.inl ⟨by rfl, ?y11⟩) (by assumption) ?r11
          case y11 => (intro w hSw; (try dsimp only at hSw); go_simp; (first | done | with_reducible rfl))
          try simp only [Act.put, List.setIfInBounds_toArray, List.set_cons_zero, List.set_cons_succ]
          refine wpAnyH_done (by kernel_rfl) ?_ _
          have HB6 : Hid (Below w.heap.size w w6) := Lib.hid (HB5.out.trans (hb6.mono HB5.out.size))
          have HPL := Lib.hid (show (put out k hko c).length = ps.length by rw [put_len]; exact HOL.out)
          have HPL2 := Lib.hid (put_len out k hko c)
          clear hb6 p5 p6 hHeld
          go_wp2_with fail
          go_roundw
          case rel => exact ⟨k + 1, put out k hko c, m, by omega, by go_num, rfl, by omega, HPL.out, HN, own_mono HO6.out HB5.out.size, HB6.out⟩
          case measure => simp [intOf]; omega
      · have HN : Hid (PlcF ps (k + 1) out m) := Lib.hid ⟨out, m, HP.out, hko, .inl ⟨hc0, rfl, rfl⟩⟩
        have hcg : decide (0 < out[k].cls) = true := decide_eq_true (by omega)
        clear hc0 hcb
        go_wp2_with fail
        go_roundw
        case rel => exact ⟨k + 1, out, m, by omega, by go_num, rfl, by omega, HOL.out, HN, HO4.out, HB4.out⟩
        case measure => simp [intOf]; omega
    · obtain rfl : k = ps.length := by omega
      have HE : Hid (out = qs ∧ m = nn) := Lib.hid (plcF_one HP.out HQ.out)
      clear hb hown
      go_wp2_with fail
      exact bodyPost_ret (v := .tuple #[.slice oa out.length oc, .int .i64 (m : Int), .bool true]) (by simp [results, Try.results26, go_sem]) rfl ⟨⟨_, by rw [HE.out.2, HE.out.1], HE.out.1 ▸ HO4.out⟩, HB4.out⟩
set_option maxRecDepth 100000 in
set_option maxHeartbeats 3200000 in
theorem implPlace_loop (v : Value) (ps qs : List Pu) (nn : Nat) (w : World) (h : RowsR 5 puC w v ps) (ho : okL ps) (hq : PlcF ps ps.length qs nn) :
    Calls Try.prog 25 #[v] w fun e w' => (∃ sq, e = .returned (.tuple #[sq, .int .i64 (nn : Int), .bool true]) ∧ w'.ownsRow w.heap.size 38 5 sq qs.length (flatC puC qs)) ∧ Below w.heap.size w w' := by
  have hl := okL_len ho
  have HC := Lib.hid (iGood_yes v ps w h (cls_hs ho) ho)
  obtain ⟨a, cp, rfl⟩ := h.form
  have R1 := Lib.hid h.at
  have HR := Lib.hid h
  have HOK := Lib.hid ho
  have HQ := Lib.hid hq
  clear h ho hq
  go_enter Try.func25, Try.ntmps25
  go_wp2_with fail
  refine HC.out.mono ?_
  rintro e w2 ⟨rfl, hb2⟩
  have HB := Lib.hid hb2
  clear hb2
  go_wp2_with fail
  refine (clonePu_any _ ps w2 (HR.out.below HB.out (Nat.le_refl _)) (by omega)).mono ?_
  rintro e w3 ⟨⟨v', rfl, hown⟩, hb3⟩
  have HB3 : Hid (Below w.heap.size w w3) := Lib.hid (HB.out.trans (hb3.mono HB.out.size))
  obtain ⟨a5, c5, rfl⟩ := own_form hown
  have HO := Lib.hid (own_mono hown HB.out.size)
  clear hb3 hown
  go_wp2_with fail
  go_loopw [6, 19] (fun n i wr => ∃ (k : Nat) (out : List Pu) (m : Nat), k ≤ ps.length ∧ i = .int .i64 k ∧ n = .int .i64 (m : Int) ∧ m ≤ k ∧ out.length = ps.length ∧ Hid (PlcF ps k out m) ∧ wr.ownsRow w.heap.size 38 5 (.slice a5 ps.length c5) ps.length (flatC puC out) ∧ Below w.heap.size w wr) (fun _ i _ => ps.length - (intOf i).toNat)
  case atStart => exact ⟨0, ps, 0, Nat.zero_le _, rfl, rfl, Nat.le_refl _, rfl, Lib.hid ⟨rfl, rfl⟩, HO.out, HB3.out⟩
  case round =>
    obtain ⟨k, out, m, hk, rfl, rfl, hmk, hol, HP, hown, hb⟩ := hrel
    have HB4 := Lib.hid hb
    have HO4 := Lib.hid hown
    have HOL := Lib.hid hol
    by_cases hlt : k < ps.length
    · have hko : k < out.length := by omega
      have hinv := plcF_inv HOK.out HP.out
      have HIO := Lib.hid hinv.1
      have HEQ : Hid (out[k] = ps[k]) := Lib.hid (hinv.2.2.2 k hko hlt (Nat.le_refl _))
      have hcb := okL_cls HOK.out k hlt
      obtain ⟨b1, o1, rfl, l1, k1⟩ := R1.out _ hb k hlt
      have p0 : wr.cell? ⟨b1, o1 + k * 5, none⟩ = some (.int .i64 ps[k].id) := k1 0 (by omega)
      have p1 : wr.cell? ⟨b1, o1 + k * 5 + 1, none⟩ = some (.string ps[k].name) := k1 1 (by omega)
      have p2 : wr.cell? ⟨b1, o1 + k * 5 + 2, none⟩ = some (.int .i64 ps[k].born) := k1 2 (by omega)
      have p3 : wr.cell? ⟨b1, o1 + k * 5 + 3, none⟩ = some (.int .i64 ps[k].cls) := k1 3 (by omega)
      have p4 : wr.cell? ⟨b1, o1 + k * 5 + 4, none⟩ = some (.int .i64 ps[k].lvl) := k1 4 (by omega)
      have z1 : (0 : Int) ≤ (k : Int) := by omega
      have z2 : (k : Int) < (ps.length : Int) := by omega
      have HBX : Hid (Below w.heap.size w (wr.alloc (.cells #[.int .i64 ps[k].id, .string ps[k].name, .int .i64 ps[k].born, .int .i64 ps[k].cls, .int .i64 ps[k].lvl] 38))) := Lib.hid (HB4.out.alloc HB4.out.size _)
      have HOX := Lib.hid (HO4.out.alloc (.cells #[.int .i64 ps[k].id, .string ps[k].name, .int .i64 ps[k].born, .int .i64 ps[k].cls, .int .i64 ps[k].lvl] 38))
      clear k1 hinv hb hown hol
      by_cases hc0 : ps[k].cls = 0
      · obtain ⟨xs, hx⟩ := clsF_ex out k hko 9
        have hxl := clsF_len hx
        have HX := Lib.hid hx
        have HC0 : Hid (out[k].cls = 0) := Lib.hid (by rw [HEQ.out]; exact hc0)
        have hfn := okL_fnd HIO.out k hko
        rw [HEQ.out] at hfn
        have HCL := Lib.hid (fun w' (h' : RowsR 5 puC w' (.slice a5 ps.length c5) out) => implCls_yes _ out ps[k].id w' h' (cls_hs HIO.out) HIO.out k hfn hko xs hx)
        have HE1 := Lib.hid fun (c : Int) => flatC_set1 puC_len out k 3 hko (by omega) (.int .i64 c) (inCl out[k] c out[k].lvl) (puC_cls _ _)
        have hcg : (ps[k].cls != 0) = false := by simp [hc0]
        clear hc0 hcb hx hfn
        go_wp2_with fail
        refine (HCL.out _ (RowsR.of_own puC_len (own_relen' HOL.out HOX.out))).mono ?_
        rintro e w5 ⟨⟨sq, rfl, ho5⟩, hb5⟩
        have HB5 : Hid (Below w.heap.size w w5) := Lib.hid (HBX.out.trans (hb5.mono HBX.out.size))
        have hown5 := own_below HOX.out hb5
        clear hb5 p0 p1 p2 p3 p4 hcg
        cases xs with
        | nil =>
          obtain ⟨ia, ic, rfl⟩ := own_form ho5
          have HN : Hid (PlcF ps (k + 1) out (m + 1)) := Lib.hid ⟨out, m, HP.out, hko, .inr ⟨HC0.out, [], HX.out, .inl ⟨rfl, rfl, rfl⟩⟩⟩
          have HO5 := Lib.hid hown5
          clear ho5 hown5
          go_wp2_with fail
          go_roundw
          case rel => exact ⟨k + 1, out, m + 1, by omega, by go_num, by go_num, by omega, HOL.out, HN, HO5.out, HB5.out⟩
          case measure => simp [intOf]; omega
        | cons c rest =>
          have HN : Hid (PlcF ps (k + 1) (put out k hko c) m) := Lib.hid ⟨out, m, HP.out, hko, .inr ⟨HC0.out, c :: rest, HX.out, .inr ⟨c, rest, rfl, rfl, rfl⟩⟩⟩
          have q0 : (flatC inC (c :: rest))[0]? = some (.int .i64 c) := rfl
          have hL0 : 0 < (c :: rest).length := by simp
          have hL9 : (c :: rest).length ≤ 9 := hxl
          generalize (c :: rest).length = L at ho5 hL0 hL9
          generalize flatC inC (c :: rest) = fl at ho5 q0
          obtain ⟨gi, ic, rfl⟩ := own_some ho5 hL0
          have p6 : w5.cell? ⟨gi, 0, none⟩ = some (.int .i64 c) := (ho5.cellAt 0 (by omega)).trans q0
          have hLb : ((L : Int) == 0) = false := by simp; omega
          have hL1 : (0 : Int) < (L : Int) := by omega
          obtain ⟨g, cap, hge⟩ := own_some hown5 (by omega)
          injection hge with hg1 hg2 hg3
          subst hg1
          have HG : Hid (w.heap.size ≤ g) := Lib.hid (hown5.lt g rfl).1
          obtain ⟨u3, d3⟩ : ∃ u, w5.cell? ⟨g, k * 5 + 3, none⟩ = some u := ⟨_, (hown5.cellAt (k * 5 + 3) (by omega)).trans (List.getElem?_eq_getElem (by rw [flatC_len puC_len]; omega))⟩
          have f3 : w5.frozen? ⟨g, k * 5 + 3, none⟩ = false := hown5.frozenAt _
          have HO6 := Lib.hid (own_eq (hown5.stored (k * 5 + 3) (.int .i64 c)).1 (HE1.out c))
          have HB6 : Hid (Below w.heap.size w (w5.setCell ⟨g, k * 5 + 3, none⟩ (.int .i64 c))) := Lib.hid (HB5.out.setCell (p := ⟨g, k * 5 + 3, none⟩) HG.out _)
          have HPL := Lib.hid (show (put out k hko c).length = ps.length by rw [put_len]; exact HOL.out)
          clear ho5 q0 hxl HX hown5 hg2 hg3
          go_wp2_with fail
          go_roundw
          case rel => exact ⟨k + 1, put out k hko c, m, by omega, by go_num, rfl, by omega, HPL.out, HN, HO6.out, HB6.out⟩
          case measure => simp [intOf]; omega
      · have HN : Hid (PlcF ps (k + 1) out m) := Lib.hid ⟨out, m, HP.out, hko, .inl ⟨by rw [HEQ.out]; exact hc0, rfl, rfl⟩⟩
        have hcg : (ps[k].cls != 0) = true := by simp [hc0]
        clear hc0 hcb
        go_wp2_with fail
        go_roundw
        case rel => exact ⟨k + 1, out, m, by omega, by go_num, rfl, by omega, HOL.out, HN, HOX.out, HBX.out⟩
        case measure => simp [intOf]; omega
    · obtain rfl : k = ps.length := by omega
      have HE : Hid (out = qs ∧ m = nn) := Lib.hid (plcF_one HP.out HQ.out)
      clear hb hown
      go_wp2_with fail
      refine bodyPost_ret (v := .tuple #[.slice a5 ps.length c5, .int .i64 (m : Int), .bool true]) (by simp [results, Try.results25, go_sem]) rfl ⟨⟨_, by rw [HE.out.2], ?_⟩, HB4.out⟩
      have := own_relen' HOL.out HO4.out
      rwa [HE.out.1] at this
end Go.Proofs.Ytlhcediejccieaa
