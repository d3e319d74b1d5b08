/- The model's l8Number. -/
import Derived.Test.YtjkjaadcdolbhaaMd8
import Derived.Test.YtjkjaadcdolbhaaKy
namespace Go.Proofs.Ytjkjaadcdolbhaa
set_option linter.unusedVariables false
open Go.RowKit

/-- Where the model's taking stands. -/
structure NtAt (n : Nat) (m : Int) (RT : List (Int × Int)) (MT : List Mv) (CT : Nat) (k : Nat) (rs : List (Int × Int)) (ms : List Mv) (c : Nat) : Prop where
  std : stdF rs
  len : rs.length = n
  le : k ≤ n
  mT : ms ++ tkM k ((digs n m).drop k) rs = MT
  rT : tkR k ((digs n m).drop k) rs = RT
  cT : c + tkC k ((digs n m).drop k) rs = CT
theorem NtAt.step {n : Nat} {m : Int} {RT : List (Int × Int)} {MT : List Mv} {CT : Nat} {k : Nat} {rs : List (Int × Int)} {ms : List Mv} {c : Nat} (h : NtAt n m RT MT CT k rs ms c) (hk : k < n) (d : Int) (hd : m / 10 ^ (n - 1 - k) % 10 = d) : NtAt n m RT MT CT (k + 1) (brR (k + 1) d rs) (ms ++ brM (k + 1) d rs) (c + brC (k + 1) d rs) := by
  have hm := h.mT
  have hr := h.rT
  have hc := h.cT
  rw [digs_drop n m k hk, hd] at hm hr hc
  simp only [tkM] at hm
  simp only [tkR] at hr
  simp only [tkC] at hc
  exact ⟨brR_std _ _ _ h.std, by rw [brR_len]; exact h.len, hk, by rw [List.append_assoc]; exact hm, hr, by omega⟩
theorem NtAt.done {n : Nat} {m : Int} {RT : List (Int × Int)} {MT : List Mv} {CT : Nat} {rs : List (Int × Int)} {ms : List Mv} {c : Nat} (h : NtAt n m RT MT CT n rs ms c) : ms = MT ∧ rs = RT ∧ c = CT := by
  have hm := h.mT
  have hr := h.rT
  have hc := h.cT
  rw [List.drop_eq_nil_of_le (by rw [digs_len]; exact Nat.le_refl _)] at hm hr hc
  simp only [tkM, List.append_nil] at hm
  simp only [tkR] at hr
  simp only [tkC, Nat.add_zero] at hc
  exact ⟨hm, hr, hc⟩
theorem NtAt.short {n : Nat} {m : Int} {RT : List (Int × Int)} {MT : List Mv} {CT : Nat} {k : Nat} {rs : List (Int × Int)} {ms : List Mv} {c : Nat} (h : NtAt n m RT MT CT k rs ms c) : ms.length ≤ MT.length := by rw [← h.mT, List.length_append]; omega

set_option maxRecDepth 100000 in
set_option maxHeartbeats 6400000 in
theorem l8Number_any (up lo : Int) (sv : Value) (rs : List (Int × Int)) (m : Int) (w : World) (h : RodsR w sv rs) (hs : stdF rs) (hn : 0 < rs.length ∧ rs.length ≤ 8) (hm0 : 0 ≤ m) (hm1 : m ≤ 1000000000) :
    Calls Try.prog 64 #[.agg #[.int .i64 up, .int .i64 lo, sv], .int .i64 m] w fun e w' => (∃ g c rb rc, e = .returned (.tuple #[.slice (some ⟨g, 0, none⟩) (tkM 0 (digs rs.length m) rs).length c, .agg #[.int .i64 up, .int .i64 lo, .slice (some ⟨rb, 0, none⟩) (tkR 0 (digs rs.length m) rs).length rc], .int .i64 ((tkC 0 (digs rs.length m) rs : Nat) : Int)]) ∧
      w'.ownsRow w.heap.size 83 2 (.slice (some ⟨rb, 0, none⟩) (tkR 0 (digs rs.length m) rs).length rc) (tkR 0 (digs rs.length m) rs).length (flat (tkR 0 (digs rs.length m) rs)) ∧ w'.ownsRow w.heap.size 75 3 (.slice (some ⟨g, 0, none⟩) (tkM 0 (digs rs.length m) rs).length c) (tkM 0 (digs rs.length m) rs).length (flatC mvC (tkM 0 (digs rs.length m) rs))) ∧ Below w.heap.size w w' := by
  obtain ⟨i0, hi, hz0, hz1, hz2⟩ := info_parts Try.infoBeadMove
  have HRW := Lib.hid h
  obtain ⟨a, cp, rfl⟩ : ∃ a c, sv = .slice a rs.length c := by obtain ⟨a, c, e, _⟩ := h; exact ⟨a, c, e⟩
  have hmt := tkM_small rs.length m rs hn.2
  have hct := tkC_small rs.length m rs hn.2
  have hst : NtAt rs.length m (tkR 0 (digs rs.length m) rs) (tkM 0 (digs rs.length m) rs) (tkC 0 (digs rs.length m) rs) 0 rs [] 0 := ⟨hs, rfl, Nat.zero_le _, rfl, rfl, Nat.zero_add _⟩
  generalize tkC 0 (digs rs.length m) rs = CT at hct hst ⊢
  generalize tkM 0 (digs rs.length m) rs = MT at hmt hst ⊢
  generalize tkR 0 (digs rs.length m) rs = RT at hst ⊢
  have HN0 := Lib.hid hst
  obtain ⟨hn0, hn1⟩ := hn
  clear hst hs
  have HB0 : Hid (Below w.heap.size w w) := Lib.hid (Below.refl _ _)
  have HRf0 := Lib.hid (h)
  clear h
  go_enter Try.func64, Try.ntmps64
  go_wp2_with fail
  -- the literal of no moves stands ahead of the copy
  have hb : Below w.heap.size w (((w.alloc (.cells #[.int .i64 up, .int .i64 lo, .slice a rs.length cp] 26)).alloc (.cells #[.int .i64 0, .int .i64 0, .slice none 0 0] 26)).alloc (.cells #[] 75)) := (((Below.refl _ _).alloc (Nat.le_refl _) _).alloc (by simp) _).alloc (by simp; omega) _
  have hkf : (((w.alloc (.cells #[.int .i64 up, .int .i64 lo, .slice a rs.length cp] 26)).alloc (.cells #[.int .i64 0, .int .i64 0, .slice none 0 0] 26)).alloc (.cells #[] 75)).heap[w.heap.size]? = some (.cells #[.int .i64 up, .int .i64 lo, .slice a rs.length cp] 26 (0, 0)) := by
    rw [alloc_old (by simp; omega), alloc_old (by simp), alloc_at rfl]
  have hkz : (((w.alloc (.cells #[.int .i64 up, .int .i64 lo, .slice a rs.length cp] 26)).alloc (.cells #[.int .i64 0, .int .i64 0, .slice none 0 0] 26)).alloc (.cells #[] 75)).heap[w.heap.size + 1]? = some (.cells #[.int .i64 0, .int .i64 0, .slice none 0 0] 26 (0, 0)) := by
    rw [alloc_old (by simp), alloc_at (by simp)]
  have hom : (((w.alloc (.cells #[.int .i64 up, .int .i64 lo, .slice a rs.length cp] 26)).alloc (.cells #[.int .i64 0, .int .i64 0, .slice none 0 0] 26)).alloc (.cells #[] 75)).ownsRow (w.heap.size + 2) 75 3 (.slice (some ⟨w.heap.size + 1 + 1, 0, none⟩) 0 0) 0 [] := by
    have := World.ownsRow_made (base := w.heap.size + 2) (e := 75) (size := 3) ((w.alloc (.cells #[.int .i64 up, .int .i64 lo, .slice a rs.length cp] 26)).alloc (.cells #[.int .i64 0, .int .i64 0, .slice none 0 0] 26)) #[] 0 (by simp) (Nat.zero_le _) (by simp)
    rw [show ((w.alloc (.cells #[.int .i64 up, .int .i64 lo, .slice a rs.length cp] 26)).alloc (.cells #[.int .i64 0, .int .i64 0, .slice none 0 0] 26)).heap.size = w.heap.size + 1 + 1 by simp] at this
    exact this
  have hsz : (((w.alloc (.cells #[.int .i64 up, .int .i64 lo, .slice a rs.length cp] 26)).alloc (.cells #[.int .i64 0, .int .i64 0, .slice none 0 0] 26)).alloc (.cells #[] 75)).heap.size = w.heap.size + 3 := by simp
  generalize ((w.alloc (.cells #[.int .i64 up, .int .i64 lo, .slice a rs.length cp] 26)).alloc (.cells #[.int .i64 0, .int .i64 0, .slice none 0 0] 26)).alloc (.cells #[] 75) = w1 at hb hkf hkz hom hsz ⊢
  obtain ⟨B, hB⟩ : ∃ B, B = w.heap.size + 2 := ⟨_, rfl⟩
  have HR1 := Lib.hid (HRf0.out.below hb (Nat.le_refl _))
  have HB1 := Lib.hid hb
  have HKZ1 := Lib.hid hkz
  have HKF1 := Lib.hid hkf
  have HOM : Hid (w1.ownsRow B 75 3 (.slice (some ⟨w.heap.size + 1 + 1, 0, none⟩) 0 0) 0 []) := Lib.hid (by rw [hB]; exact hom)
  have hB1 : B ≤ w1.heap.size := by omega
  have HZB : Hid (w.heap.size + 1 < B) := Lib.hid (by omega)
  clear hb hkf hkz hom hsz hB
  refine (l2Own_any up lo _ rs _ HR1.out ⟨hn0, by omega⟩).mono ?_
  rintro e w2 ⟨⟨v, rfl, ho⟩, hb⟩
  obtain ⟨rb0, rc0, rfl⟩ := own_block ho hn0
  go_wp2_with fail
  have hb3 : Below w2.heap.size w2 (w2.alloc (.cells #[.int .i64 up, .int .i64 lo, .slice (some ⟨rb0, 0, none⟩) rs.length rc0] 26)) := (Below.refl _ _).alloc (Nat.le_refl _) _
  have ha3 : DgAt B (w2.alloc (.cells #[.int .i64 up, .int .i64 lo, .slice (some ⟨rb0, 0, none⟩) rs.length rc0] 26)) w2.heap.size up lo rb0 rc0 rs (w.heap.size + 1 + 1) 0 [] :=
    ⟨by have := hb.size; omega, alloc_at rfl, (own_mono ho hB1).alloc _, (own_below HOM.out hb).alloc _⟩
  generalize w2.alloc (.cells #[.int .i64 up, .int .i64 lo, .slice (some ⟨rb0, 0, none⟩) rs.length rc0] 26) = w3 at hb3 ha3 ⊢
  have HBW : Hid (Below w.heap.size w w3) := Lib.hid ((HB1.out.trans (hb.mono HB1.out.size)).trans (hb3.mono (by have := hb.size; have := HB1.out.size; omega)))
  have HKZ : Hid (w3.heap[w.heap.size + 1]? = some (.cells #[.int .i64 0, .int .i64 0, .slice none 0 0] 26 (0, 0))) := Lib.hid (by
    rw [hb3.block _ (by have := hb.size; have := HZB.out; omega), hb.block _ (by have := HZB.out; omega)]; exact HKZ1.out)
  have HFB : Hid (w3.heap[w.heap.size]? = some (.cells #[.int .i64 up, .int .i64 lo, .slice a rs.length cp] 26 (0, 0))) := Lib.hid (by
    rw [hb3.block _ (by have := hb.size; have := HZB.out; omega), hb.block _ (by have := HZB.out; omega)]; exact HKF1.out)
  have HWB : Hid (w.heap.size < B) := Lib.hid (by have := HZB.out; omega)
  have HWB2 : Hid (w.heap.size ≤ B) := Lib.hid (by have := HZB.out; omega)
  have HA := Lib.hid ha3
  generalize w2.heap.size = N at ha3 HA ⊢
  clear ha3 hb3 hb ho HR1 HB1 HKZ1 HKF1 HOM
  go_loopw [7, 9, 10] (fun ov nv kv wr => ∃ (k : Nat) (rs' : List (Int × Int)) (ms' : List Mv) (g c rb rc nc : Nat), nv = .int .i64 (nc : Nat) ∧ kv = .int .i64 k ∧ ov = .slice (some ⟨g, 0, none⟩) ms'.length c ∧ DgAt B wr N up lo rb rc rs' g c ms' ∧ Below B w3 wr ∧ NtAt rs.length m RT MT CT k rs' ms' nc) (fun _ _ kv _ => rs.length - (intOf kv).toNat)
  case atStart => exact ⟨0, rs, [], _, _, rb0, rc0, 0, rfl, rfl, rfl, HA.out, Below.refl _ _, HN0.out⟩
  case round =>
    obtain ⟨k, rs', ms', g, c, rb, rc, nc, rfl, rfl, rfl, ha, hb, hno⟩ := hrel
    have HA0 := Lib.hid ha
    have HB0 := Lib.hid hb
    have HG := Lib.hid hno
    have HST := Lib.hid hno.std
    have HLN := Lib.hid hno.len
    have hmsl : ms'.length ≤ 128 := by have := hno.short; omega
    have hkn := hno.le
    have hncb : nc ≤ 64 := by have := hno.cT; omega
    obtain ⟨n0, n1, n2, m0, m1, m2⟩ := cell3 ha.box
    obtain ⟨p0, p1, p2, -, -, -⟩ := cell3 ((hb.block _ HWB.out).trans HFB.out)
    clear ha hb hno
    by_cases hlt : k < rs.length
    · obtain ⟨dd, hdd⟩ : ∃ dd, m / 10 ^ (rs.length - 1 - k) % 10 = dd := ⟨_, rfl⟩
      have hd9 : 0 ≤ dd ∧ dd ≤ 9 := by omega
      have HDD := Lib.hid hdd
      have z2 : (k : Int) < (rs.length : Int) := by omega
      clear hdd
      go_wp2_with fail
      refine wp_region_held_drew (S := (fun u => u.cell? ⟨N, 0, none⟩ = some (.int .i64 up) ∧ u.cell? ⟨N, 1, none⟩ = some (.int .i64 lo) ∧ u.cell? ⟨N, 2, none⟩ = some (.slice (some ⟨rb, 0, none⟩) rs'.length rc) ∧ u.cell? ⟨w.heap.size, 0, none⟩ = some (.int .i64 up) ∧ u.cell? ⟨w.heap.size, 1, none⟩ = some (.int .i64 lo) ∧ u.cell? ⟨w.heap.size, 2, none⟩ = some (.slice a rs.length cp))) (by kernel_rfl) (⟨n0, n1, n2, p0, p1, p2⟩) (fun hHeld => ?_)
      have hb : Below wr.heap.size wr wr.drew := (Below.refl _ _).drew
      generalize wr.drew = v1 at hb hHeld ⊢
      have HA1 := Lib.hid (HA0.out.next hb)
      have HS0 : Hid (B ≤ wr.heap.size) := Lib.hid (by have := HA0.out.lt; have := HA0.out.ord; omega)
      have HB1 : Hid (Below B w3 v1) := Lib.hid (HB0.out.trans (hb.mono HS0.out))
      clear hb
      try clear n0 n1 n2 p0 p1 p2
      obtain ⟨n0, n1, n2, -, -, -⟩ := cell3 HA1.out.box
      obtain ⟨p0, p1, p2, -, -, -⟩ := cell3 ((HB1.out.block _ HWB.out).trans HFB.out)
      refine take1 (i := 0) (v := ?v1) (some 25) rfl rfl (by kernel_rfl) (by kernel_rfl) (by kernel_rfl) (fun _ _ _ h => h) (Or.inl ⟨by rfl, ?y1⟩) (by assumption) ?r1
      case y1 => (intro w hSw; (try dsimp only at hSw); go_simp; (first | done | with_reducible rfl))
      try simp only [Act.put, List.setIfInBounds_toArray, List.set_cons_zero, List.set_cons_succ]
      refine take1 (i := 1) (v := ?v2) (some 26) rfl rfl (by kernel_rfl) (by kernel_rfl) (by kernel_rfl) (fun _ _ _ h => h) (Or.inl ⟨by rfl, ?y2⟩) (by assumption) ?r2
      case y2 => (intro w hSw; (try dsimp only at hSw); go_simp; (first | done | with_reducible rfl))
      try simp only [Act.put, List.setIfInBounds_toArray, List.set_cons_zero, List.set_cons_succ]
      refine take1 (i := 2) (v := ?v3) (some 27) rfl rfl (by kernel_rfl) (by kernel_rfl) (by kernel_rfl) (fun _ _ _ h => h) (Or.inl ⟨by rfl, ?y3⟩) (by assumption) ?r3
      case y3 => (intro w hSw; (try dsimp only at hSw); go_simp; (first | done | with_reducible rfl))
      try simp only [Act.put, List.setIfInBounds_toArray, List.set_cons_zero, List.set_cons_succ]
      refine take1 (i := 3) (v := ?v4) (some 28) rfl rfl (by kernel_rfl) (by kernel_rfl) (by kernel_rfl) (fun _ _ _ h => h) (Or.inl ⟨by rfl, ?y4⟩) (by assumption) ?r4
      case y4 => (intro w hSw; (try dsimp only at hSw); go_simp; (first | done | with_reducible rfl))
      try simp only [Act.put, List.setIfInBounds_toArray, List.set_cons_zero, List.set_cons_succ]
      refine take1 (i := 4) (v := ?v5) (some 29) rfl rfl (by kernel_rfl) (by kernel_rfl) (by kernel_rfl) (fun _ _ _ h => h) (Or.inl ⟨by rfl, ?y5⟩) (by assumption) ?r5
      case y5 => (intro w hSw; (try dsimp only at hSw); go_simp; (first | done | with_reducible rfl))
      try simp only [Act.put, List.setIfInBounds_toArray, List.set_cons_zero, List.set_cons_succ]
      refine wpAnyH_ready (rs := [5, 11]) (by kernel_rfl) (by simp) ?_
      refine AllReadyH.cons rfl (fun K hK => ?_) (AllReadyH.cons rfl (fun K hK => ?_) AllReadyH.nil)
      · go_simp
        go_at_call 97
        refine (l6At_any up lo _ rs m k _ (HRW.out.below (HBW.out.trans (HB1.out.mono HWB2.out)) (Nat.le_refl _)) hn1 hlt hm0 hm1).mono ?_
        rintro e v2 ⟨rfl, hb⟩
        rw [HDD.out]
        have HA2 := Lib.hid (HA1.out.next hb)
        have HS1 : Hid (B ≤ v1.heap.size) := Lib.hid (by have := HA1.out.lt; have := HA1.out.ord; omega)
        have HB2 : Hid (Below B w3 v2) := Lib.hid (HB1.out.trans (hb.mono HS1.out))
        clear hb
        try clear n0 n1 n2 p0 p1 p2
        obtain ⟨n0, n1, n2, -, -, -⟩ := cell3 HA2.out.box
        obtain ⟨p0, p1, p2, -, -, -⟩ := cell3 ((HB2.out.block _ HWB.out).trans HFB.out)
        try go_simp
        refine hK.out _ _ (⟨n0, n1, n2, p0, p1, p2⟩) (fun hHeld => ?_)
        clear hK K
        try simp only [Act.put, List.setIfInBounds_toArray, List.set_cons_zero, List.set_cons_succ]
        refine wpAnyH_ready (rs := [6, 11]) (by kernel_rfl) (by simp) ?_
        refine AllReadyH.cons rfl (fun K hK => ?_) (AllReadyH.cons rfl (fun K hK => ?_) AllReadyH.nil)
        · go_simp
          go_at_call 72
          refine (l8Digit_any up lo _ rs' k dd _ (RodsR.of_own HA2.out.rods) HST.out (by have := HLN.out; omega) (by have := HLN.out; omega) hd9.1 hd9.2).mono ?_
          rintro e v3 ⟨⟨g2, c2, rb2, rc2, rfl, hor, hom⟩, hb⟩
          have HSX : Hid (B ≤ v2.heap.size) := Lib.hid (by have := HA2.out.lt; have := HA2.out.ord; omega)
          have HR3 := Lib.hid (own_mono hor HSX.out)
          have HM3 := Lib.hid (own_mono hom HSX.out)
          clear hor hom
          have HA3 := Lib.hid (HA2.out.next hb)
          have HS2 : Hid (B ≤ v2.heap.size) := Lib.hid (by have := HA2.out.lt; have := HA2.out.ord; omega)
          have HB3 : Hid (Below B w3 v3) := Lib.hid (HB2.out.trans (hb.mono HS2.out))
          clear hb
          try clear n0 n1 n2 p0 p1 p2
          obtain ⟨n0, n1, n2, -, -, -⟩ := cell3 HA3.out.box
          obtain ⟨p0, p1, p2, -, -, -⟩ := cell3 ((HB3.out.block _ HWB.out).trans HFB.out)
          try go_simp
          refine hK.out _ _ (⟨n0, n1, n2, p0, p1, p2⟩) (fun hHeld => ?_)
          clear hK K
          try simp only [Act.put, List.setIfInBounds_toArray, List.set_cons_zero, List.set_cons_succ]
          refine take1 (i := 7) (v := ?v6) (some 24) rfl rfl (by kernel_rfl) (by kernel_rfl) (by kernel_rfl) (fun _ _ _ h => h) (Or.inl ⟨by rfl, ?y6⟩) (by assumption) ?r6
          case y6 => (intro w hSw; (try dsimp only at hSw); go_simp; (first | done | with_reducible rfl))
          try simp only [Act.put, List.setIfInBounds_toArray, List.set_cons_zero, List.set_cons_succ]
          refine take1 (i := 8) (v := ?v7) (some 32) rfl rfl (by kernel_rfl) (by kernel_rfl) (by kernel_rfl) (fun _ _ _ h => h) (Or.inl ⟨by rfl, ?y7⟩) (by assumption) ?r7
          case y7 => (intro w hSw; (try dsimp only at hSw); go_simp; (first | done | with_reducible rfl))
          try simp only [Act.put, List.setIfInBounds_toArray, List.set_cons_zero, List.set_cons_succ]
          refine take1 (i := 9) (v := ?v8) (some 33) rfl rfl (by kernel_rfl) (by kernel_rfl) (by kernel_rfl) (fun _ _ _ h => h) (Or.inl ⟨by rfl, ?y8⟩) (by assumption) ?r8
          case y8 => (intro w hSw; (try dsimp only at hSw); go_simp; (first | done | with_reducible rfl))
          try simp only [Act.put, List.setIfInBounds_toArray, List.set_cons_zero, List.set_cons_succ]
          refine take1 (i := 10) (v := ?v9) (some 34) rfl rfl (by kernel_rfl) (by kernel_rfl) (by kernel_rfl) (fun _ _ _ h => h) (Or.inl ⟨by rfl, ?y9⟩) (by assumption) ?r9
          case y9 => (intro w hSw; (try dsimp only at hSw); go_simp; (first | done | with_reducible rfl))
          try simp only [Act.put, List.setIfInBounds_toArray, List.set_cons_zero, List.set_cons_succ]
          refine wpAnyH_ready (rs := [11]) (by kernel_rfl) (by simp) ?_
          refine AllReadyH.cons rfl (fun K hK => ?_) AllReadyH.nil
          go_simp
          have hb : Below v3.heap.size v3 (v3.alloc (.cells #[.int .i64 0, .int .i64 0, .slice none 0 0] 26)) := (Below.refl _ _).alloc (Nat.le_refl _) _
          have ht : (v3.alloc (.cells #[.int .i64 0, .int .i64 0, .slice none 0 0] 26)).heap[v3.heap.size]? = some (.cells #[.int .i64 0, .int .i64 0, .slice none 0 0] 26 (0, 0)) := alloc_at rfl
          have hnt := HA3.out.lt
          generalize v3.alloc (.cells #[.int .i64 0, .int .i64 0, .slice none 0 0] 26) = v4 at hb ht ⊢
          obtain ⟨T, hTe⟩ : ∃ T, T = v3.heap.size := ⟨_, rfl⟩
          rw [← hTe] at ht hnt
          simp only [← hTe]
          have HT4 := Lib.hid ht
          have HNT4 := Lib.hid hnt
          clear ht hnt hTe
          have HA4 := Lib.hid (HA3.out.next hb)
          have HS3 : Hid (B ≤ v3.heap.size) := Lib.hid (by have := HA3.out.lt; have := HA3.out.ord; omega)
          have HB4 : Hid (Below B w3 v4) := Lib.hid (HB3.out.trans (hb.mono HS3.out))
          have HR4 := Lib.hid (own_below HR3.out hb)
          have HM4 := Lib.hid (own_below HM3.out hb)
          clear hb
          try clear n0 n1 n2 p0 p1 p2
          obtain ⟨n0, n1, n2, -, -, -⟩ := cell3 HA4.out.box
          obtain ⟨p0, p1, p2, -, -, -⟩ := cell3 ((HB4.out.block _ HWB.out).trans HFB.out)
          refine hK.out _ _ (⟨n0, n1, n2, p0, p1, p2⟩) (fun hHeld => ?_)
          clear hK K
          try simp only [Act.put, List.setIfInBounds_toArray, List.set_cons_zero, List.set_cons_succ]
          refine take1 (i := 12) (v := ?v10) (some 11) rfl rfl (by kernel_rfl) (by kernel_rfl) (by kernel_rfl) (fun _ _ _ h => h) (Or.inl ⟨by rfl, ?y10⟩) (by assumption) ?r10
          case y10 => (intro w hSw; (try dsimp only at hSw); go_simp; (first | done | with_reducible rfl))
          try simp only [Act.put, List.setIfInBounds_toArray, List.set_cons_zero, List.set_cons_succ]
          obtain ⟨t0, t1, t2, s0, s1, s2⟩ := cell3 HT4.out
          refine wpAnyH_ready (rs := [13]) (by kernel_rfl) (by simp) ?_
          refine AllReadyH.cons rfl (fun K hK => ?_) AllReadyH.nil
          go_simp
          clear t0 t1 t2 s0 s1 s2
          have ha9 := HA4.out.store3 HT4.out (by have := HNT4.out; omega) (.int .i64 up) (.int .i64 lo) (.slice (some ⟨rb2, 0, none⟩) (brR (k + 1) dd rs').length rc2)
          have ht9 := box3_set HT4.out (.int .i64 up) (.int .i64 lo) (.slice (some ⟨rb2, 0, none⟩) (brR (k + 1) dd rs').length rc2)
          have hTB : B ≤ T := by have := HNT4.out; have := HA4.out.ord; omega
          have hb9 := bl_set3 HB4.out hTB (.int .i64 up) (.int .i64 lo) (.slice (some ⟨rb2, 0, none⟩) (brR (k + 1) dd rs').length rc2)
          have hr9 := own_setb3 HR4.out (own_box HR4.out HT4.out (by decide)) (.int .i64 up) (.int .i64 lo) (.slice (some ⟨rb2, 0, none⟩) (brR (k + 1) dd rs').length rc2)
          have hm9 := own_setb3 HM4.out (own_box HM4.out HT4.out (by decide)) (.int .i64 up) (.int .i64 lo) (.slice (some ⟨rb2, 0, none⟩) (brR (k + 1) dd rs').length rc2)
          generalize (((v4.setCell ⟨T, 0, none⟩ (.int .i64 up)).setCell ⟨T, 1, none⟩ (.int .i64 lo)).setCell ⟨T, 2, none⟩ (.slice (some ⟨rb2, 0, none⟩) (brR (k + 1) dd rs').length rc2)) = w9 at ha9 ht9 hb9 hr9 hm9 ⊢
          have HA9 := Lib.hid ha9
          have HT9 := Lib.hid ht9
          have HB9 := Lib.hid hb9
          have HR9 := Lib.hid hr9
          have HM9 := Lib.hid hm9
          have HNT9 := Lib.hid HNT4.out
          clear ha9 ht9 hb9 hr9 hm9
          try clear n0 n1 n2 p0 p1 p2
          obtain ⟨n0, n1, n2, -, -, -⟩ := cell3 HA9.out.box
          obtain ⟨p0, p1, p2, -, -, -⟩ := cell3 ((HB9.out.block _ HWB.out).trans HFB.out)
          refine hK.out _ _ (⟨n0, n1, n2, p0, p1, p2⟩) (fun hHeld => ?_)
          clear hK K
          try simp only [Act.put]
          refine take1 (i := 14) (v := ?v11) (some 13) rfl rfl (by kernel_rfl) (by kernel_rfl) (by kernel_rfl) (fun _ _ _ h => h) (Or.inl ⟨by rfl, ?y11⟩) (by assumption) ?r11
          case y11 => (intro w hSw; (try dsimp only at hSw); go_simp; (first | done | with_reducible rfl))
          try simp only [Act.put, List.setIfInBounds_toArray, List.set_cons_zero, List.set_cons_succ]
          refine wpAnyH_done (by kernel_rfl) ?_ _
          clear n0 n1 n2 p0 p1 p2
          have HS9 : Hid (B ≤ w9.heap.size) := Lib.hid (by have := HA9.out.lt; have := HA9.out.ord; omega)
          have hcm := brM_len (k + 1) dd rs'
          go_wp2_with (at_builtin; refine wpList_append_rows (w := w9) rfl _ _ 32 rfl B 75 i0 (.agg #[.int .i64 0, .int .i64 0, .int .i64 0]) 3 24 Try.underlying32 hi hz0 hz1 hz2 rfl (by decide) mvC_len mvC_one g ms'.length c (flatC mvC ms') rfl HA9.out.moves (some ⟨g2, 0, none⟩) c2 (brM (k + 1) dd rs') rfl ?c2 ?c3 ?c4 ?c5 ?_)
          case c2 =>
            rcases (RowsR.of_own mvC_len HM9.out).src mvC_len (by decide) with h | ⟨ad, e1, h⟩
            · exact Or.inl h
            · exact Or.inr ⟨ad, e1, fun j u hj => h w9 (Below.refl _ _) j u hj⟩
          case c3 => unfold maxLen; omega
          case c4 => omega
          case c5 => exact HS9.out
          intro g3 c3 w10 ho hg _
          have HA10 := Lib.hid (HA9.out.setM ho hg)
          have HB10 : Hid (Below B w3 w10) := Lib.hid (HB9.out.grown hg HS9.out (fun q hq => by cases hq; exact (HA9.out.moves.lt g rfl).1))
          have HT10 := Lib.hid ((hg.block T (lt_of_block HT9.out) (by intro e; injection e with e; exact own_box HA9.out.moves HT9.out (by decide) g rfl e.symm)).trans HT9.out)
          have HR10 := Lib.hid (own_kept2 HR9.out HA9.out.moves (by decide) hg)
          clear ho hg
          obtain ⟨t0, t1, t2, -, -, -⟩ := cell3 HT10.out
          obtain ⟨n0, n1, n2, m0, m1, m2⟩ := cell3 HA10.out.box
          have ha11 := HA10.out.setF HR10.out
          have hb11 := bl_set3 HB10.out HA10.out.ord (.int .i64 up) (.int .i64 lo) (.slice (some ⟨rb2, 0, none⟩) (brR (k + 1) dd rs').length rc2)
          have HA11 := Lib.hid ha11
          have HB11 := Lib.hid hb11
          have HG11 := Lib.hid (HG.out.step hlt dd HDD.out)
          clear ha11 hb11
          have hwn : IntKind.i64.wrap ((nc : Int) + ((brC (k + 1) dd rs' : Nat) : Int)) = ((nc + brC (k + 1) dd rs' : Nat) : Int) := by rw [IntKind.wrap_i64]; have := brC_le (k + 1) dd rs'; omega
          go_wp2_with fail
          go_roundw
          case rel => exact ⟨k + 1, brR (k + 1) dd rs', ms' ++ brM (k + 1) dd rs', g3, c3, rb2, rc2, nc + brC (k + 1) dd rs', by first | rfl | (simp; done) | (congr 1; omega) | go_num, by go_num, by rw [List.length_append], HA11.out, HB11.out, HG11.out⟩
          case measure => simp [intOf]; omega
        · go_simp
          have hb : Below v2.heap.size v2 (v2.alloc (.cells #[.int .i64 0, .int .i64 0, .slice none 0 0] 26)) := (Below.refl _ _).alloc (Nat.le_refl _) _
          have ht : (v2.alloc (.cells #[.int .i64 0, .int .i64 0, .slice none 0 0] 26)).heap[v2.heap.size]? = some (.cells #[.int .i64 0, .int .i64 0, .slice none 0 0] 26 (0, 0)) := alloc_at rfl
          have hnt := HA2.out.lt
          generalize v2.alloc (.cells #[.int .i64 0, .int .i64 0, .slice none 0 0] 26) = v3 at hb ht ⊢
          obtain ⟨T, hTe⟩ : ∃ T, T = v2.heap.size := ⟨_, rfl⟩
          rw [← hTe] at ht hnt
          simp only [← hTe]
          have HT3 := Lib.hid ht
          have HNT3 := Lib.hid hnt
          clear ht hnt hTe
          have HA3 := Lib.hid (HA2.out.next hb)
          have HS2 : Hid (B ≤ v2.heap.size) := Lib.hid (by have := HA2.out.lt; have := HA2.out.ord; omega)
          have HB3 : Hid (Below B w3 v3) := Lib.hid (HB2.out.trans (hb.mono HS2.out))
          clear hb
          try clear n0 n1 n2 p0 p1 p2
          obtain ⟨n0, n1, n2, -, -, -⟩ := cell3 HA3.out.box
          obtain ⟨p0, p1, p2, -, -, -⟩ := cell3 ((HB3.out.block _ HWB.out).trans HFB.out)
          refine hK.out _ _ (⟨n0, n1, n2, p0, p1, p2⟩) (fun hHeld => ?_)
          clear hK K
          try simp only [Act.put, List.setIfInBounds_toArray, List.set_cons_zero, List.set_cons_succ]
          refine wpAnyH_ready (rs := [6]) (by kernel_rfl) (by simp) ?_
          refine AllReadyH.cons rfl (fun K hK => ?_) AllReadyH.nil
          go_simp
          go_at_call 72
          refine (l8Digit_any up lo _ rs' k dd _ (RodsR.of_own HA3.out.rods) HST.out (by have := HLN.out; omega) (by have := HLN.out; omega) hd9.1 hd9.2).mono ?_
          rintro e v4 ⟨⟨g2, c2, rb2, rc2, rfl, hor, hom⟩, hb⟩
          have HSX : Hid (B ≤ v3.heap.size) := Lib.hid (by have := HA3.out.lt; have := HA3.out.ord; omega)
          have HR4 := Lib.hid (own_mono hor HSX.out)
          have HM4 := Lib.hid (own_mono hom HSX.out)
          clear hor hom
          have HA4 := Lib.hid (HA3.out.next hb)
          have HS3 : Hid (B ≤ v3.heap.size) := Lib.hid (by have := HA3.out.lt; have := HA3.out.ord; omega)
          have HB4 : Hid (Below B w3 v4) := Lib.hid (HB3.out.trans (hb.mono HS3.out))
          have HT4 := Lib.hid ((hb.block _ (lt_of_block HT3.out)).trans HT3.out)
          have HNT4 := Lib.hid HNT3.out
          clear hb
          try clear n0 n1 n2 p0 p1 p2
          obtain ⟨n0, n1, n2, -, -, -⟩ := cell3 HA4.out.box
          obtain ⟨p0, p1, p2, -, -, -⟩ := cell3 ((HB4.out.block _ HWB.out).trans HFB.out)
          try go_simp
          refine hK.out _ _ (⟨n0, n1, n2, p0, p1, p2⟩) (fun hHeld => ?_)
          clear hK K
          try simp only [Act.put, List.setIfInBounds_toArray, List.set_cons_zero, List.set_cons_succ]
          refine take1 (i := 7) (v := ?v12) (some 24) rfl rfl (by kernel_rfl) (by kernel_rfl) (by kernel_rfl) (fun _ _ _ h => h) (Or.inl ⟨by rfl, ?y12⟩) (by assumption) ?r12
          case y12 => (intro w hSw; (try dsimp only at hSw); go_simp; (first | done | with_reducible rfl))
          try simp only [Act.put, List.setIfInBounds_toArray, List.set_cons_zero, List.set_cons_succ]
          refine take1 (i := 8) (v := ?v13) (some 32) rfl rfl (by kernel_rfl) (by kernel_rfl) (by kernel_rfl) (fun _ _ _ h => h) (Or.inl ⟨by rfl, ?y13⟩) (by assumption) ?r13
          case y13 => (intro w hSw; (try dsimp only at hSw); go_simp; (first | done | with_reducible rfl))
          try simp only [Act.put, List.setIfInBounds_toArray, List.set_cons_zero, List.set_cons_succ]
          refine take1 (i := 9) (v := ?v14) (some 33) rfl rfl (by kernel_rfl) (by kernel_rfl) (by kernel_rfl) (fun _ _ _ h => h) (Or.inl ⟨by rfl, ?y14⟩) (by assumption) ?r14
          case y14 => (intro w hSw; (try dsimp only at hSw); go_simp; (first | done | with_reducible rfl))
          try simp only [Act.put, List.setIfInBounds_toArray, List.set_cons_zero, List.set_cons_succ]
          refine take1 (i := 10) (v := ?v15) (some 34) rfl rfl (by kernel_rfl) (by kernel_rfl) (by kernel_rfl) (fun _ _ _ h => h) (Or.inl ⟨by rfl, ?y15⟩) (by assumption) ?r15
          case y15 => (intro w hSw; (try dsimp only at hSw); go_simp; (first | done | with_reducible rfl))
          try simp only [Act.put, List.setIfInBounds_toArray, List.set_cons_zero, List.set_cons_succ]
          refine take1 (i := 12) (v := ?v16) (some 11) rfl rfl (by kernel_rfl) (by kernel_rfl) (by kernel_rfl) (fun _ _ _ h => h) (Or.inl ⟨by rfl, ?y16⟩) (by assumption) ?r16
          case y16 => (intro w hSw; (try dsimp only at hSw); go_simp; (first | done | with_reducible rfl))
          try simp only [Act.put, List.setIfInBounds_toArray, List.set_cons_zero, List.set_cons_succ]
          obtain ⟨t0, t1, t2, s0, s1, s2⟩ := cell3 HT4.out
          refine wpAnyH_ready (rs := [13]) (by kernel_rfl) (by simp) ?_
          refine AllReadyH.cons rfl (fun K hK => ?_) AllReadyH.nil
          go_simp
          clear t0 t1 t2 s0 s1 s2
          have ha9 := HA4.out.store3 HT4.out (by have := HNT4.out; omega) (.int .i64 up) (.int .i64 lo) (.slice (some ⟨rb2, 0, none⟩) (brR (k + 1) dd rs').length rc2)
          have ht9 := box3_set HT4.out (.int .i64 up) (.int .i64 lo) (.slice (some ⟨rb2, 0, none⟩) (brR (k + 1) dd rs').length rc2)
          have hTB : B ≤ T := by have := HNT4.out; have := HA4.out.ord; omega
          have hb9 := bl_set3 HB4.out hTB (.int .i64 up) (.int .i64 lo) (.slice (some ⟨rb2, 0, none⟩) (brR (k + 1) dd rs').length rc2)
          have hr9 := own_setb3 HR4.out (own_box HR4.out HT4.out (by decide)) (.int .i64 up) (.int .i64 lo) (.slice (some ⟨rb2, 0, none⟩) (brR (k + 1) dd rs').length rc2)
          have hm9 := own_setb3 HM4.out (own_box HM4.out HT4.out (by decide)) (.int .i64 up) (.int .i64 lo) (.slice (some ⟨rb2, 0, none⟩) (brR (k + 1) dd rs').length rc2)
          generalize (((v4.setCell ⟨T, 0, none⟩ (.int .i64 up)).setCell ⟨T, 1, none⟩ (.int .i64 lo)).setCell ⟨T, 2, none⟩ (.slice (some ⟨rb2, 0, none⟩) (brR (k + 1) dd rs').length rc2)) = w9 at ha9 ht9 hb9 hr9 hm9 ⊢
          have HA9 := Lib.hid ha9
          have HT9 := Lib.hid ht9
          have HB9 := Lib.hid hb9
          have HR9 := Lib.hid hr9
          have HM9 := Lib.hid hm9
          have HNT9 := Lib.hid HNT4.out
          clear ha9 ht9 hb9 hr9 hm9
          try clear n0 n1 n2 p0 p1 p2
          obtain ⟨n0, n1, n2, -, -, -⟩ := cell3 HA9.out.box
          obtain ⟨p0, p1, p2, -, -, -⟩ := cell3 ((HB9.out.block _ HWB.out).trans HFB.out)
          refine hK.out _ _ (⟨n0, n1, n2, p0, p1, p2⟩) (fun hHeld => ?_)
          clear hK K
          try simp only [Act.put]
          refine take1 (i := 14) (v := ?v17) (some 13) rfl rfl (by kernel_rfl) (by kernel_rfl) (by kernel_rfl) (fun _ _ _ h => h) (Or.inl ⟨by rfl, ?y17⟩) (by assumption) ?r17
          case y17 => (intro w hSw; (try dsimp only at hSw); go_simp; (first | done | with_reducible rfl))
          try simp only [Act.put, List.setIfInBounds_toArray, List.set_cons_zero, List.set_cons_succ]
          refine wpAnyH_done (by kernel_rfl) ?_ _
          clear n0 n1 n2 p0 p1 p2
          have HS9 : Hid (B ≤ w9.heap.size) := Lib.hid (by have := HA9.out.lt; have := HA9.out.ord; omega)
          have hcm := brM_len (k + 1) dd rs'
          go_wp2_with (at_builtin; refine wpList_append_rows (w := w9) rfl _ _ 32 rfl B 75 i0 (.agg #[.int .i64 0, .int .i64 0, .int .i64 0]) 3 24 Try.underlying32 hi hz0 hz1 hz2 rfl (by decide) mvC_len mvC_one g ms'.length c (flatC mvC ms') rfl HA9.out.moves (some ⟨g2, 0, none⟩) c2 (brM (k + 1) dd rs') rfl ?c2 ?c3 ?c4 ?c5 ?_)
          case c2 =>
            rcases (RowsR.of_own mvC_len HM9.out).src mvC_len (by decide) with h | ⟨ad, e1, h⟩
            · exact Or.inl h
            · exact Or.inr ⟨ad, e1, fun j u hj => h w9 (Below.refl _ _) j u hj⟩
          case c3 => unfold maxLen; omega
          case c4 => omega
          case c5 => exact HS9.out
          intro g3 c3 w10 ho hg _
          have HA10 := Lib.hid (HA9.out.setM ho hg)
          have HB10 : Hid (Below B w3 w10) := Lib.hid (HB9.out.grown hg HS9.out (fun q hq => by cases hq; exact (HA9.out.moves.lt g rfl).1))
          have HT10 := Lib.hid ((hg.block T (lt_of_block HT9.out) (by intro e; injection e with e; exact own_box HA9.out.moves HT9.out (by decide) g rfl e.symm)).trans HT9.out)
          have HR10 := Lib.hid (own_kept2 HR9.out HA9.out.moves (by decide) hg)
          clear ho hg
          obtain ⟨t0, t1, t2, -, -, -⟩ := cell3 HT10.out
          obtain ⟨n0, n1, n2, m0, m1, m2⟩ := cell3 HA10.out.box
          have ha11 := HA10.out.setF HR10.out
          have hb11 := bl_set3 HB10.out HA10.out.ord (.int .i64 up) (.int .i64 lo) (.slice (some ⟨rb2, 0, none⟩) (brR (k + 1) dd rs').length rc2)
          have HA11 := Lib.hid ha11
          have HB11 := Lib.hid hb11
          have HG11 := Lib.hid (HG.out.step hlt dd HDD.out)
          clear ha11 hb11
          have hwn : IntKind.i64.wrap ((nc : Int) + ((brC (k + 1) dd rs' : Nat) : Int)) = ((nc + brC (k + 1) dd rs' : Nat) : Int) := by rw [IntKind.wrap_i64]; have := brC_le (k + 1) dd rs'; omega
          go_wp2_with fail
          go_roundw
          case rel => exact ⟨k + 1, brR (k + 1) dd rs', ms' ++ brM (k + 1) dd rs', g3, c3, rb2, rc2, nc + brC (k + 1) dd rs', by first | rfl | (simp; done) | (congr 1; omega) | go_num, by go_num, by rw [List.length_append], HA11.out, HB11.out, HG11.out⟩
          case measure => simp [intOf]; omega
      · go_simp
        have hb : Below v1.heap.size v1 (v1.alloc (.cells #[.int .i64 0, .int .i64 0, .slice none 0 0] 26)) := (Below.refl _ _).alloc (Nat.le_refl _) _
        have ht : (v1.alloc (.cells #[.int .i64 0, .int .i64 0, .slice none 0 0] 26)).heap[v1.heap.size]? = some (.cells #[.int .i64 0, .int .i64 0, .slice none 0 0] 26 (0, 0)) := alloc_at rfl
        have hnt := HA1.out.lt
        generalize v1.alloc (.cells #[.int .i64 0, .int .i64 0, .slice none 0 0] 26) = v2 at hb ht ⊢
        obtain ⟨T, hTe⟩ : ∃ T, T = v1.heap.size := ⟨_, rfl⟩
        rw [← hTe] at ht hnt
        simp only [← hTe]
        have HT2 := Lib.hid ht
        have HNT2 := Lib.hid hnt
        clear ht hnt hTe
        have HA2 := Lib.hid (HA1.out.next hb)
        have HS1 : Hid (B ≤ v1.heap.size) := Lib.hid (by have := HA1.out.lt; have := HA1.out.ord; omega)
        have HB2 : Hid (Below B w3 v2) := Lib.hid (HB1.out.trans (hb.mono HS1.out))
        clear hb
        try clear n0 n1 n2 p0 p1 p2
        obtain ⟨n0, n1, n2, -, -, -⟩ := cell3 HA2.out.box
        obtain ⟨p0, p1, p2, -, -, -⟩ := cell3 ((HB2.out.block _ HWB.out).trans HFB.out)
        refine hK.out _ _ (⟨n0, n1, n2, p0, p1, p2⟩) (fun hHeld => ?_)
        clear hK K
        try simp only [Act.put, List.setIfInBounds_toArray, List.set_cons_zero, List.set_cons_succ]
        refine wpAnyH_ready (rs := [5]) (by kernel_rfl) (by simp) ?_
        refine AllReadyH.cons rfl (fun K hK => ?_) AllReadyH.nil
        go_simp
        go_at_call 97
        refine (l6At_any up lo _ rs m k _ (HRW.out.below (HBW.out.trans (HB2.out.mono HWB2.out)) (Nat.le_refl _)) hn1 hlt hm0 hm1).mono ?_
        rintro e v3 ⟨rfl, hb⟩
        rw [HDD.out]
        have HA3 := Lib.hid (HA2.out.next hb)
        have HS2 : Hid (B ≤ v2.heap.size) := Lib.hid (by have := HA2.out.lt; have := HA2.out.ord; omega)
        have HB3 : Hid (Below B w3 v3) := Lib.hid (HB2.out.trans (hb.mono HS2.out))
        have HT3 := Lib.hid ((hb.block _ (lt_of_block HT2.out)).trans HT2.out)
        have HNT3 := Lib.hid HNT2.out
        clear hb
        try clear n0 n1 n2 p0 p1 p2
        obtain ⟨n0, n1, n2, -, -, -⟩ := cell3 HA3.out.box
        obtain ⟨p0, p1, p2, -, -, -⟩ := cell3 ((HB3.out.block _ HWB.out).trans HFB.out)
        try go_simp
        refine hK.out _ _ (⟨n0, n1, n2, p0, p1, p2⟩) (fun hHeld => ?_)
        clear hK K
        try simp only [Act.put, List.setIfInBounds_toArray, List.set_cons_zero, List.set_cons_succ]
        refine wpAnyH_ready (rs := [6]) (by kernel_rfl) (by simp) ?_
        refine AllReadyH.cons rfl (fun K hK => ?_) AllReadyH.nil
        go_simp
        go_at_call 72
        refine (l8Digit_any up lo _ rs' k dd _ (RodsR.of_own HA3.out.rods) HST.out (by have := HLN.out; omega) (by have := HLN.out; omega) hd9.1 hd9.2).mono ?_
        rintro e v4 ⟨⟨g2, c2, rb2, rc2, rfl, hor, hom⟩, hb⟩
        have HSX : Hid (B ≤ v3.heap.size) := Lib.hid (by have := HA3.out.lt; have := HA3.out.ord; omega)
        have HR4 := Lib.hid (own_mono hor HSX.out)
        have HM4 := Lib.hid (own_mono hom HSX.out)
        clear hor hom
        have HA4 := Lib.hid (HA3.out.next hb)
        have HS3 : Hid (B ≤ v3.heap.size) := Lib.hid (by have := HA3.out.lt; have := HA3.out.ord; omega)
        have HB4 : Hid (Below B w3 v4) := Lib.hid (HB3.out.trans (hb.mono HS3.out))
        have HT4 := Lib.hid ((hb.block _ (lt_of_block HT3.out)).trans HT3.out)
        have HNT4 := Lib.hid HNT3.out
        clear hb
        try clear n0 n1 n2 p0 p1 p2
        obtain ⟨n0, n1, n2, -, -, -⟩ := cell3 HA4.out.box
        obtain ⟨p0, p1, p2, -, -, -⟩ := cell3 ((HB4.out.block _ HWB.out).trans HFB.out)
        try go_simp
        refine hK.out _ _ (⟨n0, n1, n2, p0, p1, p2⟩) (fun hHeld => ?_)
        clear hK K
        try simp only [Act.put, List.setIfInBounds_toArray, List.set_cons_zero, List.set_cons_succ]
        refine take1 (i := 7) (v := ?v18) (some 24) rfl rfl (by kernel_rfl) (by kernel_rfl) (by kernel_rfl) (fun _ _ _ h => h) (Or.inl ⟨by rfl, ?y18⟩) (by assumption) ?r18
        case y18 => (intro w hSw; (try dsimp only at hSw); go_simp; (first | done | with_reducible rfl))
        try simp only [Act.put, List.setIfInBounds_toArray, List.set_cons_zero, List.set_cons_succ]
        refine take1 (i := 8) (v := ?v19) (some 32) rfl rfl (by kernel_rfl) (by kernel_rfl) (by kernel_rfl) (fun _ _ _ h => h) (Or.inl ⟨by rfl, ?y19⟩) (by assumption) ?r19
        case y19 => (intro w hSw; (try dsimp only at hSw); go_simp; (first | done | with_reducible rfl))
        try simp only [Act.put, List.setIfInBounds_toArray, List.set_cons_zero, List.set_cons_succ]
        refine take1 (i := 9) (v := ?v20) (some 33) rfl rfl (by kernel_rfl) (by kernel_rfl) (by kernel_rfl) (fun _ _ _ h => h) (Or.inl ⟨by rfl, ?y20⟩) (by assumption) ?r20
        case y20 => (intro w hSw; (try dsimp only at hSw); go_simp; (first | done | with_reducible rfl))
        try simp only [Act.put, List.setIfInBounds_toArray, List.set_cons_zero, List.set_cons_succ]
        refine take1 (i := 10) (v := ?v21) (some 34) rfl rfl (by kernel_rfl) (by kernel_rfl) (by kernel_rfl) (fun _ _ _ h => h) (Or.inl ⟨by rfl, ?y21⟩) (by assumption) ?r21
        case y21 => (intro w hSw; (try dsimp only at hSw); go_simp; (first | done | with_reducible rfl))
        try simp only [Act.put, List.setIfInBounds_toArray, List.set_cons_zero, List.set_cons_succ]
        refine take1 (i := 12) (v := ?v22) (some 11) rfl rfl (by kernel_rfl) (by kernel_rfl) (by kernel_rfl) (fun _ _ _ h => h) (Or.inl ⟨by rfl, ?y22⟩) (by assumption) ?r22
        case y22 => (intro w hSw; (try dsimp only at hSw); go_simp; (first | done | with_reducible rfl))
        try simp only [Act.put, List.setIfInBounds_toArray, List.set_cons_zero, List.set_cons_succ]
        obtain ⟨t0, t1, t2, s0, s1, s2⟩ := cell3 HT4.out
        refine wpAnyH_ready (rs := [13]) (by kernel_rfl) (by simp) ?_
        refine AllReadyH.cons rfl (fun K hK => ?_) AllReadyH.nil
        go_simp
        clear t0 t1 t2 s0 s1 s2
        have ha9 := HA4.out.store3 HT4.out (by have := HNT4.out; omega) (.int .i64 up) (.int .i64 lo) (.slice (some ⟨rb2, 0, none⟩) (brR (k + 1) dd rs').length rc2)
        have ht9 := box3_set HT4.out (.int .i64 up) (.int .i64 lo) (.slice (some ⟨rb2, 0, none⟩) (brR (k + 1) dd rs').length rc2)
        have hTB : B ≤ T := by have := HNT4.out; have := HA4.out.ord; omega
        have hb9 := bl_set3 HB4.out hTB (.int .i64 up) (.int .i64 lo) (.slice (some ⟨rb2, 0, none⟩) (brR (k + 1) dd rs').length rc2)
        have hr9 := own_setb3 HR4.out (own_box HR4.out HT4.out (by decide)) (.int .i64 up) (.int .i64 lo) (.slice (some ⟨rb2, 0, none⟩) (brR (k + 1) dd rs').length rc2)
        have hm9 := own_setb3 HM4.out (own_box HM4.out HT4.out (by decide)) (.int .i64 up) (.int .i64 lo) (.slice (some ⟨rb2, 0, none⟩) (brR (k + 1) dd rs').length rc2)
        generalize (((v4.setCell ⟨T, 0, none⟩ (.int .i64 up)).setCell ⟨T, 1, none⟩ (.int .i64 lo)).setCell ⟨T, 2, none⟩ (.slice (some ⟨rb2, 0, none⟩) (brR (k + 1) dd rs').length rc2)) = w9 at ha9 ht9 hb9 hr9 hm9 ⊢
        have HA9 := Lib.hid ha9
        have HT9 := Lib.hid ht9
        have HB9 := Lib.hid hb9
        have HR9 := Lib.hid hr9
        have HM9 := Lib.hid hm9
        have HNT9 := Lib.hid HNT4.out
        clear ha9 ht9 hb9 hr9 hm9
        try clear n0 n1 n2 p0 p1 p2
        obtain ⟨n0, n1, n2, -, -, -⟩ := cell3 HA9.out.box
        obtain ⟨p0, p1, p2, -, -, -⟩ := cell3 ((HB9.out.block _ HWB.out).trans HFB.out)
        refine hK.out _ _ (⟨n0, n1, n2, p0, p1, p2⟩) (fun hHeld => ?_)
        clear hK K
        try simp only [Act.put]
        refine take1 (i := 14) (v := ?v23) (some 13) rfl rfl (by kernel_rfl) (by kernel_rfl) (by kernel_rfl) (fun _ _ _ h => h) (Or.inl ⟨by rfl, ?y23⟩) (by assumption) ?r23
        case y23 => (intro w hSw; (try dsimp only at hSw); go_simp; (first | done | with_reducible rfl))
        try simp only [Act.put, List.setIfInBounds_toArray, List.set_cons_zero, List.set_cons_succ]
        refine wpAnyH_done (by kernel_rfl) ?_ _
        clear n0 n1 n2 p0 p1 p2
        have HS9 : Hid (B ≤ w9.heap.size) := Lib.hid (by have := HA9.out.lt; have := HA9.out.ord; omega)
        have hcm := brM_len (k + 1) dd rs'
        go_wp2_with (at_builtin; refine wpList_append_rows (w := w9) rfl _ _ 32 rfl B 75 i0 (.agg #[.int .i64 0, .int .i64 0, .int .i64 0]) 3 24 Try.underlying32 hi hz0 hz1 hz2 rfl (by decide) mvC_len mvC_one g ms'.length c (flatC mvC ms') rfl HA9.out.moves (some ⟨g2, 0, none⟩) c2 (brM (k + 1) dd rs') rfl ?c2 ?c3 ?c4 ?c5 ?_)
        case c2 =>
          rcases (RowsR.of_own mvC_len HM9.out).src mvC_len (by decide) with h | ⟨ad, e1, h⟩
          · exact Or.inl h
          · exact Or.inr ⟨ad, e1, fun j u hj => h w9 (Below.refl _ _) j u hj⟩
        case c3 => unfold maxLen; omega
        case c4 => omega
        case c5 => exact HS9.out
        intro g3 c3 w10 ho hg _
        have HA10 := Lib.hid (HA9.out.setM ho hg)
        have HB10 : Hid (Below B w3 w10) := Lib.hid (HB9.out.grown hg HS9.out (fun q hq => by cases hq; exact (HA9.out.moves.lt g rfl).1))
        have HT10 := Lib.hid ((hg.block T (lt_of_block HT9.out) (by intro e; injection e with e; exact own_box HA9.out.moves HT9.out (by decide) g rfl e.symm)).trans HT9.out)
        have HR10 := Lib.hid (own_kept2 HR9.out HA9.out.moves (by decide) hg)
        clear ho hg
        obtain ⟨t0, t1, t2, -, -, -⟩ := cell3 HT10.out
        obtain ⟨n0, n1, n2, m0, m1, m2⟩ := cell3 HA10.out.box
        have ha11 := HA10.out.setF HR10.out
        have hb11 := bl_set3 HB10.out HA10.out.ord (.int .i64 up) (.int .i64 lo) (.slice (some ⟨rb2, 0, none⟩) (brR (k + 1) dd rs').length rc2)
        have HA11 := Lib.hid ha11
        have HB11 := Lib.hid hb11
        have HG11 := Lib.hid (HG.out.step hlt dd HDD.out)
        clear ha11 hb11
        have hwn : IntKind.i64.wrap ((nc : Int) + ((brC (k + 1) dd rs' : Nat) : Int)) = ((nc + brC (k + 1) dd rs' : Nat) : Int) := by rw [IntKind.wrap_i64]; have := brC_le (k + 1) dd rs'; omega
        go_wp2_with fail
        go_roundw
        case rel => exact ⟨k + 1, brR (k + 1) dd rs', ms' ++ brM (k + 1) dd rs', g3, c3, rb2, rc2, nc + brC (k + 1) dd rs', by first | rfl | (simp; done) | (congr 1; omega) | go_num, by go_num, by rw [List.length_append], HA11.out, HB11.out, HG11.out⟩
        case measure => simp [intOf]; omega
    · have hke : k = rs.length := by omega
      subst hke
      obtain ⟨e1, e2, e3⟩ := HG.out.done
      subst e1 e2 e3
      clear HG hmt
      have z2 : ¬ ((rs.length : Int) < (rs.length : Int)) := by omega
      go_wp2_with fail
      refine wp_region_held_drew (S := (fun u => u.cell? ⟨N, 0, none⟩ = some (.int .i64 up) ∧ u.cell? ⟨N, 1, none⟩ = some (.int .i64 lo) ∧ u.cell? ⟨N, 2, none⟩ = some (.slice (some ⟨rb, 0, none⟩) rs'.length rc))) (by kernel_rfl) (⟨n0, n1, n2⟩) (fun hHeld => ?_)
      have hb : Below wr.heap.size wr wr.drew := (Below.refl _ _).drew
      generalize wr.drew = w5 at hb hHeld ⊢
      have HA5 := Lib.hid (HA0.out.next hb)
      have HB5 : Hid (Below B w3 w5) := Lib.hid (HB0.out.trans (hb.mono (by have := HA0.out.lt; have := HA0.out.ord; omega)))
      clear n0 n1 n2 hb
      obtain ⟨n0, n1, n2, -, -, -⟩ := cell3 HA5.out.box
      have hz5 := (HB5.out.block _ HZB.out).trans HKZ.out
      obtain ⟨z0, z1, z2, y0, y1, y2⟩ := cell3 hz5
      refine take1 (i := 0) (v := ?v24) (some 42) rfl rfl (by kernel_rfl) (by kernel_rfl) (by kernel_rfl) (fun _ _ _ h => h) (Or.inl ⟨by rfl, ?y24⟩) (by assumption) ?r24
      case y24 => (intro w hSw; (try dsimp only at hSw); go_simp; (first | done | with_reducible rfl))
      try simp only [Act.put, List.setIfInBounds_toArray, List.set_cons_zero, List.set_cons_succ]
      refine take1 (i := 1) (v := ?v25) (some 43) rfl rfl (by kernel_rfl) (by kernel_rfl) (by kernel_rfl) (fun _ _ _ h => h) (Or.inl ⟨by rfl, ?y25⟩) (by assumption) ?r25
      case y25 => (intro w hSw; (try dsimp only at hSw); go_simp; (first | done | with_reducible rfl))
      try simp only [Act.put, List.setIfInBounds_toArray, List.set_cons_zero, List.set_cons_succ]
      refine take1 (i := 2) (v := ?v26) (some 44) rfl rfl (by kernel_rfl) (by kernel_rfl) (by kernel_rfl) (fun _ _ _ h => h) (Or.inl ⟨by rfl, ?y26⟩) (by assumption) ?r26
      case y26 => (intro w hSw; (try dsimp only at hSw); go_simp; (first | done | with_reducible rfl))
      try simp only [Act.put, List.setIfInBounds_toArray, List.set_cons_zero, List.set_cons_succ]
      refine take1 (i := 3) (v := ?v27) (some 4) rfl rfl (by kernel_rfl) (by kernel_rfl) (by kernel_rfl) (fun _ _ _ h => h) (Or.inl ⟨by rfl, ?y27⟩) (by assumption) ?r27
      case y27 => (intro w hSw; (try dsimp only at hSw); go_simp; (first | done | with_reducible rfl))
      try simp only [Act.put, List.setIfInBounds_toArray, List.set_cons_zero, List.set_cons_succ]
      refine wpAnyH_ready (rs := [4]) (by kernel_rfl) (by simp) ?_
      refine AllReadyH.cons rfl (fun K hK => ?_) AllReadyH.nil
      go_simp
      have hzz := box3_set hz5 (.int .i64 up) (.int .i64 lo) (.slice (some ⟨rb, 0, none⟩) rs'.length rc)
      have hnn := (Below.heap_setCell _ ⟨w.heap.size + 1, 2, none⟩ (.slice (some ⟨rb, 0, none⟩) rs'.length rc) N (by have := HA5.out.ord; have := HZB.out; show N ≠ w.heap.size + 1; omega)).trans ((Below.heap_setCell _ ⟨w.heap.size + 1, 1, none⟩ (.int .i64 lo) N (by have := HA5.out.ord; have := HZB.out; show N ≠ w.heap.size + 1; omega)).trans ((Below.heap_setCell w5 ⟨w.heap.size + 1, 0, none⟩ (.int .i64 up) N (by have := HA5.out.ord; have := HZB.out; show N ≠ w.heap.size + 1; omega)).trans HA5.out.box))
      have ho1 := own_set3 HA5.out.rods HZB.out (.int .i64 up) (.int .i64 lo) (.slice (some ⟨rb, 0, none⟩) rs'.length rc)
      have ho2 := own_set3 HA5.out.moves HZB.out (.int .i64 up) (.int .i64 lo) (.slice (some ⟨rb, 0, none⟩) rs'.length rc)
      have hbl := bl_set3 (HBW.out.trans (HB5.out.mono (by have := HZB.out; omega))) (Nat.le_succ w.heap.size) (.int .i64 up) (.int .i64 lo) (.slice (some ⟨rb, 0, none⟩) rs'.length rc)
      clear n0 n1 n2 z0 z1 z2 y0 y1 y2
      generalize ((w5.setCell ⟨w.heap.size + 1, 0, none⟩ (.int .i64 up)).setCell ⟨w.heap.size + 1, 1, none⟩ (.int .i64 lo)).setCell ⟨w.heap.size + 1, 2, none⟩ (.slice (some ⟨rb, 0, none⟩) rs'.length rc) = w6 at hzz hnn ho1 ho2 hbl ⊢
      obtain ⟨n0, n1, n2, -, -, -⟩ := cell3 hnn
      refine hK.out _ _ (⟨n0, n1, n2⟩) (fun hHeld => ?_)
      clear hK K
      try simp only [Act.put]
      refine take1 (i := 5) (v := ?v28) (some 6) rfl rfl (by kernel_rfl) (by kernel_rfl) (by kernel_rfl) (fun _ _ _ h => h) (Or.inl ⟨by rfl, ?y28⟩) (by assumption) ?r28
      case y28 => (intro w hSw; (try dsimp only at hSw); go_simp; (first | done | with_reducible rfl))
      try simp only [Act.put, List.setIfInBounds_toArray, List.set_cons_zero, List.set_cons_succ]
      refine wpAnyH_done (by kernel_rfl) ?_ _
      obtain ⟨z0, z1, z2, -, -, -⟩ := cell3 hzz
      have HO1 := Lib.hid ho1
      have HO2 := Lib.hid ho2
      have HBL := Lib.hid hbl
      clear hzz hnn ho1 ho2 hbl
      go_wp2_with fail
      have hwB : w.heap.size ≤ B := by have := HZB.out; omega
      exact bodyPost_ret (v := .tuple #[.slice (some ⟨g, 0, none⟩) ms'.length c, .agg #[.int .i64 up, .int .i64 lo, .slice (some ⟨rb, 0, none⟩) rs'.length rc], .int .i64 (nc : Nat)]) (by simp [results, Try.results64, go_sem, z0, z1, z2]) rfl ⟨⟨g, c, rb, rc, rfl, own_mono HO1.out hwB, own_mono HO2.out hwB⟩, HBL.out⟩
end Go.Proofs.Ytjkjaadcdolbhaa
