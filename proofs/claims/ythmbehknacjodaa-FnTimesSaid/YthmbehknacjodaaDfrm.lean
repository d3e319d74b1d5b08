/- A frame is drawn. -/
import Derived.Test.YthmbehknacjodaaKc
import Derived.Test.YthmbehknacjodaaKa
import Derived.Deep.AppendLies
namespace Go.Proofs.Ythmbehknacjodaa
set_option linter.unusedVariables false
open Go.RowKit
set_option linter.unusedSimpArgs false

set_option maxRecDepth 100000 in
set_option maxHeartbeats 6400000 in
theorem frame_any (cb : Nat) (cd : Value) (L : List UInt8) (n : Nat) (w : World) (hn : n < 4611686018427380000) (hc : CurAt w cb cd n) (hr : CodeR w cb cd L) :
    Calls Try.prog 127 #[.pointer (some ⟨cb, 0, none⟩)] w fun e w' => (∃ (up lo : Int) (sv : Value) (rs : List (Int × Int)), e = .returned (.agg #[.int .i64 up, .int .i64 lo, sv]) ∧ w'.ownsRow w.heap.size 77 2 sv rs.length (flat rs) ∧ rs.length ≤ 20) ∧ CurAt w' cb cd (n + 200) ∧ w.grownBy w' (some cb) := by
  obtain ⟨i0, hi, hz0, hz1, hz2⟩ := info_parts Try.infoRod
  have hcb := hc.lt
  have HR := Lib.hid hr
  obtain ⟨W0, hW0⟩ : ∃ W0, w.alloc (.cells #[.int .i64 0, .int .i64 0, .slice none 0 0] 42) = W0 := ⟨_, rfl⟩
  have hg0 : w.grownBy W0 none := by rw [← hW0]; exact grown_alloc _ _ _
  have hc0 : CurAt W0 cb cd n := hc.old hg0
  have HZ0 : Hid (W0.heap[w.heap.size]? = some (.cells #[.int .i64 0, .int .i64 0, .slice none 0 0] 42 (0, 0))) := Lib.hid (by rw [← hW0]; exact alloc_at rfl)
  have HG0 := Lib.hid (grown_any (r := some cb) hg0)
  have HP0 := Lib.hid (pick_any cb cd L n 2 W0 (by omega) (by omega) (by omega) hc0 (HR.out.grown HG0.out))
  have HS0 : Hid (W0.heap.size = w.heap.size + 1) := Lib.hid (by rw [← hW0]; simp)
  clear hg0 hc0 hc hr
  go_enter Try.func127, Try.ntmps127
  go_wp2_with fail
  try rw [hW0]
  refine (HP0.out).mono ?_
  rintro e w1 ⟨⟨r1, rfl, r10, r11⟩, hc1, hg1⟩
  have q1 : IntKind.i64.wrap (1 + r1) = 1 + r1 := by rw [IntKind.wrap_i64]; omega
  have HG1 := Lib.hid (grown_trans HG0.out hg1)
  have HZ1 := Lib.hid ((hg1.block _ (Array.getElem?_eq_some_iff.1 HZ0.out).1 (by intro e; injection e with e; omega)).trans HZ0.out)
  have HP1 := Lib.hid (pick_any cb cd L (n + 2) 2 w1 (by omega) (by omega) (by omega) hc1 (HR.out.grown HG1.out))
  have HS1 : Hid (w.heap.size + 1 ≤ w1.heap.size) := Lib.hid (by have := hg1.size; have := HS0.out; omega)
  clear hc1 hg1
  go_wp2_with fail
  refine (HP1.out).mono ?_
  rintro e w2 ⟨⟨r2, rfl, r20, r21⟩, hc2, hg2⟩
  have q2 : IntKind.i64.wrap (4 + r2) = 4 + r2 := by rw [IntKind.wrap_i64]; omega
  have HG2 := Lib.hid (grown_trans HG1.out hg2)
  have HZ2 := Lib.hid ((hg2.block _ (Array.getElem?_eq_some_iff.1 HZ1.out).1 (by intro e; injection e with e; omega)).trans HZ1.out)
  have HC2 := Lib.hid hc2
  have HS2 : Hid (w.heap.size + 1 ≤ w2.heap.size) := Lib.hid (by have := hg2.size; have := HS1.out; omega)
  clear hc2 hg2
  go_wp2_with fail
  have hf : FrAt w ((w2.alloc (.cells #[] 77)).alloc (.cells #[.int .i64 (1 + r1), .int .i64 (4 + r2), .slice (some ⟨w2.heap.size, 0, none⟩) 0 0] 42)) cb cd (n + 2 + 2) (w2.heap.size + 1) (1 + r1) (4 + r2) w2.heap.size 0 [] := by
    have ga := grown_alloc w2 (.cells #[] 77) none
    have gb := grown_alloc (w2.alloc (.cells #[] 77)) (.cells #[.int .i64 (1 + r1), .int .i64 (4 + r2), .slice (some ⟨w2.heap.size, 0, none⟩) 0 0] 42) none
    have ho : (w2.alloc (.cells #[] 77)).ownsRow (w.heap.size + 1) 77 2 (.slice (some ⟨w2.heap.size, 0, none⟩) 0 0) 0 [] := World.ownsRow_made _ _ _ HS2.out (Nat.zero_le _) (by simp)
    refine ⟨grown_trans (grown_trans HG2.out (grown_any ga)) (grown_any gb), (HC2.out.old ga).old gb, ?_, ?_, ho.alloc _, ?_⟩
    · have hlt := (Array.getElem?_eq_some_iff.1 HZ2.out).1
      exact (gb.block _ (Nat.lt_of_lt_of_le hlt ga.size) (by simp)).trans ((ga.block _ hlt (by simp)).trans HZ2.out)
    · exact alloc_at (by simp)
    · have := HS2.out; omega
  clear HZ0 HZ1 HZ2 HG0 HG1 HG2 HC2 HP0 HP1 HS0 HS1 HS2 hW0
  generalize ((w2.alloc (.cells #[] 77)).alloc (.cells #[.int .i64 (1 + r1), .int .i64 (4 + r2), .slice (some ⟨w2.heap.size, 0, none⟩) 0 0] 42)) = w3 at hf ⊢
  generalize w2.heap.size + 1 = F at hf ⊢
  generalize w2.heap.size = g0 at hf
  obtain ⟨up, hup⟩ : ∃ up, 1 + r1 = up := ⟨_, rfl⟩
  obtain ⟨lo, hlo⟩ : ∃ lo, 4 + r2 = lo := ⟨_, rfl⟩
  rw [hup, hlo] at hf
  have u0 : 1 ≤ up ∧ up ≤ 2 := by omega
  have u1 : 4 ≤ lo ∧ lo ≤ 5 := by omega
  try rw [hup]
  try rw [hlo]
  clear q1 q2 hup hlo r10 r11 r20 r21
  have q1 : IntKind.i64.wrap (up + 1) = up + 1 := by rw [IntKind.wrap_i64]; omega
  have q2 : IntKind.i64.wrap (lo + 1) = lo + 1 := by rw [IntKind.wrap_i64]; omega
  have HF := Lib.hid hf
  clear hf
  refine (pick_fr 5 HF.out hcb (by omega) (by omega) (by omega) HR.out).mono ?_
  rintro e w4 ⟨⟨r3, rfl, r30, r31⟩, hf⟩
  obtain ⟨T, hT⟩ : ∃ T : Nat, (T : Int) = 1 + r3 := ⟨(1 + r3).toNat, by omega⟩
  have q3 : IntKind.i64.wrap (1 + r3) = (T : Int) := by rw [IntKind.wrap_i64]; omega
  have hT5 : 1 ≤ T ∧ T ≤ 5 := by omega
  have HF4 := Lib.hid hf
  clear hf hT r30 r31 HF
  go_wp2_with fail
  go_loopw [4] (fun nv wr => ∃ (k m g cap : Nat) (rs : List (Int × Int)), nv = .int .i64 (k : Int) ∧ k + rs.length = T ∧ m ≤ n + 20 + 10 * rs.length ∧ FrAt w wr cb cd m F up lo g cap rs) (fun nv _ => (intOf nv).toNat)
  case atStart => exact ⟨T, _, _, _, [], by first | rfl | go_num, by simp, by simp, HF4.out⟩
  case round =>
    obtain ⟨k, m, g, cap, rs, rfl, hkr, hm, hf⟩ := hrel
    have HFr := Lib.hid hf
    clear hf HF4
    by_cases hk : 0 < (k : Int)
    · obtain ⟨k, rfl⟩ : ∃ j, k = j + 1 := ⟨k - 1, by omega⟩
      have q5 : IntKind.i64.wrap (((k + 1 : Nat) : Int) - 1) = (k : Int) := by rw [IntKind.wrap_i64]; omega
      have HF0 := Lib.hid (HFr.out.drew hcb)
      obtain ⟨c0, c1, c2, f0, f1, f2⟩ := cell3 HF0.out.2.2.2.1
      go_wp2_with fail
      refine wp_region_held_drew (S := (fun u => u.cell? ⟨F, 0, none⟩ = some (.int .i64 up) ∧ u.cell? ⟨F, 1, none⟩ = some (.int .i64 lo))) (by kernel_rfl) (⟨c0, c1⟩) (fun hHeld => ?_)
      refine take1 (i := 0) (v := ?v1) (some 20) rfl rfl (by kernel_rfl) (by kernel_rfl) (by kernel_rfl) (fun _ _ _ h => h) (Or.inl ⟨by rfl, ?y1⟩) (by assumption) ?r1
      case y1 => (intro w hSw; (try dsimp only at hSw); go_simp; (first | done | with_reducible rfl))
      try simp only [Act.put, List.setIfInBounds_toArray, List.set_cons_zero, List.set_cons_succ]
      refine take1 (i := 2) (v := ?v2) (some 22) rfl rfl (by kernel_rfl) (by kernel_rfl) (by kernel_rfl) (fun _ _ _ h => h) (Or.inl ⟨by rfl, ?y2⟩) (by assumption) ?r2
      case y2 => (intro w hSw; (try dsimp only at hSw); go_simp; (first | done | with_reducible rfl))
      try simp only [Act.put, List.setIfInBounds_toArray, List.set_cons_zero, List.set_cons_succ]
      refine take1 (i := 3) (v := ?v3) (some 23) rfl rfl (by kernel_rfl) (by kernel_rfl) (by kernel_rfl) (fun _ _ _ h => h) (Or.inl ⟨by rfl, ?y3⟩) (by assumption) ?r3
      case y3 => (intro w hSw; (try dsimp only at hSw); go_simp; (first | done | with_reducible rfl))
      try simp only [Act.put, List.setIfInBounds_toArray, List.set_cons_zero, List.set_cons_succ]
      refine take1 (i := 4) (v := ?v4) (some 24) rfl rfl (by kernel_rfl) (by kernel_rfl) (by kernel_rfl) (fun _ _ _ h => h) (Or.inl ⟨by rfl, ?y4⟩) (by assumption) ?r4
      case y4 => (intro w hSw; (try dsimp only at hSw); go_simp; (first | done | with_reducible rfl))
      try simp only [Act.put, List.setIfInBounds_toArray, List.set_cons_zero, List.set_cons_succ]
      refine take1 (i := 5) (v := ?v5) (some 25) rfl rfl (by kernel_rfl) (by kernel_rfl) (by kernel_rfl) (fun _ _ _ h => h) (Or.inl ⟨by rfl, ?y5⟩) (by assumption) ?r5
      case y5 => (intro w hSw; (try dsimp only at hSw); go_simp; (first | done | with_reducible rfl))
      try simp only [Act.put, List.setIfInBounds_toArray, List.set_cons_zero, List.set_cons_succ]
      refine take1 (i := 7) (v := ?v6) (some 27) rfl rfl (by kernel_rfl) (by kernel_rfl) (by kernel_rfl) (fun _ _ _ h => h) (Or.inl ⟨by rfl, ?y6⟩) (by assumption) ?r6
      case y6 => (intro w hSw; (try dsimp only at hSw); go_simp; (first | done | with_reducible rfl))
      try simp only [Act.put, List.setIfInBounds_toArray, List.set_cons_zero, List.set_cons_succ]
      refine take1 (i := 8) (v := ?v7) (some 28) rfl rfl (by kernel_rfl) (by kernel_rfl) (by kernel_rfl) (fun _ _ _ h => h) (Or.inl ⟨by rfl, ?y7⟩) (by assumption) ?r7
      case y7 => (intro w hSw; (try dsimp only at hSw); go_simp; (first | done | with_reducible rfl))
      try simp only [Act.put, List.setIfInBounds_toArray, List.set_cons_zero, List.set_cons_succ]
      refine take1 (i := 9) (v := ?v8) (some 29) rfl rfl (by kernel_rfl) (by kernel_rfl) (by kernel_rfl) (fun _ _ _ h => h) (Or.inl ⟨by rfl, ?y8⟩) (by assumption) ?r8
      case y8 => (intro w hSw; (try dsimp only at hSw); go_simp; (first | done | with_reducible rfl))
      try simp only [Act.put, List.setIfInBounds_toArray, List.set_cons_zero, List.set_cons_succ]
      refine take1 (i := 10) (v := ?v9) (some 30) rfl rfl (by kernel_rfl) (by kernel_rfl) (by kernel_rfl) (fun _ _ _ h => h) (Or.inl ⟨by rfl, ?y9⟩) (by assumption) ?r9
      case y9 => (intro w hSw; (try dsimp only at hSw); go_simp; (first | done | with_reducible rfl))
      try simp only [Act.put, List.setIfInBounds_toArray, List.set_cons_zero, List.set_cons_succ]
      refine wpAnyH_ready (rs := [1, 6]) (by kernel_rfl) (by simp) ?_
      refine AllReadyH.cons rfl (fun K hK => ?_) (AllReadyH.cons rfl (fun K hK => ?_) AllReadyH.nil)
      · skip
        go_simp
        refine hK.out _ _ (⟨c0, c1⟩) (fun hHeld => ?_)
        clear hK K
        try simp only [Act.put, List.setIfInBounds_toArray, List.set_cons_zero, List.set_cons_succ]
        refine wpAnyH_ready (rs := [6]) (by kernel_rfl) (by simp) ?_
        refine AllReadyH.cons rfl (fun K hK => ?_) AllReadyH.nil
        go_simp
        go_at_call 95
        refine (pick_fr (up + 1) HF0.out hcb (by omega) (by omega) (by omega) HR.out).mono ?_
        rintro e w112 ⟨⟨x, rfl, x0, x1⟩, hf⟩
        have HF112 := Lib.hid hf
        clear hf
        clear c0 c1 c2 f0 f1 f2
        obtain ⟨c0, c1, c2, f0, f1, f2⟩ := cell3 HF112.out.2.2.2.1
        refine hK.out _ _ (⟨c0, c1⟩) (fun hHeld => ?_)
        clear hK K
        try simp only [Act.put, List.setIfInBounds_toArray, List.set_cons_zero, List.set_cons_succ]
        refine wpAnyH_ready (rs := [11]) (by kernel_rfl) (by simp) ?_
        refine AllReadyH.cons rfl (fun K hK => ?_) AllReadyH.nil
        go_simp
        go_at_call 95
        refine (pick_fr (lo + 1) HF112.out hcb (by omega) (by omega) (by omega) HR.out).mono ?_
        rintro e w113 ⟨⟨y, rfl, y0, y1⟩, hf⟩
        have HF113 := Lib.hid hf
        clear hf
        clear c0 c1 c2 f0 f1 f2
        obtain ⟨c0, c1, c2, f0, f1, f2⟩ := cell3 HF113.out.2.2.2.1
        refine hK.out _ _ (⟨c0, c1⟩) (fun hHeld => ?_)
        clear hK K
        try simp only [Act.put, List.setIfInBounds_toArray, List.set_cons_zero, List.set_cons_succ]
        refine take1 (i := 12) (v := ?v10) (some 32) rfl rfl (by kernel_rfl) (by kernel_rfl) (by kernel_rfl) (fun _ _ _ h => h) (Or.inl ⟨by rfl, ?y10⟩) (by assumption) ?r10
        case y10 => (intro w hSw; (try dsimp only at hSw); go_simp; (first | done | with_reducible rfl))
        try simp only [Act.put, List.setIfInBounds_toArray, List.set_cons_zero, List.set_cons_succ]
        refine wpAnyH_ready (rs := [13]) (by kernel_rfl) (by simp) ?_
        refine AllReadyH.cons rfl (fun K hK => ?_) AllReadyH.nil
        go_simp
        have hf := HF113.out.alloc hcb (.cells #[.int .i64 x, .int .i64 y] 77)
        have hnb : (w113.alloc (.cells #[.int .i64 x, .int .i64 y] 77)).heap[w113.heap.size]? = some (.cells #[.int .i64 x, .int .i64 y] 77 (0, 0)) := alloc_at rfl
        generalize w113.alloc (.cells #[.int .i64 x, .int .i64 y] 77) = w114 at hf hnb ⊢
        have HF114 := Lib.hid hf
        have HNB := Lib.hid hnb
        clear hf hnb
        clear c0 c1 c2 f0 f1 f2
        obtain ⟨c0, c1, c2, f0, f1, f2⟩ := cell3 HF114.out.2.2.2.1
        refine hK.out _ _ (⟨c0, c1⟩) (fun hHeld => ?_)
        clear hK K
        try simp only [Act.put, List.setIfInBounds_toArray, List.set_cons_zero, List.set_cons_succ]
        refine wpAnyH_ready (rs := [14]) (by kernel_rfl) (by simp) ?_
        refine AllReadyH.cons rfl (fun K hK => ?_) AllReadyH.nil
        refine step_append_lies _ (by rfl) _ _ _ (by rfl) (w.heap.size + 1) 77 i0 (.agg #[.int .i64 0, .int .i64 0]) 2 16 Try.underlying34 hi hz0 hz1 hz2 rfl (by decide) _ rs.length (flat rs) (by rfl) HF114.out.2.2.2.2.1 ⟨w113.heap.size, 0, none⟩ 1 1 [.int .i64 x, .int .i64 y] (by rfl) (by rfl) (World.news_of_block HNB.out) ?h1 (by decide) ?h63 ?hby ?hbs _ rfl ?_
        case h1 => intro u hu; rcases List.mem_cons.1 hu with rfl | hu; rfl; rw [List.mem_singleton.1 hu]; rfl
        case h63 => unfold maxLen; omega
        case hby => omega
        case hbs => (have hq := HF114.out.gne; omega)
        intro g2 c2' wn hown hgr _ _
        have hf9 := HF114.out.push hcb hown hgr
        have hq := HF114.out.gne
        obtain ⟨n0, n1, n2, e0, e1, e2⟩ := cell3 ((hgr.block F (by omega) (by intro e; exact hq.1 (Option.some.inj (show some g = some F from e.symm)))).trans HF114.out.2.2.2.1)
        clear hq c0 c1 c2 f0 f1 f2
        refine hK.out _ _ (⟨n0, n1⟩) (fun hHeld => ?_)
        clear hK K
        try simp only [Act.put, List.setIfInBounds_toArray]
        refine take1 (i := 15) (v := ?v11) (some 35) rfl rfl (by kernel_rfl) (by kernel_rfl) (by kernel_rfl) (fun _ _ _ h => h) (Or.inl ⟨by rfl, ?y11⟩) (by assumption) ?r11
        case y11 => (intro w hSw; (try dsimp only at hSw); go_simp; (first | done | with_reducible rfl))
        try simp only [Act.put, List.setIfInBounds_toArray, List.set_cons_zero, List.set_cons_succ]
        refine wpAnyH_ready (rs := [16]) (by kernel_rfl) (by simp) ?_
        refine AllReadyH.cons rfl (fun K hK => ?_) AllReadyH.nil
        go_simp
        generalize wn.setCell ⟨F, 2, none⟩ (.slice (some ⟨g2, 0, none⟩) (rs.length + 1) c2') = wz at hf9 ⊢
        have HF9 := Lib.hid hf9
        clear hf9 n0 n1 n2 e0 e1 e2
        obtain ⟨c0, c1, c2, f0, f1, f2⟩ := cell3 HF9.out.2.2.2.1
        refine hK.out _ _ (⟨c0, c1⟩) (fun hHeld => ?_)
        clear hK K
        try simp only [Act.put]
        refine wpAnyH_done (by kernel_rfl) ?_ _
        go_wp2_with fail
        go_roundw
        case rel => exact ⟨k, _, _, _, _, by first | rfl | go_num, by rw [List.length_append, List.length_singleton]; omega, by rw [List.length_append, List.length_singleton]; omega, HF9.out⟩
        case measure => simp [intOf]; try omega
      · skip
        go_simp
        go_at_call 95
        refine (pick_fr (up + 1) HF0.out hcb (by omega) (by omega) (by omega) HR.out).mono ?_
        rintro e w115 ⟨⟨x, rfl, x0, x1⟩, hf⟩
        have HF115 := Lib.hid hf
        clear hf
        clear c0 c1 c2 f0 f1 f2
        obtain ⟨c0, c1, c2, f0, f1, f2⟩ := cell3 HF115.out.2.2.2.1
        refine hK.out _ _ (⟨c0, c1⟩) (fun hHeld => ?_)
        clear hK K
        try simp only [Act.put, List.setIfInBounds_toArray, List.set_cons_zero, List.set_cons_succ]
        refine wpAnyH_ready (rs := [1, 11]) (by kernel_rfl) (by simp) ?_
        refine AllReadyH.cons rfl (fun K hK => ?_) (AllReadyH.cons rfl (fun K hK => ?_) AllReadyH.nil)
        · skip
          go_simp
          refine hK.out _ _ (⟨c0, c1⟩) (fun hHeld => ?_)
          clear hK K
          try simp only [Act.put, List.setIfInBounds_toArray, List.set_cons_zero, List.set_cons_succ]
          refine wpAnyH_ready (rs := [11]) (by kernel_rfl) (by simp) ?_
          refine AllReadyH.cons rfl (fun K hK => ?_) AllReadyH.nil
          go_simp
          go_at_call 95
          refine (pick_fr (lo + 1) HF115.out hcb (by omega) (by omega) (by omega) HR.out).mono ?_
          rintro e w116 ⟨⟨y, rfl, y0, y1⟩, hf⟩
          have HF116 := Lib.hid hf
          clear hf
          clear c0 c1 c2 f0 f1 f2
          obtain ⟨c0, c1, c2, f0, f1, f2⟩ := cell3 HF116.out.2.2.2.1
          refine hK.out _ _ (⟨c0, c1⟩) (fun hHeld => ?_)
          clear hK K
          try simp only [Act.put, List.setIfInBounds_toArray, List.set_cons_zero, List.set_cons_succ]
          refine take1 (i := 12) (v := ?v12) (some 32) rfl rfl (by kernel_rfl) (by kernel_rfl) (by kernel_rfl) (fun _ _ _ h => h) (Or.inl ⟨by rfl, ?y12⟩) (by assumption) ?r12
          case y12 => (intro w hSw; (try dsimp only at hSw); go_simp; (first | done | with_reducible rfl))
          try simp only [Act.put, List.setIfInBounds_toArray, List.set_cons_zero, List.set_cons_succ]
          refine wpAnyH_ready (rs := [13]) (by kernel_rfl) (by simp) ?_
          refine AllReadyH.cons rfl (fun K hK => ?_) AllReadyH.nil
          go_simp
          have hf := HF116.out.alloc hcb (.cells #[.int .i64 x, .int .i64 y] 77)
          have hnb : (w116.alloc (.cells #[.int .i64 x, .int .i64 y] 77)).heap[w116.heap.size]? = some (.cells #[.int .i64 x, .int .i64 y] 77 (0, 0)) := alloc_at rfl
          generalize w116.alloc (.cells #[.int .i64 x, .int .i64 y] 77) = w117 at hf hnb ⊢
          have HF117 := Lib.hid hf
          have HNB := Lib.hid hnb
          clear hf hnb
          clear c0 c1 c2 f0 f1 f2
          obtain ⟨c0, c1, c2, f0, f1, f2⟩ := cell3 HF117.out.2.2.2.1
          refine hK.out _ _ (⟨c0, c1⟩) (fun hHeld => ?_)
          clear hK K
          try simp only [Act.put, List.setIfInBounds_toArray, List.set_cons_zero, List.set_cons_succ]
          refine wpAnyH_ready (rs := [14]) (by kernel_rfl) (by simp) ?_
          refine AllReadyH.cons rfl (fun K hK => ?_) AllReadyH.nil
          refine step_append_lies _ (by rfl) _ _ _ (by rfl) (w.heap.size + 1) 77 i0 (.agg #[.int .i64 0, .int .i64 0]) 2 16 Try.underlying34 hi hz0 hz1 hz2 rfl (by decide) _ rs.length (flat rs) (by rfl) HF117.out.2.2.2.2.1 ⟨w116.heap.size, 0, none⟩ 1 1 [.int .i64 x, .int .i64 y] (by rfl) (by rfl) (World.news_of_block HNB.out) ?h1 (by decide) ?h63 ?hby ?hbs _ rfl ?_
          case h1 => intro u hu; rcases List.mem_cons.1 hu with rfl | hu; rfl; rw [List.mem_singleton.1 hu]; rfl
          case h63 => unfold maxLen; omega
          case hby => omega
          case hbs => (have hq := HF117.out.gne; omega)
          intro g2 c2' wn hown hgr _ _
          have hf9 := HF117.out.push hcb hown hgr
          have hq := HF117.out.gne
          obtain ⟨n0, n1, n2, e0, e1, e2⟩ := cell3 ((hgr.block F (by omega) (by intro e; exact hq.1 (Option.some.inj (show some g = some F from e.symm)))).trans HF117.out.2.2.2.1)
          clear hq c0 c1 c2 f0 f1 f2
          refine hK.out _ _ (⟨n0, n1⟩) (fun hHeld => ?_)
          clear hK K
          try simp only [Act.put, List.setIfInBounds_toArray]
          refine take1 (i := 15) (v := ?v13) (some 35) rfl rfl (by kernel_rfl) (by kernel_rfl) (by kernel_rfl) (fun _ _ _ h => h) (Or.inl ⟨by rfl, ?y13⟩) (by assumption) ?r13
          case y13 => (intro w hSw; (try dsimp only at hSw); go_simp; (first | done | with_reducible rfl))
          try simp only [Act.put, List.setIfInBounds_toArray, List.set_cons_zero, List.set_cons_succ]
          refine wpAnyH_ready (rs := [16]) (by kernel_rfl) (by simp) ?_
          refine AllReadyH.cons rfl (fun K hK => ?_) AllReadyH.nil
          go_simp
          generalize wn.setCell ⟨F, 2, none⟩ (.slice (some ⟨g2, 0, none⟩) (rs.length + 1) c2') = wz at hf9 ⊢
          have HF9 := Lib.hid hf9
          clear hf9 n0 n1 n2 e0 e1 e2
          obtain ⟨c0, c1, c2, f0, f1, f2⟩ := cell3 HF9.out.2.2.2.1
          refine hK.out _ _ (⟨c0, c1⟩) (fun hHeld => ?_)
          clear hK K
          try simp only [Act.put]
          refine wpAnyH_done (by kernel_rfl) ?_ _
          go_wp2_with fail
          go_roundw
          case rel => exact ⟨k, _, _, _, _, by first | rfl | go_num, by rw [List.length_append, List.length_singleton]; omega, by rw [List.length_append, List.length_singleton]; omega, HF9.out⟩
          case measure => simp [intOf]; try omega
        · skip
          go_simp
          go_at_call 95
          refine (pick_fr (lo + 1) HF115.out hcb (by omega) (by omega) (by omega) HR.out).mono ?_
          rintro e w118 ⟨⟨y, rfl, y0, y1⟩, hf⟩
          have HF118 := Lib.hid hf
          clear hf
          clear c0 c1 c2 f0 f1 f2
          obtain ⟨c0, c1, c2, f0, f1, f2⟩ := cell3 HF118.out.2.2.2.1
          refine hK.out _ _ (⟨c0, c1⟩) (fun hHeld => ?_)
          clear hK K
          try simp only [Act.put, List.setIfInBounds_toArray, List.set_cons_zero, List.set_cons_succ]
          refine take1 (i := 12) (v := ?v14) (some 32) rfl rfl (by kernel_rfl) (by kernel_rfl) (by kernel_rfl) (fun _ _ _ h => h) (Or.inl ⟨by rfl, ?y14⟩) (by assumption) ?r14
          case y14 => (intro w hSw; (try dsimp only at hSw); go_simp; (first | done | with_reducible rfl))
          try simp only [Act.put, List.setIfInBounds_toArray, List.set_cons_zero, List.set_cons_succ]
          refine wpAnyH_ready (rs := [1, 13]) (by kernel_rfl) (by simp) ?_
          refine AllReadyH.cons rfl (fun K hK => ?_) (AllReadyH.cons rfl (fun K hK => ?_) AllReadyH.nil)
          · skip
            go_simp
            refine hK.out _ _ (⟨c0, c1⟩) (fun hHeld => ?_)
            clear hK K
            try simp only [Act.put, List.setIfInBounds_toArray, List.set_cons_zero, List.set_cons_succ]
            refine wpAnyH_ready (rs := [13]) (by kernel_rfl) (by simp) ?_
            refine AllReadyH.cons rfl (fun K hK => ?_) AllReadyH.nil
            go_simp
            have hf := HF118.out.alloc hcb (.cells #[.int .i64 x, .int .i64 y] 77)
            have hnb : (w118.alloc (.cells #[.int .i64 x, .int .i64 y] 77)).heap[w118.heap.size]? = some (.cells #[.int .i64 x, .int .i64 y] 77 (0, 0)) := alloc_at rfl
            generalize w118.alloc (.cells #[.int .i64 x, .int .i64 y] 77) = w119 at hf hnb ⊢
            have HF119 := Lib.hid hf
            have HNB := Lib.hid hnb
            clear hf hnb
            clear c0 c1 c2 f0 f1 f2
            obtain ⟨c0, c1, c2, f0, f1, f2⟩ := cell3 HF119.out.2.2.2.1
            refine hK.out _ _ (⟨c0, c1⟩) (fun hHeld => ?_)
            clear hK K
            try simp only [Act.put, List.setIfInBounds_toArray, List.set_cons_zero, List.set_cons_succ]
            refine wpAnyH_ready (rs := [14]) (by kernel_rfl) (by simp) ?_
            refine AllReadyH.cons rfl (fun K hK => ?_) AllReadyH.nil
            refine step_append_lies _ (by rfl) _ _ _ (by rfl) (w.heap.size + 1) 77 i0 (.agg #[.int .i64 0, .int .i64 0]) 2 16 Try.underlying34 hi hz0 hz1 hz2 rfl (by decide) _ rs.length (flat rs) (by rfl) HF119.out.2.2.2.2.1 ⟨w118.heap.size, 0, none⟩ 1 1 [.int .i64 x, .int .i64 y] (by rfl) (by rfl) (World.news_of_block HNB.out) ?h1 (by decide) ?h63 ?hby ?hbs _ rfl ?_
            case h1 => intro u hu; rcases List.mem_cons.1 hu with rfl | hu; rfl; rw [List.mem_singleton.1 hu]; rfl
            case h63 => unfold maxLen; omega
            case hby => omega
            case hbs => (have hq := HF119.out.gne; omega)
            intro g2 c2' wn hown hgr _ _
            have hf9 := HF119.out.push hcb hown hgr
            have hq := HF119.out.gne
            obtain ⟨n0, n1, n2, e0, e1, e2⟩ := cell3 ((hgr.block F (by omega) (by intro e; exact hq.1 (Option.some.inj (show some g = some F from e.symm)))).trans HF119.out.2.2.2.1)
            clear hq c0 c1 c2 f0 f1 f2
            refine hK.out _ _ (⟨n0, n1⟩) (fun hHeld => ?_)
            clear hK K
            try simp only [Act.put, List.setIfInBounds_toArray]
            refine take1 (i := 15) (v := ?v15) (some 35) rfl rfl (by kernel_rfl) (by kernel_rfl) (by kernel_rfl) (fun _ _ _ h => h) (Or.inl ⟨by rfl, ?y15⟩) (by assumption) ?r15
            case y15 => (intro w hSw; (try dsimp only at hSw); go_simp; (first | done | with_reducible rfl))
            try simp only [Act.put, List.setIfInBounds_toArray, List.set_cons_zero, List.set_cons_succ]
            refine wpAnyH_ready (rs := [16]) (by kernel_rfl) (by simp) ?_
            refine AllReadyH.cons rfl (fun K hK => ?_) AllReadyH.nil
            go_simp
            generalize wn.setCell ⟨F, 2, none⟩ (.slice (some ⟨g2, 0, none⟩) (rs.length + 1) c2') = wz at hf9 ⊢
            have HF9 := Lib.hid hf9
            clear hf9 n0 n1 n2 e0 e1 e2
            obtain ⟨c0, c1, c2, f0, f1, f2⟩ := cell3 HF9.out.2.2.2.1
            refine hK.out _ _ (⟨c0, c1⟩) (fun hHeld => ?_)
            clear hK K
            try simp only [Act.put]
            refine wpAnyH_done (by kernel_rfl) ?_ _
            go_wp2_with fail
            go_roundw
            case rel => exact ⟨k, _, _, _, _, by first | rfl | go_num, by rw [List.length_append, List.length_singleton]; omega, by rw [List.length_append, List.length_singleton]; omega, HF9.out⟩
            case measure => simp [intOf]; try omega
          · skip
            go_simp
            have hf := HF118.out.alloc hcb (.cells #[.int .i64 x, .int .i64 y] 77)
            have hnb : (w118.alloc (.cells #[.int .i64 x, .int .i64 y] 77)).heap[w118.heap.size]? = some (.cells #[.int .i64 x, .int .i64 y] 77 (0, 0)) := alloc_at rfl
            generalize w118.alloc (.cells #[.int .i64 x, .int .i64 y] 77) = w120 at hf hnb ⊢
            have HF120 := Lib.hid hf
            have HNB := Lib.hid hnb
            clear hf hnb
            clear c0 c1 c2 f0 f1 f2
            obtain ⟨c0, c1, c2, f0, f1, f2⟩ := cell3 HF120.out.2.2.2.1
            refine hK.out _ _ (⟨c0, c1⟩) (fun hHeld => ?_)
            clear hK K
            try simp only [Act.put, List.setIfInBounds_toArray, List.set_cons_zero, List.set_cons_succ]
            refine wpAnyH_ready (rs := [1]) (by kernel_rfl) (by simp) ?_
            refine AllReadyH.cons rfl (fun K hK => ?_) AllReadyH.nil
            go_simp
            refine hK.out _ _ (⟨c0, c1⟩) (fun hHeld => ?_)
            clear hK K
            try simp only [Act.put, List.setIfInBounds_toArray, List.set_cons_zero, List.set_cons_succ]
            refine wpAnyH_ready (rs := [14]) (by kernel_rfl) (by simp) ?_
            refine AllReadyH.cons rfl (fun K hK => ?_) AllReadyH.nil
            refine step_append_lies _ (by rfl) _ _ _ (by rfl) (w.heap.size + 1) 77 i0 (.agg #[.int .i64 0, .int .i64 0]) 2 16 Try.underlying34 hi hz0 hz1 hz2 rfl (by decide) _ rs.length (flat rs) (by rfl) HF120.out.2.2.2.2.1 ⟨w118.heap.size, 0, none⟩ 1 1 [.int .i64 x, .int .i64 y] (by rfl) (by rfl) (World.news_of_block HNB.out) ?h1 (by decide) ?h63 ?hby ?hbs _ rfl ?_
            case h1 => intro u hu; rcases List.mem_cons.1 hu with rfl | hu; rfl; rw [List.mem_singleton.1 hu]; rfl
            case h63 => unfold maxLen; omega
            case hby => omega
            case hbs => (have hq := HF120.out.gne; omega)
            intro g2 c2' wn hown hgr _ _
            have hf9 := HF120.out.push hcb hown hgr
            have hq := HF120.out.gne
            obtain ⟨n0, n1, n2, e0, e1, e2⟩ := cell3 ((hgr.block F (by omega) (by intro e; exact hq.1 (Option.some.inj (show some g = some F from e.symm)))).trans HF120.out.2.2.2.1)
            clear hq c0 c1 c2 f0 f1 f2
            refine hK.out _ _ (⟨n0, n1⟩) (fun hHeld => ?_)
            clear hK K
            try simp only [Act.put, List.setIfInBounds_toArray]
            refine take1 (i := 15) (v := ?v16) (some 35) rfl rfl (by kernel_rfl) (by kernel_rfl) (by kernel_rfl) (fun _ _ _ h => h) (Or.inl ⟨by rfl, ?y16⟩) (by assumption) ?r16
            case y16 => (intro w hSw; (try dsimp only at hSw); go_simp; (first | done | with_reducible rfl))
            try simp only [Act.put, List.setIfInBounds_toArray, List.set_cons_zero, List.set_cons_succ]
            refine wpAnyH_ready (rs := [16]) (by kernel_rfl) (by simp) ?_
            refine AllReadyH.cons rfl (fun K hK => ?_) AllReadyH.nil
            go_simp
            generalize wn.setCell ⟨F, 2, none⟩ (.slice (some ⟨g2, 0, none⟩) (rs.length + 1) c2') = wz at hf9 ⊢
            have HF9 := Lib.hid hf9
            clear hf9 n0 n1 n2 e0 e1 e2
            obtain ⟨c0, c1, c2, f0, f1, f2⟩ := cell3 HF9.out.2.2.2.1
            refine hK.out _ _ (⟨c0, c1⟩) (fun hHeld => ?_)
            clear hK K
            try simp only [Act.put]
            refine wpAnyH_done (by kernel_rfl) ?_ _
            go_wp2_with fail
            go_roundw
            case rel => exact ⟨k, _, _, _, _, by first | rfl | go_num, by rw [List.length_append, List.length_singleton]; omega, by rw [List.length_append, List.length_singleton]; omega, HF9.out⟩
            case measure => simp [intOf]; try omega
    · obtain rfl : k = 0 := by omega
      go_wp2_with fail
      refine (pick_fr 32 HFr.out hcb (by omega) (by omega) (by omega) HR.out).mono ?_
      rintro e w5 ⟨⟨r, rfl, t0, t1⟩, hf⟩
      have HF5 := Lib.hid hf
      clear hf HFr
      by_cases e0 : r = 0
      · subst e0
        have hl : 0 < rs.length := by omega
        have HF6 := Lib.hid (HF5.out.drew hcb)
        obtain ⟨c0, c1, c2, f0, f1, f2⟩ := cell3 HF6.out.2.2.2.1
        go_wp2_with fail
        refine wp_region_held_drew (S := (fun u => u.cell? ⟨F, 2, none⟩ = some (.slice (some ⟨g, 0, none⟩) rs.length cap))) (by kernel_rfl) (c2) (fun hHeld => ?_)
        generalize w5.drew = w6 at HF6 c0 c1 c2 f0 f1 f2 hHeld ⊢
        refine take1 (i := 0) (v := ?v17) (some 40) rfl rfl (by kernel_rfl) (by kernel_rfl) (by kernel_rfl) (fun _ _ _ h => h) (Or.inl ⟨by rfl, ?y17⟩) (by assumption) ?r17
        case y17 => (intro w hSw; (try dsimp only at hSw); go_simp; (first | done | with_reducible rfl))
        try simp only [Act.put, List.setIfInBounds_toArray, List.set_cons_zero, List.set_cons_succ]
        refine take1 (i := 1) (v := ?v18) (some 41) rfl rfl (by kernel_rfl) (by kernel_rfl) (by kernel_rfl) (fun _ _ _ h => h) (Or.inl ⟨by rfl, ?y18⟩) (by assumption) ?r18
        case y18 => (intro w hSw; (try dsimp only at hSw); go_simp; (first | done | with_reducible rfl))
        try simp only [Act.put, List.setIfInBounds_toArray, List.set_cons_zero, List.set_cons_succ]
        refine take1 (i := 2) (v := ?v19) (some 42) rfl rfl (by kernel_rfl) (by kernel_rfl) (by kernel_rfl) (fun _ _ _ h => h) (Or.inl ⟨by rfl, ?y19⟩) (by assumption) ?r19
        case y19 => (intro w hSw; (try dsimp only at hSw); go_simp; (first | done | with_reducible rfl))
        try simp only [Act.put, List.setIfInBounds_toArray, List.set_cons_zero, List.set_cons_succ]
        refine take1 (i := 5) (v := ?v20) (some 45) rfl rfl (by kernel_rfl) (by kernel_rfl) (by kernel_rfl) (fun _ _ _ h => h) (Or.inl ⟨by rfl, ?y20⟩) (by assumption) ?r20
        case y20 => (intro w hSw; (try dsimp only at hSw); go_simp; (first | done | with_reducible rfl))
        try simp only [Act.put, List.setIfInBounds_toArray, List.set_cons_zero, List.set_cons_succ]
        refine wpAnyH_ready (rs := [3, 6]) (by kernel_rfl) (by simp) ?_
        refine AllReadyH.cons rfl (fun K hK => ?_) (AllReadyH.cons rfl (fun K hK => ?_) AllReadyH.nil)
        · skip
          go_simp
          have hf := HF6.out.alloc hcb (.cells #[.int .i64 (-1), .int .i64 0, .int .i64 3] 3)
          have hhA : (w6.alloc (.cells #[.int .i64 (-1), .int .i64 0, .int .i64 3] 3)).heap[w6.heap.size]? = some (.cells ([-1, 0, 3].map (Value.int .i64)).toArray 3 (0, 0)) := alloc_at rfl
          have HNA : Hid (w6.heap.size ≠ cb) := Lib.hid (by have := HF6.out.gne; omega)
          generalize w6.alloc (.cells #[.int .i64 (-1), .int .i64 0, .int .i64 3] 3) = w101 at hf hhA  ⊢
          generalize w6.heap.size = BA at hhA HNA ⊢
          have HF101 := Lib.hid hf
          have HHA101 := Lib.hid hhA
          clear hhA
          clear hf c0 c1 c2 f0 f1 f2
          obtain ⟨c0, c1, c2, f0, f1, f2⟩ := cell3 HF101.out.2.2.2.1
          refine hK.out _ _ (c2) (fun hHeld => ?_)
          clear hK K
          try simp only [Act.put, List.setIfInBounds_toArray, List.set_cons_zero, List.set_cons_succ]
          refine wpAnyH_ready (rs := [4, 6]) (by kernel_rfl) (by simp) ?_
          refine AllReadyH.cons rfl (fun K hK => ?_) (AllReadyH.cons rfl (fun K hK => ?_) AllReadyH.nil)
          · skip
            go_simp
            go_at_call 87
            refine (among_any cb cd L _ _ [-1, 0, 3] _ (by omega) (by decide) (slr_heap HHA101.out (by decide)) (fun a m c e => by cases e; exact HNA.out) HF101.out.2.1 (HF101.out.code HR.out)).mono ?_
            rintro e w102 ⟨⟨x, rfl, -⟩, hc', hg'⟩
            have HF102 := Lib.hid (HF101.out.step hcb hg' hc')
            clear hc' hg' c0 c1 c2 f0 f1 f2
            obtain ⟨c0, c1, c2, f0, f1, f2⟩ := cell3 HF102.out.2.2.2.1
            refine hK.out _ _ (c2) (fun hHeld => ?_)
            clear hK K
            try simp only [Act.put, List.setIfInBounds_toArray, List.set_cons_zero, List.set_cons_succ]
            refine wpAnyH_ready (rs := [6]) (by kernel_rfl) (by simp) ?_
            refine AllReadyH.cons rfl (fun K hK => ?_) AllReadyH.nil
            go_simp
            have hf := HF102.out.alloc hcb (.cells #[.int .i64 (-1), .int .i64 0, .int .i64 6] 3)
            have hhB : (w102.alloc (.cells #[.int .i64 (-1), .int .i64 0, .int .i64 6] 3)).heap[w102.heap.size]? = some (.cells ([-1, 0, 6].map (Value.int .i64)).toArray 3 (0, 0)) := alloc_at rfl
            have HNB : Hid (w102.heap.size ≠ cb) := Lib.hid (by have := HF102.out.gne; omega)
            generalize w102.alloc (.cells #[.int .i64 (-1), .int .i64 0, .int .i64 6] 3) = w103 at hf hhB  ⊢
            generalize w102.heap.size = BB at hhB HNB ⊢
            have HF103 := Lib.hid hf
            have HHB103 := Lib.hid hhB
            clear hhB
            clear hf c0 c1 c2 f0 f1 f2
            obtain ⟨c0, c1, c2, f0, f1, f2⟩ := cell3 HF103.out.2.2.2.1
            refine hK.out _ _ (c2) (fun hHeld => ?_)
            clear hK K
            try simp only [Act.put, List.setIfInBounds_toArray, List.set_cons_zero, List.set_cons_succ]
            refine wpAnyH_ready (rs := [7]) (by kernel_rfl) (by simp) ?_
            refine AllReadyH.cons rfl (fun K hK => ?_) AllReadyH.nil
            go_simp
            go_at_call 87
            refine (among_any cb cd L _ _ [-1, 0, 6] _ (by omega) (by decide) (slr_heap HHB103.out (by decide)) (fun a m c e => by cases e; exact HNB.out) HF103.out.2.1 (HF103.out.code HR.out)).mono ?_
            rintro e w104 ⟨⟨y, rfl, -⟩, hc', hg'⟩
            have HF104 := Lib.hid (HF103.out.step hcb hg' hc')
            clear hc' hg' c0 c1 c2 f0 f1 f2
            obtain ⟨c0, c1, c2, f0, f1, f2⟩ := cell3 HF104.out.2.2.2.1
            refine hK.out _ _ (c2) (fun hHeld => ?_)
            clear hK K
            try simp only [Act.put, List.setIfInBounds_toArray, List.set_cons_zero, List.set_cons_succ]
            have hfl : 2 ≤ (flat rs).length := by rw [flat_len]; omega
            obtain ⟨u0, d0⟩ : ∃ u, w104.cell? ⟨g, 0, none⟩ = some u := ⟨_, (HF104.out.2.2.2.2.1.cellAt 0 (by omega)).trans (List.getElem?_eq_getElem (by omega))⟩
            obtain ⟨u1, d1⟩ : ∃ u, w104.cell? ⟨g, 1, none⟩ = some u := ⟨_, (HF104.out.2.2.2.2.1.cellAt 1 (by omega)).trans (List.getElem?_eq_getElem (by omega))⟩
            have f9 := HF104.out.2.2.2.2.1.frozenAt 0
            have f8 := HF104.out.2.2.2.2.1.frozenAt 1
            refine take1 (i := 8) (v := ?v21) (some 48) rfl rfl (by kernel_rfl) (by kernel_rfl) (by kernel_rfl) (fun _ _ _ h => h) (Or.inl ⟨by rfl, ?y21⟩) (by assumption) ?r21
            case y21 => (intro w hSw; (try dsimp only at hSw); go_simp; (first | done | with_reducible rfl))
            try simp only [Act.put, List.setIfInBounds_toArray, List.set_cons_zero, List.set_cons_succ]
            refine take1 (i := 9) (v := ?v22) (some 49) rfl rfl (by kernel_rfl) (by kernel_rfl) (by kernel_rfl) (fun _ _ _ h => h) (Or.inl ⟨by rfl, ?y22⟩) (by assumption) ?r22
            case y22 => (intro w hSw; (try dsimp only at hSw); go_simp; (first | done | with_reducible rfl))
            try simp only [Act.put, List.setIfInBounds_toArray, List.set_cons_zero, List.set_cons_succ]
            refine wpAnyH_ready (rs := [10]) (by kernel_rfl) (by simp) ?_
            refine AllReadyH.cons rfl (fun K hK => ?_) AllReadyH.nil
            go_simp
            have hf9 := HF104.out.first (x := x) (y := y) hcb hl
            generalize (w104.setCell ⟨g, 0, none⟩ (.int .i64 x)).setCell ⟨g, 1, none⟩ (.int .i64 y) = wz at hf9 ⊢
            obtain ⟨rs2, hrs2⟩ : ∃ rs2, rs.set 0 (x, y) = rs2 := ⟨_, rfl⟩
            have hr2 : rs2.length = rs.length := by rw [← hrs2]; simp
            rw [hrs2] at hf9
            clear hrs2
            have HF9 := Lib.hid hf9
            have HR2 := Lib.hid hr2
            have hr3 : rs2.length ≤ 20 := by omega
            clear hr2 hf9 hfl d0 d1 f8 f9 c0 c1 c2 f0 f1 f2
            obtain ⟨c0, c1, c2, f0, f1, f2⟩ := cell3 HF9.out.2.2.2.1
            refine hK.out _ _ ((by rw [c2, HR2.out])) (fun hHeld => ?_)
            clear hK K
            try simp only [Act.put]
            refine wpAnyH_done (by kernel_rfl) ?_ _
            clear hHeld c0 c1 c2 f0 f1 f2
            have hfin := HF9.out.fin hcb
            obtain ⟨z0, z1, z2, y0, y1, y2⟩ := cell3 HF9.out.2.2.1
            obtain ⟨c0, c1, c2, f0, f1, f2⟩ := cell3 HF9.out.2.2.2.1
            have HFIN := Lib.hid hfin
            clear hfin
            go_wp2_with fail
            first
              | exact bodyPost_ret (v := .agg #[.int .i64 up, .int .i64 lo, .slice (some ⟨g, 0, none⟩) rs2.length cap]) (by simp [results, Try.results127, go_sem, z0, z1, z2]) rfl ⟨⟨_, _, _, rs2, rfl, (HFIN.out _ _ _).1, by omega⟩, (HFIN.out _ _ _).2.1.more (by omega), (HFIN.out _ _ _).2.2⟩
              | exact bodyPost_ret (v := .agg #[.int .i64 up, .int .i64 lo, .slice (some ⟨g, 0, none⟩) rs2.length cap]) (by simp [results, Try.results127, go_sem, z0, z1, z2]) rfl ⟨⟨_, _, _, rfl, rs2, (HFIN.out _ _ _).1, by omega⟩, (HFIN.out _ _ _).2.1.more (by omega), (HFIN.out _ _ _).2.2⟩
          · skip
            go_simp
            have hf := HF101.out.alloc hcb (.cells #[.int .i64 (-1), .int .i64 0, .int .i64 6] 3)
            have hhB : (w101.alloc (.cells #[.int .i64 (-1), .int .i64 0, .int .i64 6] 3)).heap[w101.heap.size]? = some (.cells ([-1, 0, 6].map (Value.int .i64)).toArray 3 (0, 0)) := alloc_at rfl
            have hhA := (grown_alloc w101 (.cells #[.int .i64 (-1), .int .i64 0, .int .i64 6] 3) none).block _ (Array.getElem?_eq_some_iff.1 HHA101.out).1 (by simp) |>.trans HHA101.out
            have HNB : Hid (w101.heap.size ≠ cb) := Lib.hid (by have := HF101.out.gne; omega)
            generalize w101.alloc (.cells #[.int .i64 (-1), .int .i64 0, .int .i64 6] 3) = w105 at hf hhB hhA ⊢
            generalize w101.heap.size = BB at hhB HNB ⊢
            have HF105 := Lib.hid hf
            have HHA105 := Lib.hid hhA
            clear hhA
            have HHB105 := Lib.hid hhB
            clear hhB
            clear hf c0 c1 c2 f0 f1 f2
            obtain ⟨c0, c1, c2, f0, f1, f2⟩ := cell3 HF105.out.2.2.2.1
            refine hK.out _ _ (c2) (fun hHeld => ?_)
            clear hK K
            try simp only [Act.put, List.setIfInBounds_toArray, List.set_cons_zero, List.set_cons_succ]
            refine wpAnyH_ready (rs := [4]) (by kernel_rfl) (by simp) ?_
            refine AllReadyH.cons rfl (fun K hK => ?_) AllReadyH.nil
            go_simp
            go_at_call 87
            refine (among_any cb cd L _ _ [-1, 0, 3] _ (by omega) (by decide) (slr_heap HHA105.out (by decide)) (fun a m c e => by cases e; exact HNA.out) HF105.out.2.1 (HF105.out.code HR.out)).mono ?_
            rintro e w106 ⟨⟨x, rfl, -⟩, hc', hg'⟩
            have HF106 := Lib.hid (HF105.out.step hcb hg' hc')
            have HHB106 := Lib.hid ((hg'.block _ (Array.getElem?_eq_some_iff.1 HHB105.out).1 (by intro e; exact HNB.out (Option.some.inj e))).trans HHB105.out)
            clear hc' hg' c0 c1 c2 f0 f1 f2
            obtain ⟨c0, c1, c2, f0, f1, f2⟩ := cell3 HF106.out.2.2.2.1
            refine hK.out _ _ (c2) (fun hHeld => ?_)
            clear hK K
            try simp only [Act.put, List.setIfInBounds_toArray, List.set_cons_zero, List.set_cons_succ]
            refine wpAnyH_ready (rs := [7]) (by kernel_rfl) (by simp) ?_
            refine AllReadyH.cons rfl (fun K hK => ?_) AllReadyH.nil
            go_simp
            go_at_call 87
            refine (among_any cb cd L _ _ [-1, 0, 6] _ (by omega) (by decide) (slr_heap HHB106.out (by decide)) (fun a m c e => by cases e; exact HNB.out) HF106.out.2.1 (HF106.out.code HR.out)).mono ?_
            rintro e w107 ⟨⟨y, rfl, -⟩, hc', hg'⟩
            have HF107 := Lib.hid (HF106.out.step hcb hg' hc')
            clear hc' hg' c0 c1 c2 f0 f1 f2
            obtain ⟨c0, c1, c2, f0, f1, f2⟩ := cell3 HF107.out.2.2.2.1
            refine hK.out _ _ (c2) (fun hHeld => ?_)
            clear hK K
            try simp only [Act.put, List.setIfInBounds_toArray, List.set_cons_zero, List.set_cons_succ]
            have hfl : 2 ≤ (flat rs).length := by rw [flat_len]; omega
            obtain ⟨u0, d0⟩ : ∃ u, w107.cell? ⟨g, 0, none⟩ = some u := ⟨_, (HF107.out.2.2.2.2.1.cellAt 0 (by omega)).trans (List.getElem?_eq_getElem (by omega))⟩
            obtain ⟨u1, d1⟩ : ∃ u, w107.cell? ⟨g, 1, none⟩ = some u := ⟨_, (HF107.out.2.2.2.2.1.cellAt 1 (by omega)).trans (List.getElem?_eq_getElem (by omega))⟩
            have f9 := HF107.out.2.2.2.2.1.frozenAt 0
            have f8 := HF107.out.2.2.2.2.1.frozenAt 1
            refine take1 (i := 8) (v := ?v23) (some 48) rfl rfl (by kernel_rfl) (by kernel_rfl) (by kernel_rfl) (fun _ _ _ h => h) (Or.inl ⟨by rfl, ?y23⟩) (by assumption) ?r23
            case y23 => (intro w hSw; (try dsimp only at hSw); go_simp; (first | done | with_reducible rfl))
            try simp only [Act.put, List.setIfInBounds_toArray, List.set_cons_zero, List.set_cons_succ]
            refine take1 (i := 9) (v := ?v24) (some 49) rfl rfl (by kernel_rfl) (by kernel_rfl) (by kernel_rfl) (fun _ _ _ h => h) (Or.inl ⟨by rfl, ?y24⟩) (by assumption) ?r24
            case y24 => (intro w hSw; (try dsimp only at hSw); go_simp; (first | done | with_reducible rfl))
            try simp only [Act.put, List.setIfInBounds_toArray, List.set_cons_zero, List.set_cons_succ]
            refine wpAnyH_ready (rs := [10]) (by kernel_rfl) (by simp) ?_
            refine AllReadyH.cons rfl (fun K hK => ?_) AllReadyH.nil
            go_simp
            have hf9 := HF107.out.first (x := x) (y := y) hcb hl
            generalize (w107.setCell ⟨g, 0, none⟩ (.int .i64 x)).setCell ⟨g, 1, none⟩ (.int .i64 y) = wz at hf9 ⊢
            obtain ⟨rs2, hrs2⟩ : ∃ rs2, rs.set 0 (x, y) = rs2 := ⟨_, rfl⟩
            have hr2 : rs2.length = rs.length := by rw [← hrs2]; simp
            rw [hrs2] at hf9
            clear hrs2
            have HF9 := Lib.hid hf9
            have HR2 := Lib.hid hr2
            have hr3 : rs2.length ≤ 20 := by omega
            clear hr2 hf9 hfl d0 d1 f8 f9 c0 c1 c2 f0 f1 f2
            obtain ⟨c0, c1, c2, f0, f1, f2⟩ := cell3 HF9.out.2.2.2.1
            refine hK.out _ _ ((by rw [c2, HR2.out])) (fun hHeld => ?_)
            clear hK K
            try simp only [Act.put]
            refine wpAnyH_done (by kernel_rfl) ?_ _
            clear hHeld c0 c1 c2 f0 f1 f2
            have hfin := HF9.out.fin hcb
            obtain ⟨z0, z1, z2, y0, y1, y2⟩ := cell3 HF9.out.2.2.1
            obtain ⟨c0, c1, c2, f0, f1, f2⟩ := cell3 HF9.out.2.2.2.1
            have HFIN := Lib.hid hfin
            clear hfin
            go_wp2_with fail
            first
              | exact bodyPost_ret (v := .agg #[.int .i64 up, .int .i64 lo, .slice (some ⟨g, 0, none⟩) rs2.length cap]) (by simp [results, Try.results127, go_sem, z0, z1, z2]) rfl ⟨⟨_, _, _, rs2, rfl, (HFIN.out _ _ _).1, by omega⟩, (HFIN.out _ _ _).2.1.more (by omega), (HFIN.out _ _ _).2.2⟩
              | exact bodyPost_ret (v := .agg #[.int .i64 up, .int .i64 lo, .slice (some ⟨g, 0, none⟩) rs2.length cap]) (by simp [results, Try.results127, go_sem, z0, z1, z2]) rfl ⟨⟨_, _, _, rfl, rs2, (HFIN.out _ _ _).1, by omega⟩, (HFIN.out _ _ _).2.1.more (by omega), (HFIN.out _ _ _).2.2⟩
        · skip
          go_simp
          have hf := HF6.out.alloc hcb (.cells #[.int .i64 (-1), .int .i64 0, .int .i64 6] 3)
          have hhB : (w6.alloc (.cells #[.int .i64 (-1), .int .i64 0, .int .i64 6] 3)).heap[w6.heap.size]? = some (.cells ([-1, 0, 6].map (Value.int .i64)).toArray 3 (0, 0)) := alloc_at rfl
          have HNB : Hid (w6.heap.size ≠ cb) := Lib.hid (by have := HF6.out.gne; omega)
          generalize w6.alloc (.cells #[.int .i64 (-1), .int .i64 0, .int .i64 6] 3) = w108 at hf hhB  ⊢
          generalize w6.heap.size = BB at hhB HNB ⊢
          have HF108 := Lib.hid hf
          have HHB108 := Lib.hid hhB
          clear hhB
          clear hf c0 c1 c2 f0 f1 f2
          obtain ⟨c0, c1, c2, f0, f1, f2⟩ := cell3 HF108.out.2.2.2.1
          refine hK.out _ _ (c2) (fun hHeld => ?_)
          clear hK K
          try simp only [Act.put, List.setIfInBounds_toArray, List.set_cons_zero, List.set_cons_succ]
          refine wpAnyH_ready (rs := [3]) (by kernel_rfl) (by simp) ?_
          refine AllReadyH.cons rfl (fun K hK => ?_) AllReadyH.nil
          go_simp
          have hf := HF108.out.alloc hcb (.cells #[.int .i64 (-1), .int .i64 0, .int .i64 3] 3)
          have hhA : (w108.alloc (.cells #[.int .i64 (-1), .int .i64 0, .int .i64 3] 3)).heap[w108.heap.size]? = some (.cells ([-1, 0, 3].map (Value.int .i64)).toArray 3 (0, 0)) := alloc_at rfl
          have hhB := (grown_alloc w108 (.cells #[.int .i64 (-1), .int .i64 0, .int .i64 3] 3) none).block _ (Array.getElem?_eq_some_iff.1 HHB108.out).1 (by simp) |>.trans HHB108.out
          have HNA : Hid (w108.heap.size ≠ cb) := Lib.hid (by have := HF108.out.gne; omega)
          generalize w108.alloc (.cells #[.int .i64 (-1), .int .i64 0, .int .i64 3] 3) = w109 at hf hhA hhB ⊢
          generalize w108.heap.size = BA at hhA HNA ⊢
          have HF109 := Lib.hid hf
          have HHA109 := Lib.hid hhA
          clear hhA
          have HHB109 := Lib.hid hhB
          clear hhB
          clear hf c0 c1 c2 f0 f1 f2
          obtain ⟨c0, c1, c2, f0, f1, f2⟩ := cell3 HF109.out.2.2.2.1
          refine hK.out _ _ (c2) (fun hHeld => ?_)
          clear hK K
          try simp only [Act.put, List.setIfInBounds_toArray, List.set_cons_zero, List.set_cons_succ]
          refine wpAnyH_ready (rs := [4]) (by kernel_rfl) (by simp) ?_
          refine AllReadyH.cons rfl (fun K hK => ?_) AllReadyH.nil
          go_simp
          go_at_call 87
          refine (among_any cb cd L _ _ [-1, 0, 3] _ (by omega) (by decide) (slr_heap HHA109.out (by decide)) (fun a m c e => by cases e; exact HNA.out) HF109.out.2.1 (HF109.out.code HR.out)).mono ?_
          rintro e w110 ⟨⟨x, rfl, -⟩, hc', hg'⟩
          have HF110 := Lib.hid (HF109.out.step hcb hg' hc')
          have HHB110 := Lib.hid ((hg'.block _ (Array.getElem?_eq_some_iff.1 HHB109.out).1 (by intro e; exact HNB.out (Option.some.inj e))).trans HHB109.out)
          clear hc' hg' c0 c1 c2 f0 f1 f2
          obtain ⟨c0, c1, c2, f0, f1, f2⟩ := cell3 HF110.out.2.2.2.1
          refine hK.out _ _ (c2) (fun hHeld => ?_)
          clear hK K
          try simp only [Act.put, List.setIfInBounds_toArray, List.set_cons_zero, List.set_cons_succ]
          refine wpAnyH_ready (rs := [7]) (by kernel_rfl) (by simp) ?_
          refine AllReadyH.cons rfl (fun K hK => ?_) AllReadyH.nil
          go_simp
          go_at_call 87
          refine (among_any cb cd L _ _ [-1, 0, 6] _ (by omega) (by decide) (slr_heap HHB110.out (by decide)) (fun a m c e => by cases e; exact HNB.out) HF110.out.2.1 (HF110.out.code HR.out)).mono ?_
          rintro e w111 ⟨⟨y, rfl, -⟩, hc', hg'⟩
          have HF111 := Lib.hid (HF110.out.step hcb hg' hc')
          clear hc' hg' c0 c1 c2 f0 f1 f2
          obtain ⟨c0, c1, c2, f0, f1, f2⟩ := cell3 HF111.out.2.2.2.1
          refine hK.out _ _ (c2) (fun hHeld => ?_)
          clear hK K
          try simp only [Act.put, List.setIfInBounds_toArray, List.set_cons_zero, List.set_cons_succ]
          have hfl : 2 ≤ (flat rs).length := by rw [flat_len]; omega
          obtain ⟨u0, d0⟩ : ∃ u, w111.cell? ⟨g, 0, none⟩ = some u := ⟨_, (HF111.out.2.2.2.2.1.cellAt 0 (by omega)).trans (List.getElem?_eq_getElem (by omega))⟩
          obtain ⟨u1, d1⟩ : ∃ u, w111.cell? ⟨g, 1, none⟩ = some u := ⟨_, (HF111.out.2.2.2.2.1.cellAt 1 (by omega)).trans (List.getElem?_eq_getElem (by omega))⟩
          have f9 := HF111.out.2.2.2.2.1.frozenAt 0
          have f8 := HF111.out.2.2.2.2.1.frozenAt 1
          refine take1 (i := 8) (v := ?v25) (some 48) rfl rfl (by kernel_rfl) (by kernel_rfl) (by kernel_rfl) (fun _ _ _ h => h) (Or.inl ⟨by rfl, ?y25⟩) (by assumption) ?r25
          case y25 => (intro w hSw; (try dsimp only at hSw); go_simp; (first | done | with_reducible rfl))
          try simp only [Act.put, List.setIfInBounds_toArray, List.set_cons_zero, List.set_cons_succ]
          refine take1 (i := 9) (v := ?v26) (some 49) rfl rfl (by kernel_rfl) (by kernel_rfl) (by kernel_rfl) (fun _ _ _ h => h) (Or.inl ⟨by rfl, ?y26⟩) (by assumption) ?r26
          case y26 => (intro w hSw; (try dsimp only at hSw); go_simp; (first | done | with_reducible rfl))
          try simp only [Act.put, List.setIfInBounds_toArray, List.set_cons_zero, List.set_cons_succ]
          refine wpAnyH_ready (rs := [10]) (by kernel_rfl) (by simp) ?_
          refine AllReadyH.cons rfl (fun K hK => ?_) AllReadyH.nil
          go_simp
          have hf9 := HF111.out.first (x := x) (y := y) hcb hl
          generalize (w111.setCell ⟨g, 0, none⟩ (.int .i64 x)).setCell ⟨g, 1, none⟩ (.int .i64 y) = wz at hf9 ⊢
          obtain ⟨rs2, hrs2⟩ : ∃ rs2, rs.set 0 (x, y) = rs2 := ⟨_, rfl⟩
          have hr2 : rs2.length = rs.length := by rw [← hrs2]; simp
          rw [hrs2] at hf9
          clear hrs2
          have HF9 := Lib.hid hf9
          have HR2 := Lib.hid hr2
          have hr3 : rs2.length ≤ 20 := by omega
          clear hr2 hf9 hfl d0 d1 f8 f9 c0 c1 c2 f0 f1 f2
          obtain ⟨c0, c1, c2, f0, f1, f2⟩ := cell3 HF9.out.2.2.2.1
          refine hK.out _ _ ((by rw [c2, HR2.out])) (fun hHeld => ?_)
          clear hK K
          try simp only [Act.put]
          refine wpAnyH_done (by kernel_rfl) ?_ _
          clear hHeld c0 c1 c2 f0 f1 f2
          have hfin := HF9.out.fin hcb
          obtain ⟨z0, z1, z2, y0, y1, y2⟩ := cell3 HF9.out.2.2.1
          obtain ⟨c0, c1, c2, f0, f1, f2⟩ := cell3 HF9.out.2.2.2.1
          have HFIN := Lib.hid hfin
          clear hfin
          go_wp2_with fail
          first
            | exact bodyPost_ret (v := .agg #[.int .i64 up, .int .i64 lo, .slice (some ⟨g, 0, none⟩) rs2.length cap]) (by simp [results, Try.results127, go_sem, z0, z1, z2]) rfl ⟨⟨_, _, _, rs2, rfl, (HFIN.out _ _ _).1, by omega⟩, (HFIN.out _ _ _).2.1.more (by omega), (HFIN.out _ _ _).2.2⟩
            | exact bodyPost_ret (v := .agg #[.int .i64 up, .int .i64 lo, .slice (some ⟨g, 0, none⟩) rs2.length cap]) (by simp [results, Try.results127, go_sem, z0, z1, z2]) rfl ⟨⟨_, _, _, rfl, rs2, (HFIN.out _ _ _).1, by omega⟩, (HFIN.out _ _ _).2.1.more (by omega), (HFIN.out _ _ _).2.2⟩
      by_cases e1 : r = 1
      · subst e1
        have hal := HF5.out.alloc hcb (.cells #[.int .i64 0, .int .i64 3] 3)
        have HAM := Lib.hid (among_fr (zs := [0, 3]) hal hcb (by omega) (by decide) (slr_lit w5 ([0, 3].map (Value.int .i64)) 3 (by decide)) (fun a m c e => by cases e; show w5.heap.size ≠ cb; have := HF5.out.gne; omega) HR.out)
        clear hal
        go_wp2_with fail
        refine (HAM.out).mono ?_
        rintro e w6 ⟨⟨x, rfl, -⟩, hf⟩
        have HF6 := Lib.hid hf
        obtain ⟨a0, a1, a2, b0, b1, b2⟩ := cell3 HF6.out.2.2.2.1
        clear hf
        obtain ⟨W7, hW7⟩ : ∃ W7, w6.setCell ⟨F, 0, none⟩ (.int .i64 x) = W7 := ⟨_, rfl⟩
        have HF7 := Lib.hid (show FrAt w W7 cb cd _ F _ _ g cap rs by rw [← hW7]; exact HF6.out.setUp hcb x)
        have hfin := HF7.out.fin hcb
        obtain ⟨z0, z1, z2, y0, y1, y2⟩ := cell3 HF7.out.2.2.1
        obtain ⟨c0, c1, c2, f0, f1, f2⟩ := cell3 HF7.out.2.2.2.1
        have HFIN := Lib.hid hfin
        clear hfin
        go_wp2_with fail
        first
          | exact bodyPost_ret (v := .agg #[.int .i64 x, .int .i64 lo, .slice (some ⟨g, 0, none⟩) rs.length cap]) (by simp [results, Try.results127, go_sem, z0, z1, z2]) rfl ⟨⟨_, _, _, rs, rfl, (HFIN.out _ _ _).1, by omega⟩, (HFIN.out _ _ _).2.1.more (by omega), (HFIN.out _ _ _).2.2⟩
          | exact bodyPost_ret (v := .agg #[.int .i64 x, .int .i64 lo, .slice (some ⟨g, 0, none⟩) rs.length cap]) (by simp [results, Try.results127, go_sem, z0, z1, z2]) rfl ⟨⟨_, _, _, rfl, rs, (HFIN.out _ _ _).1, by omega⟩, (HFIN.out _ _ _).2.1.more (by omega), (HFIN.out _ _ _).2.2⟩
      by_cases e2 : r = 2
      · subst e2
        have hal := HF5.out.alloc hcb (.cells #[.int .i64 3, .int .i64 6] 3)
        have HAM := Lib.hid (among_fr (zs := [3, 6]) hal hcb (by omega) (by decide) (slr_lit w5 ([3, 6].map (Value.int .i64)) 3 (by decide)) (fun a m c e => by cases e; show w5.heap.size ≠ cb; have := HF5.out.gne; omega) HR.out)
        clear hal
        go_wp2_with fail
        refine (HAM.out).mono ?_
        rintro e w6 ⟨⟨x, rfl, -⟩, hf⟩
        have HF6 := Lib.hid hf
        obtain ⟨a0, a1, a2, b0, b1, b2⟩ := cell3 HF6.out.2.2.2.1
        clear hf
        obtain ⟨W7, hW7⟩ : ∃ W7, w6.setCell ⟨F, 1, none⟩ (.int .i64 x) = W7 := ⟨_, rfl⟩
        have HF7 := Lib.hid (show FrAt w W7 cb cd _ F _ _ g cap rs by rw [← hW7]; exact HF6.out.setLo hcb x)
        have hfin := HF7.out.fin hcb
        obtain ⟨z0, z1, z2, y0, y1, y2⟩ := cell3 HF7.out.2.2.1
        obtain ⟨c0, c1, c2, f0, f1, f2⟩ := cell3 HF7.out.2.2.2.1
        have HFIN := Lib.hid hfin
        clear hfin
        go_wp2_with fail
        first
          | exact bodyPost_ret (v := .agg #[.int .i64 up, .int .i64 x, .slice (some ⟨g, 0, none⟩) rs.length cap]) (by simp [results, Try.results127, go_sem, z0, z1, z2]) rfl ⟨⟨_, _, _, rs, rfl, (HFIN.out _ _ _).1, by omega⟩, (HFIN.out _ _ _).2.1.more (by omega), (HFIN.out _ _ _).2.2⟩
          | exact bodyPost_ret (v := .agg #[.int .i64 up, .int .i64 x, .slice (some ⟨g, 0, none⟩) rs.length cap]) (by simp [results, Try.results127, go_sem, z0, z1, z2]) rfl ⟨⟨_, _, _, rfl, rs, (HFIN.out _ _ _).1, by omega⟩, (HFIN.out _ _ _).2.1.more (by omega), (HFIN.out _ _ _).2.2⟩
      by_cases e3 : r = 3
      · subst e3
        have hkr' : rs.length ≤ 5 := by omega
        have HMM : Hid (m ≤ n + 70) := Lib.hid (by omega)
        go_wp2_with fail
        go_loopw [] (fun wr => ∃ (m g cap : Nat) (rs : List (Int × Int)), rs.length ≤ 10 ∧ m ≤ n + 72 + 10 * rs.length ∧ FrAt w wr cb cd m F up lo g cap rs) (fun wr => 20 - lenAt wr F)
        case atStart => exact ⟨_, _, _, rs, by omega, by have := HMM.out; omega, HF5.out⟩
        case round =>
          obtain ⟨m, g, cap, rs, hl10, hm2, hf⟩ := hrel
          have HMQ := Lib.hid hm2
          have HL := Lib.hid hf.len
          have HF6 := Lib.hid (hf.drew hcb)
          clear hf HF5 hm hkr hkr' HMM hm2
          obtain ⟨c0, c1, c2, f0, f1, f2⟩ := cell3 HF6.out.2.2.2.1
          go_wp2_with fail
          refine wp_region_held_drew (S := (fun u => u.cell? ⟨F, 2, none⟩ = some (.slice (some ⟨g, 0, none⟩) rs.length cap))) (by kernel_rfl) (c2) (fun hHeld => ?_)
          generalize wr.drew = w6 at HF6 c0 c1 c2 f0 f1 f2 hHeld ⊢
          refine take1 (i := 0) (v := ?v27) (some 64) rfl rfl (by kernel_rfl) (by kernel_rfl) (by kernel_rfl) (fun _ _ _ h => h) (Or.inl ⟨by rfl, ?y27⟩) (by assumption) ?r27
          case y27 => (intro w hSw; (try dsimp only at hSw); go_simp; (first | done | with_reducible rfl))
          try simp only [Act.put, List.setIfInBounds_toArray, List.set_cons_zero, List.set_cons_succ]
          refine take1 (i := 1) (v := ?v28) (some 65) rfl rfl (by kernel_rfl) (by kernel_rfl) (by kernel_rfl) (fun _ _ _ h => h) (Or.inl ⟨by rfl, ?y28⟩) (by assumption) ?r28
          case y28 => (intro w hSw; (try dsimp only at hSw); go_simp; (first | done | with_reducible rfl))
          try simp only [Act.put, List.setIfInBounds_toArray, List.set_cons_zero, List.set_cons_succ]
          refine take1 (i := 2) (v := ?v29) (some 66) rfl rfl (by kernel_rfl) (by kernel_rfl) (by kernel_rfl) (fun _ _ _ h => h) (Or.inl ⟨by rfl, ?y29⟩) (by assumption) ?r29
          case y29 => (intro w hSw; (try dsimp only at hSw); go_simp; (first | done | with_reducible rfl))
          try simp only [Act.put, List.setIfInBounds_toArray, List.set_cons_zero, List.set_cons_succ]
          refine take1 (i := 3) (v := ?v30) (some 67) rfl rfl (by kernel_rfl) (by kernel_rfl) (by kernel_rfl) (fun _ _ _ h => h) (Or.inl ⟨by rfl, ?y30⟩) (by assumption) ?r30
          case y30 => (intro w hSw; (try dsimp only at hSw); go_simp; (first | done | with_reducible rfl))
          try simp only [Act.put, List.setIfInBounds_toArray, List.set_cons_zero, List.set_cons_succ]
          refine wpAnyH_ready (rs := [4]) (by kernel_rfl) (by simp) ?_
          refine AllReadyH.cons rfl (fun K hK => ?_) AllReadyH.nil
          go_simp
          go_at_call 95
          refine (pick_fr 2 HF6.out hcb (by have := HMQ.out; omega) (by omega) (by omega) HR.out).mono ?_
          rintro e w7 ⟨⟨r8, rfl, s0, s1⟩, hf⟩
          have HF7 := Lib.hid hf
          clear hf HF6 c0 c1 c2 f0 f1 f2
          obtain ⟨c0, c1, c2, f0, f1, f2⟩ := cell3 HF7.out.2.2.2.1
          have q8 : IntKind.i64.wrap (8 + r8) = 8 + r8 := by rw [IntKind.wrap_i64]; omega
          refine hK.out _ _ (c2) (fun hHeld => ?_)
          clear hK K
          try simp only [Act.put, List.setIfInBounds_toArray, List.set_cons_zero, List.set_cons_succ]
          refine take1 (i := 5) (v := ?v31) (some 69) rfl rfl (by kernel_rfl) (by kernel_rfl) (by kernel_rfl) (fun _ _ _ h => h) (Or.inl ⟨by rfl, ?y31⟩) (by assumption) ?r31
          case y31 => (intro w hSw; (try dsimp only at hSw); go_simp; (first | done | with_reducible rfl))
          try simp only [Act.put, List.setIfInBounds_toArray, List.set_cons_zero, List.set_cons_succ]
          refine take1 (i := 6) (v := ?v32) (some 70) rfl rfl (by kernel_rfl) (by kernel_rfl) (by kernel_rfl) (fun _ _ _ h => h) (Or.inl ⟨by rfl, ?y32⟩) (by assumption) ?r32
          case y32 => (intro w hSw; (try dsimp only at hSw); go_simp; (first | done | with_reducible rfl))
          try simp only [Act.put, List.setIfInBounds_toArray, List.set_cons_zero, List.set_cons_succ]
          refine wpAnyH_done (by kernel_rfl) ?_ _
          by_cases hlt : (rs.length : Int) < 8 + r8
          · have ho := HF7.out.2.2.2.2.1
            have hnb : (w7.alloc (.cells #[.int .i64 1, .int .i64 4] 77)).heap[w7.heap.size]? = some (.cells #[.int .i64 1, .int .i64 4] 77 (0, 0)) := alloc_at rfl
            have HFA := Lib.hid (HF7.out.alloc hcb (.cells #[.int .i64 1, .int .i64 4] 77))
            go_wp2_with (at_builtin; refine wpList_append_lies _ (by rfl) _ _ _ (by rfl) (w.heap.size + 1) 77 i0 (.agg #[.int .i64 0, .int .i64 0]) 2 16 Try.underlying34 hi hz0 hz1 hz2 rfl (by decide) _ rs.length (flat rs) (by rfl) HFA.out.2.2.2.2.1 ⟨w7.heap.size, 0, none⟩ 1 1 [.int .i64 1, .int .i64 4] (by rfl) (by rfl) (World.news_of_block hnb) ?h1 (by decide) ?h63 ?hby ?hbs _ rfl ?_)
            case h1 => intro u hu; rcases List.mem_cons.1 hu with rfl | hu; rfl; rw [List.mem_singleton.1 hu]; rfl
            case h63 => unfold maxLen; omega
            case hby => omega
            case hbs => (have hq := HFA.out.gne; omega)
            intro g2 c2' wn hown hgr _ _
            have hf9 := HFA.out.push hcb hown hgr
            have hq := HFA.out.gne
            obtain ⟨n0, n1, n2, e0, e1, e2⟩ := cell3 ((hgr.block F (by omega) (by intro e; exact hq.1 (Option.some.inj (show some g = some F from e.symm)))).trans HFA.out.2.2.2.1)
            obtain ⟨W8, hW8⟩ : ∃ W8, wn.setCell ⟨F, 2, none⟩ (.slice (some ⟨g2, 0, none⟩) (rs.length + 1) c2') = W8 := ⟨_, rfl⟩
            rw [hW8] at hf9
            have HF8 := Lib.hid hf9
            clear hf9 hq hown hgr ho hnb c0 c1 c2 f0 f1 f2
            go_wp2_with fail
            go_roundw
            case rel => exact ⟨_, _, _, rs ++ [(1, 4)], by rw [List.length_append, List.length_singleton]; omega, by rw [List.length_append, List.length_singleton]; have := HMQ.out; omega, HF8.out⟩
            case measure => (have h1 := HL.out; have h2 := HF8.out.len; rw [List.length_append, List.length_singleton] at h2; rw [h1, h2]; omega)
          · have HMX := HMQ.out
            clear c0 c1 c2 f0 f1 f2
            have hfin := HF7.out.fin hcb
            obtain ⟨z0, z1, z2, y0, y1, y2⟩ := cell3 HF7.out.2.2.1
            obtain ⟨c0, c1, c2, f0, f1, f2⟩ := cell3 HF7.out.2.2.2.1
            have HFIN := Lib.hid hfin
            clear hfin
            go_wp2_with fail
            first
              | exact bodyPost_ret (v := .agg #[.int .i64 up, .int .i64 lo, .slice (some ⟨g, 0, none⟩) rs.length cap]) (by simp [results, Try.results127, go_sem, z0, z1, z2]) rfl ⟨⟨_, _, _, rs, rfl, (HFIN.out _ _ _).1, by omega⟩, (HFIN.out _ _ _).2.1.more (by omega), (HFIN.out _ _ _).2.2⟩
              | exact bodyPost_ret (v := .agg #[.int .i64 up, .int .i64 lo, .slice (some ⟨g, 0, none⟩) rs.length cap]) (by simp [results, Try.results127, go_sem, z0, z1, z2]) rfl ⟨⟨_, _, _, rfl, rs, (HFIN.out _ _ _).1, by omega⟩, (HFIN.out _ _ _).2.1.more (by omega), (HFIN.out _ _ _).2.2⟩
      have hfin := HF5.out.fin hcb
      obtain ⟨z0, z1, z2, y0, y1, y2⟩ := cell3 HF5.out.2.2.1
      obtain ⟨c0, c1, c2, f0, f1, f2⟩ := cell3 HF5.out.2.2.2.1
      have HFIN := Lib.hid hfin
      clear hfin
      go_wp2_with fail
      first
        | exact bodyPost_ret (v := .agg #[.int .i64 up, .int .i64 lo, .slice (some ⟨g, 0, none⟩) rs.length cap]) (by simp [results, Try.results127, go_sem, z0, z1, z2]) rfl ⟨⟨_, _, _, rs, rfl, (HFIN.out _ _ _).1, by omega⟩, (HFIN.out _ _ _).2.1.more (by omega), (HFIN.out _ _ _).2.2⟩
        | exact bodyPost_ret (v := .agg #[.int .i64 up, .int .i64 lo, .slice (some ⟨g, 0, none⟩) rs.length cap]) (by simp [results, Try.results127, go_sem, z0, z1, z2]) rfl ⟨⟨_, _, _, rfl, rs, (HFIN.out _ _ _).1, by omega⟩, (HFIN.out _ _ _).2.1.more (by omega), (HFIN.out _ _ _).2.2⟩
end Go.Proofs.Ythmbehknacjodaa
