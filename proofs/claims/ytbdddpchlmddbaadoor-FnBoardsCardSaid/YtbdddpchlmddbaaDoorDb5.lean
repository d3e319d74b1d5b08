/- A board, drawn. -/
import Derived.Test.YtbdddpchlmddbaaDoorBr0
import Derived.Deep.Cut
namespace Go.Proofs.YtbdddpchlmddbaaDoor
set_option linter.unusedVariables false
open Go.RowKit
set_option linter.unusedSimpArgs false

def bdZ : List Int := [0, 1, 4, 5, 9, 30]
def bsZ : List Int := [0, 0, 1, 2, 3, 29]
def bnZ : List Int := [-1, 31]
def b1Z : List Int := [1, 2, 3, 4, 0, 1, 2]
def b2Z : List Int := [1, 0, 1, 0, 1, 0, 1]
theorem own_ints (w : World) (B : Nat) (xs : List Int) (hB : B ≤ w.heap.size) (hl : xs.length ≤ maxLen) : (w.alloc (.cells (xs.map (Value.int .i64)).toArray 3)).ownsRow B 3 1 (.slice (some ⟨w.heap.size, 0, none⟩) xs.length xs.length) xs.length (flatC inC xs) := by
  have h := World.ownsRow_lit (base := B) (e := 3) (size := 1) w (xs.map (Value.int .i64)).toArray xs.length hB hl (by simp)
  rw [flatC_int]
  simpa using h
abbrev o7 (xs : List Int) : Obj := .cells (xs.map (Value.int .i64)).toArray 3
theorem board_lits0 {w wi : World} {cb : Nat} {cd : Value} {n A : Nat} {a1 a2 : Option Addr} {c1 c2 : Nat} {ls ss : List Int} (B : Nat) (h : BrAt w wi cb cd n A a1 c1 a2 c2 ls ss) : ((wi.alloc (o7 b1Z)).alloc (o7 b2Z)).heap[w.heap.size]? = some (.cells #[.slice none 0 0, .slice none 0 0] 26 (0, 0)) ∧ BrdX (w.heap.size + 1) ((wi.alloc (o7 b1Z)).alloc (o7 b2Z)) (.slice (some ⟨wi.heap.size, 0, none⟩) 7 7) (.slice (some ⟨wi.heap.size + 1, 0, none⟩) 7 7) b1Z b2Z ∧ CurAt ((wi.alloc (o7 b1Z)).alloc (o7 b2Z)) cb cd n ∧ w.grownBy ((wi.alloc (o7 b1Z)).alloc (o7 b2Z)) (some cb) := by
  obtain ⟨h1, h2, h3, h4, h5, h6, h7, h8⟩ := h
  have hA := (Array.getElem?_eq_some_iff.1 h4).1
  have g1 := grown_alloc wi (o7 b1Z) none
  have g2 := grown_alloc (wi.alloc (o7 b1Z)) (o7 b2Z) none
  have g := grown_trans g1 g2
  have hs : (wi.alloc (o7 b1Z)).heap.size = wi.heap.size + 1 := by simp
  have k1 := own_ints wi (w.heap.size + 1) b1Z (by omega) (by decide)
  have k2 := own_ints (wi.alloc (o7 b1Z)) (w.heap.size + 1) b2Z (by omega) (by decide)
  rw [hs] at k2
  exact ⟨(g.block _ (Array.getElem?_eq_some_iff.1 h3).1 (by simp)).trans h3, BrdX.of_own (own_of_block k1 (fun q hq => alloc_old (by cases hq; simp))) k2, (h2.old g1).old g2, grown_trans h1 (grown_any g)⟩
theorem board_lits {w wi : World} {cb : Nat} {cd : Value} {n A : Nat} {a1 a2 : Option Addr} {c1 c2 : Nat} {ls ss : List Int} (B : Nat) (h : BrAt w wi cb cd n A a1 c1 a2 c2 ls ss) : ((wi.alloc (Obj.cells #[.int .i64 1, .int .i64 2, .int .i64 3, .int .i64 4, .int .i64 0, .int .i64 1, .int .i64 2] 3)).alloc (Obj.cells #[.int .i64 1, .int .i64 0, .int .i64 1, .int .i64 0, .int .i64 1, .int .i64 0, .int .i64 1] 3)).heap[w.heap.size]? = some (.cells #[.slice none 0 0, .slice none 0 0] 26 (0, 0)) ∧ BrdX (w.heap.size + 1) ((wi.alloc (Obj.cells #[.int .i64 1, .int .i64 2, .int .i64 3, .int .i64 4, .int .i64 0, .int .i64 1, .int .i64 2] 3)).alloc (Obj.cells #[.int .i64 1, .int .i64 0, .int .i64 1, .int .i64 0, .int .i64 1, .int .i64 0, .int .i64 1] 3)) (.slice (some ⟨wi.heap.size, 0, none⟩) 7 7) (.slice (some ⟨wi.heap.size + 1, 0, none⟩) 7 7) b1Z b2Z ∧ CurAt ((wi.alloc (Obj.cells #[.int .i64 1, .int .i64 2, .int .i64 3, .int .i64 4, .int .i64 0, .int .i64 1, .int .i64 2] 3)).alloc (Obj.cells #[.int .i64 1, .int .i64 0, .int .i64 1, .int .i64 0, .int .i64 1, .int .i64 0, .int .i64 1] 3)) cb cd n ∧ w.grownBy ((wi.alloc (Obj.cells #[.int .i64 1, .int .i64 2, .int .i64 3, .int .i64 4, .int .i64 0, .int .i64 1, .int .i64 2] 3)).alloc (Obj.cells #[.int .i64 1, .int .i64 0, .int .i64 1, .int .i64 0, .int .i64 1, .int .i64 0, .int .i64 1] 3)) (some cb) := board_lits0 B h

set_option maxRecDepth 100000 in
set_option maxHeartbeats 6400000 in
theorem board5_any (cb : Nat) (cd : Value) (L : List UInt8) (n N : Nat) (w : World) (hN : 1 ≤ N ∧ N ≤ 6) (hn : n < 4611686018427300000) (hc : CurAt w cb cd n) (hr : CodeR w cb cd L) :
    Calls Tryd.prog 23 #[.pointer (some ⟨cb, 0, none⟩), .int .i64 N] w fun e w' => (∃ (v1 v2 : Value) (ls ss : List Int), e = .returned (.agg #[v1, v2]) ∧ BrdX w.heap.size w' v1 v2 ls ss ∧ ls.length ≤ 7 ∧ ss.length ≤ 7) ∧ CurAt w' cb cd (n + 100) ∧ w.grownBy w' (some cb) := by
  obtain ⟨i0, hi, hz0, hz1, hz2⟩ := info_parts Tryd.infoI5
  have hcb := hc.lt
  have HR := Lib.hid hr
  obtain ⟨W1, hW1⟩ : ∃ W1, w.alloc (.cells #[.slice none 0 0, .slice none 0 0] 26) = W1 := ⟨_, rfl⟩
  have hg1 : w.grownBy W1 none := by rw [← hW1]; exact grown_alloc _ _ _
  have hk1 : W1.heap[w.heap.size]? = some (.cells #[.slice none 0 0, .slice none 0 0] 26 (0, 0)) := by rw [← hW1]; exact alloc_at rfl
  have hs1 : w.heap.size < W1.heap.size := by rw [← hW1]; simp
  have hg2 : W1.grownBy (W1.alloc (.cells #[.slice none 0 0, .slice none 0 0] 26)) none := grown_alloc _ _ _
  have HA2 : Hid (BrAt w (W1.alloc (.cells #[.slice none 0 0, .slice none 0 0] 26)) cb cd n W1.heap.size none 0 none 0 [] []) := Lib.hid ⟨grown_any (grown_trans hg1 hg2), (hc.old hg1).old hg2, (hg2.block _ hs1 (by simp)).trans hk1, alloc_at rfl, own_nil' _ _ _ _, own_nil' _ _ _ _, (fun q hq => by cases hq), hs1⟩
  have hcb1 : cb < W1.heap.size := by omega
  clear hg1 hk1 hg2 hc hr
  go_enter Tryd.func23, Tryd.ntmps23
  go_wp2_with fail
  try rw [hW1]
  generalize W1.alloc (.cells #[.slice none 0 0, .slice none 0 0] 26) = W2 at HA2 ⊢
  go_loopw [6] (fun i wr => ∃ (k m : Nat) (a1 : Option Addr) (c1 : Nat) (a2 : Option Addr) (c2 : Nat) (ls ss : List Int), k ≤ N ∧ i = .int .i64 k ∧ Hid (ls.length = k ∧ ss.length = k) ∧ m ≤ n + 4 * k ∧ Hid (BrAt w wr cb cd m W1.heap.size a1 c1 a2 c2 ls ss)) (fun i _ => N - (intOf i).toNat)
  case atStart => exact ⟨0, n, none, 0, none, 0, [], [], Nat.zero_le _, rfl, Lib.hid ⟨rfl, rfl⟩, by omega, HA2⟩
  case round =>
    obtain ⟨k, m, a1, c1', a2, c2', ls, ss, hk, rfl, HCL, hm, HA⟩ := hrel
    by_cases hlt : k < N
    · have z0 : (k : Int) < (N : Int) := by omega
      obtain ⟨c0, c1, f0, f1⟩ := cell2 HA.out.2.2.2.1
      go_wp2_with fail
      refine wp_region_held_drew (S := (fun _ => True)) (by kernel_rfl) (trivial) (fun hHeld => ?_)
      have ha4 := HA.out.drew hcb
      generalize wr.drew = w4 at ha4 hHeld ⊢
      have HA4 := Lib.hid ha4
      clear ha4 c0 c1 f0 f1
      obtain ⟨c0, c1, f0, f1⟩ := cell2 HA4.out.2.2.2.1
      refine take1 (i := 0) (v := ?v1) (some 15) rfl rfl (by kernel_rfl) (by kernel_rfl) (by kernel_rfl) (fun _ _ _ h => h) (Or.inl ⟨by rfl, ?y1⟩) (by assumption) ?r1
      case y1 => (intro w hSw; (try dsimp only at hSw); go_simp; (first | done | with_reducible rfl))
      try simp only [Act.put, List.setIfInBounds_toArray, List.set_cons_zero, List.set_cons_succ]
      refine take1 (i := 2) (v := ?v2) (some 17) rfl rfl (by kernel_rfl) (by kernel_rfl) (by kernel_rfl) (fun _ _ _ h => h) (Or.inl ⟨by rfl, ?y2⟩) (by assumption) ?r2
      case y2 => (intro w hSw; (try dsimp only at hSw); go_simp; (first | done | with_reducible rfl))
      try simp only [Act.put, List.setIfInBounds_toArray, List.set_cons_zero, List.set_cons_succ]
      refine wpAnyH_ready (rs := [1, 3]) (by kernel_rfl) (by simp) ?_
      refine AllReadyH.cons rfl (fun K hK => ?_) (AllReadyH.cons rfl (fun K hK => ?_) AllReadyH.nil)
      · go_simp
        refine hK.out _ _ (trivial) (fun hHeld => ?_)
        clear hK K
        try simp only [Act.put, List.setIfInBounds_toArray, List.set_cons_zero, List.set_cons_succ]
        refine wpAnyH_ready (rs := [3]) (by kernel_rfl) (by simp) ?_
        refine AllReadyH.cons rfl (fun K hK => ?_) AllReadyH.nil
        go_simp
        have ha5 := HA4.out.alloc hcb (.cells (bdZ.map (Value.int .i64)).toArray 3)
        have HSL := Lib.hid (slr_lit w4 (bdZ.map (Value.int .i64)) 3 (by decide))
        have HNE : Hid (w4.heap.size ≠ cb) := Lib.hid (by have := HA4.out.1.size; omega)
        have HAM := Lib.hid (among_br (zs := bdZ) ha5 hcb (by omega) (by decide) HSL.out (fun a m c e => by cases e; exact HNE.out) HR.out)
        have HA5 := Lib.hid ha5
        clear ha5 HSL c0 c1 f0 f1
        change K _ (w4.alloc (.cells (bdZ.map (Value.int .i64)).toArray 3))
        generalize w4.alloc (.cells (bdZ.map (Value.int .i64)).toArray 3) = w5 at HAM HA5 ⊢
        obtain ⟨c0, c1, f0, f1⟩ := cell2 HA5.out.2.2.2.1
        refine hK.out _ _ (trivial) (fun hHeld => ?_)
        clear hK K
        try simp only [Act.put, List.setIfInBounds_toArray, List.set_cons_zero, List.set_cons_succ]
        refine wpAnyH_ready (rs := [4]) (by kernel_rfl) (by simp) ?_
        refine AllReadyH.cons rfl (fun K hK => ?_) AllReadyH.nil
        go_simp
        go_at_call 39
        refine (HAM.out).mono ?_
        rintro e w6 ⟨⟨x, rfl, -⟩, ha6⟩
        have HA6 := Lib.hid ha6
        clear ha6 c0 c1 f0 f1
        obtain ⟨c0, c1, f0, f1⟩ := cell2 HA6.out.2.2.2.1
        try go_simp
        refine hK.out _ _ (trivial) (fun hHeld => ?_)
        clear hK K
        try simp only [Act.put, List.setIfInBounds_toArray, List.set_cons_zero, List.set_cons_succ]
        refine wpAnyH_ready (rs := [5]) (by kernel_rfl) (by simp) ?_
        refine AllReadyH.cons rfl (fun K hK => ?_) AllReadyH.nil
        go_simp
        have ha7 := HA6.out.alloc hcb (.cells #[.int .i64 x] 3)
        have hnx : (w6.alloc (.cells #[.int .i64 x] 3)).heap[w6.heap.size]? = some (.cells #[.int .i64 x] 3 (0, 0)) := alloc_at rfl
        generalize w6.alloc (.cells #[.int .i64 x] 3) = w7 at ha7 hnx ⊢
        have HA7 := Lib.hid ha7
        have HNX := Lib.hid hnx
        clear ha7 hnx c0 c1 f0 f1
        obtain ⟨c0, c1, f0, f1⟩ := cell2 HA7.out.2.2.2.1
        refine hK.out _ _ (trivial) (fun hHeld => ?_)
        clear hK K
        try simp only [Act.put, List.setIfInBounds_toArray, List.set_cons_zero, List.set_cons_succ]
        have HLA := Lib.hid (lt_of_block HA7.out.2.2.2.1)
        refine wpAnyH_ready (rs := [6]) (by kernel_rfl) (by simp) ?_
        refine AllReadyH.cons rfl (fun K hK => ?_) AllReadyH.nil
        refine step_append_lies _ (by rfl) _ _ _ (by rfl) (W1.heap.size + 1) 3 i0 (.int .i64 0) 1 8 Tryd.underlying24 hi hz0 hz1 hz2 rfl (by decide) _ ls.length _ (by rfl) HA7.out.2.2.2.2.1 ⟨w6.heap.size, 0, none⟩ 1 1 [.int .i64 x] (by rfl) (by rfl) (World.news_of_block HNX.out) ?h1x (by decide) ?h63x ?hbyx ?hbsx _ rfl ?_
        case h1x => intro u hu; rw [List.mem_singleton.1 hu]; rfl
        case h63x => (have := HCL.out; unfold maxLen; omega)
        case hbyx => (have := HCL.out; omega)
        case hbsx => (have := HLA.out; omega)
        intro g2 k2 wn hown hgr hv _
        obtain ⟨hp8, hk8⟩ := HA7.out.push1 hcb hown hgr hv
        have HP8 := Lib.hid hp8
        clear hown hgr hv c0 c1 f0 f1 hp8
        obtain ⟨c0, c1, f0, f1⟩ := cell2 hk8
        clear hk8
        refine hK.out _ _ (trivial) (fun hHeld => ?_)
        clear hK K
        try simp only [Act.put, List.setIfInBounds_toArray]
        refine take1 (i := 7) (v := ?v3) (some 22) rfl rfl (by kernel_rfl) (by kernel_rfl) (by kernel_rfl) (fun _ _ _ h => h) (Or.inl ⟨by rfl, ?y3⟩) (by assumption) ?r3
        case y3 => (intro w hSw; (try dsimp only at hSw); go_simp; (first | done | with_reducible rfl))
        try simp only [Act.put, List.setIfInBounds_toArray, List.set_cons_zero, List.set_cons_succ]
        refine wpAnyH_ready (rs := [8]) (by kernel_rfl) (by simp) ?_
        refine AllReadyH.cons rfl (fun K hK => ?_) AllReadyH.nil
        go_simp
        clear c0 c1 f0 f1
        generalize wn.setCell ⟨W1.heap.size, 0, none⟩ (.slice (some ⟨g2, 0, none⟩) (ls.length + 1) k2) = wz at HP8 ⊢
        refine hK.out _ _ (trivial) (fun hHeld => ?_)
        clear hK K
        try simp only [Act.put]
        refine wpAnyH_done (by kernel_rfl) ?_ _
        have HCL2 : Hid ((ls ++ [x]).length = k + 1 ∧ ss.length = k) := Lib.hid (by rw [List.length_append, List.length_singleton]; have := HCL.out; omega)
        generalize ls ++ [x] = ls at HP8 HCL2
        have HAz : Hid (BrAt w wz cb cd (m + 2) W1.heap.size (some ⟨g2, 0, none⟩) k2 a2 c2' ls ss) := HP8
        obtain ⟨a1, ha1⟩ : ∃ a, a = (some ⟨g2, 0, none⟩ : Option Addr) := ⟨_, rfl⟩
        rw [← ha1] at HAz
        clear ha1 HP8 HCL
        rename Nat => c1'
        have HCL := HCL2
        obtain ⟨c0, c1, f0, f1⟩ := cell2 HAz.out.2.2.2.1
        go_wp2_with fail
        refine wp_region_held_drew (S := (fun _ => True)) (by kernel_rfl) (trivial) (fun hHeld => ?_)
        have ha4 := HAz.out.drew hcb
        generalize wz.drew = w4 at ha4 hHeld ⊢
        have HA4 := Lib.hid ha4
        clear ha4 c0 c1 f0 f1
        obtain ⟨c0, c1, f0, f1⟩ := cell2 HA4.out.2.2.2.1
        refine take1 (i := 0) (v := ?v4) (some 23) rfl rfl (by kernel_rfl) (by kernel_rfl) (by kernel_rfl) (fun _ _ _ h => h) (Or.inl ⟨by rfl, ?y4⟩) (by assumption) ?r4
        case y4 => (intro w hSw; (try dsimp only at hSw); go_simp; (first | done | with_reducible rfl))
        try simp only [Act.put, List.setIfInBounds_toArray, List.set_cons_zero, List.set_cons_succ]
        refine take1 (i := 2) (v := ?v5) (some 25) rfl rfl (by kernel_rfl) (by kernel_rfl) (by kernel_rfl) (fun _ _ _ h => h) (Or.inl ⟨by rfl, ?y5⟩) (by assumption) ?r5
        case y5 => (intro w hSw; (try dsimp only at hSw); go_simp; (first | done | with_reducible rfl))
        try simp only [Act.put, List.setIfInBounds_toArray, List.set_cons_zero, List.set_cons_succ]
        refine wpAnyH_ready (rs := [1, 3]) (by kernel_rfl) (by simp) ?_
        refine AllReadyH.cons rfl (fun K hK => ?_) (AllReadyH.cons rfl (fun K hK => ?_) AllReadyH.nil)
        · go_simp
          refine hK.out _ _ (trivial) (fun hHeld => ?_)
          clear hK K
          try simp only [Act.put, List.setIfInBounds_toArray, List.set_cons_zero, List.set_cons_succ]
          refine wpAnyH_ready (rs := [3]) (by kernel_rfl) (by simp) ?_
          refine AllReadyH.cons rfl (fun K hK => ?_) AllReadyH.nil
          go_simp
          have ha5 := HA4.out.alloc hcb (.cells (bsZ.map (Value.int .i64)).toArray 3)
          have HSL := Lib.hid (slr_lit w4 (bsZ.map (Value.int .i64)) 3 (by decide))
          have HNE : Hid (w4.heap.size ≠ cb) := Lib.hid (by have := HA4.out.1.size; omega)
          have HAM := Lib.hid (among_br (zs := bsZ) ha5 hcb (by omega) (by decide) HSL.out (fun a m c e => by cases e; exact HNE.out) HR.out)
          have HA5 := Lib.hid ha5
          clear ha5 HSL c0 c1 f0 f1
          change K _ (w4.alloc (.cells (bsZ.map (Value.int .i64)).toArray 3))
          generalize w4.alloc (.cells (bsZ.map (Value.int .i64)).toArray 3) = w5 at HAM HA5 ⊢
          obtain ⟨c0, c1, f0, f1⟩ := cell2 HA5.out.2.2.2.1
          refine hK.out _ _ (trivial) (fun hHeld => ?_)
          clear hK K
          try simp only [Act.put, List.setIfInBounds_toArray, List.set_cons_zero, List.set_cons_succ]
          refine wpAnyH_ready (rs := [4]) (by kernel_rfl) (by simp) ?_
          refine AllReadyH.cons rfl (fun K hK => ?_) AllReadyH.nil
          go_simp
          go_at_call 39
          refine (HAM.out).mono ?_
          rintro e w6 ⟨⟨x, rfl, -⟩, ha6⟩
          have HA6 := Lib.hid ha6
          clear ha6 c0 c1 f0 f1
          obtain ⟨c0, c1, f0, f1⟩ := cell2 HA6.out.2.2.2.1
          try go_simp
          refine hK.out _ _ (trivial) (fun hHeld => ?_)
          clear hK K
          try simp only [Act.put, List.setIfInBounds_toArray, List.set_cons_zero, List.set_cons_succ]
          refine wpAnyH_ready (rs := [5]) (by kernel_rfl) (by simp) ?_
          refine AllReadyH.cons rfl (fun K hK => ?_) AllReadyH.nil
          go_simp
          have ha7 := HA6.out.alloc hcb (.cells #[.int .i64 x] 3)
          have hnx : (w6.alloc (.cells #[.int .i64 x] 3)).heap[w6.heap.size]? = some (.cells #[.int .i64 x] 3 (0, 0)) := alloc_at rfl
          generalize w6.alloc (.cells #[.int .i64 x] 3) = w7 at ha7 hnx ⊢
          have HA7 := Lib.hid ha7
          have HNX := Lib.hid hnx
          clear ha7 hnx c0 c1 f0 f1
          obtain ⟨c0, c1, f0, f1⟩ := cell2 HA7.out.2.2.2.1
          refine hK.out _ _ (trivial) (fun hHeld => ?_)
          clear hK K
          try simp only [Act.put, List.setIfInBounds_toArray, List.set_cons_zero, List.set_cons_succ]
          have HLA := Lib.hid (lt_of_block HA7.out.2.2.2.1)
          refine wpAnyH_ready (rs := [6]) (by kernel_rfl) (by simp) ?_
          refine AllReadyH.cons rfl (fun K hK => ?_) AllReadyH.nil
          refine step_append_lies _ (by rfl) _ _ _ (by rfl) (W1.heap.size + 1) 3 i0 (.int .i64 0) 1 8 Tryd.underlying24 hi hz0 hz1 hz2 rfl (by decide) _ ss.length _ (by rfl) HA7.out.2.2.2.2.2.1 ⟨w6.heap.size, 0, none⟩ 1 1 [.int .i64 x] (by rfl) (by rfl) (World.news_of_block HNX.out) ?h1xx (by decide) ?h63xx ?hbyxx ?hbsxx _ rfl ?_
          case h1xx => intro u hu; rw [List.mem_singleton.1 hu]; rfl
          case h63xx => (have := HCL.out; unfold maxLen; omega)
          case hbyxx => (have := HCL.out; omega)
          case hbsxx => (have := HLA.out; omega)
          intro g2 k2 wn hown hgr hv _
          obtain ⟨hp8, hk8⟩ := HA7.out.push2 hcb hown hgr hv
          have HP8 := Lib.hid hp8
          clear hown hgr hv c0 c1 f0 f1 hp8
          obtain ⟨c0, c1, f0, f1⟩ := cell2 hk8
          clear hk8
          refine hK.out _ _ (trivial) (fun hHeld => ?_)
          clear hK K
          try simp only [Act.put, List.setIfInBounds_toArray]
          refine take1 (i := 7) (v := ?v6) (some 30) rfl rfl (by kernel_rfl) (by kernel_rfl) (by kernel_rfl) (fun _ _ _ h => h) (Or.inl ⟨by rfl, ?y6⟩) (by assumption) ?r6
          case y6 => (intro w hSw; (try dsimp only at hSw); go_simp; (first | done | with_reducible rfl))
          try simp only [Act.put, List.setIfInBounds_toArray, List.set_cons_zero, List.set_cons_succ]
          refine wpAnyH_ready (rs := [8]) (by kernel_rfl) (by simp) ?_
          refine AllReadyH.cons rfl (fun K hK => ?_) AllReadyH.nil
          go_simp
          clear c0 c1 f0 f1
          generalize wn.setCell ⟨W1.heap.size, 1, none⟩ (.slice (some ⟨g2, 0, none⟩) (ss.length + 1) k2) = wz at HP8 ⊢
          refine hK.out _ _ (trivial) (fun hHeld => ?_)
          clear hK K
          try simp only [Act.put]
          refine wpAnyH_done (by kernel_rfl) ?_ _
          go_wp2_with fail
          go_roundw
          case rel => exact ⟨k + 1, m + 2 + 2, a1, c1', some ⟨g2, 0, none⟩, k2, ls, ss ++ [x], by omega, by go_num, Lib.hid (by rw [List.length_append, List.length_singleton]; have := HCL.out; omega), by omega, HP8⟩
          case measure => simp [intOf]; omega
        · go_simp
          have ha5 := HA4.out.alloc hcb (.cells (bsZ.map (Value.int .i64)).toArray 3)
          have HSL := Lib.hid (slr_lit w4 (bsZ.map (Value.int .i64)) 3 (by decide))
          have HNE : Hid (w4.heap.size ≠ cb) := Lib.hid (by have := HA4.out.1.size; omega)
          have HAM := Lib.hid (among_br (zs := bsZ) ha5 hcb (by omega) (by decide) HSL.out (fun a m c e => by cases e; exact HNE.out) HR.out)
          have HA5 := Lib.hid ha5
          clear ha5 HSL c0 c1 f0 f1
          change K _ (w4.alloc (.cells (bsZ.map (Value.int .i64)).toArray 3))
          generalize w4.alloc (.cells (bsZ.map (Value.int .i64)).toArray 3) = w5 at HAM HA5 ⊢
          obtain ⟨c0, c1, f0, f1⟩ := cell2 HA5.out.2.2.2.1
          refine hK.out _ _ (trivial) (fun hHeld => ?_)
          clear hK K
          try simp only [Act.put, List.setIfInBounds_toArray, List.set_cons_zero, List.set_cons_succ]
          refine wpAnyH_ready (rs := [1, 4]) (by kernel_rfl) (by simp) ?_
          refine AllReadyH.cons rfl (fun K hK => ?_) (AllReadyH.cons rfl (fun K hK => ?_) AllReadyH.nil)
          · go_simp
            refine hK.out _ _ (trivial) (fun hHeld => ?_)
            clear hK K
            try simp only [Act.put, List.setIfInBounds_toArray, List.set_cons_zero, List.set_cons_succ]
            refine wpAnyH_ready (rs := [4]) (by kernel_rfl) (by simp) ?_
            refine AllReadyH.cons rfl (fun K hK => ?_) AllReadyH.nil
            go_simp
            go_at_call 39
            refine (HAM.out).mono ?_
            rintro e w6 ⟨⟨x, rfl, -⟩, ha6⟩
            have HA6 := Lib.hid ha6
            clear ha6 c0 c1 f0 f1
            obtain ⟨c0, c1, f0, f1⟩ := cell2 HA6.out.2.2.2.1
            try go_simp
            refine hK.out _ _ (trivial) (fun hHeld => ?_)
            clear hK K
            try simp only [Act.put, List.setIfInBounds_toArray, List.set_cons_zero, List.set_cons_succ]
            refine wpAnyH_ready (rs := [5]) (by kernel_rfl) (by simp) ?_
            refine AllReadyH.cons rfl (fun K hK => ?_) AllReadyH.nil
            go_simp
            have ha7 := HA6.out.alloc hcb (.cells #[.int .i64 x] 3)
            have hnx : (w6.alloc (.cells #[.int .i64 x] 3)).heap[w6.heap.size]? = some (.cells #[.int .i64 x] 3 (0, 0)) := alloc_at rfl
            generalize w6.alloc (.cells #[.int .i64 x] 3) = w7 at ha7 hnx ⊢
            have HA7 := Lib.hid ha7
            have HNX := Lib.hid hnx
            clear ha7 hnx c0 c1 f0 f1
            obtain ⟨c0, c1, f0, f1⟩ := cell2 HA7.out.2.2.2.1
            refine hK.out _ _ (trivial) (fun hHeld => ?_)
            clear hK K
            try simp only [Act.put, List.setIfInBounds_toArray, List.set_cons_zero, List.set_cons_succ]
            have HLA := Lib.hid (lt_of_block HA7.out.2.2.2.1)
            refine wpAnyH_ready (rs := [6]) (by kernel_rfl) (by simp) ?_
            refine AllReadyH.cons rfl (fun K hK => ?_) AllReadyH.nil
            refine step_append_lies _ (by rfl) _ _ _ (by rfl) (W1.heap.size + 1) 3 i0 (.int .i64 0) 1 8 Tryd.underlying24 hi hz0 hz1 hz2 rfl (by decide) _ ss.length _ (by rfl) HA7.out.2.2.2.2.2.1 ⟨w6.heap.size, 0, none⟩ 1 1 [.int .i64 x] (by rfl) (by rfl) (World.news_of_block HNX.out) ?h1xxx (by decide) ?h63xxx ?hbyxxx ?hbsxxx _ rfl ?_
            case h1xxx => intro u hu; rw [List.mem_singleton.1 hu]; rfl
            case h63xxx => (have := HCL.out; unfold maxLen; omega)
            case hbyxxx => (have := HCL.out; omega)
            case hbsxxx => (have := HLA.out; omega)
            intro g2 k2 wn hown hgr hv _
            obtain ⟨hp8, hk8⟩ := HA7.out.push2 hcb hown hgr hv
            have HP8 := Lib.hid hp8
            clear hown hgr hv c0 c1 f0 f1 hp8
            obtain ⟨c0, c1, f0, f1⟩ := cell2 hk8
            clear hk8
            refine hK.out _ _ (trivial) (fun hHeld => ?_)
            clear hK K
            try simp only [Act.put, List.setIfInBounds_toArray]
            refine take1 (i := 7) (v := ?v7) (some 30) rfl rfl (by kernel_rfl) (by kernel_rfl) (by kernel_rfl) (fun _ _ _ h => h) (Or.inl ⟨by rfl, ?y7⟩) (by assumption) ?r7
            case y7 => (intro w hSw; (try dsimp only at hSw); go_simp; (first | done | with_reducible rfl))
            try simp only [Act.put, List.setIfInBounds_toArray, List.set_cons_zero, List.set_cons_succ]
            refine wpAnyH_ready (rs := [8]) (by kernel_rfl) (by simp) ?_
            refine AllReadyH.cons rfl (fun K hK => ?_) AllReadyH.nil
            go_simp
            clear c0 c1 f0 f1
            generalize wn.setCell ⟨W1.heap.size, 1, none⟩ (.slice (some ⟨g2, 0, none⟩) (ss.length + 1) k2) = wz at HP8 ⊢
            refine hK.out _ _ (trivial) (fun hHeld => ?_)
            clear hK K
            try simp only [Act.put]
            refine wpAnyH_done (by kernel_rfl) ?_ _
            go_wp2_with fail
            go_roundw
            case rel => exact ⟨k + 1, m + 2 + 2, a1, c1', some ⟨g2, 0, none⟩, k2, ls, ss ++ [x], by omega, by go_num, Lib.hid (by rw [List.length_append, List.length_singleton]; have := HCL.out; omega), by omega, HP8⟩
            case measure => simp [intOf]; omega
          · go_simp
            go_at_call 39
            refine (HAM.out).mono ?_
            rintro e w6 ⟨⟨x, rfl, -⟩, ha6⟩
            have HA6 := Lib.hid ha6
            clear ha6 c0 c1 f0 f1
            obtain ⟨c0, c1, f0, f1⟩ := cell2 HA6.out.2.2.2.1
            try go_simp
            refine hK.out _ _ (trivial) (fun hHeld => ?_)
            clear hK K
            try simp only [Act.put, List.setIfInBounds_toArray, List.set_cons_zero, List.set_cons_succ]
            refine wpAnyH_ready (rs := [1, 5]) (by kernel_rfl) (by simp) ?_
            refine AllReadyH.cons rfl (fun K hK => ?_) (AllReadyH.cons rfl (fun K hK => ?_) AllReadyH.nil)
            · go_simp
              refine hK.out _ _ (trivial) (fun hHeld => ?_)
              clear hK K
              try simp only [Act.put, List.setIfInBounds_toArray, List.set_cons_zero, List.set_cons_succ]
              refine wpAnyH_ready (rs := [5]) (by kernel_rfl) (by simp) ?_
              refine AllReadyH.cons rfl (fun K hK => ?_) AllReadyH.nil
              go_simp
              have ha7 := HA6.out.alloc hcb (.cells #[.int .i64 x] 3)
              have hnx : (w6.alloc (.cells #[.int .i64 x] 3)).heap[w6.heap.size]? = some (.cells #[.int .i64 x] 3 (0, 0)) := alloc_at rfl
              generalize w6.alloc (.cells #[.int .i64 x] 3) = w7 at ha7 hnx ⊢
              have HA7 := Lib.hid ha7
              have HNX := Lib.hid hnx
              clear ha7 hnx c0 c1 f0 f1
              obtain ⟨c0, c1, f0, f1⟩ := cell2 HA7.out.2.2.2.1
              refine hK.out _ _ (trivial) (fun hHeld => ?_)
              clear hK K
              try simp only [Act.put, List.setIfInBounds_toArray, List.set_cons_zero, List.set_cons_succ]
              have HLA := Lib.hid (lt_of_block HA7.out.2.2.2.1)
              refine wpAnyH_ready (rs := [6]) (by kernel_rfl) (by simp) ?_
              refine AllReadyH.cons rfl (fun K hK => ?_) AllReadyH.nil
              refine step_append_lies _ (by rfl) _ _ _ (by rfl) (W1.heap.size + 1) 3 i0 (.int .i64 0) 1 8 Tryd.underlying24 hi hz0 hz1 hz2 rfl (by decide) _ ss.length _ (by rfl) HA7.out.2.2.2.2.2.1 ⟨w6.heap.size, 0, none⟩ 1 1 [.int .i64 x] (by rfl) (by rfl) (World.news_of_block HNX.out) ?h1xxxx (by decide) ?h63xxxx ?hbyxxxx ?hbsxxxx _ rfl ?_
              case h1xxxx => intro u hu; rw [List.mem_singleton.1 hu]; rfl
              case h63xxxx => (have := HCL.out; unfold maxLen; omega)
              case hbyxxxx => (have := HCL.out; omega)
              case hbsxxxx => (have := HLA.out; omega)
              intro g2 k2 wn hown hgr hv _
              obtain ⟨hp8, hk8⟩ := HA7.out.push2 hcb hown hgr hv
              have HP8 := Lib.hid hp8
              clear hown hgr hv c0 c1 f0 f1 hp8
              obtain ⟨c0, c1, f0, f1⟩ := cell2 hk8
              clear hk8
              refine hK.out _ _ (trivial) (fun hHeld => ?_)
              clear hK K
              try simp only [Act.put, List.setIfInBounds_toArray]
              refine take1 (i := 7) (v := ?v8) (some 30) rfl rfl (by kernel_rfl) (by kernel_rfl) (by kernel_rfl) (fun _ _ _ h => h) (Or.inl ⟨by rfl, ?y8⟩) (by assumption) ?r8
              case y8 => (intro w hSw; (try dsimp only at hSw); go_simp; (first | done | with_reducible rfl))
              try simp only [Act.put, List.setIfInBounds_toArray, List.set_cons_zero, List.set_cons_succ]
              refine wpAnyH_ready (rs := [8]) (by kernel_rfl) (by simp) ?_
              refine AllReadyH.cons rfl (fun K hK => ?_) AllReadyH.nil
              go_simp
              clear c0 c1 f0 f1
              generalize wn.setCell ⟨W1.heap.size, 1, none⟩ (.slice (some ⟨g2, 0, none⟩) (ss.length + 1) k2) = wz at HP8 ⊢
              refine hK.out _ _ (trivial) (fun hHeld => ?_)
              clear hK K
              try simp only [Act.put]
              refine wpAnyH_done (by kernel_rfl) ?_ _
              go_wp2_with fail
              go_roundw
              case rel => exact ⟨k + 1, m + 2 + 2, a1, c1', some ⟨g2, 0, none⟩, k2, ls, ss ++ [x], by omega, by go_num, Lib.hid (by rw [List.length_append, List.length_singleton]; have := HCL.out; omega), by omega, HP8⟩
              case measure => simp [intOf]; omega
            · go_simp
              have ha7 := HA6.out.alloc hcb (.cells #[.int .i64 x] 3)
              have hnx : (w6.alloc (.cells #[.int .i64 x] 3)).heap[w6.heap.size]? = some (.cells #[.int .i64 x] 3 (0, 0)) := alloc_at rfl
              generalize w6.alloc (.cells #[.int .i64 x] 3) = w7 at ha7 hnx ⊢
              have HA7 := Lib.hid ha7
              have HNX := Lib.hid hnx
              clear ha7 hnx c0 c1 f0 f1
              obtain ⟨c0, c1, f0, f1⟩ := cell2 HA7.out.2.2.2.1
              refine hK.out _ _ (trivial) (fun hHeld => ?_)
              clear hK K
              try simp only [Act.put, List.setIfInBounds_toArray, List.set_cons_zero, List.set_cons_succ]
              have HLA := Lib.hid (lt_of_block HA7.out.2.2.2.1)
              refine wpAnyH_ready (rs := [1]) (by kernel_rfl) (by simp) ?_
              refine AllReadyH.cons rfl (fun K hK => ?_) AllReadyH.nil
              go_simp
              refine hK.out _ _ (trivial) (fun hHeld => ?_)
              clear hK K
              try simp only [Act.put, List.setIfInBounds_toArray, List.set_cons_zero, List.set_cons_succ]
              refine wpAnyH_ready (rs := [6]) (by kernel_rfl) (by simp) ?_
              refine AllReadyH.cons rfl (fun K hK => ?_) AllReadyH.nil
              refine step_append_lies _ (by rfl) _ _ _ (by rfl) (W1.heap.size + 1) 3 i0 (.int .i64 0) 1 8 Tryd.underlying24 hi hz0 hz1 hz2 rfl (by decide) _ ss.length _ (by rfl) HA7.out.2.2.2.2.2.1 ⟨w6.heap.size, 0, none⟩ 1 1 [.int .i64 x] (by rfl) (by rfl) (World.news_of_block HNX.out) ?h1xxxxx (by decide) ?h63xxxxx ?hbyxxxxx ?hbsxxxxx _ rfl ?_
              case h1xxxxx => intro u hu; rw [List.mem_singleton.1 hu]; rfl
              case h63xxxxx => (have := HCL.out; unfold maxLen; omega)
              case hbyxxxxx => (have := HCL.out; omega)
              case hbsxxxxx => (have := HLA.out; omega)
              intro g2 k2 wn hown hgr hv _
              obtain ⟨hp8, hk8⟩ := HA7.out.push2 hcb hown hgr hv
              have HP8 := Lib.hid hp8
              clear hown hgr hv c0 c1 f0 f1 hp8
              obtain ⟨c0, c1, f0, f1⟩ := cell2 hk8
              clear hk8
              refine hK.out _ _ (trivial) (fun hHeld => ?_)
              clear hK K
              try simp only [Act.put, List.setIfInBounds_toArray]
              refine take1 (i := 7) (v := ?v9) (some 30) rfl rfl (by kernel_rfl) (by kernel_rfl) (by kernel_rfl) (fun _ _ _ h => h) (Or.inl ⟨by rfl, ?y9⟩) (by assumption) ?r9
              case y9 => (intro w hSw; (try dsimp only at hSw); go_simp; (first | done | with_reducible rfl))
              try simp only [Act.put, List.setIfInBounds_toArray, List.set_cons_zero, List.set_cons_succ]
              refine wpAnyH_ready (rs := [8]) (by kernel_rfl) (by simp) ?_
              refine AllReadyH.cons rfl (fun K hK => ?_) AllReadyH.nil
              go_simp
              clear c0 c1 f0 f1
              generalize wn.setCell ⟨W1.heap.size, 1, none⟩ (.slice (some ⟨g2, 0, none⟩) (ss.length + 1) k2) = wz at HP8 ⊢
              refine hK.out _ _ (trivial) (fun hHeld => ?_)
              clear hK K
              try simp only [Act.put]
              refine wpAnyH_done (by kernel_rfl) ?_ _
              go_wp2_with fail
              go_roundw
              case rel => exact ⟨k + 1, m + 2 + 2, a1, c1', some ⟨g2, 0, none⟩, k2, ls, ss ++ [x], by omega, by go_num, Lib.hid (by rw [List.length_append, List.length_singleton]; have := HCL.out; omega), by omega, HP8⟩
              case measure => simp [intOf]; omega
      · go_simp
        have ha5 := HA4.out.alloc hcb (.cells (bdZ.map (Value.int .i64)).toArray 3)
        have HSL := Lib.hid (slr_lit w4 (bdZ.map (Value.int .i64)) 3 (by decide))
        have HNE : Hid (w4.heap.size ≠ cb) := Lib.hid (by have := HA4.out.1.size; omega)
        have HAM := Lib.hid (among_br (zs := bdZ) ha5 hcb (by omega) (by decide) HSL.out (fun a m c e => by cases e; exact HNE.out) HR.out)
        have HA5 := Lib.hid ha5
        clear ha5 HSL c0 c1 f0 f1
        change K _ (w4.alloc (.cells (bdZ.map (Value.int .i64)).toArray 3))
        generalize w4.alloc (.cells (bdZ.map (Value.int .i64)).toArray 3) = w5 at HAM HA5 ⊢
        obtain ⟨c0, c1, f0, f1⟩ := cell2 HA5.out.2.2.2.1
        refine hK.out _ _ (trivial) (fun hHeld => ?_)
        clear hK K
        try simp only [Act.put, List.setIfInBounds_toArray, List.set_cons_zero, List.set_cons_succ]
        refine wpAnyH_ready (rs := [1, 4]) (by kernel_rfl) (by simp) ?_
        refine AllReadyH.cons rfl (fun K hK => ?_) (AllReadyH.cons rfl (fun K hK => ?_) AllReadyH.nil)
        · go_simp
          refine hK.out _ _ (trivial) (fun hHeld => ?_)
          clear hK K
          try simp only [Act.put, List.setIfInBounds_toArray, List.set_cons_zero, List.set_cons_succ]
          refine wpAnyH_ready (rs := [4]) (by kernel_rfl) (by simp) ?_
          refine AllReadyH.cons rfl (fun K hK => ?_) AllReadyH.nil
          go_simp
          go_at_call 39
          refine (HAM.out).mono ?_
          rintro e w6 ⟨⟨x, rfl, -⟩, ha6⟩
          have HA6 := Lib.hid ha6
          clear ha6 c0 c1 f0 f1
          obtain ⟨c0, c1, f0, f1⟩ := cell2 HA6.out.2.2.2.1
          try go_simp
          refine hK.out _ _ (trivial) (fun hHeld => ?_)
          clear hK K
          try simp only [Act.put, List.setIfInBounds_toArray, List.set_cons_zero, List.set_cons_succ]
          refine wpAnyH_ready (rs := [5]) (by kernel_rfl) (by simp) ?_
          refine AllReadyH.cons rfl (fun K hK => ?_) AllReadyH.nil
          go_simp
          have ha7 := HA6.out.alloc hcb (.cells #[.int .i64 x] 3)
          have hnx : (w6.alloc (.cells #[.int .i64 x] 3)).heap[w6.heap.size]? = some (.cells #[.int .i64 x] 3 (0, 0)) := alloc_at rfl
          generalize w6.alloc (.cells #[.int .i64 x] 3) = w7 at ha7 hnx ⊢
          have HA7 := Lib.hid ha7
          have HNX := Lib.hid hnx
          clear ha7 hnx c0 c1 f0 f1
          obtain ⟨c0, c1, f0, f1⟩ := cell2 HA7.out.2.2.2.1
          refine hK.out _ _ (trivial) (fun hHeld => ?_)
          clear hK K
          try simp only [Act.put, List.setIfInBounds_toArray, List.set_cons_zero, List.set_cons_succ]
          have HLA := Lib.hid (lt_of_block HA7.out.2.2.2.1)
          refine wpAnyH_ready (rs := [6]) (by kernel_rfl) (by simp) ?_
          refine AllReadyH.cons rfl (fun K hK => ?_) AllReadyH.nil
          refine step_append_lies _ (by rfl) _ _ _ (by rfl) (W1.heap.size + 1) 3 i0 (.int .i64 0) 1 8 Tryd.underlying24 hi hz0 hz1 hz2 rfl (by decide) _ ls.length _ (by rfl) HA7.out.2.2.2.2.1 ⟨w6.heap.size, 0, none⟩ 1 1 [.int .i64 x] (by rfl) (by rfl) (World.news_of_block HNX.out) ?h1xxxxxx (by decide) ?h63xxxxxx ?hbyxxxxxx ?hbsxxxxxx _ rfl ?_
          case h1xxxxxx => intro u hu; rw [List.mem_singleton.1 hu]; rfl
          case h63xxxxxx => (have := HCL.out; unfold maxLen; omega)
          case hbyxxxxxx => (have := HCL.out; omega)
          case hbsxxxxxx => (have := HLA.out; omega)
          intro g2 k2 wn hown hgr hv _
          obtain ⟨hp8, hk8⟩ := HA7.out.push1 hcb hown hgr hv
          have HP8 := Lib.hid hp8
          clear hown hgr hv c0 c1 f0 f1 hp8
          obtain ⟨c0, c1, f0, f1⟩ := cell2 hk8
          clear hk8
          refine hK.out _ _ (trivial) (fun hHeld => ?_)
          clear hK K
          try simp only [Act.put, List.setIfInBounds_toArray]
          refine take1 (i := 7) (v := ?v10) (some 22) rfl rfl (by kernel_rfl) (by kernel_rfl) (by kernel_rfl) (fun _ _ _ h => h) (Or.inl ⟨by rfl, ?y10⟩) (by assumption) ?r10
          case y10 => (intro w hSw; (try dsimp only at hSw); go_simp; (first | done | with_reducible rfl))
          try simp only [Act.put, List.setIfInBounds_toArray, List.set_cons_zero, List.set_cons_succ]
          refine wpAnyH_ready (rs := [8]) (by kernel_rfl) (by simp) ?_
          refine AllReadyH.cons rfl (fun K hK => ?_) AllReadyH.nil
          go_simp
          clear c0 c1 f0 f1
          generalize wn.setCell ⟨W1.heap.size, 0, none⟩ (.slice (some ⟨g2, 0, none⟩) (ls.length + 1) k2) = wz at HP8 ⊢
          refine hK.out _ _ (trivial) (fun hHeld => ?_)
          clear hK K
          try simp only [Act.put]
          refine wpAnyH_done (by kernel_rfl) ?_ _
          have HCL2 : Hid ((ls ++ [x]).length = k + 1 ∧ ss.length = k) := Lib.hid (by rw [List.length_append, List.length_singleton]; have := HCL.out; omega)
          generalize ls ++ [x] = ls at HP8 HCL2
          have HAz : Hid (BrAt w wz cb cd (m + 2) W1.heap.size (some ⟨g2, 0, none⟩) k2 a2 c2' ls ss) := HP8
          obtain ⟨a1, ha1⟩ : ∃ a, a = (some ⟨g2, 0, none⟩ : Option Addr) := ⟨_, rfl⟩
          rw [← ha1] at HAz
          clear ha1 HP8 HCL
          rename Nat => c1'
          have HCL := HCL2
          obtain ⟨c0, c1, f0, f1⟩ := cell2 HAz.out.2.2.2.1
          go_wp2_with fail
          refine wp_region_held_drew (S := (fun _ => True)) (by kernel_rfl) (trivial) (fun hHeld => ?_)
          have ha4 := HAz.out.drew hcb
          generalize wz.drew = w4 at ha4 hHeld ⊢
          have HA4 := Lib.hid ha4
          clear ha4 c0 c1 f0 f1
          obtain ⟨c0, c1, f0, f1⟩ := cell2 HA4.out.2.2.2.1
          refine take1 (i := 0) (v := ?v11) (some 23) rfl rfl (by kernel_rfl) (by kernel_rfl) (by kernel_rfl) (fun _ _ _ h => h) (Or.inl ⟨by rfl, ?y11⟩) (by assumption) ?r11
          case y11 => (intro w hSw; (try dsimp only at hSw); go_simp; (first | done | with_reducible rfl))
          try simp only [Act.put, List.setIfInBounds_toArray, List.set_cons_zero, List.set_cons_succ]
          refine take1 (i := 2) (v := ?v12) (some 25) rfl rfl (by kernel_rfl) (by kernel_rfl) (by kernel_rfl) (fun _ _ _ h => h) (Or.inl ⟨by rfl, ?y12⟩) (by assumption) ?r12
          case y12 => (intro w hSw; (try dsimp only at hSw); go_simp; (first | done | with_reducible rfl))
          try simp only [Act.put, List.setIfInBounds_toArray, List.set_cons_zero, List.set_cons_succ]
          refine wpAnyH_ready (rs := [1, 3]) (by kernel_rfl) (by simp) ?_
          refine AllReadyH.cons rfl (fun K hK => ?_) (AllReadyH.cons rfl (fun K hK => ?_) AllReadyH.nil)
          · go_simp
            refine hK.out _ _ (trivial) (fun hHeld => ?_)
            clear hK K
            try simp only [Act.put, List.setIfInBounds_toArray, List.set_cons_zero, List.set_cons_succ]
            refine wpAnyH_ready (rs := [3]) (by kernel_rfl) (by simp) ?_
            refine AllReadyH.cons rfl (fun K hK => ?_) AllReadyH.nil
            go_simp
            have ha5 := HA4.out.alloc hcb (.cells (bsZ.map (Value.int .i64)).toArray 3)
            have HSL := Lib.hid (slr_lit w4 (bsZ.map (Value.int .i64)) 3 (by decide))
            have HNE : Hid (w4.heap.size ≠ cb) := Lib.hid (by have := HA4.out.1.size; omega)
            have HAM := Lib.hid (among_br (zs := bsZ) ha5 hcb (by omega) (by decide) HSL.out (fun a m c e => by cases e; exact HNE.out) HR.out)
            have HA5 := Lib.hid ha5
            clear ha5 HSL c0 c1 f0 f1
            change K _ (w4.alloc (.cells (bsZ.map (Value.int .i64)).toArray 3))
            generalize w4.alloc (.cells (bsZ.map (Value.int .i64)).toArray 3) = w5 at HAM HA5 ⊢
            obtain ⟨c0, c1, f0, f1⟩ := cell2 HA5.out.2.2.2.1
            refine hK.out _ _ (trivial) (fun hHeld => ?_)
            clear hK K
            try simp only [Act.put, List.setIfInBounds_toArray, List.set_cons_zero, List.set_cons_succ]
            refine wpAnyH_ready (rs := [4]) (by kernel_rfl) (by simp) ?_
            refine AllReadyH.cons rfl (fun K hK => ?_) AllReadyH.nil
            go_simp
            go_at_call 39
            refine (HAM.out).mono ?_
            rintro e w6 ⟨⟨x, rfl, -⟩, ha6⟩
            have HA6 := Lib.hid ha6
            clear ha6 c0 c1 f0 f1
            obtain ⟨c0, c1, f0, f1⟩ := cell2 HA6.out.2.2.2.1
            try go_simp
            refine hK.out _ _ (trivial) (fun hHeld => ?_)
            clear hK K
            try simp only [Act.put, List.setIfInBounds_toArray, List.set_cons_zero, List.set_cons_succ]
            refine wpAnyH_ready (rs := [5]) (by kernel_rfl) (by simp) ?_
            refine AllReadyH.cons rfl (fun K hK => ?_) AllReadyH.nil
            go_simp
            have ha7 := HA6.out.alloc hcb (.cells #[.int .i64 x] 3)
            have hnx : (w6.alloc (.cells #[.int .i64 x] 3)).heap[w6.heap.size]? = some (.cells #[.int .i64 x] 3 (0, 0)) := alloc_at rfl
            generalize w6.alloc (.cells #[.int .i64 x] 3) = w7 at ha7 hnx ⊢
            have HA7 := Lib.hid ha7
            have HNX := Lib.hid hnx
            clear ha7 hnx c0 c1 f0 f1
            obtain ⟨c0, c1, f0, f1⟩ := cell2 HA7.out.2.2.2.1
            refine hK.out _ _ (trivial) (fun hHeld => ?_)
            clear hK K
            try simp only [Act.put, List.setIfInBounds_toArray, List.set_cons_zero, List.set_cons_succ]
            have HLA := Lib.hid (lt_of_block HA7.out.2.2.2.1)
            refine wpAnyH_ready (rs := [6]) (by kernel_rfl) (by simp) ?_
            refine AllReadyH.cons rfl (fun K hK => ?_) AllReadyH.nil
            refine step_append_lies _ (by rfl) _ _ _ (by rfl) (W1.heap.size + 1) 3 i0 (.int .i64 0) 1 8 Tryd.underlying24 hi hz0 hz1 hz2 rfl (by decide) _ ss.length _ (by rfl) HA7.out.2.2.2.2.2.1 ⟨w6.heap.size, 0, none⟩ 1 1 [.int .i64 x] (by rfl) (by rfl) (World.news_of_block HNX.out) ?h1xxxxxxx (by decide) ?h63xxxxxxx ?hbyxxxxxxx ?hbsxxxxxxx _ rfl ?_
            case h1xxxxxxx => intro u hu; rw [List.mem_singleton.1 hu]; rfl
            case h63xxxxxxx => (have := HCL.out; unfold maxLen; omega)
            case hbyxxxxxxx => (have := HCL.out; omega)
            case hbsxxxxxxx => (have := HLA.out; omega)
            intro g2 k2 wn hown hgr hv _
            obtain ⟨hp8, hk8⟩ := HA7.out.push2 hcb hown hgr hv
            have HP8 := Lib.hid hp8
            clear hown hgr hv c0 c1 f0 f1 hp8
            obtain ⟨c0, c1, f0, f1⟩ := cell2 hk8
            clear hk8
            refine hK.out _ _ (trivial) (fun hHeld => ?_)
            clear hK K
            try simp only [Act.put, List.setIfInBounds_toArray]
            refine take1 (i := 7) (v := ?v13) (some 30) rfl rfl (by kernel_rfl) (by kernel_rfl) (by kernel_rfl) (fun _ _ _ h => h) (Or.inl ⟨by rfl, ?y13⟩) (by assumption) ?r13
            case y13 => (intro w hSw; (try dsimp only at hSw); go_simp; (first | done | with_reducible rfl))
            try simp only [Act.put, List.setIfInBounds_toArray, List.set_cons_zero, List.set_cons_succ]
            refine wpAnyH_ready (rs := [8]) (by kernel_rfl) (by simp) ?_
            refine AllReadyH.cons rfl (fun K hK => ?_) AllReadyH.nil
            go_simp
            clear c0 c1 f0 f1
            generalize wn.setCell ⟨W1.heap.size, 1, none⟩ (.slice (some ⟨g2, 0, none⟩) (ss.length + 1) k2) = wz at HP8 ⊢
            refine hK.out _ _ (trivial) (fun hHeld => ?_)
            clear hK K
            try simp only [Act.put]
            refine wpAnyH_done (by kernel_rfl) ?_ _
            go_wp2_with fail
            go_roundw
            case rel => exact ⟨k + 1, m + 2 + 2, a1, c1', some ⟨g2, 0, none⟩, k2, ls, ss ++ [x], by omega, by go_num, Lib.hid (by rw [List.length_append, List.length_singleton]; have := HCL.out; omega), by omega, HP8⟩
            case measure => simp [intOf]; omega
          · go_simp
            have ha5 := HA4.out.alloc hcb (.cells (bsZ.map (Value.int .i64)).toArray 3)
            have HSL := Lib.hid (slr_lit w4 (bsZ.map (Value.int .i64)) 3 (by decide))
            have HNE : Hid (w4.heap.size ≠ cb) := Lib.hid (by have := HA4.out.1.size; omega)
            have HAM := Lib.hid (among_br (zs := bsZ) ha5 hcb (by omega) (by decide) HSL.out (fun a m c e => by cases e; exact HNE.out) HR.out)
            have HA5 := Lib.hid ha5
            clear ha5 HSL c0 c1 f0 f1
            change K _ (w4.alloc (.cells (bsZ.map (Value.int .i64)).toArray 3))
            generalize w4.alloc (.cells (bsZ.map (Value.int .i64)).toArray 3) = w5 at HAM HA5 ⊢
            obtain ⟨c0, c1, f0, f1⟩ := cell2 HA5.out.2.2.2.1
            refine hK.out _ _ (trivial) (fun hHeld => ?_)
            clear hK K
            try simp only [Act.put, List.setIfInBounds_toArray, List.set_cons_zero, List.set_cons_succ]
            refine wpAnyH_ready (rs := [1, 4]) (by kernel_rfl) (by simp) ?_
            refine AllReadyH.cons rfl (fun K hK => ?_) (AllReadyH.cons rfl (fun K hK => ?_) AllReadyH.nil)
            · go_simp
              refine hK.out _ _ (trivial) (fun hHeld => ?_)
              clear hK K
              try simp only [Act.put, List.setIfInBounds_toArray, List.set_cons_zero, List.set_cons_succ]
              refine wpAnyH_ready (rs := [4]) (by kernel_rfl) (by simp) ?_
              refine AllReadyH.cons rfl (fun K hK => ?_) AllReadyH.nil
              go_simp
              go_at_call 39
              refine (HAM.out).mono ?_
              rintro e w6 ⟨⟨x, rfl, -⟩, ha6⟩
              have HA6 := Lib.hid ha6
              clear ha6 c0 c1 f0 f1
              obtain ⟨c0, c1, f0, f1⟩ := cell2 HA6.out.2.2.2.1
              try go_simp
              refine hK.out _ _ (trivial) (fun hHeld => ?_)
              clear hK K
              try simp only [Act.put, List.setIfInBounds_toArray, List.set_cons_zero, List.set_cons_succ]
              refine wpAnyH_ready (rs := [5]) (by kernel_rfl) (by simp) ?_
              refine AllReadyH.cons rfl (fun K hK => ?_) AllReadyH.nil
              go_simp
              have ha7 := HA6.out.alloc hcb (.cells #[.int .i64 x] 3)
              have hnx : (w6.alloc (.cells #[.int .i64 x] 3)).heap[w6.heap.size]? = some (.cells #[.int .i64 x] 3 (0, 0)) := alloc_at rfl
              generalize w6.alloc (.cells #[.int .i64 x] 3) = w7 at ha7 hnx ⊢
              have HA7 := Lib.hid ha7
              have HNX := Lib.hid hnx
              clear ha7 hnx c0 c1 f0 f1
              obtain ⟨c0, c1, f0, f1⟩ := cell2 HA7.out.2.2.2.1
              refine hK.out _ _ (trivial) (fun hHeld => ?_)
              clear hK K
              try simp only [Act.put, List.setIfInBounds_toArray, List.set_cons_zero, List.set_cons_succ]
              have HLA := Lib.hid (lt_of_block HA7.out.2.2.2.1)
              refine wpAnyH_ready (rs := [6]) (by kernel_rfl) (by simp) ?_
              refine AllReadyH.cons rfl (fun K hK => ?_) AllReadyH.nil
              refine step_append_lies _ (by rfl) _ _ _ (by rfl) (W1.heap.size + 1) 3 i0 (.int .i64 0) 1 8 Tryd.underlying24 hi hz0 hz1 hz2 rfl (by decide) _ ss.length _ (by rfl) HA7.out.2.2.2.2.2.1 ⟨w6.heap.size, 0, none⟩ 1 1 [.int .i64 x] (by rfl) (by rfl) (World.news_of_block HNX.out) ?h1xxxxxxxx (by decide) ?h63xxxxxxxx ?hbyxxxxxxxx ?hbsxxxxxxxx _ rfl ?_
              case h1xxxxxxxx => intro u hu; rw [List.mem_singleton.1 hu]; rfl
              case h63xxxxxxxx => (have := HCL.out; unfold maxLen; omega)
              case hbyxxxxxxxx => (have := HCL.out; omega)
              case hbsxxxxxxxx => (have := HLA.out; omega)
              intro g2 k2 wn hown hgr hv _
              obtain ⟨hp8, hk8⟩ := HA7.out.push2 hcb hown hgr hv
              have HP8 := Lib.hid hp8
              clear hown hgr hv c0 c1 f0 f1 hp8
              obtain ⟨c0, c1, f0, f1⟩ := cell2 hk8
              clear hk8
              refine hK.out _ _ (trivial) (fun hHeld => ?_)
              clear hK K
              try simp only [Act.put, List.setIfInBounds_toArray]
              refine take1 (i := 7) (v := ?v14) (some 30) rfl rfl (by kernel_rfl) (by kernel_rfl) (by kernel_rfl) (fun _ _ _ h => h) (Or.inl ⟨by rfl, ?y14⟩) (by assumption) ?r14
              case y14 => (intro w hSw; (try dsimp only at hSw); go_simp; (first | done | with_reducible rfl))
              try simp only [Act.put, List.setIfInBounds_toArray, List.set_cons_zero, List.set_cons_succ]
              refine wpAnyH_ready (rs := [8]) (by kernel_rfl) (by simp) ?_
              refine AllReadyH.cons rfl (fun K hK => ?_) AllReadyH.nil
              go_simp
              clear c0 c1 f0 f1
              generalize wn.setCell ⟨W1.heap.size, 1, none⟩ (.slice (some ⟨g2, 0, none⟩) (ss.length + 1) k2) = wz at HP8 ⊢
              refine hK.out _ _ (trivial) (fun hHeld => ?_)
              clear hK K
              try simp only [Act.put]
              refine wpAnyH_done (by kernel_rfl) ?_ _
              go_wp2_with fail
              go_roundw
              case rel => exact ⟨k + 1, m + 2 + 2, a1, c1', some ⟨g2, 0, none⟩, k2, ls, ss ++ [x], by omega, by go_num, Lib.hid (by rw [List.length_append, List.length_singleton]; have := HCL.out; omega), by omega, HP8⟩
              case measure => simp [intOf]; omega
            · go_simp
              go_at_call 39
              refine (HAM.out).mono ?_
              rintro e w6 ⟨⟨x, rfl, -⟩, ha6⟩
              have HA6 := Lib.hid ha6
              clear ha6 c0 c1 f0 f1
              obtain ⟨c0, c1, f0, f1⟩ := cell2 HA6.out.2.2.2.1
              try go_simp
              refine hK.out _ _ (trivial) (fun hHeld => ?_)
              clear hK K
              try simp only [Act.put, List.setIfInBounds_toArray, List.set_cons_zero, List.set_cons_succ]
              refine wpAnyH_ready (rs := [1, 5]) (by kernel_rfl) (by simp) ?_
              refine AllReadyH.cons rfl (fun K hK => ?_) (AllReadyH.cons rfl (fun K hK => ?_) AllReadyH.nil)
              · go_simp
                refine hK.out _ _ (trivial) (fun hHeld => ?_)
                clear hK K
                try simp only [Act.put, List.setIfInBounds_toArray, List.set_cons_zero, List.set_cons_succ]
                refine wpAnyH_ready (rs := [5]) (by kernel_rfl) (by simp) ?_
                refine AllReadyH.cons rfl (fun K hK => ?_) AllReadyH.nil
                go_simp
                have ha7 := HA6.out.alloc hcb (.cells #[.int .i64 x] 3)
                have hnx : (w6.alloc (.cells #[.int .i64 x] 3)).heap[w6.heap.size]? = some (.cells #[.int .i64 x] 3 (0, 0)) := alloc_at rfl
                generalize w6.alloc (.cells #[.int .i64 x] 3) = w7 at ha7 hnx ⊢
                have HA7 := Lib.hid ha7
                have HNX := Lib.hid hnx
                clear ha7 hnx c0 c1 f0 f1
                obtain ⟨c0, c1, f0, f1⟩ := cell2 HA7.out.2.2.2.1
                refine hK.out _ _ (trivial) (fun hHeld => ?_)
                clear hK K
                try simp only [Act.put, List.setIfInBounds_toArray, List.set_cons_zero, List.set_cons_succ]
                have HLA := Lib.hid (lt_of_block HA7.out.2.2.2.1)
                refine wpAnyH_ready (rs := [6]) (by kernel_rfl) (by simp) ?_
                refine AllReadyH.cons rfl (fun K hK => ?_) AllReadyH.nil
                refine step_append_lies _ (by rfl) _ _ _ (by rfl) (W1.heap.size + 1) 3 i0 (.int .i64 0) 1 8 Tryd.underlying24 hi hz0 hz1 hz2 rfl (by decide) _ ss.length _ (by rfl) HA7.out.2.2.2.2.2.1 ⟨w6.heap.size, 0, none⟩ 1 1 [.int .i64 x] (by rfl) (by rfl) (World.news_of_block HNX.out) ?h1xxxxxxxxx (by decide) ?h63xxxxxxxxx ?hbyxxxxxxxxx ?hbsxxxxxxxxx _ rfl ?_
                case h1xxxxxxxxx => intro u hu; rw [List.mem_singleton.1 hu]; rfl
                case h63xxxxxxxxx => (have := HCL.out; unfold maxLen; omega)
                case hbyxxxxxxxxx => (have := HCL.out; omega)
                case hbsxxxxxxxxx => (have := HLA.out; omega)
                intro g2 k2 wn hown hgr hv _
                obtain ⟨hp8, hk8⟩ := HA7.out.push2 hcb hown hgr hv
                have HP8 := Lib.hid hp8
                clear hown hgr hv c0 c1 f0 f1 hp8
                obtain ⟨c0, c1, f0, f1⟩ := cell2 hk8
                clear hk8
                refine hK.out _ _ (trivial) (fun hHeld => ?_)
                clear hK K
                try simp only [Act.put, List.setIfInBounds_toArray]
                refine take1 (i := 7) (v := ?v15) (some 30) rfl rfl (by kernel_rfl) (by kernel_rfl) (by kernel_rfl) (fun _ _ _ h => h) (Or.inl ⟨by rfl, ?y15⟩) (by assumption) ?r15
                case y15 => (intro w hSw; (try dsimp only at hSw); go_simp; (first | done | with_reducible rfl))
                try simp only [Act.put, List.setIfInBounds_toArray, List.set_cons_zero, List.set_cons_succ]
                refine wpAnyH_ready (rs := [8]) (by kernel_rfl) (by simp) ?_
                refine AllReadyH.cons rfl (fun K hK => ?_) AllReadyH.nil
                go_simp
                clear c0 c1 f0 f1
                generalize wn.setCell ⟨W1.heap.size, 1, none⟩ (.slice (some ⟨g2, 0, none⟩) (ss.length + 1) k2) = wz at HP8 ⊢
                refine hK.out _ _ (trivial) (fun hHeld => ?_)
                clear hK K
                try simp only [Act.put]
                refine wpAnyH_done (by kernel_rfl) ?_ _
                go_wp2_with fail
                go_roundw
                case rel => exact ⟨k + 1, m + 2 + 2, a1, c1', some ⟨g2, 0, none⟩, k2, ls, ss ++ [x], by omega, by go_num, Lib.hid (by rw [List.length_append, List.length_singleton]; have := HCL.out; omega), by omega, HP8⟩
                case measure => simp [intOf]; omega
              · go_simp
                have ha7 := HA6.out.alloc hcb (.cells #[.int .i64 x] 3)
                have hnx : (w6.alloc (.cells #[.int .i64 x] 3)).heap[w6.heap.size]? = some (.cells #[.int .i64 x] 3 (0, 0)) := alloc_at rfl
                generalize w6.alloc (.cells #[.int .i64 x] 3) = w7 at ha7 hnx ⊢
                have HA7 := Lib.hid ha7
                have HNX := Lib.hid hnx
                clear ha7 hnx c0 c1 f0 f1
                obtain ⟨c0, c1, f0, f1⟩ := cell2 HA7.out.2.2.2.1
                refine hK.out _ _ (trivial) (fun hHeld => ?_)
                clear hK K
                try simp only [Act.put, List.setIfInBounds_toArray, List.set_cons_zero, List.set_cons_succ]
                have HLA := Lib.hid (lt_of_block HA7.out.2.2.2.1)
                refine wpAnyH_ready (rs := [1]) (by kernel_rfl) (by simp) ?_
                refine AllReadyH.cons rfl (fun K hK => ?_) AllReadyH.nil
                go_simp
                refine hK.out _ _ (trivial) (fun hHeld => ?_)
                clear hK K
                try simp only [Act.put, List.setIfInBounds_toArray, List.set_cons_zero, List.set_cons_succ]
                refine wpAnyH_ready (rs := [6]) (by kernel_rfl) (by simp) ?_
                refine AllReadyH.cons rfl (fun K hK => ?_) AllReadyH.nil
                refine step_append_lies _ (by rfl) _ _ _ (by rfl) (W1.heap.size + 1) 3 i0 (.int .i64 0) 1 8 Tryd.underlying24 hi hz0 hz1 hz2 rfl (by decide) _ ss.length _ (by rfl) HA7.out.2.2.2.2.2.1 ⟨w6.heap.size, 0, none⟩ 1 1 [.int .i64 x] (by rfl) (by rfl) (World.news_of_block HNX.out) ?h1xxxxxxxxxx (by decide) ?h63xxxxxxxxxx ?hbyxxxxxxxxxx ?hbsxxxxxxxxxx _ rfl ?_
                case h1xxxxxxxxxx => intro u hu; rw [List.mem_singleton.1 hu]; rfl
                case h63xxxxxxxxxx => (have := HCL.out; unfold maxLen; omega)
                case hbyxxxxxxxxxx => (have := HCL.out; omega)
                case hbsxxxxxxxxxx => (have := HLA.out; omega)
                intro g2 k2 wn hown hgr hv _
                obtain ⟨hp8, hk8⟩ := HA7.out.push2 hcb hown hgr hv
                have HP8 := Lib.hid hp8
                clear hown hgr hv c0 c1 f0 f1 hp8
                obtain ⟨c0, c1, f0, f1⟩ := cell2 hk8
                clear hk8
                refine hK.out _ _ (trivial) (fun hHeld => ?_)
                clear hK K
                try simp only [Act.put, List.setIfInBounds_toArray]
                refine take1 (i := 7) (v := ?v16) (some 30) rfl rfl (by kernel_rfl) (by kernel_rfl) (by kernel_rfl) (fun _ _ _ h => h) (Or.inl ⟨by rfl, ?y16⟩) (by assumption) ?r16
                case y16 => (intro w hSw; (try dsimp only at hSw); go_simp; (first | done | with_reducible rfl))
                try simp only [Act.put, List.setIfInBounds_toArray, List.set_cons_zero, List.set_cons_succ]
                refine wpAnyH_ready (rs := [8]) (by kernel_rfl) (by simp) ?_
                refine AllReadyH.cons rfl (fun K hK => ?_) AllReadyH.nil
                go_simp
                clear c0 c1 f0 f1
                generalize wn.setCell ⟨W1.heap.size, 1, none⟩ (.slice (some ⟨g2, 0, none⟩) (ss.length + 1) k2) = wz at HP8 ⊢
                refine hK.out _ _ (trivial) (fun hHeld => ?_)
                clear hK K
                try simp only [Act.put]
                refine wpAnyH_done (by kernel_rfl) ?_ _
                go_wp2_with fail
                go_roundw
                case rel => exact ⟨k + 1, m + 2 + 2, a1, c1', some ⟨g2, 0, none⟩, k2, ls, ss ++ [x], by omega, by go_num, Lib.hid (by rw [List.length_append, List.length_singleton]; have := HCL.out; omega), by omega, HP8⟩
                case measure => simp [intOf]; omega
        · go_simp
          go_at_call 39
          refine (HAM.out).mono ?_
          rintro e w6 ⟨⟨x, rfl, -⟩, ha6⟩
          have HA6 := Lib.hid ha6
          clear ha6 c0 c1 f0 f1
          obtain ⟨c0, c1, f0, f1⟩ := cell2 HA6.out.2.2.2.1
          try go_simp
          refine hK.out _ _ (trivial) (fun hHeld => ?_)
          clear hK K
          try simp only [Act.put, List.setIfInBounds_toArray, List.set_cons_zero, List.set_cons_succ]
          refine wpAnyH_ready (rs := [1, 5]) (by kernel_rfl) (by simp) ?_
          refine AllReadyH.cons rfl (fun K hK => ?_) (AllReadyH.cons rfl (fun K hK => ?_) AllReadyH.nil)
          · go_simp
            refine hK.out _ _ (trivial) (fun hHeld => ?_)
            clear hK K
            try simp only [Act.put, List.setIfInBounds_toArray, List.set_cons_zero, List.set_cons_succ]
            refine wpAnyH_ready (rs := [5]) (by kernel_rfl) (by simp) ?_
            refine AllReadyH.cons rfl (fun K hK => ?_) AllReadyH.nil
            go_simp
            have ha7 := HA6.out.alloc hcb (.cells #[.int .i64 x] 3)
            have hnx : (w6.alloc (.cells #[.int .i64 x] 3)).heap[w6.heap.size]? = some (.cells #[.int .i64 x] 3 (0, 0)) := alloc_at rfl
            generalize w6.alloc (.cells #[.int .i64 x] 3) = w7 at ha7 hnx ⊢
            have HA7 := Lib.hid ha7
            have HNX := Lib.hid hnx
            clear ha7 hnx c0 c1 f0 f1
            obtain ⟨c0, c1, f0, f1⟩ := cell2 HA7.out.2.2.2.1
            refine hK.out _ _ (trivial) (fun hHeld => ?_)
            clear hK K
            try simp only [Act.put, List.setIfInBounds_toArray, List.set_cons_zero, List.set_cons_succ]
            have HLA := Lib.hid (lt_of_block HA7.out.2.2.2.1)
            refine wpAnyH_ready (rs := [6]) (by kernel_rfl) (by simp) ?_
            refine AllReadyH.cons rfl (fun K hK => ?_) AllReadyH.nil
            refine step_append_lies _ (by rfl) _ _ _ (by rfl) (W1.heap.size + 1) 3 i0 (.int .i64 0) 1 8 Tryd.underlying24 hi hz0 hz1 hz2 rfl (by decide) _ ls.length _ (by rfl) HA7.out.2.2.2.2.1 ⟨w6.heap.size, 0, none⟩ 1 1 [.int .i64 x] (by rfl) (by rfl) (World.news_of_block HNX.out) ?h1xxxxxxxxxxx (by decide) ?h63xxxxxxxxxxx ?hbyxxxxxxxxxxx ?hbsxxxxxxxxxxx _ rfl ?_
            case h1xxxxxxxxxxx => intro u hu; rw [List.mem_singleton.1 hu]; rfl
            case h63xxxxxxxxxxx => (have := HCL.out; unfold maxLen; omega)
            case hbyxxxxxxxxxxx => (have := HCL.out; omega)
            case hbsxxxxxxxxxxx => (have := HLA.out; omega)
            intro g2 k2 wn hown hgr hv _
            obtain ⟨hp8, hk8⟩ := HA7.out.push1 hcb hown hgr hv
            have HP8 := Lib.hid hp8
            clear hown hgr hv c0 c1 f0 f1 hp8
            obtain ⟨c0, c1, f0, f1⟩ := cell2 hk8
            clear hk8
            refine hK.out _ _ (trivial) (fun hHeld => ?_)
            clear hK K
            try simp only [Act.put, List.setIfInBounds_toArray]
            refine take1 (i := 7) (v := ?v17) (some 22) rfl rfl (by kernel_rfl) (by kernel_rfl) (by kernel_rfl) (fun _ _ _ h => h) (Or.inl ⟨by rfl, ?y17⟩) (by assumption) ?r17
            case y17 => (intro w hSw; (try dsimp only at hSw); go_simp; (first | done | with_reducible rfl))
            try simp only [Act.put, List.setIfInBounds_toArray, List.set_cons_zero, List.set_cons_succ]
            refine wpAnyH_ready (rs := [8]) (by kernel_rfl) (by simp) ?_
            refine AllReadyH.cons rfl (fun K hK => ?_) AllReadyH.nil
            go_simp
            clear c0 c1 f0 f1
            generalize wn.setCell ⟨W1.heap.size, 0, none⟩ (.slice (some ⟨g2, 0, none⟩) (ls.length + 1) k2) = wz at HP8 ⊢
            refine hK.out _ _ (trivial) (fun hHeld => ?_)
            clear hK K
            try simp only [Act.put]
            refine wpAnyH_done (by kernel_rfl) ?_ _
            have HCL2 : Hid ((ls ++ [x]).length = k + 1 ∧ ss.length = k) := Lib.hid (by rw [List.length_append, List.length_singleton]; have := HCL.out; omega)
            generalize ls ++ [x] = ls at HP8 HCL2
            have HAz : Hid (BrAt w wz cb cd (m + 2) W1.heap.size (some ⟨g2, 0, none⟩) k2 a2 c2' ls ss) := HP8
            obtain ⟨a1, ha1⟩ : ∃ a, a = (some ⟨g2, 0, none⟩ : Option Addr) := ⟨_, rfl⟩
            rw [← ha1] at HAz
            clear ha1 HP8 HCL
            rename Nat => c1'
            have HCL := HCL2
            obtain ⟨c0, c1, f0, f1⟩ := cell2 HAz.out.2.2.2.1
            go_wp2_with fail
            refine wp_region_held_drew (S := (fun _ => True)) (by kernel_rfl) (trivial) (fun hHeld => ?_)
            have ha4 := HAz.out.drew hcb
            generalize wz.drew = w4 at ha4 hHeld ⊢
            have HA4 := Lib.hid ha4
            clear ha4 c0 c1 f0 f1
            obtain ⟨c0, c1, f0, f1⟩ := cell2 HA4.out.2.2.2.1
            refine take1 (i := 0) (v := ?v18) (some 23) rfl rfl (by kernel_rfl) (by kernel_rfl) (by kernel_rfl) (fun _ _ _ h => h) (Or.inl ⟨by rfl, ?y18⟩) (by assumption) ?r18
            case y18 => (intro w hSw; (try dsimp only at hSw); go_simp; (first | done | with_reducible rfl))
            try simp only [Act.put, List.setIfInBounds_toArray, List.set_cons_zero, List.set_cons_succ]
            refine take1 (i := 2) (v := ?v19) (some 25) rfl rfl (by kernel_rfl) (by kernel_rfl) (by kernel_rfl) (fun _ _ _ h => h) (Or.inl ⟨by rfl, ?y19⟩) (by assumption) ?r19
            case y19 => (intro w hSw; (try dsimp only at hSw); go_simp; (first | done | with_reducible rfl))
            try simp only [Act.put, List.setIfInBounds_toArray, List.set_cons_zero, List.set_cons_succ]
            refine wpAnyH_ready (rs := [1, 3]) (by kernel_rfl) (by simp) ?_
            refine AllReadyH.cons rfl (fun K hK => ?_) (AllReadyH.cons rfl (fun K hK => ?_) AllReadyH.nil)
            · go_simp
              refine hK.out _ _ (trivial) (fun hHeld => ?_)
              clear hK K
              try simp only [Act.put, List.setIfInBounds_toArray, List.set_cons_zero, List.set_cons_succ]
              refine wpAnyH_ready (rs := [3]) (by kernel_rfl) (by simp) ?_
              refine AllReadyH.cons rfl (fun K hK => ?_) AllReadyH.nil
              go_simp
              have ha5 := HA4.out.alloc hcb (.cells (bsZ.map (Value.int .i64)).toArray 3)
              have HSL := Lib.hid (slr_lit w4 (bsZ.map (Value.int .i64)) 3 (by decide))
              have HNE : Hid (w4.heap.size ≠ cb) := Lib.hid (by have := HA4.out.1.size; omega)
              have HAM := Lib.hid (among_br (zs := bsZ) ha5 hcb (by omega) (by decide) HSL.out (fun a m c e => by cases e; exact HNE.out) HR.out)
              have HA5 := Lib.hid ha5
              clear ha5 HSL c0 c1 f0 f1
              change K _ (w4.alloc (.cells (bsZ.map (Value.int .i64)).toArray 3))
              generalize w4.alloc (.cells (bsZ.map (Value.int .i64)).toArray 3) = w5 at HAM HA5 ⊢
              obtain ⟨c0, c1, f0, f1⟩ := cell2 HA5.out.2.2.2.1
              refine hK.out _ _ (trivial) (fun hHeld => ?_)
              clear hK K
              try simp only [Act.put, List.setIfInBounds_toArray, List.set_cons_zero, List.set_cons_succ]
              refine wpAnyH_ready (rs := [4]) (by kernel_rfl) (by simp) ?_
              refine AllReadyH.cons rfl (fun K hK => ?_) AllReadyH.nil
              go_simp
              go_at_call 39
              refine (HAM.out).mono ?_
              rintro e w6 ⟨⟨x, rfl, -⟩, ha6⟩
              have HA6 := Lib.hid ha6
              clear ha6 c0 c1 f0 f1
              obtain ⟨c0, c1, f0, f1⟩ := cell2 HA6.out.2.2.2.1
              try go_simp
              refine hK.out _ _ (trivial) (fun hHeld => ?_)
              clear hK K
              try simp only [Act.put, List.setIfInBounds_toArray, List.set_cons_zero, List.set_cons_succ]
              refine wpAnyH_ready (rs := [5]) (by kernel_rfl) (by simp) ?_
              refine AllReadyH.cons rfl (fun K hK => ?_) AllReadyH.nil
              go_simp
              have ha7 := HA6.out.alloc hcb (.cells #[.int .i64 x] 3)
              have hnx : (w6.alloc (.cells #[.int .i64 x] 3)).heap[w6.heap.size]? = some (.cells #[.int .i64 x] 3 (0, 0)) := alloc_at rfl
              generalize w6.alloc (.cells #[.int .i64 x] 3) = w7 at ha7 hnx ⊢
              have HA7 := Lib.hid ha7
              have HNX := Lib.hid hnx
              clear ha7 hnx c0 c1 f0 f1
              obtain ⟨c0, c1, f0, f1⟩ := cell2 HA7.out.2.2.2.1
              refine hK.out _ _ (trivial) (fun hHeld => ?_)
              clear hK K
              try simp only [Act.put, List.setIfInBounds_toArray, List.set_cons_zero, List.set_cons_succ]
              have HLA := Lib.hid (lt_of_block HA7.out.2.2.2.1)
              refine wpAnyH_ready (rs := [6]) (by kernel_rfl) (by simp) ?_
              refine AllReadyH.cons rfl (fun K hK => ?_) AllReadyH.nil
              refine step_append_lies _ (by rfl) _ _ _ (by rfl) (W1.heap.size + 1) 3 i0 (.int .i64 0) 1 8 Tryd.underlying24 hi hz0 hz1 hz2 rfl (by decide) _ ss.length _ (by rfl) HA7.out.2.2.2.2.2.1 ⟨w6.heap.size, 0, none⟩ 1 1 [.int .i64 x] (by rfl) (by rfl) (World.news_of_block HNX.out) ?h1xxxxxxxxxxxx (by decide) ?h63xxxxxxxxxxxx ?hbyxxxxxxxxxxxx ?hbsxxxxxxxxxxxx _ rfl ?_
              case h1xxxxxxxxxxxx => intro u hu; rw [List.mem_singleton.1 hu]; rfl
              case h63xxxxxxxxxxxx => (have := HCL.out; unfold maxLen; omega)
              case hbyxxxxxxxxxxxx => (have := HCL.out; omega)
              case hbsxxxxxxxxxxxx => (have := HLA.out; omega)
              intro g2 k2 wn hown hgr hv _
              obtain ⟨hp8, hk8⟩ := HA7.out.push2 hcb hown hgr hv
              have HP8 := Lib.hid hp8
              clear hown hgr hv c0 c1 f0 f1 hp8
              obtain ⟨c0, c1, f0, f1⟩ := cell2 hk8
              clear hk8
              refine hK.out _ _ (trivial) (fun hHeld => ?_)
              clear hK K
              try simp only [Act.put, List.setIfInBounds_toArray]
              refine take1 (i := 7) (v := ?v20) (some 30) rfl rfl (by kernel_rfl) (by kernel_rfl) (by kernel_rfl) (fun _ _ _ h => h) (Or.inl ⟨by rfl, ?y20⟩) (by assumption) ?r20
              case y20 => (intro w hSw; (try dsimp only at hSw); go_simp; (first | done | with_reducible rfl))
              try simp only [Act.put, List.setIfInBounds_toArray, List.set_cons_zero, List.set_cons_succ]
              refine wpAnyH_ready (rs := [8]) (by kernel_rfl) (by simp) ?_
              refine AllReadyH.cons rfl (fun K hK => ?_) AllReadyH.nil
              go_simp
              clear c0 c1 f0 f1
              generalize wn.setCell ⟨W1.heap.size, 1, none⟩ (.slice (some ⟨g2, 0, none⟩) (ss.length + 1) k2) = wz at HP8 ⊢
              refine hK.out _ _ (trivial) (fun hHeld => ?_)
              clear hK K
              try simp only [Act.put]
              refine wpAnyH_done (by kernel_rfl) ?_ _
              go_wp2_with fail
              go_roundw
              case rel => exact ⟨k + 1, m + 2 + 2, a1, c1', some ⟨g2, 0, none⟩, k2, ls, ss ++ [x], by omega, by go_num, Lib.hid (by rw [List.length_append, List.length_singleton]; have := HCL.out; omega), by omega, HP8⟩
              case measure => simp [intOf]; omega
            · go_simp
              have ha5 := HA4.out.alloc hcb (.cells (bsZ.map (Value.int .i64)).toArray 3)
              have HSL := Lib.hid (slr_lit w4 (bsZ.map (Value.int .i64)) 3 (by decide))
              have HNE : Hid (w4.heap.size ≠ cb) := Lib.hid (by have := HA4.out.1.size; omega)
              have HAM := Lib.hid (among_br (zs := bsZ) ha5 hcb (by omega) (by decide) HSL.out (fun a m c e => by cases e; exact HNE.out) HR.out)
              have HA5 := Lib.hid ha5
              clear ha5 HSL c0 c1 f0 f1
              change K _ (w4.alloc (.cells (bsZ.map (Value.int .i64)).toArray 3))
              generalize w4.alloc (.cells (bsZ.map (Value.int .i64)).toArray 3) = w5 at HAM HA5 ⊢
              obtain ⟨c0, c1, f0, f1⟩ := cell2 HA5.out.2.2.2.1
              refine hK.out _ _ (trivial) (fun hHeld => ?_)
              clear hK K
              try simp only [Act.put, List.setIfInBounds_toArray, List.set_cons_zero, List.set_cons_succ]
              refine wpAnyH_ready (rs := [1, 4]) (by kernel_rfl) (by simp) ?_
              refine AllReadyH.cons rfl (fun K hK => ?_) (AllReadyH.cons rfl (fun K hK => ?_) AllReadyH.nil)
              · go_simp
                refine hK.out _ _ (trivial) (fun hHeld => ?_)
                clear hK K
                try simp only [Act.put, List.setIfInBounds_toArray, List.set_cons_zero, List.set_cons_succ]
                refine wpAnyH_ready (rs := [4]) (by kernel_rfl) (by simp) ?_
                refine AllReadyH.cons rfl (fun K hK => ?_) AllReadyH.nil
                go_simp
                go_at_call 39
                refine (HAM.out).mono ?_
                rintro e w6 ⟨⟨x, rfl, -⟩, ha6⟩
                have HA6 := Lib.hid ha6
                clear ha6 c0 c1 f0 f1
                obtain ⟨c0, c1, f0, f1⟩ := cell2 HA6.out.2.2.2.1
                try go_simp
                refine hK.out _ _ (trivial) (fun hHeld => ?_)
                clear hK K
                try simp only [Act.put, List.setIfInBounds_toArray, List.set_cons_zero, List.set_cons_succ]
                refine wpAnyH_ready (rs := [5]) (by kernel_rfl) (by simp) ?_
                refine AllReadyH.cons rfl (fun K hK => ?_) AllReadyH.nil
                go_simp
                have ha7 := HA6.out.alloc hcb (.cells #[.int .i64 x] 3)
                have hnx : (w6.alloc (.cells #[.int .i64 x] 3)).heap[w6.heap.size]? = some (.cells #[.int .i64 x] 3 (0, 0)) := alloc_at rfl
                generalize w6.alloc (.cells #[.int .i64 x] 3) = w7 at ha7 hnx ⊢
                have HA7 := Lib.hid ha7
                have HNX := Lib.hid hnx
                clear ha7 hnx c0 c1 f0 f1
                obtain ⟨c0, c1, f0, f1⟩ := cell2 HA7.out.2.2.2.1
                refine hK.out _ _ (trivial) (fun hHeld => ?_)
                clear hK K
                try simp only [Act.put, List.setIfInBounds_toArray, List.set_cons_zero, List.set_cons_succ]
                have HLA := Lib.hid (lt_of_block HA7.out.2.2.2.1)
                refine wpAnyH_ready (rs := [6]) (by kernel_rfl) (by simp) ?_
                refine AllReadyH.cons rfl (fun K hK => ?_) AllReadyH.nil
                refine step_append_lies _ (by rfl) _ _ _ (by rfl) (W1.heap.size + 1) 3 i0 (.int .i64 0) 1 8 Tryd.underlying24 hi hz0 hz1 hz2 rfl (by decide) _ ss.length _ (by rfl) HA7.out.2.2.2.2.2.1 ⟨w6.heap.size, 0, none⟩ 1 1 [.int .i64 x] (by rfl) (by rfl) (World.news_of_block HNX.out) ?h1xxxxxxxxxxxxx (by decide) ?h63xxxxxxxxxxxxx ?hbyxxxxxxxxxxxxx ?hbsxxxxxxxxxxxxx _ rfl ?_
                case h1xxxxxxxxxxxxx => intro u hu; rw [List.mem_singleton.1 hu]; rfl
                case h63xxxxxxxxxxxxx => (have := HCL.out; unfold maxLen; omega)
                case hbyxxxxxxxxxxxxx => (have := HCL.out; omega)
                case hbsxxxxxxxxxxxxx => (have := HLA.out; omega)
                intro g2 k2 wn hown hgr hv _
                obtain ⟨hp8, hk8⟩ := HA7.out.push2 hcb hown hgr hv
                have HP8 := Lib.hid hp8
                clear hown hgr hv c0 c1 f0 f1 hp8
                obtain ⟨c0, c1, f0, f1⟩ := cell2 hk8
                clear hk8
                refine hK.out _ _ (trivial) (fun hHeld => ?_)
                clear hK K
                try simp only [Act.put, List.setIfInBounds_toArray]
                refine take1 (i := 7) (v := ?v21) (some 30) rfl rfl (by kernel_rfl) (by kernel_rfl) (by kernel_rfl) (fun _ _ _ h => h) (Or.inl ⟨by rfl, ?y21⟩) (by assumption) ?r21
                case y21 => (intro w hSw; (try dsimp only at hSw); go_simp; (first | done | with_reducible rfl))
                try simp only [Act.put, List.setIfInBounds_toArray, List.set_cons_zero, List.set_cons_succ]
                refine wpAnyH_ready (rs := [8]) (by kernel_rfl) (by simp) ?_
                refine AllReadyH.cons rfl (fun K hK => ?_) AllReadyH.nil
                go_simp
                clear c0 c1 f0 f1
                generalize wn.setCell ⟨W1.heap.size, 1, none⟩ (.slice (some ⟨g2, 0, none⟩) (ss.length + 1) k2) = wz at HP8 ⊢
                refine hK.out _ _ (trivial) (fun hHeld => ?_)
                clear hK K
                try simp only [Act.put]
                refine wpAnyH_done (by kernel_rfl) ?_ _
                go_wp2_with fail
                go_roundw
                case rel => exact ⟨k + 1, m + 2 + 2, a1, c1', some ⟨g2, 0, none⟩, k2, ls, ss ++ [x], by omega, by go_num, Lib.hid (by rw [List.length_append, List.length_singleton]; have := HCL.out; omega), by omega, HP8⟩
                case measure => simp [intOf]; omega
              · go_simp
                go_at_call 39
                refine (HAM.out).mono ?_
                rintro e w6 ⟨⟨x, rfl, -⟩, ha6⟩
                have HA6 := Lib.hid ha6
                clear ha6 c0 c1 f0 f1
                obtain ⟨c0, c1, f0, f1⟩ := cell2 HA6.out.2.2.2.1
                try go_simp
                refine hK.out _ _ (trivial) (fun hHeld => ?_)
                clear hK K
                try simp only [Act.put, List.setIfInBounds_toArray, List.set_cons_zero, List.set_cons_succ]
                refine wpAnyH_ready (rs := [1, 5]) (by kernel_rfl) (by simp) ?_
                refine AllReadyH.cons rfl (fun K hK => ?_) (AllReadyH.cons rfl (fun K hK => ?_) AllReadyH.nil)
                · go_simp
                  refine hK.out _ _ (trivial) (fun hHeld => ?_)
                  clear hK K
                  try simp only [Act.put, List.setIfInBounds_toArray, List.set_cons_zero, List.set_cons_succ]
                  refine wpAnyH_ready (rs := [5]) (by kernel_rfl) (by simp) ?_
                  refine AllReadyH.cons rfl (fun K hK => ?_) AllReadyH.nil
                  go_simp
                  have ha7 := HA6.out.alloc hcb (.cells #[.int .i64 x] 3)
                  have hnx : (w6.alloc (.cells #[.int .i64 x] 3)).heap[w6.heap.size]? = some (.cells #[.int .i64 x] 3 (0, 0)) := alloc_at rfl
                  generalize w6.alloc (.cells #[.int .i64 x] 3) = w7 at ha7 hnx ⊢
                  have HA7 := Lib.hid ha7
                  have HNX := Lib.hid hnx
                  clear ha7 hnx c0 c1 f0 f1
                  obtain ⟨c0, c1, f0, f1⟩ := cell2 HA7.out.2.2.2.1
                  refine hK.out _ _ (trivial) (fun hHeld => ?_)
                  clear hK K
                  try simp only [Act.put, List.setIfInBounds_toArray, List.set_cons_zero, List.set_cons_succ]
                  have HLA := Lib.hid (lt_of_block HA7.out.2.2.2.1)
                  refine wpAnyH_ready (rs := [6]) (by kernel_rfl) (by simp) ?_
                  refine AllReadyH.cons rfl (fun K hK => ?_) AllReadyH.nil
                  refine step_append_lies _ (by rfl) _ _ _ (by rfl) (W1.heap.size + 1) 3 i0 (.int .i64 0) 1 8 Tryd.underlying24 hi hz0 hz1 hz2 rfl (by decide) _ ss.length _ (by rfl) HA7.out.2.2.2.2.2.1 ⟨w6.heap.size, 0, none⟩ 1 1 [.int .i64 x] (by rfl) (by rfl) (World.news_of_block HNX.out) ?h1xxxxxxxxxxxxxx (by decide) ?h63xxxxxxxxxxxxxx ?hbyxxxxxxxxxxxxxx ?hbsxxxxxxxxxxxxxx _ rfl ?_
                  case h1xxxxxxxxxxxxxx => intro u hu; rw [List.mem_singleton.1 hu]; rfl
                  case h63xxxxxxxxxxxxxx => (have := HCL.out; unfold maxLen; omega)
                  case hbyxxxxxxxxxxxxxx => (have := HCL.out; omega)
                  case hbsxxxxxxxxxxxxxx => (have := HLA.out; omega)
                  intro g2 k2 wn hown hgr hv _
                  obtain ⟨hp8, hk8⟩ := HA7.out.push2 hcb hown hgr hv
                  have HP8 := Lib.hid hp8
                  clear hown hgr hv c0 c1 f0 f1 hp8
                  obtain ⟨c0, c1, f0, f1⟩ := cell2 hk8
                  clear hk8
                  refine hK.out _ _ (trivial) (fun hHeld => ?_)
                  clear hK K
                  try simp only [Act.put, List.setIfInBounds_toArray]
                  refine take1 (i := 7) (v := ?v22) (some 30) rfl rfl (by kernel_rfl) (by kernel_rfl) (by kernel_rfl) (fun _ _ _ h => h) (Or.inl ⟨by rfl, ?y22⟩) (by assumption) ?r22
                  case y22 => (intro w hSw; (try dsimp only at hSw); go_simp; (first | done | with_reducible rfl))
                  try simp only [Act.put, List.setIfInBounds_toArray, List.set_cons_zero, List.set_cons_succ]
                  refine wpAnyH_ready (rs := [8]) (by kernel_rfl) (by simp) ?_
                  refine AllReadyH.cons rfl (fun K hK => ?_) AllReadyH.nil
                  go_simp
                  clear c0 c1 f0 f1
                  generalize wn.setCell ⟨W1.heap.size, 1, none⟩ (.slice (some ⟨g2, 0, none⟩) (ss.length + 1) k2) = wz at HP8 ⊢
                  refine hK.out _ _ (trivial) (fun hHeld => ?_)
                  clear hK K
                  try simp only [Act.put]
                  refine wpAnyH_done (by kernel_rfl) ?_ _
                  go_wp2_with fail
                  go_roundw
                  case rel => exact ⟨k + 1, m + 2 + 2, a1, c1', some ⟨g2, 0, none⟩, k2, ls, ss ++ [x], by omega, by go_num, Lib.hid (by rw [List.length_append, List.length_singleton]; have := HCL.out; omega), by omega, HP8⟩
                  case measure => simp [intOf]; omega
                · go_simp
                  have ha7 := HA6.out.alloc hcb (.cells #[.int .i64 x] 3)
                  have hnx : (w6.alloc (.cells #[.int .i64 x] 3)).heap[w6.heap.size]? = some (.cells #[.int .i64 x] 3 (0, 0)) := alloc_at rfl
                  generalize w6.alloc (.cells #[.int .i64 x] 3) = w7 at ha7 hnx ⊢
                  have HA7 := Lib.hid ha7
                  have HNX := Lib.hid hnx
                  clear ha7 hnx c0 c1 f0 f1
                  obtain ⟨c0, c1, f0, f1⟩ := cell2 HA7.out.2.2.2.1
                  refine hK.out _ _ (trivial) (fun hHeld => ?_)
                  clear hK K
                  try simp only [Act.put, List.setIfInBounds_toArray, List.set_cons_zero, List.set_cons_succ]
                  have HLA := Lib.hid (lt_of_block HA7.out.2.2.2.1)
                  refine wpAnyH_ready (rs := [1]) (by kernel_rfl) (by simp) ?_
                  refine AllReadyH.cons rfl (fun K hK => ?_) AllReadyH.nil
                  go_simp
                  refine hK.out _ _ (trivial) (fun hHeld => ?_)
                  clear hK K
                  try simp only [Act.put, List.setIfInBounds_toArray, List.set_cons_zero, List.set_cons_succ]
                  refine wpAnyH_ready (rs := [6]) (by kernel_rfl) (by simp) ?_
                  refine AllReadyH.cons rfl (fun K hK => ?_) AllReadyH.nil
                  refine step_append_lies _ (by rfl) _ _ _ (by rfl) (W1.heap.size + 1) 3 i0 (.int .i64 0) 1 8 Tryd.underlying24 hi hz0 hz1 hz2 rfl (by decide) _ ss.length _ (by rfl) HA7.out.2.2.2.2.2.1 ⟨w6.heap.size, 0, none⟩ 1 1 [.int .i64 x] (by rfl) (by rfl) (World.news_of_block HNX.out) ?h1xxxxxxxxxxxxxxx (by decide) ?h63xxxxxxxxxxxxxxx ?hbyxxxxxxxxxxxxxxx ?hbsxxxxxxxxxxxxxxx _ rfl ?_
                  case h1xxxxxxxxxxxxxxx => intro u hu; rw [List.mem_singleton.1 hu]; rfl
                  case h63xxxxxxxxxxxxxxx => (have := HCL.out; unfold maxLen; omega)
                  case hbyxxxxxxxxxxxxxxx => (have := HCL.out; omega)
                  case hbsxxxxxxxxxxxxxxx => (have := HLA.out; omega)
                  intro g2 k2 wn hown hgr hv _
                  obtain ⟨hp8, hk8⟩ := HA7.out.push2 hcb hown hgr hv
                  have HP8 := Lib.hid hp8
                  clear hown hgr hv c0 c1 f0 f1 hp8
                  obtain ⟨c0, c1, f0, f1⟩ := cell2 hk8
                  clear hk8
                  refine hK.out _ _ (trivial) (fun hHeld => ?_)
                  clear hK K
                  try simp only [Act.put, List.setIfInBounds_toArray]
                  refine take1 (i := 7) (v := ?v23) (some 30) rfl rfl (by kernel_rfl) (by kernel_rfl) (by kernel_rfl) (fun _ _ _ h => h) (Or.inl ⟨by rfl, ?y23⟩) (by assumption) ?r23
                  case y23 => (intro w hSw; (try dsimp only at hSw); go_simp; (first | done | with_reducible rfl))
                  try simp only [Act.put, List.setIfInBounds_toArray, List.set_cons_zero, List.set_cons_succ]
                  refine wpAnyH_ready (rs := [8]) (by kernel_rfl) (by simp) ?_
                  refine AllReadyH.cons rfl (fun K hK => ?_) AllReadyH.nil
                  go_simp
                  clear c0 c1 f0 f1
                  generalize wn.setCell ⟨W1.heap.size, 1, none⟩ (.slice (some ⟨g2, 0, none⟩) (ss.length + 1) k2) = wz at HP8 ⊢
                  refine hK.out _ _ (trivial) (fun hHeld => ?_)
                  clear hK K
                  try simp only [Act.put]
                  refine wpAnyH_done (by kernel_rfl) ?_ _
                  go_wp2_with fail
                  go_roundw
                  case rel => exact ⟨k + 1, m + 2 + 2, a1, c1', some ⟨g2, 0, none⟩, k2, ls, ss ++ [x], by omega, by go_num, Lib.hid (by rw [List.length_append, List.length_singleton]; have := HCL.out; omega), by omega, HP8⟩
                  case measure => simp [intOf]; omega
          · go_simp
            have ha7 := HA6.out.alloc hcb (.cells #[.int .i64 x] 3)
            have hnx : (w6.alloc (.cells #[.int .i64 x] 3)).heap[w6.heap.size]? = some (.cells #[.int .i64 x] 3 (0, 0)) := alloc_at rfl
            generalize w6.alloc (.cells #[.int .i64 x] 3) = w7 at ha7 hnx ⊢
            have HA7 := Lib.hid ha7
            have HNX := Lib.hid hnx
            clear ha7 hnx c0 c1 f0 f1
            obtain ⟨c0, c1, f0, f1⟩ := cell2 HA7.out.2.2.2.1
            refine hK.out _ _ (trivial) (fun hHeld => ?_)
            clear hK K
            try simp only [Act.put, List.setIfInBounds_toArray, List.set_cons_zero, List.set_cons_succ]
            have HLA := Lib.hid (lt_of_block HA7.out.2.2.2.1)
            refine wpAnyH_ready (rs := [1]) (by kernel_rfl) (by simp) ?_
            refine AllReadyH.cons rfl (fun K hK => ?_) AllReadyH.nil
            go_simp
            refine hK.out _ _ (trivial) (fun hHeld => ?_)
            clear hK K
            try simp only [Act.put, List.setIfInBounds_toArray, List.set_cons_zero, List.set_cons_succ]
            refine wpAnyH_ready (rs := [6]) (by kernel_rfl) (by simp) ?_
            refine AllReadyH.cons rfl (fun K hK => ?_) AllReadyH.nil
            refine step_append_lies _ (by rfl) _ _ _ (by rfl) (W1.heap.size + 1) 3 i0 (.int .i64 0) 1 8 Tryd.underlying24 hi hz0 hz1 hz2 rfl (by decide) _ ls.length _ (by rfl) HA7.out.2.2.2.2.1 ⟨w6.heap.size, 0, none⟩ 1 1 [.int .i64 x] (by rfl) (by rfl) (World.news_of_block HNX.out) ?h1xxxxxxxxxxxxxxxx (by decide) ?h63xxxxxxxxxxxxxxxx ?hbyxxxxxxxxxxxxxxxx ?hbsxxxxxxxxxxxxxxxx _ rfl ?_
            case h1xxxxxxxxxxxxxxxx => intro u hu; rw [List.mem_singleton.1 hu]; rfl
            case h63xxxxxxxxxxxxxxxx => (have := HCL.out; unfold maxLen; omega)
            case hbyxxxxxxxxxxxxxxxx => (have := HCL.out; omega)
            case hbsxxxxxxxxxxxxxxxx => (have := HLA.out; omega)
            intro g2 k2 wn hown hgr hv _
            obtain ⟨hp8, hk8⟩ := HA7.out.push1 hcb hown hgr hv
            have HP8 := Lib.hid hp8
            clear hown hgr hv c0 c1 f0 f1 hp8
            obtain ⟨c0, c1, f0, f1⟩ := cell2 hk8
            clear hk8
            refine hK.out _ _ (trivial) (fun hHeld => ?_)
            clear hK K
            try simp only [Act.put, List.setIfInBounds_toArray]
            refine take1 (i := 7) (v := ?v24) (some 22) rfl rfl (by kernel_rfl) (by kernel_rfl) (by kernel_rfl) (fun _ _ _ h => h) (Or.inl ⟨by rfl, ?y24⟩) (by assumption) ?r24
            case y24 => (intro w hSw; (try dsimp only at hSw); go_simp; (first | done | with_reducible rfl))
            try simp only [Act.put, List.setIfInBounds_toArray, List.set_cons_zero, List.set_cons_succ]
            refine wpAnyH_ready (rs := [8]) (by kernel_rfl) (by simp) ?_
            refine AllReadyH.cons rfl (fun K hK => ?_) AllReadyH.nil
            go_simp
            clear c0 c1 f0 f1
            generalize wn.setCell ⟨W1.heap.size, 0, none⟩ (.slice (some ⟨g2, 0, none⟩) (ls.length + 1) k2) = wz at HP8 ⊢
            refine hK.out _ _ (trivial) (fun hHeld => ?_)
            clear hK K
            try simp only [Act.put]
            refine wpAnyH_done (by kernel_rfl) ?_ _
            have HCL2 : Hid ((ls ++ [x]).length = k + 1 ∧ ss.length = k) := Lib.hid (by rw [List.length_append, List.length_singleton]; have := HCL.out; omega)
            generalize ls ++ [x] = ls at HP8 HCL2
            have HAz : Hid (BrAt w wz cb cd (m + 2) W1.heap.size (some ⟨g2, 0, none⟩) k2 a2 c2' ls ss) := HP8
            obtain ⟨a1, ha1⟩ : ∃ a, a = (some ⟨g2, 0, none⟩ : Option Addr) := ⟨_, rfl⟩
            rw [← ha1] at HAz
            clear ha1 HP8 HCL
            rename Nat => c1'
            have HCL := HCL2
            obtain ⟨c0, c1, f0, f1⟩ := cell2 HAz.out.2.2.2.1
            go_wp2_with fail
            refine wp_region_held_drew (S := (fun _ => True)) (by kernel_rfl) (trivial) (fun hHeld => ?_)
            have ha4 := HAz.out.drew hcb
            generalize wz.drew = w4 at ha4 hHeld ⊢
            have HA4 := Lib.hid ha4
            clear ha4 c0 c1 f0 f1
            obtain ⟨c0, c1, f0, f1⟩ := cell2 HA4.out.2.2.2.1
            refine take1 (i := 0) (v := ?v25) (some 23) rfl rfl (by kernel_rfl) (by kernel_rfl) (by kernel_rfl) (fun _ _ _ h => h) (Or.inl ⟨by rfl, ?y25⟩) (by assumption) ?r25
            case y25 => (intro w hSw; (try dsimp only at hSw); go_simp; (first | done | with_reducible rfl))
            try simp only [Act.put, List.setIfInBounds_toArray, List.set_cons_zero, List.set_cons_succ]
            refine take1 (i := 2) (v := ?v26) (some 25) rfl rfl (by kernel_rfl) (by kernel_rfl) (by kernel_rfl) (fun _ _ _ h => h) (Or.inl ⟨by rfl, ?y26⟩) (by assumption) ?r26
            case y26 => (intro w hSw; (try dsimp only at hSw); go_simp; (first | done | with_reducible rfl))
            try simp only [Act.put, List.setIfInBounds_toArray, List.set_cons_zero, List.set_cons_succ]
            refine wpAnyH_ready (rs := [1, 3]) (by kernel_rfl) (by simp) ?_
            refine AllReadyH.cons rfl (fun K hK => ?_) (AllReadyH.cons rfl (fun K hK => ?_) AllReadyH.nil)
            · go_simp
              refine hK.out _ _ (trivial) (fun hHeld => ?_)
              clear hK K
              try simp only [Act.put, List.setIfInBounds_toArray, List.set_cons_zero, List.set_cons_succ]
              refine wpAnyH_ready (rs := [3]) (by kernel_rfl) (by simp) ?_
              refine AllReadyH.cons rfl (fun K hK => ?_) AllReadyH.nil
              go_simp
              have ha5 := HA4.out.alloc hcb (.cells (bsZ.map (Value.int .i64)).toArray 3)
              have HSL := Lib.hid (slr_lit w4 (bsZ.map (Value.int .i64)) 3 (by decide))
              have HNE : Hid (w4.heap.size ≠ cb) := Lib.hid (by have := HA4.out.1.size; omega)
              have HAM := Lib.hid (among_br (zs := bsZ) ha5 hcb (by omega) (by decide) HSL.out (fun a m c e => by cases e; exact HNE.out) HR.out)
              have HA5 := Lib.hid ha5
              clear ha5 HSL c0 c1 f0 f1
              change K _ (w4.alloc (.cells (bsZ.map (Value.int .i64)).toArray 3))
              generalize w4.alloc (.cells (bsZ.map (Value.int .i64)).toArray 3) = w5 at HAM HA5 ⊢
              obtain ⟨c0, c1, f0, f1⟩ := cell2 HA5.out.2.2.2.1
              refine hK.out _ _ (trivial) (fun hHeld => ?_)
              clear hK K
              try simp only [Act.put, List.setIfInBounds_toArray, List.set_cons_zero, List.set_cons_succ]
              refine wpAnyH_ready (rs := [4]) (by kernel_rfl) (by simp) ?_
              refine AllReadyH.cons rfl (fun K hK => ?_) AllReadyH.nil
              go_simp
              go_at_call 39
              refine (HAM.out).mono ?_
              rintro e w6 ⟨⟨x, rfl, -⟩, ha6⟩
              have HA6 := Lib.hid ha6
              clear ha6 c0 c1 f0 f1
              obtain ⟨c0, c1, f0, f1⟩ := cell2 HA6.out.2.2.2.1
              try go_simp
              refine hK.out _ _ (trivial) (fun hHeld => ?_)
              clear hK K
              try simp only [Act.put, List.setIfInBounds_toArray, List.set_cons_zero, List.set_cons_succ]
              refine wpAnyH_ready (rs := [5]) (by kernel_rfl) (by simp) ?_
              refine AllReadyH.cons rfl (fun K hK => ?_) AllReadyH.nil
              go_simp
              have ha7 := HA6.out.alloc hcb (.cells #[.int .i64 x] 3)
              have hnx : (w6.alloc (.cells #[.int .i64 x] 3)).heap[w6.heap.size]? = some (.cells #[.int .i64 x] 3 (0, 0)) := alloc_at rfl
              generalize w6.alloc (.cells #[.int .i64 x] 3) = w7 at ha7 hnx ⊢
              have HA7 := Lib.hid ha7
              have HNX := Lib.hid hnx
              clear ha7 hnx c0 c1 f0 f1
              obtain ⟨c0, c1, f0, f1⟩ := cell2 HA7.out.2.2.2.1
              refine hK.out _ _ (trivial) (fun hHeld => ?_)
              clear hK K
              try simp only [Act.put, List.setIfInBounds_toArray, List.set_cons_zero, List.set_cons_succ]
              have HLA := Lib.hid (lt_of_block HA7.out.2.2.2.1)
              refine wpAnyH_ready (rs := [6]) (by kernel_rfl) (by simp) ?_
              refine AllReadyH.cons rfl (fun K hK => ?_) AllReadyH.nil
              refine step_append_lies _ (by rfl) _ _ _ (by rfl) (W1.heap.size + 1) 3 i0 (.int .i64 0) 1 8 Tryd.underlying24 hi hz0 hz1 hz2 rfl (by decide) _ ss.length _ (by rfl) HA7.out.2.2.2.2.2.1 ⟨w6.heap.size, 0, none⟩ 1 1 [.int .i64 x] (by rfl) (by rfl) (World.news_of_block HNX.out) ?h1xxxxxxxxxxxxxxxxx (by decide) ?h63xxxxxxxxxxxxxxxxx ?hbyxxxxxxxxxxxxxxxxx ?hbsxxxxxxxxxxxxxxxxx _ rfl ?_
              case h1xxxxxxxxxxxxxxxxx => intro u hu; rw [List.mem_singleton.1 hu]; rfl
              case h63xxxxxxxxxxxxxxxxx => (have := HCL.out; unfold maxLen; omega)
              case hbyxxxxxxxxxxxxxxxxx => (have := HCL.out; omega)
              case hbsxxxxxxxxxxxxxxxxx => (have := HLA.out; omega)
              intro g2 k2 wn hown hgr hv _
              obtain ⟨hp8, hk8⟩ := HA7.out.push2 hcb hown hgr hv
              have HP8 := Lib.hid hp8
              clear hown hgr hv c0 c1 f0 f1 hp8
              obtain ⟨c0, c1, f0, f1⟩ := cell2 hk8
              clear hk8
              refine hK.out _ _ (trivial) (fun hHeld => ?_)
              clear hK K
              try simp only [Act.put, List.setIfInBounds_toArray]
              refine take1 (i := 7) (v := ?v27) (some 30) rfl rfl (by kernel_rfl) (by kernel_rfl) (by kernel_rfl) (fun _ _ _ h => h) (Or.inl ⟨by rfl, ?y27⟩) (by assumption) ?r27
              case y27 => (intro w hSw; (try dsimp only at hSw); go_simp; (first | done | with_reducible rfl))
              try simp only [Act.put, List.setIfInBounds_toArray, List.set_cons_zero, List.set_cons_succ]
              refine wpAnyH_ready (rs := [8]) (by kernel_rfl) (by simp) ?_
              refine AllReadyH.cons rfl (fun K hK => ?_) AllReadyH.nil
              go_simp
              clear c0 c1 f0 f1
              generalize wn.setCell ⟨W1.heap.size, 1, none⟩ (.slice (some ⟨g2, 0, none⟩) (ss.length + 1) k2) = wz at HP8 ⊢
              refine hK.out _ _ (trivial) (fun hHeld => ?_)
              clear hK K
              try simp only [Act.put]
              refine wpAnyH_done (by kernel_rfl) ?_ _
              go_wp2_with fail
              go_roundw
              case rel => exact ⟨k + 1, m + 2 + 2, a1, c1', some ⟨g2, 0, none⟩, k2, ls, ss ++ [x], by omega, by go_num, Lib.hid (by rw [List.length_append, List.length_singleton]; have := HCL.out; omega), by omega, HP8⟩
              case measure => simp [intOf]; omega
            · go_simp
              have ha5 := HA4.out.alloc hcb (.cells (bsZ.map (Value.int .i64)).toArray 3)
              have HSL := Lib.hid (slr_lit w4 (bsZ.map (Value.int .i64)) 3 (by decide))
              have HNE : Hid (w4.heap.size ≠ cb) := Lib.hid (by have := HA4.out.1.size; omega)
              have HAM := Lib.hid (among_br (zs := bsZ) ha5 hcb (by omega) (by decide) HSL.out (fun a m c e => by cases e; exact HNE.out) HR.out)
              have HA5 := Lib.hid ha5
              clear ha5 HSL c0 c1 f0 f1
              change K _ (w4.alloc (.cells (bsZ.map (Value.int .i64)).toArray 3))
              generalize w4.alloc (.cells (bsZ.map (Value.int .i64)).toArray 3) = w5 at HAM HA5 ⊢
              obtain ⟨c0, c1, f0, f1⟩ := cell2 HA5.out.2.2.2.1
              refine hK.out _ _ (trivial) (fun hHeld => ?_)
              clear hK K
              try simp only [Act.put, List.setIfInBounds_toArray, List.set_cons_zero, List.set_cons_succ]
              refine wpAnyH_ready (rs := [1, 4]) (by kernel_rfl) (by simp) ?_
              refine AllReadyH.cons rfl (fun K hK => ?_) (AllReadyH.cons rfl (fun K hK => ?_) AllReadyH.nil)
              · go_simp
                refine hK.out _ _ (trivial) (fun hHeld => ?_)
                clear hK K
                try simp only [Act.put, List.setIfInBounds_toArray, List.set_cons_zero, List.set_cons_succ]
                refine wpAnyH_ready (rs := [4]) (by kernel_rfl) (by simp) ?_
                refine AllReadyH.cons rfl (fun K hK => ?_) AllReadyH.nil
                go_simp
                go_at_call 39
                refine (HAM.out).mono ?_
                rintro e w6 ⟨⟨x, rfl, -⟩, ha6⟩
                have HA6 := Lib.hid ha6
                clear ha6 c0 c1 f0 f1
                obtain ⟨c0, c1, f0, f1⟩ := cell2 HA6.out.2.2.2.1
                try go_simp
                refine hK.out _ _ (trivial) (fun hHeld => ?_)
                clear hK K
                try simp only [Act.put, List.setIfInBounds_toArray, List.set_cons_zero, List.set_cons_succ]
                refine wpAnyH_ready (rs := [5]) (by kernel_rfl) (by simp) ?_
                refine AllReadyH.cons rfl (fun K hK => ?_) AllReadyH.nil
                go_simp
                have ha7 := HA6.out.alloc hcb (.cells #[.int .i64 x] 3)
                have hnx : (w6.alloc (.cells #[.int .i64 x] 3)).heap[w6.heap.size]? = some (.cells #[.int .i64 x] 3 (0, 0)) := alloc_at rfl
                generalize w6.alloc (.cells #[.int .i64 x] 3) = w7 at ha7 hnx ⊢
                have HA7 := Lib.hid ha7
                have HNX := Lib.hid hnx
                clear ha7 hnx c0 c1 f0 f1
                obtain ⟨c0, c1, f0, f1⟩ := cell2 HA7.out.2.2.2.1
                refine hK.out _ _ (trivial) (fun hHeld => ?_)
                clear hK K
                try simp only [Act.put, List.setIfInBounds_toArray, List.set_cons_zero, List.set_cons_succ]
                have HLA := Lib.hid (lt_of_block HA7.out.2.2.2.1)
                refine wpAnyH_ready (rs := [6]) (by kernel_rfl) (by simp) ?_
                refine AllReadyH.cons rfl (fun K hK => ?_) AllReadyH.nil
                refine step_append_lies _ (by rfl) _ _ _ (by rfl) (W1.heap.size + 1) 3 i0 (.int .i64 0) 1 8 Tryd.underlying24 hi hz0 hz1 hz2 rfl (by decide) _ ss.length _ (by rfl) HA7.out.2.2.2.2.2.1 ⟨w6.heap.size, 0, none⟩ 1 1 [.int .i64 x] (by rfl) (by rfl) (World.news_of_block HNX.out) ?h1xxxxxxxxxxxxxxxxxx (by decide) ?h63xxxxxxxxxxxxxxxxxx ?hbyxxxxxxxxxxxxxxxxxx ?hbsxxxxxxxxxxxxxxxxxx _ rfl ?_
                case h1xxxxxxxxxxxxxxxxxx => intro u hu; rw [List.mem_singleton.1 hu]; rfl
                case h63xxxxxxxxxxxxxxxxxx => (have := HCL.out; unfold maxLen; omega)
                case hbyxxxxxxxxxxxxxxxxxx => (have := HCL.out; omega)
                case hbsxxxxxxxxxxxxxxxxxx => (have := HLA.out; omega)
                intro g2 k2 wn hown hgr hv _
                obtain ⟨hp8, hk8⟩ := HA7.out.push2 hcb hown hgr hv
                have HP8 := Lib.hid hp8
                clear hown hgr hv c0 c1 f0 f1 hp8
                obtain ⟨c0, c1, f0, f1⟩ := cell2 hk8
                clear hk8
                refine hK.out _ _ (trivial) (fun hHeld => ?_)
                clear hK K
                try simp only [Act.put, List.setIfInBounds_toArray]
                refine take1 (i := 7) (v := ?v28) (some 30) rfl rfl (by kernel_rfl) (by kernel_rfl) (by kernel_rfl) (fun _ _ _ h => h) (Or.inl ⟨by rfl, ?y28⟩) (by assumption) ?r28
                case y28 => (intro w hSw; (try dsimp only at hSw); go_simp; (first | done | with_reducible rfl))
                try simp only [Act.put, List.setIfInBounds_toArray, List.set_cons_zero, List.set_cons_succ]
                refine wpAnyH_ready (rs := [8]) (by kernel_rfl) (by simp) ?_
                refine AllReadyH.cons rfl (fun K hK => ?_) AllReadyH.nil
                go_simp
                clear c0 c1 f0 f1
                generalize wn.setCell ⟨W1.heap.size, 1, none⟩ (.slice (some ⟨g2, 0, none⟩) (ss.length + 1) k2) = wz at HP8 ⊢
                refine hK.out _ _ (trivial) (fun hHeld => ?_)
                clear hK K
                try simp only [Act.put]
                refine wpAnyH_done (by kernel_rfl) ?_ _
                go_wp2_with fail
                go_roundw
                case rel => exact ⟨k + 1, m + 2 + 2, a1, c1', some ⟨g2, 0, none⟩, k2, ls, ss ++ [x], by omega, by go_num, Lib.hid (by rw [List.length_append, List.length_singleton]; have := HCL.out; omega), by omega, HP8⟩
                case measure => simp [intOf]; omega
              · go_simp
                go_at_call 39
                refine (HAM.out).mono ?_
                rintro e w6 ⟨⟨x, rfl, -⟩, ha6⟩
                have HA6 := Lib.hid ha6
                clear ha6 c0 c1 f0 f1
                obtain ⟨c0, c1, f0, f1⟩ := cell2 HA6.out.2.2.2.1
                try go_simp
                refine hK.out _ _ (trivial) (fun hHeld => ?_)
                clear hK K
                try simp only [Act.put, List.setIfInBounds_toArray, List.set_cons_zero, List.set_cons_succ]
                refine wpAnyH_ready (rs := [1, 5]) (by kernel_rfl) (by simp) ?_
                refine AllReadyH.cons rfl (fun K hK => ?_) (AllReadyH.cons rfl (fun K hK => ?_) AllReadyH.nil)
                · go_simp
                  refine hK.out _ _ (trivial) (fun hHeld => ?_)
                  clear hK K
                  try simp only [Act.put, List.setIfInBounds_toArray, List.set_cons_zero, List.set_cons_succ]
                  refine wpAnyH_ready (rs := [5]) (by kernel_rfl) (by simp) ?_
                  refine AllReadyH.cons rfl (fun K hK => ?_) AllReadyH.nil
                  go_simp
                  have ha7 := HA6.out.alloc hcb (.cells #[.int .i64 x] 3)
                  have hnx : (w6.alloc (.cells #[.int .i64 x] 3)).heap[w6.heap.size]? = some (.cells #[.int .i64 x] 3 (0, 0)) := alloc_at rfl
                  generalize w6.alloc (.cells #[.int .i64 x] 3) = w7 at ha7 hnx ⊢
                  have HA7 := Lib.hid ha7
                  have HNX := Lib.hid hnx
                  clear ha7 hnx c0 c1 f0 f1
                  obtain ⟨c0, c1, f0, f1⟩ := cell2 HA7.out.2.2.2.1
                  refine hK.out _ _ (trivial) (fun hHeld => ?_)
                  clear hK K
                  try simp only [Act.put, List.setIfInBounds_toArray, List.set_cons_zero, List.set_cons_succ]
                  have HLA := Lib.hid (lt_of_block HA7.out.2.2.2.1)
                  refine wpAnyH_ready (rs := [6]) (by kernel_rfl) (by simp) ?_
                  refine AllReadyH.cons rfl (fun K hK => ?_) AllReadyH.nil
                  refine step_append_lies _ (by rfl) _ _ _ (by rfl) (W1.heap.size + 1) 3 i0 (.int .i64 0) 1 8 Tryd.underlying24 hi hz0 hz1 hz2 rfl (by decide) _ ss.length _ (by rfl) HA7.out.2.2.2.2.2.1 ⟨w6.heap.size, 0, none⟩ 1 1 [.int .i64 x] (by rfl) (by rfl) (World.news_of_block HNX.out) ?h1xxxxxxxxxxxxxxxxxxx (by decide) ?h63xxxxxxxxxxxxxxxxxxx ?hbyxxxxxxxxxxxxxxxxxxx ?hbsxxxxxxxxxxxxxxxxxxx _ rfl ?_
                  case h1xxxxxxxxxxxxxxxxxxx => intro u hu; rw [List.mem_singleton.1 hu]; rfl
                  case h63xxxxxxxxxxxxxxxxxxx => (have := HCL.out; unfold maxLen; omega)
                  case hbyxxxxxxxxxxxxxxxxxxx => (have := HCL.out; omega)
                  case hbsxxxxxxxxxxxxxxxxxxx => (have := HLA.out; omega)
                  intro g2 k2 wn hown hgr hv _
                  obtain ⟨hp8, hk8⟩ := HA7.out.push2 hcb hown hgr hv
                  have HP8 := Lib.hid hp8
                  clear hown hgr hv c0 c1 f0 f1 hp8
                  obtain ⟨c0, c1, f0, f1⟩ := cell2 hk8
                  clear hk8
                  refine hK.out _ _ (trivial) (fun hHeld => ?_)
                  clear hK K
                  try simp only [Act.put, List.setIfInBounds_toArray]
                  refine take1 (i := 7) (v := ?v29) (some 30) rfl rfl (by kernel_rfl) (by kernel_rfl) (by kernel_rfl) (fun _ _ _ h => h) (Or.inl ⟨by rfl, ?y29⟩) (by assumption) ?r29
                  case y29 => (intro w hSw; (try dsimp only at hSw); go_simp; (first | done | with_reducible rfl))
                  try simp only [Act.put, List.setIfInBounds_toArray, List.set_cons_zero, List.set_cons_succ]
                  refine wpAnyH_ready (rs := [8]) (by kernel_rfl) (by simp) ?_
                  refine AllReadyH.cons rfl (fun K hK => ?_) AllReadyH.nil
                  go_simp
                  clear c0 c1 f0 f1
                  generalize wn.setCell ⟨W1.heap.size, 1, none⟩ (.slice (some ⟨g2, 0, none⟩) (ss.length + 1) k2) = wz at HP8 ⊢
                  refine hK.out _ _ (trivial) (fun hHeld => ?_)
                  clear hK K
                  try simp only [Act.put]
                  refine wpAnyH_done (by kernel_rfl) ?_ _
                  go_wp2_with fail
                  go_roundw
                  case rel => exact ⟨k + 1, m + 2 + 2, a1, c1', some ⟨g2, 0, none⟩, k2, ls, ss ++ [x], by omega, by go_num, Lib.hid (by rw [List.length_append, List.length_singleton]; have := HCL.out; omega), by omega, HP8⟩
                  case measure => simp [intOf]; omega
                · go_simp
                  have ha7 := HA6.out.alloc hcb (.cells #[.int .i64 x] 3)
                  have hnx : (w6.alloc (.cells #[.int .i64 x] 3)).heap[w6.heap.size]? = some (.cells #[.int .i64 x] 3 (0, 0)) := alloc_at rfl
                  generalize w6.alloc (.cells #[.int .i64 x] 3) = w7 at ha7 hnx ⊢
                  have HA7 := Lib.hid ha7
                  have HNX := Lib.hid hnx
                  clear ha7 hnx c0 c1 f0 f1
                  obtain ⟨c0, c1, f0, f1⟩ := cell2 HA7.out.2.2.2.1
                  refine hK.out _ _ (trivial) (fun hHeld => ?_)
                  clear hK K
                  try simp only [Act.put, List.setIfInBounds_toArray, List.set_cons_zero, List.set_cons_succ]
                  have HLA := Lib.hid (lt_of_block HA7.out.2.2.2.1)
                  refine wpAnyH_ready (rs := [1]) (by kernel_rfl) (by simp) ?_
                  refine AllReadyH.cons rfl (fun K hK => ?_) AllReadyH.nil
                  go_simp
                  refine hK.out _ _ (trivial) (fun hHeld => ?_)
                  clear hK K
                  try simp only [Act.put, List.setIfInBounds_toArray, List.set_cons_zero, List.set_cons_succ]
                  refine wpAnyH_ready (rs := [6]) (by kernel_rfl) (by simp) ?_
                  refine AllReadyH.cons rfl (fun K hK => ?_) AllReadyH.nil
                  refine step_append_lies _ (by rfl) _ _ _ (by rfl) (W1.heap.size + 1) 3 i0 (.int .i64 0) 1 8 Tryd.underlying24 hi hz0 hz1 hz2 rfl (by decide) _ ss.length _ (by rfl) HA7.out.2.2.2.2.2.1 ⟨w6.heap.size, 0, none⟩ 1 1 [.int .i64 x] (by rfl) (by rfl) (World.news_of_block HNX.out) ?h1xxxxxxxxxxxxxxxxxxxx (by decide) ?h63xxxxxxxxxxxxxxxxxxxx ?hbyxxxxxxxxxxxxxxxxxxxx ?hbsxxxxxxxxxxxxxxxxxxxx _ rfl ?_
                  case h1xxxxxxxxxxxxxxxxxxxx => intro u hu; rw [List.mem_singleton.1 hu]; rfl
                  case h63xxxxxxxxxxxxxxxxxxxx => (have := HCL.out; unfold maxLen; omega)
                  case hbyxxxxxxxxxxxxxxxxxxxx => (have := HCL.out; omega)
                  case hbsxxxxxxxxxxxxxxxxxxxx => (have := HLA.out; omega)
                  intro g2 k2 wn hown hgr hv _
                  obtain ⟨hp8, hk8⟩ := HA7.out.push2 hcb hown hgr hv
                  have HP8 := Lib.hid hp8
                  clear hown hgr hv c0 c1 f0 f1 hp8
                  obtain ⟨c0, c1, f0, f1⟩ := cell2 hk8
                  clear hk8
                  refine hK.out _ _ (trivial) (fun hHeld => ?_)
                  clear hK K
                  try simp only [Act.put, List.setIfInBounds_toArray]
                  refine take1 (i := 7) (v := ?v30) (some 30) rfl rfl (by kernel_rfl) (by kernel_rfl) (by kernel_rfl) (fun _ _ _ h => h) (Or.inl ⟨by rfl, ?y30⟩) (by assumption) ?r30
                  case y30 => (intro w hSw; (try dsimp only at hSw); go_simp; (first | done | with_reducible rfl))
                  try simp only [Act.put, List.setIfInBounds_toArray, List.set_cons_zero, List.set_cons_succ]
                  refine wpAnyH_ready (rs := [8]) (by kernel_rfl) (by simp) ?_
                  refine AllReadyH.cons rfl (fun K hK => ?_) AllReadyH.nil
                  go_simp
                  clear c0 c1 f0 f1
                  generalize wn.setCell ⟨W1.heap.size, 1, none⟩ (.slice (some ⟨g2, 0, none⟩) (ss.length + 1) k2) = wz at HP8 ⊢
                  refine hK.out _ _ (trivial) (fun hHeld => ?_)
                  clear hK K
                  try simp only [Act.put]
                  refine wpAnyH_done (by kernel_rfl) ?_ _
                  go_wp2_with fail
                  go_roundw
                  case rel => exact ⟨k + 1, m + 2 + 2, a1, c1', some ⟨g2, 0, none⟩, k2, ls, ss ++ [x], by omega, by go_num, Lib.hid (by rw [List.length_append, List.length_singleton]; have := HCL.out; omega), by omega, HP8⟩
                  case measure => simp [intOf]; omega
    · obtain rfl : k = N := by omega
      clear hlt hk
      go_wp2_with fail
      refine (one_br 3 HA.out hcb (by omega) (by omega) HR.out).mono ?_
      rintro e wp ⟨⟨b, rfl⟩, hp⟩
      have HP := Lib.hid hp
      clear hp
      go_upto_if 32 with (fail)
      go_cut [] from 7 (fun wc => ∃ (m' : Nat) (a1' : Option Addr) (d1 : Nat) (a2' : Option Addr) (d2 : Nat) (ls' ss' : List Int), (ls'.length = k ∧ ss'.length = k) ∧ m' ≤ n + 50 ∧ BrAt w wc cb cd m' W1.heap.size a1' d1 a2' d2 ls' ss')
      case first =>
        cases b with
        | false =>
          go_wp2_with fail
          go_meet
          case rel => exact ⟨_, _, _, _, _, ls, ss, HCL.out, by omega, HP.out⟩
        | true =>
          go_wp2_with fail
          go_loopw [7] (fun i wr => ∃ (q : Nat) (ls' ss' : List Int), q ≤ k ∧ i = .int .i64 q ∧ Hid (ls'.length = k ∧ ss'.length = k) ∧ Hid (BrAt w wr cb cd (m + 2) W1.heap.size a1 c1' a2 c2' ls' ss')) (fun i _ => k - (intOf i).toNat)
          case atStart => exact ⟨0, ls, ss, Nat.zero_le _, rfl, HCL, HP⟩
          case round =>
            obtain ⟨q, ls', ss', hq, rfl, HQL, HB⟩ := hrel
            by_cases hlt : q < k
            · have z0 : (q : Int) < (k : Int) := by omega
              have z1 : (0 : Int) ≤ (q : Int) := by omega
              obtain ⟨g1, e1, hv1⟩ := own_some HB.out.2.2.2.2.1 (by have := HQL.out; omega)
              injection hv1 with hva hvb hvc
              subst hva hvc
              obtain ⟨g2, e2, hv2⟩ := own_some HB.out.2.2.2.2.2.1 (by have := HQL.out; omega)
              injection hv2 with hva hvb hvc
              subst hva hvc
              obtain ⟨x, hx⟩ : ∃ x, ls'[q]? = some x := ⟨_, List.getElem?_eq_getElem (by have := HQL.out; omega)⟩
              have HXX := Lib.hid hx
              obtain ⟨y, hy⟩ : ∃ y, x.tmod 5 = y := ⟨_, rfl⟩
              have z2 : (q : Int) < (ls'.length : Int) := by have := HQL.out; omega
              have z3 : q < ls'.length := by have := HQL.out; omega
              clear hx
              obtain ⟨c0, c1, f0, f1⟩ := cell2 HB.out.2.2.2.1
              have x0 : wr.cell? ⟨g1, q, none⟩ = some (.int .i64 x) := (HB.out.2.2.2.2.1.cellAt q (by omega)).trans (by rw [flatC_int, List.getElem?_map, HXX.out]; rfl)
              have y0 : wr.frozen? ⟨g1, q, none⟩ = false := HB.out.2.2.2.2.1.frozenAt _
              go_wp2_with fail
              refine wp_region_held_drew (S := (fun u => u.cell? ⟨W1.heap.size, 0, none⟩ = some (.slice (some ⟨g1, 0, none⟩) ls'.length c1'))) (by kernel_rfl) (c0) (fun hHeld => ?_)
              have hb4 := HB.out.drew hcb
              generalize wr.drew = w4 at hb4 hHeld ⊢
              have HB4 := Lib.hid hb4
              clear hb4 c0 c1 f0 f1 x0 y0
              obtain ⟨c0, c1, f0, f1⟩ := cell2 HB4.out.2.2.2.1
              have x0 : w4.cell? ⟨g1, q, none⟩ = some (.int .i64 x) := (HB4.out.2.2.2.2.1.cellAt q (by omega)).trans (by rw [flatC_int, List.getElem?_map, HXX.out]; rfl)
              have y0 : w4.frozen? ⟨g1, q, none⟩ = false := HB4.out.2.2.2.2.1.frozenAt _
              refine take1 (i := 0) (v := ?v31) (some 38) rfl rfl (by kernel_rfl) (by kernel_rfl) (by kernel_rfl) (fun _ _ _ h => h) (Or.inl ⟨by rfl, ?y31⟩) (by assumption) ?r31
              case y31 => (intro w hSw; (try dsimp only at hSw); go_simp; (first | done | with_reducible rfl))
              try simp only [Act.put, List.setIfInBounds_toArray, List.set_cons_zero, List.set_cons_succ]
              refine take1 (i := 1) (v := ?v32) (some 39) rfl rfl (by kernel_rfl) (by kernel_rfl) (by kernel_rfl) (fun _ _ _ h => h) (Or.inl ⟨by rfl, ?y32⟩) (by assumption) ?r32
              case y32 => (intro w hSw; (try dsimp only at hSw); go_simp; (first | done | with_reducible rfl))
              try simp only [Act.put, List.setIfInBounds_toArray, List.set_cons_zero, List.set_cons_succ]
              refine take1 (i := 2) (v := ?v33) (some 40) rfl rfl (by kernel_rfl) (by kernel_rfl) (by kernel_rfl) (fun _ _ _ h => h) (Or.inl ⟨by rfl, ?y33⟩) (by assumption) ?r33
              case y33 => (intro w hSw; (try dsimp only at hSw); go_simp; (first | done | with_reducible rfl))
              try simp only [Act.put, List.setIfInBounds_toArray, List.set_cons_zero, List.set_cons_succ]
              refine take1 (i := 3) (v := ?v34) (some 41) rfl rfl (by kernel_rfl) (by kernel_rfl) (by kernel_rfl) (fun _ _ _ h => h) (Or.inl ⟨by rfl, ?y34⟩) (by assumption) ?r34
              case y34 => (intro w hSw; (try dsimp only at hSw); go_simp; (first | done | with_reducible rfl))
              try simp only [Act.put, List.setIfInBounds_toArray, List.set_cons_zero, List.set_cons_succ]
              refine take1 (i := 4) (v := ?v35) (some 42) rfl rfl (by kernel_rfl) (by kernel_rfl) (by kernel_rfl) (fun _ _ _ h => h) (Or.inl ⟨by rfl, ?y35⟩) (by assumption) ?r35
              case y35 => (intro w hSw; (try dsimp only at hSw); go_simp; (first | done | with_reducible rfl))
              try simp only [Act.put, List.setIfInBounds_toArray, List.set_cons_zero, List.set_cons_succ]
              refine take1 (i := 5) (v := ?v36) (some 43) rfl rfl (by kernel_rfl) (by kernel_rfl) (by kernel_rfl) (fun _ _ _ h => h) (Or.inl ⟨by rfl, ?y36⟩) (by assumption) ?r36
              case y36 => (intro w hSw; (try dsimp only at hSw); go_simp; (first | done | with_reducible rfl))
              try simp only [Act.put, List.setIfInBounds_toArray, List.set_cons_zero, List.set_cons_succ]
              refine take1 (i := 6) (v := ?v37) (some 44) rfl rfl (by kernel_rfl) (by kernel_rfl) (by kernel_rfl) (fun _ _ _ h => h) (Or.inl ⟨by rfl, ?y37⟩) (by assumption) ?r37
              case y37 => (intro w hSw; (try dsimp only at hSw); go_simp; (first | done | with_reducible rfl))
              try simp only [Act.put, List.setIfInBounds_toArray, List.set_cons_zero, List.set_cons_succ]
              refine wpAnyH_ready (rs := [7]) (by kernel_rfl) (by simp) ?_
              refine AllReadyH.cons rfl (fun K hK => ?_) AllReadyH.nil
              go_simp
              refine hK.out _ _ (c0) (fun hHeld => ?_)
              clear hK K
              try simp only [Act.put, List.setIfInBounds_toArray, List.set_cons_zero, List.set_cons_succ]
              refine take1 (i := 8) (v := ?v38) (some 46) rfl rfl (by kernel_rfl) (by kernel_rfl) (by kernel_rfl) (fun _ _ _ h => h) (Or.inl ⟨by rfl, ?y38⟩) (by assumption) ?r38
              case y38 => (intro w hSw; (try dsimp only at hSw); go_simp; (first | done | with_reducible rfl))
              try simp only [Act.put, List.setIfInBounds_toArray, List.set_cons_zero, List.set_cons_succ]
              refine take1 (i := 9) (v := ?v39) (some 47) rfl rfl (by kernel_rfl) (by kernel_rfl) (by kernel_rfl) (fun _ _ _ h => h) (Or.inl ⟨by rfl, ?y39⟩) (by assumption) ?r39
              case y39 => (intro w hSw; (try dsimp only at hSw); go_simp; (first | done | with_reducible rfl))
              try simp only [Act.put, List.setIfInBounds_toArray, List.set_cons_zero, List.set_cons_succ]
              refine wpAnyH_ready (rs := [10]) (by kernel_rfl) (by simp) ?_
              refine AllReadyH.cons rfl (fun K hK => ?_) AllReadyH.nil
              have hf := HB4.out.set1 (k := q) (y := y) hcb
              go_simp
              generalize w4.setCell ⟨g1, q, none⟩ (.int .i64 y) = w5 at hf ⊢
              have HB5 := Lib.hid hf
              clear hf c0 c1 f0 f1 x0 y0
              obtain ⟨c0, c1, f0, f1⟩ := cell2 HB5.out.2.2.2.1
              have hle : (ls'.set q y).length = ls'.length := List.length_set
              rw [hle] at c0
              clear hle
              refine hK.out _ _ (c0) (fun hHeld => ?_)
              clear hK K
              try simp only [Act.put]
              refine wpAnyH_done (by kernel_rfl) ?_ _
              have HQL5 : Hid ((ls'.set q y).length = k ∧ ss'.length = k) := Lib.hid (by have := HQL.out; rw [List.length_set]; omega)
              generalize ls'.set q y = ls' at HB5 HQL5
              clear HQL hy HXX c0 c1 f0 f1 z2 z3
              have HQL := HQL5
              have HBm := HB5
              rename World => wm
              obtain ⟨x, hx⟩ : ∃ x, ss'[q]? = some x := ⟨_, List.getElem?_eq_getElem (by have := HQL.out; omega)⟩
              have HXX := Lib.hid hx
              obtain ⟨y, hy⟩ : ∃ y, x.tmod 2 = y := ⟨_, rfl⟩
              have z2 : (q : Int) < (ss'.length : Int) := by have := HQL.out; omega
              have z3 : q < ss'.length := by have := HQL.out; omega
              clear hx
              obtain ⟨c0, c1, f0, f1⟩ := cell2 HBm.out.2.2.2.1
              have x0 : wm.cell? ⟨g2, q, none⟩ = some (.int .i64 x) := (HBm.out.2.2.2.2.2.1.cellAt q (by omega)).trans (by rw [flatC_int, List.getElem?_map, HXX.out]; rfl)
              have y0 : wm.frozen? ⟨g2, q, none⟩ = false := HBm.out.2.2.2.2.2.1.frozenAt _
              go_wp2_with fail
              refine wp_region_held_drew (S := (fun u => u.cell? ⟨W1.heap.size, 1, none⟩ = some (.slice (some ⟨g2, 0, none⟩) ss'.length c2'))) (by kernel_rfl) (c1) (fun hHeld => ?_)
              have hb4 := HBm.out.drew hcb
              generalize wm.drew = w4 at hb4 hHeld ⊢
              have HB4 := Lib.hid hb4
              clear hb4 c0 c1 f0 f1 x0 y0
              obtain ⟨c0, c1, f0, f1⟩ := cell2 HB4.out.2.2.2.1
              have x0 : w4.cell? ⟨g2, q, none⟩ = some (.int .i64 x) := (HB4.out.2.2.2.2.2.1.cellAt q (by omega)).trans (by rw [flatC_int, List.getElem?_map, HXX.out]; rfl)
              have y0 : w4.frozen? ⟨g2, q, none⟩ = false := HB4.out.2.2.2.2.2.1.frozenAt _
              refine take1 (i := 0) (v := ?v40) (some 48) rfl rfl (by kernel_rfl) (by kernel_rfl) (by kernel_rfl) (fun _ _ _ h => h) (Or.inl ⟨by rfl, ?y40⟩) (by assumption) ?r40
              case y40 => (intro w hSw; (try dsimp only at hSw); go_simp; (first | done | with_reducible rfl))
              try simp only [Act.put, List.setIfInBounds_toArray, List.set_cons_zero, List.set_cons_succ]
              refine take1 (i := 1) (v := ?v41) (some 49) rfl rfl (by kernel_rfl) (by kernel_rfl) (by kernel_rfl) (fun _ _ _ h => h) (Or.inl ⟨by rfl, ?y41⟩) (by assumption) ?r41
              case y41 => (intro w hSw; (try dsimp only at hSw); go_simp; (first | done | with_reducible rfl))
              try simp only [Act.put, List.setIfInBounds_toArray, List.set_cons_zero, List.set_cons_succ]
              refine take1 (i := 2) (v := ?v42) (some 50) rfl rfl (by kernel_rfl) (by kernel_rfl) (by kernel_rfl) (fun _ _ _ h => h) (Or.inl ⟨by rfl, ?y42⟩) (by assumption) ?r42
              case y42 => (intro w hSw; (try dsimp only at hSw); go_simp; (first | done | with_reducible rfl))
              try simp only [Act.put, List.setIfInBounds_toArray, List.set_cons_zero, List.set_cons_succ]
              refine take1 (i := 3) (v := ?v43) (some 51) rfl rfl (by kernel_rfl) (by kernel_rfl) (by kernel_rfl) (fun _ _ _ h => h) (Or.inl ⟨by rfl, ?y43⟩) (by assumption) ?r43
              case y43 => (intro w hSw; (try dsimp only at hSw); go_simp; (first | done | with_reducible rfl))
              try simp only [Act.put, List.setIfInBounds_toArray, List.set_cons_zero, List.set_cons_succ]
              refine take1 (i := 4) (v := ?v44) (some 52) rfl rfl (by kernel_rfl) (by kernel_rfl) (by kernel_rfl) (fun _ _ _ h => h) (Or.inl ⟨by rfl, ?y44⟩) (by assumption) ?r44
              case y44 => (intro w hSw; (try dsimp only at hSw); go_simp; (first | done | with_reducible rfl))
              try simp only [Act.put, List.setIfInBounds_toArray, List.set_cons_zero, List.set_cons_succ]
              refine take1 (i := 5) (v := ?v45) (some 53) rfl rfl (by kernel_rfl) (by kernel_rfl) (by kernel_rfl) (fun _ _ _ h => h) (Or.inl ⟨by rfl, ?y45⟩) (by assumption) ?r45
              case y45 => (intro w hSw; (try dsimp only at hSw); go_simp; (first | done | with_reducible rfl))
              try simp only [Act.put, List.setIfInBounds_toArray, List.set_cons_zero, List.set_cons_succ]
              refine take1 (i := 6) (v := ?v46) (some 54) rfl rfl (by kernel_rfl) (by kernel_rfl) (by kernel_rfl) (fun _ _ _ h => h) (Or.inl ⟨by rfl, ?y46⟩) (by assumption) ?r46
              case y46 => (intro w hSw; (try dsimp only at hSw); go_simp; (first | done | with_reducible rfl))
              try simp only [Act.put, List.setIfInBounds_toArray, List.set_cons_zero, List.set_cons_succ]
              refine wpAnyH_ready (rs := [7]) (by kernel_rfl) (by simp) ?_
              refine AllReadyH.cons rfl (fun K hK => ?_) AllReadyH.nil
              go_simp
              refine hK.out _ _ (c1) (fun hHeld => ?_)
              clear hK K
              try simp only [Act.put, List.setIfInBounds_toArray, List.set_cons_zero, List.set_cons_succ]
              refine take1 (i := 8) (v := ?v47) (some 56) rfl rfl (by kernel_rfl) (by kernel_rfl) (by kernel_rfl) (fun _ _ _ h => h) (Or.inl ⟨by rfl, ?y47⟩) (by assumption) ?r47
              case y47 => (intro w hSw; (try dsimp only at hSw); go_simp; (first | done | with_reducible rfl))
              try simp only [Act.put, List.setIfInBounds_toArray, List.set_cons_zero, List.set_cons_succ]
              refine take1 (i := 9) (v := ?v48) (some 57) rfl rfl (by kernel_rfl) (by kernel_rfl) (by kernel_rfl) (fun _ _ _ h => h) (Or.inl ⟨by rfl, ?y48⟩) (by assumption) ?r48
              case y48 => (intro w hSw; (try dsimp only at hSw); go_simp; (first | done | with_reducible rfl))
              try simp only [Act.put, List.setIfInBounds_toArray, List.set_cons_zero, List.set_cons_succ]
              refine wpAnyH_ready (rs := [10]) (by kernel_rfl) (by simp) ?_
              refine AllReadyH.cons rfl (fun K hK => ?_) AllReadyH.nil
              have hf := HB4.out.set2 (k := q) (y := y) hcb
              go_simp
              generalize w4.setCell ⟨g2, q, none⟩ (.int .i64 y) = w5 at hf ⊢
              have HB5 := Lib.hid hf
              clear hf c0 c1 f0 f1 x0 y0
              obtain ⟨c0, c1, f0, f1⟩ := cell2 HB5.out.2.2.2.1
              have hle : (ss'.set q y).length = ss'.length := List.length_set
              rw [hle] at c1
              clear hle
              refine hK.out _ _ (c1) (fun hHeld => ?_)
              clear hK K
              try simp only [Act.put]
              refine wpAnyH_done (by kernel_rfl) ?_ _
              go_wp2_with fail
              go_roundw
              case rel => exact ⟨q + 1, _, _, by omega, by go_num, Lib.hid (by have := HQL.out; rw [List.length_set]; omega), HB5⟩
              case measure => simp [intOf]; omega
            · obtain rfl : q = k := by omega
              go_wp2_with fail
              go_meet
              case rel => exact ⟨_, _, _, _, _, ls', ss', HQL.out, by omega, HB.out⟩
      case rest =>
        obtain ⟨m', a1', d1, a2', d2, ls', ss', hl', hm', hb'⟩ := hcut
        rename World => w9
        have HL := Lib.hid hl'
        have HB := Lib.hid hb'
        clear hl' hb'
        obtain ⟨c0, c1, f0, f1⟩ := cell2 HB.out.2.2.2.1
        have z5 : (1 : Int) ≤ (ls'.length : Int) := by have := HL.out; omega
        go_wp2_with fail
        refine (pick_br (ls'.length : Int) HB.out hcb (by omega) z5 (by have := HL.out; omega) HR.out).mono ?_
        rintro e w10 ⟨⟨p, rfl, p0, p1⟩, hp⟩
        have HP9 := Lib.hid hp
        clear hp c0 c1 f0 f1
        obtain ⟨q, rfl⟩ : ∃ q : Nat, p = q := ⟨p.toNat, by omega⟩
        go_wp2_with fail
        refine (pick_br 60 HP9.out hcb (by omega) (by omega) (by omega) HR.out).mono ?_
        rintro e w11 ⟨⟨r, rfl, r0, r1⟩, hp⟩
        have HQ := Lib.hid hp
        clear hp
        by_cases q0 : r = 0
        · skip
          subst r
          obtain ⟨g, e1, hv1⟩ := own_some HQ.out.2.2.2.2.1 (by have := HL.out; omega)
          injection hv1 with hva hvb hvc
          subst hva hvc
          have z6 : (q : Int) < (ls'.length : Int) := by have := HL.out; omega
          have z7 : (0 : Int) ≤ (q : Int) := by omega
          have z8 : q < ls'.length := by omega
          obtain ⟨c0, c1, f0, f1⟩ := cell2 HQ.out.2.2.2.1
          go_wp2_with fail
          refine wp_region_held_drew (S := (fun u => u.cell? ⟨W1.heap.size, 0, none⟩ = some (.slice (some ⟨g, 0, none⟩) ls'.length d1))) (by kernel_rfl) (c0) (fun hHeld => ?_)
          have hb4 := HQ.out.drew hcb
          generalize w11.drew = w4 at hb4 hHeld ⊢
          have HA4 := Lib.hid hb4
          clear hb4 c0 c1 f0 f1
          obtain ⟨c0, c1, f0, f1⟩ := cell2 HA4.out.2.2.2.1
          refine take1 (i := 0) (v := ?v49) (some 67) rfl rfl (by kernel_rfl) (by kernel_rfl) (by kernel_rfl) (fun _ _ _ h => h) (Or.inl ⟨by rfl, ?y49⟩) (by assumption) ?r49
          case y49 => (intro w hSw; (try dsimp only at hSw); go_simp; (first | done | with_reducible rfl))
          try simp only [Act.put, List.setIfInBounds_toArray, List.set_cons_zero, List.set_cons_succ]
          refine take1 (i := 1) (v := ?v50) (some 68) rfl rfl (by kernel_rfl) (by kernel_rfl) (by kernel_rfl) (fun _ _ _ h => h) (Or.inl ⟨by rfl, ?y50⟩) (by assumption) ?r50
          case y50 => (intro w hSw; (try dsimp only at hSw); go_simp; (first | done | with_reducible rfl))
          try simp only [Act.put, List.setIfInBounds_toArray, List.set_cons_zero, List.set_cons_succ]
          refine take1 (i := 2) (v := ?v51) (some 69) rfl rfl (by kernel_rfl) (by kernel_rfl) (by kernel_rfl) (fun _ _ _ h => h) (Or.inl ⟨by rfl, ?y51⟩) (by assumption) ?r51
          case y51 => (intro w hSw; (try dsimp only at hSw); go_simp; (first | done | with_reducible rfl))
          try simp only [Act.put, List.setIfInBounds_toArray, List.set_cons_zero, List.set_cons_succ]
          refine take1 (i := 3) (v := ?v52) (some 70) rfl rfl (by kernel_rfl) (by kernel_rfl) (by kernel_rfl) (fun _ _ _ h => h) (Or.inl ⟨by rfl, ?y52⟩) (by assumption) ?r52
          case y52 => (intro w hSw; (try dsimp only at hSw); go_simp; (first | done | with_reducible rfl))
          try simp only [Act.put, List.setIfInBounds_toArray, List.set_cons_zero, List.set_cons_succ]
          refine wpAnyH_ready (rs := [4]) (by kernel_rfl) (by simp) ?_
          refine AllReadyH.cons rfl (fun K hK => ?_) AllReadyH.nil
          go_simp
          have ha5 := HA4.out.alloc hcb (.cells (bnZ.map (Value.int .i64)).toArray 3)
          have HSL := Lib.hid (slr_lit w4 (bnZ.map (Value.int .i64)) 3 (by decide))
          have HNE : Hid (w4.heap.size ≠ cb) := Lib.hid (by have := HA4.out.1.size; omega)
          have HAM := Lib.hid (among_br (zs := bnZ) ha5 hcb (by omega) (by decide) HSL.out (fun a m c e => by cases e; exact HNE.out) HR.out)
          have HA5 := Lib.hid ha5
          clear ha5 HSL c0 c1 f0 f1
          change K _ (w4.alloc (.cells (bnZ.map (Value.int .i64)).toArray 3))
          generalize w4.alloc (.cells (bnZ.map (Value.int .i64)).toArray 3) = w5 at HAM HA5 ⊢
          obtain ⟨c0, c1, f0, f1⟩ := cell2 HA5.out.2.2.2.1
          refine hK.out _ _ (c0) (fun hHeld => ?_)
          clear hK K
          try simp only [Act.put, List.setIfInBounds_toArray, List.set_cons_zero, List.set_cons_succ]
          refine wpAnyH_ready (rs := [5]) (by kernel_rfl) (by simp) ?_
          refine AllReadyH.cons rfl (fun K hK => ?_) AllReadyH.nil
          go_simp
          go_at_call 39
          refine (HAM.out).mono ?_
          rintro e w6 ⟨⟨x, rfl, -⟩, ha6⟩
          have HA6 := Lib.hid ha6
          clear ha6 c0 c1 f0 f1
          obtain ⟨c0, c1, f0, f1⟩ := cell2 HA6.out.2.2.2.1
          try go_simp
          refine hK.out _ _ (c0) (fun hHeld => ?_)
          clear hK K
          try simp only [Act.put, List.setIfInBounds_toArray, List.set_cons_zero, List.set_cons_succ]
          refine take1 (i := 6) (v := ?v53) (some 73) rfl rfl (by kernel_rfl) (by kernel_rfl) (by kernel_rfl) (fun _ _ _ h => h) (Or.inl ⟨by rfl, ?y53⟩) (by assumption) ?r53
          case y53 => (intro w hSw; (try dsimp only at hSw); go_simp; (first | done | with_reducible rfl))
          try simp only [Act.put, List.setIfInBounds_toArray, List.set_cons_zero, List.set_cons_succ]
          refine wpAnyH_ready (rs := [7]) (by kernel_rfl) (by simp) ?_
          refine AllReadyH.cons rfl (fun K hK => ?_) AllReadyH.nil
          have hf := HA6.out.set1 (k := q) (y := x) hcb
          obtain ⟨e0, x0⟩ : ∃ e, w6.cell? ⟨g, q, none⟩ = some e := ⟨_, (HA6.out.2.2.2.2.1.cellAt q (by omega)).trans (List.getElem?_eq_getElem (by rw [flatC_len inC_len]; omega))⟩
          have y0 : w6.frozen? ⟨g, q, none⟩ = false := HA6.out.2.2.2.2.1.frozenAt _
          go_simp
          generalize w6.setCell ⟨g, q, none⟩ (.int .i64 x) = w7 at hf ⊢
          have HF := Lib.hid hf
          clear hf x0 y0 c0 c1 f0 f1
          obtain ⟨c0, c1, f0, f1⟩ := cell2 HF.out.2.2.2.1
          have hle : (ls'.set q x).length = ls'.length := List.length_set
          rw [hle] at c0
          refine hK.out _ _ (c0) (fun hHeld => ?_)
          clear hK K
          try simp only [Act.put]
          refine wpAnyH_done (by kernel_rfl) ?_ _
          clear c0 c1 f0 f1
          have KA := HF.out.2.2.1
          have KB := HF.out.2.2.2.1
          have KX := HF.out.toX
          have KC := HF.out.2.1
          have KG := HF.out.1
          rw [List.length_set] at KB KX
          obtain ⟨z0, z1, y0, y1⟩ := cell2 KA
          obtain ⟨c0, c1, f0, f1⟩ := cell2 KB
          have hzl := lt_of_block KA
          have KAA := Lib.hid KA
          have KXX := Lib.hid KX
          have KCC := Lib.hid KC
          have KGG := Lib.hid KG
          clear KA KB KX KC KG
          go_wp2_with fail
          exact bodyPost_ret (v := .agg #[.slice (some ⟨g, 0, none⟩) ls'.length d1, .slice a2' ss'.length d2]) (by simp [results, Tryd.results23, go_sem, z0, z1]) rfl ⟨⟨_, _, (ls'.set q x), ss', rfl, ((KXX.out.set ⟨w.heap.size, 0, none⟩ (by show w.heap.size < W1.heap.size + 1; omega) _).set ⟨w.heap.size, 1, none⟩ (by show w.heap.size < W1.heap.size + 1; omega) _).mono (by omega), by (try simp only [List.length_set, List.length_take]); have := HL.out; omega, by (try simp only [List.length_set, List.length_take]); have := HL.out; omega⟩, ((KCC.out.set _ _ _ (by show cb ≠ w.heap.size; omega)).set _ _ _ (by show cb ≠ w.heap.size; omega)).more (by omega), grown_set_new (grown_set_new KGG.out _ _ _ (Nat.le_refl _)) _ _ _ (Nat.le_refl _)⟩
        · have q0' : (decide (r = 0)) = false := by simp [q0]
          by_cases q1 : r = 1
          · skip
            subst r
            obtain ⟨g, e1, hv1⟩ := own_some HQ.out.2.2.2.2.2.1 (by have := HL.out; omega)
            injection hv1 with hva hvb hvc
            subst hva hvc
            have z6 : (q : Int) < (ss'.length : Int) := by have := HL.out; omega
            have z7 : (0 : Int) ≤ (q : Int) := by omega
            have z8 : q < ss'.length := by omega
            obtain ⟨c0, c1, f0, f1⟩ := cell2 HQ.out.2.2.2.1
            go_wp2_with fail
            refine wp_region_held_drew (S := (fun u => u.cell? ⟨W1.heap.size, 1, none⟩ = some (.slice (some ⟨g, 0, none⟩) ss'.length d2))) (by kernel_rfl) (c1) (fun hHeld => ?_)
            have hb4 := HQ.out.drew hcb
            generalize w11.drew = w4 at hb4 hHeld ⊢
            have HA4 := Lib.hid hb4
            clear hb4 c0 c1 f0 f1
            obtain ⟨c0, c1, f0, f1⟩ := cell2 HA4.out.2.2.2.1
            refine take1 (i := 0) (v := ?v54) (some 76) rfl rfl (by kernel_rfl) (by kernel_rfl) (by kernel_rfl) (fun _ _ _ h => h) (Or.inl ⟨by rfl, ?y54⟩) (by assumption) ?r54
            case y54 => (intro w hSw; (try dsimp only at hSw); go_simp; (first | done | with_reducible rfl))
            try simp only [Act.put, List.setIfInBounds_toArray, List.set_cons_zero, List.set_cons_succ]
            refine take1 (i := 1) (v := ?v55) (some 77) rfl rfl (by kernel_rfl) (by kernel_rfl) (by kernel_rfl) (fun _ _ _ h => h) (Or.inl ⟨by rfl, ?y55⟩) (by assumption) ?r55
            case y55 => (intro w hSw; (try dsimp only at hSw); go_simp; (first | done | with_reducible rfl))
            try simp only [Act.put, List.setIfInBounds_toArray, List.set_cons_zero, List.set_cons_succ]
            refine take1 (i := 2) (v := ?v56) (some 78) rfl rfl (by kernel_rfl) (by kernel_rfl) (by kernel_rfl) (fun _ _ _ h => h) (Or.inl ⟨by rfl, ?y56⟩) (by assumption) ?r56
            case y56 => (intro w hSw; (try dsimp only at hSw); go_simp; (first | done | with_reducible rfl))
            try simp only [Act.put, List.setIfInBounds_toArray, List.set_cons_zero, List.set_cons_succ]
            refine take1 (i := 3) (v := ?v57) (some 79) rfl rfl (by kernel_rfl) (by kernel_rfl) (by kernel_rfl) (fun _ _ _ h => h) (Or.inl ⟨by rfl, ?y57⟩) (by assumption) ?r57
            case y57 => (intro w hSw; (try dsimp only at hSw); go_simp; (first | done | with_reducible rfl))
            try simp only [Act.put, List.setIfInBounds_toArray, List.set_cons_zero, List.set_cons_succ]
            refine wpAnyH_ready (rs := [4]) (by kernel_rfl) (by simp) ?_
            refine AllReadyH.cons rfl (fun K hK => ?_) AllReadyH.nil
            go_simp
            have ha5 := HA4.out.alloc hcb (.cells (bnZ.map (Value.int .i64)).toArray 3)
            have HSL := Lib.hid (slr_lit w4 (bnZ.map (Value.int .i64)) 3 (by decide))
            have HNE : Hid (w4.heap.size ≠ cb) := Lib.hid (by have := HA4.out.1.size; omega)
            have HAM := Lib.hid (among_br (zs := bnZ) ha5 hcb (by omega) (by decide) HSL.out (fun a m c e => by cases e; exact HNE.out) HR.out)
            have HA5 := Lib.hid ha5
            clear ha5 HSL c0 c1 f0 f1
            change K _ (w4.alloc (.cells (bnZ.map (Value.int .i64)).toArray 3))
            generalize w4.alloc (.cells (bnZ.map (Value.int .i64)).toArray 3) = w5 at HAM HA5 ⊢
            obtain ⟨c0, c1, f0, f1⟩ := cell2 HA5.out.2.2.2.1
            refine hK.out _ _ (c1) (fun hHeld => ?_)
            clear hK K
            try simp only [Act.put, List.setIfInBounds_toArray, List.set_cons_zero, List.set_cons_succ]
            refine wpAnyH_ready (rs := [5]) (by kernel_rfl) (by simp) ?_
            refine AllReadyH.cons rfl (fun K hK => ?_) AllReadyH.nil
            go_simp
            go_at_call 39
            refine (HAM.out).mono ?_
            rintro e w6 ⟨⟨x, rfl, -⟩, ha6⟩
            have HA6 := Lib.hid ha6
            clear ha6 c0 c1 f0 f1
            obtain ⟨c0, c1, f0, f1⟩ := cell2 HA6.out.2.2.2.1
            try go_simp
            refine hK.out _ _ (c1) (fun hHeld => ?_)
            clear hK K
            try simp only [Act.put, List.setIfInBounds_toArray, List.set_cons_zero, List.set_cons_succ]
            refine take1 (i := 6) (v := ?v58) (some 82) rfl rfl (by kernel_rfl) (by kernel_rfl) (by kernel_rfl) (fun _ _ _ h => h) (Or.inl ⟨by rfl, ?y58⟩) (by assumption) ?r58
            case y58 => (intro w hSw; (try dsimp only at hSw); go_simp; (first | done | with_reducible rfl))
            try simp only [Act.put, List.setIfInBounds_toArray, List.set_cons_zero, List.set_cons_succ]
            refine wpAnyH_ready (rs := [7]) (by kernel_rfl) (by simp) ?_
            refine AllReadyH.cons rfl (fun K hK => ?_) AllReadyH.nil
            have hf := HA6.out.set2 (k := q) (y := x) hcb
            obtain ⟨e0, x0⟩ : ∃ e, w6.cell? ⟨g, q, none⟩ = some e := ⟨_, (HA6.out.2.2.2.2.2.1.cellAt q (by omega)).trans (List.getElem?_eq_getElem (by rw [flatC_len inC_len]; omega))⟩
            have y0 : w6.frozen? ⟨g, q, none⟩ = false := HA6.out.2.2.2.2.2.1.frozenAt _
            go_simp
            generalize w6.setCell ⟨g, q, none⟩ (.int .i64 x) = w7 at hf ⊢
            have HF := Lib.hid hf
            clear hf x0 y0 c0 c1 f0 f1
            obtain ⟨c0, c1, f0, f1⟩ := cell2 HF.out.2.2.2.1
            have hle : (ss'.set q x).length = ss'.length := List.length_set
            rw [hle] at c1
            refine hK.out _ _ (c1) (fun hHeld => ?_)
            clear hK K
            try simp only [Act.put]
            refine wpAnyH_done (by kernel_rfl) ?_ _
            clear c0 c1 f0 f1
            have KA := HF.out.2.2.1
            have KB := HF.out.2.2.2.1
            have KX := HF.out.toX
            have KC := HF.out.2.1
            have KG := HF.out.1
            rw [List.length_set] at KB KX
            obtain ⟨z0, z1, y0, y1⟩ := cell2 KA
            obtain ⟨c0, c1, f0, f1⟩ := cell2 KB
            have hzl := lt_of_block KA
            have KAA := Lib.hid KA
            have KXX := Lib.hid KX
            have KCC := Lib.hid KC
            have KGG := Lib.hid KG
            clear KA KB KX KC KG
            go_wp2_with fail
            exact bodyPost_ret (v := .agg #[.slice a1' ls'.length d1, .slice (some ⟨g, 0, none⟩) ss'.length d2]) (by simp [results, Tryd.results23, go_sem, z0, z1]) rfl ⟨⟨_, _, ls', (ss'.set q x), rfl, ((KXX.out.set ⟨w.heap.size, 0, none⟩ (by show w.heap.size < W1.heap.size + 1; omega) _).set ⟨w.heap.size, 1, none⟩ (by show w.heap.size < W1.heap.size + 1; omega) _).mono (by omega), by (try simp only [List.length_set, List.length_take]); have := HL.out; omega, by (try simp only [List.length_set, List.length_take]); have := HL.out; omega⟩, ((KCC.out.set _ _ _ (by show cb ≠ w.heap.size; omega)).set _ _ _ (by show cb ≠ w.heap.size; omega)).more (by omega), grown_set_new (grown_set_new KGG.out _ _ _ (Nat.le_refl _)) _ _ _ (Nat.le_refl _)⟩
          · have q1' : (decide (r = 1)) = false := by simp [q1]
            by_cases q2 : r = 2
            · skip
              subst r
              obtain ⟨g, e1, hv1⟩ := own_some HQ.out.2.2.2.2.2.1 (by have := HL.out; omega)
              injection hv1 with hva hvb hvc
              subst hva hvc
              have hcap : ss'.length ≤ d2 := by obtain ⟨_, _, e9, ⟨_, h9⟩, _⟩ := RowsR.of_own inC_len HQ.out.2.2.2.2.2.1; injection e9 with _ _ e9; omega
              have z6 : (q : Int) ≤ (d2 : Int) := by have := HL.out; omega
              have z7 : (0 : Int) ≤ (q : Int) := by omega
              have z8 : q ≤ d2 := by have := HL.out; omega
              obtain ⟨c0, c1, f0, f1⟩ := cell2 HQ.out.2.2.2.1
              have hcc : ∀ q, w.heap.size ≠ W1.heap.size := fun _ => by omega
              have KA := (heap_setCell_other w11 ⟨W1.heap.size, 1, none⟩ w.heap.size (.slice (some ⟨g, 0, none⟩) q d2) (by show w.heap.size ≠ W1.heap.size; omega)).trans HQ.out.2.2.1
              have KB : (w11.setCell ⟨W1.heap.size, 1, none⟩ (.slice (some ⟨g, 0, none⟩) q d2)).heap[W1.heap.size]? = some (.cells #[.slice a1' ls'.length d1, .slice (some ⟨g, 0, none⟩) q d2] 26 (0, 0)) := by
                have h9 := heap_setCell_same w11 W1.heap.size 1 _ _ (.slice (some ⟨g, 0, none⟩) q d2) HQ.out.2.2.2.1
                simpa using h9
              have KX := (HQ.out.toX.set ⟨W1.heap.size, 1, none⟩ (Nat.lt_succ_self _) (.slice (some ⟨g, 0, none⟩) q d2)).head2 q (by have := HL.out; omega)
              have KC := HQ.out.2.1.set W1.heap.size 1 (.slice (some ⟨g, 0, none⟩) q d2) (by show cb ≠ W1.heap.size; omega)
              have KG := grown_set_new HQ.out.1 W1.heap.size 1 (.slice (some ⟨g, 0, none⟩) q d2) (by omega)
              clear hcc
              obtain ⟨z0, z1, y0, y1⟩ := cell2 KA
              obtain ⟨c0, c1, f0, f1⟩ := cell2 KB
              have hzl := lt_of_block KA
              have KAA := Lib.hid KA
              have KXX := Lib.hid KX
              have KCC := Lib.hid KC
              have KGG := Lib.hid KG
              clear KA KB KX KC KG
              go_wp2_with fail
              exact bodyPost_ret (v := .agg #[.slice a1' ls'.length d1, .slice (some ⟨g, 0, none⟩) q d2]) (by simp [results, Tryd.results23, go_sem, z0, z1]) rfl ⟨⟨_, _, ls', (ss'.take q), rfl, ((KXX.out.set ⟨w.heap.size, 0, none⟩ (by show w.heap.size < W1.heap.size + 1; omega) _).set ⟨w.heap.size, 1, none⟩ (by show w.heap.size < W1.heap.size + 1; omega) _).mono (by omega), by (try simp only [List.length_set, List.length_take]); have := HL.out; omega, by (try simp only [List.length_set, List.length_take]); have := HL.out; omega⟩, ((KCC.out.set _ _ _ (by show cb ≠ w.heap.size; omega)).set _ _ _ (by show cb ≠ w.heap.size; omega)).more (by omega), grown_set_new (grown_set_new KGG.out _ _ _ (Nat.le_refl _)) _ _ _ (Nat.le_refl _)⟩
            · have q2' : (decide (r = 2)) = false := by simp [q2]
              by_cases q3 : r = 3
              · skip
                subst r
                obtain ⟨z0, z1, y0, y1⟩ := cell2 HQ.out.2.2.1
                have hzl := lt_of_block HQ.out.2.2.1
                go_wp2_with fail
                exact bodyPost_ret (v := .agg #[.slice none 0 0, .slice none 0 0]) (by simp [results, Tryd.results23, go_sem, z0, z1]) rfl ⟨⟨_, _, [], [], rfl, BrdX.nil _ _, by simp, by simp⟩, ((HQ.out.2.1.set _ _ _ (by omega)).set _ _ _ (by omega)).more (by omega), grown_set_new (grown_set_new HQ.out.1 _ _ _ (Nat.le_refl _)) _ _ _ (Nat.le_refl _)⟩
              · have q3' : (decide (r = 3)) = false := by simp [q3]
                by_cases q4 : r = 4
                · skip
                  subst r
                  have KO := board_lits w.heap.size HQ.out
                  obtain ⟨z0, z1, y0, y1⟩ := cell2 KO.1
                  have hzl := lt_of_block KO.1
                  have KXX := Lib.hid KO.2.1
                  have KCC := Lib.hid KO.2.2.1
                  have KGG := Lib.hid KO.2.2.2
                  clear KO
                  go_wp2_with fail
                  exact bodyPost_ret (v := .agg #[.slice (some ⟨w11.heap.size, 0, none⟩) 7 7, .slice (some ⟨w11.heap.size + 1, 0, none⟩) 7 7]) (by simp [results, Tryd.results23, go_sem, z0, z1]) rfl ⟨⟨_, _, b1Z, b2Z, rfl, ((KXX.out.set ⟨w.heap.size, 0, none⟩ (by have := HQ.out.1.size; have := HQ.out.2.2.2.2.2.2.2; show w.heap.size < w.heap.size + 1; omega) _).set ⟨w.heap.size, 1, none⟩ (by show w.heap.size < w.heap.size + 1; omega) _).mono (by omega), by decide, by decide⟩, ((KCC.out.set _ _ _ (by show cb ≠ w.heap.size; omega)).set _ _ _ (by show cb ≠ w.heap.size; omega)).more (by omega), grown_set_new (grown_set_new KGG.out _ _ _ (Nat.le_refl _)) _ _ _ (Nat.le_refl _)⟩
                · have q4' : (decide (r = 4)) = false := by simp [q4]
                  have KA := HQ.out.2.2.1
                  have KB := HQ.out.2.2.2.1
                  have KX := HQ.out.toX
                  have KC := HQ.out.2.1
                  have KG := HQ.out.1
                  obtain ⟨z0, z1, y0, y1⟩ := cell2 KA
                  obtain ⟨c0, c1, f0, f1⟩ := cell2 KB
                  have hzl := lt_of_block KA
                  have KAA := Lib.hid KA
                  have KXX := Lib.hid KX
                  have KCC := Lib.hid KC
                  have KGG := Lib.hid KG
                  clear KA KB KX KC KG
                  go_wp2_with fail
                  exact bodyPost_ret (v := .agg #[.slice a1' ls'.length d1, .slice a2' ss'.length d2]) (by simp [results, Tryd.results23, go_sem, z0, z1]) rfl ⟨⟨_, _, ls', ss', rfl, ((KXX.out.set ⟨w.heap.size, 0, none⟩ (by show w.heap.size < W1.heap.size + 1; omega) _).set ⟨w.heap.size, 1, none⟩ (by show w.heap.size < W1.heap.size + 1; omega) _).mono (by omega), by (try simp only [List.length_set, List.length_take]); have := HL.out; omega, by (try simp only [List.length_set, List.length_take]); have := HL.out; omega⟩, ((KCC.out.set _ _ _ (by show cb ≠ w.heap.size; omega)).set _ _ _ (by show cb ≠ w.heap.size; omega)).more (by omega), grown_set_new (grown_set_new KGG.out _ _ _ (Nat.le_refl _)) _ _ _ (Nat.le_refl _)⟩
end Go.Proofs.YtbdddpchlmddbaaDoor
