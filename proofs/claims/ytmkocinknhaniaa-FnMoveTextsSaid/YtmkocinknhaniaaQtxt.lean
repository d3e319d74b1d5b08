/- The program's MovesText. -/
import Derived.Test.YtmkocinknhaniaaMtxt
import Derived.Test.YtmkocinknhaniaaQbeads
import Derived.Test.YtmkocinknhaniaaKa
import Derived.Deep.RegionHeld3
import Derived.Deep.RegionLaw
import Derived.Deep.AppendLies
import Derived.Laws.IdiomStrings
namespace Go.Proofs.Ytmkocinknhaniaa
set_option linter.unusedVariables false
open Go.RowKit

theorem own_blockT {w : World} {base size n : Nat} {e : TypeId} {v : Value} {xs : List Value} (h : w.ownsRow base e size v n xs) (hn : 0 < n) : ∃ g cap, v = .slice (some ⟨g, 0, none⟩) n cap := by
  rcases h.2 with ⟨_, h0⟩ | ⟨g, cap, cur, rfl, _⟩
  · omega
  · exact ⟨g, cap, rfl⟩
/-- An own row and a box of another type lie in different blocks. -/
theorem own_apart {w : World} {B : Nat} {e : TypeId} {size g n cap : Nat} {xs : List Value} (h : w.ownsRow B e size (.slice (some ⟨g, 0, none⟩) n cap) n xs) {b : Nat} {cs : Array Value} {T : TypeId} {fr : Nat × Nat} (hb : w.heap[b]? = some (.cells cs T fr)) (hT : T ≠ e) : g ≠ b := by
  intro e1
  subst e1
  rcases h.2 with ⟨h', _⟩ | ⟨g', cap', cur, h', _, hh, _⟩
  · simp at h'
  · simp only [Value.slice.injEq, Option.some.injEq, Addr.mk.injEq, and_true, true_and] at h'
    obtain ⟨rfl, rfl⟩ := h'
    rw [hb] at hh
    injection hh with hh
    injection hh with _ h2 _
    exact hT h2
theorem digitSign_any (x : Int) (w : World) (h0 : 0 ≤ x) (h1 : x ≤ 9) :
    Calls Try.prog 23 #[.int .i64 x] w fun e w' => e = .returned (.int .u8 ((chD x).toNat : Int)) ∧ w' = w := by
  have hc := chD_nat x h0 h1
  rw [hc]
  go_enter Try.func23, Try.ntmps23
  go_wp2_with fail
  go_ret
  exact ⟨rfl, rfl⟩
theorem signOf_any (x : Int) (w : World) (h : x ≠ 0) :
    Calls Try.prog 24 #[.int .i64 x] w fun e w' => e = .returned (.int .u8 ((sgT x).toNat : Int)) ∧ w' = w := by
  by_cases hx : 0 < x
  · have hs : sgT x = 43 := by unfold sgT; rw [if_pos hx]
    rw [hs]
    have hn : ¬ x < 0 := by omega
    clear h hs
    go_enter Try.func24, Try.ntmps24
    go_wp2_with fail
    go_ret
    exact ⟨rfl, rfl⟩
  · have hs : sgT x = 45 := by unfold sgT; rw [if_neg hx]
    rw [hs]
    have hn : x < 0 := by omega
    clear h hs hx
    go_enter Try.func24, Try.ntmps24
    go_wp2_with fail
    go_ret
    exact ⟨rfl, rfl⟩
/-- Bytes as cells. -/
def bytesV (l : List UInt8) : List Value := l.map fun b => Value.int .u8 (b.toNat : Int)
theorem bytesV_app (a b : List UInt8) : bytesV (a ++ b) = bytesV a ++ bytesV b := by simp [bytesV]
theorem bytesV_len (l : List UInt8) : (bytesV l).length = l.length := by simp [bytesV]
theorem bytesV_one (l : List UInt8) : ∀ u ∈ bytesV l, u.oneCell' = true := by intro u hu; simp [bytesV] at hu; obtain ⟨b, _, rfl⟩ := hu; rfl
theorem Try.infoByte : (Try.prog.info? 5).map (fun i => (i.zero, i.size, i.bytes)) = some (some (.int .u8 0), 1, 1) := by kernel_rfl
theorem ul_ix0 (w : World) : (Instr.index 9 (.string ⟨#[117, 108]⟩) (.int .i64 0)).run Try.prog w = .ok (.int .u8 117) w := by kernel_rfl
theorem ul_ix1 (w : World) : (Instr.index 9 (.string ⟨#[117, 108]⟩) (.int .i64 1)).run Try.prog w = .ok (.int .u8 108) w := by kernel_rfl
theorem ul_ix (p : Int) (h0 : 0 ≤ p) (h1 : p ≤ 1) (w : World) : (Instr.index 9 (.string ⟨#[117, 108]⟩) (.int .i64 p)).run Try.prog w = .ok (.int .u8 ((ulT p).toNat : Int)) w := by
  have : p = 0 ∨ p = 1 := by omega
  rcases this with rfl | rfl
  · exact ul_ix0 w
  · exact ul_ix1 w

set_option maxRecDepth 100000 in
set_option maxHeartbeats 6400000 in
theorem implText_yes (v : Value) (ps : List Mv) (w : World) (h : RowsR 3 mvC w v ps) (ho : okMs ps) :
    Calls Try.prog 6 #[v] w fun e w' => e = .returned (.tuple #[.string ⟨(msT ps).toArray⟩, .bool true]) ∧ Below w.heap.size w w' := by
  obtain ⟨i0, hi, hz0, hz1, hz2⟩ := info_parts Try.infoByte
  have h60 : ps.length ≤ 60 := ho.2
  have HA := Lib.hid (areMoves_any v ps w h true ⟨fun _ => ho, fun _ => rfl⟩)
  obtain ⟨a, cp, rfl⟩ := h.form
  have R1 := Lib.hid h.at
  have HM := Lib.hid ho
  clear h ho
  go_enter Try.func6, Try.ntmps6
  go_wp2_with fail
  refine HA.out.mono ?_
  rintro e w2 ⟨rfl, hb2⟩
  have HB2 := Lib.hid hb2
  clear hb2
  have HOB := Lib.hid (World.ownsRow_made (base := w.heap.size) (e := 5) (size := 1) w2 #[] 0 HB2.out.size (Nat.zero_le _) (by simp))
  go_wp2_with fail
  go_loopw [4, 13] (fun v i wr => ∃ (k g cap N : Nat), k ≤ ps.length ∧ i = .int .i64 k ∧ v = .slice (some ⟨g, 0, none⟩) N cap ∧ Hid (N = (msT (ps.take k)).length) ∧ N ≤ 5 * k ∧ wr.ownsRow w.heap.size 5 1 (.slice (some ⟨g, 0, none⟩) N cap) N (bytesV (msT (ps.take k))) ∧ Below w.heap.size w wr) (fun _ i _ => ps.length - (intOf i).toNat)
  case atStart => exact ⟨0, w2.heap.size, 0, 0, Nat.zero_le _, rfl, rfl, Lib.hid (by simp [msT, sepT]), by omega, by simpa [msT, sepT, bytesV] using HOB.out, HB2.out.alloc HB2.out.size _⟩
  case round =>
    obtain ⟨k, g, cap, N, hk, rfl, rfl, HN, hN5, hown, hb⟩ := hrel
    have HO := Lib.hid hown
    have HB := Lib.hid hb
    have hszr := hb.size
    by_cases hlt : k < ps.length
    · have z1 : (0 : Int) ≤ (k : Int) := by omega
      have z2 : (k : Int) < (ps.length : Int) := by omega
      obtain ⟨b1, o1, rfl, l1, k1⟩ := R1.out _ hb k hlt
      have p0 : wr.cell? ⟨b1, o1 + k * 3, none⟩ = some (.int .i64 ps[k].rod) := k1 0 (by omega)
      have p1 : wr.cell? ⟨b1, o1 + k * 3 + 1, none⟩ = some (.int .i64 ps[k].part) := k1 1 (by omega)
      have p2 : wr.cell? ⟨b1, o1 + k * 3 + 2, none⟩ = some (.int .i64 ps[k].amt) := k1 2 (by omega)
      obtain ⟨⟨r0, r1⟩, ⟨t0, t1⟩, ⟨m0, m1⟩, mne⟩ := HM.out.1 k hlt
      have HVL : Hid (msT (ps.take (k + 1)) = (if k = 0 then [] else msT (ps.take k) ++ [32]) ++ mvT ps[k]) := Lib.hid (by
        by_cases h0 : k = 0
        · subst h0; rw [if_pos rfl, List.nil_append]; exact msT_one ps hlt
        · rw [if_neg h0, msT_snoc ps k hlt (by omega)]; simp)
      obtain ⟨d, hd⟩ : ∃ d, absI ps[k].amt = d := ⟨_, rfl⟩
      have hd5 := absI_bd ⟨m0, m1⟩
      rw [hd] at hd5
      obtain ⟨d0, d1⟩ := hd5
      have HD := Lib.hid hd
      have HVT : Hid (mvT ps[k] = [chD ps[k].rod, ulT ps[k].part, sgT ps[k].amt, chD d]) := Lib.hid (by
        unfold mvT
        have : (if 0 < ps[k].amt then ps[k].amt else -ps[k].amt) = d := by rw [← hd]; unfold absI; split <;> split <;> omega
        rw [this])
      generalize ps[k] = mk at p0 p1 p2 HVL HD HVT r0 r1 t0 t1 m0 m1 mne hd
      have hix := ul_ix mk.part t0 t1
      obtain ⟨rod, part, amt⟩ := mk
      dsimp only at p0 p1 p2 r0 r1 t0 t1 m0 m1 mne hix
      change Hid (absI amt = d) at HD
      have HNE := Lib.hid mne
      have HAB := Lib.hid (And.intro m0 m1)
      have HK5 := Lib.hid hN5
      clear k1 hb hown hd mne
      by_cases hk0 : k = 0
      · have hn0 : N = 0 := by omega
        have HSN : Hid (msT (ps.take (k + 1)) = mvT ⟨rod, part, amt⟩) := Lib.hid (by have := HVL.out; rwa [if_pos hk0, List.nil_append] at this)
        have HE0 : Hid (bytesV (msT (ps.take k)) = []) := Lib.hid (by rw [hk0]; rfl)
        have hkz : decide (0 < k) = false := by simp [hk0]
        have HGM : Hid (∀ g', (Value.slice (some ⟨g, 0, none⟩) N cap).ownBlock = some g' → g' ≠ wr.heap.size) := Lib.hid (fun g' hg' => by have := (HO.out.lt g' hg').2; omega)
        have HN0 := Lib.hid hn0
        clear hn0 HVL hk0
        go_wp2_with fail
        have hmk : (wr.alloc (.cells #[.int .i64 rod, .int .i64 part, .int .i64 amt] 40)).heap[wr.heap.size]? = some (.cells #[.int .i64 rod, .int .i64 part, .int .i64 amt] 40 (0, 0)) := alloc_at rfl
        have how2 := HO.out.alloc (.cells #[.int .i64 rod, .int .i64 part, .int .i64 amt] 40)
        have hbw := HB.out.alloc HB.out.size (.cells #[.int .i64 rod, .int .i64 part, .int .i64 amt] 40)
        clear p0 p1 p2
        generalize wr.alloc (.cells #[.int .i64 rod, .int .i64 part, .int .i64 amt] 40) = w21 at hmk how2 hbw ⊢
        have HMK := Lib.hid hmk
        have HOW := Lib.hid how2
        have HBW := Lib.hid hbw
        obtain ⟨c0, c1, c2, _, _, _⟩ := cell3 hmk
        have ltm := lt_of_block hmk
        have hszw := hbw.size
        clear hmk how2 hbw
        go_region_held3 (fun w' => w'.cell? ⟨wr.heap.size, 0, none⟩ = some (.int .i64 rod) ∧ w'.cell? ⟨wr.heap.size, 1, none⟩ = some (.int .i64 part) ∧ w'.cell? ⟨wr.heap.size, 2, none⟩ = some (.int .i64 amt))
          (first
            | go_keep
            | exact ⟨x0, x1, x2⟩
            | exact ⟨y0, y1, y2⟩)
          (first
            | (go_at_call 23; refine (digitSign_any _ _ (by omega) (by omega)).mono ?_; rintro e w9 ⟨rfl, hw⟩; subst w9)
            | (go_at_call 24; refine (signOf_any _ _ HNE.out).mono ?_; rintro e w9 ⟨rfl, hw⟩; subst w9)
            | (go_at_call 25; refine (beadsOfMove_any _ _ _ d _ HAB.out HD.out).mono ?_
               rintro e w30 ⟨rfl, hb30⟩
               have hb31 : Below w21.heap.size w21 w30 := (Below.refl w21.heap.size w21).drew.trans hb30
               obtain ⟨y0, y1, y2, _, _, _⟩ := cell3 ((hb31.block _ ltm).trans HMK.out))
            | (refine step_append_lies _ (by rfl) _ _ _ (by rfl) w.heap.size 5 i0 _ 1 1 Try.underlying22 hi hz0 hz1 hz2 rfl (by omega) _ (N) _ (by rfl) ((own_below HOW.out hb31).alloc _) ⟨w30.heap.size, 0, none⟩ 4 4 (bytesV [chD rod, ulT part, sgT amt, chD d]) (by rfl) (by rfl) (World.news_of_block (cs := #[.int .u8 ((chD rod).toNat : Int), .int .u8 ((ulT part).toNat : Int), .int .u8 ((sgT amt).toNat : Int), .int .u8 ((chD d).toNat : Int)]) (t := 5) (fr := (0, 0)) (heap_alloc_new w30 _)) (bytesV_one _) (by omega) (by unfold maxLen; omega) (by omega) (by have := hb31.size; simp; omega) (w30.heap.size + 1) (by simp) ?_
               intro gg cc w12 hown12 hgrow hat hlt12
               have hgm : ∀ g', (Value.slice (some ⟨g, 0, none⟩) (N) cap).ownBlock = some g' → g' ≠ wr.heap.size := HGM.out
               have hr12 := (hgrow.block wr.heap.size (by have := hb31.size; simp; omega) (fun e => hgm _ e.symm rfl)).trans ((alloc_old (by have := hb31.size; omega)).trans ((hb31.block _ ltm).trans HMK.out))
               obtain ⟨x0, x1, x2, _, _, _⟩ := cell3 hr12))
        all_goals
          have HO12 := Lib.hid hown12
          have HB12 : Hid (Below w.heap.size w w12) := Lib.hid (((HBW.out.trans (hb31.mono HBW.out.size)).alloc (by have := hb31.size; omega) _).grown hgrow (by have := hb31.size; simp; omega) (fun j hj => (HOW.out.lt j hj).1))
          clear hown12 hgrow hat hlt12 hr12 hgm
          go_wp2_with fail
          go_roundw
          case rel =>
            refine ⟨k + 1, gg, cc, N + 4, by omega, by go_num, rfl, Lib.hid ?_, by omega, ?_, HB12.out⟩
            · rw [HSN.out, HVT.out, HN0.out]; rfl
            · have := HO12.out
              rw [HSN.out, HVT.out, show bytesV [chD rod, ulT part, sgT amt, chD d] = bytesV (msT (ps.take k)) ++ bytesV [chD rod, ulT part, sgT amt, chD d] from by rw [HE0.out]; rfl]
              exact this
          case measure => simp [intOf]; omega
      · have HSN : Hid (msT (ps.take (k + 1)) = (msT (ps.take k) ++ [32]) ++ mvT ⟨rod, part, amt⟩) := Lib.hid (by have := HVL.out; rwa [if_neg hk0] at this)
        have zk : (0 : Int) < (k : Int) := by omega
        have zk' : 0 < k := by omega
        have HM3 : Hid (Below w.heap.size w (wr.alloc (.cells #[.int .i64 rod, .int .i64 part, .int .i64 amt] 40))) := Lib.hid (HB.out.alloc HB.out.size _)
        clear hk0 HVL
        go_wp2_with (at_builtin; refine wpList_append_own _ rfl _ _ 22 rfl w.heap.size 5 i0 (.int .u8 0) 1 1 Try.underlying22 hi hz0 hz1 hz2 rfl (by decide) _ _ _ rfl ((HO.out.alloc _).alloc _) ⟨wr.heap.size + 1, 0, none⟩ 1 1 (bytesV [32]) rfl rfl ?c1 ?c2 ?c3 ?c4 ?c5 ?_)
        case c1 => intro j u h; exact h
        case c2 => exact bytesV_one _
        case c3 => unfold maxLen; omega
        case c4 => omega
        case c5 => first | omega | (simp; omega)
        intro v' w21 hown21 hgrow21 _
        obtain ⟨g2, cap2, rfl⟩ := own_blockT hown21 (by omega)
        have hmk : w21.heap[wr.heap.size]? = some (.cells #[.int .i64 rod, .int .i64 part, .int .i64 amt] 40 (0, 0)) := by
          rw [hgrow21.block wr.heap.size (by simp; omega) (fun e => absurd (HO.out.lt _ e.symm).2 (by omega)), alloc_old (by simp)]
          exact alloc_at rfl
        have hbw : Below w.heap.size w w21 := (HM3.out.alloc HM3.out.size _).grown hgrow21 (by simp; omega) (fun q hq => (HO.out.lt q hq).1)
        have how2 : w21.ownsRow w.heap.size 5 1 (.slice (some ⟨g2, 0, none⟩) (N + 1) cap2) (N + 1) (bytesV (msT (ps.take k) ++ [32])) := by rw [bytesV_app]; exact hown21
        have HGM : Hid (∀ g', (Value.slice (some ⟨g2, 0, none⟩) (N + 1) cap2).ownBlock = some g' → g' ≠ wr.heap.size) := Lib.hid (fun g' hg' => by
          have e1 : g2 = g' := by simpa [Value.ownBlock] using hg'
          subst e1
          exact own_apart hown21 hmk (by decide))
        clear hown21 hgrow21 p0 p1 p2 zk'
        go_wp2_with fail
        have HMK := Lib.hid hmk
        have HOW := Lib.hid how2
        have HBW := Lib.hid hbw
        obtain ⟨c0, c1, c2, _, _, _⟩ := cell3 hmk
        have ltm := lt_of_block hmk
        have hszw := hbw.size
        clear hmk how2 hbw
        go_region_held3 (fun w' => w'.cell? ⟨wr.heap.size, 0, none⟩ = some (.int .i64 rod) ∧ w'.cell? ⟨wr.heap.size, 1, none⟩ = some (.int .i64 part) ∧ w'.cell? ⟨wr.heap.size, 2, none⟩ = some (.int .i64 amt))
          (first
            | go_keep
            | exact ⟨x0, x1, x2⟩
            | exact ⟨y0, y1, y2⟩)
          (first
            | (go_at_call 23; refine (digitSign_any _ _ (by omega) (by omega)).mono ?_; rintro e w9 ⟨rfl, hw⟩; subst w9)
            | (go_at_call 24; refine (signOf_any _ _ HNE.out).mono ?_; rintro e w9 ⟨rfl, hw⟩; subst w9)
            | (go_at_call 25; refine (beadsOfMove_any _ _ _ d _ HAB.out HD.out).mono ?_
               rintro e w30 ⟨rfl, hb30⟩
               have hb31 : Below w21.heap.size w21 w30 := (Below.refl w21.heap.size w21).drew.trans hb30
               obtain ⟨y0, y1, y2, _, _, _⟩ := cell3 ((hb31.block _ ltm).trans HMK.out))
            | (refine step_append_lies _ (by rfl) _ _ _ (by rfl) w.heap.size 5 i0 _ 1 1 Try.underlying22 hi hz0 hz1 hz2 rfl (by omega) _ (N + 1) _ (by rfl) ((own_below HOW.out hb31).alloc _) ⟨w30.heap.size, 0, none⟩ 4 4 (bytesV [chD rod, ulT part, sgT amt, chD d]) (by rfl) (by rfl) (World.news_of_block (cs := #[.int .u8 ((chD rod).toNat : Int), .int .u8 ((ulT part).toNat : Int), .int .u8 ((sgT amt).toNat : Int), .int .u8 ((chD d).toNat : Int)]) (t := 5) (fr := (0, 0)) (heap_alloc_new w30 _)) (bytesV_one _) (by omega) (by unfold maxLen; omega) (by omega) (by have := hb31.size; simp; omega) (w30.heap.size + 1) (by simp) ?_
               intro gg cc w12 hown12 hgrow hat hlt12
               have hgm : ∀ g', (Value.slice (some ⟨g2, 0, none⟩) (N + 1) cap2).ownBlock = some g' → g' ≠ wr.heap.size := HGM.out
               have hr12 := (hgrow.block wr.heap.size (by have := hb31.size; simp; omega) (fun e => hgm _ e.symm rfl)).trans ((alloc_old (by have := hb31.size; omega)).trans ((hb31.block _ ltm).trans HMK.out))
               obtain ⟨x0, x1, x2, _, _, _⟩ := cell3 hr12))
        all_goals
          have HO12 := Lib.hid hown12
          have HB12 : Hid (Below w.heap.size w w12) := Lib.hid (((HBW.out.trans (hb31.mono HBW.out.size)).alloc (by have := hb31.size; omega) _).grown hgrow (by have := hb31.size; simp; omega) (fun j hj => (HOW.out.lt j hj).1))
          clear hown12 hgrow hat hlt12 hr12 hgm
          go_wp2_with fail
          go_roundw
          case rel =>
            refine ⟨k + 1, gg, cc, N + 1 + 4, by omega, by go_num, rfl, Lib.hid ?_, by omega, ?_, HB12.out⟩
            · rw [HSN.out, HVT.out, List.length_append, List.length_append, ← HN.out]; rfl
            · have := HO12.out
              rw [HSN.out, HVT.out, bytesV_app]
              exact this
          case measure => simp [intOf]; omega
    · have hke : k = ps.length := by omega
      subst hke
      have hcv : ∀ (T : TypeId), Try.prog.underlying T = some .string → (convert 22 T (.slice (some ⟨g, 0, none⟩) N cap)).run Try.prog wr = .ok (.string ⟨(msT ps).toArray⟩) wr := by
        intro T hT
        rw [List.take_of_length_le (Nat.le_refl _)] at hown
        have hNe := HN.out
        rw [List.take_of_length_le (Nat.le_refl _)] at hNe
        have := run_convert_bytes_back (P := Try.prog) wr 22 T 5 ⟨g, 0, none⟩ cap (msT ps) Try.underlying22 Try.underlying5 hT (fun j hj => by
          have hc := hown.cells (g := g) rfl j (.int .u8 ((msT ps)[j].toNat : Int)) (by simp [bytesV, List.getElem?_eq_getElem hj])
          exact hc)
        rwa [← hNe] at this
      have hcv9 := hcv _ Try.underlying9
      clear hb hown hcv
      go_wp2_with fail
      go_ret2
      exact ⟨rfl, HB.out⟩
set_option maxRecDepth 100000 in
set_option maxHeartbeats 400000 in
theorem implText_no (v : Value) (ps : List Mv) (w : World) (h : RowsR 3 mvC w v ps) (ho : ¬ okMs ps) :
    Calls Try.prog 6 #[v] w fun e w' => e = .returned (.tuple #[.string ⟨#[]⟩, .bool false]) ∧ Below w.heap.size w w' := by
  have HA := Lib.hid (areMoves_any v ps w h false ⟨fun e => by simp at e, fun e => absurd e ho⟩)
  clear h ho
  go_enter Try.func6, Try.ntmps6
  go_wp2_with fail
  refine HA.out.mono ?_
  rintro e w2 ⟨rfl, hb2⟩
  have HB2 := Lib.hid hb2
  clear hb2
  go_wp2_with fail
  go_ret2
  exact ⟨rfl, HB2.out⟩
end Go.Proofs.Ytmkocinknhaniaa
