/- Parts laid as one: Qone, Copyn, Qplay. -/
import Derived.Test.YtjkjaadcdolbhaaKz
import Derived.Test.YtjkjaadcdolbhaaKa
import Derived.Laws.CopyOwn
import Derived.Test.YtjkjaadcdolbhaaKi
import Derived.Test.YtjkjaadcdolbhaaKn
import Derived.StillTailTactics
/-! Qone -/
namespace Go.Proofs.Ytjkjaadcdolbhaa
set_option linter.unusedVariables false
open Go.RowKit

set_option maxRecDepth 100000 in
set_option maxHeartbeats 1600000 in
theorem implIsMove_any (m : Mv) (w : World) (r : Bool) (hr : r = true ↔ okMv m) :
    Calls Try.prog 107 #[mvV m] w fun e w' => e = .returned (.bool r) ∧ Below w.heap.size w w' := by
  obtain ⟨rod, part, amt⟩ := m
  show Calls Try.prog 107 #[.agg #[.int .i64 rod, .int .i64 part, .int .i64 amt]] w fun e w' => e = .returned (.bool r) ∧ Below w.heap.size w w'
  have HR : Hid (r = true ↔ (0 ≤ rod ∧ rod ≤ 7) ∧ (0 ≤ part ∧ part ≤ 1) ∧ (-5 ≤ amt ∧ amt ≤ 5) ∧ amt ≠ 0) := Lib.hid hr
  clear hr
  have HB0 : Hid (Below w.heap.size w w) := Lib.hid (Below.refl _ _)
  by_cases h1 : 0 ≤ rod
  · by_cases h1' : rod ≤ 7
    · have h1x : ¬ 8 ≤ rod := by omega
      by_cases h2 : part = 0 ∨ part = 1
      · have HP := Lib.hid h2
        have h2x : ((part != 0) && (part != 1)) = false := by rcases h2 with rfl | rfl <;> rfl
        by_cases h4 : amt = 0
        · subst h4
          have HN : Hid (r = false) := Lib.hid (Bool.eq_false_iff.2 fun e => (HR.out.1 e).2.2.2 rfl)
          rcases h2 with rfl | rfl
          · clear h2x
            go_enter Try.func107, Try.ntmps107
            go_wp2_with fail
            go_ret
            exact ⟨ret_bool HN.out.symm, (Below.refl _ _).alloc (Nat.le_refl _) _⟩
          · clear h2x
            go_enter Try.func107, Try.ntmps107
            go_wp2_with fail
            go_ret
            exact ⟨ret_bool HN.out.symm, (Below.refl _ _).alloc (Nat.le_refl _) _⟩
        · have h4x : (amt != 0) = true := by simpa using h4
          have HN : Hid (r = decide (-5 ≤ amt ∧ amt ≤ 5)) := Lib.hid (by
            have h2' : 0 ≤ part ∧ part ≤ 1 := by omega
            by_cases h3 : -5 ≤ amt ∧ amt ≤ 5
            · rw [decide_eq_true h3]; exact HR.out.2 ⟨⟨h1, h1'⟩, h2', h3, h4⟩
            · rw [decide_eq_false h3]; exact Bool.eq_false_iff.2 fun e => h3 (HR.out.1 e).2.2.1)
          clear h4
          by_cases h3 : -5 ≤ amt
          · by_cases h3' : amt ≤ 5
            · have HN' : Hid (r = true) := Lib.hid (by rw [HN.out]; simp [h3, h3'])
              rcases h2 with rfl | rfl
              · clear h2x
                go_enter Try.func107, Try.ntmps107
                go_wp2_with fail
                go_ret
                exact ⟨ret_bool HN'.out.symm, (Below.refl _ _).alloc (Nat.le_refl _) _⟩
              · clear h2x
                go_enter Try.func107, Try.ntmps107
                go_wp2_with fail
                go_ret
                exact ⟨ret_bool HN'.out.symm, (Below.refl _ _).alloc (Nat.le_refl _) _⟩
            · have HN' : Hid (r = false) := Lib.hid (by rw [HN.out]; simp [h3'])
              rcases h2 with rfl | rfl
              · clear h2x
                go_enter Try.func107, Try.ntmps107
                go_wp2_with fail
                go_ret
                exact ⟨ret_bool HN'.out.symm, (Below.refl _ _).alloc (Nat.le_refl _) _⟩
              · clear h2x
                go_enter Try.func107, Try.ntmps107
                go_wp2_with fail
                go_ret
                exact ⟨ret_bool HN'.out.symm, (Below.refl _ _).alloc (Nat.le_refl _) _⟩
          · have HN' : Hid (r = false) := Lib.hid (by rw [HN.out]; simp [h3])
            rcases h2 with rfl | rfl
            · clear h2x
              go_enter Try.func107, Try.ntmps107
              go_wp2_with fail
              go_ret
              exact ⟨ret_bool HN'.out.symm, (Below.refl _ _).alloc (Nat.le_refl _) _⟩
            · clear h2x
              go_enter Try.func107, Try.ntmps107
              go_wp2_with fail
              go_ret
              exact ⟨ret_bool HN'.out.symm, (Below.refl _ _).alloc (Nat.le_refl _) _⟩
      · have HN : Hid (r = false) := Lib.hid (Bool.eq_false_iff.2 fun e => h2 (by have := (HR.out.1 e).2.1; omega))
        have h5 : (part != 0) = true := by have : ¬ part = 0 := fun e => h2 (.inl e); simpa using this
        have h6 : (part != 1) = true := by have : ¬ part = 1 := fun e => h2 (.inr e); simpa using this
        clear h2
        go_enter Try.func107, Try.ntmps107
        go_wp2_with fail
        go_ret
        exact ⟨ret_bool HN.out.symm, (Below.refl _ _).alloc (Nat.le_refl _) _⟩
    · have HN : Hid (r = false) := Lib.hid (Bool.eq_false_iff.2 fun e => h1' (HR.out.1 e).1.2)
      have h1x : 8 ≤ rod := by omega
      go_enter Try.func107, Try.ntmps107
      go_wp2_with fail
      go_ret
      exact ⟨ret_bool HN.out.symm, (Below.refl _ _).alloc (Nat.le_refl _) _⟩
  · have HN : Hid (r = false) := Lib.hid (Bool.eq_false_iff.2 fun e => h1 (HR.out.1 e).1.1)
    have h1x : rod < 0 := by omega
    go_enter Try.func107, Try.ntmps107
    go_wp2_with fail
    go_ret
    exact ⟨ret_bool HN.out.symm, (Below.refl _ _).alloc (Nat.le_refl _) _⟩

set_option maxRecDepth 100000 in
set_option maxHeartbeats 1600000 in
theorem areMoves_scan (v : Value) (ps : List Mv) (w : World) (h : RowsR 3 mvC w v ps) (hl : ps.length ≤ 60) (p : Nat) (hp : p ≤ ps.length) (hpre : ∀ i (h : i < ps.length), i < p → okMv ps[i]) (hx : ∀ h : p < ps.length, ¬ okMv ps[p]) (r : Bool) (hr1 : p < ps.length → r = false) (hr2 : p = ps.length → r = true) :
    Calls Try.prog 68 #[v] w fun e w' => e = .returned (.bool r) ∧ Below w.heap.size w w' := by
  obtain ⟨a, cp, rfl⟩ := h.form
  have R1 := Lib.hid h.at
  have HP := Lib.hid hpre
  have HX := Lib.hid hx
  have HR1 := Lib.hid hr1
  have HR2 := Lib.hid hr2
  clear h hpre hx hr1 hr2
  go_enter Try.func68, Try.ntmps68
  go_wp2_with fail
  go_loopw [10] (fun i wr => ∃ k : Nat, k ≤ p ∧ i = .int .i64 k ∧ Below w.heap.size w wr) (fun i _ => ps.length - (intOf i).toNat)
  case atStart => exact ⟨0, Nat.zero_le _, rfl, Below.refl _ _⟩
  case round =>
    obtain ⟨k, hk, rfl, hb⟩ := hrel
    have HB := Lib.hid hb
    by_cases hlt : k < ps.length
    · have z1 : (0 : Int) ≤ (k : Int) := by omega
      have z2 : (k : Int) < (ps.length : Int) := by omega
      obtain ⟨b1, o1, rfl, l1, k1⟩ := R1.out _ hb k hlt
      have p0 : wr.cell? ⟨b1, o1 + k * 3, none⟩ = some (.int .i64 ps[k].rod) := k1 0 (by omega)
      have p1 : wr.cell? ⟨b1, o1 + k * 3 + 1, none⟩ = some (.int .i64 ps[k].part) := k1 1 (by omega)
      have p2 : wr.cell? ⟨b1, o1 + k * 3 + 2, none⟩ = some (.int .i64 ps[k].amt) := k1 2 (by omega)
      have HB1 : Hid (Below w.heap.size w (wr.alloc (.cells #[.int .i64 ps[k].rod, .int .i64 ps[k].part, .int .i64 ps[k].amt] 75))) := Lib.hid (hb.alloc hb.size _)
      clear k1 hb
      by_cases hkp : k < p
      · have HG := Lib.hid (HP.out k hlt hkp)
        go_wp2_with fail
        refine (implIsMove_any ps[k] _ true ⟨fun _ => HG.out, fun _ => rfl⟩).mono ?_
        rintro e w2 ⟨rfl, hb2⟩
        have HB2 := Lib.hid (HB1.out.trans (hb2.mono HB1.out.size))
        clear hb2
        go_wp2_with fail
        go_roundw
        case rel => exact ⟨k + 1, by omega, by go_num, HB2.out⟩
        case measure => simp [intOf]; omega
      · have hke : k = p := by omega
        subst hke
        have HG := Lib.hid (HX.out hlt)
        go_wp2_with fail
        refine (implIsMove_any ps[k] _ false ⟨fun e => by simp at e, fun h => absurd h HG.out⟩).mono ?_
        rintro e w2 ⟨rfl, hb2⟩
        have HB2 := Lib.hid (HB1.out.trans (hb2.mono HB1.out.size))
        have HN := Lib.hid (HR1.out hlt)
        clear hb2
        go_wp2_with fail
        go_ret
        exact ⟨ret_bool HN.out.symm, HB2.out⟩
    · have HN := Lib.hid (HR2.out (by omega))
      clear hb
      go_wp2_with fail
      go_ret
      exact ⟨ret_bool HN.out.symm, HB.out⟩
set_option maxRecDepth 100000 in
set_option maxHeartbeats 400000 in
theorem areMoves_long (v : Value) (ps : List Mv) (w : World) (h : RowsR 3 mvC w v ps) (hl : ¬ ps.length ≤ 60) :
    Calls Try.prog 68 #[v] w fun e w' => e = .returned (.bool false) ∧ Below w.heap.size w w' := by
  obtain ⟨a, cp, rfl⟩ := h.form
  have hx : 60 < ps.length := by omega
  clear h hl
  go_enter Try.func68, Try.ntmps68
  go_wp2_with fail
  go_ret
  exact ⟨rfl, Below.refl _ _⟩
theorem areMoves_any (v : Value) (ps : List Mv) (w : World) (h : RowsR 3 mvC w v ps) (r : Bool) (hr : r = true ↔ okMs ps) :
    Calls Try.prog 68 #[v] w fun e w' => e = .returned (.bool r) ∧ Below w.heap.size w w' := by
  by_cases h60 : ps.length ≤ 60
  · obtain ⟨p, hp, hpre, hx⟩ := first_bad ps.length (fun i _ => okMv ps[i])
    exact areMoves_scan v ps w h h60 p hp hpre hx r (fun hlt => Bool.eq_false_iff.2 fun e => hx hlt ((hr.1 e).1 p hlt)) (fun he => hr.2 ⟨fun k hk => hpre k hk (by omega), h60⟩)
  · have : r = false := Bool.eq_false_iff.2 fun e => h60 (hr.1 e).2
    subst this
    exact areMoves_long v ps w h h60
end Go.Proofs.Ytjkjaadcdolbhaa

/-! Copyn -/
namespace Go.Proofs.Ytjkjaadcdolbhaa
set_option linter.unusedVariables false
open Go.RowKit

theorem run_copy_all {P : Program} (w : World) (base : Nat) (dT sT ty e : TypeId) (i : TypeInfo) (size : Nat) (hu : P.underlying dT = some (.slice e)) (hi : P.info? e = some i) (hsize : i.size = size)
    (g n cap : Nat) (xs : List Value) (hown : w.ownsRow base e size (.slice (some ⟨g, 0, none⟩) n cap) n xs) (oa : Option Addr) (sc : Nat) (cs : List Value) (hl : cs.length = n * size)
    (hsrc : (oa = none ∧ n = 0) ∨ ∃ ad, oa = some ad ∧ ∀ j v, cs[j]? = some v → w.cell? (ad.add j) = some v) (h1 : ∀ v ∈ cs, v.oneCell' = true) :
    ∃ w', (Builtin.copy_ #[dT, sT] ty #[.slice (some ⟨g, 0, none⟩) n cap, .slice oa n sc]).run P w = .ok (goInt n) w' ∧ w'.ownsRow base e size (.slice (some ⟨g, 0, none⟩) n cap) n cs ∧ Btw g (g + 1) w w' := by
  subst hsize
  have hmin : Nat.min n n = n := Nat.min_self n
  rcases hown.2 with ⟨h, _⟩ | ⟨g', cap', cur, h, hbg, hg, hnc, hcm, hcs, htake⟩
  · simp at h
  · simp only [Value.slice.injEq, Option.some.injEq, Addr.mk.injEq, and_true, true_and] at h
    obtain ⟨rfl, rfl⟩ := h
    have hfit : cs.length ≤ cur.size := by rw [hl, hcs]; exact Nat.mul_le_mul_right _ hnc
    have hst := run_storeCells_at P g 0 e cs 0 cur w hg (by omega) h1
    simp only [Nat.zero_add, List.take_zero, List.nil_append] at hst
    refine ⟨w.setRow g (cs ++ cur.toList.drop cs.length).toArray, ?_, ⟨hl, .inr ⟨g, cap, _, rfl, hbg, setRow_heap w g cur _ e _ hg, hnc, hcm, ?_, ?_⟩⟩, ⟨⟨rfl, rfl, rfl, by simp [World.setRow], fun k hk => setRow_other w g k _ (by omega)⟩, fun k h3 h4 => setRow_other w g k _ (by omega)⟩⟩
    · rcases hsrc with ⟨rfl, rfl⟩ | ⟨ad, rfl, hsrc⟩
      · have e0 : cs = [] := List.eq_nil_of_length_eq_zero (by rw [hl]; simp)
        subst e0
        simp at hst
        simp [Builtin.copy_, run_underlying hu, Builtin.lenOf, Builtin.firstCells, sizeOf, typeInfo, hi, hst]
      · have hld := run_loadCells_list (P := P) w ad cs hsrc
        rw [hl] at hld
        simp [Builtin.copy_, run_underlying hu, Builtin.lenOf, Builtin.firstCells, sizeOf, typeInfo, hi, hmin, hld, hst]
    · simp only [List.size_toArray, List.length_append, List.length_drop, Array.length_toList]
      omega
    · rw [← hl]; exact List.take_left
theorem wpList_copy_all {P : Program} {w : World} {ops : Array Oper} {rest : List Oper} {o : Oper} {a : Act} {Q : Exit → Act → World → Prop} (hgd : o.guard = none) (d s : Operand) (dT sT : TypeId)
    (ho : o.op = .call { callee := .builtin .copy, args := #[d, s], argTypes := #[dT, sT] }) (base : Nat) (e : TypeId) (i : TypeInfo) (size : Nat) (hu : P.underlying dT = some (.slice e)) (hi : P.info? e = some i) (hsize : i.size = size)
    (g n cap : Nat) (hd : a.eval d = .slice (some ⟨g, 0, none⟩) n cap) (oa : Option Addr) (sc : Nat) (hs : a.eval s = .slice oa n sc) (xs : List Value) (hown : w.ownsRow base e size (.slice (some ⟨g, 0, none⟩) n cap) n xs)
    (cs : List Value) (hl : cs.length = n * size) (hsrc : (oa = none ∧ n = 0) ∨ ∃ ad, oa = some ad ∧ ∀ j v, cs[j]? = some v → w.cell? (ad.add j) = some v) (h1 : ∀ v ∈ cs, v.oneCell' = true)
    (h : ∀ w', Hid (w'.ownsRow base e size (.slice (some ⟨g, 0, none⟩) n cap) n cs) → Btw g (g + 1) w w' → wpList P ops Q rest (a.put o.dst (goInt n)) w') : wpList P ops Q (o :: rest) a w := by
  refine wpList_plain hgd fun K hK => ?_
  obtain ⟨w', hrun, r1, r2⟩ := run_copy_all (P := P) w base dT sT o.type e i size hu hi hsize g n cap xs hown oa sc cs hl hsrc h1
  unfold Oper.wp
  simp [execOp, ho, resolve, invoke, builtin, hd, hs, hrun, Result.andThen]
  exact hK _ _ (h w' (Lib.hid r1) r2)
end Go.Proofs.Ytjkjaadcdolbhaa

/-! Qplay -/
namespace Go.Proofs.Ytjkjaadcdolbhaa
set_option linter.unusedVariables false
open Go.RowKit

def pt2 (r : Int × Int) (p : Nat) : Int := if p = 0 then r.1 else r.2
theorem flat_pt (rs : List (Int × Int)) (q p : Nat) (hq : q < rs.length) (hp : p < 2) : (flat rs)[q * 2 + p]? = some (.int .i64 (pt2 rs[q] p)) := by
  obtain ⟨h1, h2⟩ := flat_at rs q hq
  have : p = 0 ∨ p = 1 := by omega
  rcases this with rfl | rfl
  · exact h1
  · exact h2
theorem movF_flat (rs : List (Int × Int)) (q p : Nat) (amt : Int) (hq : q < rs.length) (hp : p < 2) : (flat rs).set (q * 2 + p) (.int .i64 (pt2 rs[q] p + amt)) = flat (movF rs ⟨(q : Int), (p : Int), amt⟩) := by
  have hm : movF rs ⟨(q : Int), (p : Int), amt⟩ = rs.set q (movR rs[q] ⟨(q : Int), (p : Int), amt⟩) := by
    unfold movF
    show rs.set (q : Int).toNat (movR (rs.getD (q : Int).toNat (0, 0)) _) = _
    rw [Int.toNat_natCast, List.getD_eq_getElem?_getD, List.getElem?_eq_getElem hq]; rfl
  rw [hm]
  have hp2 : p = 0 ∨ p = 1 := by omega
  refine flat_of _ _ (by rw [List.length_set, List.length_set, flat_len]) fun j hj => ?_
  rw [List.length_set] at hj
  obtain ⟨f1, f2⟩ := flat_at rs j hj
  have hfl := flat_len rs
  by_cases e : j = q
  · subst e
    rw [List.getElem_set_self]
    rcases hp2 with rfl | rfl
    · exact ⟨by rw [Nat.add_zero, List.getElem?_set_self (by omega)]; rfl, by rw [Nat.add_zero, List.getElem?_set_ne (by omega)]; exact f2⟩
    · exact ⟨by rw [List.getElem?_set_ne (by omega)]; exact f1, by rw [List.getElem?_set_self (by omega)]; rfl⟩
  · rw [List.getElem_set_ne (fun h => e h.symm)]
    exact ⟨by rw [List.getElem?_set_ne (by omega)]; exact f1, by rw [List.getElem?_set_ne (by omega)]; exact f2⟩

set_option maxRecDepth 100000 in
set_option maxHeartbeats 6400000 in
theorem implPlay_in (up lo : Int) (s1 : Value) (rs : List (Int × Int)) (s2 : Value) (ms : List Mv) (w : World) (h1 : RodsR w s1 rs) (h2 : RowsR 3 mvC w s2 ms) (hg : goodF up lo rs) (hm : okMs ms) (fu fl : Int) (qs : List (Int × Int)) (t : Bool)
    (hk : (playO up lo rs ms = some qs ∧ fu = up ∧ fl = lo ∧ t = true) ∨ (playO up lo rs ms = none ∧ fu = 0 ∧ fl = 0 ∧ qs = [] ∧ t = false)) :
    Calls Try.prog 20 #[.agg #[.int .i64 up, .int .i64 lo, s1], s2] w fun e w' => (∃ sq, e = .returned (.tuple #[.agg #[.int .i64 fu, .int .i64 fl, sq], .bool t]) ∧ w'.ownsRow w.heap.size 83 2 sq qs.length (flat qs)) ∧ Below w.heap.size w w' := by
  obtain ⟨i0, hi, hz0, hz1, hz2⟩ := info_parts Try.infoRod
  obtain ⟨a1, c1, rfl⟩ : ∃ a c, s1 = .slice a rs.length c := by obtain ⟨a, c, e, _⟩ := h1; exact ⟨a, c, e⟩
  have h60 := hm.2
  have hlen : 0 < rs.length ∧ rs.length ≤ 8 := by have := hg.2.2.2; omega
  obtain ⟨b1, f1, rfl, hb1, hnews⟩ := rods_news h1 hlen.1
  have HNEWS := Lib.hid hnews
  have HH := Lib.hid h2
  obtain ⟨a2, c2, rfl⟩ := h2.form
  have R1 := Lib.hid h2.at
  have HG := Lib.hid hg
  have HM := Lib.hid hm
  have HK := Lib.hid hk
  have HB0 : Hid (Below w.heap.size w w) := Lib.hid (Below.refl _ _)
  have HRf0 := Lib.hid (h1)
  have HRg0 := Lib.hid (h2)
  clear h1 h2 hg hm hk hnews
  go_enter Try.func20, Try.ntmps20
  go_wp2_with fail
  have hb : Below w.heap.size w (w.alloc (.cells #[.int .i64 up, .int .i64 lo, .slice (some ⟨b1, f1, none⟩) rs.length c1] 26)) := (Below.refl _ _).alloc (Nat.le_refl _) _
  have hk : (w.alloc (.cells #[.int .i64 up, .int .i64 lo, .slice (some ⟨b1, f1, none⟩) rs.length c1] 26)).heap[w.heap.size]? = some (.cells #[.int .i64 up, .int .i64 lo, .slice (some ⟨b1, f1, none⟩) rs.length c1] 26 (0, 0)) := alloc_at rfl
  have hz : (w.alloc (.cells #[.int .i64 up, .int .i64 lo, .slice (some ⟨b1, f1, none⟩) rs.length c1] 26)).heap.size = w.heap.size + 1 := by simp
  generalize w.alloc (.cells #[.int .i64 up, .int .i64 lo, .slice (some ⟨b1, f1, none⟩) rs.length c1] 26) = w1 at hb hk hz ⊢
  have HB1 : Hid (Below w.heap.size w w1) := Lib.hid (HB0.out.trans (hb.mono HB0.out.size))
  have HZ1 : Hid (w.heap.size ≤ w1.heap.size) := Lib.hid hb.size
  have HRf1 := Lib.hid (HRf0.out.below HB1.out (Nat.le_refl _))
  have HRg1 := Lib.hid (HRg0.out.below HB1.out (Nat.le_refl _))
  have HKf1 := Lib.hid hk
  replace HZ1 : Hid (w.heap.size < w1.heap.size) := Lib.hid (by omega)
  have HE1 := Lib.hid hz
  clear hb hk hz
  have hb : Below w1.heap.size w1 (w1.alloc (.cells #[.int .i64 0, .int .i64 0, .slice none 0 0] 26)) := (Below.refl _ _).alloc (Nat.le_refl _) _
  have hk : (w1.alloc (.cells #[.int .i64 0, .int .i64 0, .slice none 0 0] 26)).heap[w.heap.size + 1]? = some (.cells #[.int .i64 0, .int .i64 0, .slice none 0 0] 26 (0, 0)) := alloc_at (by have := HE1.out; omega)
  have hz : (w1.alloc (.cells #[.int .i64 0, .int .i64 0, .slice none 0 0] 26)).heap.size = w1.heap.size + 1 := by simp
  generalize w1.alloc (.cells #[.int .i64 0, .int .i64 0, .slice none 0 0] 26) = w2 at hb hk hz ⊢
  have HB2 : Hid (Below w.heap.size w w2) := Lib.hid (HB1.out.trans (hb.mono HB1.out.size))
  have HZ2 : Hid (w1.heap.size ≤ w2.heap.size) := Lib.hid hb.size
  have HRf2 := Lib.hid (HRf0.out.below HB2.out (Nat.le_refl _))
  have HRg2 := Lib.hid (HRg0.out.below HB2.out (Nat.le_refl _))
  have HKf2 := Lib.hid ((hb.block _ (lt_of_block HKf1.out)).trans HKf1.out)
  have HKz2 := Lib.hid hk
  replace HZ2 : Hid (w1.heap.size < w2.heap.size) := Lib.hid (by omega)
  have HE2 := Lib.hid hz
  clear hb hk hz
  have ltf := lt_of_block HKf2.out
  obtain ⟨cf0, cf1, cf2, ff0, ff1, ff2⟩ := cell3 HKf2.out
  have ltz := lt_of_block HKz2.out
  obtain ⟨cz0, cz1, cz2, fz0, fz1, fz2⟩ := cell3 HKz2.out
  refine (implIsFrame_yes up lo _ rs _ HRf2.out HG.out).mono ?_
  rintro e w3 ⟨rfl, hb⟩
  have HB3 : Hid (Below w.heap.size w w3) := Lib.hid (HB2.out.trans (hb.mono HB2.out.size))
  have HZ3 : Hid (w2.heap.size ≤ w3.heap.size) := Lib.hid hb.size
  have HRf3 := Lib.hid (HRf0.out.below HB3.out (Nat.le_refl _))
  have HRg3 := Lib.hid (HRg0.out.below HB3.out (Nat.le_refl _))
  have HKf3 := Lib.hid ((hb.block _ (lt_of_block HKf2.out)).trans HKf2.out)
  have HKz3 := Lib.hid ((hb.block _ (lt_of_block HKz2.out)).trans HKz2.out)
  clear hb
  clear cf0 cf1 cf2 ff0 ff1 ff2 ltf cz0 cz1 cz2 fz0 fz1 fz2 ltz
  have ltf := lt_of_block HKf3.out
  obtain ⟨cf0, cf1, cf2, ff0, ff1, ff2⟩ := cell3 HKf3.out
  have ltz := lt_of_block HKz3.out
  obtain ⟨cz0, cz1, cz2, fz0, fz1, fz2⟩ := cell3 HKz3.out
  go_wp2_with fail
  refine (areMoves_any _ ms _ HRg3.out true ⟨fun _ => HM.out, fun _ => rfl⟩).mono ?_
  rintro e w4 ⟨rfl, hb⟩
  have HB4 : Hid (Below w.heap.size w w4) := Lib.hid (HB3.out.trans (hb.mono HB3.out.size))
  have HZ4 : Hid (w3.heap.size ≤ w4.heap.size) := Lib.hid hb.size
  have HRf4 := Lib.hid (HRf0.out.below HB4.out (Nat.le_refl _))
  have HRg4 := Lib.hid (HRg0.out.below HB4.out (Nat.le_refl _))
  have HKf4 := Lib.hid ((hb.block _ (lt_of_block HKf3.out)).trans HKf3.out)
  have HKz4 := Lib.hid ((hb.block _ (lt_of_block HKz3.out)).trans HKz3.out)
  clear hb
  clear cf0 cf1 cf2 ff0 ff1 ff2 ltf cz0 cz1 cz2 fz0 fz1 fz2 ltz
  have ltf := lt_of_block HKf4.out
  obtain ⟨cf0, cf1, cf2, ff0, ff1, ff2⟩ := cell3 HKf4.out
  have ltz := lt_of_block HKz4.out
  obtain ⟨cz0, cz1, cz2, fz0, fz1, fz2⟩ := cell3 HKz4.out
  go_wp2_with (at_make; refine wpList_make_full _ rfl _ _ 24 rfl w4.heap.size 83 i0 (.agg #[.int .i64 0, .int .i64 0]) 2 Try.underlying24 hi hz0 hz1 _ _ _ _ rs.length rfl rfl rfl rfl ?b2 ?b3 (Nat.le_refl _) ?_)
  case b2 => rw [hz2]; omega
  case b3 => unfold maxLen; omega
  intro w5 hownm hgrowm
  have hb : Below w4.heap.size w4 w5 := (Below.refl _ _).grown hgrowm (Nat.le_refl _) (fun k h => by cases h)
  have hgsz : w4.heap.size < w5.heap.size := (hownm.lt _ rfl).2
  clear hgrowm
  have HB5 : Hid (Below w.heap.size w w5) := Lib.hid (HB4.out.trans (hb.mono HB4.out.size))
  have HZ5 : Hid (w4.heap.size ≤ w5.heap.size) := Lib.hid hb.size
  have HRf5 := Lib.hid (HRf0.out.below HB5.out (Nat.le_refl _))
  have HRg5 := Lib.hid (HRg0.out.below HB5.out (Nat.le_refl _))
  have HKf5 := Lib.hid ((hb.block _ (lt_of_block HKf4.out)).trans HKf4.out)
  have HKz5 := Lib.hid ((hb.block _ (lt_of_block HKz4.out)).trans HKz4.out)
  clear hb
  have HOv5 := Lib.hid (Ow.mk' hownm)
  clear hownm
  clear cf0 cf1 cf2 ff0 ff1 ff2 ltf cz0 cz1 cz2 fz0 fz1 fz2 ltz
  have ltf := lt_of_block HKf5.out
  obtain ⟨cf0, cf1, cf2, ff0, ff1, ff2⟩ := cell3 HKf5.out
  have ltz := lt_of_block HKz5.out
  obtain ⟨cz0, cz1, cz2, fz0, fz1, fz2⟩ := cell3 HKz5.out
  have hown5 := HOv5.out.1
  have hsrc5 := HNEWS.out _ HB5.out
  go_wp2_with (with_reducible refine wpList_copy_all rfl _ _ 24 24 rfl w4.heap.size 83 i0 2 Try.underlying24 hi hz1 w4.heap.size rs.length rs.length rfl (some ⟨b1, f1, none⟩) c1 rfl _ hown5 (flat rs) (flat_len rs) ?s1 flat_one ?_)
  case s1 => exact .inr ⟨_, rfl, hsrc5⟩
  clear hown5 hsrc5
  intro w6 hown6 hm
  have HZ6 : Hid (w5.heap.size ≤ w6.heap.size) := Lib.hid hm.size
  have HB6 : Hid (Below w.heap.size w w6) := Lib.hid (HB5.out.trans (hm.below.mono (by have := HZ1.out; have := HZ2.out; have := HZ3.out; have := HZ4.out; have := HZ5.out; have := HB0.out.size; omega)))
  have HRf6 := Lib.hid (HRf0.out.below HB6.out (Nat.le_refl _))
  have HRg6 := Lib.hid (HRg0.out.below HB6.out (Nat.le_refl _))
  have HKf6 := Lib.hid ((hm.block _ (by have := lt_of_block HKf5.out; have := HZ1.out; have := HZ2.out; have := HZ3.out; have := HZ4.out; have := HZ5.out; omega)).trans HKf5.out)
  have HKz6 := Lib.hid ((hm.block _ (by have := lt_of_block HKz5.out; have := HZ1.out; have := HZ2.out; have := HZ3.out; have := HZ4.out; have := HZ5.out; omega)).trans HKz5.out)
  clear hm
  have HOv6 := Lib.hid (Ow.mk' hown6.out)
  clear hown6
  clear cf0 cf1 cf2 ff0 ff1 ff2 ltf cz0 cz1 cz2 fz0 fz1 fz2 ltz
  have ltf := lt_of_block HKf6.out
  obtain ⟨cf0, cf1, cf2, ff0, ff1, ff2⟩ := cell3 HKf6.out
  have ltz := lt_of_block HKz6.out
  obtain ⟨cz0, cz1, cz2, fz0, fz1, fz2⟩ := cell3 HKz6.out
  go_wp2_with fail
  have hfz : w.heap.size < w6.heap.size := ltf
  have hm : Btw w.heap.size (w.heap.size + 1) w6 (w6.setCell ⟨w.heap.size, 2, none⟩ (.slice (some ⟨w4.heap.size, 0, none⟩) rs.length rs.length)) := (Btw.refl w.heap.size (w.heap.size + 1) w6).setCell (p := ⟨w.heap.size, 2, none⟩) (Nat.le_refl _) (Nat.lt_succ_self _) _
  have hkf : (w6.setCell ⟨w.heap.size, 2, none⟩ (.slice (some ⟨w4.heap.size, 0, none⟩) rs.length rs.length)).heap[w.heap.size]? = some (.cells #[.int .i64 up, .int .i64 lo, .slice (some ⟨w4.heap.size, 0, none⟩) rs.length rs.length] 26 (0, 0)) := heap_setCell_same _ _ 2 _ _ _ HKf6.out
  have hlo4 : w.heap.size + 1 < w4.heap.size := by have := HZ1.out; have := HZ2.out; have := HZ3.out; have := HZ4.out; have := HZ5.out; have := HZ6.out;  have := lt_of_block HKz4.out; omega
  generalize w6.setCell ⟨w.heap.size, 2, none⟩ (.slice (some ⟨w4.heap.size, 0, none⟩) rs.length rs.length) = w7 at hm hkf ⊢
  have HZ7 : Hid (w6.heap.size ≤ w7.heap.size) := Lib.hid hm.size
  have HB7 : Hid (Below w.heap.size w w7) := Lib.hid (HB6.out.trans (hm.below.mono (by have := HZ1.out; have := HZ2.out; have := HZ3.out; have := HZ4.out; have := HZ5.out; have := HZ6.out; have := HB0.out.size; omega)))
  have HRg7 := Lib.hid (HRg0.out.below HB7.out (Nat.le_refl _))
  have HKz7 := Lib.hid ((hm.block _ (by have := lt_of_block HKz6.out; have := HZ1.out; have := HZ2.out; have := HZ3.out; have := HZ4.out; have := HZ5.out; have := HZ6.out; omega)).trans HKz6.out)
  have HOv7 := Lib.hid (HOv6.out.btw hm (by have := HZ1.out; have := HZ2.out; have := HZ3.out; have := HZ4.out; have := HZ5.out; have := HZ6.out; omega))
  clear hm
  have HKf7 := Lib.hid (hkf)
  clear hkf
  go_loopw [30] (fun i wr => ∃ (k : Nat) (rk : List (Int × Int)), k ≤ ms.length ∧ i = .int .i64 k ∧ Hid (rk.length = rs.length) ∧ Hid (playO up lo rs (ms.take k) = some rk) ∧ Hid (goodF up lo rk) ∧ wr.heap[w.heap.size]? = some (.cells #[.int .i64 up, .int .i64 lo, .slice (some ⟨w4.heap.size, 0, none⟩) rs.length rs.length] 26 (0, 0)) ∧ wr.heap[w.heap.size + 1]? = some (.cells #[.int .i64 0, .int .i64 0, .slice none 0 0] 26 (0, 0)) ∧ Ow w4.heap.size wr.heap.size wr 83 2 (.slice (some ⟨w4.heap.size, 0, none⟩) rs.length rs.length) rs.length (flat rk) ∧ Below w.heap.size w wr) (fun i _ => ms.length - (intOf i).toNat)
  case atStart => exact ⟨0, rs, Nat.zero_le _, rfl, Lib.hid rfl, Lib.hid rfl, Lib.hid HG.out, HKf7.out, HKz7.out, Ow.mk' HOv7.out.1, HB7.out⟩
  case round =>
    obtain ⟨k, rk, hk, rfl, HLR, HP, HGK, hkf, hkz, how, hb⟩ := hrel
    by_cases hlt : k < ms.length
    · have z1 : (0 : Int) ≤ (k : Int) := by omega
      have z2 : (k : Int) < (ms.length : Int) := by omega
      obtain ⟨b2, o2, rfl, l1, k1⟩ := R1.out _ hb k hlt
      have p0 : wr.cell? ⟨b2, o2 + k * 3, none⟩ = some (.int .i64 ms[k].rod) := k1 0 (by omega)
      have p1 : wr.cell? ⟨b2, o2 + k * 3 + 1, none⟩ = some (.int .i64 ms[k].part) := k1 1 (by omega)
      have p2 : wr.cell? ⟨b2, o2 + k * 3 + 2, none⟩ = some (.int .i64 ms[k].amt) := k1 2 (by omega)
      have hok := HM.out.1 k hlt
      obtain ⟨⟨r0, r1⟩, ⟨t0, t1⟩, ⟨m0, m1⟩, mne⟩ := hok
      have HSN := Lib.hid (playO_snoc up lo rs ms k hlt)
      have HEM : Hid (ms[k] = ⟨ms[k].rod, ms[k].part, ms[k].amt⟩) := Lib.hid rfl
      generalize ms[k] = mk at p0 p1 p2 HSN HEM r0 r1 t0 t1 m0 m1 mne
      obtain ⟨rod, part, x⟩ := mk
      obtain ⟨q, rfl⟩ : ∃ q : Nat, rod = (q : Int) := ⟨rod.toNat, by simp at r0; omega⟩
      obtain ⟨p, rfl⟩ : ∃ p : Nat, part = (p : Int) := ⟨part.toNat, by simp at t0; omega⟩
      dsimp only at p0 p1 p2 r0 r1 t0 t1 m0 m1 mne
      have hp2 : p < 2 := by omega
      have HBR := Lib.hid hb
      have hlwr : w4.heap.size < wr.heap.size := (how.1.lt _ rfl).2
      have HKF := Lib.hid hkf
      have HKZ := Lib.hid hkz
      clear k1 HEM mne
      have HB20 : Hid (Below w.heap.size w wr) := Lib.hid hb
      have HRf20 := Lib.hid (HRf0.out.below HB20.out (Nat.le_refl _))
      have HRg20 := Lib.hid (HRg0.out.below HB20.out (Nat.le_refl _))
      have HKf20 := Lib.hid (hkf)
      have HKz20 := Lib.hid (hkz)
      have HOv20 := Lib.hid (how)
      clear hb hkf hkz how
      by_cases hqr : q < rs.length
      · have hqk : q < rk.length := by rw [HLR.out]; exact hqr
        have x1 : (q : Int) < (rs.length : Int) := by omega
        have x2 : ¬ (rs.length : Int) ≤ (q : Int) := by omega
        have x0 : (0 : Int) ≤ (q : Int) := by omega
        have x3 : (0 : Int) ≤ (p : Int) := by omega
        have x4 : (p : Int) < 2 := by omega
        obtain ⟨y, hy⟩ : ∃ y, pt2 rk[q] p = y := ⟨_, rfl⟩
        have hyb : 0 ≤ y ∧ y ≤ 5 := by
          have h1 := HGK.out.1 q hqk; have h2 := HGK.out.2.1; have h3 := HGK.out.2.2.1; unfold rodOk at h1; rw [← hy]; unfold pt2; split <;> omega
        obtain ⟨y0, y1⟩ := hyb
        have hws : IntKind.i64.wrap (y + x) = y + x := by rw [IntKind.wrap_i64]; omega
        have HFL := Lib.hid (movF_flat rk q p x hqk hp2)
        have HPT := Lib.hid (flat_pt rk q p hqk hp2)
        rw [hy] at HFL HPT
        clear hy
        go_wp2_with fail
        have hb : Below wr.heap.size wr (wr.alloc (.cells #[.int .i64 q, .int .i64 p, .int .i64 x] 75)) := (Below.refl _ _).alloc (Nat.le_refl _) _
        have hk : (wr.alloc (.cells #[.int .i64 q, .int .i64 p, .int .i64 x] 75)).heap[wr.heap.size]? = some (.cells #[.int .i64 q, .int .i64 p, .int .i64 x] 75 (0, 0)) := alloc_at rfl
        have hz : (wr.alloc (.cells #[.int .i64 q, .int .i64 p, .int .i64 x] 75)).heap.size = wr.heap.size + 1 := by simp
        generalize wr.alloc (.cells #[.int .i64 q, .int .i64 p, .int .i64 x] 75) = w21 at hb hk hz ⊢
        have HB21 : Hid (Below w.heap.size w w21) := Lib.hid (HB20.out.trans (hb.mono HB20.out.size))
        have HZ21 : Hid (wr.heap.size ≤ w21.heap.size) := Lib.hid hb.size
        have HRf21 := Lib.hid (HRf0.out.below HB21.out (Nat.le_refl _))
        have HRg21 := Lib.hid (HRg0.out.below HB21.out (Nat.le_refl _))
        have HKf21 := Lib.hid ((hb.block _ (lt_of_block HKf20.out)).trans HKf20.out)
        have HKz21 := Lib.hid ((hb.block _ (lt_of_block HKz20.out)).trans HKz20.out)
        have HOv21 := Lib.hid (HOv20.out.next hb)
        have HKm21 := Lib.hid hk
        replace HZ21 : Hid (wr.heap.size < w21.heap.size) := Lib.hid (by omega)
        have HE21 := Lib.hid hz
        clear hb hk hz
        have hd : w21.cell? ⟨w4.heap.size, q * 2 + p, none⟩ = some (.int .i64 y) := (HOv21.out.1.cellAt (q * 2 + p) (by omega)).trans HPT.out
        have ltf := lt_of_block HKf21.out
        obtain ⟨cf0, cf1, cf2, ff0, ff1, ff2⟩ := cell3 HKf21.out
        have ltz := lt_of_block HKz21.out
        obtain ⟨cz0, cz1, cz2, fz0, fz1, fz2⟩ := cell3 HKz21.out
        have ltm := lt_of_block HKm21.out
        obtain ⟨cm0, cm1, cm2, fm0, fm1, fm2⟩ := cell3 HKm21.out
        go_still_tail 13, (by kernel_rfl)
        change wpList _ _ _ _ _ w21.drew
        have hb : Below w21.heap.size w21 w21.drew := (Below.refl _ _).drew
        generalize w21.drew = w22 at hb ⊢
        clear hd
        have HB22 : Hid (Below w.heap.size w w22) := Lib.hid (HB21.out.trans (hb.mono HB21.out.size))
        have HZ22 : Hid (w21.heap.size ≤ w22.heap.size) := Lib.hid hb.size
        have HRf22 := Lib.hid (HRf0.out.below HB22.out (Nat.le_refl _))
        have HRg22 := Lib.hid (HRg0.out.below HB22.out (Nat.le_refl _))
        have HKf22 := Lib.hid ((hb.block _ (lt_of_block HKf21.out)).trans HKf21.out)
        have HKz22 := Lib.hid ((hb.block _ (lt_of_block HKz21.out)).trans HKz21.out)
        have HOv22 := Lib.hid (HOv21.out.next hb)
        have HKm22 := Lib.hid ((hb.block _ (lt_of_block HKm21.out)).trans HKm21.out)
        clear hb
        have hd : w22.cell? ⟨w4.heap.size, q * 2 + p, none⟩ = some (.int .i64 y) := (HOv22.out.1.cellAt (q * 2 + p) (by omega)).trans HPT.out
        have hfr := HOv22.out.1.frozenAt (q * 2 + p)
        have hv := HOv22.out.stored (q * 2 + p) (.int .i64 (y + x))
        have hm : Btw w4.heap.size (w4.heap.size + 1) w22 (w22.setCell ⟨w4.heap.size, q * 2 + p, none⟩ (.int .i64 (y + x))) := (Btw.refl w4.heap.size (w4.heap.size + 1) w22).setCell (p := ⟨w4.heap.size, q * 2 + p, none⟩) (Nat.le_refl _) (Nat.lt_succ_self _) _
        clear cf0 cf1 cf2 ff0 ff1 ff2 ltf cz0 cz1 cz2 fz0 fz1 fz2 ltz cm0 cm1 cm2 fm0 fm1 fm2 ltm
        have ltf := lt_of_block HKf22.out
        obtain ⟨cf0, cf1, cf2, ff0, ff1, ff2⟩ := cell3 HKf22.out
        have ltz := lt_of_block HKz22.out
        obtain ⟨cz0, cz1, cz2, fz0, fz1, fz2⟩ := cell3 HKz22.out
        have ltm := lt_of_block HKm22.out
        obtain ⟨cm0, cm1, cm2, fm0, fm1, fm2⟩ := cell3 HKm22.out
        go_wp2_with fail
        clear hd hfr
        generalize w22.setCell ⟨w4.heap.size, q * 2 + p, none⟩ (.int .i64 (y + x)) = w23 at hm hv ⊢
        have HZ23 : Hid (w22.heap.size ≤ w23.heap.size) := Lib.hid hm.size
        have HB23 : Hid (Below w.heap.size w w23) := Lib.hid (HB22.out.trans (hm.below.mono (by have := HZ21.out; have := HZ22.out; have := HB20.out.size; omega)))
        have HRf23 := Lib.hid (HRf0.out.below HB23.out (Nat.le_refl _))
        have HRg23 := Lib.hid (HRg0.out.below HB23.out (Nat.le_refl _))
        have HKf23 := Lib.hid ((hm.block _ (by have := lt_of_block HKf22.out; have := HZ21.out; have := HZ22.out; omega)).trans HKf22.out)
        have HKz23 := Lib.hid ((hm.block _ (by have := lt_of_block HKz22.out; have := HZ21.out; have := HZ22.out; omega)).trans HKz22.out)
        have HKm23 := Lib.hid ((hm.block _ (by have := lt_of_block HKm22.out; have := HZ21.out; have := HZ22.out; omega)).trans HKm22.out)
        clear hm
        have HOv23 := Lib.hid (hv)
        clear hv
        have hlm : (movF rk ⟨(q : Int), (p : Int), x⟩).length = rs.length := by rw [movF_len]; exact HLR.out
        have HLM := Lib.hid hlm
        have HO := Lib.hid (show w23.ownsRow w4.heap.size 83 2 (.slice (some ⟨w4.heap.size, 0, none⟩) rs.length rs.length) rs.length (flat (movF rk ⟨(q : Int), (p : Int), x⟩)) from HFL.out ▸ HOv23.out.1)
        have HR := Lib.hid (RodsR.of_own (own_relen HLM.out HO.out))
        clear hlm
        by_cases hgd : goodF up lo (movF rk ⟨(q : Int), (p : Int), x⟩)
        · have HGD := Lib.hid hgd
          have HNX : Hid (playO up lo rs (ms.take (k + 1)) = some (movF rk ⟨(q : Int), (p : Int), x⟩)) := Lib.hid (by
            rw [HSN.out, HP.out]
            show stepO up lo rk _ = _
            unfold stepO
            rw [if_pos ⟨by show (q : Int) < (rk.length : Int); omega, hgd⟩])
          clear hgd
          refine (implIsFrame_yes up lo _ _ _ HR.out HGD.out).mono ?_
          rintro e w24 ⟨rfl, hb⟩
          have HO' := Lib.hid (own_below HO.out hb)
          have HB24 : Hid (Below w.heap.size w w24) := Lib.hid (HB23.out.trans (hb.mono HB23.out.size))
          have HZ24 : Hid (w23.heap.size ≤ w24.heap.size) := Lib.hid hb.size
          have HRf24 := Lib.hid (HRf0.out.below HB24.out (Nat.le_refl _))
          have HRg24 := Lib.hid (HRg0.out.below HB24.out (Nat.le_refl _))
          have HKf24 := Lib.hid ((hb.block _ (lt_of_block HKf23.out)).trans HKf23.out)
          have HKz24 := Lib.hid ((hb.block _ (lt_of_block HKz23.out)).trans HKz23.out)
          have HKm24 := Lib.hid ((hb.block _ (lt_of_block HKm23.out)).trans HKm23.out)
          clear hb
          clear cf0 cf1 cf2 ff0 ff1 ff2 ltf cz0 cz1 cz2 fz0 fz1 fz2 ltz cm0 cm1 cm2 fm0 fm1 fm2 ltm
          have ltf := lt_of_block HKf24.out
          obtain ⟨cf0, cf1, cf2, ff0, ff1, ff2⟩ := cell3 HKf24.out
          have ltz := lt_of_block HKz24.out
          obtain ⟨cz0, cz1, cz2, fz0, fz1, fz2⟩ := cell3 HKz24.out
          have ltm := lt_of_block HKm24.out
          obtain ⟨cm0, cm1, cm2, fm0, fm1, fm2⟩ := cell3 HKm24.out
          go_wp2_with fail
          go_roundw
          case rel => exact ⟨k + 1, movF rk ⟨(q : Int), (p : Int), x⟩, by omega, by go_num, HLM, HNX, HGD, HKf24.out, HKz24.out, Ow.mk' HO'.out, HB24.out⟩
          case measure => simp [intOf]; omega
        · have HGD := Lib.hid hgd
          have HNX : Hid (playO up lo rs ms = none) := Lib.hid (playO_none up lo rs ms (k + 1) (by
            rw [HSN.out, HP.out]
            show stepO up lo rk _ = _
            unfold stepO
            rw [if_neg fun h => hgd h.2]))
          have HE : Hid (fu = 0 ∧ fl = 0 ∧ qs = [] ∧ t = false) := Lib.hid (by rcases HK.out with ⟨h, _⟩ | ⟨_, h⟩; rw [HNX.out] at h; simp at h; exact h)
          obtain ⟨rfl, rfl, rfl, rfl⟩ := HE.out
          clear hgd
          refine (implIsFrame_no up lo _ _ _ HR.out HGD.out).mono ?_
          rintro e w24 ⟨rfl, hb⟩
          have HB24 : Hid (Below w.heap.size w w24) := Lib.hid (HB23.out.trans (hb.mono HB23.out.size))
          have HZ24 : Hid (w23.heap.size ≤ w24.heap.size) := Lib.hid hb.size
          have HRf24 := Lib.hid (HRf0.out.below HB24.out (Nat.le_refl _))
          have HRg24 := Lib.hid (HRg0.out.below HB24.out (Nat.le_refl _))
          have HKf24 := Lib.hid ((hb.block _ (lt_of_block HKf23.out)).trans HKf23.out)
          have HKz24 := Lib.hid ((hb.block _ (lt_of_block HKz23.out)).trans HKz23.out)
          have HKm24 := Lib.hid ((hb.block _ (lt_of_block HKm23.out)).trans HKm23.out)
          clear hb
          clear cf0 cf1 cf2 ff0 ff1 ff2 ltf cz0 cz1 cz2 fz0 fz1 fz2 ltz cm0 cm1 cm2 fm0 fm1 fm2 ltm
          have ltf := lt_of_block HKf24.out
          obtain ⟨cf0, cf1, cf2, ff0, ff1, ff2⟩ := cell3 HKf24.out
          have ltz := lt_of_block HKz24.out
          obtain ⟨cz0, cz1, cz2, fz0, fz1, fz2⟩ := cell3 HKz24.out
          have ltm := lt_of_block HKm24.out
          obtain ⟨cm0, cm1, cm2, fm0, fm1, fm2⟩ := cell3 HKm24.out
          go_wp2_with fail
          exact bodyPost_ret (v := .tuple #[.agg #[.int .i64 0, .int .i64 0, .slice none 0 0], .bool false]) (by simp [results, Try.results20, go_sem, cz0, cz1, cz2]) rfl ⟨⟨_, rfl, ⟨by simp [flat], .inl ⟨rfl, rfl⟩⟩⟩, bl_set3 HB24.out (by omega) _ _ _⟩
      · have x1 : (rs.length : Int) ≤ (q : Int) := by omega
        have HNX : Hid (playO up lo rs ms = none) := Lib.hid (playO_none up lo rs ms (k + 1) (by
          rw [HSN.out, HP.out]
          show stepO up lo rk _ = _
          unfold stepO
          rw [if_neg fun h => hqr (by have h' : (q : Int) < (rk.length : Int) := h.1; have := HLR.out; omega)]))
        have HE : Hid (fu = 0 ∧ fl = 0 ∧ qs = [] ∧ t = false) := Lib.hid (by rcases HK.out with ⟨h, _⟩ | ⟨_, h⟩; rw [HNX.out] at h; simp at h; exact h)
        obtain ⟨rfl, rfl, rfl, rfl⟩ := HE.out
        have HB20 : Hid (Below w.heap.size w wr) := Lib.hid HBR.out
        have HRf20 := Lib.hid (HRf0.out.below HB20.out (Nat.le_refl _))
        have HRg20 := Lib.hid (HRg0.out.below HB20.out (Nat.le_refl _))
        have HKf20 := Lib.hid (HKF.out)
        have HKz20 := Lib.hid (HKZ.out)
        have ltf := lt_of_block HKf20.out
        obtain ⟨cf0, cf1, cf2, ff0, ff1, ff2⟩ := cell3 HKf20.out
        have ltz := lt_of_block HKz20.out
        obtain ⟨cz0, cz1, cz2, fz0, fz1, fz2⟩ := cell3 HKz20.out
        go_wp2_with fail
        exact bodyPost_ret (v := .tuple #[.agg #[.int .i64 0, .int .i64 0, .slice none 0 0], .bool false]) (by simp [results, Try.results20, go_sem, cz0, cz1, cz2, ltz]) rfl ⟨⟨_, rfl, ⟨by simp [flat], .inl ⟨rfl, rfl⟩⟩⟩, (bl_set3 HB20.out (by omega) _ _ _).alloc (by have := ltz; simp; omega) _⟩
    · have HTA : Hid (playO up lo rs ms = some rk) := Lib.hid (by have := HP.out; rwa [List.take_of_length_le (by omega)] at this)
      have HE : Hid (rk = qs ∧ fu = up ∧ fl = lo ∧ t = true) := Lib.hid (by
        rcases HK.out with ⟨h, h'⟩ | ⟨h, _⟩
        · rw [HTA.out] at h; injection h with h; exact ⟨h, h'⟩
        · rw [HTA.out] at h; simp at h)
      obtain ⟨rfl, rfl, rfl, rfl⟩ := HE.out
      have HB20 : Hid (Below w.heap.size w wr) := Lib.hid hb
      have HRf20 := Lib.hid (HRf0.out.below HB20.out (Nat.le_refl _))
      have HRg20 := Lib.hid (HRg0.out.below HB20.out (Nat.le_refl _))
      have HKf20 := Lib.hid (hkf)
      have HKz20 := Lib.hid (hkz)
      have HOv20 := Lib.hid (how)
      clear hb hkf hkz how
      have ltf := lt_of_block HKf20.out
      obtain ⟨cf0, cf1, cf2, ff0, ff1, ff2⟩ := cell3 HKf20.out
      have ltz := lt_of_block HKz20.out
      obtain ⟨cz0, cz1, cz2, fz0, fz1, fz2⟩ := cell3 HKz20.out
      go_wp2_with fail
      exact bodyPost_ret (v := .tuple #[.agg #[.int .i64 fu, .int .i64 fl, .slice (some ⟨w4.heap.size, 0, none⟩) rs.length rs.length], .bool true]) (by simp [results, Try.results20, go_sem, cz0, cz1, cz2]) rfl ⟨⟨_, rfl, own_mono (own_set3 (own_relen HLR.out HOv20.out.1) hlo4 _ _ _) (by omega)⟩, bl_set3 HB20.out (by omega) _ _ _⟩

set_option maxRecDepth 100000 in
set_option maxHeartbeats 3200000 in
theorem implPlay_any (up lo : Int) (s1 : Value) (rs : List (Int × Int)) (s2 : Value) (ms : List Mv) (w : World) (h1 : RodsR w s1 rs) (h2 : RowsR 3 mvC w s2 ms) (fu fl : Int) (qs : List (Int × Int)) (t : Bool) (hk : PlF up lo rs ms fu fl qs t) :
    Calls Try.prog 20 #[.agg #[.int .i64 up, .int .i64 lo, s1], s2] w fun e w' => (∃ sq, e = .returned (.tuple #[.agg #[.int .i64 fu, .int .i64 fl, sq], .bool t]) ∧ w'.ownsRow w.heap.size 83 2 sq qs.length (flat qs)) ∧ Below w.heap.size w w' := by
  by_cases hg : goodF up lo rs ∧ okMs ms
  · refine implPlay_in up lo s1 rs s2 ms w h1 h2 hg.1 hg.2 fu fl qs t ?_
    rcases hk with ⟨_, _, k1, _, k2, k3, k4⟩ | ⟨k0, k1, k2, k3, k4⟩
    · exact .inl ⟨k1, k2, k3, k4⟩
    · refine .inr ⟨?_, k1, k2, k3, k4⟩
      cases hp : playO up lo rs ms with
      | none => rfl
      | some r => exact absurd ⟨hg.1, hg.2, by rw [hp]; simp⟩ k0
  · have HE : Hid (fu = 0 ∧ fl = 0 ∧ qs = [] ∧ t = false) := Lib.hid (by rcases hk with ⟨g1, g2, _⟩ | ⟨_, h⟩; exact absurd ⟨g1, g2⟩ hg; exact h)
    obtain ⟨rfl, rfl, rfl, rfl⟩ := HE.out
    obtain ⟨a1, c1, rfl⟩ : ∃ a c, s1 = .slice a rs.length c := by obtain ⟨a, c, e, _⟩ := h1; exact ⟨a, c, e⟩
    have HG := Lib.hid hg
    have HB0 : Hid (Below w.heap.size w w) := Lib.hid (Below.refl _ _)
    have HRf0 := Lib.hid (h1)
    have HRg0 := Lib.hid (h2)
    clear h1 h2 hg hk
    go_enter Try.func20, Try.ntmps20
    go_wp2_with fail
    have hb : Below w.heap.size w (w.alloc (.cells #[.int .i64 up, .int .i64 lo, .slice a1 rs.length c1] 26)) := (Below.refl _ _).alloc (Nat.le_refl _) _
    have hk : (w.alloc (.cells #[.int .i64 up, .int .i64 lo, .slice a1 rs.length c1] 26)).heap[w.heap.size]? = some (.cells #[.int .i64 up, .int .i64 lo, .slice a1 rs.length c1] 26 (0, 0)) := alloc_at rfl
    have hz : (w.alloc (.cells #[.int .i64 up, .int .i64 lo, .slice a1 rs.length c1] 26)).heap.size = w.heap.size + 1 := by simp
    generalize w.alloc (.cells #[.int .i64 up, .int .i64 lo, .slice a1 rs.length c1] 26) = w1 at hb hk hz ⊢
    have HB1 : Hid (Below w.heap.size w w1) := Lib.hid (HB0.out.trans (hb.mono HB0.out.size))
    have HZ1 : Hid (w.heap.size ≤ w1.heap.size) := Lib.hid hb.size
    have HRf1 := Lib.hid (HRf0.out.below HB1.out (Nat.le_refl _))
    have HRg1 := Lib.hid (HRg0.out.below HB1.out (Nat.le_refl _))
    have HKf1 := Lib.hid hk
    replace HZ1 : Hid (w.heap.size < w1.heap.size) := Lib.hid (by omega)
    have HE1 := Lib.hid hz
    clear hb hk hz
    have hb : Below w1.heap.size w1 (w1.alloc (.cells #[.int .i64 0, .int .i64 0, .slice none 0 0] 26)) := (Below.refl _ _).alloc (Nat.le_refl _) _
    have hk : (w1.alloc (.cells #[.int .i64 0, .int .i64 0, .slice none 0 0] 26)).heap[w.heap.size + 1]? = some (.cells #[.int .i64 0, .int .i64 0, .slice none 0 0] 26 (0, 0)) := alloc_at (by have := HE1.out; omega)
    have hz : (w1.alloc (.cells #[.int .i64 0, .int .i64 0, .slice none 0 0] 26)).heap.size = w1.heap.size + 1 := by simp
    generalize w1.alloc (.cells #[.int .i64 0, .int .i64 0, .slice none 0 0] 26) = w2 at hb hk hz ⊢
    have HB2 : Hid (Below w.heap.size w w2) := Lib.hid (HB1.out.trans (hb.mono HB1.out.size))
    have HZ2 : Hid (w1.heap.size ≤ w2.heap.size) := Lib.hid hb.size
    have HRf2 := Lib.hid (HRf0.out.below HB2.out (Nat.le_refl _))
    have HRg2 := Lib.hid (HRg0.out.below HB2.out (Nat.le_refl _))
    have HKf2 := Lib.hid ((hb.block _ (lt_of_block HKf1.out)).trans HKf1.out)
    have HKz2 := Lib.hid hk
    replace HZ2 : Hid (w1.heap.size < w2.heap.size) := Lib.hid (by omega)
    have HE2 := Lib.hid hz
    clear hb hk hz
    have ltf := lt_of_block HKf2.out
    obtain ⟨cf0, cf1, cf2, ff0, ff1, ff2⟩ := cell3 HKf2.out
    have ltz := lt_of_block HKz2.out
    obtain ⟨cz0, cz1, cz2, fz0, fz1, fz2⟩ := cell3 HKz2.out
    by_cases hgf : goodF up lo rs
    · have HGF := Lib.hid hgf
      have HNM : Hid (¬ okMs ms) := Lib.hid fun h => HG.out ⟨hgf, h⟩
      clear hgf
      refine (implIsFrame_yes up lo _ rs _ HRf2.out HGF.out).mono ?_
      rintro e w3 ⟨rfl, hb⟩
      have HB3 : Hid (Below w.heap.size w w3) := Lib.hid (HB2.out.trans (hb.mono HB2.out.size))
      have HZ3 : Hid (w2.heap.size ≤ w3.heap.size) := Lib.hid hb.size
      have HRf3 := Lib.hid (HRf0.out.below HB3.out (Nat.le_refl _))
      have HRg3 := Lib.hid (HRg0.out.below HB3.out (Nat.le_refl _))
      have HKf3 := Lib.hid ((hb.block _ (lt_of_block HKf2.out)).trans HKf2.out)
      have HKz3 := Lib.hid ((hb.block _ (lt_of_block HKz2.out)).trans HKz2.out)
      clear hb
      clear cf0 cf1 cf2 ff0 ff1 ff2 ltf cz0 cz1 cz2 fz0 fz1 fz2 ltz
      have ltf := lt_of_block HKf3.out
      obtain ⟨cf0, cf1, cf2, ff0, ff1, ff2⟩ := cell3 HKf3.out
      have ltz := lt_of_block HKz3.out
      obtain ⟨cz0, cz1, cz2, fz0, fz1, fz2⟩ := cell3 HKz3.out
      go_wp2_with fail
      refine (areMoves_any _ ms _ HRg3.out false ⟨fun h => by simp at h, fun h => absurd h HNM.out⟩).mono ?_
      rintro e w4 ⟨rfl, hb⟩
      have HB4 : Hid (Below w.heap.size w w4) := Lib.hid (HB3.out.trans (hb.mono HB3.out.size))
      have HZ4 : Hid (w3.heap.size ≤ w4.heap.size) := Lib.hid hb.size
      have HRf4 := Lib.hid (HRf0.out.below HB4.out (Nat.le_refl _))
      have HRg4 := Lib.hid (HRg0.out.below HB4.out (Nat.le_refl _))
      have HKf4 := Lib.hid ((hb.block _ (lt_of_block HKf3.out)).trans HKf3.out)
      have HKz4 := Lib.hid ((hb.block _ (lt_of_block HKz3.out)).trans HKz3.out)
      clear hb
      clear cf0 cf1 cf2 ff0 ff1 ff2 ltf cz0 cz1 cz2 fz0 fz1 fz2 ltz
      have ltf := lt_of_block HKf4.out
      obtain ⟨cf0, cf1, cf2, ff0, ff1, ff2⟩ := cell3 HKf4.out
      have ltz := lt_of_block HKz4.out
      obtain ⟨cz0, cz1, cz2, fz0, fz1, fz2⟩ := cell3 HKz4.out
      go_wp2_with fail
      exact bodyPost_ret (v := .tuple #[.agg #[.int .i64 0, .int .i64 0, .slice none 0 0], .bool false]) (by simp [results, Try.results20, go_sem, cz0, cz1, cz2]) rfl ⟨⟨_, rfl, ⟨by simp [flat], .inl ⟨rfl, rfl⟩⟩⟩, bl_set3 HB4.out (by omega) _ _ _⟩
    · have HGF := Lib.hid hgf
      clear hgf
      refine (implIsFrame_no up lo _ rs _ HRf2.out HGF.out).mono ?_
      rintro e w3 ⟨rfl, hb⟩
      have HB3 : Hid (Below w.heap.size w w3) := Lib.hid (HB2.out.trans (hb.mono HB2.out.size))
      have HZ3 : Hid (w2.heap.size ≤ w3.heap.size) := Lib.hid hb.size
      have HRf3 := Lib.hid (HRf0.out.below HB3.out (Nat.le_refl _))
      have HRg3 := Lib.hid (HRg0.out.below HB3.out (Nat.le_refl _))
      have HKf3 := Lib.hid ((hb.block _ (lt_of_block HKf2.out)).trans HKf2.out)
      have HKz3 := Lib.hid ((hb.block _ (lt_of_block HKz2.out)).trans HKz2.out)
      clear hb
      clear cf0 cf1 cf2 ff0 ff1 ff2 ltf cz0 cz1 cz2 fz0 fz1 fz2 ltz
      have ltf := lt_of_block HKf3.out
      obtain ⟨cf0, cf1, cf2, ff0, ff1, ff2⟩ := cell3 HKf3.out
      have ltz := lt_of_block HKz3.out
      obtain ⟨cz0, cz1, cz2, fz0, fz1, fz2⟩ := cell3 HKz3.out
      go_wp2_with fail
      exact bodyPost_ret (v := .tuple #[.agg #[.int .i64 0, .int .i64 0, .slice none 0 0], .bool false]) (by simp [results, Try.results20, go_sem, cz0, cz1, cz2]) rfl ⟨⟨_, rfl, ⟨by simp [flat], .inl ⟨rfl, rfl⟩⟩⟩, bl_set3 HB3.out (by omega) _ _ _⟩
end Go.Proofs.Ytjkjaadcdolbhaa
