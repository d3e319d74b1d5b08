/- Parts laid as one: Qone, Copyn, Qplay. -/
import Derived.Test.YtmkocinknhaniaaKz
import Derived.Test.YtmkocinknhaniaaKa
import Derived.Laws.CopyOwn
import Derived.Test.YtmkocinknhaniaaKi
import Derived.Test.YtmkocinknhaniaaKn
import Derived.StillTailTactics
/-! Qone -/
namespace Go.Proofs.Ytmkocinknhaniaa
set_option linter.unusedVariables false
open Go.RowKit

set_option maxRecDepth 100000 in
set_option maxHeartbeats 1600000 in
theorem implIsMove_any (m : Mv) (w : World) (r : Bool) (hr : r = true ↔ okMv m) :
    Calls Try.prog 36 #[mvV m] w fun e w' => e = .returned (.bool r) ∧ Below w.heap.size w w' := by
  obtain ⟨rod, part, amt⟩ := m
  show Calls Try.prog 36 #[.agg #[.int .i64 rod, .int .i64 part, .int .i64 amt]] w fun e w' => e = .returned (.bool r) ∧ Below w.heap.size w w'
  have HR : Hid (r = true ↔ (0 ≤ rod ∧ rod ≤ 7) ∧ (0 ≤ part ∧ part ≤ 1) ∧ (-5 ≤ amt ∧ amt ≤ 5) ∧ amt ≠ 0) := Lib.hid hr
  clear hr
  have HB0 : Hid (Below w.heap.size w w) := Lib.hid (Below.refl _ _)
  by_cases h1 : 0 ≤ rod
  · by_cases h1' : rod ≤ 7
    · have h1x : ¬ 8 ≤ rod := by omega
      by_cases h2 : part = 0 ∨ part = 1
      · have HP := Lib.hid h2
        have h2x : ((part != 0) && (part != 1)) = false := by rcases h2 with rfl | rfl <;> rfl
        by_cases h4 : amt = 0
        · subst h4
          have HN : Hid (r = false) := Lib.hid (Bool.eq_false_iff.2 fun e => (HR.out.1 e).2.2.2 rfl)
          rcases h2 with rfl | rfl
          · clear h2x
            go_enter Try.func36, Try.ntmps36
            go_wp2_with fail
            go_ret
            exact ⟨ret_bool HN.out.symm, (Below.refl _ _).alloc (Nat.le_refl _) _⟩
          · clear h2x
            go_enter Try.func36, Try.ntmps36
            go_wp2_with fail
            go_ret
            exact ⟨ret_bool HN.out.symm, (Below.refl _ _).alloc (Nat.le_refl _) _⟩
        · have h4x : (amt != 0) = true := by simpa using h4
          have HN : Hid (r = decide (-5 ≤ amt ∧ amt ≤ 5)) := Lib.hid (by
            have h2' : 0 ≤ part ∧ part ≤ 1 := by omega
            by_cases h3 : -5 ≤ amt ∧ amt ≤ 5
            · rw [decide_eq_true h3]; exact HR.out.2 ⟨⟨h1, h1'⟩, h2', h3, h4⟩
            · rw [decide_eq_false h3]; exact Bool.eq_false_iff.2 fun e => h3 (HR.out.1 e).2.2.1)
          clear h4
          by_cases h3 : -5 ≤ amt
          · by_cases h3' : amt ≤ 5
            · have HN' : Hid (r = true) := Lib.hid (by rw [HN.out]; simp [h3, h3'])
              rcases h2 with rfl | rfl
              · clear h2x
                go_enter Try.func36, Try.ntmps36
                go_wp2_with fail
                go_ret
                exact ⟨ret_bool HN'.out.symm, (Below.refl _ _).alloc (Nat.le_refl _) _⟩
              · clear h2x
                go_enter Try.func36, Try.ntmps36
                go_wp2_with fail
                go_ret
                exact ⟨ret_bool HN'.out.symm, (Below.refl _ _).alloc (Nat.le_refl _) _⟩
            · have HN' : Hid (r = false) := Lib.hid (by rw [HN.out]; simp [h3'])
              rcases h2 with rfl | rfl
              · clear h2x
                go_enter Try.func36, Try.ntmps36
                go_wp2_with fail
                go_ret
                exact ⟨ret_bool HN'.out.symm, (Below.refl _ _).alloc (Nat.le_refl _) _⟩
              · clear h2x
                go_enter Try.func36, Try.ntmps36
                go_wp2_with fail
                go_ret
                exact ⟨ret_bool HN'.out.symm, (Below.refl _ _).alloc (Nat.le_refl _) _⟩
          · have HN' : Hid (r = false) := Lib.hid (by rw [HN.out]; simp [h3])
            rcases h2 with rfl | rfl
            · clear h2x
              go_enter Try.func36, Try.ntmps36
              go_wp2_with fail
              go_ret
              exact ⟨ret_bool HN'.out.symm, (Below.refl _ _).alloc (Nat.le_refl _) _⟩
            · clear h2x
              go_enter Try.func36, Try.ntmps36
              go_wp2_with fail
              go_ret
              exact ⟨ret_bool HN'.out.symm, (Below.refl _ _).alloc (Nat.le_refl _) _⟩
      · have HN : Hid (r = false) := Lib.hid (Bool.eq_false_iff.2 fun e => h2 (by have := (HR.out.1 e).2.1; omega))
        have h5 : (part != 0) = true := by have : ¬ part = 0 := fun e => h2 (.inl e); simpa using this
        have h6 : (part != 1) = true := by have : ¬ part = 1 := fun e => h2 (.inr e); simpa using this
        clear h2
        go_enter Try.func36, Try.ntmps36
        go_wp2_with fail
        go_ret
        exact ⟨ret_bool HN.out.symm, (Below.refl _ _).alloc (Nat.le_refl _) _⟩
    · have HN : Hid (r = false) := Lib.hid (Bool.eq_false_iff.2 fun e => h1' (HR.out.1 e).1.2)
      have h1x : 8 ≤ rod := by omega
      go_enter Try.func36, Try.ntmps36
      go_wp2_with fail
      go_ret
      exact ⟨ret_bool HN.out.symm, (Below.refl _ _).alloc (Nat.le_refl _) _⟩
  · have HN : Hid (r = false) := Lib.hid (Bool.eq_false_iff.2 fun e => h1 (HR.out.1 e).1.1)
    have h1x : rod < 0 := by omega
    go_enter Try.func36, Try.ntmps36
    go_wp2_with fail
    go_ret
    exact ⟨ret_bool HN.out.symm, (Below.refl _ _).alloc (Nat.le_refl _) _⟩

set_option maxRecDepth 100000 in
set_option maxHeartbeats 1600000 in
theorem areMoves_scan (v : Value) (ps : List Mv) (w : World) (h : RowsR 3 mvC w v ps) (hl : ps.length ≤ 60) (p : Nat) (hp : p ≤ ps.length) (hpre : ∀ i (h : i < ps.length), i < p → okMv ps[i]) (hx : ∀ h : p < ps.length, ¬ okMv ps[p]) (r : Bool) (hr1 : p < ps.length → r = false) (hr2 : p = ps.length → r = true) :
    Calls Try.prog 22 #[v] w fun e w' => e = .returned (.bool r) ∧ Below w.heap.size w w' := by
  obtain ⟨a, cp, rfl⟩ := h.form
  have R1 := Lib.hid h.at
  have HP := Lib.hid hpre
  have HX := Lib.hid hx
  have HR1 := Lib.hid hr1
  have HR2 := Lib.hid hr2
  clear h hpre hx hr1 hr2
  go_enter Try.func22, Try.ntmps22
  go_wp2_with fail
  go_loopw [10] (fun i wr => ∃ k : Nat, k ≤ p ∧ i = .int .i64 k ∧ Below w.heap.size w wr) (fun i _ => ps.length - (intOf i).toNat)
  case atStart => exact ⟨0, Nat.zero_le _, rfl, Below.refl _ _⟩
  case round =>
    obtain ⟨k, hk, rfl, hb⟩ := hrel
    have HB := Lib.hid hb
    by_cases hlt : k < ps.length
    · have z1 : (0 : Int) ≤ (k : Int) := by omega
      have z2 : (k : Int) < (ps.length : Int) := by omega
      obtain ⟨b1, o1, rfl, l1, k1⟩ := R1.out _ hb k hlt
      have p0 : wr.cell? ⟨b1, o1 + k * 3, none⟩ = some (.int .i64 ps[k].rod) := k1 0 (by omega)
      have p1 : wr.cell? ⟨b1, o1 + k * 3 + 1, none⟩ = some (.int .i64 ps[k].part) := k1 1 (by omega)
      have p2 : wr.cell? ⟨b1, o1 + k * 3 + 2, none⟩ = some (.int .i64 ps[k].amt) := k1 2 (by omega)
      have HB1 : Hid (Below w.heap.size w (wr.alloc (.cells #[.int .i64 ps[k].rod, .int .i64 ps[k].part, .int .i64 ps[k].amt] 40))) := Lib.hid (hb.alloc hb.size _)
      clear k1 hb
      by_cases hkp : k < p
      · have HG := Lib.hid (HP.out k hlt hkp)
        go_wp2_with fail
        refine (implIsMove_any ps[k] _ true ⟨fun _ => HG.out, fun _ => rfl⟩).mono ?_
        rintro e w2 ⟨rfl, hb2⟩
        have HB2 := Lib.hid (HB1.out.trans (hb2.mono HB1.out.size))
        clear hb2
        go_wp2_with fail
        go_roundw
        case rel => exact ⟨k + 1, by omega, by go_num, HB2.out⟩
        case measure => simp [intOf]; omega
      · have hke : k = p := by omega
        subst hke
        have HG := Lib.hid (HX.out hlt)
        go_wp2_with fail
        refine (implIsMove_any ps[k] _ false ⟨fun e => by simp at e, fun h => absurd h HG.out⟩).mono ?_
        rintro e w2 ⟨rfl, hb2⟩
        have HB2 := Lib.hid (HB1.out.trans (hb2.mono HB1.out.size))
        have HN := Lib.hid (HR1.out hlt)
        clear hb2
        go_wp2_with fail
        go_ret
        exact ⟨ret_bool HN.out.symm, HB2.out⟩
    · have HN := Lib.hid (HR2.out (by omega))
      clear hb
      go_wp2_with fail
      go_ret
      exact ⟨ret_bool HN.out.symm, HB.out⟩
set_option maxRecDepth 100000 in
set_option maxHeartbeats 400000 in
theorem areMoves_long (v : Value) (ps : List Mv) (w : World) (h : RowsR 3 mvC w v ps) (hl : ¬ ps.length ≤ 60) :
    Calls Try.prog 22 #[v] w fun e w' => e = .returned (.bool false) ∧ Below w.heap.size w w' := by
  obtain ⟨a, cp, rfl⟩ := h.form
  have hx : 60 < ps.length := by omega
  clear h hl
  go_enter Try.func22, Try.ntmps22
  go_wp2_with fail
  go_ret
  exact ⟨rfl, Below.refl _ _⟩
theorem areMoves_any (v : Value) (ps : List Mv) (w : World) (h : RowsR 3 mvC w v ps) (r : Bool) (hr : r = true ↔ okMs ps) :
    Calls Try.prog 22 #[v] w fun e w' => e = .returned (.bool r) ∧ Below w.heap.size w w' := by
  by_cases h60 : ps.length ≤ 60
  · obtain ⟨p, hp, hpre, hx⟩ := first_bad ps.length (fun i _ => okMv ps[i])
    exact areMoves_scan v ps w h h60 p hp hpre hx r (fun hlt => Bool.eq_false_iff.2 fun e => hx hlt ((hr.1 e).1 p hlt)) (fun he => hr.2 ⟨fun k hk => hpre k hk (by omega), h60⟩)
  · have : r = false := Bool.eq_false_iff.2 fun e => h60 (hr.1 e).2
    subst this
    exact areMoves_long v ps w h h60
end Go.Proofs.Ytmkocinknhaniaa

/-! Copyn -/
namespace Go.Proofs.Ytmkocinknhaniaa
set_option linter.unusedVariables false
open Go.RowKit

theorem run_copy_all {P : Program} (w : World) (base : Nat) (dT sT ty e : TypeId) (i : TypeInfo) (size : Nat) (hu : P.underlying dT = some (.slice e)) (hi : P.info? e = some i) (hsize : i.size = size)
    (g n cap : Nat) (xs : List Value) (hown : w.ownsRow base e size (.slice (some ⟨g, 0, none⟩) n cap) n xs) (oa : Option Addr) (sc : Nat) (cs : List Value) (hl : cs.length = n * size)
    (hsrc : (oa = none ∧ n = 0) ∨ ∃ ad, oa = some ad ∧ ∀ j v, cs[j]? = some v → w.cell? (ad.add j) = some v) (h1 : ∀ v ∈ cs, v.oneCell' = true) :
    ∃ w', (Builtin.copy_ #[dT, sT] ty #[.slice (some ⟨g, 0, none⟩) n cap, .slice oa n sc]).run P w = .ok (goInt n) w' ∧ w'.ownsRow base e size (.slice (some ⟨g, 0, none⟩) n cap) n cs ∧ Btw g (g + 1) w w' := by
  subst hsize
  have hmin : Nat.min n n = n := Nat.min_self n
  rcases hown.2 with ⟨h, _⟩ | ⟨g', cap', cur, h, hbg, hg, hnc, hcm, hcs, htake⟩
  · simp at h
  · simp only [Value.slice.injEq, Option.some.injEq, Addr.mk.injEq, and_true, true_and] at h
    obtain ⟨rfl, rfl⟩ := h
    have hfit : cs.length ≤ cur.size := by rw [hl, hcs]; exact Nat.mul_le_mul_right _ hnc
    have hst := run_storeCells_at P g 0 e cs 0 cur w hg (by omega) h1
    simp only [Nat.zero_add, List.take_zero, List.nil_append] at hst
    refine ⟨w.setRow g (cs ++ cur.toList.drop cs.length).toArray, ?_, ⟨hl, .inr ⟨g, cap, _, rfl, hbg, setRow_heap w g cur _ e _ hg, hnc, hcm, ?_, ?_⟩⟩, ⟨⟨rfl, rfl, rfl, by simp [World.setRow], fun k hk => setRow_other w g k _ (by omega)⟩, fun k h3 h4 => setRow_other w g k _ (by omega)⟩⟩
    · rcases hsrc with ⟨rfl, rfl⟩ | ⟨ad, rfl, hsrc⟩
      · have e0 : cs = [] := List.eq_nil_of_length_eq_zero (by rw [hl]; simp)
        subst e0
        simp at hst
        simp [Builtin.copy_, run_underlying hu, Builtin.lenOf, Builtin.firstCells, sizeOf, typeInfo, hi, hst]
      · have hld := run_loadCells_list (P := P) w ad cs hsrc
        rw [hl] at hld
        simp [Builtin.copy_, run_underlying hu, Builtin.lenOf, Builtin.firstCells, sizeOf, typeInfo, hi, hmin, hld, hst]
    · simp only [List.size_toArray, List.length_append, List.length_drop, Array.length_toList]
      omega
    · rw [← hl]; exact List.take_left
theorem wpList_copy_all {P : Program} {w : World} {ops : Array Oper} {rest : List Oper} {o : Oper} {a : Act} {Q : Exit → Act → World → Prop} (hgd : o.guard = none) (d s : Operand) (dT sT : TypeId)
    (ho : o.op = .call { callee := .builtin .copy, args := #[d, s], argTypes := #[dT, sT] }) (base : Nat) (e : TypeId) (i : TypeInfo) (size : Nat) (hu : P.underlying dT = some (.slice e)) (hi : P.info? e = some i) (hsize : i.size = size)
    (g n cap : Nat) (hd : a.eval d = .slice (some ⟨g, 0, none⟩) n cap) (oa : Option Addr) (sc : Nat) (hs : a.eval s = .slice oa n sc) (xs : List Value) (hown : w.ownsRow base e size (.slice (some ⟨g, 0, none⟩) n cap) n xs)
    (cs : List Value) (hl : cs.length = n * size) (hsrc : (oa = none ∧ n = 0) ∨ ∃ ad, oa = some ad ∧ ∀ j v, cs[j]? = some v → w.cell? (ad.add j) = some v) (h1 : ∀ v ∈ cs, v.oneCell' = true)
    (h : ∀ w', Hid (w'.ownsRow base e size (.slice (some ⟨g, 0, none⟩) n cap) n cs) → Btw g (g + 1) w w' → wpList P ops Q rest (a.put o.dst (goInt n)) w') : wpList P ops Q (o :: rest) a w := by
  refine wpList_plain hgd fun K hK => ?_
  obtain ⟨w', hrun, r1, r2⟩ := run_copy_all (P := P) w base dT sT o.type e i size hu hi hsize g n cap xs hown oa sc cs hl hsrc h1
  unfold Oper.wp
  simp [execOp, ho, resolve, invoke, builtin, hd, hs, hrun, Result.andThen]
  exact hK _ _ (h w' (Lib.hid r1) r2)
end Go.Proofs.Ytmkocinknhaniaa

/-! Qplay -/
namespace Go.Proofs.Ytmkocinknhaniaa
set_option linter.unusedVariables false
open Go.RowKit

def pt2 (r : Int × Int) (p : Nat) : Int := if p = 0 then r.1 else r.2
theorem flat_pt (rs : List (Int × Int)) (q p : Nat) (hq : q < rs.length) (hp : p < 2) : (flat rs)[q * 2 + p]? = some (.int .i64 (pt2 rs[q] p)) := by
  obtain ⟨h1, h2⟩ := flat_at rs q hq
  have : p = 0 ∨ p = 1 := by omega
  rcases this with rfl | rfl
  · exact h1
  · exact h2
theorem movF_flat (rs : List (Int × Int)) (q p : Nat) (amt : Int) (hq : q < rs.length) (hp : p < 2) : (flat rs).set (q * 2 + p) (.int .i64 (pt2 rs[q] p + amt)) = flat (movF rs ⟨(q : Int), (p : Int), amt⟩) := by
  have hm : movF rs ⟨(q : Int), (p : Int), amt⟩ = rs.set q (movR rs[q] ⟨(q : Int), (p : Int), amt⟩) := by
    unfold movF
    show rs.set (q : Int).toNat (movR (rs.getD (q : Int).toNat (0, 0)) _) = _
    rw [Int.toNat_natCast, List.getD_eq_getElem?_getD, List.getElem?_eq_getElem hq]; rfl
  rw [hm]
  have hp2 : p = 0 ∨ p = 1 := by omega
  refine flat_of _ _ (by rw [List.length_set, List.length_set, flat_len]) fun j hj => ?_
  rw [List.length_set] at hj
  obtain ⟨f1, f2⟩ := flat_at rs j hj
  have hfl := flat_len rs
  by_cases e : j = q
  · subst e
    rw [List.getElem_set_self]
    rcases hp2 with rfl | rfl
    · exact ⟨by rw [Nat.add_zero, List.getElem?_set_self (by omega)]; rfl, by rw [Nat.add_zero, List.getElem?_set_ne (by omega)]; exact f2⟩
    · exact ⟨by rw [List.getElem?_set_ne (by omega)]; exact f1, by rw [List.getElem?_set_self (by omega)]; rfl⟩
  · rw [List.getElem_set_ne (fun h => e h.symm)]
    exact ⟨by rw [List.getElem?_set_ne (by omega)]; exact f1, by rw [List.getElem?_set_ne (by omega)]; exact f2⟩

end Go.Proofs.Ytmkocinknhaniaa
