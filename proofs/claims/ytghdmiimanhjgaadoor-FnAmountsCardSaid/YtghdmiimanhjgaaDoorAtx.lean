/- The model's text of an amount. -/
import Derived.Test.YtghdmiimanhjgaaDoorMm1
import Derived.Test.YtghdmiimanhjgaaDoorIm1
import Derived.Test.YtghdmiimanhjgaaDoorNum
import Derived.Lib.Join
import Derived.BigQuiet
import Derived.Laws.IdiomStrings
namespace Go.Proofs.YtghdmiimanhjgaaDoor
set_option linter.unusedVariables false
open Go.RowKit

def nmU (us : List Un) (i : Nat) : ByteArray := match us[i]? with | some u => u.nm | none => ⟨#[]⟩
theorem nmU_at (us : List Un) (i : Nat) (h : i < us.length) : nmU us i = us[i].nm := by unfold nmU; rw [List.getElem?_eq_getElem h]
/-- A count, a space and a name. -/
def ctS (c : Int) (nm : ByteArray) : ByteArray := ⟨(Lib.itoa c).toArray⟩ ++ ⟨#[32]⟩ ++ nm
/-- The pieces of the last d units. -/
def pcD (us : List Un) (cs : List Int) : Nat → List ByteArray
  | 0 => []
  | d + 1 => if cA cs (us.length - 1 - d) = 0 then pcD us cs d else pcD us cs d ++ [ctS (cA cs (us.length - 1 - d)) (nmU us (us.length - 1 - d))]
theorem pcD_zero (us : List Un) (cs : List Int) (k d : Nat) (h : k + 1 + d = us.length) (h0 : cA cs k = 0) : pcD us cs (d + 1) = pcD us cs d := by
  have e : us.length - 1 - d = k := by omega
  rw [pcD, e, if_pos h0]
theorem pcD_more (us : List Un) (cs : List Int) (k d : Nat) (h : k + 1 + d = us.length) (h0 : cA cs k ≠ 0) : pcD us cs (d + 1) = pcD us cs d ++ [ctS (cA cs k) (nmU us k)] := by
  have e : us.length - 1 - d = k := by omega
  rw [pcD, e, if_neg h0]
theorem pcD_len (us : List Un) (cs : List Int) : ∀ d, (pcD us cs d).length ≤ d
  | 0 => by simp [pcD]
  | d + 1 => by
    have := pcD_len us cs d
    rw [pcD]
    split
    · omega
    · rw [List.length_append, List.length_singleton]; omega
def joinP (ps : List ByteArray) : ByteArray := ⟨(Lib.join (ps.map fun s => s.data.toList) [44, 32]).toArray⟩
theorem joinP_one (x : ByteArray) : joinP [x] = x := by
  unfold joinP
  rw [List.map_singleton, Lib.join_one]
theorem joinTail_snoc7 (sep : List UInt8) (r : List (List UInt8)) (y : List UInt8) : Lib.joinTail sep (r ++ [y]) = Lib.joinTail sep r ++ sep ++ y := by
  simp [Lib.joinTail, List.append_assoc]
theorem join_snoc7 (xs : List (List UInt8)) (y sep : List UInt8) (h : xs ≠ []) : Lib.join (xs ++ [y]) sep = Lib.join xs sep ++ sep ++ y := by
  cases xs with
  | nil => exact absurd rfl h
  | cons x r => rw [List.cons_append, Lib.join_cons, Lib.join_cons, joinTail_snoc7]; simp [List.append_assoc]
theorem joinP_snoc (ps : List ByteArray) (x : ByteArray) (h : ps ≠ []) : joinP (ps ++ [x]) = joinP ps ++ ⟨#[44, 32]⟩ ++ x := by
  unfold joinP
  rw [List.map_append, List.map_singleton, join_snoc7 _ _ _ (by simpa using h)]
  apply ByteArray.ext
  apply Array.ext'
  simp [List.append_assoc]
theorem ctS_size (c : Int) (nm : ByteArray) : (ctS c nm).size = (Lib.itoa c).length + 1 + nm.size := by
  unfold ctS
  rw [ByteArray.size_append, ByteArray.size_append]
  rfl
theorem joinP_size (us : List Un) (cs : List Int) (ho : okAm us cs) : ∀ d, d ≤ us.length → (joinP (pcD us cs d)).size ≤ 40 * d ∧ (pcD us cs d ≠ [] → 1 ≤ (joinP (pcD us cs d)).size)
  | 0, _ => ⟨by simp [pcD, joinP, Lib.join_nil, ByteArray.size], fun h => absurd rfl h⟩
  | d + 1, hd => by
    obtain ⟨h1, h2⟩ := joinP_size us cs ho d (by omega)
    by_cases h0 : cA cs (us.length - 1 - d) = 0
    · rw [pcD_zero us cs (us.length - 1 - d) d (by omega) h0]
      exact ⟨by omega, h2⟩
    · rw [pcD_more us cs (us.length - 1 - d) d (by omega) h0]
      have hc := okC_at ho.2.2 (us.length - 1 - d)
      have hi : (Lib.itoa (cA cs (us.length - 1 - d))).length ≤ 19 := by rw [itoa_small _ hc.1]; exact dec_len _ (by omega)
      have hn : (nmU us (us.length - 1 - d)).size ≤ 10 := by rw [nmU_at _ _ (by omega)]; exact (ho.1.2 _ (by omega)).1.2.2
      have hs := ctS_size (cA cs (us.length - 1 - d)) (nmU us (us.length - 1 - d))
      by_cases he : pcD us cs d = []
      · rw [he, List.nil_append, joinP_one]
        exact ⟨by omega, fun _ => by omega⟩
      · rw [joinP_snoc _ _ he, ByteArray.size_append, ByteArray.size_append]
        have e2 : (⟨#[44, 32]⟩ : ByteArray).size = 2 := rfl
        exact ⟨by omega, fun _ => by omega⟩
/-- The text. -/
def atT (us : List Un) (cs : List Int) : ByteArray := if pcD us cs us.length = [] then ctS 0 (nmU us 0) else joinP (pcD us cs us.length)
/-- The answer of AmountText. -/
def AtF (us : List Un) (cs : List Int) (s : ByteArray) (t : Bool) : Prop := (okAm us cs ∧ s = atT us cs ∧ t = true) ∨ (¬ okAm us cs ∧ s = ⟨#[]⟩ ∧ t = false)
theorem atF_or (us : List Un) (cs : List Int) : ∃ s t, AtF us cs s t := by
  by_cases h : okAm us cs
  · exact ⟨_, _, .inl ⟨h, rfl, rfl⟩⟩
  · exact ⟨_, _, .inr ⟨h, rfl, rfl⟩⟩
theorem size_ne {s : ByteArray} (h : 1 ≤ s.size) : s ≠ ⟨#[]⟩ := fun e => by rw [e] at h; exact absurd h (by decide)
theorem ne_empty7 {s : ByteArray} (h : 1 ≤ s.size) : s.toList.isEmpty = false := by
  rw [ByteArray.toList_eq]
  have hl : s.data.toList.length = s.size := rfl
  cases hq : s.data.toList with
  | nil => rw [hq] at hl; simp at hl; omega
  | cons x r => rfl
theorem ctS_zero (nm : ByteArray) : (⟨#[48, 32]⟩ : ByteArray) ++ nm = ctS 0 nm := by
  have e : Lib.itoa 0 = [48] := by rw [itoa_small 0 (by omega)]; exact dec_small 0 (by omega)
  unfold ctS
  rw [e]
  congr 1
theorem nm_at7 {w : World} {a : Option Addr} {c : Nat} {us : List Un} (h : RowsR 2 unC w (.slice a us.length c) us) : ∀ w' : World, Below w.heap.size w w' → ∀ k (hk : k < us.length), ∃ b o, a = some ⟨b, o, none⟩ ∧ b < w.heap.size ∧ w'.cell? ⟨b, o + k * 2, none⟩ = some (.string (nmU us k)) ∧ w'.cell? ⟨b, o + k * 2 + 1, none⟩ = some (.int .i64 us[k].sz) := by
  intro w' hb k hk
  obtain ⟨b, o, e, l, c⟩ := h.at w' hb k hk
  rw [nmU_at us k hk]
  exact ⟨b, o, e, l, c 0 (by omega), c 1 (by omega)⟩

set_option maxRecDepth 100000 in
set_option maxHeartbeats 3200000 in
theorem sText_yes (v sv : Value) (us : List Un) (cs : List Int) (w : World) (h : RowsR 2 unC w v us) (hs : ∀ u ∈ us, u.nm.size ≤ maxLen) (hc : RowsR 1 inC w sv cs) (ho : okAm us cs) :
    Calls Tryd.prog 19 #[v, .agg #[sv]] w fun e w' => e = .returned (.tuple #[.string (atT us cs), .bool true]) ∧ Below w.heap.size w w' := by
  have hu6 : us.length ≤ 6 := ho.1.1.2
  have hu1 : 1 ≤ us.length := ho.1.1.1
  obtain ⟨a, cp, rfl⟩ := h.form
  obtain ⟨a1, c1, rfl⟩ := hc.form
  have A1 := Lib.hid (int_at7 hc)
  have A2 := Lib.hid (nm_at7 h)
  have HS := Lib.hid hs
  have HCU := Lib.hid ho.2.1
  have HO := Lib.hid ho
  obtain ⟨T, hT⟩ : ∃ T : Int → ByteArray, ∀ v, T v = ⟨(Lib.itoa v).toArray⟩ := ⟨_, fun _ => rfl⟩
  have HTT := Lib.hid hT
  have HTS : Hid (∀ v, 0 ≤ v → v ≤ 9999 → (T v).size ≤ 19) := Lib.hid (fun v h0 h1 => by rw [hT, mk_size, itoa_small v h0]; exact dec_len _ (by omega))
  have HTC : Hid (∀ v w, 0 ≤ v → v ≤ 9999 → Calls Tryd.prog 42 #[.int .i64 v] w fun e w' => e = .returned (.string (T v)) ∧ ∃ m, w' = w.drewN m) := Lib.hid (fun v w h0 h1 => by rw [hT]; exact l1Num_any v w (by omega) (by omega))
  have HNM : Hid (∀ k, k < us.length → (nmU us k).size ≤ 10) := Lib.hid (fun k hk => by rw [nmU_at _ _ hk]; exact (ho.1.2 _ hk).1.2.2)
  clear hT
  have q32 : (⟨#[32]⟩ : ByteArray).size = 1 := rfl
  have q44 : (⟨#[44, 32]⟩ : ByteArray).size = 2 := rfl
  have HB0 : Hid (Below w.heap.size w w) := Lib.hid (Below.refl _ _)
  have HRu0 := Lib.hid (h)
  have HRc0 := Lib.hid (hc)
  clear h hc hs ho
  go_enter Tryd.func19, Tryd.ntmps19
  go_wp2_with fail
  have hb : Below w.heap.size w (w.alloc (.cells #[.slice a1 cs.length c1] 27)) := (Below.refl _ _).alloc (Nat.le_refl _) _
  have hk : (w.alloc (.cells #[.slice a1 cs.length c1] 27)).heap[w.heap.size]? = some (.cells #[.slice a1 cs.length c1] 27 (0, 0)) := alloc_at rfl
  have hz : (w.alloc (.cells #[.slice a1 cs.length c1] 27)).heap.size = w.heap.size + 1 := by simp
  generalize w.alloc (.cells #[.slice a1 cs.length c1] 27) = w1 at hb hk hz ⊢
  have HB1 : Hid (Below w.heap.size w w1) := Lib.hid (HB0.out.trans (hb.mono HB0.out.size))
  have HZ1 : Hid (w.heap.size ≤ w1.heap.size) := Lib.hid hb.size
  have HRu1 := Lib.hid (HRu0.out.below HB1.out (Nat.le_refl _))
  have HRc1 := Lib.hid (HRc0.out.below HB1.out (Nat.le_refl _))
  have HKb1 := Lib.hid hk
  replace HZ1 : Hid (w.heap.size < w1.heap.size) := Lib.hid (by omega)
  have HE1 := Lib.hid hz
  clear hb hk hz
  have ltb := lt_of_block HKb1.out
  obtain ⟨cb0, fb0⟩ := cell1 HKb1.out
  refine (l7Amount_any _ _ us cs _ HRu1.out HS.out HRc1.out true ⟨fun _ => HO.out, fun _ => rfl⟩).mono ?_
  rintro e w2 ⟨rfl, hb⟩
  have HB2 : Hid (Below w.heap.size w w2) := Lib.hid (HB1.out.trans (hb.mono HB1.out.size))
  have HZ2 : Hid (w1.heap.size ≤ w2.heap.size) := Lib.hid hb.size
  have HRu2 := Lib.hid (HRu0.out.below HB2.out (Nat.le_refl _))
  have HRc2 := Lib.hid (HRc0.out.below HB2.out (Nat.le_refl _))
  have HKb2 := Lib.hid ((hb.block _ (lt_of_block HKb1.out)).trans HKb1.out)
  clear hb
  clear cb0 fb0 ltb
  have ltb := lt_of_block HKb2.out
  obtain ⟨cb0, fb0⟩ := cell1 HKb2.out
  go_wp2_with fail
  go_loopw [6, 7] (fun s i wr => ∃ (k d : Nat) (ii : Int) (S : ByteArray), k + d = us.length ∧ ii + 1 = (k : Int) ∧ i = .int .i64 ii ∧ s = .string S ∧ Hid (S = joinP (pcD us cs d)) ∧ S.size ≤ 40 * d ∧ wr.heap[w.heap.size]? = some (.cells #[.slice a1 cs.length c1] 27 (0, 0)) ∧ Below w.heap.size w wr) (fun _ i _ => (intOf i + 1).toNat)
  case atStart => exact ⟨us.length, 0, (us.length : Int) - 1, ⟨#[]⟩, by omega, by omega, by go_num, rfl, Lib.hid rfl, Nat.le_refl _, HKb2.out, HB2.out⟩
  case round =>
    obtain ⟨k, d, ii, S, hk, hki, rfl, rfl, HSE, hsz, hkb, hb⟩ := hrel
    have HB := Lib.hid hb
    have HKB := Lib.hid hkb
    by_cases hk0 : 0 < k
    · obtain ⟨m, rfl⟩ : ∃ m, k = m + 1 := ⟨k - 1, by omega⟩
      obtain rfl : ii = (m : Int) := by omega
      have hlt : m < us.length := by omega
      have hlt2 : m < cs.length := by have := HCU.out; omega
      have z1 : (0 : Int) ≤ (m : Int) := by omega
      have z2 : (m : Int) < (us.length : Int) := by omega
      have z3 : (m : Int) < (cs.length : Int) := by omega
      obtain ⟨b1, o1, rfl, _, p0⟩ := A1.out _ hb m hlt2
      obtain ⟨b2, o2, rfl, _, q0, _⟩ := A2.out _ hb m hlt
      obtain ⟨x0, x1⟩ := HO.out.2.2 m hlt2
      have hnm := HNM.out m hlt
      have HZ : Hid (cs[m] = 0 → pcD us cs (d + 1) = pcD us cs d) := Lib.hid (fun h0 => pcD_zero us cs m d (by omega) (by rw [cA_at cs m hlt2]; exact h0))
      have HP : Hid (cs[m] ≠ 0 → pcD us cs (d + 1) = pcD us cs d ++ [ctS cs[m] (nmU us m)]) := Lib.hid (fun h0 => by rw [← cA_at cs m hlt2] at h0 ⊢; exact pcD_more us cs m d (by omega) h0)
      have hsj := joinP_size us cs HO.out d (by omega)
      have HSJ := Lib.hid hsj.2
      generalize cs[m] = x at p0 HZ HP x0 x1
      generalize nmU us m = nm at q0 HP hnm
      have sx := HTS.out x x0 x1
      obtain ⟨cb0, _⟩ := cell1 hkb
      clear hki hk0 hb hkb hsj
      by_cases hx0 : x = 0
      · have HE : Hid (S = joinP (pcD us cs (d + 1))) := Lib.hid (by rw [HZ.out hx0]; exact HSE.out)
        have hd : (x == 0) = true := by rw [hx0]; rfl
        clear hx0
        go_wp2_with fail
        go_roundw
        case rel => exact ⟨m, d + 1, (m : Int) - 1, S, by omega, by omega, by go_num, rfl, HE, by omega, HKB.out, HB.out⟩
        case measure => simp [intOf]
      · have hd : (x == 0) = false := beq_eq_false_iff_ne.2 hx0
        have HP2 := Lib.hid (HP.out hx0)
        clear hx0
        by_cases he : pcD us cs d = []
        · have hS : S = ⟨#[]⟩ := by rw [HSE.out, he]; rfl
          subst hS
          have HE : Hid ((⟨#[]⟩ : ByteArray) ++ T x ++ ⟨#[32]⟩ ++ nm = joinP (pcD us cs (d + 1))) := Lib.hid (by
            rw [HP2.out, he, List.nil_append, joinP_one, HTT.out, ctS]
            congr 1)
          have g1 : ¬ 9223372036854775807 < (⟨#[]⟩ : ByteArray).size + (T x).size := by have : (⟨#[]⟩ : ByteArray).size = 0 := rfl; omega
          have g2 : ¬ 9223372036854775807 < (⟨#[]⟩ : ByteArray).size + (T x).size + 1 := by have : (⟨#[]⟩ : ByteArray).size = 0 := rfl; omega
          have g3 : ¬ 9223372036854775807 < (⟨#[]⟩ : ByteArray).size + (T x).size + 1 + nm.size := by have : (⟨#[]⟩ : ByteArray).size = 0 := rfl; omega
          have g4 : ¬ 9223372036854775807 < (T x).size := by omega
          have g5 : ¬ 9223372036854775807 < (T x).size + 1 := by omega
          have g6 : ¬ 9223372036854775807 < (T x).size + 1 + nm.size := by omega
          clear he
          go_wp2_with fail
          go_quiet ((go_at_call 42; exact Calls.quiet_of (HTC.out _ _ (by omega) (by omega))))
          rename Nat => nq
          have hbq : Below wr.heap.size wr (wr.drewN nq) := bl_drewN (Below.refl _ wr) nq
          have HB2 := Lib.hid (HB.out.trans (hbq.mono HB.out.size))
          have HK2 := Lib.hid ((hbq.block _ (lt_of_block HKB.out)).trans HKB.out)
          clear cb0 p0 q0
          generalize wr.drewN nq = w9 at HB2 HK2 hbq ⊢
          clear hbq
          go_wp2_with fail
          go_roundw
          case rel => exact ⟨m, d + 1, (m : Int) - 1, _, by omega, by omega, by go_num, rfl, HE, by (try simp only [ByteArray.size_append, q32]); (try (have : (⟨#[]⟩ : ByteArray).size = 0 := rfl)); omega, HK2.out, HB2.out⟩
          case measure => simp [intOf]
        · have HNE := Lib.hid (HSJ.out he)
          have hS1 : 1 ≤ S.size := by rw [HSE.out]; exact HNE.out
          have hss : (S.toList == (⟨#[]⟩ : ByteArray).toList) = false := neS (size_ne hS1)
          have hss3 := ne_empty7 hS1
          have hss2 : (!S.toList.isEmpty) = true := by rw [hss3]; rfl
          have HE : Hid (S ++ ⟨#[44, 32]⟩ ++ T x ++ ⟨#[32]⟩ ++ nm = joinP (pcD us cs (d + 1))) := Lib.hid (by
            rw [HP2.out, joinP_snoc _ _ he, HTT.out, ctS, HSE.out]
            simp [ByteArray.append_assoc])
          have g0 : ¬ 9223372036854775807 < S.size + 2 := by omega
          have g1 : ¬ 9223372036854775807 < S.size + 2 + (T x).size := by omega
          have g2 : ¬ 9223372036854775807 < S.size + 2 + (T x).size + 1 := by omega
          have g3 : ¬ 9223372036854775807 < S.size + 2 + (T x).size + 1 + nm.size := by omega
          clear he
          go_wp2_with fail
          go_quiet ((go_at_call 42; exact Calls.quiet_of (HTC.out _ _ (by omega) (by omega))))
          rename Nat => nq
          have hbq : Below wr.heap.size wr (wr.drewN nq) := bl_drewN (Below.refl _ wr) nq
          have HB2 := Lib.hid (HB.out.trans (hbq.mono HB.out.size))
          have HK2 := Lib.hid ((hbq.block _ (lt_of_block HKB.out)).trans HKB.out)
          clear cb0 p0 q0
          generalize wr.drewN nq = w9 at HB2 HK2 hbq ⊢
          clear hbq
          go_wp2_with fail
          go_roundw
          case rel => exact ⟨m, d + 1, (m : Int) - 1, _, by omega, by omega, by go_num, rfl, HE, by simp only [ByteArray.size_append, q32, q44]; omega, HK2.out, HB2.out⟩
          case measure => simp [intOf]
    · obtain rfl : k = 0 := by omega
      obtain rfl : ii = -1 := by omega
      obtain rfl : d = us.length := by omega
      obtain ⟨b2, o2, rfl, _, q0, _⟩ := A2.out _ hb 0 (by omega)
      have hnm := HNM.out 0 (by omega)
      have hsj := joinP_size us cs HO.out us.length (Nat.le_refl _)
      by_cases he : pcD us cs us.length = []
      · have hS : S = ⟨#[]⟩ := by rw [HSE.out, he]; rfl
        subst hS
        have HE : Hid ((⟨#[48, 32]⟩ : ByteArray) ++ nmU us 0 = atT us cs) := Lib.hid (by rw [ctS_zero, atT, if_pos he])
        have q0' : wr.cell? ⟨b2, o2, none⟩ = some (.string (nmU us 0)) := by simpa using q0
        have z0 : (0 : Int) < (us.length : Int) := by omega
        have g1 : ¬ 9223372036854775807 < 2 + (nmU us 0).size := by omega
        generalize nmU us 0 = nm at q0 q0' HE hnm g1
        clear hki hk0 hb hkb hsj he
        go_wp2_with fail
        go_ret2
        exact ⟨by rw [← HE.out]; rfl, HB.out⟩
      · have hS1 : 1 ≤ S.size := by rw [HSE.out]; exact hsj.2 he
        have hss3 := ne_empty7 hS1
        have HE : Hid (S = atT us cs) := Lib.hid (by rw [HSE.out, atT, if_neg he])
        clear hki hk0 hb hkb hsj he
        go_wp2_with fail
        go_ret2
        exact ⟨by rw [← HE.out]; rfl, HB.out⟩
set_option maxRecDepth 100000 in
set_option maxHeartbeats 800000 in
theorem sText_any (v sv : Value) (us : List Un) (cs : List Int) (w : World) (h : RowsR 2 unC w v us) (hs : ∀ u ∈ us, u.nm.size ≤ maxLen) (hc : RowsR 1 inC w sv cs) (s : ByteArray) (t : Bool) (hk : AtF us cs s t) :
    Calls Tryd.prog 19 #[v, .agg #[sv]] w fun e w' => e = .returned (.tuple #[.string s, .bool t]) ∧ Below w.heap.size w w' := by
  rcases hk with ⟨ho, rfl, rfl⟩ | ⟨ho, rfl, rfl⟩
  · exact sText_yes v sv us cs w h hs hc ho
  · obtain ⟨a1, c1, rfl⟩ := hc.form
    have HN := Lib.hid ho
    have HS := Lib.hid hs
    have HB0 : Hid (Below w.heap.size w w) := Lib.hid (Below.refl _ _)
    have HRu0 := Lib.hid (h)
    have HRc0 := Lib.hid (hc)
    clear h hc hs ho
    go_enter Tryd.func19, Tryd.ntmps19
    go_wp2_with fail
    have hb : Below w.heap.size w (w.alloc (.cells #[.slice a1 cs.length c1] 27)) := (Below.refl _ _).alloc (Nat.le_refl _) _
    have hk : (w.alloc (.cells #[.slice a1 cs.length c1] 27)).heap[w.heap.size]? = some (.cells #[.slice a1 cs.length c1] 27 (0, 0)) := alloc_at rfl
    have hz : (w.alloc (.cells #[.slice a1 cs.length c1] 27)).heap.size = w.heap.size + 1 := by simp
    generalize w.alloc (.cells #[.slice a1 cs.length c1] 27) = w1 at hb hk hz ⊢
    have HB1 : Hid (Below w.heap.size w w1) := Lib.hid (HB0.out.trans (hb.mono HB0.out.size))
    have HZ1 : Hid (w.heap.size ≤ w1.heap.size) := Lib.hid hb.size
    have HRu1 := Lib.hid (HRu0.out.below HB1.out (Nat.le_refl _))
    have HRc1 := Lib.hid (HRc0.out.below HB1.out (Nat.le_refl _))
    have HKb1 := Lib.hid hk
    replace HZ1 : Hid (w.heap.size < w1.heap.size) := Lib.hid (by omega)
    have HE1 := Lib.hid hz
    clear hb hk hz
    have ltb := lt_of_block HKb1.out
    obtain ⟨cb0, fb0⟩ := cell1 HKb1.out
    refine (l7Amount_any _ _ us cs _ HRu1.out HS.out HRc1.out false ⟨fun e => (by simp at e), fun e => absurd e HN.out⟩).mono ?_
    rintro e w2 ⟨rfl, hb⟩
    have HB2 : Hid (Below w.heap.size w w2) := Lib.hid (HB1.out.trans (hb.mono HB1.out.size))
    have HZ2 : Hid (w1.heap.size ≤ w2.heap.size) := Lib.hid hb.size
    have HRu2 := Lib.hid (HRu0.out.below HB2.out (Nat.le_refl _))
    have HRc2 := Lib.hid (HRc0.out.below HB2.out (Nat.le_refl _))
    have HKb2 := Lib.hid ((hb.block _ (lt_of_block HKb1.out)).trans HKb1.out)
    clear hb
    clear cb0 fb0 ltb
    have ltb := lt_of_block HKb2.out
    obtain ⟨cb0, fb0⟩ := cell1 HKb2.out
    go_wp2_with fail
    go_ret2
    exact ⟨rfl, HB2.out⟩
end Go.Proofs.YtghdmiimanhjgaaDoor
