/- The model's ParseFrame. -/
import Derived.Test.YtbnfbpbfbdbiaaaPar
import Derived.Test.YtbnfbpbfbdbiaaaSplit
import Derived.Test.YtbnfbpbfbdbiaaaSet
import Derived.Deep.Cut
import Derived.Deep.RegionHeld3
namespace Go.Proofs.Ytbnfbpbfbdbiaaa
set_option linter.unusedVariables false
open Go.RowKit

/-- A word of two bytes as a rod. -/
def dW (x : List UInt8) : Int × Int := (((x.getD 0 0).toNat : Int) - 48, ((x.getD 1 0).toNat : Int) - 48)
theorem chD_ne (x : Int) (h0 : 0 ≤ x) (h1 : x ≤ 9) : chD x ≠ 32 := by
  intro e
  have := chD_nat x h0 h1
  rw [e] at this
  have h32 : ((32 : UInt8).toNat : Int) = 32 := by decide
  omega
/-- The words of a frame's text. -/
theorem spl_rods : ∀ (rs : List (Int × Int)) (l : List UInt8), (32 : UInt8) ∉ l → (∀ i (h : i < rs.length), (0 ≤ rs[i].1 ∧ rs[i].1 ≤ 9) ∧ (0 ≤ rs[i].2 ∧ rs[i].2 ≤ 9)) → spl 32 (l ++ rodsT rs) = l :: rs.map fun r => [chD r.1, chD r.2]
  | [], l, hl, _ => by rw [rodsT, List.append_nil, spl_none 32 l hl]; rfl
  | r :: t, l, hl, h => by
    have h0 := h 0 (by simp)
    have hm : (32 : UInt8) ∉ [chD r.1, chD r.2] := by
      intro hc
      simp only [List.mem_cons, List.not_mem_nil, or_false] at hc
      rcases hc with hc | hc
      · exact chD_ne r.1 h0.1.1 h0.1.2 hc.symm
      · exact chD_ne r.2 h0.2.1 h0.2.2 hc.symm
    have ih := spl_rods t [chD r.1, chD r.2] hm (fun i hi => h (i + 1) (by simpa using hi))
    rw [rodsT, spl_hit 32 _ l hl]
    show l :: spl 32 ([chD r.1, chD r.2] ++ rodsT t) = _
    rw [ih]
    rfl
theorem spl_text (up lo : Int) (rs : List (Int × Int)) (hg : goodF up lo rs) : spl 32 (textF up lo rs) = [chD up, 47, chD lo] :: rs.map fun r => [chD r.1, chD r.2] := by
  obtain ⟨h1, h2, h3⟩ := good_dig up lo rs hg
  refine spl_rods rs [chD up, 47, chD lo] ?_ h3
  intro hc
  simp only [List.mem_cons, List.not_mem_nil, or_false] at hc
  rcases hc with hc | hc | hc
  · exact chD_ne up h1.1 h1.2 hc.symm
  · exact absurd hc (by decide)
  · exact chD_ne lo h2.1 h2.2 hc.symm
theorem dW_ch (r : Int × Int) (h1 : 0 ≤ r.1 ∧ r.1 ≤ 9) (h2 : 0 ≤ r.2 ∧ r.2 ≤ 9) : dW [chD r.1, chD r.2] = r := by
  have a := chD_nat r.1 h1.1 h1.2
  have b := chD_nat r.2 h2.1 h2.2
  refine Prod.ext ?_ ?_
  · show ((chD r.1).toNat : Int) - 48 = r.1
    omega
  · show ((chD r.2).toNat : Int) - 48 = r.2
    omega
/-- The text's words, decoded, are the frame, if it is one's text. -/
theorem words_of (s : ByteArray) (up lo : Int) (rs : List (Int × Int)) (h : IsT s up lo rs) :
    spl 32 s.data.toList = [chD up, 47, chD lo] :: rs.map (fun r => [chD r.1, chD r.2]) ∧ (rs.map (fun r => [chD r.1, chD r.2])).map dW = rs ∧ ((chD up).toNat : Int) - 48 = up ∧ ((chD lo).toNat : Int) - 48 = lo := by
  obtain ⟨h1, h2, h3⟩ := good_dig up lo rs h.1
  refine ⟨by rw [← h.2]; exact spl_text up lo rs h.1, ?_, ?_, ?_⟩
  · rw [List.map_map]
    apply List.ext_getElem
    · simp
    · intro i hi hi2
      rw [List.getElem_map]
      exact dW_ch _ (h3 i hi2).1 (h3 i hi2).2
  · rw [chD_nat up h1.1 h1.2]; omega
  · rw [chD_nat lo h2.1 h2.2]; omega
theorem ixL (l : List UInt8) (i : Int) (q : Nat) (h : i = (q : Int)) (hq : q < l.length) (w : World) :
    (Instr.index 9 (.string ⟨l.toArray⟩) (.int .i64 i)).run Try.prog w = .ok (.int .u8 (l[q].toNat : Int)) w := by
  subst h
  have hz : q < (⟨l.toArray⟩ : ByteArray).size := by rw [mk_size]; exact hq
  rw [run_index_string w _ _ .i64 q Try.underlying9, dif_pos ⟨by omega, by omega⟩]
  rfl

set_option maxHeartbeats 1600000 in
theorem specParse_short (s : ByteArray) (w : World) (hs : s.size ≤ 1048576) (W : List (List UInt8)) (hW : spl 32 s.data.toList = W) (hN : 0 < W.length) (h : W[0].length ≠ 3) :
    Calls Try.prog 49 #[.string s] w fun e w' => e = .returned (.tuple #[.agg #[.int .i64 0, .int .i64 0, .slice none 0 0], .bool false]) ∧ Below w.heap.size w w' := by
  have HS : Hid (∀ w : World, Calls Try.prog 70 #[.string s, .int .u8 32] w fun e w' => (∃ v, e = .returned v ∧ w'.ownsRow w.heap.size 9 1 v W.length (W.map strV)) ∧ Below w.heap.size w w') := Lib.hid fun w => by
    have := l1Split_any s 32 w hs
    rw [hW] at this
    exact this.mono fun e w' ⟨v, h1, h2, h3⟩ => ⟨⟨v, h1, h2⟩, h3⟩
  have hc : ∀ w' : World, ∀ B g cap, w'.ownsRow B 9 1 (.slice (some ⟨g, 0, none⟩) W.length cap) W.length (W.map strV) → w'.cell? ⟨g, 0, none⟩ = some (.string ⟨W[0].toArray⟩) := fun w' B g cap ho => by
    have := ho.cellAt 0 (by omega)
    rw [this, List.getElem?_map, List.getElem?_eq_getElem hN]; rfl
  have hsz : (⟨W[0].toArray⟩ : ByteArray).size = W[0].length := mk_size _
  generalize (⟨W[0].toArray⟩ : ByteArray) = sx at hc hsz
  have hx1 : ((sx.size : Int) != 3) = true := by rw [bne_iff_ne]; omega
  have hx2 : ((sx.size : Int) == 3) = false := by rw [beq_eq_false_iff_ne]; omega
  have z0 : (0 : Int) < (W.length : Int) := by omega
  clear h hsz
  have HB0 : Hid (Below w.heap.size w w) := Lib.hid (Below.refl _ _)
  go_enter Try.func49, Try.ntmps49
  go_wp2_with fail
  have hb : Below w.heap.size w (w.alloc (.cells #[.int .i64 0, .int .i64 0, .slice none 0 0] 28)) := (Below.refl _ _).alloc (Nat.le_refl _) _
  have hk : (w.alloc (.cells #[.int .i64 0, .int .i64 0, .slice none 0 0] 28)).heap[w.heap.size]? = some (.cells #[.int .i64 0, .int .i64 0, .slice none 0 0] 28 (0, 0)) := alloc_at rfl
  have hz : (w.alloc (.cells #[.int .i64 0, .int .i64 0, .slice none 0 0] 28)).heap.size = w.heap.size + 1 := by simp
  generalize w.alloc (.cells #[.int .i64 0, .int .i64 0, .slice none 0 0] 28) = w1 at hb hk hz ⊢
  have HB1 : Hid (Below w.heap.size w w1) := Lib.hid (HB0.out.trans (hb.mono HB0.out.size))
  have HZ1 : Hid (w.heap.size ≤ w1.heap.size) := Lib.hid hb.size
  have HKz1 := Lib.hid hk
  replace HZ1 : Hid (w.heap.size < w1.heap.size) := Lib.hid (by omega)
  have HE1 := Lib.hid hz
  clear hb hk hz
  refine (HS.out _).mono ?_
  rintro e w2 ⟨⟨v, rfl, ho⟩, hb⟩
  have HB2 : Hid (Below w.heap.size w w2) := Lib.hid (HB1.out.trans (hb.mono HB1.out.size))
  have HZ2 : Hid (w1.heap.size ≤ w2.heap.size) := Lib.hid hb.size
  have HKz2 := Lib.hid ((hb.block _ (lt_of_block HKz1.out)).trans HKz1.out)
  clear hb
  obtain ⟨g, cap, rfl⟩ := own_block ho hN
  have hc0 := hc _ _ _ _ ho
  clear ho hc
  have ltz := lt_of_block HKz2.out
  obtain ⟨cz0, cz1, cz2, fz0, fz1, fz2⟩ := cell3 HKz2.out
  go_wp2_with fail
  exact bodyPost_ret (v := .tuple #[.agg #[.int .i64 0, .int .i64 0, .slice none 0 0], .bool false]) (by simp [results, Try.results49, go_sem, cz0, cz1, cz2]) rfl ⟨rfl, bl_set3 HB2.out (Nat.le_refl _) _ _ _⟩
set_option maxHeartbeats 1600000 in
theorem specParse_many (s : ByteArray) (w : World) (hs : s.size ≤ 1048576) (W : List (List UInt8)) (hW : spl 32 s.data.toList = W) (hN : 9 < W.length) (hl : W.length ≤ 2000000) (h : W[0].length = 3) :
    Calls Try.prog 49 #[.string s] w fun e w' => e = .returned (.tuple #[.agg #[.int .i64 0, .int .i64 0, .slice none 0 0], .bool false]) ∧ Below w.heap.size w w' := by
  have HS : Hid (∀ w : World, Calls Try.prog 70 #[.string s, .int .u8 32] w fun e w' => (∃ v, e = .returned v ∧ w'.ownsRow w.heap.size 9 1 v W.length (W.map strV)) ∧ Below w.heap.size w w') := Lib.hid fun w => by
    have := l1Split_any s 32 w hs
    rw [hW] at this
    exact this.mono fun e w' ⟨v, h1, h2, h3⟩ => ⟨⟨v, h1, h2⟩, h3⟩
  have hc : ∀ w' : World, ∀ B g cap, w'.ownsRow B 9 1 (.slice (some ⟨g, 0, none⟩) W.length cap) W.length (W.map strV) → w'.cell? ⟨g, 0, none⟩ = some (.string ⟨W[0].toArray⟩) := fun w' B g cap ho => by
    have := ho.cellAt 0 (by omega)
    rw [this, List.getElem?_map, List.getElem?_eq_getElem (by omega)]; rfl
  have hsz : (⟨W[0].toArray⟩ : ByteArray).size = W[0].length := mk_size _
  generalize (⟨W[0].toArray⟩ : ByteArray) = sx at hc hsz
  have hx1 : ((sx.size : Int) != 3) = false := by rw [bne_eq_false_iff_eq]; omega
  have hx2 : ((sx.size : Int) == 3) = true := by rw [beq_iff_eq]; omega
  have z0 : (0 : Int) < (W.length : Int) := by omega
  have z1 : (9 : Int) < (W.length : Int) := by omega
  clear h hsz
  have HB0 : Hid (Below w.heap.size w w) := Lib.hid (Below.refl _ _)
  go_enter Try.func49, Try.ntmps49
  go_wp2_with fail
  have hb : Below w.heap.size w (w.alloc (.cells #[.int .i64 0, .int .i64 0, .slice none 0 0] 28)) := (Below.refl _ _).alloc (Nat.le_refl _) _
  have hk : (w.alloc (.cells #[.int .i64 0, .int .i64 0, .slice none 0 0] 28)).heap[w.heap.size]? = some (.cells #[.int .i64 0, .int .i64 0, .slice none 0 0] 28 (0, 0)) := alloc_at rfl
  have hz : (w.alloc (.cells #[.int .i64 0, .int .i64 0, .slice none 0 0] 28)).heap.size = w.heap.size + 1 := by simp
  generalize w.alloc (.cells #[.int .i64 0, .int .i64 0, .slice none 0 0] 28) = w1 at hb hk hz ⊢
  have HB1 : Hid (Below w.heap.size w w1) := Lib.hid (HB0.out.trans (hb.mono HB0.out.size))
  have HZ1 : Hid (w.heap.size ≤ w1.heap.size) := Lib.hid hb.size
  have HKz1 := Lib.hid hk
  replace HZ1 : Hid (w.heap.size < w1.heap.size) := Lib.hid (by omega)
  have HE1 := Lib.hid hz
  clear hb hk hz
  refine (HS.out _).mono ?_
  rintro e w2 ⟨⟨v, rfl, ho⟩, hb⟩
  have HB2 : Hid (Below w.heap.size w w2) := Lib.hid (HB1.out.trans (hb.mono HB1.out.size))
  have HZ2 : Hid (w1.heap.size ≤ w2.heap.size) := Lib.hid hb.size
  have HKz2 := Lib.hid ((hb.block _ (lt_of_block HKz1.out)).trans HKz1.out)
  clear hb
  obtain ⟨g, cap, rfl⟩ := own_block ho (by omega)
  have hc0 := hc _ _ _ _ ho
  clear ho hc
  have ltz := lt_of_block HKz2.out
  obtain ⟨cz0, cz1, cz2, fz0, fz1, fz2⟩ := cell3 HKz2.out
  go_wp2_with fail
  exact bodyPost_ret (v := .tuple #[.agg #[.int .i64 0, .int .i64 0, .slice none 0 0], .bool false]) (by simp [results, Try.results49, go_sem, cz0, cz1, cz2]) rfl ⟨rfl, bl_set3 HB2.out (Nat.le_refl _) _ _ _⟩

set_option maxRecDepth 100000 in
set_option maxHeartbeats 2600000 in
theorem specParse_core (s : ByteArray) (w : World) (hs : s.size ≤ 1048576) (W : List (List UInt8)) (hW : spl 32 s.data.toList = W) (hN : 0 < W.length) (hN9 : W.length ≤ 9) (a0 a1 a2 : UInt8) (h0 : W[0] = [a0, a1, a2]) (p : Nat) (hp : 1 ≤ p ∧ p ≤ W.length) (hpre : ∀ i (h : i < W.length), 1 ≤ i → i < p → W[i].length = 2) (hx : ∀ h : p < W.length, W[p].length ≠ 2)
    (ok : Bool) (fu fl : Int) (qs : List (Int × Int))
    (hok : (ok = true ∧ p = W.length ∧ fu = (a0.toNat : Int) - 48 ∧ fl = (a2.toNat : Int) - 48 ∧ qs = (W.drop 1).map dW ∧ IsT s fu fl qs) ∨ (ok = false ∧ fu = 0 ∧ fl = 0 ∧ qs = [] ∧ (p = W.length → ¬ IsT s ((a0.toNat : Int) - 48) ((a2.toNat : Int) - 48) ((W.drop 1).map dW)))) :
    Calls Try.prog 49 #[.string s] w fun e w' => (∃ v, e = .returned (.tuple #[.agg #[.int .i64 fu, .int .i64 fl, v], .bool ok]) ∧ RodsR w' v qs) ∧ Below w.heap.size w w' := by
  obtain ⟨i0, hi, hz0, hz1, hz2⟩ := info_parts Try.infoRod
  have HS : Hid (∀ w : World, Calls Try.prog 70 #[.string s, .int .u8 32] w fun e w' => (∃ v, e = .returned v ∧ w'.ownsRow w.heap.size 9 1 v W.length (W.map strV)) ∧ Below w.heap.size w w') := Lib.hid fun w => by
    have := l1Split_any s 32 w hs
    rw [hW] at this
    exact this.mono fun e w' ⟨v, h1, h2, h3⟩ => ⟨⟨v, h1, h2⟩, h3⟩
  have hc : ∀ w' : World, ∀ B g cap, w'.ownsRow B 9 1 (.slice (some ⟨g, 0, none⟩) W.length cap) W.length (W.map strV) → ∀ i (h : i < W.length), w'.cell? ⟨g, i, none⟩ = some (.string ⟨W[i].toArray⟩) := fun w' B g cap ho i h => by
    have := ho.cellAt i (by omega)
    rw [this, List.getElem?_map, List.getElem?_eq_getElem h]; rfl
  have z0 : (0 : Int) < (W.length : Int) := by omega
  have z9 : (W.length : Int) ≤ 9 := by omega
  have HK := Lib.hid hok
  have HX := Lib.hid hx
  have HP := Lib.hid hpre
  have H0 := Lib.hid h0
  clear hok hx hpre
  have b0 : 0 ≤ (a0.toNat : Int) ∧ (a0.toNat : Int) ≤ 255 := by have := a0.toNat_lt; omega
  have b2 : 0 ≤ (a2.toNat : Int) ∧ (a2.toNat : Int) ≤ 255 := by have := a2.toNat_lt; omega
  obtain ⟨b00, b01⟩ := b0
  obtain ⟨b20, b21⟩ := b2
  have j0 := ixL [a0, a1, a2] 0 0 rfl (by simp)
  have j2 := ixL [a0, a1, a2] 2 2 rfl (by simp)
  have HB0 : Hid (Below w.heap.size w w) := Lib.hid (Below.refl _ _)
  go_enter Try.func49, Try.ntmps49
  go_wp2_with fail
  have hb : Below w.heap.size w (w.alloc (.cells #[.int .i64 0, .int .i64 0, .slice none 0 0] 28)) := (Below.refl _ _).alloc (Nat.le_refl _) _
  have hk : (w.alloc (.cells #[.int .i64 0, .int .i64 0, .slice none 0 0] 28)).heap[w.heap.size]? = some (.cells #[.int .i64 0, .int .i64 0, .slice none 0 0] 28 (0, 0)) := alloc_at rfl
  have hz : (w.alloc (.cells #[.int .i64 0, .int .i64 0, .slice none 0 0] 28)).heap.size = w.heap.size + 1 := by simp
  generalize w.alloc (.cells #[.int .i64 0, .int .i64 0, .slice none 0 0] 28) = w1 at hb hk hz ⊢
  have HB1 : Hid (Below w.heap.size w w1) := Lib.hid (HB0.out.trans (hb.mono HB0.out.size))
  have HZ1 : Hid (w.heap.size ≤ w1.heap.size) := Lib.hid hb.size
  have HKz1 := Lib.hid hk
  replace HZ1 : Hid (w.heap.size < w1.heap.size) := Lib.hid (by omega)
  have HE1 := Lib.hid hz
  clear hb hk hz
  refine (HS.out _).mono ?_
  rintro e w2 ⟨⟨v, rfl, ho⟩, hb⟩
  have HB2 : Hid (Below w.heap.size w w2) := Lib.hid (HB1.out.trans (hb.mono HB1.out.size))
  have HZ2 : Hid (w1.heap.size ≤ w2.heap.size) := Lib.hid hb.size
  have HKz2 := Lib.hid ((hb.block _ (lt_of_block HKz1.out)).trans HKz1.out)
  clear hb
  obtain ⟨g, cap, rfl⟩ := own_block ho hN
  have HCW := Lib.hid (hc _ _ _ _ ho)
  have hc0 := hc _ _ _ _ ho 0 hN
  rw [h0] at hc0
  have hgl : g < w2.heap.size := (ho.lt g rfl).2
  clear ho hc h0
  have ltz := lt_of_block HKz2.out
  obtain ⟨cz0, cz1, cz2, fz0, fz1, fz2⟩ := cell3 HKz2.out
  go_wp2_with fail
  have hw2 : w.heap.size < w2.heap.size := ltz
  have HRA : Hid (∃ (ob : Nat) (v : Value), Value.pointer (some ⟨w2.heap.size + 1, 0, none⟩) = Value.pointer (some ⟨ob, 0, none⟩) ∧ ((w2.alloc (.cells #[] 69)).alloc (.cells #[.int .i64 ((a0.toNat : Int) - 48), .int .i64 ((a2.toNat : Int) - 48), .slice (some ⟨w2.heap.size, 0, none⟩) 0 0] 28)).drew.heap[ob]? = some (.cells #[.int .i64 ((a0.toNat : Int) - 48), .int .i64 ((a2.toNat : Int) - 48), v] 28 (0, 0)) ∧ ((w2.alloc (.cells #[] 69)).alloc (.cells #[.int .i64 ((a0.toNat : Int) - 48), .int .i64 ((a2.toNat : Int) - 48), .slice (some ⟨w2.heap.size, 0, none⟩) 0 0] 28)).drew.ownsRow w2.heap.size 69 2 v 0 [] ∧ v.ownBlock ≠ some ob ∧ w2.heap.size ≤ ob ∧ Below w2.heap.size w2 ((w2.alloc (.cells #[] 69)).alloc (.cells #[.int .i64 ((a0.toNat : Int) - 48), .int .i64 ((a2.toNat : Int) - 48), .slice (some ⟨w2.heap.size, 0, none⟩) 0 0] 28)).drew) := Lib.hid ⟨w2.heap.size + 1, .slice (some ⟨w2.heap.size, 0, none⟩) 0 0, rfl, alloc_at (by simp), (World.ownsRow_lit w2 #[] 0 (Nat.le_refl _) (Nat.zero_le _) rfl).alloc _, by simp [Value.ownBlock], by omega, (((Below.refl _ _).alloc (Nat.le_refl _) _).alloc (by simp) _).drew⟩
  have HRB : Hid (∃ (ob : Nat) (v : Value), Value.pointer (some ⟨w2.heap.size, 0, none⟩) = Value.pointer (some ⟨ob, 0, none⟩) ∧ ((w2.alloc (.cells #[.int .i64 ((a0.toNat : Int) - 48), .int .i64 ((a2.toNat : Int) - 48), .slice (some ⟨w2.heap.size + 1, 0, none⟩) 0 0] 28)).alloc (.cells #[] 69)).drew.heap[ob]? = some (.cells #[.int .i64 ((a0.toNat : Int) - 48), .int .i64 ((a2.toNat : Int) - 48), v] 28 (0, 0)) ∧ ((w2.alloc (.cells #[.int .i64 ((a0.toNat : Int) - 48), .int .i64 ((a2.toNat : Int) - 48), .slice (some ⟨w2.heap.size + 1, 0, none⟩) 0 0] 28)).alloc (.cells #[] 69)).drew.ownsRow w2.heap.size 69 2 v 0 [] ∧ v.ownBlock ≠ some ob ∧ w2.heap.size ≤ ob ∧ Below w2.heap.size w2 ((w2.alloc (.cells #[.int .i64 ((a0.toNat : Int) - 48), .int .i64 ((a2.toNat : Int) - 48), .slice (some ⟨w2.heap.size + 1, 0, none⟩) 0 0] 28)).alloc (.cells #[] 69)).drew) := Lib.hid (by
    have ho := World.ownsRow_lit (base := w2.heap.size) (e := 69) (size := 2) (w2.alloc (.cells #[.int .i64 ((a0.toNat : Int) - 48), .int .i64 ((a2.toNat : Int) - 48), .slice (some ⟨w2.heap.size + 1, 0, none⟩) 0 0] 28)) #[] 0 (by simp) (Nat.zero_le _) rfl
    rw [show (w2.alloc (.cells #[.int .i64 ((a0.toNat : Int) - 48), .int .i64 ((a2.toNat : Int) - 48), .slice (some ⟨w2.heap.size + 1, 0, none⟩) 0 0] 28)).heap.size = w2.heap.size + 1 by simp] at ho
    exact ⟨w2.heap.size, .slice (some ⟨w2.heap.size + 1, 0, none⟩) 0 0, rfl, (alloc_old (by simp)).trans (alloc_at rfl), ho, by simp [Value.ownBlock], Nat.le_refl _, (((Below.refl _ _).alloc (Nat.le_refl _) _).alloc (by simp) _).drew⟩)
  go_cut [5] from 20 (fun pp wc => ∃ (ob : Nat) (v : Value), pp = Value.pointer (some ⟨ob, 0, none⟩) ∧ wc.heap[ob]? = some (.cells #[.int .i64 ((a0.toNat : Int) - 48), .int .i64 ((a2.toNat : Int) - 48), v] 28 (0, 0)) ∧ wc.ownsRow w2.heap.size 69 2 v 0 [] ∧ v.ownBlock ≠ some ob ∧ w2.heap.size ≤ ob ∧ Below w2.heap.size w2 wc)
  case first =>
    refine wp_region_held_drew (S := (fun w' => w'.cell? ⟨g, 0, none⟩ = some (.string ⟨#[a0, a1, a2]⟩))) (by kernel_rfl) ?_ (fun hHeld => ?_)
    · exact hc0
    refine wpAnyH_take (i := 0) (v := .slice (some ⟨g, 0, none⟩) W.length cap) rfl (by kernel_rfl) (by kernel_rfl) (by kernel_rfl) (fun _ _ _ h => h) (Or.inl ⟨by rfl, ?_⟩) (by assumption) ?_
    · intro w hSw
      try dsimp only at hSw
      go_simp
    refine wpAnyH_take (i := 1) (v := .pointer (some ⟨g, 0, none⟩)) rfl (by kernel_rfl) (by kernel_rfl) (by kernel_rfl) (fun _ _ _ h => h) (Or.inl ⟨by rfl, ?_⟩) (by assumption) ?_
    · intro w hSw
      try dsimp only at hSw
      go_simp
    refine wpAnyH_take (i := 2) (v := .string ⟨#[a0, a1, a2]⟩) rfl (by kernel_rfl) (by kernel_rfl) (by kernel_rfl) (fun _ _ _ h => h) (Or.inl ⟨by rfl, ?_⟩) (by assumption) ?_
    · intro w hSw
      try dsimp only at hSw
      go_simp
    refine wpAnyH_take (i := 3) (v := .int .u8 (a0.toNat : Int)) rfl (by kernel_rfl) (by kernel_rfl) (by kernel_rfl) (fun _ _ _ h => h) (Or.inl ⟨by rfl, ?_⟩) (by assumption) ?_
    · intro w hSw
      try dsimp only at hSw
      go_simp
    refine wpAnyH_take (i := 4) (v := .int .i64 (a0.toNat : Int)) rfl (by kernel_rfl) (by kernel_rfl) (by kernel_rfl) (fun _ _ _ h => h) (Or.inl ⟨by rfl, ?_⟩) (by assumption) ?_
    · intro w hSw
      try dsimp only at hSw
      go_simp
      rw [IntKind.wrap_i64]
      omega
    refine wpAnyH_take (i := 5) (v := .int .i64 ((a0.toNat : Int) - 48)) rfl (by kernel_rfl) (by kernel_rfl) (by kernel_rfl) (fun _ _ _ h => h) (Or.inl ⟨by rfl, ?_⟩) (by assumption) ?_
    · intro w hSw
      try dsimp only at hSw
      go_simp
      rw [IntKind.wrap_i64]
      omega
    refine wpAnyH_take (i := 6) (v := .slice (some ⟨g, 0, none⟩) W.length cap) rfl (by kernel_rfl) (by kernel_rfl) (by kernel_rfl) (fun _ _ _ h => h) (Or.inl ⟨by rfl, ?_⟩) (by assumption) ?_
    · intro w hSw
      try dsimp only at hSw
      go_simp
    refine wpAnyH_take (i := 7) (v := .pointer (some ⟨g, 0, none⟩)) rfl (by kernel_rfl) (by kernel_rfl) (by kernel_rfl) (fun _ _ _ h => h) (Or.inl ⟨by rfl, ?_⟩) (by assumption) ?_
    · intro w hSw
      try dsimp only at hSw
      go_simp
    refine wpAnyH_take (i := 8) (v := .string ⟨#[a0, a1, a2]⟩) rfl (by kernel_rfl) (by kernel_rfl) (by kernel_rfl) (fun _ _ _ h => h) (Or.inl ⟨by rfl, ?_⟩) (by assumption) ?_
    · intro w hSw
      try dsimp only at hSw
      go_simp
    refine wpAnyH_take (i := 9) (v := .int .u8 (a2.toNat : Int)) rfl (by kernel_rfl) (by kernel_rfl) (by kernel_rfl) (fun _ _ _ h => h) (Or.inl ⟨by rfl, ?_⟩) (by assumption) ?_
    · intro w hSw
      try dsimp only at hSw
      go_simp
    refine wpAnyH_take (i := 10) (v := .int .i64 (a2.toNat : Int)) rfl (by kernel_rfl) (by kernel_rfl) (by kernel_rfl) (fun _ _ _ h => h) (Or.inl ⟨by rfl, ?_⟩) (by assumption) ?_
    · intro w hSw
      try dsimp only at hSw
      go_simp
      rw [IntKind.wrap_i64]
      omega
    refine wpAnyH_take (i := 11) (v := .int .i64 ((a2.toNat : Int) - 48)) rfl (by kernel_rfl) (by kernel_rfl) (by kernel_rfl) (fun _ _ _ h => h) (Or.inl ⟨by rfl, ?_⟩) (by assumption) ?_
    · intro w hSw
      try dsimp only at hSw
      go_simp
      rw [IntKind.wrap_i64]
      omega
    refine wpAnyH_ready (rs := [12, 14]) (by kernel_rfl) (by simp) ?_
    refine AllReadyH.cons rfl (fun K hK => ?_) ?_
    · go_simp
      refine hK.out _ _ ?_ (fun hHeld => ?_)
      · first
          | go_keep
          | exact hHeld
      clear hK K
      refine wpAnyH_take (i := 13) (v := .agg #[.int .i64 ((a0.toNat : Int) - 48), .int .i64 ((a2.toNat : Int) - 48), .slice (some ⟨w2.heap.size, 0, none⟩) 0 0]) rfl (by kernel_rfl) (by kernel_rfl) (by kernel_rfl) (fun _ _ _ h => h) (Or.inl ⟨by rfl, ?_⟩) (by assumption) ?_
      · intro w hSw
        try dsimp only at hSw
        go_simp
      refine wpAnyH_ready (rs := [14]) (by kernel_rfl) (by simp) ?_
      refine AllReadyH.cons rfl (fun K hK => ?_) ?_
      · go_simp
        refine hK.out _ _ ?_ (fun hHeld => ?_)
        · first
            | go_keep
            | exact hHeld
        clear hK K
        refine wpAnyH_ready (rs := [15]) (by kernel_rfl) (by simp) ?_
        refine AllReadyH.cons rfl (fun K hK => ?_) ?_
        · go_simp
          refine hK.out _ _ ?_ (fun hHeld => ?_)
          · first
              | go_keep
              | exact hHeld
          clear hK K
          refine wpAnyH_done (by kernel_rfl) ?_ _
          go_wp2_with fail
          go_meet
          exact HRA.out
        exact AllReadyH.nil
      exact AllReadyH.nil
    refine AllReadyH.cons rfl (fun K hK => ?_) ?_
    · go_simp
      refine hK.out _ _ ?_ (fun hHeld => ?_)
      · first
          | go_keep
          | exact hHeld
      clear hK K
      refine wpAnyH_ready (rs := [12]) (by kernel_rfl) (by simp) ?_
      refine AllReadyH.cons rfl (fun K hK => ?_) ?_
      · go_simp
        refine hK.out _ _ ?_ (fun hHeld => ?_)
        · first
            | go_keep
            | exact hHeld
        clear hK K
        refine wpAnyH_take (i := 13) (v := .agg #[.int .i64 ((a0.toNat : Int) - 48), .int .i64 ((a2.toNat : Int) - 48), .slice (some ⟨w2.heap.size + 1, 0, none⟩) 0 0]) rfl (by kernel_rfl) (by kernel_rfl) (by kernel_rfl) (fun _ _ _ h => h) (Or.inl ⟨by rfl, ?_⟩) (by assumption) ?_
        · intro w hSw
          try dsimp only at hSw
          go_simp
        refine wpAnyH_ready (rs := [15]) (by kernel_rfl) (by simp) ?_
        refine AllReadyH.cons rfl (fun K hK => ?_) ?_
        · go_simp
          refine hK.out _ _ ?_ (fun hHeld => ?_)
          · first
              | go_keep
              | exact hHeld
          clear hK K
          refine wpAnyH_done (by kernel_rfl) ?_ _
          go_wp2_with fail
          go_meet
          exact HRB.out
        exact AllReadyH.nil
      exact AllReadyH.nil
    exact AllReadyH.nil
  case rest =>
    obtain ⟨ob, v0, rfl, hf, ho, hvo, hob, hb⟩ := hcut
    have HF3 := Lib.hid hf
    have HO3 := Lib.hid ho
    have HV3 := Lib.hid hvo
    have HB3 := Lib.hid hb
    have HZ2 := Lib.hid HKz2.out
    have HBW := Lib.hid HB2.out
    clear hf ho hvo hb HRA HRB hc0
    go_wp2_with fail
    go_loopw [6] (fun i wr => ∃ (k m : Nat) (v : Value), m = k + 1 ∧ m ≤ p ∧ i = .int .i64 m ∧ wr.heap[ob]? = some (.cells #[.int .i64 ((a0.toNat : Int) - 48), .int .i64 ((a2.toNat : Int) - 48), v] 28 (0, 0)) ∧ wr.ownsRow w2.heap.size 69 2 v k (flat (((W.drop 1).map dW).take k)) ∧ v.ownBlock ≠ some ob ∧ Below w2.heap.size w2 wr) (fun i _ => W.length - (intOf i).toNat)
    case atStart => exact ⟨0, 1, v0, rfl, hp.1, rfl, HF3.out, by simpa [flat] using HO3.out, HV3.out, HB3.out⟩
    case round =>
      obtain ⟨k, m, v, hmk, hmp, rfl, hf, ho, hv, hb⟩ := hrel
      have HF := Lib.hid hf
      have HO := Lib.hid ho
      have HV := Lib.hid hv
      have HB := Lib.hid hb
      have HZ := Lib.hid ((hb.block _ hw2).trans HZ2.out)
      have HBZ : Hid (Below w.heap.size w wr) := Lib.hid (HBW.out.trans (hb.mono HBW.out.size))
      obtain ⟨co0, co1, co2, fo0, fo1, fo2⟩ := cell3 hf
      obtain ⟨cz0, cz1, cz2, fz0, fz1, fz2⟩ := cell3 HZ.out
      have ltob := lt_of_block hf
      have hsz2 : w2.heap.size ≤ wr.heap.size := hb.size
      obtain ⟨av, cv, rfl⟩ := own_form ho
      by_cases hlt : m < W.length
      · have hcm := (hb.cell (p := ⟨g, m, none⟩) hgl).trans (HCW.out m hlt)
        have z1 : (0 : Int) ≤ (m : Int) := by omega
        have z2 : (m : Int) < (W.length : Int) := by omega
        by_cases hmp' : m < p
        · have h2 := HP.out m hlt (by omega) hmp'
          have HDW : Hid (((W.drop 1).map dW).take (k + 1) = ((W.drop 1).map dW).take k ++ [dW W[m]]) := Lib.hid (by
            rw [List.take_succ_eq_append_getElem (by simp; omega)]
            simp [hmk])
          obtain ⟨c0, c1, hcc⟩ : ∃ c0 c1, W[m] = [c0, c1] := by
            generalize W[m] = q at h2
            match q, h2 with
            | [x, y], _ => exact ⟨x, y, rfl⟩
          rw [hcc] at hcm HDW
          have jc0 := ixL [c0, c1] 0 0 rfl (by simp)
          have jc1 := ixL [c0, c1] 1 1 rfl (by simp)
          have d0 : 0 ≤ (c0.toNat : Int) := by omega
          have d1 : (c0.toNat : Int) ≤ 255 := by have := c0.toNat_lt; omega
          have d2 : 0 ≤ (c1.toNat : Int) := by omega
          have d3 : (c1.toNat : Int) ≤ 255 := by have := c1.toNat_lt; omega
          have HMK := Lib.hid hmk
          have hk9 : k ≤ 9 := by omega
          have hmn : m < W.length ∧ m < p := ⟨hlt, hmp'⟩
          clear hf ho hv hb h2 hmk
          go_wp2_with fail
          refine wp_region_held_drew (S := (fun w' => w'.cell? ⟨g, m, none⟩ = some (.string ⟨#[c0, c1]⟩))) (by kernel_rfl) ?_ (fun hHeld => ?_)
          · exact hcm
          refine wpAnyH_take (i := 0) (v := .pointer (some ⟨ob, 2, none⟩)) rfl (by kernel_rfl) (by kernel_rfl) (by kernel_rfl) (fun _ _ _ h => h) (Or.inl ⟨by rfl, ?_⟩) (by assumption) ?_
          · intro w hSw
            try dsimp only at hSw
            go_simp
          refine wpAnyH_take (i := 2) (v := .slice (some ⟨g, 0, none⟩) W.length cap) rfl (by kernel_rfl) (by kernel_rfl) (by kernel_rfl) (fun _ _ _ h => h) (Or.inl ⟨by rfl, ?_⟩) (by assumption) ?_
          · intro w hSw
            try dsimp only at hSw
            go_simp
          refine wpAnyH_take (i := 3) (v := .int .i64 (m : Int)) rfl (by kernel_rfl) (by kernel_rfl) (by kernel_rfl) (fun _ _ _ h => h) (Or.inl ⟨by rfl, ?_⟩) (by assumption) ?_
          · intro w hSw
            try dsimp only at hSw
            go_simp
          refine wpAnyH_take (i := 4) (v := .pointer (some ⟨g, m, none⟩)) rfl (by kernel_rfl) (by kernel_rfl) (by kernel_rfl) (fun _ _ _ h => h) (Or.inl ⟨by rfl, ?_⟩) (by assumption) ?_
          · intro w hSw
            try dsimp only at hSw
            go_simp
          refine wpAnyH_take (i := 5) (v := .string ⟨#[c0, c1]⟩) rfl (by kernel_rfl) (by kernel_rfl) (by kernel_rfl) (fun _ _ _ h => h) (Or.inl ⟨by rfl, ?_⟩) (by assumption) ?_
          · intro w hSw
            try dsimp only at hSw
            go_simp
          refine wpAnyH_take (i := 6) (v := .int .u8 (c0.toNat : Int)) rfl (by kernel_rfl) (by kernel_rfl) (by kernel_rfl) (fun _ _ _ h => h) (Or.inl ⟨by rfl, ?_⟩) (by assumption) ?_
          · intro w hSw
            try dsimp only at hSw
            go_simp
          refine wpAnyH_take (i := 7) (v := .int .i64 (c0.toNat : Int)) rfl (by kernel_rfl) (by kernel_rfl) (by kernel_rfl) (fun _ _ _ h => h) (Or.inl ⟨by rfl, ?_⟩) (by assumption) ?_
          · intro w hSw
            try dsimp only at hSw
            go_simp
            rw [IntKind.wrap_i64]
            omega
          refine wpAnyH_take (i := 8) (v := .int .i64 ((c0.toNat : Int) - 48)) rfl (by kernel_rfl) (by kernel_rfl) (by kernel_rfl) (fun _ _ _ h => h) (Or.inl ⟨by rfl, ?_⟩) (by assumption) ?_
          · intro w hSw
            try dsimp only at hSw
            go_simp
            rw [IntKind.wrap_i64]
            omega
          refine wpAnyH_take (i := 9) (v := .slice (some ⟨g, 0, none⟩) W.length cap) rfl (by kernel_rfl) (by kernel_rfl) (by kernel_rfl) (fun _ _ _ h => h) (Or.inl ⟨by rfl, ?_⟩) (by assumption) ?_
          · intro w hSw
            try dsimp only at hSw
            go_simp
          refine wpAnyH_take (i := 10) (v := .int .i64 (m : Int)) rfl (by kernel_rfl) (by kernel_rfl) (by kernel_rfl) (fun _ _ _ h => h) (Or.inl ⟨by rfl, ?_⟩) (by assumption) ?_
          · intro w hSw
            try dsimp only at hSw
            go_simp
          refine wpAnyH_take (i := 11) (v := .pointer (some ⟨g, m, none⟩)) rfl (by kernel_rfl) (by kernel_rfl) (by kernel_rfl) (fun _ _ _ h => h) (Or.inl ⟨by rfl, ?_⟩) (by assumption) ?_
          · intro w hSw
            try dsimp only at hSw
            go_simp
          refine wpAnyH_take (i := 12) (v := .string ⟨#[c0, c1]⟩) rfl (by kernel_rfl) (by kernel_rfl) (by kernel_rfl) (fun _ _ _ h => h) (Or.inl ⟨by rfl, ?_⟩) (by assumption) ?_
          · intro w hSw
            try dsimp only at hSw
            go_simp
          refine wpAnyH_take (i := 13) (v := .int .u8 (c1.toNat : Int)) rfl (by kernel_rfl) (by kernel_rfl) (by kernel_rfl) (fun _ _ _ h => h) (Or.inl ⟨by rfl, ?_⟩) (by assumption) ?_
          · intro w hSw
            try dsimp only at hSw
            go_simp
          refine wpAnyH_take (i := 14) (v := .int .i64 (c1.toNat : Int)) rfl (by kernel_rfl) (by kernel_rfl) (by kernel_rfl) (fun _ _ _ h => h) (Or.inl ⟨by rfl, ?_⟩) (by assumption) ?_
          · intro w hSw
            try dsimp only at hSw
            go_simp
            rw [IntKind.wrap_i64]
            omega
          refine wpAnyH_take (i := 15) (v := .int .i64 ((c1.toNat : Int) - 48)) rfl (by kernel_rfl) (by kernel_rfl) (by kernel_rfl) (fun _ _ _ h => h) (Or.inl ⟨by rfl, ?_⟩) (by assumption) ?_
          · intro w hSw
            try dsimp only at hSw
            go_simp
            rw [IntKind.wrap_i64]
            omega
          refine wpAnyH_take (i := 16) (v := .agg #[.int .i64 ((c0.toNat : Int) - 48), .int .i64 ((c1.toNat : Int) - 48)]) rfl (by kernel_rfl) (by kernel_rfl) (by kernel_rfl) (fun _ _ _ h => h) (Or.inl ⟨by rfl, ?_⟩) (by assumption) ?_
          · intro w hSw
            try dsimp only at hSw
            go_simp
          refine wpAnyH_ready (rs := [1, 17]) (by kernel_rfl) (by simp) ?_
          refine AllReadyH.cons rfl (fun K hK => ?_) ?_
          · go_simp
            refine hK.out _ _ ?_ (fun hHeld => ?_)
            · first
                | go_keep
                | exact hk5
                | exact hHeld
                | exact (World.cell?_setCell_far _ ⟨ob, 2, none⟩ _ _ (by show ob ≠ g; omega)).trans hk5
            clear hK K
            refine wpAnyH_ready (rs := [17]) (by kernel_rfl) (by simp) ?_
            refine AllReadyH.cons rfl (fun K hK => ?_) ?_
            · go_simp
              refine hK.out _ _ ?_ (fun hHeld => ?_)
              · first
                  | go_keep
                  | exact hk5
                  | exact hHeld
                  | exact (World.cell?_setCell_far _ ⟨ob, 2, none⟩ _ _ (by show ob ≠ g; omega)).trans hk5
              clear hK K
              refine wpAnyH_ready (rs := [18]) (by kernel_rfl) (by simp) ?_
              refine AllReadyH.cons rfl (fun K hK => ?_) ?_
              · refine step_append_lies _ (by rfl) _ _ _ (by rfl) w2.heap.size 69 i0 _ 2 16 Try.underlying26 hi hz0 hz1 hz2 rfl (by omega) _ k _ (by rfl) ((World.ownsRow.drew HO.out).alloc _) ⟨wr.heap.size, 0, none⟩ 1 1 [.int .i64 ((c0.toNat : Int) - 48), .int .i64 ((c1.toNat : Int) - 48)] (by rfl) (by rfl) (World.news_of_block (cs := #[.int .i64 ((c0.toNat : Int) - 48), .int .i64 ((c1.toNat : Int) - 48)]) (t := 69) (fr := (0, 0)) (heap_alloc_new wr.drew _)) (by simp [Value.oneCell']) (by omega) (by unfold maxLen; omega) (by omega) (by simp; omega) (wr.heap.size + 1) (by simp) ?_
                intro gg cc w5 hown5 hgrow hat hlt5
                have ho5 := (hgrow.block ob (by simp; omega) (Ne.symm HV.out)).trans ((alloc_old (by show ob < wr.heap.size; omega)).trans HF.out)
                have hk5 := (hgrow.cell_far ⟨g, m, none⟩ (by simp; omega) (fun e => absurd (HO.out.lt g e.symm).1 (by omega))).trans ((World.cell?_alloc_past _ g m (by show g < wr.heap.size; omega)).trans hcm)
                obtain ⟨y0, y1, y2, yf0, yf1, yf2⟩ := cell3 ho5
                try go_simp
                refine hK.out _ _ ?_ (fun hHeld => ?_)
                · first
                    | go_keep
                    | exact hk5
                    | exact hHeld
                    | exact (World.cell?_setCell_far _ ⟨ob, 2, none⟩ _ _ (by show ob ≠ g; omega)).trans hk5
                clear hK K
                refine wpAnyH_take (i := 19) (v := .pointer (some ⟨ob, 2, none⟩)) rfl (by kernel_rfl) (by kernel_rfl) (by kernel_rfl) (fun _ _ _ h => h) (Or.inl ⟨by rfl, ?_⟩) (by assumption) ?_
                · intro w hSw
                  try dsimp only at hSw
                  go_simp
                refine wpAnyH_ready (rs := [20]) (by kernel_rfl) (by simp) ?_
                refine AllReadyH.cons rfl (fun K hK => ?_) ?_
                · go_simp
                  refine hK.out _ _ ?_ (fun hHeld => ?_)
                  · first
                      | go_keep
                      | exact hk5
                      | exact hHeld
                      | exact (World.cell?_setCell_far _ ⟨ob, 2, none⟩ _ _ (by show ob ≠ g; omega)).trans hk5
                  clear hK K
                  refine wpAnyH_done (by kernel_rfl) ?_ _
                  have hgg : gg ≠ ob := by
                    rcases hat with hat | hat
                    · intro e; subst e; exact HV.out hat
                    · omega
                  have HB5 := Lib.hid (((Below.drew HB.out).alloc HB.out.size _).grown hgrow (by simp; omega) (fun j hj => (HO.out.lt j hj).1))
                  have HO5 := Lib.hid ho5
                  have HW5 := Lib.hid hown5
                  have HN5 := Lib.hid hgg
                  clear ho5 hown5 hgg hat hgrow
                  go_wp2_with fail
                  refine ⟨⟨k + 1, m + 1, .slice (some ⟨gg, 0, none⟩) (k + 1) cc, by have := HMK.out; omega, by omega, by simp, ?_, ?_, ?_, HB5.out.setCell (p := ⟨ob, 2, none⟩) hob _⟩, by simp [intOf]; omega⟩
                  · have := heap_setCell_same _ ob 2 _ _ (.slice (some ⟨gg, 0, none⟩) (k + 1) cc) HO5.out
                    simpa using this
                  · have := own_of_block HW5.out (w' := w5.setCell ⟨ob, 2, none⟩ (.slice (some ⟨gg, 0, none⟩) (k + 1) cc)) (fun g' hg' => Below.heap_setCell _ _ _ _ (by have := HN5.out; simp [Value.ownBlock] at hg'; subst hg'; exact this))
                    rw [HDW.out, flat_snoc]
                    exact this
                  · have := HN5.out
                    simpa [Value.ownBlock] using this
                exact AllReadyH.nil
              exact AllReadyH.nil
            exact AllReadyH.nil
          refine AllReadyH.cons rfl (fun K hK => ?_) ?_
          · go_simp
            refine hK.out _ _ ?_ (fun hHeld => ?_)
            · first
                | go_keep
                | exact hk5
                | exact hHeld
                | exact (World.cell?_setCell_far _ ⟨ob, 2, none⟩ _ _ (by show ob ≠ g; omega)).trans hk5
            clear hK K
            refine wpAnyH_ready (rs := [1]) (by kernel_rfl) (by simp) ?_
            refine AllReadyH.cons rfl (fun K hK => ?_) ?_
            · go_simp
              refine hK.out _ _ ?_ (fun hHeld => ?_)
              · first
                  | go_keep
                  | exact hk5
                  | exact hHeld
                  | exact (World.cell?_setCell_far _ ⟨ob, 2, none⟩ _ _ (by show ob ≠ g; omega)).trans hk5
              clear hK K
              refine wpAnyH_ready (rs := [18]) (by kernel_rfl) (by simp) ?_
              refine AllReadyH.cons rfl (fun K hK => ?_) ?_
              · refine step_append_lies _ (by rfl) _ _ _ (by rfl) w2.heap.size 69 i0 _ 2 16 Try.underlying26 hi hz0 hz1 hz2 rfl (by omega) _ k _ (by rfl) ((World.ownsRow.drew HO.out).alloc _) ⟨wr.heap.size, 0, none⟩ 1 1 [.int .i64 ((c0.toNat : Int) - 48), .int .i64 ((c1.toNat : Int) - 48)] (by rfl) (by rfl) (World.news_of_block (cs := #[.int .i64 ((c0.toNat : Int) - 48), .int .i64 ((c1.toNat : Int) - 48)]) (t := 69) (fr := (0, 0)) (heap_alloc_new wr.drew _)) (by simp [Value.oneCell']) (by omega) (by unfold maxLen; omega) (by omega) (by simp; omega) (wr.heap.size + 1) (by simp) ?_
                intro gg cc w5 hown5 hgrow hat hlt5
                have ho5 := (hgrow.block ob (by simp; omega) (Ne.symm HV.out)).trans ((alloc_old (by show ob < wr.heap.size; omega)).trans HF.out)
                have hk5 := (hgrow.cell_far ⟨g, m, none⟩ (by simp; omega) (fun e => absurd (HO.out.lt g e.symm).1 (by omega))).trans ((World.cell?_alloc_past _ g m (by show g < wr.heap.size; omega)).trans hcm)
                obtain ⟨y0, y1, y2, yf0, yf1, yf2⟩ := cell3 ho5
                try go_simp
                refine hK.out _ _ ?_ (fun hHeld => ?_)
                · first
                    | go_keep
                    | exact hk5
                    | exact hHeld
                    | exact (World.cell?_setCell_far _ ⟨ob, 2, none⟩ _ _ (by show ob ≠ g; omega)).trans hk5
                clear hK K
                refine wpAnyH_take (i := 19) (v := .pointer (some ⟨ob, 2, none⟩)) rfl (by kernel_rfl) (by kernel_rfl) (by kernel_rfl) (fun _ _ _ h => h) (Or.inl ⟨by rfl, ?_⟩) (by assumption) ?_
                · intro w hSw
                  try dsimp only at hSw
                  go_simp
                refine wpAnyH_ready (rs := [20]) (by kernel_rfl) (by simp) ?_
                refine AllReadyH.cons rfl (fun K hK => ?_) ?_
                · go_simp
                  refine hK.out _ _ ?_ (fun hHeld => ?_)
                  · first
                      | go_keep
                      | exact hk5
                      | exact hHeld
                      | exact (World.cell?_setCell_far _ ⟨ob, 2, none⟩ _ _ (by show ob ≠ g; omega)).trans hk5
                  clear hK K
                  refine wpAnyH_done (by kernel_rfl) ?_ _
                  have hgg : gg ≠ ob := by
                    rcases hat with hat | hat
                    · intro e; subst e; exact HV.out hat
                    · omega
                  have HB5 := Lib.hid (((Below.drew HB.out).alloc HB.out.size _).grown hgrow (by simp; omega) (fun j hj => (HO.out.lt j hj).1))
                  have HO5 := Lib.hid ho5
                  have HW5 := Lib.hid hown5
                  have HN5 := Lib.hid hgg
                  clear ho5 hown5 hgg hat hgrow
                  go_wp2_with fail
                  refine ⟨⟨k + 1, m + 1, .slice (some ⟨gg, 0, none⟩) (k + 1) cc, by have := HMK.out; omega, by omega, by simp, ?_, ?_, ?_, HB5.out.setCell (p := ⟨ob, 2, none⟩) hob _⟩, by simp [intOf]; omega⟩
                  · have := heap_setCell_same _ ob 2 _ _ (.slice (some ⟨gg, 0, none⟩) (k + 1) cc) HO5.out
                    simpa using this
                  · have := own_of_block HW5.out (w' := w5.setCell ⟨ob, 2, none⟩ (.slice (some ⟨gg, 0, none⟩) (k + 1) cc)) (fun g' hg' => Below.heap_setCell _ _ _ _ (by have := HN5.out; simp [Value.ownBlock] at hg'; subst hg'; exact this))
                    rw [HDW.out, flat_snoc]
                    exact this
                  · have := HN5.out
                    simpa [Value.ownBlock] using this
                exact AllReadyH.nil
              exact AllReadyH.nil
            exact AllReadyH.nil
          exact AllReadyH.nil
        · have hme : m = p := by omega
          subst hme
          have h2 := HX.out (by omega)
          have HMK := Lib.hid hmk
          clear hmk
          have hsx : (⟨W[m].toArray⟩ : ByteArray).size = W[m].length := mk_size _
          generalize (⟨W[m].toArray⟩ : ByteArray) = sx at hcm hsx
          have hs2 : sx.size ≠ 2 := by omega
          have hx1 : ((sx.size : Int) != 2) = true := by rw [bne_iff_ne]; omega
          have hx2 : ((sx.size : Int) == 2) = false := by rw [beq_eq_false_iff_ne]; omega
          rcases HK.out with ⟨_, he, _⟩ | ⟨rfl, rfl, rfl, rfl, _⟩
          · omega
          · clear hf ho hv hb hsx
            go_wp2_with fail
            exact bodyPost_ret (v := .tuple #[.agg #[.int .i64 0, .int .i64 0, .slice none 0 0], .bool false]) (by simp [results, Try.results49, go_sem, cz0, cz1, cz2]) rfl ⟨⟨_, rfl, rods_nil _⟩, bl_set3 HBZ.out (Nat.le_refl _) _ _ _⟩
      · have HPE : Hid (p = W.length) := Lib.hid (by omega)
        have HK2 : Hid (k = ((W.drop 1).map dW).length) := Lib.hid (by simp; omega)
        have HMK := Lib.hid hmk
        have hkl : ((W.drop 1).map dW).length ≤ k := by have := HK2.out; omega
        have hR : Hid (RodsR wr (.slice av k cv) ((W.drop 1).map dW)) := Lib.hid (by
          have := RodsR.of_own (rs := (W.drop 1).map dW) (v := .slice av k cv) (w := wr) (B := w2.heap.size) (e := 69) (by
            rw [List.take_of_length_le hkl] at ho
            exact own_relen HK2.out.symm ho)
          exact this)
        have z3 : ¬ (m : Int) < (W.length : Int) := by omega
        have HKL := Lib.hid hkl
        clear hf ho hv hb hmk hkl
        go_wp2_with fail
        rcases HK.out with ⟨rfl, _, rfl, rfl, rfl, hgood, htext⟩ | ⟨rfl, rfl, rfl, rfl, hk'⟩
        · have hts : (⟨(textF ((a0.toNat : Int) - 48) ((a2.toNat : Int) - 48) ((W.drop 1).map dW)).toArray⟩ : ByteArray) = s := by rw [htext]
          refine (l2Good_yes _ _ _ _ wr hR.out hgood).mono ?_
          rintro e w5 ⟨rfl, hb5⟩
          have hF5 := (hb5.block _ ltob).trans HF.out
          obtain ⟨d0, d1, d2, _, _, _⟩ := cell3 hF5
          have HF5 := Lib.hid hF5
          have HB5 := Lib.hid hb5
          clear hF5 hb5
          go_wp2_with fail
          have hcall := l2Text_any _ _ _ _ w5 (hR.out.below HB5.out (Nat.le_refl _)) hgood
          rw [hts] at hcall
          refine hcall.mono ?_
          rintro e w6 ⟨rfl, hb6⟩
          have hss := bneSF (a := s) (b := s) rfl
          have HB6 := Lib.hid (HB5.out.trans (hb6.mono HB5.out.size))
          have HF6 := Lib.hid ((hb6.block _ (lt_of_block HF5.out)).trans HF5.out)
          have HZ6 := Lib.hid ((HB6.out.block _ (lt_of_block HZ.out)).trans HZ.out)
          obtain ⟨e0, e1, e2, _, _, _⟩ := cell3 HF6.out
          obtain ⟨g0, g1, g2, _, _, _⟩ := cell3 HZ6.out
          clear hb6 hcall d0 d1 d2 co0 co1 co2 cz0 cz1 cz2
          go_wp2_with fail
          refine bodyPost_ret (v := .tuple #[.agg #[.int .i64 ((a0.toNat : Int) - 48), .int .i64 ((a2.toNat : Int) - 48), .slice av k cv], .bool true]) (by simp [results, Try.results49, go_sem, g0, g1, g2]) rfl ⟨⟨_, rfl, ?_⟩, bl_set3 (HBZ.out.trans (HB6.out.mono HBZ.out.size)) (Nat.le_refl _) _ _ _⟩
          have ho6 := own_below HO.out HB6.out
          rw [List.take_of_length_le HKL.out] at ho6
          exact RodsR.of_own (own_set3 (own_relen HK2.out.symm ho6) hw2 _ _ _)
        · have hnot := hk' HPE.out
          by_cases hgood : goodF ((a0.toNat : Int) - 48) ((a2.toNat : Int) - 48) ((W.drop 1).map dW)
          · have hts : (⟨(textF ((a0.toNat : Int) - 48) ((a2.toNat : Int) - 48) ((W.drop 1).map dW)).toArray⟩ : ByteArray) ≠ s := fun e => hnot ⟨hgood, by have := congrArg (fun b : ByteArray => b.data.toList) e; simpa using this⟩
            have hss := bneS hts
            refine (l2Good_yes _ _ _ _ wr hR.out hgood).mono ?_
            rintro e w5 ⟨rfl, hb5⟩
            have hF5 := (hb5.block _ ltob).trans HF.out
            obtain ⟨d0, d1, d2, _, _, _⟩ := cell3 hF5
            have HB5 := Lib.hid hb5
            clear hF5 hb5
            go_wp2_with fail
            have hcall := l2Text_any _ _ _ _ w5 (hR.out.below HB5.out (Nat.le_refl _)) hgood
            generalize (⟨(textF ((a0.toNat : Int) - 48) ((a2.toNat : Int) - 48) ((W.drop 1).map dW)).toArray⟩ : ByteArray) = tt at hcall hss hts
            refine hcall.mono ?_
            rintro e w6 ⟨rfl, hb6⟩
            have HB6 := Lib.hid (HB5.out.trans (hb6.mono HB5.out.size))
            have HZ6 := Lib.hid ((HB6.out.block _ (lt_of_block HZ.out)).trans HZ.out)
            obtain ⟨g0, g1, g2, _, _, _⟩ := cell3 HZ6.out
            clear hb6 hcall d0 d1 d2 co0 co1 co2 cz0 cz1 cz2
            go_wp2_with fail
            exact bodyPost_ret (v := .tuple #[.agg #[.int .i64 0, .int .i64 0, .slice none 0 0], .bool false]) (by simp [results, Try.results49, go_sem, g0, g1, g2]) rfl ⟨⟨_, rfl, rods_nil _⟩, bl_set3 (HBZ.out.trans (HB6.out.mono HBZ.out.size)) (Nat.le_refl _) _ _ _⟩
          · refine (l2Good_no _ _ _ _ wr hR.out hgood).mono ?_
            rintro e w5 ⟨rfl, hb5⟩
            have HZ5 := Lib.hid ((hb5.block _ (lt_of_block HZ.out)).trans HZ.out)
            have HB5 := Lib.hid hb5
            obtain ⟨g0, g1, g2, _, _, _⟩ := cell3 HZ5.out
            clear hb5 co0 co1 co2 cz0 cz1 cz2
            go_wp2_with fail
            exact bodyPost_ret (v := .tuple #[.agg #[.int .i64 0, .int .i64 0, .slice none 0 0], .bool false]) (by simp [results, Try.results49, go_sem, g0, g1, g2]) rfl ⟨⟨_, rfl, rods_nil _⟩, bl_set3 (HBZ.out.trans (HB5.out.mono HBZ.out.size)) (Nat.le_refl _) _ _ _⟩

end Go.Proofs.Ytbnfbpbfbdbiaaa
