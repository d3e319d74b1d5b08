/- Parts laid as one: Nm1, Vsd. -/
import Derived.Test.YthmbehknacjodaaK9a
import Derived.Test.YthmbehknacjodaaInts
import Derived.Test.YthmbehknacjodaaKa
import Derived.Test.YthmbehknacjodaaKf
import Derived.Laws.OwnMore
import Derived.Deep.RegionHeld3
import Derived.Deep.RegionLaw
import Derived.BigQuiet
import Derived.Test.YthmbehknacjodaaVin
/-! Nm1 -/
namespace Go.Proofs.Ythmbehknacjodaa
set_option linter.unusedVariables false
open Go.RowKit

theorem Try.infoI9 : (Try.prog.info? 3).map (fun i => (i.zero, i.size, i.bytes)) = some (some (.int .i64 0), 1, 8) := by kernel_rfl
theorem inC_one9 (x : Int) : ∀ u ∈ inC x, u.oneCell' = true := by intro u hu; simp [inC] at hu; rw [hu]; rfl
theorem own_blk {w : World} {base size n : Nat} {e : TypeId} {v : Value} {xs : List Value} (h : w.ownsRow base e size v n xs) (hn : 0 < n) : ∃ g cap, v = .slice (some ⟨g, 0, none⟩) n cap := by
  rcases h.2 with ⟨_, h0⟩ | ⟨g, cap, cur, rfl, _⟩
  · omega
  · exact ⟨g, cap, rfl⟩
/-- Both are factors. -/
def okFs (a b : Int) : Prop := (0 ≤ a ∧ a ≤ 9999) ∧ (0 ≤ b ∧ b ≤ 9999)
theorem okFs_nat {a b : Int} (h : okFs a b) : ∃ m n : Nat, a = (m : Int) ∧ b = (n : Int) ∧ m ≤ 9999 ∧ n ≤ 9999 := by
  obtain ⟨h1, h2⟩ := h
  exact ⟨a.toNat, b.toNat, by omega, by omega, by omega, by omega⟩

set_option maxRecDepth 100000 in
set_option maxHeartbeats 400000 in
theorem l9Factor_any (n : Int) (w : World) :
    Calls Try.prog 97 #[.int .i64 n] w fun e w' => e = .returned (.bool (inB n 0 9999)) ∧ w = w' := by
  go_enter Try.func97, Try.ntmps97
  go_wp2_with fail
  refine (l1In_any n 0 9999 w).mono ?_
  rintro e w' ⟨rfl, rfl⟩
  go_wp2_with fail
  go_ret
  exact ⟨rfl, rfl⟩
set_option maxRecDepth 100000 in
set_option maxHeartbeats 400000 in
theorem l9Both_yes (a b : Int) (w : World) (h : okFs a b) :
    Calls Try.prog 73 #[.int .i64 a, .int .i64 b] w fun e w' => e = .returned (.bool true) ∧ w = w' := by
  have ha := inB_yes h.1.1 h.1.2
  have hb := inB_yes h.2.1 h.2.2
  go_enter Try.func73, Try.ntmps73
  go_wp2_with fail
  refine (l9Factor_any a w).mono ?_
  rintro e w' ⟨rfl, rfl⟩
  rw [ha]
  go_wp2_with fail
  refine (l9Factor_any b w).mono ?_
  rintro e w' ⟨rfl, rfl⟩
  rw [hb]
  go_wp2_with fail
  go_ret
  exact ⟨rfl, rfl⟩
set_option maxRecDepth 100000 in
set_option maxHeartbeats 400000 in
theorem l9Both_no (a b : Int) (w : World) (h : ¬ okFs a b) :
    Calls Try.prog 73 #[.int .i64 a, .int .i64 b] w fun e w' => e = .returned (.bool false) ∧ w = w' := by
  by_cases h1 : 0 ≤ a ∧ a ≤ 9999
  · have ha := inB_yes h1.1 h1.2
    have hb : inB b 0 9999 = false := inB_no (fun hb => h ⟨h1, hb⟩)
    clear h h1
    go_enter Try.func73, Try.ntmps73
    go_wp2_with fail
    refine (l9Factor_any a w).mono ?_
    rintro e w' ⟨rfl, rfl⟩
    rw [ha]
    go_wp2_with fail
    refine (l9Factor_any b w).mono ?_
    rintro e w' ⟨rfl, rfl⟩
    rw [hb]
    go_wp2_with fail
    go_ret
    exact ⟨rfl, rfl⟩
  · have ha : inB a 0 9999 = false := inB_no h1
    clear h h1
    go_enter Try.func73, Try.ntmps73
    go_wp2_with fail
    refine (l9Factor_any a w).mono ?_
    rintro e w' ⟨rfl, rfl⟩
    rw [ha]
    go_wp2_with fail
    go_ret
    exact ⟨rfl, rfl⟩

set_option maxRecDepth 100000 in
set_option maxHeartbeats 1600000 in
/-- The digits, from the left. -/
theorem l9Digits_any (n : Nat) (w : World) (h : n < 1000000000) :
    Calls Try.prog 98 #[.int .i64 (n : Int)] w fun e w' => (∃ sq, e = .returned sq ∧ w'.ownsRow w.heap.size 3 1 sq (dgL n).length (flatC inC (dgL n))) ∧ Below w.heap.size w w' := by
  obtain ⟨i0, hi, hz0, hz1, hz2⟩ := info_parts Try.infoI9
  have HL : Hid ((dgL n).length ≤ 9) := Lib.hid (dgL_len 9 n h)
  go_enter Try.func98, Try.ntmps98
  go_wp2_with fail
  go_loopw [0, 3] (fun mv ov wr => ∃ (m g c : Nat) (ys : List Int), m ≤ n ∧ mv = .int .i64 (m : Int) ∧ ov = .slice (some ⟨g, 0, none⟩) ys.length c ∧ Hid (dgL n = dgL m ++ ys) ∧ wr.ownsRow w.heap.size 3 1 (.slice (some ⟨g, 0, none⟩) ys.length c) ys.length (flatC inC ys) ∧ Below w.heap.size w wr) (fun mv _ _ => (intOf mv).toNat)
  case atStart => exact ⟨n, w.heap.size, 0, [], Nat.le_refl _, rfl, rfl, Lib.hid (by simp), World.ownsRow_made (base := w.heap.size) (e := 3) (size := 1) w #[] 0 (Nat.le_refl _) (Nat.zero_le _) (by simp), (Below.refl _ _).alloc (Nat.le_refl _) _⟩
  case round =>
    obtain ⟨m, g, c, ys, hm, rfl, rfl, HY, hown, hb⟩ := hrel
    have HO := Lib.hid hown
    have HB := Lib.hid hb
    have hyl : ys.length ≤ 9 := by have h1 := HL.out; rw [HY.out, List.length_append] at h1; omega
    by_cases hlt : 0 < m
    · have z1 : (0 : Int) < (m : Int) := by omega
      have HY2 : Hid (dgL n = dgL (m / 10) ++ (((m : Int) % 10) :: ys)) := Lib.hid (by rw [HY.out, dgL_pos hlt, List.append_assoc, List.singleton_append]; rfl)
      have HMB := Lib.hid hm
      have HDV : Hid ((m : Int) / 10 = ((m / 10 : Nat) : Int)) := Lib.hid (by omega)
      clear hown hb
      have ho1 : (wr.alloc (.cells #[.int .i64 ((m : Int) % 10)] 3)).ownsRow w.heap.size 3 1 (.slice (some ⟨wr.heap.size, 0, none⟩) 1 1) 1 (flatC inC [((m : Int) % 10)]) := World.ownsRow_lit wr #[.int .i64 ((m : Int) % 10)] 1 HB.out.size (by decide) (by simp)
      have HO1 := Lib.hid ho1
      clear ho1
      go_wp2_with (at_builtin; refine wpList_append_rows (w := wr.alloc (.cells #[.int .i64 ((m : Int) % 10)] 3)) rfl _ _ 26 rfl w.heap.size 3 i0 (.int .i64 0) 1 8 Try.underlying26 hi hz0 hz1 hz2 rfl (by decide) inC_len inC_one9 wr.heap.size 1 1 _ rfl HO1.out (some ⟨g, 0, none⟩) c ys rfl ?c1 ?c3 ?c4 ?c5 ?_)
      case c1 => exact .inr ⟨_, rfl, fun j u hu => (HO.out.alloc _).cells rfl j u hu⟩
      case c3 => unfold maxLen; omega
      case c4 => omega
      case c5 => have := HB.out.size; simp; omega
      intro g3 k3 w3 hown3 hgrow3 _
      have HO3 : Hid (w3.ownsRow w.heap.size 3 1 (.slice (some ⟨g3, 0, none⟩) (((m : Int) % 10) :: ys).length k3) (((m : Int) % 10) :: ys).length (flatC inC (((m : Int) % 10) :: ys))) := Lib.hid (by
        rw [List.length_cons, Nat.add_comm ys.length 1]; simpa [flatC, inC] using hown3)
      have HB3 : Hid (Below w.heap.size w w3) := Lib.hid ((HB.out.alloc HB.out.size _).grown hgrow3 (by have := HB.out.size; simp; omega) (fun q hq => by have := HB.out.size; simp at hq; omega))
      clear hown3 hgrow3
      have hlen : 1 + ys.length = (((m : Int) % 10) :: ys).length := by rw [List.length_cons]; omega
      rw [hlen]
      clear hlen
      generalize hzs : (((m : Int) % 10) :: ys) = zs at HO3 HY2 ⊢
      clear hzs
      go_wp2_with fail
      go_roundw
      case rel => exact ⟨m / 10, g3, k3, zs, by omega, by first | rfl | rw [HDV.out], rfl, HY2, HO3.out, HB3.out⟩
      case measure => simp [intOf]; omega
    · obtain rfl : m = 0 := by omega
      have HY2 : Hid (ys = dgL n) := Lib.hid (by rw [HY.out, dgL_zero, List.nil_append])
      clear hown hb
      go_wp2_with fail
      go_ret
      exact ⟨⟨_, rfl, HY2.out ▸ HO.out⟩, HB.out⟩

/-- A digit's products with digits. -/
def dpL (d : Int) (l : List Int) : List Int := l.map fun x => d * x
theorem dpL_len (d : Int) (l : List Int) : (dpL d l).length = l.length := by simp [dpL]
theorem dpL_snoc (d : Int) (l : List Int) (k : Nat) (h : k < l.length) : dpL d (l.take (k + 1)) = dpL d (l.take k) ++ [d * l[k]] := by unfold dpL; rw [List.take_add_one, List.getElem?_eq_getElem h, List.map_append]; rfl
theorem dig_mul {d x : Int} (hd : 0 ≤ d ∧ d ≤ 9) (hx : 0 ≤ x ∧ x ≤ 9) : 0 ≤ d * x ∧ d * x ≤ 81 := by
  refine ⟨Int.mul_nonneg hd.1 hx.1, ?_⟩
  have := Int.mul_le_mul hd.2 hx.2 hx.1 (by omega : (0 : Int) ≤ 9)
  omega
/-- A row that was made lately is read where its blocks are kept. -/
theorem own_read {α : Type} {c : Nat} {cells : α → List Value} (hc : ∀ p, (cells p).length = c) {w wr : World} {B : Nat} {e : TypeId} {a : Option Addr} {n cp : Nat} {L : List α} (h : w.ownsRow B e c (.slice a n cp) n (flatC cells L)) (hn : n = L.length) (hk : KeepB B w.heap.size w wr) (i : Nat) (hi : i < L.length) :
    ∃ b, a = some ⟨b, 0, none⟩ ∧ ∀ j, j < c → wr.cell? ⟨b, i * c + j, none⟩ = (cells L[i])[j]? := by
  subst hn
  obtain ⟨b, cp', hv⟩ := own_blk h (by omega)
  injection hv with h1 h2 h3
  subst h1
  have hl := h.lt b rfl
  refine ⟨b, rfl, fun j hj => ?_⟩
  rw [hk.cell hl.1 hl.2, h.cellAt _ (by have : (i + 1) * c ≤ L.length * c := Nat.mul_le_mul_right c hi; rw [Nat.succ_mul] at this; omega), flatC_at hc L i hi j hj]
set_option maxRecDepth 100000 in
set_option maxHeartbeats 1600000 in
theorem speDigitProducts_yes (n : Nat) (d : Int) (w : World) (h : n ≤ 9999) (hd : 0 ≤ d ∧ d ≤ 9) :
    Calls Try.prog 43 #[.int .i64 (n : Int), .int .i64 d] w fun e w' => (∃ sq, e = .returned (.tuple #[sq, .bool true]) ∧ RowsR 1 inC w' sq (dpL d (dgL n))) ∧ Below w.heap.size w w' := by
  obtain ⟨i0, hi, hz0, hz1, hz2⟩ := info_parts Try.infoI9
  have hl4 := dgL_len4 n h
  have HDB : Hid (∀ i (h : i < (dgL n).length), 0 ≤ (dgL n)[i] ∧ (dgL n)[i] ≤ 9) := Lib.hid (fun i h => dgL_at n i h)
  have HG := Lib.hid (fun w => l9Digits_any n w (by omega))
  have ha : inB (n : Int) 0 9999 = true := inB_yes (by omega) (by omega)
  have hb : inB d 0 9 = true := inB_yes hd.1 hd.2
  generalize dgL n = L at hl4 HDB HG ⊢
  clear h
  go_enter Try.func43, Try.ntmps43
  go_wp2_with fail
  have hs0 : (w.alloc (.cells #[] 3)).heap.size = w.heap.size + 1 := by simp
  have hb0 : Below w.heap.size w (w.alloc (.cells #[] 3)) := (Below.refl _ _).alloc (Nat.le_refl _) _
  have ho0 : (w.alloc (.cells #[] 3)).ownsRow w.heap.size 3 1 (.slice (some ⟨w.heap.size, 0, none⟩) 0 0) 0 [] := World.ownsRow_made _ _ _ (Nat.le_refl _) (Nat.zero_le _) (by simp)
  generalize w.alloc (.cells #[] 3) = w1 at hs0 hb0 ho0 ⊢
  refine (l9Factor_any n w1).mono ?_
  rintro e w2 ⟨rfl, rfl⟩
  rw [ha]
  go_wp2_with fail
  refine (l1In_any d 0 9 w1).mono ?_
  rintro e w2 ⟨rfl, rfl⟩
  rw [hb]
  go_wp2_with fail
  refine (HG.out w1).mono ?_
  rintro e w2 ⟨⟨sd, rfl, od⟩, hb2⟩
  obtain ⟨ad, cd, rfl⟩ := own_form od
  have HO0 : Hid (OutA w.heap.size w1.heap.size w2.heap.size w2 3 1 w.heap.size 0 0 []) := Lib.hid ⟨own_below ho0 hb2, .inl (by omega), Nat.le_refl _⟩
  have HB0 : Hid (Below w.heap.size w w2) := Lib.hid (hb0.trans (hb2.mono hb0.size))
  have HR := Lib.hid (fun (wr : World) (hk : KeepB w1.heap.size w2.heap.size w2 wr) i (hi : i < L.length) => own_read inC_len od rfl hk i hi)
  have HZ : Hid (L.length ≤ 9223372036854775807) := Lib.hid (by omega)
  clear od hb2 ho0 hb0 hs0 ha hb
  go_wp2_with fail
  go_loopw [6, 8] (fun ov iv wr => ∃ (k g c : Nat), k ≤ L.length ∧ iv = .int .i64 (k : Int) ∧ ov = .slice (some ⟨g, 0, none⟩) k c ∧ OutA w.heap.size w1.heap.size w2.heap.size wr 3 1 g k c (flatC inC (dpL d (L.take k))) ∧ Below w.heap.size w wr ∧ KeepB w1.heap.size w2.heap.size w2 wr) (fun _ iv _ => 20 - (intOf iv).toNat)
  case atStart => exact ⟨0, w.heap.size, 0, Nat.zero_le _, rfl, rfl, HO0.out, HB0.out, KeepB.refl _ _ _⟩
  case round =>
    obtain ⟨k, g, c, hk, rfl, rfl, hO, hb, hK⟩ := hrel
    have HO := Lib.hid hO
    have HB := Lib.hid hb
    have HK := Lib.hid hK
    by_cases hlt : k < L.length
    · obtain ⟨b, rfl, hc⟩ := HR.out wr hK k hlt
      have c0 : wr.cell? ⟨b, k, none⟩ = some (.int .i64 L[k]) := by have := hc 0 (by omega); rw [Nat.mul_one] at this; exact this
      have hx := HDB.out k hlt
      have hm := dig_mul hd hx
      have z1 : (0 : Int) ≤ (k : Int) := by omega
      have z2 : (k : Int) < (L.length : Int) := by omega
      have hw : IntKind.i64.wrap (d * L[k]) = d * L[k] := by rw [IntKind.wrap_i64]; omega
      have HSN := Lib.hid (dpL_snoc d L k hlt)
      obtain ⟨x, hxe⟩ : ∃ x, L[k] = x := ⟨_, rfl⟩
      rw [hxe] at c0 hw HSN
      clear hc hO hb hK hx hm hxe
      go_wp2_with (at_builtin; refine wpList_push (wr := wr) rfl _ _ 26 rfl w.heap.size w1.heap.size w2.heap.size w 3 i0 (.int .i64 0) 1 8 Try.underlying26 hi hz0 hz1 hz2 rfl (by decide) g k c (flatC inC (dpL d (L.take k))) [.int .i64 (d * x)] rfl rfl rfl ?c1 ?c2 (by decide) HO.out HB.out ?_)
      case c1 => first | rfl | exact ⟨rfl, rfl⟩ | exact ⟨rfl, rfl, rfl⟩ | (intro u hu; simp only [List.mem_cons, List.not_mem_nil, or_false] at hu; subst hu; rfl)
      case c2 => omega
      intro g3 c3 w3 hO3 hB3 hK3
      have HO3 : Hid (OutA w.heap.size w1.heap.size w2.heap.size w3 3 1 g3 (k + 1) c3 (flatC inC (dpL d (L.take (k + 1))))) := Lib.hid (by rw [HSN.out, flatC_app]; exact hO3)
      have HB3 := Lib.hid hB3
      have HK3 := Lib.hid (HK.out.trans hK3)
      clear hO3 hB3 hK3 c0
      go_wp2_with fail
      go_roundw
      case rel => exact ⟨k + 1, g3, c3, by omega, by go_num, rfl, HO3.out, HB3.out, HK3.out⟩
      case measure => simp [intOf]; omega
    · obtain rfl : k = L.length := by omega
      have HE : Hid (RowsR 1 inC wr (.slice (some ⟨g, 0, none⟩) L.length c) (dpL d L)) := Lib.hid (by have h1 := hO.own; rw [List.take_length] at h1; exact RowsR.of_own inC_len (own_relen' (dpL_len d L) h1))
      clear hO hb hK
      go_wp2_with fail
      go_ret2
      exact ⟨⟨_, rfl, HE.out⟩, HB.out⟩
set_option maxRecDepth 100000 in
set_option maxHeartbeats 800000 in
theorem speDigitProducts_no (n d : Int) (w : World) (h : ¬ ((0 ≤ n ∧ n ≤ 9999) ∧ (0 ≤ d ∧ d ≤ 9))) :
    Calls Try.prog 43 #[.int .i64 n, .int .i64 d] w fun e w' => (∃ sq, e = .returned (.tuple #[sq, .bool false]) ∧ RowsR 1 inC w' sq []) ∧ Below w.heap.size w w' := by
  obtain ⟨x, hx⟩ : ∃ x, inB n 0 9999 = x := ⟨_, rfl⟩
  have HR : Hid (∀ w' : World, RowsR 1 inC w' (.slice (some ⟨w.heap.size, 0, none⟩) 0 0) ([] : List Int)) := Lib.hid (fun w' => ⟨_, 0, rfl, ⟨Nat.zero_le _, Nat.le_refl _⟩, fun h => absurd h (by simp)⟩)
  cases x with
  | true =>
    have hy : inB d 0 9 = false := inB_no (fun hd => by simp only [inB, decide_eq_true_eq] at hx; exact h ⟨hx, hd⟩)
    clear h
    go_enter Try.func43, Try.ntmps43
    go_wp2_with fail
    have hs0 : (w.alloc (.cells #[] 3)).heap.size = w.heap.size + 1 := by simp
    have hb0 : Below w.heap.size w (w.alloc (.cells #[] 3)) := (Below.refl _ _).alloc (Nat.le_refl _) _
    have ho0 : (w.alloc (.cells #[] 3)).ownsRow w.heap.size 3 1 (.slice (some ⟨w.heap.size, 0, none⟩) 0 0) 0 [] := World.ownsRow_made _ _ _ (Nat.le_refl _) (Nat.zero_le _) (by simp)
    generalize w.alloc (.cells #[] 3) = w1 at hs0 hb0 ho0 ⊢
    refine (l9Factor_any n w1).mono ?_
    rintro e w2 ⟨rfl, rfl⟩
    rw [hx]
    go_wp2_with fail
    refine (l1In_any d 0 9 w1).mono ?_
    rintro e w2 ⟨rfl, rfl⟩
    rw [hy]
    go_wp2_with fail
    go_ret2
    exact ⟨⟨_, rfl, HR.out _⟩, hb0⟩
  | false =>
    clear h
    go_enter Try.func43, Try.ntmps43
    go_wp2_with fail
    have hs0 : (w.alloc (.cells #[] 3)).heap.size = w.heap.size + 1 := by simp
    have hb0 : Below w.heap.size w (w.alloc (.cells #[] 3)) := (Below.refl _ _).alloc (Nat.le_refl _) _
    have ho0 : (w.alloc (.cells #[] 3)).ownsRow w.heap.size 3 1 (.slice (some ⟨w.heap.size, 0, none⟩) 0 0) 0 [] := World.ownsRow_made _ _ _ (Nat.le_refl _) (Nat.zero_le _) (by simp)
    generalize w.alloc (.cells #[] 3) = w1 at hs0 hb0 ho0 ⊢
    refine (l9Factor_any n w1).mono ?_
    rintro e w2 ⟨rfl, rfl⟩
    rw [hx]
    go_wp2_with fail
    go_ret2
    exact ⟨⟨_, rfl, HR.out _⟩, hb0⟩

set_option maxRecDepth 100000 in
set_option maxHeartbeats 800000 in
theorem speCastingOut_yes (a b : Nat) (p : Int) (w : World) (ha : a ≤ 9999) (hb : b ≤ 9999) (hp : 0 ≤ p) :
    Calls Try.prog 40 #[.int .i64 (a : Int), .int .i64 (b : Int), .int .i64 p] w fun e w' => e = .returned (.tuple #[.bool (((a : Int) * (b : Int)) % 9 == p % 9), .bool true]) ∧ Below w.heap.size w w' := by
  have hm := mul_top ha hb
  have hok : okFs (a : Int) (b : Int) := ⟨by omega, by omega⟩
  obtain ⟨P, hP⟩ : ∃ P : Int, (a : Int) * (b : Int) = P := ⟨_, rfl⟩
  have hw : IntKind.i64.wrap ((a : Int) * (b : Int)) = P := by rw [IntKind.wrap_i64]; omega
  rw [hP] at hm ⊢
  have HOK := Lib.hid hok
  have z1 : ¬ p < 0 := by omega
  clear hok hP
  go_enter Try.func40, Try.ntmps40
  go_wp2_with fail
  refine (l9Both_yes _ _ w HOK.out).mono ?_
  rintro e w2 ⟨rfl, rfl⟩
  go_wp2_with fail
  try rw [hw]
  try go_wp2_with fail
  go_ret2
  exact ⟨rfl, Below.refl _ _⟩
set_option maxRecDepth 100000 in
set_option maxHeartbeats 800000 in
theorem speCastingOut_no (a b p : Int) (w : World) (h : ¬ (okFs a b ∧ 0 ≤ p)) :
    Calls Try.prog 40 #[.int .i64 a, .int .i64 b, .int .i64 p] w fun e w' => e = .returned (.tuple #[.bool false, .bool false]) ∧ Below w.heap.size w w' := by
  by_cases hk : okFs a b
  · have HK := Lib.hid hk
    have z1 : p < 0 := by
      rcases Int.lt_or_le p 0 with h1 | h1
      · exact h1
      · exact absurd ⟨hk, h1⟩ h
    clear hk h
    go_enter Try.func40, Try.ntmps40
    go_wp2_with fail
    refine (l9Both_yes _ _ w HK.out).mono ?_
    rintro e w2 ⟨rfl, rfl⟩
    go_wp2_with fail
    go_ret2
    exact ⟨rfl, Below.refl _ _⟩
  · have HK := Lib.hid hk
    clear hk h
    go_enter Try.func40, Try.ntmps40
    go_wp2_with fail
    refine (l9Both_no _ _ w HK.out).mono ?_
    rintro e w2 ⟨rfl, rfl⟩
    go_wp2_with fail
    go_ret2
    exact ⟨rfl, Below.refl _ _⟩
end Go.Proofs.Ythmbehknacjodaa

/-! Vsd -/
namespace Go.Proofs.Ythmbehknacjodaa
set_option linter.unusedVariables false
open Go.RowKit
set_option linter.unusedSimpArgs false

/-- The sum of a number's digits. -/
def dsN (n : Nat) : Nat := if h : n = 0 then 0 else n % 10 + dsN (n / 10)
termination_by n
decreasing_by omega
theorem dsN_zero : dsN 0 = 0 := by rw [dsN]; simp
theorem dsN_pos {n : Nat} (h : 0 < n) : dsN n = n % 10 + dsN (n / 10) := by rw [dsN, dif_neg (by omega)]
theorem dsN_le (n : Nat) : dsN n ≤ n := by
  induction n using Nat.strongRecOn with
  | ind n ih =>
    by_cases h : n = 0
    · subst h; rw [dsN_zero]; omega
    · rw [dsN_pos (by omega)]
      have := ih (n / 10) (by omega)
      omega
theorem dpL_sum (d : Int) (n : Nat) : (dpL d (dgL n)).sum = d * (dsN n : Int) := by
  induction n using Nat.strongRecOn with
  | ind n ih =>
    by_cases h : n = 0
    · subst h; rw [dgL_zero, dsN_zero]; simp [dpL]
    · have := ih (n / 10) (by omega)
      rw [dgL_pos (by omega), dsN_pos (by omega)]
      unfold dpL at this ⊢
      rw [List.map_append, List.sum_append, this, Int.natCast_add, Int.mul_add]
      simp
      omega
theorem sum_take_add (l : List Int) (k : Nat) (h : k < l.length) : (l.take (k + 1)).sum = (l.take k).sum + l[k] := by
  rw [List.take_add_one, List.getElem?_eq_getElem h, List.sum_append]; simp
theorem sum_nonneg : ∀ l : List Int, (∀ x ∈ l, 0 ≤ x) → 0 ≤ l.sum
  | [], _ => by simp
  | x :: t, h => by
    rw [List.sum_cons]
    have h1 := h x List.mem_cons_self
    have h2 := sum_nonneg t fun y hy => h y (List.mem_cons_of_mem _ hy)
    omega
theorem sum_take_bd (l : List Int) (h : ∀ x ∈ l, 0 ≤ x) (k : Nat) : 0 ≤ (l.take k).sum ∧ (l.take k).sum ≤ l.sum := by
  refine ⟨sum_nonneg _ fun x hx => h x (List.mem_of_mem_take hx), ?_⟩
  have h2 := sum_nonneg (l.drop k) fun x hx => h x (List.mem_of_mem_drop hx)
  have e : (l.take k ++ l.drop k).sum = l.sum := by rw [List.take_append_drop]
  rw [List.sum_append] at e
  omega
set_option maxRecDepth 100000 in
set_option maxHeartbeats 800000 in
theorem vSum_yes (v1 : Value) (ps : List Int) (w : World) (h1 : RowsR 1 inC w v1 ps) (hn : ∀ x ∈ ps, 0 ≤ x) (hs : ps.sum ≤ 9223372036854775807) :
    Calls Try.prog 27 #[v1] w fun e w' => e = .returned (.int .i64 ps.sum) ∧ Below w.heap.size w w' := by
  have hm : ps.length ≤ 9223372036854775807 := by obtain ⟨_, _, _, ⟨m, _⟩, _⟩ := h1; exact m
  obtain ⟨a1, c1, rfl⟩ := h1.form
  have R1 := Lib.hid h1.at
  have HB := Lib.hid (sum_take_bd ps hn)
  have HA := Lib.hid (sum_take_add ps)
  have HS := Lib.hid hs
  clear h1 hn hs
  go_enter Try.func27, Try.ntmps27
  go_wp2_with fail
  go_loopw [3, 4] (fun s i wr => ∃ k : Nat, k ≤ ps.length ∧ s = .int .i64 (ps.take k).sum ∧ i = .int .i64 k ∧ Below w.heap.size w wr) (fun _ i _ => ps.length - (intOf i).toNat)
  case atStart => exact ⟨0, Nat.zero_le _, by simp, rfl, Below.refl _ _⟩
  case round =>
    obtain ⟨k, hk, rfl, rfl, hb⟩ := hrel
    by_cases hlt : k < ps.length
    · obtain ⟨b1, o1, rfl, l1, k1⟩ := R1.out _ hb k hlt
      have p0 : wr.cell? ⟨b1, o1 + k, none⟩ = some (.int .i64 ps[k]) := by have := k1 0 (by omega); simpa [inC] using this
      have z1 : (0 : Int) ≤ (k : Int) := by omega
      have z2 : (k : Int) < (ps.length : Int) := by omega
      have hst := HA.out k hlt
      have hq0 := HB.out k
      have hq1 := HB.out (k + 1)
      have hss := HS.out
      obtain ⟨S, hS⟩ : ∃ S, (ps.take k).sum = S := ⟨_, rfl⟩
      rw [hS] at hst hq0
      rw [hst] at hq1
      rw [hS]
      clear k1
      obtain ⟨x0, hx0⟩ : ∃ x0, ps[k] = x0 := ⟨_, rfl⟩
      rw [hx0] at p0 hst hq1
      have hw : IntKind.i64.wrap (S + x0) = S + x0 := by rw [IntKind.wrap_i64]; omega
      go_wp2_with fail
      go_roundw
      case rel => exact ⟨k + 1, by omega, by rw [hst], by go_num, hb⟩
      case measure => simp [intOf]; omega
    · obtain rfl : k = ps.length := by omega
      go_wp2_with fail
      go_ret
      rw [List.take_length]
      exact ⟨rfl, hb⟩
set_option maxRecDepth 100000 in
set_option maxHeartbeats 800000 in
theorem vDigitSum_yes (n : Nat) (w : World) (hn : n ≤ 9999) :
    Calls Try.prog 44 #[.int .i64 (n : Int)] w fun e w' => e = .returned (.int .i64 (dsN n : Int)) ∧ Below w.heap.size w w' := by
  have hd := dsN_le n
  go_enter Try.func44, Try.ntmps44
  go_wp2_with fail
  go_loopw [0, 3] (fun nv sv wr => ∃ m s : Nat, nv = .int .i64 m ∧ sv = .int .i64 s ∧ s + dsN m = dsN n ∧ m ≤ 9999 ∧ wr = w) (fun nv _ _ => (intOf nv).toNat)
  case atStart => exact ⟨n, 0, rfl, rfl, by omega, hn, rfl⟩
  case round =>
    obtain ⟨m, s, rfl, rfl, hs, hm, hw⟩ := hrel
    subst wr
    by_cases h0 : m = 0
    · subst h0
      rw [dsN_zero, Nat.add_zero] at hs
      subst hs
      go_wp2_with fail
      go_ret
      exact ⟨rfl, Below.refl _ _⟩
    · rw [dsN_pos (by omega)] at hs
      have hr : ((m : Int)).tmod 10 = ((m % 10 : Nat) : Int) := by rw [Int.tmod_eq_emod_of_nonneg (by omega)]; omega
      have hq : ((m : Int)).tdiv 10 = ((m / 10 : Nat) : Int) := by rw [Int.tdiv_eq_ediv_of_nonneg (by omega)]; omega
      have hp : (0 : Int) < (m : Int) := by omega
      have hle : s + m % 10 ≤ 9999 := by omega
      have hw : IntKind.i64.wrap ((s : Int) + ((m % 10 : Nat) : Int)) = ((s + m % 10 : Nat) : Int) := by rw [IntKind.wrap_i64]; omega
      go_wp2_with fail
      go_roundw
      case rel => exact ⟨m / 10, s + m % 10, by first | rfl | (congr 1; done) | (congr 1; omega), by first | rfl | (congr 1; done) | (congr 1; omega), by omega, by omega, by first | rfl | trivial⟩
      case measure => simp [intOf]; omega
end Go.Proofs.Ythmbehknacjodaa
