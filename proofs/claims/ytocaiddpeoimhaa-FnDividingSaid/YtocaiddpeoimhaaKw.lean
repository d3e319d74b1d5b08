/- Parts laid as one: Nm1, Vsd. -/
import Derived.Test.YtocaiddpeoimhaaK9a
import Derived.Test.YtocaiddpeoimhaaInts
import Derived.Test.YtocaiddpeoimhaaKa
import Derived.Test.YtocaiddpeoimhaaKf
import Derived.Laws.OwnMore
import Derived.Deep.RegionHeld3
import Derived.Deep.RegionLaw
import Derived.BigQuiet
import Derived.Test.YtocaiddpeoimhaaVin
/-! Nm1 -/
namespace Go.Proofs.Ytocaiddpeoimhaa
set_option linter.unusedVariables false
open Go.RowKit

theorem Try.infoI9 : (Try.prog.info? 3).map (fun i => (i.zero, i.size, i.bytes)) = some (some (.int .i64 0), 1, 8) := by kernel_rfl
theorem inC_one9 (x : Int) : ∀ u ∈ inC x, u.oneCell' = true := by intro u hu; simp [inC] at hu; rw [hu]; rfl
theorem own_blk {w : World} {base size n : Nat} {e : TypeId} {v : Value} {xs : List Value} (h : w.ownsRow base e size v n xs) (hn : 0 < n) : ∃ g cap, v = .slice (some ⟨g, 0, none⟩) n cap := by
  rcases h.2 with ⟨_, h0⟩ | ⟨g, cap, cur, rfl, _⟩
  · omega
  · exact ⟨g, cap, rfl⟩
/-- Both are factors. -/
def okFs (a b : Int) : Prop := (0 ≤ a ∧ a ≤ 9999) ∧ (0 ≤ b ∧ b ≤ 9999)
theorem okFs_nat {a b : Int} (h : okFs a b) : ∃ m n : Nat, a = (m : Int) ∧ b = (n : Int) ∧ m ≤ 9999 ∧ n ≤ 9999 := by
  obtain ⟨h1, h2⟩ := h
  exact ⟨a.toNat, b.toNat, by omega, by omega, by omega, by omega⟩

set_option maxRecDepth 100000 in
set_option maxHeartbeats 1600000 in
/-- The digits, from the left. -/
theorem l9Digits_any (n : Nat) (w : World) (h : n < 1000000000) :
    Calls Try.prog 82 #[.int .i64 (n : Int)] w fun e w' => (∃ sq, e = .returned sq ∧ w'.ownsRow w.heap.size 3 1 sq (dgL n).length (flatC inC (dgL n))) ∧ Below w.heap.size w w' := by
  obtain ⟨i0, hi, hz0, hz1, hz2⟩ := info_parts Try.infoI9
  have HL : Hid ((dgL n).length ≤ 9) := Lib.hid (dgL_len 9 n h)
  go_enter Try.func82, Try.ntmps82
  go_wp2_with fail
  go_loopw [0, 3] (fun mv ov wr => ∃ (m g c : Nat) (ys : List Int), m ≤ n ∧ mv = .int .i64 (m : Int) ∧ ov = .slice (some ⟨g, 0, none⟩) ys.length c ∧ Hid (dgL n = dgL m ++ ys) ∧ wr.ownsRow w.heap.size 3 1 (.slice (some ⟨g, 0, none⟩) ys.length c) ys.length (flatC inC ys) ∧ Below w.heap.size w wr) (fun mv _ _ => (intOf mv).toNat)
  case atStart => exact ⟨n, w.heap.size, 0, [], Nat.le_refl _, rfl, rfl, Lib.hid (by simp), World.ownsRow_made (base := w.heap.size) (e := 3) (size := 1) w #[] 0 (Nat.le_refl _) (Nat.zero_le _) (by simp), (Below.refl _ _).alloc (Nat.le_refl _) _⟩
  case round =>
    obtain ⟨m, g, c, ys, hm, rfl, rfl, HY, hown, hb⟩ := hrel
    have HO := Lib.hid hown
    have HB := Lib.hid hb
    have hyl : ys.length ≤ 9 := by have h1 := HL.out; rw [HY.out, List.length_append] at h1; omega
    by_cases hlt : 0 < m
    · have z1 : (0 : Int) < (m : Int) := by omega
      have HY2 : Hid (dgL n = dgL (m / 10) ++ (((m : Int) % 10) :: ys)) := Lib.hid (by rw [HY.out, dgL_pos hlt, List.append_assoc, List.singleton_append]; rfl)
      have HMB := Lib.hid hm
      have HDV : Hid ((m : Int) / 10 = ((m / 10 : Nat) : Int)) := Lib.hid (by omega)
      clear hown hb
      have ho1 : (wr.alloc (.cells #[.int .i64 ((m : Int) % 10)] 3)).ownsRow w.heap.size 3 1 (.slice (some ⟨wr.heap.size, 0, none⟩) 1 1) 1 (flatC inC [((m : Int) % 10)]) := World.ownsRow_lit wr #[.int .i64 ((m : Int) % 10)] 1 HB.out.size (by decide) (by simp)
      have HO1 := Lib.hid ho1
      clear ho1
      go_wp2_with (at_builtin; refine wpList_append_rows (w := wr.alloc (.cells #[.int .i64 ((m : Int) % 10)] 3)) rfl _ _ 32 rfl w.heap.size 3 i0 (.int .i64 0) 1 8 Try.underlying32 hi hz0 hz1 hz2 rfl (by decide) inC_len inC_one9 wr.heap.size 1 1 _ rfl HO1.out (some ⟨g, 0, none⟩) c ys rfl ?c1 ?c3 ?c4 ?c5 ?_)
      case c1 => exact .inr ⟨_, rfl, fun j u hu => (HO.out.alloc _).cells rfl j u hu⟩
      case c3 => unfold maxLen; omega
      case c4 => omega
      case c5 => have := HB.out.size; simp; omega
      intro g3 k3 w3 hown3 hgrow3 _
      have HO3 : Hid (w3.ownsRow w.heap.size 3 1 (.slice (some ⟨g3, 0, none⟩) (((m : Int) % 10) :: ys).length k3) (((m : Int) % 10) :: ys).length (flatC inC (((m : Int) % 10) :: ys))) := Lib.hid (by
        rw [List.length_cons, Nat.add_comm ys.length 1]; simpa [flatC, inC] using hown3)
      have HB3 : Hid (Below w.heap.size w w3) := Lib.hid ((HB.out.alloc HB.out.size _).grown hgrow3 (by have := HB.out.size; simp; omega) (fun q hq => by have := HB.out.size; simp at hq; omega))
      clear hown3 hgrow3
      have hlen : 1 + ys.length = (((m : Int) % 10) :: ys).length := by rw [List.length_cons]; omega
      rw [hlen]
      clear hlen
      generalize hzs : (((m : Int) % 10) :: ys) = zs at HO3 HY2 ⊢
      clear hzs
      go_wp2_with fail
      go_roundw
      case rel => exact ⟨m / 10, g3, k3, zs, by omega, by first | rfl | rw [HDV.out], rfl, HY2, HO3.out, HB3.out⟩
      case measure => simp [intOf]; omega
    · obtain rfl : m = 0 := by omega
      have HY2 : Hid (ys = dgL n) := Lib.hid (by rw [HY.out, dgL_zero, List.nil_append])
      clear hown hb
      go_wp2_with fail
      go_ret
      exact ⟨⟨_, rfl, HY2.out ▸ HO.out⟩, HB.out⟩

/-- A digit's products with digits. -/
def dpL (d : Int) (l : List Int) : List Int := l.map fun x => d * x
theorem dpL_len (d : Int) (l : List Int) : (dpL d l).length = l.length := by simp [dpL]
theorem dpL_snoc (d : Int) (l : List Int) (k : Nat) (h : k < l.length) : dpL d (l.take (k + 1)) = dpL d (l.take k) ++ [d * l[k]] := by unfold dpL; rw [List.take_add_one, List.getElem?_eq_getElem h, List.map_append]; rfl
theorem dig_mul {d x : Int} (hd : 0 ≤ d ∧ d ≤ 9) (hx : 0 ≤ x ∧ x ≤ 9) : 0 ≤ d * x ∧ d * x ≤ 81 := by
  refine ⟨Int.mul_nonneg hd.1 hx.1, ?_⟩
  have := Int.mul_le_mul hd.2 hx.2 hx.1 (by omega : (0 : Int) ≤ 9)
  omega
/-- A row that was made lately is read where its blocks are kept. -/
theorem own_read {α : Type} {c : Nat} {cells : α → List Value} (hc : ∀ p, (cells p).length = c) {w wr : World} {B : Nat} {e : TypeId} {a : Option Addr} {n cp : Nat} {L : List α} (h : w.ownsRow B e c (.slice a n cp) n (flatC cells L)) (hn : n = L.length) (hk : KeepB B w.heap.size w wr) (i : Nat) (hi : i < L.length) :
    ∃ b, a = some ⟨b, 0, none⟩ ∧ ∀ j, j < c → wr.cell? ⟨b, i * c + j, none⟩ = (cells L[i])[j]? := by
  subst hn
  obtain ⟨b, cp', hv⟩ := own_blk h (by omega)
  injection hv with h1 h2 h3
  subst h1
  have hl := h.lt b rfl
  refine ⟨b, rfl, fun j hj => ?_⟩
  rw [hk.cell hl.1 hl.2, h.cellAt _ (by have : (i + 1) * c ≤ L.length * c := Nat.mul_le_mul_right c hi; rw [Nat.succ_mul] at this; omega), flatC_at hc L i hi j hj]
end Go.Proofs.Ytocaiddpeoimhaa

/-! Vsd -/
namespace Go.Proofs.Ytocaiddpeoimhaa
set_option linter.unusedVariables false
open Go.RowKit
set_option linter.unusedSimpArgs false

/-- The sum of a number's digits. -/
def dsN (n : Nat) : Nat := if h : n = 0 then 0 else n % 10 + dsN (n / 10)
termination_by n
decreasing_by omega
theorem dsN_zero : dsN 0 = 0 := by rw [dsN]; simp
theorem dsN_pos {n : Nat} (h : 0 < n) : dsN n = n % 10 + dsN (n / 10) := by rw [dsN, dif_neg (by omega)]
theorem dsN_le (n : Nat) : dsN n ≤ n := by
  induction n using Nat.strongRecOn with
  | ind n ih =>
    by_cases h : n = 0
    · subst h; rw [dsN_zero]; omega
    · rw [dsN_pos (by omega)]
      have := ih (n / 10) (by omega)
      omega
theorem dpL_sum (d : Int) (n : Nat) : (dpL d (dgL n)).sum = d * (dsN n : Int) := by
  induction n using Nat.strongRecOn with
  | ind n ih =>
    by_cases h : n = 0
    · subst h; rw [dgL_zero, dsN_zero]; simp [dpL]
    · have := ih (n / 10) (by omega)
      rw [dgL_pos (by omega), dsN_pos (by omega)]
      unfold dpL at this ⊢
      rw [List.map_append, List.sum_append, this, Int.natCast_add, Int.mul_add]
      simp
      omega
theorem sum_take_add (l : List Int) (k : Nat) (h : k < l.length) : (l.take (k + 1)).sum = (l.take k).sum + l[k] := by
  rw [List.take_add_one, List.getElem?_eq_getElem h, List.sum_append]; simp
theorem sum_nonneg : ∀ l : List Int, (∀ x ∈ l, 0 ≤ x) → 0 ≤ l.sum
  | [], _ => by simp
  | x :: t, h => by
    rw [List.sum_cons]
    have h1 := h x List.mem_cons_self
    have h2 := sum_nonneg t fun y hy => h y (List.mem_cons_of_mem _ hy)
    omega
theorem sum_take_bd (l : List Int) (h : ∀ x ∈ l, 0 ≤ x) (k : Nat) : 0 ≤ (l.take k).sum ∧ (l.take k).sum ≤ l.sum := by
  refine ⟨sum_nonneg _ fun x hx => h x (List.mem_of_mem_take hx), ?_⟩
  have h2 := sum_nonneg (l.drop k) fun x hx => h x (List.mem_of_mem_drop hx)
  have e : (l.take k ++ l.drop k).sum = l.sum := by rw [List.take_append_drop]
  rw [List.sum_append] at e
  omega
end Go.Proofs.Ytocaiddpeoimhaa
