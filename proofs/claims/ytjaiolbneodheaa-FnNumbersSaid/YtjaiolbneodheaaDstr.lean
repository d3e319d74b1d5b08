/- What is drawn for texts of numbers and checksums. -/
import Derived.Test.YtjaiolbneodheaaCode
import Derived.Test.YtjaiolbneodheaaNum
namespace Go.Proofs.Ytjaiolbneodheaa
set_option linter.unusedVariables false
open Go.RowKit

theorem Try.infoByteS : (Try.prog.info? 5).map (fun i => (i.zero, i.size, i.bytes)) = some (some (.int .u8 0), 1, 1) := by kernel_rfl
set_option maxRecDepth 100000 in
set_option maxHeartbeats 800000 in
theorem among_any (cb : Nat) (cd : Value) (L : List UInt8) (n : Nat) (v : Value) (zs : List Int) (w : World) (hn : n < 4611686018427387000) (hl : 1 ≤ zs.length ∧ zs.length ≤ 100) (h : SlR w v (zs.map (Value.int .i64))) (hne : ∀ a m c, v = .slice (some a) m c → a.block ≠ cb) (hc : CurAt w cb cd n) (hr : CodeR w cb cd L) :
    Calls Try.prog 90 #[.pointer (some ⟨cb, 0, none⟩), v] w fun e w' => (∃ z, e = .returned (.int .i64 z) ∧ z ∈ zs) ∧ CurAt w' cb cd (n + 2) ∧ w.grownBy w' (some cb) := by
  obtain ⟨a, cp, rfl, ⟨m1, _⟩, r1⟩ := h
  rw [List.length_map] at *
  obtain ⟨b1, o1, rfl, l1, k1⟩ := r1 (by intro e; rw [List.map_eq_nil_iff] at e; subst e; simp at hl)
  have hbb : b1 ≠ cb := hne _ _ _ rfl
  have K1 : Hid (∀ (i : Nat) (h : i < zs.length), w.cell? ⟨b1, o1 + i, none⟩ = some (.int .i64 zs[i])) := Lib.hid fun i h => by have q := k1 i (by simpa using h); rwa [List.getElem_map] at q
  have HP := Lib.hid (fun m h1 h2 => pick_any cb cd L n m w (by omega) h1 h2 hc hr)
  obtain ⟨hl1, hl2⟩ := hl
  clear r1 k1 hne hc hr m1
  go_enter Try.func90, Try.ntmps90
  go_wp2_with fail
  refine (HP.out (zs.length : Int) (by omega) (by omega)).mono ?_
  rintro e w1 ⟨⟨r, rfl, r0, r1⟩, hc1, hg⟩
  obtain ⟨k, rfl⟩ : ∃ k : Nat, r = k := ⟨r.toNat, by omega⟩
  have hk : k < zs.length := by omega
  have q := hg.cell (K1.out k hk) (by simpa using fun e => hbb e)
  have HC1 := Lib.hid hc1
  have HG := Lib.hid hg
  clear hc1 hg
  go_wp2_with fail
  go_ret
  exact ⟨⟨zs[k], rfl, List.getElem_mem _⟩, HC1.out, HG.out⟩
def numL (r : Int) : List Int := [0, 1, -1, 10, 999999, -999999, 1000000, -1000000, r]
def partL : List ByteArray := [⟨#[]⟩, ⟨#[45]⟩, ⟨#[45, 48]⟩, ⟨#[48, 48]⟩, ⟨#[48, 49]⟩, ⟨#[45, 45, 49]⟩, ⟨#[49, 120]⟩, ⟨#[57, 57, 57, 57, 57, 57]⟩, ⟨#[49, 48, 48, 48, 48, 48, 48]⟩, ⟨#[45, 57, 57, 57, 57, 57, 57]⟩, ⟨#[49, 56, 52, 52, 54, 55, 52, 52, 48, 55, 51, 55, 48, 57, 53, 53, 49, 54, 49, 55]⟩]
theorem partL_le : ∀ x ∈ partL, x.size ≤ 100 := by
  intro x hx
  simp only [partL, List.mem_cons, List.not_mem_nil, or_false] at hx
  rcases hx with rfl | rfl | rfl | rfl | rfl | rfl | rfl | rfl | rfl | rfl | rfl <;> decide
theorem itoa_short (z : Int) (h0 : -9223372036854775807 ≤ z) (h1 : z ≤ 9223372036854775807) : (Lib.itoa z).length ≤ 100 := by
  by_cases hz : z < 0
  · rw [itoa_neg z hz, List.length_cons, itoa_small (-z) (by omega), Lib.decDigits_length]
    have := nDig_le 18 (-z).toNat (by omega)
    omega
  · rw [itoa_small z (by omega), Lib.decDigits_length]
    have := nDig_le 18 z.toNat (by omega)
    omega
end Go.Proofs.Ytjaiolbneodheaa
