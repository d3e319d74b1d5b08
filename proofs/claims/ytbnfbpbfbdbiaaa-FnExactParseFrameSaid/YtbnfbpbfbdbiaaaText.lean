/- The text of a frame, of the model and of the program. -/
import Derived.Test.YtbnfbpbfbdbiaaaNum
import Derived.Test.YtbnfbpbfbdbiaaaIScal
import Derived.Test.YtbnfbpbfbdbiaaaOw
import Derived.Deep.RegionHeld3
import Derived.Deep.RegionLaw
import Derived.Deep.AppendLies
import Derived.Laws.IdiomStrings
namespace Go.Proofs.Ytbnfbpbfbdbiaaa
set_option linter.unusedVariables false
open Go.RowKit

theorem own_block' {w : World} {base size n : Nat} {e : TypeId} {v : Value} {xs : List Value} (h : w.ownsRow base e size v n xs) (hn : 0 < n) : ∃ g cap, v = .slice (some ⟨g, 0, none⟩) n cap := by
  rcases h.2 with ⟨_, h0⟩ | ⟨g, cap, cur, rfl, _⟩
  · omega
  · exact ⟨g, cap, rfl⟩
def chD (x : Int) : UInt8 := UInt8.ofNat (48 + x.toNat)
def rodsT : List (Int × Int) → List UInt8
  | [] => []
  | r :: t => 32 :: chD r.1 :: chD r.2 :: rodsT t
def textF (up lo : Int) (rs : List (Int × Int)) : List UInt8 := chD up :: 47 :: chD lo :: rodsT rs
theorem rodsT_len : ∀ rs, (rodsT rs).length = 3 * rs.length
  | [] => rfl
  | _ :: t => by simp [rodsT, rodsT_len t]; omega
theorem textF_len (up lo : Int) (rs : List (Int × Int)) : (textF up lo rs).length = 3 + 3 * rs.length := by simp [textF, rodsT_len]; omega
theorem rodsT_app (a b : List (Int × Int)) : rodsT (a ++ b) = rodsT a ++ rodsT b := by
  induction a with
  | nil => rfl
  | cons x t ih => simp [rodsT, ih]
theorem textF_snoc (up lo : Int) (rs : List (Int × Int)) (k : Nat) (h : k < rs.length) : textF up lo (rs.take (k + 1)) = textF up lo (rs.take k) ++ [32, chD rs[k].1, chD rs[k].2] := by
  rw [List.take_succ_eq_append_getElem h, textF, textF, rodsT_app]; rfl
theorem chD_nat (x : Int) (h0 : 0 ≤ x) (h1 : x ≤ 9) : ((chD x).toNat : Int) = 48 + x := by
  unfold chD
  rw [UInt8.toNat_ofNat']
  omega
theorem l1Num_dig (n : Int) (w : World) (h0 : 0 ≤ n) (h1 : n ≤ 9) :
    Calls Try.prog 89 #[.int .i64 n] w fun e w' => e = .returned (.string ⟨#[chD n]⟩) ∧ w' = w := by
  have hs := dig_slice n h0 (by omega) w
  rw [dec_small n.toNat (by omega)] at hs
  have hc : [UInt8.ofNat (48 + n.toNat)] = [chD n] := rfl
  rw [hc] at hs
  go_enter Try.func89, Try.ntmps89
  go_wp2
  go_ret
  exact ⟨rfl, rfl⟩

set_option maxRecDepth 100000 in
set_option maxHeartbeats 3200000 in
theorem l2Text_any (up lo : Int) (sv : Value) (rs : List (Int × Int)) (w : World) (h : RodsR w sv rs) (hg : goodF up lo rs) :
    Calls Try.prog 81 #[.agg #[.int .i64 up, .int .i64 lo, sv]] w fun e w' => e = .returned (.string ⟨(textF up lo rs).toArray⟩) ∧ Below w.heap.size w w' := by
  obtain ⟨a, c, rfl⟩ : ∃ a c, sv = .slice a rs.length c := by obtain ⟨a, c, e, _⟩ := h; exact ⟨a, c, e⟩
  have hm : rs.length ≤ 9223372036854775807 := by obtain ⟨_, _, _, ⟨m, _⟩, _⟩ := h; exact m
  have HG := Lib.hid hg
  obtain ⟨⟨u1, u2⟩, ⟨l1, l2⟩, n1, n2⟩ := hg.2
  have RL : Hid (∀ w' : World, Below w.heap.size w w' → ∀ k, (hk : k < rs.length) → ∃ b o, a = some ⟨b, o, none⟩ ∧ w'.cell? ⟨b, o + k * 2, none⟩ = some (.int .i64 rs[k].1) ∧ w'.cell? ⟨b, o + k * 2 + 1, none⟩ = some (.int .i64 rs[k].2)) := Lib.hid (rods_at h)
  have HB0 : Hid (Below w.heap.size w w) := Lib.hid (Below.refl _ _)
  clear h hg
  go_enter Try.func81, Try.ntmps81
  go_wp2_with fail
  have hb : Below w.heap.size w (w.alloc (.cells #[.int .i64 up, .int .i64 lo, .slice a rs.length c] 28)) := (Below.refl _ _).alloc (Nat.le_refl _) _
  have hk : (w.alloc (.cells #[.int .i64 up, .int .i64 lo, .slice a rs.length c] 28)).heap[w.heap.size]? = some (.cells #[.int .i64 up, .int .i64 lo, .slice a rs.length c] 28 (0, 0)) := alloc_at rfl
  have hz : (w.alloc (.cells #[.int .i64 up, .int .i64 lo, .slice a rs.length c] 28)).heap.size = w.heap.size + 1 := by simp
  generalize w.alloc (.cells #[.int .i64 up, .int .i64 lo, .slice a rs.length c] 28) = w1 at hb hk hz ⊢
  have HB1 : Hid (Below w.heap.size w w1) := Lib.hid (HB0.out.trans (hb.mono HB0.out.size))
  have HZ1 : Hid (w.heap.size ≤ w1.heap.size) := Lib.hid hb.size
  have HKf1 := Lib.hid hk
  replace HZ1 : Hid (w.heap.size < w1.heap.size) := Lib.hid (by omega)
  have HE1 := Lib.hid hz
  clear hb hk hz
  have ltf := lt_of_block HKf1.out
  obtain ⟨cf0, cf1, cf2, ff0, ff1, ff2⟩ := cell3 HKf1.out
  go_wp2_with fail
  go_quiet ((go_at_call 89; exact Calls.quiet_of_same (l1Num_dig _ _ (by omega) (by omega))))
  go_wp2_with fail
  go_loopw [3, 4] (fun s i wr => ∃ k : Nat, k ≤ rs.length ∧ i = .int .i64 k ∧ s = .string ⟨(textF up lo (rs.take k)).toArray⟩ ∧ wr.heap[w.heap.size]? = some (.cells #[.int .i64 up, .int .i64 lo, .slice a rs.length c] 28 (0, 0)) ∧ Below w.heap.size w wr) (fun _ i _ => rs.length - (intOf i).toNat)
  case atStart => exact ⟨0, Nat.zero_le _, rfl, rfl, HKf1.out, bl_drewN HB1.out _⟩
  case round =>
    obtain ⟨k, hk, rfl, rfl, hf, hb⟩ := hrel
    have HS : Hid (k < rs.length → (⟨(textF up lo (rs.take k)).toArray⟩ : ByteArray) ++ ⟨#[32]⟩ ++ ⟨#[chD (rs.getD k (0, 0)).1]⟩ ++ ⟨#[chD (rs.getD k (0, 0)).2]⟩ = ⟨(textF up lo (rs.take (k + 1))).toArray⟩) := Lib.hid (by
      intro hlt
      rw [textF_snoc up lo rs k hlt, List.getD_eq_getElem?_getD, List.getElem?_eq_getElem hlt]
      simp [ByteArray.mk_append_mk])
    have hs : (⟨(textF up lo (rs.take k)).toArray⟩ : ByteArray).size = 3 + 3 * k := by rw [mk_size, textF_len, List.length_take]; omega
    have HE : Hid (k = rs.length → (⟨(textF up lo (rs.take k)).toArray⟩ : ByteArray) = ⟨(textF up lo rs).toArray⟩) := Lib.hid (by intro e; rw [List.take_of_length_le (by omega)])
    generalize (⟨(textF up lo (rs.take k)).toArray⟩ : ByteArray) = s at hs HS HE ⊢
    by_cases hlt : k < rs.length
    · obtain ⟨b1, o1, rfl, p1, p2⟩ := RL.out _ hb k hlt
      obtain ⟨⟨d1, d2⟩, d3, d4⟩ := HG.out.1 k hlt
      have z1 : (0 : Int) ≤ (k : Int) := by omega
      have z2 : (k : Int) < (rs.length : Int) := by omega
      have HS2 := Lib.hid (HS.out hlt)
      rw [List.getD_eq_getElem?_getD, List.getElem?_eq_getElem hlt, Option.getD_some] at HS2
      have g1 : ¬ 9223372036854775807 < s.size + 1 := by omega
      have g2 : ¬ 9223372036854775807 < s.size + 1 + 1 := by omega
      have g3 : ¬ 9223372036854775807 < s.size + 1 + 1 + 1 := by omega
      have HB10 : Hid (Below w.heap.size w wr) := Lib.hid hb
      have HKf10 := Lib.hid (hf)
      clear hb hf
      have ltf := lt_of_block HKf10.out
      obtain ⟨cf0, cf1, cf2, ff0, ff1, ff2⟩ := cell3 HKf10.out
      go_wp2_with fail
      go_quiet ((go_at_call 89; exact Calls.quiet_of_same (l1Num_dig _ _ (by omega) (by omega))))
      go_wp2_with fail
      go_roundw
      case rel => exact ⟨k + 1, by omega, by go_num, by rw [HS2.out], HKf10.out, bl_drewN HB10.out _⟩
      case measure => simp [intOf]; omega
    · have HB := Lib.hid hb
      obtain ⟨cf0, cf1, cf2, _, _, _⟩ := cell3 hf
      clear hb hf
      go_wp2_with fail
      go_ret
      exact ⟨ret_str (HE.out (by omega)), HB.out⟩

set_option maxRecDepth 100000 in
set_option maxHeartbeats 3200000 in
theorem specFrameText_no (up lo : Int) (sv : Value) (rs : List (Int × Int)) (w : World) (h : RodsR w sv rs) (hg : ¬ goodF up lo rs) :
    Calls Try.prog 47 #[.agg #[.int .i64 up, .int .i64 lo, sv]] w fun e w' => e = .returned (.tuple #[.string ⟨#[]⟩, .bool false]) ∧ Below w.heap.size w w' := by
  obtain ⟨a, c, rfl⟩ : ∃ a c, sv = .slice a rs.length c := by obtain ⟨a, c, e, _⟩ := h; exact ⟨a, c, e⟩
  have HG := Lib.hid hg
  have HB0 : Hid (Below w.heap.size w w) := Lib.hid (Below.refl _ _)
  have HRf0 := Lib.hid (h)
  clear h hg
  go_enter Try.func47, Try.ntmps47
  go_wp2_with fail
  have hb : Below w.heap.size w (w.alloc (.cells #[.int .i64 up, .int .i64 lo, .slice a rs.length c] 28)) := (Below.refl _ _).alloc (Nat.le_refl _) _
  have hk : (w.alloc (.cells #[.int .i64 up, .int .i64 lo, .slice a rs.length c] 28)).heap[w.heap.size]? = some (.cells #[.int .i64 up, .int .i64 lo, .slice a rs.length c] 28 (0, 0)) := alloc_at rfl
  have hz : (w.alloc (.cells #[.int .i64 up, .int .i64 lo, .slice a rs.length c] 28)).heap.size = w.heap.size + 1 := by simp
  generalize w.alloc (.cells #[.int .i64 up, .int .i64 lo, .slice a rs.length c] 28) = w1 at hb hk hz ⊢
  have HB1 : Hid (Below w.heap.size w w1) := Lib.hid (HB0.out.trans (hb.mono HB0.out.size))
  have HZ1 : Hid (w.heap.size ≤ w1.heap.size) := Lib.hid hb.size
  have HRf1 := Lib.hid (HRf0.out.below HB1.out (Nat.le_refl _))
  have HKf1 := Lib.hid hk
  replace HZ1 : Hid (w.heap.size < w1.heap.size) := Lib.hid (by omega)
  have HE1 := Lib.hid hz
  clear hb hk hz
  refine (l2Good_no up lo _ rs _ HRf1.out HG.out).mono ?_
  rintro e w2 ⟨rfl, hb⟩
  have HB2 : Hid (Below w.heap.size w w2) := Lib.hid (HB1.out.trans (hb.mono HB1.out.size))
  have HZ2 : Hid (w1.heap.size ≤ w2.heap.size) := Lib.hid hb.size
  have HRf2 := Lib.hid (HRf0.out.below HB2.out (Nat.le_refl _))
  have HKf2 := Lib.hid ((hb.block _ (lt_of_block HKf1.out)).trans HKf1.out)
  clear hb
  have ltf := lt_of_block HKf2.out
  obtain ⟨cf0, cf1, cf2, ff0, ff1, ff2⟩ := cell3 HKf2.out
  go_wp2_with fail
  go_ret2
  exact ⟨rfl, HB2.out⟩
set_option maxRecDepth 100000 in
set_option maxHeartbeats 3200000 in
theorem specFrameText_yes (up lo : Int) (sv : Value) (rs : List (Int × Int)) (w : World) (h : RodsR w sv rs) (hg : goodF up lo rs) :
    Calls Try.prog 47 #[.agg #[.int .i64 up, .int .i64 lo, sv]] w fun e w' => e = .returned (.tuple #[.string ⟨(textF up lo rs).toArray⟩, .bool true]) ∧ Below w.heap.size w w' := by
  obtain ⟨a, c, rfl⟩ : ∃ a c, sv = .slice a rs.length c := by obtain ⟨a, c, e, _⟩ := h; exact ⟨a, c, e⟩
  have HG := Lib.hid hg
  have HB0 : Hid (Below w.heap.size w w) := Lib.hid (Below.refl _ _)
  have HRf0 := Lib.hid (h)
  clear h hg
  go_enter Try.func47, Try.ntmps47
  go_wp2_with fail
  have hb : Below w.heap.size w (w.alloc (.cells #[.int .i64 up, .int .i64 lo, .slice a rs.length c] 28)) := (Below.refl _ _).alloc (Nat.le_refl _) _
  have hk : (w.alloc (.cells #[.int .i64 up, .int .i64 lo, .slice a rs.length c] 28)).heap[w.heap.size]? = some (.cells #[.int .i64 up, .int .i64 lo, .slice a rs.length c] 28 (0, 0)) := alloc_at rfl
  have hz : (w.alloc (.cells #[.int .i64 up, .int .i64 lo, .slice a rs.length c] 28)).heap.size = w.heap.size + 1 := by simp
  generalize w.alloc (.cells #[.int .i64 up, .int .i64 lo, .slice a rs.length c] 28) = w1 at hb hk hz ⊢
  have HB1 : Hid (Below w.heap.size w w1) := Lib.hid (HB0.out.trans (hb.mono HB0.out.size))
  have HZ1 : Hid (w.heap.size ≤ w1.heap.size) := Lib.hid hb.size
  have HRf1 := Lib.hid (HRf0.out.below HB1.out (Nat.le_refl _))
  have HKf1 := Lib.hid hk
  replace HZ1 : Hid (w.heap.size < w1.heap.size) := Lib.hid (by omega)
  have HE1 := Lib.hid hz
  clear hb hk hz
  refine (l2Good_yes up lo _ rs _ HRf1.out HG.out).mono ?_
  rintro e w2 ⟨rfl, hb⟩
  have HB2 : Hid (Below w.heap.size w w2) := Lib.hid (HB1.out.trans (hb.mono HB1.out.size))
  have HZ2 : Hid (w1.heap.size ≤ w2.heap.size) := Lib.hid hb.size
  have HRf2 := Lib.hid (HRf0.out.below HB2.out (Nat.le_refl _))
  have HKf2 := Lib.hid ((hb.block _ (lt_of_block HKf1.out)).trans HKf1.out)
  clear hb
  have ltf := lt_of_block HKf2.out
  obtain ⟨cf0, cf1, cf2, ff0, ff1, ff2⟩ := cell3 HKf2.out
  go_wp2_with fail
  refine (l2Text_any up lo _ rs _ HRf2.out HG.out).mono ?_
  rintro e w3 ⟨rfl, hb⟩
  have HB3 : Hid (Below w.heap.size w w3) := Lib.hid (HB2.out.trans (hb.mono HB2.out.size))
  have HZ3 : Hid (w2.heap.size ≤ w3.heap.size) := Lib.hid hb.size
  have HRf3 := Lib.hid (HRf0.out.below HB3.out (Nat.le_refl _))
  have HKf3 := Lib.hid ((hb.block _ (lt_of_block HKf2.out)).trans HKf2.out)
  clear hb
  clear cf0 cf1 cf2 ff0 ff1 ff2 ltf
  have ltf := lt_of_block HKf3.out
  obtain ⟨cf0, cf1, cf2, ff0, ff1, ff2⟩ := cell3 HKf3.out
  go_wp2_with fail
  go_ret2
  exact ⟨rfl, HB3.out⟩
set_option maxRecDepth 100000 in
set_option maxHeartbeats 3200000 in
theorem implFrameText_no (up lo : Int) (sv : Value) (rs : List (Int × Int)) (w : World) (h : RodsR w sv rs) (hg : ¬ goodF up lo rs) :
    Calls Try.prog 48 #[.agg #[.int .i64 up, .int .i64 lo, sv]] w fun e w' => e = .returned (.tuple #[.string ⟨#[]⟩, .bool false]) ∧ Below w.heap.size w w' := by
  obtain ⟨a, c, rfl⟩ : ∃ a c, sv = .slice a rs.length c := by obtain ⟨a, c, e, _⟩ := h; exact ⟨a, c, e⟩
  have HG := Lib.hid hg
  have HB0 : Hid (Below w.heap.size w w) := Lib.hid (Below.refl _ _)
  have HRf0 := Lib.hid (h)
  clear h hg
  go_enter Try.func48, Try.ntmps48
  go_wp2_with fail
  have hb : Below w.heap.size w (w.alloc (.cells #[.int .i64 up, .int .i64 lo, .slice a rs.length c] 28)) := (Below.refl _ _).alloc (Nat.le_refl _) _
  have hk : (w.alloc (.cells #[.int .i64 up, .int .i64 lo, .slice a rs.length c] 28)).heap[w.heap.size]? = some (.cells #[.int .i64 up, .int .i64 lo, .slice a rs.length c] 28 (0, 0)) := alloc_at rfl
  have hz : (w.alloc (.cells #[.int .i64 up, .int .i64 lo, .slice a rs.length c] 28)).heap.size = w.heap.size + 1 := by simp
  generalize w.alloc (.cells #[.int .i64 up, .int .i64 lo, .slice a rs.length c] 28) = w1 at hb hk hz ⊢
  have HB1 : Hid (Below w.heap.size w w1) := Lib.hid (HB0.out.trans (hb.mono HB0.out.size))
  have HZ1 : Hid (w.heap.size ≤ w1.heap.size) := Lib.hid hb.size
  have HRf1 := Lib.hid (HRf0.out.below HB1.out (Nat.le_refl _))
  have HKf1 := Lib.hid hk
  replace HZ1 : Hid (w.heap.size < w1.heap.size) := Lib.hid (by omega)
  have HE1 := Lib.hid hz
  clear hb hk hz
  refine (implIsFrame_no up lo _ rs _ HRf1.out HG.out).mono ?_
  rintro e w2 ⟨rfl, hb⟩
  have HB2 : Hid (Below w.heap.size w w2) := Lib.hid (HB1.out.trans (hb.mono HB1.out.size))
  have HZ2 : Hid (w1.heap.size ≤ w2.heap.size) := Lib.hid hb.size
  have HRf2 := Lib.hid (HRf0.out.below HB2.out (Nat.le_refl _))
  have HKf2 := Lib.hid ((hb.block _ (lt_of_block HKf1.out)).trans HKf1.out)
  clear hb
  have ltf := lt_of_block HKf2.out
  obtain ⟨cf0, cf1, cf2, ff0, ff1, ff2⟩ := cell3 HKf2.out
  go_wp2_with fail
  go_ret2
  exact ⟨rfl, HB2.out⟩

theorem digitSign_any (x : Int) (w : World) (h0 : 0 ≤ x) (h1 : x ≤ 9) :
    Calls Try.prog 82 #[.int .i64 x] w fun e w' => e = .returned (.int .u8 ((chD x).toNat : Int)) ∧ w' = w := by
  have hc := chD_nat x h0 h1
  rw [hc]
  go_enter Try.func82, Try.ntmps82
  go_wp2_with fail
  go_ret
  exact ⟨rfl, rfl⟩
/-- Bytes as cells. -/
def bytesV (l : List UInt8) : List Value := l.map fun b => Value.int .u8 (b.toNat : Int)
theorem bytesV_app (a b : List UInt8) : bytesV (a ++ b) = bytesV a ++ bytesV b := by simp [bytesV]
theorem bytesV_len (l : List UInt8) : (bytesV l).length = l.length := by simp [bytesV]
theorem Try.infoByte : (Try.prog.info? 5).map (fun i => (i.zero, i.size, i.bytes)) = some (some (.int .u8 0), 1, 1) := by kernel_rfl

set_option maxRecDepth 100000 in
set_option maxHeartbeats 3200000 in
theorem implFrameText_yes (up lo : Int) (sv : Value) (rs : List (Int × Int)) (w : World) (h : RodsR w sv rs) (hg : goodF up lo rs) :
    Calls Try.prog 48 #[.agg #[.int .i64 up, .int .i64 lo, sv]] w fun e w' => e = .returned (.tuple #[.string ⟨(textF up lo rs).toArray⟩, .bool true]) ∧ Below w.heap.size w w' := by
  obtain ⟨i0, hi, hz0, hz1, hz2⟩ := info_parts Try.infoByte
  have hm : rs.length ≤ 9223372036854775807 := by obtain ⟨_, _, _, ⟨m, _⟩, _⟩ := h; exact m
  obtain ⟨⟨u1, u2⟩, ⟨l1, l2⟩, n1, n2⟩ := hg.2
  obtain ⟨a, c, rfl⟩ : ∃ a c, sv = .slice a rs.length c := by obtain ⟨a, c, e, _⟩ := h; exact ⟨a, c, e⟩
  have RL : Hid (∀ w' : World, Below w.heap.size w w' → ∀ k, (hk : k < rs.length) → ∃ b o, a = some ⟨b, o, none⟩ ∧ w'.cell? ⟨b, o + k * 2, none⟩ = some (.int .i64 rs[k].1) ∧ w'.cell? ⟨b, o + k * 2 + 1, none⟩ = some (.int .i64 rs[k].2)) := Lib.hid (rods_at h)
  have HG := Lib.hid hg
  have HB0 : Hid (Below w.heap.size w w) := Lib.hid (Below.refl _ _)
  have HRf0 := Lib.hid (h)
  clear h hg
  go_enter Try.func48, Try.ntmps48
  go_wp2_with fail
  have hb : Below w.heap.size w (w.alloc (.cells #[.int .i64 up, .int .i64 lo, .slice a rs.length c] 28)) := (Below.refl _ _).alloc (Nat.le_refl _) _
  have hk : (w.alloc (.cells #[.int .i64 up, .int .i64 lo, .slice a rs.length c] 28)).heap[w.heap.size]? = some (.cells #[.int .i64 up, .int .i64 lo, .slice a rs.length c] 28 (0, 0)) := alloc_at rfl
  have hz : (w.alloc (.cells #[.int .i64 up, .int .i64 lo, .slice a rs.length c] 28)).heap.size = w.heap.size + 1 := by simp
  generalize w.alloc (.cells #[.int .i64 up, .int .i64 lo, .slice a rs.length c] 28) = w1 at hb hk hz ⊢
  have HB1 : Hid (Below w.heap.size w w1) := Lib.hid (HB0.out.trans (hb.mono HB0.out.size))
  have HZ1 : Hid (w.heap.size ≤ w1.heap.size) := Lib.hid hb.size
  have HRf1 := Lib.hid (HRf0.out.below HB1.out (Nat.le_refl _))
  have HKf1 := Lib.hid hk
  replace HZ1 : Hid (w.heap.size < w1.heap.size) := Lib.hid (by omega)
  have HE1 := Lib.hid hz
  clear hb hk hz
  refine (implIsFrame_yes up lo _ rs _ HRf1.out HG.out).mono ?_
  rintro e w2 ⟨rfl, hb⟩
  have HB2 : Hid (Below w.heap.size w w2) := Lib.hid (HB1.out.trans (hb.mono HB1.out.size))
  have HZ2 : Hid (w1.heap.size ≤ w2.heap.size) := Lib.hid hb.size
  have HRf2 := Lib.hid (HRf0.out.below HB2.out (Nat.le_refl _))
  have HKf2 := Lib.hid ((hb.block _ (lt_of_block HKf1.out)).trans HKf1.out)
  clear hb
  have ltf := lt_of_block HKf2.out
  obtain ⟨cf0, cf1, cf2, ff0, ff1, ff2⟩ := cell3 HKf2.out
  go_wp2_with fail
  go_region_held3 (fun w' => w'.cell? ⟨w.heap.size, 0, none⟩ = some (.int .i64 up) ∧ w'.cell? ⟨w.heap.size, 1, none⟩ = some (.int .i64 lo))
    (first
      | go_keep)
    (first
      | (go_at_call 82; refine (digitSign_any _ _ (by omega) (by omega)).mono ?_; rintro e w9 ⟨rfl, hw⟩; subst w9))
  go_wp2_with fail
  have hb : Below w2.heap.size w2 (w2.alloc (.cells #[.int .u8 ((chD up).toNat : Int), .int .u8 47, .int .u8 ((chD lo).toNat : Int)] 5)).drew := ((Below.refl _ _).alloc (Nat.le_refl _) _).drew
  have ho : (w2.alloc (.cells #[.int .u8 ((chD up).toNat : Int), .int .u8 47, .int .u8 ((chD lo).toNat : Int)] 5)).drew.ownsRow w.heap.size 5 1 (.slice (some ⟨w2.heap.size, 0, none⟩) 3 3) 3 (bytesV (textF up lo (rs.take 0))) := World.ownsRow_lit w2 #[.int .u8 ((chD up).toNat : Int), .int .u8 47, .int .u8 ((chD lo).toNat : Int)] 3 HB2.out.size (by decide) rfl
  generalize (w2.alloc (.cells #[.int .u8 ((chD up).toNat : Int), .int .u8 47, .int .u8 ((chD lo).toNat : Int)] 5)).drew = w3 at hb ho ⊢
  have HO3 := Lib.hid ho
  clear ho
  have HB3 : Hid (Below w.heap.size w w3) := Lib.hid (HB2.out.trans (hb.mono HB2.out.size))
  have HZ3 : Hid (w2.heap.size ≤ w3.heap.size) := Lib.hid hb.size
  have HRf3 := Lib.hid (HRf0.out.below HB3.out (Nat.le_refl _))
  have HKf3 := Lib.hid ((hb.block _ (lt_of_block HKf2.out)).trans HKf2.out)
  clear hb
  go_loopw [4, 20] (fun v i wr => ∃ k : Nat, k ≤ rs.length ∧ i = .int .i64 k ∧ wr.ownsRow w.heap.size 5 1 v (3 + 3 * k) (bytesV (textF up lo (rs.take k))) ∧ Below w.heap.size w wr) (fun _ i _ => rs.length - (intOf i).toNat)
  case atStart => exact ⟨0, Nat.zero_le _, rfl, HO3.out, HB3.out⟩
  case round =>
    obtain ⟨k, hk, rfl, ho, hb⟩ := hrel
    obtain ⟨g, cap, rfl⟩ := own_block' ho (by omega)
    by_cases hlt : k < rs.length
    · obtain ⟨b1, o1, rfl, p1, p2⟩ := RL.out _ hb k hlt
      obtain ⟨⟨d1, d2⟩, d3, d4⟩ := HG.out.1 k hlt
      have z1 : (0 : Int) ≤ (k : Int) := by omega
      have z2 : (k : Int) < (rs.length : Int) := by omega
      have HS := Lib.hid (textF_snoc up lo rs k hlt)
      have HB10 : Hid (Below w.heap.size w wr) := Lib.hid hb
      have HRf10 := Lib.hid (HRf0.out.below HB10.out (Nat.le_refl _))
      have HOv10 := Lib.hid (Ow.mk' ho)
      clear hb ho
      go_wp2_with fail
      have hb : Below wr.heap.size wr (wr.alloc (.cells #[.int .i64 rs[k].1, .int .i64 rs[k].2] 69)) := (Below.refl _ _).alloc (Nat.le_refl _) _
      have hk : (wr.alloc (.cells #[.int .i64 rs[k].1, .int .i64 rs[k].2] 69)).heap[wr.heap.size]? = some (.cells #[.int .i64 rs[k].1, .int .i64 rs[k].2] 69 (0, 0)) := alloc_at rfl
      have hz : (wr.alloc (.cells #[.int .i64 rs[k].1, .int .i64 rs[k].2] 69)).heap.size = wr.heap.size + 1 := by simp
      generalize wr.alloc (.cells #[.int .i64 rs[k].1, .int .i64 rs[k].2] 69) = w11 at hb hk hz ⊢
      have HB11 : Hid (Below w.heap.size w w11) := Lib.hid (HB10.out.trans (hb.mono HB10.out.size))
      have HZ11 : Hid (wr.heap.size ≤ w11.heap.size) := Lib.hid hb.size
      have HRf11 := Lib.hid (HRf0.out.below HB11.out (Nat.le_refl _))
      have HOv11 := Lib.hid (HOv10.out.next hb)
      have HKr11 := Lib.hid hk
      replace HZ11 : Hid (wr.heap.size < w11.heap.size) := Lib.hid (by omega)
      have HE11 := Lib.hid hz
      clear hb hk hz
      have ltr := lt_of_block HKr11.out
      obtain ⟨cr0, cr1, fr0, fr1⟩ := cell2 HKr11.out
      have hsz11 := HB11.out.size
      go_region_held3 (fun w' => w'.cell? ⟨wr.heap.size, 0, none⟩ = some (.int .i64 rs[k].1) ∧ w'.cell? ⟨wr.heap.size, 1, none⟩ = some (.int .i64 rs[k].2))
        (first
          | go_keep
          | exact ⟨x0, x1⟩)
        (first
          | (go_at_call 82; refine (digitSign_any _ _ (by omega) (by omega)).mono ?_; rintro e w9 ⟨rfl, hw⟩; subst w9)
          | (refine step_append_lies _ (by rfl) _ _ _ (by rfl) w.heap.size 5 i0 _ 1 1 Try.underlying22 hi hz0 hz1 hz2 rfl (by omega) _ (3 + 3 * k) _ (by rfl) ((World.ownsRow.drew HOv11.out.1).alloc _) ⟨w11.heap.size, 0, none⟩ 3 3 (bytesV [32, chD rs[k].1, chD rs[k].2]) (by rfl) (by rfl) (World.news_of_block (cs := #[.int .u8 32, .int .u8 ((chD rs[k].1).toNat : Int), .int .u8 ((chD rs[k].2).toNat : Int)]) (t := 5) (fr := (0, 0)) (heap_alloc_new w11.drew _)) (by intro u hu; simp [bytesV] at hu; rcases hu with rfl | rfl | rfl <;> rfl) (by omega) (by unfold maxLen; omega) (by omega) (by simp; omega) (w11.heap.size + 1) (by simp) ?_
             intro gg cc w12 hown12 hgrow hat hlt12
             have hr12 := (hgrow.block wr.heap.size (by simp; omega) (fun e => absurd (HOv11.out.2 _ e.symm) (by omega))).trans ((alloc_old (by show wr.heap.size < w11.heap.size; omega)).trans HKr11.out)
             obtain ⟨x0, x1, _, _⟩ := cell2 hr12))
      all_goals
        have HO12 := Lib.hid hown12
        have HB12 := Lib.hid (((Below.drew HB11.out).alloc HB11.out.size _).grown hgrow (by simp; omega) (fun j hj => (HOv11.out.1.lt j hj).1))
        clear hown12 hgrow hat hlt12 hr12
        go_wp2_with fail
        go_roundw
        case rel =>
          refine ⟨k + 1, by omega, by go_num, ?_, HB12.out⟩
          have := HO12.out
          rw [HS.out, bytesV_app]
          exact this
        case measure => simp [intOf]; omega
    · have hke : k = rs.length := by omega
      subst hke
      have HB := Lib.hid hb
      have hcv : ∀ (T : TypeId), Try.prog.underlying T = some .string → (convert 22 T (.slice (some ⟨g, 0, none⟩) (3 + 3 * rs.length) cap)).run Try.prog wr = .ok (.string ⟨(textF up lo rs).toArray⟩) wr := by
        intro T hT
        have := run_convert_bytes_back (P := Try.prog) wr 22 T 5 ⟨g, 0, none⟩ cap (textF up lo rs) Try.underlying22 Try.underlying5 hT (fun j hj => by
          rw [List.take_of_length_le (Nat.le_refl _)] at ho
          have hc := ho.cells (g := g) rfl j (.int .u8 ((textF up lo rs)[j].toNat : Int)) (by simp [bytesV, List.getElem?_eq_getElem hj])
          exact hc)
        rwa [textF_len] at this
      have hcv9 := hcv _ Try.underlying9
      clear hb ho hcv
      go_wp2_with fail
      go_ret2
      exact ⟨rfl, HB.out⟩
end Go.Proofs.Ytbnfbpbfbdbiaaa
