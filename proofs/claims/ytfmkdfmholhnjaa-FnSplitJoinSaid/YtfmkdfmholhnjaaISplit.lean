/- SplitString of the program and of the model. -/
import Derived.Test.YtfmkdfmholhnjaaRange
import Derived.Test.YtfmkdfmholhnjaaIn
import Derived.Test.YtfmkdfmholhnjaaSlr
namespace Go.Proofs.Ytfmkdfmholhnjaa
set_option linter.unusedVariables false
open Go.RowKit Go.Shelf

/-- Pieces as strings. -/
def pcs (c : UInt8) (s : ByteArray) : List ByteArray := (spl c s.data.toList).map fun l => ⟨l.toArray⟩
theorem pcs_len (c : UInt8) (s : ByteArray) : (pcs c s).length = (spl c s.data.toList).length := by simp [pcs]
theorem pcs_vals (c : UInt8) (s : ByteArray) : (pcs c s).map Value.string = (spl c s.data.toList).map strV := by simp [pcs, strV]
theorem spl_len (c : UInt8) : ∀ l : List UInt8, (spl c l).length ≤ l.length + 1
  | [] => by simp [spl]
  | x :: r => by
    have := spl_len c r
    rw [spl]
    split
    · simp; omega
    · split
      · simp
      · rename_i h; rw [h] at this; simp at this ⊢; omega
theorem pcs_le (c : UInt8) (s : ByteArray) : (pcs c s).length ≤ s.size + 1 := by
  rw [pcs_len]; have := spl_len c s.data.toList; simp at this; omega

set_option maxRecDepth 100000 in
set_option maxHeartbeats 800000 in
theorem collect_in (n : Nat) (hn : 4 ≤ n) (gf : Nat) (lb : Array Value) (egf : ∀ args w, (callFunc gf args).run Try.prog w = .ok (.enter gf args) w) (S Sp : List (List UInt8) → Prop) (N : Nat) (hN : N ≤ 100000) (w : World)
    (hseq : SeqStopsK Fence.wide (n - 1 - 1) Try.prog gf lb (fun x : List UInt8 => #[strV x]) (Below w.heap.size) S Sp N w) :
    CallsIn Fence.wide n Try.prog 19 #[.func (.func gf) #[] lb] w fun e W' => ∃ v ys, e = .returned v ∧ S ys ∧ W'.ownsRow w.heap.size 9 1 v ys.length (ys.map strV) ∧ Below w.heap.size w W' := by
  have h1 : 1 ≤ n := by omega
  have cA := appendSeq_in (n - 1) (by omega) gf lb egf S Sp N hN w hseq
  have hfA : Fence.wide.fn 29 := trivial
  refine callsIn_of_wp Try.func19 rfl trivial ?_ rfl
  simp only [Try.ntmps19, List.size_toArray, List.length_cons, List.length_nil, Nat.reduceAdd, Nat.reduceSub, Array.replicate_succ, Array.replicate_zero, List.push_toArray, List.append_toArray, List.nil_append, List.cons_append]
  gi_wp2_with (gi_at_call 29; refine cA.mono ?_; rintro e w' ⟨v, ys, rfl, hS, hrow, hb⟩)
  go_ret
  exact ⟨v, ys, rfl, hS, hrow, hb⟩
set_option maxRecDepth 100000 in
set_option maxHeartbeats 1600000 in
theorem implSplit_yes (s : ByteArray) (c : UInt8) (w : World) (hs : s.size ≤ 4000) :
    Calls Try.prog 6 #[.string s, .string ⟨#[c]⟩] w fun e w' => (∃ v, e = .returned (.tuple #[v, .bool true]) ∧ w'.ownsRow w.heap.size 9 1 v (pcs c s).length ((pcs c s).map Value.string)) ∧ Below w.heap.size w w' := by
  refine (callsIn_wide (n := 8)).1 ?_
  have hn : (1 : Nat) ≤ 8 := by omega
  have hs' : (s.size : Int) ≤ 4000 := by omega
  have hsc : (⟨#[c]⟩ : ByteArray).size = 1 := rfl
  obtain ⟨w1, hw1⟩ : ∃ w1, (w.alloc (.cells #[.string s] 9)).alloc (.cells #[.int .u8 (c.toNat : Int)] 5) = w1 := ⟨_, rfl⟩
  have hsz : w1.heap.size = w.heap.size + 1 + 1 := by rw [← hw1]; simp
  have hb1 : Below w.heap.size w w1 := by rw [← hw1]; exact ((Below.refl _ w).alloc (Nat.le_refl _) _).alloc (by simp) _
  have c1 : w1.heap[w.heap.size]? = some (.cells #[.string s] 9 (0, 0)) := by rw [← hw1]; exact (alloc_old (by simp)).trans (alloc_at rfl)
  have c2 : w1.heap[w.heap.size + 1]? = some (.cells #[.int .u8 (c.toNat : Int)] 5 (0, 0)) := by rw [← hw1]; exact alloc_at (by simp)
  have d1 : w1.cell? ⟨w.heap.size, 0, none⟩ = some (.string s) := by simp [World.cell?, c1]
  have d2 : w1.cell? ⟨w.heap.size + 1, 0, none⟩ = some (.int .u8 (c.toNat : Int)) := by simp [World.cell?, c2]
  have cP := piecesOf_in 7 s c w
  rw [hw1] at cP
  have cC := collect_in 7 (by omega) 30 #[.pointer (some ⟨w.heap.size, 0, none⟩), .pointer (some ⟨w.heap.size + 1, 0, none⟩)] (enters_of Try.func30 (by kernel_rfl) rfl) _ _ (s.size + 1) (by omega) w1 (pieces_stops 5 (by omega) w.heap.size (w.heap.size + 1) w1.heap.size s c hs w1 (Nat.le_refl _) (by omega) (by omega) d1 d2)
  have HC := Lib.hid cC
  have HB := Lib.hid hb1
  have HP := Lib.hid cP
  clear cC cP hb1 c1 c2 d1 d2 hw1 hsz
  have hfP : Fence.wide.fn 20 := trivial
  have hfC : Fence.wide.fn 19 := trivial
  refine callsIn_of_wp Try.func6 rfl trivial ?_ rfl
  simp only [Try.ntmps6, List.size_toArray, List.length_cons, List.length_nil, Nat.reduceAdd, Nat.reduceSub, Array.replicate_succ, Array.replicate_zero, List.push_toArray, List.append_toArray, List.nil_append, List.cons_append]
  gi_wp2_with (first
    | (gi_at_call 20; refine HP.out.mono ?_; rintro e w' ⟨rfl, rfl⟩)
    | (gi_at_call 19; refine HC.out.mono ?_; rintro e w2 ⟨v, ys, rfl, rfl, hrow, hb2⟩))
  go_ret2
  refine ⟨⟨_, rfl, ?_⟩, HB.out.trans (hb2.mono HB.out.size)⟩
  rw [pcs_len, pcs_vals]
  exact own_mono hrow HB.out.size
set_option maxRecDepth 100000 in
set_option maxHeartbeats 800000 in
theorem implSplit_no (s sep : ByteArray) (w : World) (h : ¬ (s.size ≤ 4000 ∧ sep.size = 1)) :
    Calls Try.prog 6 #[.string s, .string sep] w fun e w' => (∃ v, e = .returned (.tuple #[v, .bool false]) ∧ w'.ownsRow w.heap.size 9 1 v ([] : List ByteArray).length (([] : List ByteArray).map Value.string)) ∧ Below w.heap.size w w' := by
  by_cases h1 : (4000 : Int) < (s.size : Int)
  · clear h
    go_enter Try.func6, Try.ntmps6
    go_wp2
    go_ret2
    exact ⟨⟨_, rfl, World.ownsRow_made _ _ _ (Nat.le_refl _) (Nat.zero_le _) (by simp)⟩, (Below.refl _ _).alloc (Nat.le_refl _) _⟩
  · have h2 : ((sep.size : Int) != 1) = true := by rw [bne_iff_ne]; intro e; exact h ⟨by omega, by omega⟩
    clear h
    go_enter Try.func6, Try.ntmps6
    go_wp2
    go_ret2
    exact ⟨⟨_, rfl, World.ownsRow_made _ _ _ (Nat.le_refl _) (Nat.zero_le _) (by simp)⟩, (Below.refl _ _).alloc (Nat.le_refl _) _⟩
set_option maxRecDepth 100000 in
set_option maxHeartbeats 800000 in
theorem specSplit_yes (s : ByteArray) (c : UInt8) (w : World) (hs : s.size ≤ 4000) :
    Calls Try.prog 5 #[.string s, .string ⟨#[c]⟩] w fun e w' => (∃ v, e = .returned (.tuple #[v, .bool true]) ∧ w'.ownsRow w.heap.size 9 1 v (pcs c s).length ((pcs c s).map Value.string)) ∧ Below w.heap.size w w' := by
  have hs' : (s.size : Int) ≤ 4000 := by omega
  have hsc : (⟨#[c]⟩ : ByteArray).size = 1 := rfl
  go_enter Try.func5, Try.ntmps5
  go_wp2_with fail
  refine (l1Split_any s c _ (by omega)).mono ?_
  rintro e w2 ⟨v, rfl, ho, hb⟩
  have HO := Lib.hid ho
  have HB := Lib.hid hb
  clear ho hb
  go_wp2_with fail
  go_ret2
  refine ⟨⟨_, rfl, ?_⟩, HB.out⟩
  rw [pcs_len, pcs_vals]
  exact HO.out
set_option maxRecDepth 100000 in
set_option maxHeartbeats 800000 in
theorem specSplit_no (s sep : ByteArray) (w : World) (h : ¬ (s.size ≤ 4000 ∧ sep.size = 1)) :
    Calls Try.prog 5 #[.string s, .string sep] w fun e w' => (∃ v, e = .returned (.tuple #[v, .bool false]) ∧ w'.ownsRow w.heap.size 9 1 v ([] : List ByteArray).length (([] : List ByteArray).map Value.string)) ∧ Below w.heap.size w w' := by
  by_cases h1 : ((sep.size : Int) != 1) = true
  · clear h
    go_enter Try.func5, Try.ntmps5
    go_wp2
    go_ret2
    exact ⟨⟨_, rfl, World.ownsRow_made _ _ _ (Nat.le_refl _) (Nat.zero_le _) (by simp)⟩, (Below.refl _ _).alloc (Nat.le_refl _) _⟩
  · have h2 : ((sep.size : Int) != 1) = false := by simpa using h1
    have h3 : (4000 : Int) < (s.size : Int) := by
      have : sep.size = 1 := by simp at h2; omega
      by_cases h4 : s.size ≤ 4000
      · exact absurd ⟨h4, this⟩ h
      · omega
    clear h h1
    go_enter Try.func5, Try.ntmps5
    go_wp2
    go_ret2
    exact ⟨⟨_, rfl, World.ownsRow_made _ _ _ (Nat.le_refl _) (Nat.zero_le _) (by simp)⟩, (Below.refl _ _).alloc (Nat.le_refl _) _⟩
end Go.Proofs.Ytfmkdfmholhnjaa
