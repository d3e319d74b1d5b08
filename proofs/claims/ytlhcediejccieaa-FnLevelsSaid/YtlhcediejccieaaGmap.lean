/- A map of the call's own, from names to slices of numbers; the rows that it leads to. -/
import Derived.Test.YtlhcediejccieaaPsame
import Derived.Maps.OwnOps
import Derived.Deep.AppendLies
import Derived.Maps.Views
import Derived.StringKeys
namespace Go.Proofs.Ytlhcediejccieaa
set_option linter.unusedVariables false
open Go.RowKit Go.Maps Go.ChangeMaps

/-- How an element reads: as itself. -/
def mR (v : Value) : Option (DataW Value × List MemPlace) := some (.held v, [])
theorem strK : Keyed Try.prog 9 := string_keyed Try.underlying9
/-- Block b is a map of at most n entries; the name l leads to f l. -/
def GMap (w : World) (b n : Nat) (f : List UInt8 → Value) : Prop := ∃ D : DataW Value, w.ownsMap Try.prog 9 mR b n D ∧ ∀ l, D.atKey (.string l) (.held (.slice none 0 0)) = .held (f l)
theorem GMap.made (w : World) : GMap (w.alloc (.map #[] 0)) w.heap.size 0 (fun _ => .slice none 0 0) := ⟨.map [], World.ownsMap_made _ _ _ _, fun _ => rfl⟩
theorem GMap.kept {w w' : World} {b n : Nat} {f : List UInt8 → Value} {row : Option Nat} (h : GMap w b n f) (hg : w.grownBy w' row) (hne : some b ≠ row) : GMap w' b n f := by
  obtain ⟨D, h1, h2⟩ := h
  exact ⟨D, h1.kept hg hne, h2⟩
theorem GMap.lt {w : World} {b n : Nat} {f : List UInt8 → Value} (h : GMap w b n f) : b < w.heap.size := by obtain ⟨D, h1, _⟩ := h; exact h1.lt
theorem GMap.of_block {w w' : World} {b n : Nat} {f : List UInt8 → Value} (h : GMap w b n f) (hb : w'.heap[b]? = w.heap[b]?) : GMap w' b n f := by
  obtain ⟨D, ⟨es, clock, h1, h2⟩, h3⟩ := h
  exact ⟨D, ⟨es, clock, hb.trans h1, h2⟩, h3⟩
theorem GMap.below {w w' : World} {b n B : Nat} {f : List UInt8 → Value} (h : GMap w b n f) (hb : Below B w w') (hB : b < B) : GMap w' b n f := h.of_block (hb.block b hB)
theorem GMap.look {w : World} {b n : Nat} {f : List UInt8 → Value} (h : GMap w b n f) (hz : (zeroValue 27).run Try.prog w = .ok (.slice none 0 0) w) (s : ByteArray) (hs : s.size ≤ maxLen) :
    (Instr.lookup 71 (.map (some b)) (.string s) false).run Try.prog w = .ok (f s.data.toList) w := by
  obtain ⟨D, h1, h2⟩ := h
  obtain ⟨v, ps, hr, hv⟩ := h1.lookup strK Try.underlying71 hz (zd := .held (.slice none 0 0)) (zp := []) rfl (Go.WideMaps.keyOf_string_mk Try.underlying9 hs)
  rw [h2] at hv
  simp [mR] at hv
  rw [hr, hv.1]
theorem GMap.put {w' : World} {b n : Nat} {f : List UInt8 → Value} {D : DataW Value} {s : ByteArray} {v : Value} (h : w'.ownsMap Try.prog 9 mR b n (D.put (.string s.data.toList) (.held v))) (hD : IsMap D) (h2 : ∀ l, D.atKey (.string l) (.held (.slice none 0 0)) = .held (f l)) :
    GMap w' b n (fun l => if l = s.data.toList then v else f l) := by
  refine ⟨_, h, fun l => ?_⟩
  by_cases e : l = s.data.toList
  · subst e
    show _ = DataW.held (if s.data.toList = s.data.toList then v else f s.data.toList)
    rw [if_pos rfl]
    exact atKey_put_same hD (by simp [WideAt.IsKeyLit]) _ _
  · show _ = DataW.held (if l = s.data.toList then v else f l)
    rw [if_neg e, ← h2 l]
    exact atKey_put_other (fun e' => e (by injection e')) _ _
end Go.Proofs.Ytlhcediejccieaa
