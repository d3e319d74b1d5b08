/- Parts laid as one: Rrd, Itc. -/
import Derived.OrdersIn
import Derived.TacticsIn
import Derived.RangeFuncCalls
import Derived.Test.YthmbehknacjodaaK9b
import Derived.Test.YthmbehknacjodaaK9c
import Derived.Test.YthmbehknacjodaaTmc
import Derived.Test.YthmbehknacjodaaKe
import Derived.Test.YthmbehknacjodaaKl
import Derived.Test.YthmbehknacjodaaKf
import Derived.Test.YthmbehknacjodaaSet
import Derived.Maps.OwnIn
import Derived.Shelf.RegionOpen
import Derived.Sort.CutIn
/-! Rrd -/
namespace Go.Proofs.Ythmbehknacjodaa
set_option linter.unusedVariables false
open Go

def noDefer (ops : Array Oper) : Bool := ops.all fun o => match o.op with | .defer _ => false | _ => true
theorem noDefer_spec {ops : Array Oper} (h : noDefer ops = true) {j : Nat} {o : Oper} (hj : ops[j]? = some o) : ∀ c, o.op ≠ .defer c := by
  intro c e
  obtain ⟨hlt, rfl⟩ := Array.getElem?_eq_some_iff.1 hj
  have := Array.all_eq_true.1 h j hlt
  rw [e] at this
  cases this
theorem wpOp_inRound {F : Fence} {n : Nat} {P : Program} {Q : Exit → Act → World → Prop} (l : Nat) (hro : F.round = none) {o : Oper} (hnd : ∀ c, o.op ≠ .defer c) {K : Act → World → Prop} {a : Act} {w : World} (h : o.wpIn F n P a w K Q) : o.wpIn (F.inRound l) n P a w K Q := by
  unfold Oper.wpIn at *
  refine ⟨h.1, ?_⟩
  have h := h.2
  rw [hro, Oper.semAt_none] at h
  rw [Fence.inRound_round, Oper.semAt_some l a.eval o hnd]
  generalize (execOp a.eval o).run P w = r at *
  cases r with
  | ok x w' => cases x <;> exact h
  | halt x w' => cases x <;> exact h
theorem wpAny_inRound {F : Fence} {n : Nat} {P : Program} {ops : Array Oper} {Q : Exit → Act → World → Prop} {md : Region.Mode} (l : Nat) (hro : F.round = none) (hnd : noDefer ops = true) :
    ∀ (fuel : Nat) (listed : Array Bool) (a : Act) (w : World), wpAnyIn F n P md ops Q fuel listed a w → wpAnyIn (F.inRound l) n P md ops Q fuel listed a w
  | 0, _, _, _, h => h
  | fuel + 1, listed, a, w, h => by
    refine ⟨h.1, fun i hi => ?_⟩
    have h2 := wpOpIn_mono (fun a w => wpAny_inRound l hro hnd fuel (listed.setIfInBounds i true) a w) (h.2 i hi)
    unfold wpOpIn at h2 ⊢
    cases ho : ops[i]? with
    | none => simpa only [ho] using h2
    | some o =>
      simp only [ho] at h2 ⊢
      split
      · rename_i hw
        rw [if_pos hw] at h2
        exact wpOp_inRound l hro (noDefer_spec hnd ho) h2
      · rename_i hw
        rw [if_neg hw] at h2
        exact h2
theorem region_inRound {F : Fence} {n : Nat} {P : Program} {ops : Array Oper} {Q : Exit → Act → World → Prop} {id : Nat} {a : Act} {w : World} (l : Nat) (hm : P.follows .mixedOrders = true) (hro : F.round = none) (hnd : noDefer ops = true)
    (h : wpAnyIn F n P .any ops Q ops.size (Array.replicate ops.size false) a w.drew) : (Code.region id ops true).wpIn (F.inRound l) n P Q a w :=
  wpIn_region_any hm (wpAny_inRound l hro hnd _ _ _ _ h)
end Go.Proofs.Ythmbehknacjodaa

/-! Itc -/
namespace Go.Proofs.Ythmbehknacjodaa
set_option linter.unusedVariables false
open Go.RowKit Go.Shelf

attribute [local go_sem] Oper.semAt_some

theorem box9_set {w : World} {g : Nat} {a0 a1 a2 a3 a4 a5 a6 a7 a8 : Value} {T : TypeId} (h : w.heap[g]? = some (.cells #[a0, a1, a2, a3, a4, a5, a6, a7, a8] T (0, 0))) (x0 x1 x2 x3 x4 x5 x6 x7 x8 : Value) : (((((((((w.setCell ⟨g, 0, none⟩ x0).setCell ⟨g, 1, none⟩ x1).setCell ⟨g, 2, none⟩ x2).setCell ⟨g, 3, none⟩ x3).setCell ⟨g, 4, none⟩ x4).setCell ⟨g, 5, none⟩ x5).setCell ⟨g, 6, none⟩ x6).setCell ⟨g, 7, none⟩ x7).setCell ⟨g, 8, none⟩ x8).heap[g]? = some (.cells #[x0, x1, x2, x3, x4, x5, x6, x7, x8] T (0, 0)) := by
  have h0 := heap_setCell_same w g 0 _ _ x0 h
  have h1 := heap_setCell_same _ g 1 _ _ x1 h0
  have h2 := heap_setCell_same _ g 2 _ _ x2 h1
  have h3 := heap_setCell_same _ g 3 _ _ x3 h2
  have h4 := heap_setCell_same _ g 4 _ _ x4 h3
  have h5 := heap_setCell_same _ g 5 _ _ x5 h4
  have h6 := heap_setCell_same _ g 6 _ _ x6 h5
  have h7 := heap_setCell_same _ g 7 _ _ x7 h6
  have h8 := heap_setCell_same _ g 8 _ _ x8 h7
  simpa using h8
def TcRel (W : World) (G : Int) (RT : List (Int × Int)) (tp : Value) (wc : World) : Prop :=
  ∃ (A rb1 rc1 q1 n1 k1 : Nat) (j0 j1 j2 j3 : Int), tp = .pointer (some ⟨A, 0, none⟩) ∧ W.heap.size ≤ A ∧ Below W.heap.size W wc ∧ wc.heap[A]? = some (.cells #[.int .i64 1, .int .i64 4, .slice (some ⟨rb1, 0, none⟩) 8 rc1, .slice (some ⟨q1, 0, none⟩) n1 k1, .int .i64 G, .int .i64 j0, .int .i64 j1, .int .i64 j2, .int .i64 j3] 86 (0, 0)) ∧ wc.ownsRow W.heap.size 77 2 (.slice (some ⟨rb1, 0, none⟩) 8 rc1) 8 (flat RT)
theorem tc_late {W wA : World} {G : Int} {RT : List (Int × Int)} {rb1 rc1 q1 n1 k1 : Nat} {j0 j1 j2 j3 : Int} (hb : Below W.heap.size W wA) (ho : wA.ownsRow W.heap.size 77 2 (.slice (some ⟨rb1, 0, none⟩) 8 rc1) 8 (flat RT)) :
    TcRel W G RT (.pointer (some ⟨wA.heap.size, 0, none⟩)) (wA.alloc (.cells #[.int .i64 1, .int .i64 4, .slice (some ⟨rb1, 0, none⟩) 8 rc1, .slice (some ⟨q1, 0, none⟩) n1 k1, .int .i64 G, .int .i64 j0, .int .i64 j1, .int .i64 j2, .int .i64 j3] 86)) :=
  ⟨_, rb1, rc1, q1, n1, k1, j0, j1, j2, j3, rfl, hb.size, hb.alloc hb.size _, alloc_at rfl, ho.alloc _⟩
theorem tc_early {W wA : World} {G : Int} {RT : List (Int × Int)} {A rb1 rc1 q1 n1 k1 : Nat} {j0 j1 j2 j3 : Int} {a0 a1 a2 a3 a4 a5 a6 a7 a8 : Value} (hle : W.heap.size ≤ A) (hb : Below W.heap.size W wA) (hz : wA.heap[A]? = some (.cells #[a0, a1, a2, a3, a4, a5, a6, a7, a8] 86 (0, 0))) (ho : wA.ownsRow W.heap.size 77 2 (.slice (some ⟨rb1, 0, none⟩) 8 rc1) 8 (flat RT)) :
    TcRel W G RT (.pointer (some ⟨A, 0, none⟩)) (((((((((wA.setCell ⟨A, 0, none⟩ (.int .i64 1)).setCell ⟨A, 1, none⟩ (.int .i64 4)).setCell ⟨A, 2, none⟩ (.slice (some ⟨rb1, 0, none⟩) 8 rc1)).setCell ⟨A, 3, none⟩ (.slice (some ⟨q1, 0, none⟩) n1 k1)).setCell ⟨A, 4, none⟩ (.int .i64 G)).setCell ⟨A, 5, none⟩ (.int .i64 j0)).setCell ⟨A, 6, none⟩ (.int .i64 j1)).setCell ⟨A, 7, none⟩ (.int .i64 j2)).setCell ⟨A, 8, none⟩ (.int .i64 j3)) := by
  have hne := own_box ho hz (by decide)
  exact ⟨A, rb1, rc1, q1, n1, k1, j0, j1, j2, j3, rfl, hle, (((((((((hb.setCell (p := ⟨A, 0, none⟩) hle (.int .i64 1)).setCell (p := ⟨A, 1, none⟩) hle (.int .i64 4)).setCell (p := ⟨A, 2, none⟩) hle (.slice (some ⟨rb1, 0, none⟩) 8 rc1)).setCell (p := ⟨A, 3, none⟩) hle (.slice (some ⟨q1, 0, none⟩) n1 k1)).setCell (p := ⟨A, 4, none⟩) hle (.int .i64 G)).setCell (p := ⟨A, 5, none⟩) hle (.int .i64 j0)).setCell (p := ⟨A, 6, none⟩) hle (.int .i64 j1)).setCell (p := ⟨A, 7, none⟩) hle (.int .i64 j2)).setCell (p := ⟨A, 8, none⟩) hle (.int .i64 j3)), box9_set hz (.int .i64 1) (.int .i64 4) (.slice (some ⟨rb1, 0, none⟩) 8 rc1) (.slice (some ⟨q1, 0, none⟩) n1 k1) (.int .i64 G) (.int .i64 j0) (.int .i64 j1) (.int .i64 j2) (.int .i64 j3), (own_set_box (own_set_box (own_set_box (own_set_box (own_set_box (own_set_box (own_set_box (own_set_box (own_set_box ho hne 0 (.int .i64 1)) hne 1 (.int .i64 4)) hne 2 (.slice (some ⟨rb1, 0, none⟩) 8 rc1)) hne 3 (.slice (some ⟨q1, 0, none⟩) n1 k1)) hne 4 (.int .i64 G)) hne 5 (.int .i64 j0)) hne 6 (.int .i64 j1)) hne 7 (.int .i64 j2)) hne 8 (.int .i64 j3))⟩
theorem keepP_boxes {B1 B2 Bs : Nat} {W X : World} (hbs : B1 ≤ Bs ∧ Bs < B2) (hsz : W.heap.size ≤ X.heap.size) (hsame : ∀ k, k < W.heap.size → ¬ (B1 ≤ k ∧ k < B2) → X.heap[k]? = W.heap[k]?) {up lo : Int} {g n c : Nat} {T : TypeId}
    (hbox : X.heap[Bs]? = some (.cells #[.int .i64 up, .int .i64 lo, .slice (some ⟨g, 0, none⟩) n c] T (0, 0))) (hg : W.heap.size ≤ g ∧ g < X.heap.size) : KeepP B1 B2 Bs W X := by
  have hm : ∀ k, Mine B1 B2 Bs X k → (B1 ≤ k ∧ k < B2) ∨ k = g := by
    rintro k (hk | ⟨off, v, hv, hk⟩)
    · exact .inl hk
    · simp only [World.cell?, hbox] at hv
      match off, hv with
      | 0, hv => simp at hv; subst hv; cases hk
      | 1, hv => simp at hv; subst hv; cases hk
      | 2, hv => simp at hv; subst hv; right; simpa [Value.ownBlock] using hk.symm
      | q + 3, hv => simp at hv
  refine ⟨hsz, fun k o hk _ hn => (hsame k (heap_lt hk) fun h => hn (.inl h)).trans hk, fun k hk => ?_, fun hW => ⟨hW.1, fun k hk => ?_⟩⟩
  · rcases hm k hk with h | h
    · exact .inl (.inl h)
    · exact .inr (by omega)
  · rcases hm k hk with h | h
    · exact Nat.lt_of_lt_of_le (hW.2 k (.inl h)) hsz
    · omega
/-- What the loop says of its frame and its count. -/
def TcAt (w : World) (Bf : Nat) (pre : List Tr) (W : World) : Prop :=
  (∃ rb rc, W.heap[Bf]? = some (.cells #[.int .i64 1, .int .i64 4, .slice (some ⟨rb, 0, none⟩) 8 rc] 42 (0, 0)) ∧ W.ownsRow w.heap.size 77 2 (.slice (some ⟨rb, 0, none⟩) 8 rc) 8 (flat (tcR pre (forR 8 0)))) ∧ Below w.heap.size w W ∧ Boxed W (Bf + 1) 3 (.int .i64 ((tcC pre (forR 8 0) : Nat) : Int))
theorem TcAt.kept {w : World} {Bf : Nat} {pre : List Tr} {X Y : World} {row : Option Nat} (h : TcAt w Bf pre X) (hg : X.grownBy Y row) (hr : ∀ r, row = some r → w.heap.size ≤ r) (ho : ∀ q, Mine Bf (Bf + 2) Bf X q → (∃ c ty fr, X.heap[q]? = some (.cells c ty fr)) → some q ≠ row) : TcAt w Bf pre Y := by
  obtain ⟨⟨rb, rc, hx, hf⟩, hb, hy⟩ := h
  have hx' := (hg.block Bf (heap_lt hx) (ho Bf (.inl (by omega)) ⟨_, _, _, hx⟩)).trans hx
  have hy0 : X.heap[Bf + 1]? = some (.cells #[.int .i64 ((tcC pre (forR 8 0) : Nat) : Int)] 3 (0, 0)) := hy
  have hy' : Boxed Y (Bf + 1) 3 _ := hy.kept hg (ho (Bf + 1) (.inl (by omega)) ⟨_, _, _, hy0⟩)
  obtain ⟨cur, hc⟩ := own_heap hf (q := rb) rfl
  exact ⟨⟨rb, rc, hx', hf.kept hg (.inr (ho rb (.inr ⟨2, _, (cell3 hx).2.2.1, rfl⟩) ⟨_, _, _, hc⟩))⟩, hb.grown hg hb.size hr, hy'⟩
theorem tc_step {w W wc : World} {Bf B : Nat} {pre : List Tr} {x : Tr} {cn k : Nat} {rb1 rc1 : Nat} {a0 a1 a2 : Value} {RT : List (Int × Int)} (hbf : w.heap.size ≤ Bf) (hB2 : Bf + 2 ≤ B) (hB : Below w.heap.size w W) (hf : W.heap[Bf]? = some (.cells #[a0, a1, a2] 42 (0, 0))) (hy : Boxed W (Bf + 1) 3 (.int .i64 (cn : Int))) (hWc : Below W.heap.size W wc)
    (hoc : wc.ownsRow W.heap.size 77 2 (.slice (some ⟨rb1, 0, none⟩) 8 rc1) 8 (flat RT)) (hRT : tcR (pre ++ [x]) (forR 8 0) = RT) (hCT : tcC (pre ++ [x]) (forR 8 0) = cn + k) {X : World}
    (hX : ((((wc.setCell ⟨Bf + 1, 0, none⟩ (.int .i64 ((cn : Int) + (k : Int)))).setCell ⟨Bf, 0, none⟩ (.int .i64 1)).setCell ⟨Bf, 1, none⟩ (.int .i64 4)).setCell ⟨Bf, 2, none⟩ (.slice (some ⟨rb1, 0, none⟩) 8 rc1)) = X) :
    KeepsFrom B W X ∧ KeepP Bf (Bf + 2) Bf W X ∧ TcAt w Bf (pre ++ [x]) X := by
  have hlf := heap_lt hf
  have hly := heap_lt (show W.heap[Bf + 1]? = some (.cells #[.int .i64 (cn : Int)] 3 (0, 0)) from hy)
  have hfc := (hWc.block _ hlf).trans hf
  have hyc : wc.heap[Bf + 1]? = some (.cells #[.int .i64 (cn : Int)] 3 (0, 0)) := (hWc.block _ hly).trans hy
  have hsz : X.heap.size = wc.heap.size := by rw [← hX]; simp
  have hsm : ∀ k, k ≠ Bf → k ≠ Bf + 1 → X.heap[k]? = wc.heap[k]? := fun k h1 h2 => by
    rw [← hX]
    exact (Below.heap_setCell _ ⟨Bf, 2, none⟩ _ k h1).trans ((Below.heap_setCell _ ⟨Bf, 1, none⟩ _ k h1).trans ((Below.heap_setCell _ ⟨Bf, 0, none⟩ _ k h1).trans (Below.heap_setCell _ ⟨Bf + 1, 0, none⟩ _ k h2)))
  have hXf : X.heap[Bf]? = some (.cells #[.int .i64 1, .int .i64 4, .slice (some ⟨rb1, 0, none⟩) 8 rc1] 42 (0, 0)) := by
    rw [← hX]
    have h0 := (Below.heap_setCell wc ⟨Bf + 1, 0, none⟩ (.int .i64 ((cn : Int) + (k : Int))) Bf (by simp)).trans hfc
    have h1 := heap_setCell_same _ Bf 0 _ _ (.int .i64 1) h0
    have h2 := heap_setCell_same _ Bf 1 _ _ (.int .i64 4) h1
    have h3 := heap_setCell_same _ Bf 2 _ _ (.slice (some ⟨rb1, 0, none⟩) 8 rc1) h2
    simpa using h3
  have hXy : X.heap[Bf + 1]? = some (.cells #[.int .i64 ((cn + k : Nat) : Int)] 3 (0, 0)) := by
    rw [← hX]
    have h0 := heap_setCell_same _ (Bf + 1) 0 _ _ (.int .i64 ((cn : Int) + (k : Int))) hyc
    refine (Below.heap_setCell _ ⟨Bf, 2, none⟩ _ _ (by simp)).trans ((Below.heap_setCell _ ⟨Bf, 1, none⟩ _ _ (by simp)).trans ((Below.heap_setCell _ ⟨Bf, 0, none⟩ _ _ (by simp)).trans ?_))
    simpa using h0
  have hlt := hoc.lt rb1 rfl
  have hle := hWc.size
  have hBs := hB.size
  have ho : X.ownsRow W.heap.size 77 2 (.slice (some ⟨rb1, 0, none⟩) 8 rc1) 8 (flat RT) := own_of_block hoc fun g hg => hsm g (by have := (hoc.lt g hg).1; omega) (by have := (hoc.lt g hg).1; omega)
  have hbX : Below w.heap.size w X := by
    rw [← hX]
    exact (((((hB.trans (hWc.mono hBs)).setCell (p := ⟨Bf + 1, 0, none⟩) (by show w.heap.size ≤ Bf + 1; omega) _).setCell (p := ⟨Bf, 0, none⟩) hbf _).setCell (p := ⟨Bf, 1, none⟩) hbf _).setCell (p := ⟨Bf, 2, none⟩) hbf _)
  refine ⟨⟨by omega, fun q o hq hk _ => (hsm q (by omega) (by omega)).trans ((hWc.block q (heap_lt hk)).trans hk)⟩, keepP_boxes (by omega) (by omega) (fun q hq hn => (hsm q (by omega) (by omega)).trans (hWc.block q hq)) hXf (by omega), ⟨rb1, rc1, hXf, ?_⟩, hbX, ?_⟩
  · rw [hRT]; exact own_mono ho hBs
  · rw [hCT]; exact hXy
theorem stabP_tc {B Bf : Nat} {w : World} (hB : w.heap.size ≤ B) : StabP B Bf (Bf + 2) Bf (fun pre W => TcAt w Bf pre W) := by
  rintro s X Y row h hg hrow
  refine h.kept hg (fun r e => Nat.le_trans hB (hrow r e).1) ?_
  rintro q hq ⟨c, ty, fr, ho⟩ e
  obtain ⟨_, o, h1, h2⟩ := hrow q e.symm
  rw [ho] at h1; injection h1 with h1; subst h1
  rcases h2 with h2 | h2
  · cases h2
  · exact h2 hq
theorem TcAt.alloc {w : World} {Bf : Nat} {pre : List Tr} {X : World} (h : TcAt w Bf pre X) (o : Obj) : TcAt w Bf pre (X.alloc o) := h.kept (World.grownBy_alloc X o none) (fun _ e => by cases e) (fun _ _ _ => by simp)
set_option maxRecDepth 100000 in
set_option maxHeartbeats 25600000 in
theorem impTimesCarries_yes (a b : Nat) (w : World) (ha : a ≤ 9999) (hb9 : b ≤ 9999) :
    Calls Try.prog 28 #[.int .i64 (a : Int), .int .i64 (b : Int)] w fun e w' => e = .returned (.tuple #[.int .i64 ((tcC (prT (dgL a) (dgL b)) (forR 8 0) : Nat) : Int), .bool true]) ∧ Below w.heap.size w w' := by
  have HN : Hid (∀ pre x, pre ++ [x] <+: prT (dgL a) (dgL b) → (∃ (I K : Nat) (v : Int), x = ⟨(I : Int), (K : Int), v⟩ ∧ I ≤ 3 ∧ K ≤ 3 ∧ 1 ≤ v ∧ v ≤ 81) ∧ pre.length ≤ 16 ∧ canF 1 4 (tcR pre (forR 8 0)) (wT x)) := Lib.hid (fun pre x h => by
    have h2 := h.length_le
    have h3 := prT_len16 ha hb9
    rw [List.length_append, List.length_singleton] at h2
    have hk : pre.length < (prT (dgL a) (dgL b)).length := by omega
    obtain ⟨r, hr⟩ := h
    have e1 : (prT (dgL a) (dgL b)).take pre.length = pre := by rw [← hr, List.append_assoc, List.take_left]
    have e2 : (prT (dgL a) (dgL b))[pre.length] = x := by
      have : (prT (dgL a) (dgL b))[pre.length]? = some x := by rw [← hr, List.append_assoc, List.getElem?_append_right (Nat.le_refl _), Nat.sub_self]; rfl
      rw [List.getElem?_eq_getElem hk] at this; injection this
    have hc := tc_can ha hb9 pre.length hk
    rw [e1, e2] at hc
    obtain ⟨I, K, v, h5, h6⟩ := part_at ha hb9 pre.length hk
    rw [e2] at h5
    exact ⟨⟨I, K, v, h5, h6⟩, by omega, hc⟩)
  have cFF : CallsIn Fence.wide 7 Try.prog 80 #[.int .i64 1, .int .i64 4, .int .i64 8, .int .i64 0] w fun e w' => (∃ v, e = .returned (.tuple #[.agg #[.int .i64 1, .int .i64 4, v], .bool true]) ∧ w'.ownsRow w.heap.size 77 2 v (forR 8 0).length (flat (forR 8 0))) ∧ Below w.heap.size w w' := callsIn_wide.2 (implFrameFor_ok 1 4 8 0 w (by unfold okFor; decide))
  have HFF := Lib.hid cFF
  have hfFF : Fence.wide.fn 80 := trivial
  clear cFF
  refine (callsIn_wide (n := 8)).1 ?_
  have h1 : (1 : Nat) ≤ 8 := by omega
  obtain ⟨i0, hi, hz0, hz1, hz2⟩ := info_parts Try.infoI9
  have cF : CallsIn Fence.wide 7 Try.prog 70 #[.int .i64 (a : Int), .int .i64 (b : Int)] w fun e w' => e = .returned (.bool true) ∧ w = w' := callsIn_wide.2 (areF_yes _ _ w ⟨by omega, by omega⟩)
  have HF := Lib.hid cF
  have hfF : Fence.wide.fn 70 := trivial
  have hfP : Fence.wide.fn 71 := trivial
  clear cF
  refine callsIn_of_wp_marks Try.func28 rfl trivial ?_ rfl
  simp only [Try.ntmps28, List.size_toArray, List.length_cons, List.length_nil, Nat.reduceAdd, Nat.reduceSub, Array.replicate_succ, Array.replicate_zero, List.push_toArray, List.append_toArray, List.nil_append, List.cons_append]
  gi_wp2_with (first
    | (gi_at_call 70; refine HF.out.mono ?_; rintro e w' ⟨rfl, hw'⟩; subst w')
    | (gi_at_call 80; refine HFF.out.mono ?_; rintro e w1 ⟨⟨vf, rfl, of⟩, hb1⟩; obtain ⟨pf, cf, rfl⟩ := own_block of (by rw [forR_len]; omega)))
  rw [forR_len] at of ⊢
  have hs2 : ((w1.alloc (.cells #[.int .i64 1, .int .i64 4, .slice (some ⟨pf, 0, none⟩) 8 cf] 42)).alloc (.cells #[.int .i64 0] 3)).heap.size = w1.heap.size + 2 := by simp
  have hx2 : ((w1.alloc (.cells #[.int .i64 1, .int .i64 4, .slice (some ⟨pf, 0, none⟩) 8 cf] 42)).alloc (.cells #[.int .i64 0] 3)).heap[w1.heap.size]? = some (.cells #[.int .i64 1, .int .i64 4, .slice (some ⟨pf, 0, none⟩) 8 cf] 42 (0, 0)) := (alloc_old (by simp)).trans (alloc_at rfl)
  have hy2 : Boxed ((w1.alloc (.cells #[.int .i64 1, .int .i64 4, .slice (some ⟨pf, 0, none⟩) 8 cf] 42)).alloc (.cells #[.int .i64 0] 3)) (w1.heap.size + 1) 3 (.int .i64 0) := alloc_at (by simp)
  have ho2 : ((w1.alloc (.cells #[.int .i64 1, .int .i64 4, .slice (some ⟨pf, 0, none⟩) 8 cf] 42)).alloc (.cells #[.int .i64 0] 3)).ownsRow w.heap.size 77 2 (.slice (some ⟨pf, 0, none⟩) 8 cf) 8 (flat (forR 8 0)) := (of.alloc _).alloc _
  have hb2 : Below w.heap.size w ((w1.alloc (.cells #[.int .i64 1, .int .i64 4, .slice (some ⟨pf, 0, none⟩) 8 cf] 42)).alloc (.cells #[.int .i64 0] 3)) := (hb1.alloc hb1.size _).alloc (by have := hb1.size; simp; omega) _
  have hbf : w.heap.size ≤ w1.heap.size := hb1.size
  have hpf : pf < w1.heap.size := (of.lt pf rfl).2
  generalize ((w1.alloc (.cells #[.int .i64 1, .int .i64 4, .slice (some ⟨pf, 0, none⟩) 8 cf] 42)).alloc (.cells #[.int .i64 0] 3)) = w2 at hs2 hx2 hy2 ho2 hb2 ⊢
  obtain ⟨Bf, hBf⟩ : ∃ Bf, w1.heap.size = Bf := ⟨_, rfl⟩
  rw [hBf] at hs2 hx2 hy2 hbf hpf ⊢
  refine (partsOf_in 7 (a : Int) (b : Int) w2).mono ?_
  rintro e w3 ⟨rfl, hw3⟩
  obtain ⟨w4, hw4, hsz4, hb4, d1, d2⟩ := partsOf_boxes (a : Int) (b : Int) w2
  rw [hw4] at hw3
  subst w3
  have hbs : Bf ≤ Bf ∧ Bf < Bf + 2 := by omega
  have hx4 : w4.heap[Bf]? = some (.cells #[.int .i64 1, .int .i64 4, .slice (some ⟨pf, 0, none⟩) 8 cf] 42 (0, 0)) := (hb4.block _ (by omega)).trans hx2
  have hT4 : TcAt w Bf [] w4 := ⟨⟨pf, cf, hx4, own_below ho2 hb4⟩, hb2.trans (hb4.mono hb2.size), (hb4.block _ (by omega)).trans hy2⟩
  have hb5 : Below w.heap.size w w4 := hT4.2.1
  have cG := parts_gives 7 (by omega) a b w2.heap.size (w2.heap.size + 1) Bf (Bf + 2) Bf ha hb9 w4 (by omega) (by omega) d1 d2
  have HG := Lib.hid cG
  have HS2 := Lib.hid hs2
  have HS4 := Lib.hid hsz4
  have HT4 := Lib.hid hT4
  have HBF := Lib.hid hbf
  clear cG d1 d2 hw4 hx2 hy2 ho2 hb2 hb4 hs2 hsz4 hT4 hBf of hb1 hbf
  gi_wp2
  refine range_law rfl h1 (gf := 112) (lb := #[.pointer (some ⟨w2.heap.size, 0, none⟩), .pointer (some ⟨w2.heap.size + 1, 0, none⟩)]) rfl trivial (enters_of Try.func112 (by kernel_rfl) rfl) HG.out ⟨hbs, ?hmine⟩ (Below.refl _ _) (fun _ => rfl)
    (fun pre W => TcAt w Bf pre W) (stabP_tc hb5.size) HT4.out
    (fun x a' W => ∃ Bx, W.heap[Bx]? = some (.cells #[.int .i64 x.i, .int .i64 x.k, .int .i64 x.v] 57 (0, 0)) ∧ a' = { tmps := #[.int .i64 (a : Int), .int .i64 (b : Int), undef, undef, .int .i64 0, .bool false, .pointer (some ⟨Bf, 0, none⟩), .bool true, .pointer (some ⟨Bf + 1, 0, none⟩), .pointer (some ⟨Bx, 0, none⟩), undef, undef, .int .i64 (a : Int), .int .i64 (b : Int), .bool true, .bool false, .tuple #[.agg #[.int .i64 1, .int .i64 4, .slice (some ⟨pf, 0, none⟩) 8 cf], .bool true], .tuple #[.agg #[.int .i64 1, .int .i64 4, .slice (some ⟨pf, 0, none⟩) 8 cf], .bool true], .agg #[.int .i64 1, .int .i64 4, .slice (some ⟨pf, 0, none⟩) 8 cf], .bool true, .int .i64 (a : Int), .int .i64 (b : Int), .func (.func 112) #[] #[.pointer (some ⟨w2.heap.size, 0, none⟩), .pointer (some ⟨w2.heap.size + 1, 0, none⟩)], .agg #[.int .i64 x.i, .int .i64 x.k, .int .i64 x.v], undef, undef, undef, undef, undef, undef, undef, undef, undef, undef, undef, undef, undef, undef, undef], defers := [] }) ?turn ?assign ?body ?done
  case hmine =>
    have := HS2.out
    have := HS4.out
    obtain ⟨⟨rb, rc, hx5, ho5⟩, _, _⟩ := HT4.out
    rintro k (hk | ⟨off, v, hv, hk⟩)
    · omega
    · have hrb := (ho5.lt rb rfl).2
      simp only [World.cell?, hx5] at hv
      match off, hv with
      | 0, hv => simp at hv; subst hv; cases hk
      | 1, hv => simp at hv; subst hv; cases hk
      | 2, hv => simp at hv; subst hv; have : rb = k := (by simpa [Value.ownBlock] using hk); omega
      | q + 3, hv => simp at hv
  case turn =>
    rintro x a' X l o o' ⟨Bx, hx, rfl⟩ _ hl ho
    exact ⟨Bx, (World.putObj_heap_other (fun e => by subst e; rw [hx] at hl; injection hl with hl; subst hl; cases ho)).trans hx, rfl⟩
  case assign =>
    rintro l pre x W K hT hbw hK
    gi_wp2
    exact hK _ _ ((KeepsOthers.alloc _ _).from _) (KeepP.alloc hbw _) (hT.alloc _) ⟨W.heap.size, alloc_at rfl, rfl⟩
  case done =>
    rintro D W hD ⟨_, hB, hy⟩ hK
    have hc := hy.cell
    gi_wp2
    refine ⟨by simp, .inl ⟨_, _, rfl, run_takeDeferred hK, ?_⟩⟩
    exact ⟨_, results_tmp2 rfl _ _ _, rfl, hB.trans (belowK_b (w := w) (Nat.le_refl _) W D _ _ (by have := hb5.size; omega) hK rfl rfl)⟩
  case body =>
    rintro l pre x a' W ⟨⟨rb, rc, hf, hrow⟩, hB, hy⟩ ⟨Bx, hx, rfl⟩ hpx
    obtain ⟨⟨I, K, u, rfl, hI, hK, hu⟩, hlen, hcan⟩ := HN.out _ _ hpx
    obtain ⟨f0, f1, f2, g0, g1, g2⟩ := cell3 hf
    have hyc := hy.cell
    have hyf := hy.frozen
    obtain ⟨c0, c1, c2, d0, d1, d2⟩ := cell3 hx
    have hlBx := heap_lt hx
    have hlBf := heap_lt hf
    have hrt := tcR_snoc pre ⟨(I : Int), (K : Int), u⟩ (forR 8 0)
    have hct := tcC_snoc pre ⟨(I : Int), (K : Int), u⟩ (forR 8 0)
    have hrl := tcR_len pre (forR 8 0)
    rw [forR8.1] at hrl
    have hwt : wT ⟨(I : Int), (K : Int), u⟩ = u * 10 ^ (I + K) := by simp [wT]
    have HWO := Lib.hid (fun w => worthOf_any I K u w hI hK hu)
    rw [hwt] at hrt hct hcan
    obtain ⟨V, hV⟩ : ∃ V, u * 10 ^ (I + K) = V := ⟨_, rfl⟩
    rw [hV] at hrt hct hcan HWO
    have hcl := tcC_le pre (forR 8 0) (by rw [forR8.1]; omega)
    obtain ⟨rs, hrs⟩ : ∃ rs, tcR pre (forR 8 0) = rs := ⟨_, rfl⟩
    obtain ⟨cn, hcn⟩ : ∃ cn, tcC pre (forR 8 0) = cn := ⟨_, rfl⟩
    rw [hrs] at hrt hct hcan hrl hrow
    rw [hcn] at hct hcl hy hyc
    have hgc := goC_small rs.length V rs (by omega)
    have hwr : IntKind.i64.wrap ((cn : Int) + ((goC 0 (digs rs.length V) rs : Nat) : Int)) = ((cn + goC 0 (digs rs.length V) rs : Nat) : Int) := by rw [IntKind.wrap_i64]; omega
    have HAD := Lib.hid (fun sv w h => adOf_yes 1 4 sv rs V w h hcan)
    have HRT := Lib.hid hrt
    have HCT := Lib.hid hct
    have HRL := Lib.hid hrl
    have HROW := Lib.hid hrow
    have HF3 := Lib.hid hf
    have HY3 := Lib.hid hy
    have HB3 := Lib.hid hB
    have hd : (1 : Nat) ≤ 8 - 1 - 1 := by omega
    have hmx : Try.prog.follows .mixedOrders = true := by kernel_rfl
    clear hwt hV hrs hcn hcl hgc hrt hct hrow hf hy hB hcan hx hrl hlen
    gi_wp2
    gi_cut [10] from 24 (fun tp wc => TcRel W ((goC 0 (digs rs.length V) rs : Nat) : Int) (tcR (pre ++ [⟨(I : Int), (K : Int), u⟩]) (forR 8 0)) tp wc)
    case first =>
     refine region_inRound l hmx rfl (by kernel_rfl) ?_
     refine wpAnyIn_ready (rs := [0, 1, 7]) (by kernel_rfl) (by simp) ?_
     refine AllReadyIn.cons rfl (fun K hK => ?_) (AllReadyIn.cons rfl (fun K hK => ?_) (AllReadyIn.cons rfl (fun K hK => ?_) AllReadyIn.nil))
     · go_simp
       refine hK _ _ ?_
       clear hK K
       refine wpAnyIn_ready (rs := [1, 7]) (by kernel_rfl) (by simp) ?_
       refine AllReadyIn.cons rfl (fun K hK => ?_) (AllReadyIn.cons rfl (fun K hK => ?_) AllReadyIn.nil)
       · go_simp
         refine hK _ _ ?_
         clear hK K
         refine wpAnyIn_ready (rs := [2, 7]) (by kernel_rfl) (by simp) ?_
         refine AllReadyIn.cons rfl (fun K hK => ?_) (AllReadyIn.cons rfl (fun K hK => ?_) AllReadyIn.nil)
         · go_simp
           gi_wp2_with (refine ⟨trivial, ?_⟩; gi_at_call 72; refine (callsIn_wide.2 (HWO.out _)).mono ?_; rintro e w9 ⟨rfl, hb9⟩)
           try (refine hK _ _ ?_; clear hK K)
           have hbW : Below W.heap.size W w9 := (Below.refl _ W).drew.trans hb9
           have hf9 := (hbW.block _ hlBf).trans HF3.out
           obtain ⟨u0, u1, u2, v0, v1, v2⟩ := cell3 hf9
           have hlBf9 := heap_lt hf9
           refine wpAnyIn_ready (rs := [3, 7]) (by kernel_rfl) (by simp) ?_
           refine AllReadyIn.cons rfl (fun K hK => ?_) (AllReadyIn.cons rfl (fun K hK => ?_) AllReadyIn.nil)
           · go_simp
             gi_wp2_with (refine ⟨trivial, ?_⟩; gi_at_call 81; refine (callsIn_wide.2 (HAD.out _ _ (RodsR.of_own (own_relen HRL.out (own_below HROW.out hbW))))).mono ?_; rintro e wA ⟨⟨s1, q1, k1, j0, j1, j2, j3, rfl, -, or, -⟩, hbA⟩; obtain ⟨rb1, rc1, rfl⟩ := own_block or (by rw [goR_len, HRL.out]; omega))
             try (refine hK _ _ ?_; clear hK K)
             have hbWA : Below W.heap.size W wA := hbW.trans (hbA.mono hbW.size)
             refine wpAnyIn_take (i := 4) (v := ?v1) rfl rfl (by kernel_rfl) (by kernel_rfl) (by kernel_rfl) (fun _ _ _ h => h) ⟨Or.inl ⟨by rfl, ?y1⟩, fun _ => rfl⟩ ?r1
             case y1 => (intro w; go_simp; (first | done | with_reducible rfl))
             refine wpAnyIn_take (i := 5) (v := ?v2) rfl rfl (by kernel_rfl) (by kernel_rfl) (by kernel_rfl) (fun _ _ _ h => h) ⟨Or.inl ⟨by rfl, ?y2⟩, fun _ => rfl⟩ ?r2
             case y2 => (intro w; go_simp; (first | done | with_reducible rfl))
             refine wpAnyIn_take (i := 6) (v := ?v3) rfl rfl (by kernel_rfl) (by kernel_rfl) (by kernel_rfl) (fun _ _ _ h => h) ⟨Or.inl ⟨by rfl, ?y3⟩, fun _ => rfl⟩ ?r3
             case y3 => (intro w; go_simp; (first | done | with_reducible rfl))
             refine wpAnyIn_ready (rs := [7]) (by kernel_rfl) (by simp) ?_
             refine AllReadyIn.cons rfl (fun K hK => ?_) AllReadyIn.nil
             go_simp
             refine hK _ _ ?_
             clear hK K
             refine wpAnyIn_ready (rs := [8]) (by kernel_rfl) (by simp) ?_
             refine AllReadyIn.cons rfl (fun K hK => ?_) AllReadyIn.nil
             go_simp
             refine hK _ _ ?_
             clear hK K
             refine wpAnyIn_ready (rs := [9]) (by kernel_rfl) (by simp) ?_
             refine AllReadyIn.cons rfl (fun K hK => ?_) AllReadyIn.nil
             go_simp
             refine hK _ _ ?_
             clear hK K
             refine wpAnyIn_done (by kernel_rfl) ?_ _
             have or' := own_mono or (Nat.le_trans hbW.size (Nat.le_refl _))
             have hl8 : (goR 0 (digs rs.length V) rs).length = 8 := by rw [goR_len]; exact HRL.out
             rw [← HRT.out] at or'
             rw [tcR_len, forR8.1] at or'
             rw [hl8]
             gi_wp2
             gi_meet
             case rel => exact tc_late hbWA or'
           · go_simp
             refine hK _ _ ?_
             clear hK K
             refine wpAnyIn_ready (rs := [3]) (by kernel_rfl) (by simp) ?_
             refine AllReadyIn.cons rfl (fun K hK => ?_) AllReadyIn.nil
             go_simp
             gi_wp2_with (refine ⟨trivial, ?_⟩; gi_at_call 81; refine (callsIn_wide.2 (HAD.out _ _ (RodsR.of_own (own_relen HRL.out (own_below HROW.out (hbW.alloc hbW.size _)))))).mono ?_; rintro e wA ⟨⟨s1, q1, k1, j0, j1, j2, j3, rfl, -, or, -⟩, hbA⟩; obtain ⟨rb1, rc1, rfl⟩ := own_block or (by rw [goR_len, HRL.out]; omega))
             try (refine hK _ _ ?_; clear hK K)
             have hbWA : Below W.heap.size W wA := (hbW.alloc hbW.size _).trans (hbA.mono (by have := hbW.size; simp; omega))
             have hzB : wA.heap[w9.heap.size]? = some (.cells #[.int .i64 0, .int .i64 0, .slice none 0 0, .slice none 0 0, .int .i64 0, .int .i64 0, .int .i64 0, .int .i64 0, .int .i64 0] 86 (0, 0)) := (hbA.block _ (by simp)).trans (alloc_at rfl)
             obtain ⟨zbc0, zbc1, zbc2, zbc3, zbc4, zbc5, zbc6, zbc7, zbc8, zbd0, zbd1, zbd2, zbd3, zbd4, zbd5, zbd6, zbd7, zbd8⟩ := cell9 hzB
             have hlB := heap_lt hzB
             refine wpAnyIn_take (i := 4) (v := ?v4) rfl rfl (by kernel_rfl) (by kernel_rfl) (by kernel_rfl) (fun _ _ _ h => h) ⟨Or.inl ⟨by rfl, ?y4⟩, fun _ => rfl⟩ ?r4
             case y4 => (intro w; go_simp; (first | done | with_reducible rfl))
             refine wpAnyIn_take (i := 5) (v := ?v5) rfl rfl (by kernel_rfl) (by kernel_rfl) (by kernel_rfl) (fun _ _ _ h => h) ⟨Or.inl ⟨by rfl, ?y5⟩, fun _ => rfl⟩ ?r5
             case y5 => (intro w; go_simp; (first | done | with_reducible rfl))
             refine wpAnyIn_take (i := 6) (v := ?v6) rfl rfl (by kernel_rfl) (by kernel_rfl) (by kernel_rfl) (fun _ _ _ h => h) ⟨Or.inl ⟨by rfl, ?y6⟩, fun _ => rfl⟩ ?r6
             case y6 => (intro w; go_simp; (first | done | with_reducible rfl))
             refine wpAnyIn_ready (rs := [8]) (by kernel_rfl) (by simp) ?_
             refine AllReadyIn.cons rfl (fun K hK => ?_) AllReadyIn.nil
             go_simp
             refine hK _ _ ?_
             clear hK K
             refine wpAnyIn_ready (rs := [9]) (by kernel_rfl) (by simp) ?_
             refine AllReadyIn.cons rfl (fun K hK => ?_) AllReadyIn.nil
             go_simp
             refine hK _ _ ?_
             clear hK K
             refine wpAnyIn_done (by kernel_rfl) ?_ _
             have or' := own_mono or (Nat.le_trans hbW.size (by simp))
             have hl8 : (goR 0 (digs rs.length V) rs).length = 8 := by rw [goR_len]; exact HRL.out
             rw [← HRT.out] at or'
             rw [tcR_len, forR8.1] at or'
             rw [hl8]
             gi_wp2
             gi_meet
             case rel => exact tc_early hbW.size hbWA hzB or'
         · go_simp
           refine hK _ _ ?_
           clear hK K
           refine wpAnyIn_ready (rs := [2]) (by kernel_rfl) (by simp) ?_
           refine AllReadyIn.cons rfl (fun K hK => ?_) AllReadyIn.nil
           go_simp
           gi_wp2_with (refine ⟨trivial, ?_⟩; gi_at_call 72; refine (callsIn_wide.2 (HWO.out _)).mono ?_; rintro e w9 ⟨rfl, hb9⟩)
           try (refine hK _ _ ?_; clear hK K)
           have hbW : Below W.heap.size W w9 := (((Below.refl _ W).drew).alloc (Nat.le_refl _) _).trans (hb9.mono (by simp))
           have hf9 := (hbW.block _ hlBf).trans HF3.out
           obtain ⟨u0, u1, u2, v0, v1, v2⟩ := cell3 hf9
           have hlBf9 := heap_lt hf9
           have hzX : w9.heap[W.heap.size]? = some (.cells #[.int .i64 0, .int .i64 0, .slice none 0 0, .slice none 0 0, .int .i64 0, .int .i64 0, .int .i64 0, .int .i64 0, .int .i64 0] 86 (0, 0)) := (hb9.block _ (by simp)).trans (alloc_at rfl)
           have hlX := heap_lt hzX
           refine wpAnyIn_ready (rs := [3]) (by kernel_rfl) (by simp) ?_
           refine AllReadyIn.cons rfl (fun K hK => ?_) AllReadyIn.nil
           go_simp
           gi_wp2_with (refine ⟨trivial, ?_⟩; gi_at_call 81; refine (callsIn_wide.2 (HAD.out _ _ (RodsR.of_own (own_relen HRL.out (own_below HROW.out hbW))))).mono ?_; rintro e wA ⟨⟨s1, q1, k1, j0, j1, j2, j3, rfl, -, or, -⟩, hbA⟩; obtain ⟨rb1, rc1, rfl⟩ := own_block or (by rw [goR_len, HRL.out]; omega))
           try (refine hK _ _ ?_; clear hK K)
           have hbWA : Below W.heap.size W wA := hbW.trans (hbA.mono hbW.size)
           have hzA : wA.heap[W.heap.size]? = some (.cells #[.int .i64 0, .int .i64 0, .slice none 0 0, .slice none 0 0, .int .i64 0, .int .i64 0, .int .i64 0, .int .i64 0, .int .i64 0] 86 (0, 0)) := (hbA.block _ hlX).trans hzX
           obtain ⟨zac0, zac1, zac2, zac3, zac4, zac5, zac6, zac7, zac8, zad0, zad1, zad2, zad3, zad4, zad5, zad6, zad7, zad8⟩ := cell9 hzA
           have hlA := heap_lt hzA
           refine wpAnyIn_take (i := 4) (v := ?v7) rfl rfl (by kernel_rfl) (by kernel_rfl) (by kernel_rfl) (fun _ _ _ h => h) ⟨Or.inl ⟨by rfl, ?y7⟩, fun _ => rfl⟩ ?r7
           case y7 => (intro w; go_simp; (first | done | with_reducible rfl))
           refine wpAnyIn_take (i := 5) (v := ?v8) rfl rfl (by kernel_rfl) (by kernel_rfl) (by kernel_rfl) (fun _ _ _ h => h) ⟨Or.inl ⟨by rfl, ?y8⟩, fun _ => rfl⟩ ?r8
           case y8 => (intro w; go_simp; (first | done | with_reducible rfl))
           refine wpAnyIn_take (i := 6) (v := ?v9) rfl rfl (by kernel_rfl) (by kernel_rfl) (by kernel_rfl) (fun _ _ _ h => h) ⟨Or.inl ⟨by rfl, ?y9⟩, fun _ => rfl⟩ ?r9
           case y9 => (intro w; go_simp; (first | done | with_reducible rfl))
           refine wpAnyIn_ready (rs := [8]) (by kernel_rfl) (by simp) ?_
           refine AllReadyIn.cons rfl (fun K hK => ?_) AllReadyIn.nil
           go_simp
           refine hK _ _ ?_
           clear hK K
           refine wpAnyIn_ready (rs := [9]) (by kernel_rfl) (by simp) ?_
           refine AllReadyIn.cons rfl (fun K hK => ?_) AllReadyIn.nil
           go_simp
           refine hK _ _ ?_
           clear hK K
           refine wpAnyIn_done (by kernel_rfl) ?_ _
           have or' := own_mono or (Nat.le_trans hbW.size (Nat.le_refl _))
           have hl8 : (goR 0 (digs rs.length V) rs).length = 8 := by rw [goR_len]; exact HRL.out
           rw [← HRT.out] at or'
           rw [tcR_len, forR8.1] at or'
           rw [hl8]
           gi_wp2
           gi_meet
           case rel => exact tc_early (Nat.le_refl _) hbWA hzA or'
       · go_simp
         refine hK _ _ ?_
         clear hK K
         refine wpAnyIn_ready (rs := [1]) (by kernel_rfl) (by simp) ?_
         refine AllReadyIn.cons rfl (fun K hK => ?_) AllReadyIn.nil
         go_simp
         refine hK _ _ ?_
         clear hK K
         refine wpAnyIn_ready (rs := [2]) (by kernel_rfl) (by simp) ?_
         refine AllReadyIn.cons rfl (fun K hK => ?_) AllReadyIn.nil
         go_simp
         gi_wp2_with (refine ⟨trivial, ?_⟩; gi_at_call 72; refine (callsIn_wide.2 (HWO.out _)).mono ?_; rintro e w9 ⟨rfl, hb9⟩)
         try (refine hK _ _ ?_; clear hK K)
         have hbW : Below W.heap.size W w9 := (((Below.refl _ W).drew).alloc (Nat.le_refl _) _).trans (hb9.mono (by simp))
         have hf9 := (hbW.block _ hlBf).trans HF3.out
         obtain ⟨u0, u1, u2, v0, v1, v2⟩ := cell3 hf9
         have hlBf9 := heap_lt hf9
         have hzX : w9.heap[W.heap.size]? = some (.cells #[.int .i64 0, .int .i64 0, .slice none 0 0, .slice none 0 0, .int .i64 0, .int .i64 0, .int .i64 0, .int .i64 0, .int .i64 0] 86 (0, 0)) := (hb9.block _ (by simp)).trans (alloc_at rfl)
         have hlX := heap_lt hzX
         refine wpAnyIn_ready (rs := [3]) (by kernel_rfl) (by simp) ?_
         refine AllReadyIn.cons rfl (fun K hK => ?_) AllReadyIn.nil
         go_simp
         gi_wp2_with (refine ⟨trivial, ?_⟩; gi_at_call 81; refine (callsIn_wide.2 (HAD.out _ _ (RodsR.of_own (own_relen HRL.out (own_below HROW.out hbW))))).mono ?_; rintro e wA ⟨⟨s1, q1, k1, j0, j1, j2, j3, rfl, -, or, -⟩, hbA⟩; obtain ⟨rb1, rc1, rfl⟩ := own_block or (by rw [goR_len, HRL.out]; omega))
         try (refine hK _ _ ?_; clear hK K)
         have hbWA : Below W.heap.size W wA := hbW.trans (hbA.mono hbW.size)
         have hzA : wA.heap[W.heap.size]? = some (.cells #[.int .i64 0, .int .i64 0, .slice none 0 0, .slice none 0 0, .int .i64 0, .int .i64 0, .int .i64 0, .int .i64 0, .int .i64 0] 86 (0, 0)) := (hbA.block _ hlX).trans hzX
         obtain ⟨zac0, zac1, zac2, zac3, zac4, zac5, zac6, zac7, zac8, zad0, zad1, zad2, zad3, zad4, zad5, zad6, zad7, zad8⟩ := cell9 hzA
         have hlA := heap_lt hzA
         refine wpAnyIn_take (i := 4) (v := ?v10) rfl rfl (by kernel_rfl) (by kernel_rfl) (by kernel_rfl) (fun _ _ _ h => h) ⟨Or.inl ⟨by rfl, ?y10⟩, fun _ => rfl⟩ ?r10
         case y10 => (intro w; go_simp; (first | done | with_reducible rfl))
         refine wpAnyIn_take (i := 5) (v := ?v11) rfl rfl (by kernel_rfl) (by kernel_rfl) (by kernel_rfl) (fun _ _ _ h => h) ⟨Or.inl ⟨by rfl, ?y11⟩, fun _ => rfl⟩ ?r11
         case y11 => (intro w; go_simp; (first | done | with_reducible rfl))
         refine wpAnyIn_take (i := 6) (v := ?v12) rfl rfl (by kernel_rfl) (by kernel_rfl) (by kernel_rfl) (fun _ _ _ h => h) ⟨Or.inl ⟨by rfl, ?y12⟩, fun _ => rfl⟩ ?r12
         case y12 => (intro w; go_simp; (first | done | with_reducible rfl))
         refine wpAnyIn_ready (rs := [8]) (by kernel_rfl) (by simp) ?_
         refine AllReadyIn.cons rfl (fun K hK => ?_) AllReadyIn.nil
         go_simp
         refine hK _ _ ?_
         clear hK K
         refine wpAnyIn_ready (rs := [9]) (by kernel_rfl) (by simp) ?_
         refine AllReadyIn.cons rfl (fun K hK => ?_) AllReadyIn.nil
         go_simp
         refine hK _ _ ?_
         clear hK K
         refine wpAnyIn_done (by kernel_rfl) ?_ _
         have or' := own_mono or (Nat.le_trans hbW.size (Nat.le_refl _))
         have hl8 : (goR 0 (digs rs.length V) rs).length = 8 := by rw [goR_len]; exact HRL.out
         rw [← HRT.out] at or'
         rw [tcR_len, forR8.1] at or'
         rw [hl8]
         gi_wp2
         gi_meet
         case rel => exact tc_early (Nat.le_refl _) hbWA hzA or'
     · go_simp
       refine hK _ _ ?_
       clear hK K
       refine wpAnyIn_ready (rs := [0, 2, 7]) (by kernel_rfl) (by simp) ?_
       refine AllReadyIn.cons rfl (fun K hK => ?_) (AllReadyIn.cons rfl (fun K hK => ?_) (AllReadyIn.cons rfl (fun K hK => ?_) AllReadyIn.nil))
       · go_simp
         refine hK _ _ ?_
         clear hK K
         refine wpAnyIn_ready (rs := [2, 7]) (by kernel_rfl) (by simp) ?_
         refine AllReadyIn.cons rfl (fun K hK => ?_) (AllReadyIn.cons rfl (fun K hK => ?_) AllReadyIn.nil)
         · go_simp
           gi_wp2_with (refine ⟨trivial, ?_⟩; gi_at_call 72; refine (callsIn_wide.2 (HWO.out _)).mono ?_; rintro e w9 ⟨rfl, hb9⟩)
           try (refine hK _ _ ?_; clear hK K)
           have hbW : Below W.heap.size W w9 := (Below.refl _ W).drew.trans hb9
           have hf9 := (hbW.block _ hlBf).trans HF3.out
           obtain ⟨u0, u1, u2, v0, v1, v2⟩ := cell3 hf9
           have hlBf9 := heap_lt hf9
           refine wpAnyIn_ready (rs := [3, 7]) (by kernel_rfl) (by simp) ?_
           refine AllReadyIn.cons rfl (fun K hK => ?_) (AllReadyIn.cons rfl (fun K hK => ?_) AllReadyIn.nil)
           · go_simp
             gi_wp2_with (refine ⟨trivial, ?_⟩; gi_at_call 81; refine (callsIn_wide.2 (HAD.out _ _ (RodsR.of_own (own_relen HRL.out (own_below HROW.out hbW))))).mono ?_; rintro e wA ⟨⟨s1, q1, k1, j0, j1, j2, j3, rfl, -, or, -⟩, hbA⟩; obtain ⟨rb1, rc1, rfl⟩ := own_block or (by rw [goR_len, HRL.out]; omega))
             try (refine hK _ _ ?_; clear hK K)
             have hbWA : Below W.heap.size W wA := hbW.trans (hbA.mono hbW.size)
             refine wpAnyIn_take (i := 4) (v := ?v13) rfl rfl (by kernel_rfl) (by kernel_rfl) (by kernel_rfl) (fun _ _ _ h => h) ⟨Or.inl ⟨by rfl, ?y13⟩, fun _ => rfl⟩ ?r13
             case y13 => (intro w; go_simp; (first | done | with_reducible rfl))
             refine wpAnyIn_take (i := 5) (v := ?v14) rfl rfl (by kernel_rfl) (by kernel_rfl) (by kernel_rfl) (fun _ _ _ h => h) ⟨Or.inl ⟨by rfl, ?y14⟩, fun _ => rfl⟩ ?r14
             case y14 => (intro w; go_simp; (first | done | with_reducible rfl))
             refine wpAnyIn_take (i := 6) (v := ?v15) rfl rfl (by kernel_rfl) (by kernel_rfl) (by kernel_rfl) (fun _ _ _ h => h) ⟨Or.inl ⟨by rfl, ?y15⟩, fun _ => rfl⟩ ?r15
             case y15 => (intro w; go_simp; (first | done | with_reducible rfl))
             refine wpAnyIn_ready (rs := [7]) (by kernel_rfl) (by simp) ?_
             refine AllReadyIn.cons rfl (fun K hK => ?_) AllReadyIn.nil
             go_simp
             refine hK _ _ ?_
             clear hK K
             refine wpAnyIn_ready (rs := [8]) (by kernel_rfl) (by simp) ?_
             refine AllReadyIn.cons rfl (fun K hK => ?_) AllReadyIn.nil
             go_simp
             refine hK _ _ ?_
             clear hK K
             refine wpAnyIn_ready (rs := [9]) (by kernel_rfl) (by simp) ?_
             refine AllReadyIn.cons rfl (fun K hK => ?_) AllReadyIn.nil
             go_simp
             refine hK _ _ ?_
             clear hK K
             refine wpAnyIn_done (by kernel_rfl) ?_ _
             have or' := own_mono or (Nat.le_trans hbW.size (Nat.le_refl _))
             have hl8 : (goR 0 (digs rs.length V) rs).length = 8 := by rw [goR_len]; exact HRL.out
             rw [← HRT.out] at or'
             rw [tcR_len, forR8.1] at or'
             rw [hl8]
             gi_wp2
             gi_meet
             case rel => exact tc_late hbWA or'
           · go_simp
             refine hK _ _ ?_
             clear hK K
             refine wpAnyIn_ready (rs := [3]) (by kernel_rfl) (by simp) ?_
             refine AllReadyIn.cons rfl (fun K hK => ?_) AllReadyIn.nil
             go_simp
             gi_wp2_with (refine ⟨trivial, ?_⟩; gi_at_call 81; refine (callsIn_wide.2 (HAD.out _ _ (RodsR.of_own (own_relen HRL.out (own_below HROW.out (hbW.alloc hbW.size _)))))).mono ?_; rintro e wA ⟨⟨s1, q1, k1, j0, j1, j2, j3, rfl, -, or, -⟩, hbA⟩; obtain ⟨rb1, rc1, rfl⟩ := own_block or (by rw [goR_len, HRL.out]; omega))
             try (refine hK _ _ ?_; clear hK K)
             have hbWA : Below W.heap.size W wA := (hbW.alloc hbW.size _).trans (hbA.mono (by have := hbW.size; simp; omega))
             have hzB : wA.heap[w9.heap.size]? = some (.cells #[.int .i64 0, .int .i64 0, .slice none 0 0, .slice none 0 0, .int .i64 0, .int .i64 0, .int .i64 0, .int .i64 0, .int .i64 0] 86 (0, 0)) := (hbA.block _ (by simp)).trans (alloc_at rfl)
             obtain ⟨zbc0, zbc1, zbc2, zbc3, zbc4, zbc5, zbc6, zbc7, zbc8, zbd0, zbd1, zbd2, zbd3, zbd4, zbd5, zbd6, zbd7, zbd8⟩ := cell9 hzB
             have hlB := heap_lt hzB
             refine wpAnyIn_take (i := 4) (v := ?v16) rfl rfl (by kernel_rfl) (by kernel_rfl) (by kernel_rfl) (fun _ _ _ h => h) ⟨Or.inl ⟨by rfl, ?y16⟩, fun _ => rfl⟩ ?r16
             case y16 => (intro w; go_simp; (first | done | with_reducible rfl))
             refine wpAnyIn_take (i := 5) (v := ?v17) rfl rfl (by kernel_rfl) (by kernel_rfl) (by kernel_rfl) (fun _ _ _ h => h) ⟨Or.inl ⟨by rfl, ?y17⟩, fun _ => rfl⟩ ?r17
             case y17 => (intro w; go_simp; (first | done | with_reducible rfl))
             refine wpAnyIn_take (i := 6) (v := ?v18) rfl rfl (by kernel_rfl) (by kernel_rfl) (by kernel_rfl) (fun _ _ _ h => h) ⟨Or.inl ⟨by rfl, ?y18⟩, fun _ => rfl⟩ ?r18
             case y18 => (intro w; go_simp; (first | done | with_reducible rfl))
             refine wpAnyIn_ready (rs := [8]) (by kernel_rfl) (by simp) ?_
             refine AllReadyIn.cons rfl (fun K hK => ?_) AllReadyIn.nil
             go_simp
             refine hK _ _ ?_
             clear hK K
             refine wpAnyIn_ready (rs := [9]) (by kernel_rfl) (by simp) ?_
             refine AllReadyIn.cons rfl (fun K hK => ?_) AllReadyIn.nil
             go_simp
             refine hK _ _ ?_
             clear hK K
             refine wpAnyIn_done (by kernel_rfl) ?_ _
             have or' := own_mono or (Nat.le_trans hbW.size (by simp))
             have hl8 : (goR 0 (digs rs.length V) rs).length = 8 := by rw [goR_len]; exact HRL.out
             rw [← HRT.out] at or'
             rw [tcR_len, forR8.1] at or'
             rw [hl8]
             gi_wp2
             gi_meet
             case rel => exact tc_early hbW.size hbWA hzB or'
         · go_simp
           refine hK _ _ ?_
           clear hK K
           refine wpAnyIn_ready (rs := [2]) (by kernel_rfl) (by simp) ?_
           refine AllReadyIn.cons rfl (fun K hK => ?_) AllReadyIn.nil
           go_simp
           gi_wp2_with (refine ⟨trivial, ?_⟩; gi_at_call 72; refine (callsIn_wide.2 (HWO.out _)).mono ?_; rintro e w9 ⟨rfl, hb9⟩)
           try (refine hK _ _ ?_; clear hK K)
           have hbW : Below W.heap.size W w9 := (((Below.refl _ W).drew).alloc (Nat.le_refl _) _).trans (hb9.mono (by simp))
           have hf9 := (hbW.block _ hlBf).trans HF3.out
           obtain ⟨u0, u1, u2, v0, v1, v2⟩ := cell3 hf9
           have hlBf9 := heap_lt hf9
           have hzX : w9.heap[W.heap.size]? = some (.cells #[.int .i64 0, .int .i64 0, .slice none 0 0, .slice none 0 0, .int .i64 0, .int .i64 0, .int .i64 0, .int .i64 0, .int .i64 0] 86 (0, 0)) := (hb9.block _ (by simp)).trans (alloc_at rfl)
           have hlX := heap_lt hzX
           refine wpAnyIn_ready (rs := [3]) (by kernel_rfl) (by simp) ?_
           refine AllReadyIn.cons rfl (fun K hK => ?_) AllReadyIn.nil
           go_simp
           gi_wp2_with (refine ⟨trivial, ?_⟩; gi_at_call 81; refine (callsIn_wide.2 (HAD.out _ _ (RodsR.of_own (own_relen HRL.out (own_below HROW.out hbW))))).mono ?_; rintro e wA ⟨⟨s1, q1, k1, j0, j1, j2, j3, rfl, -, or, -⟩, hbA⟩; obtain ⟨rb1, rc1, rfl⟩ := own_block or (by rw [goR_len, HRL.out]; omega))
           try (refine hK _ _ ?_; clear hK K)
           have hbWA : Below W.heap.size W wA := hbW.trans (hbA.mono hbW.size)
           have hzA : wA.heap[W.heap.size]? = some (.cells #[.int .i64 0, .int .i64 0, .slice none 0 0, .slice none 0 0, .int .i64 0, .int .i64 0, .int .i64 0, .int .i64 0, .int .i64 0] 86 (0, 0)) := (hbA.block _ hlX).trans hzX
           obtain ⟨zac0, zac1, zac2, zac3, zac4, zac5, zac6, zac7, zac8, zad0, zad1, zad2, zad3, zad4, zad5, zad6, zad7, zad8⟩ := cell9 hzA
           have hlA := heap_lt hzA
           refine wpAnyIn_take (i := 4) (v := ?v19) rfl rfl (by kernel_rfl) (by kernel_rfl) (by kernel_rfl) (fun _ _ _ h => h) ⟨Or.inl ⟨by rfl, ?y19⟩, fun _ => rfl⟩ ?r19
           case y19 => (intro w; go_simp; (first | done | with_reducible rfl))
           refine wpAnyIn_take (i := 5) (v := ?v20) rfl rfl (by kernel_rfl) (by kernel_rfl) (by kernel_rfl) (fun _ _ _ h => h) ⟨Or.inl ⟨by rfl, ?y20⟩, fun _ => rfl⟩ ?r20
           case y20 => (intro w; go_simp; (first | done | with_reducible rfl))
           refine wpAnyIn_take (i := 6) (v := ?v21) rfl rfl (by kernel_rfl) (by kernel_rfl) (by kernel_rfl) (fun _ _ _ h => h) ⟨Or.inl ⟨by rfl, ?y21⟩, fun _ => rfl⟩ ?r21
           case y21 => (intro w; go_simp; (first | done | with_reducible rfl))
           refine wpAnyIn_ready (rs := [8]) (by kernel_rfl) (by simp) ?_
           refine AllReadyIn.cons rfl (fun K hK => ?_) AllReadyIn.nil
           go_simp
           refine hK _ _ ?_
           clear hK K
           refine wpAnyIn_ready (rs := [9]) (by kernel_rfl) (by simp) ?_
           refine AllReadyIn.cons rfl (fun K hK => ?_) AllReadyIn.nil
           go_simp
           refine hK _ _ ?_
           clear hK K
           refine wpAnyIn_done (by kernel_rfl) ?_ _
           have or' := own_mono or (Nat.le_trans hbW.size (Nat.le_refl _))
           have hl8 : (goR 0 (digs rs.length V) rs).length = 8 := by rw [goR_len]; exact HRL.out
           rw [← HRT.out] at or'
           rw [tcR_len, forR8.1] at or'
           rw [hl8]
           gi_wp2
           gi_meet
           case rel => exact tc_early (Nat.le_refl _) hbWA hzA or'
       · go_simp
         gi_wp2_with (refine ⟨trivial, ?_⟩; gi_at_call 72; refine (callsIn_wide.2 (HWO.out _)).mono ?_; rintro e w9 ⟨rfl, hb9⟩)
         try (refine hK _ _ ?_; clear hK K)
         have hbW : Below W.heap.size W w9 := (Below.refl _ W).drew.trans hb9
         have hf9 := (hbW.block _ hlBf).trans HF3.out
         obtain ⟨u0, u1, u2, v0, v1, v2⟩ := cell3 hf9
         have hlBf9 := heap_lt hf9
         refine wpAnyIn_ready (rs := [0, 7]) (by kernel_rfl) (by simp) ?_
         refine AllReadyIn.cons rfl (fun K hK => ?_) (AllReadyIn.cons rfl (fun K hK => ?_) AllReadyIn.nil)
         · go_simp
           refine hK _ _ ?_
           clear hK K
           refine wpAnyIn_ready (rs := [3, 7]) (by kernel_rfl) (by simp) ?_
           refine AllReadyIn.cons rfl (fun K hK => ?_) (AllReadyIn.cons rfl (fun K hK => ?_) AllReadyIn.nil)
           · go_simp
             gi_wp2_with (refine ⟨trivial, ?_⟩; gi_at_call 81; refine (callsIn_wide.2 (HAD.out _ _ (RodsR.of_own (own_relen HRL.out (own_below HROW.out hbW))))).mono ?_; rintro e wA ⟨⟨s1, q1, k1, j0, j1, j2, j3, rfl, -, or, -⟩, hbA⟩; obtain ⟨rb1, rc1, rfl⟩ := own_block or (by rw [goR_len, HRL.out]; omega))
             try (refine hK _ _ ?_; clear hK K)
             have hbWA : Below W.heap.size W wA := hbW.trans (hbA.mono hbW.size)
             refine wpAnyIn_take (i := 4) (v := ?v22) rfl rfl (by kernel_rfl) (by kernel_rfl) (by kernel_rfl) (fun _ _ _ h => h) ⟨Or.inl ⟨by rfl, ?y22⟩, fun _ => rfl⟩ ?r22
             case y22 => (intro w; go_simp; (first | done | with_reducible rfl))
             refine wpAnyIn_take (i := 5) (v := ?v23) rfl rfl (by kernel_rfl) (by kernel_rfl) (by kernel_rfl) (fun _ _ _ h => h) ⟨Or.inl ⟨by rfl, ?y23⟩, fun _ => rfl⟩ ?r23
             case y23 => (intro w; go_simp; (first | done | with_reducible rfl))
             refine wpAnyIn_take (i := 6) (v := ?v24) rfl rfl (by kernel_rfl) (by kernel_rfl) (by kernel_rfl) (fun _ _ _ h => h) ⟨Or.inl ⟨by rfl, ?y24⟩, fun _ => rfl⟩ ?r24
             case y24 => (intro w; go_simp; (first | done | with_reducible rfl))
             refine wpAnyIn_ready (rs := [7]) (by kernel_rfl) (by simp) ?_
             refine AllReadyIn.cons rfl (fun K hK => ?_) AllReadyIn.nil
             go_simp
             refine hK _ _ ?_
             clear hK K
             refine wpAnyIn_ready (rs := [8]) (by kernel_rfl) (by simp) ?_
             refine AllReadyIn.cons rfl (fun K hK => ?_) AllReadyIn.nil
             go_simp
             refine hK _ _ ?_
             clear hK K
             refine wpAnyIn_ready (rs := [9]) (by kernel_rfl) (by simp) ?_
             refine AllReadyIn.cons rfl (fun K hK => ?_) AllReadyIn.nil
             go_simp
             refine hK _ _ ?_
             clear hK K
             refine wpAnyIn_done (by kernel_rfl) ?_ _
             have or' := own_mono or (Nat.le_trans hbW.size (Nat.le_refl _))
             have hl8 : (goR 0 (digs rs.length V) rs).length = 8 := by rw [goR_len]; exact HRL.out
             rw [← HRT.out] at or'
             rw [tcR_len, forR8.1] at or'
             rw [hl8]
             gi_wp2
             gi_meet
             case rel => exact tc_late hbWA or'
           · go_simp
             refine hK _ _ ?_
             clear hK K
             refine wpAnyIn_ready (rs := [3]) (by kernel_rfl) (by simp) ?_
             refine AllReadyIn.cons rfl (fun K hK => ?_) AllReadyIn.nil
             go_simp
             gi_wp2_with (refine ⟨trivial, ?_⟩; gi_at_call 81; refine (callsIn_wide.2 (HAD.out _ _ (RodsR.of_own (own_relen HRL.out (own_below HROW.out (hbW.alloc hbW.size _)))))).mono ?_; rintro e wA ⟨⟨s1, q1, k1, j0, j1, j2, j3, rfl, -, or, -⟩, hbA⟩; obtain ⟨rb1, rc1, rfl⟩ := own_block or (by rw [goR_len, HRL.out]; omega))
             try (refine hK _ _ ?_; clear hK K)
             have hbWA : Below W.heap.size W wA := (hbW.alloc hbW.size _).trans (hbA.mono (by have := hbW.size; simp; omega))
             have hzB : wA.heap[w9.heap.size]? = some (.cells #[.int .i64 0, .int .i64 0, .slice none 0 0, .slice none 0 0, .int .i64 0, .int .i64 0, .int .i64 0, .int .i64 0, .int .i64 0] 86 (0, 0)) := (hbA.block _ (by simp)).trans (alloc_at rfl)
             obtain ⟨zbc0, zbc1, zbc2, zbc3, zbc4, zbc5, zbc6, zbc7, zbc8, zbd0, zbd1, zbd2, zbd3, zbd4, zbd5, zbd6, zbd7, zbd8⟩ := cell9 hzB
             have hlB := heap_lt hzB
             refine wpAnyIn_take (i := 4) (v := ?v25) rfl rfl (by kernel_rfl) (by kernel_rfl) (by kernel_rfl) (fun _ _ _ h => h) ⟨Or.inl ⟨by rfl, ?y25⟩, fun _ => rfl⟩ ?r25
             case y25 => (intro w; go_simp; (first | done | with_reducible rfl))
             refine wpAnyIn_take (i := 5) (v := ?v26) rfl rfl (by kernel_rfl) (by kernel_rfl) (by kernel_rfl) (fun _ _ _ h => h) ⟨Or.inl ⟨by rfl, ?y26⟩, fun _ => rfl⟩ ?r26
             case y26 => (intro w; go_simp; (first | done | with_reducible rfl))
             refine wpAnyIn_take (i := 6) (v := ?v27) rfl rfl (by kernel_rfl) (by kernel_rfl) (by kernel_rfl) (fun _ _ _ h => h) ⟨Or.inl ⟨by rfl, ?y27⟩, fun _ => rfl⟩ ?r27
             case y27 => (intro w; go_simp; (first | done | with_reducible rfl))
             refine wpAnyIn_ready (rs := [8]) (by kernel_rfl) (by simp) ?_
             refine AllReadyIn.cons rfl (fun K hK => ?_) AllReadyIn.nil
             go_simp
             refine hK _ _ ?_
             clear hK K
             refine wpAnyIn_ready (rs := [9]) (by kernel_rfl) (by simp) ?_
             refine AllReadyIn.cons rfl (fun K hK => ?_) AllReadyIn.nil
             go_simp
             refine hK _ _ ?_
             clear hK K
             refine wpAnyIn_done (by kernel_rfl) ?_ _
             have or' := own_mono or (Nat.le_trans hbW.size (by simp))
             have hl8 : (goR 0 (digs rs.length V) rs).length = 8 := by rw [goR_len]; exact HRL.out
             rw [← HRT.out] at or'
             rw [tcR_len, forR8.1] at or'
             rw [hl8]
             gi_wp2
             gi_meet
             case rel => exact tc_early hbW.size hbWA hzB or'
         · go_simp
           refine hK _ _ ?_
           clear hK K
           refine wpAnyIn_ready (rs := [0]) (by kernel_rfl) (by simp) ?_
           refine AllReadyIn.cons rfl (fun K hK => ?_) AllReadyIn.nil
           go_simp
           refine hK _ _ ?_
           clear hK K
           refine wpAnyIn_ready (rs := [3]) (by kernel_rfl) (by simp) ?_
           refine AllReadyIn.cons rfl (fun K hK => ?_) AllReadyIn.nil
           go_simp
           gi_wp2_with (refine ⟨trivial, ?_⟩; gi_at_call 81; refine (callsIn_wide.2 (HAD.out _ _ (RodsR.of_own (own_relen HRL.out (own_below HROW.out (hbW.alloc hbW.size _)))))).mono ?_; rintro e wA ⟨⟨s1, q1, k1, j0, j1, j2, j3, rfl, -, or, -⟩, hbA⟩; obtain ⟨rb1, rc1, rfl⟩ := own_block or (by rw [goR_len, HRL.out]; omega))
           try (refine hK _ _ ?_; clear hK K)
           have hbWA : Below W.heap.size W wA := (hbW.alloc hbW.size _).trans (hbA.mono (by have := hbW.size; simp; omega))
           have hzB : wA.heap[w9.heap.size]? = some (.cells #[.int .i64 0, .int .i64 0, .slice none 0 0, .slice none 0 0, .int .i64 0, .int .i64 0, .int .i64 0, .int .i64 0, .int .i64 0] 86 (0, 0)) := (hbA.block _ (by simp)).trans (alloc_at rfl)
           obtain ⟨zbc0, zbc1, zbc2, zbc3, zbc4, zbc5, zbc6, zbc7, zbc8, zbd0, zbd1, zbd2, zbd3, zbd4, zbd5, zbd6, zbd7, zbd8⟩ := cell9 hzB
           have hlB := heap_lt hzB
           refine wpAnyIn_take (i := 4) (v := ?v28) rfl rfl (by kernel_rfl) (by kernel_rfl) (by kernel_rfl) (fun _ _ _ h => h) ⟨Or.inl ⟨by rfl, ?y28⟩, fun _ => rfl⟩ ?r28
           case y28 => (intro w; go_simp; (first | done | with_reducible rfl))
           refine wpAnyIn_take (i := 5) (v := ?v29) rfl rfl (by kernel_rfl) (by kernel_rfl) (by kernel_rfl) (fun _ _ _ h => h) ⟨Or.inl ⟨by rfl, ?y29⟩, fun _ => rfl⟩ ?r29
           case y29 => (intro w; go_simp; (first | done | with_reducible rfl))
           refine wpAnyIn_take (i := 6) (v := ?v30) rfl rfl (by kernel_rfl) (by kernel_rfl) (by kernel_rfl) (fun _ _ _ h => h) ⟨Or.inl ⟨by rfl, ?y30⟩, fun _ => rfl⟩ ?r30
           case y30 => (intro w; go_simp; (first | done | with_reducible rfl))
           refine wpAnyIn_ready (rs := [8]) (by kernel_rfl) (by simp) ?_
           refine AllReadyIn.cons rfl (fun K hK => ?_) AllReadyIn.nil
           go_simp
           refine hK _ _ ?_
           clear hK K
           refine wpAnyIn_ready (rs := [9]) (by kernel_rfl) (by simp) ?_
           refine AllReadyIn.cons rfl (fun K hK => ?_) AllReadyIn.nil
           go_simp
           refine hK _ _ ?_
           clear hK K
           refine wpAnyIn_done (by kernel_rfl) ?_ _
           have or' := own_mono or (Nat.le_trans hbW.size (by simp))
           have hl8 : (goR 0 (digs rs.length V) rs).length = 8 := by rw [goR_len]; exact HRL.out
           rw [← HRT.out] at or'
           rw [tcR_len, forR8.1] at or'
           rw [hl8]
           gi_wp2
           gi_meet
           case rel => exact tc_early hbW.size hbWA hzB or'
       · go_simp
         refine hK _ _ ?_
         clear hK K
         refine wpAnyIn_ready (rs := [0, 2]) (by kernel_rfl) (by simp) ?_
         refine AllReadyIn.cons rfl (fun K hK => ?_) (AllReadyIn.cons rfl (fun K hK => ?_) AllReadyIn.nil)
         · go_simp
           refine hK _ _ ?_
           clear hK K
           refine wpAnyIn_ready (rs := [2]) (by kernel_rfl) (by simp) ?_
           refine AllReadyIn.cons rfl (fun K hK => ?_) AllReadyIn.nil
           go_simp
           gi_wp2_with (refine ⟨trivial, ?_⟩; gi_at_call 72; refine (callsIn_wide.2 (HWO.out _)).mono ?_; rintro e w9 ⟨rfl, hb9⟩)
           try (refine hK _ _ ?_; clear hK K)
           have hbW : Below W.heap.size W w9 := (((Below.refl _ W).drew).alloc (Nat.le_refl _) _).trans (hb9.mono (by simp))
           have hf9 := (hbW.block _ hlBf).trans HF3.out
           obtain ⟨u0, u1, u2, v0, v1, v2⟩ := cell3 hf9
           have hlBf9 := heap_lt hf9
           have hzX : w9.heap[W.heap.size]? = some (.cells #[.int .i64 0, .int .i64 0, .slice none 0 0, .slice none 0 0, .int .i64 0, .int .i64 0, .int .i64 0, .int .i64 0, .int .i64 0] 86 (0, 0)) := (hb9.block _ (by simp)).trans (alloc_at rfl)
           have hlX := heap_lt hzX
           refine wpAnyIn_ready (rs := [3]) (by kernel_rfl) (by simp) ?_
           refine AllReadyIn.cons rfl (fun K hK => ?_) AllReadyIn.nil
           go_simp
           gi_wp2_with (refine ⟨trivial, ?_⟩; gi_at_call 81; refine (callsIn_wide.2 (HAD.out _ _ (RodsR.of_own (own_relen HRL.out (own_below HROW.out hbW))))).mono ?_; rintro e wA ⟨⟨s1, q1, k1, j0, j1, j2, j3, rfl, -, or, -⟩, hbA⟩; obtain ⟨rb1, rc1, rfl⟩ := own_block or (by rw [goR_len, HRL.out]; omega))
           try (refine hK _ _ ?_; clear hK K)
           have hbWA : Below W.heap.size W wA := hbW.trans (hbA.mono hbW.size)
           have hzA : wA.heap[W.heap.size]? = some (.cells #[.int .i64 0, .int .i64 0, .slice none 0 0, .slice none 0 0, .int .i64 0, .int .i64 0, .int .i64 0, .int .i64 0, .int .i64 0] 86 (0, 0)) := (hbA.block _ hlX).trans hzX
           obtain ⟨zac0, zac1, zac2, zac3, zac4, zac5, zac6, zac7, zac8, zad0, zad1, zad2, zad3, zad4, zad5, zad6, zad7, zad8⟩ := cell9 hzA
           have hlA := heap_lt hzA
           refine wpAnyIn_take (i := 4) (v := ?v31) rfl rfl (by kernel_rfl) (by kernel_rfl) (by kernel_rfl) (fun _ _ _ h => h) ⟨Or.inl ⟨by rfl, ?y31⟩, fun _ => rfl⟩ ?r31
           case y31 => (intro w; go_simp; (first | done | with_reducible rfl))
           refine wpAnyIn_take (i := 5) (v := ?v32) rfl rfl (by kernel_rfl) (by kernel_rfl) (by kernel_rfl) (fun _ _ _ h => h) ⟨Or.inl ⟨by rfl, ?y32⟩, fun _ => rfl⟩ ?r32
           case y32 => (intro w; go_simp; (first | done | with_reducible rfl))
           refine wpAnyIn_take (i := 6) (v := ?v33) rfl rfl (by kernel_rfl) (by kernel_rfl) (by kernel_rfl) (fun _ _ _ h => h) ⟨Or.inl ⟨by rfl, ?y33⟩, fun _ => rfl⟩ ?r33
           case y33 => (intro w; go_simp; (first | done | with_reducible rfl))
           refine wpAnyIn_ready (rs := [8]) (by kernel_rfl) (by simp) ?_
           refine AllReadyIn.cons rfl (fun K hK => ?_) AllReadyIn.nil
           go_simp
           refine hK _ _ ?_
           clear hK K
           refine wpAnyIn_ready (rs := [9]) (by kernel_rfl) (by simp) ?_
           refine AllReadyIn.cons rfl (fun K hK => ?_) AllReadyIn.nil
           go_simp
           refine hK _ _ ?_
           clear hK K
           refine wpAnyIn_done (by kernel_rfl) ?_ _
           have or' := own_mono or (Nat.le_trans hbW.size (Nat.le_refl _))
           have hl8 : (goR 0 (digs rs.length V) rs).length = 8 := by rw [goR_len]; exact HRL.out
           rw [← HRT.out] at or'
           rw [tcR_len, forR8.1] at or'
           rw [hl8]
           gi_wp2
           gi_meet
           case rel => exact tc_early (Nat.le_refl _) hbWA hzA or'
         · go_simp
           gi_wp2_with (refine ⟨trivial, ?_⟩; gi_at_call 72; refine (callsIn_wide.2 (HWO.out _)).mono ?_; rintro e w9 ⟨rfl, hb9⟩)
           try (refine hK _ _ ?_; clear hK K)
           have hbW : Below W.heap.size W w9 := (((Below.refl _ W).drew).alloc (Nat.le_refl _) _).trans (hb9.mono (by simp))
           have hf9 := (hbW.block _ hlBf).trans HF3.out
           obtain ⟨u0, u1, u2, v0, v1, v2⟩ := cell3 hf9
           have hlBf9 := heap_lt hf9
           have hzX : w9.heap[W.heap.size]? = some (.cells #[.int .i64 0, .int .i64 0, .slice none 0 0, .slice none 0 0, .int .i64 0, .int .i64 0, .int .i64 0, .int .i64 0, .int .i64 0] 86 (0, 0)) := (hb9.block _ (by simp)).trans (alloc_at rfl)
           have hlX := heap_lt hzX
           refine wpAnyIn_ready (rs := [0]) (by kernel_rfl) (by simp) ?_
           refine AllReadyIn.cons rfl (fun K hK => ?_) AllReadyIn.nil
           go_simp
           refine hK _ _ ?_
           clear hK K
           refine wpAnyIn_ready (rs := [3]) (by kernel_rfl) (by simp) ?_
           refine AllReadyIn.cons rfl (fun K hK => ?_) AllReadyIn.nil
           go_simp
           gi_wp2_with (refine ⟨trivial, ?_⟩; gi_at_call 81; refine (callsIn_wide.2 (HAD.out _ _ (RodsR.of_own (own_relen HRL.out (own_below HROW.out hbW))))).mono ?_; rintro e wA ⟨⟨s1, q1, k1, j0, j1, j2, j3, rfl, -, or, -⟩, hbA⟩; obtain ⟨rb1, rc1, rfl⟩ := own_block or (by rw [goR_len, HRL.out]; omega))
           try (refine hK _ _ ?_; clear hK K)
           have hbWA : Below W.heap.size W wA := hbW.trans (hbA.mono hbW.size)
           have hzA : wA.heap[W.heap.size]? = some (.cells #[.int .i64 0, .int .i64 0, .slice none 0 0, .slice none 0 0, .int .i64 0, .int .i64 0, .int .i64 0, .int .i64 0, .int .i64 0] 86 (0, 0)) := (hbA.block _ hlX).trans hzX
           obtain ⟨zac0, zac1, zac2, zac3, zac4, zac5, zac6, zac7, zac8, zad0, zad1, zad2, zad3, zad4, zad5, zad6, zad7, zad8⟩ := cell9 hzA
           have hlA := heap_lt hzA
           refine wpAnyIn_take (i := 4) (v := ?v34) rfl rfl (by kernel_rfl) (by kernel_rfl) (by kernel_rfl) (fun _ _ _ h => h) ⟨Or.inl ⟨by rfl, ?y34⟩, fun _ => rfl⟩ ?r34
           case y34 => (intro w; go_simp; (first | done | with_reducible rfl))
           refine wpAnyIn_take (i := 5) (v := ?v35) rfl rfl (by kernel_rfl) (by kernel_rfl) (by kernel_rfl) (fun _ _ _ h => h) ⟨Or.inl ⟨by rfl, ?y35⟩, fun _ => rfl⟩ ?r35
           case y35 => (intro w; go_simp; (first | done | with_reducible rfl))
           refine wpAnyIn_take (i := 6) (v := ?v36) rfl rfl (by kernel_rfl) (by kernel_rfl) (by kernel_rfl) (fun _ _ _ h => h) ⟨Or.inl ⟨by rfl, ?y36⟩, fun _ => rfl⟩ ?r36
           case y36 => (intro w; go_simp; (first | done | with_reducible rfl))
           refine wpAnyIn_ready (rs := [8]) (by kernel_rfl) (by simp) ?_
           refine AllReadyIn.cons rfl (fun K hK => ?_) AllReadyIn.nil
           go_simp
           refine hK _ _ ?_
           clear hK K
           refine wpAnyIn_ready (rs := [9]) (by kernel_rfl) (by simp) ?_
           refine AllReadyIn.cons rfl (fun K hK => ?_) AllReadyIn.nil
           go_simp
           refine hK _ _ ?_
           clear hK K
           refine wpAnyIn_done (by kernel_rfl) ?_ _
           have or' := own_mono or (Nat.le_trans hbW.size (Nat.le_refl _))
           have hl8 : (goR 0 (digs rs.length V) rs).length = 8 := by rw [goR_len]; exact HRL.out
           rw [← HRT.out] at or'
           rw [tcR_len, forR8.1] at or'
           rw [hl8]
           gi_wp2
           gi_meet
           case rel => exact tc_early (Nat.le_refl _) hbWA hzA or'
     · go_simp
       refine hK _ _ ?_
       clear hK K
       refine wpAnyIn_ready (rs := [0, 1]) (by kernel_rfl) (by simp) ?_
       refine AllReadyIn.cons rfl (fun K hK => ?_) (AllReadyIn.cons rfl (fun K hK => ?_) AllReadyIn.nil)
       · go_simp
         refine hK _ _ ?_
         clear hK K
         refine wpAnyIn_ready (rs := [1]) (by kernel_rfl) (by simp) ?_
         refine AllReadyIn.cons rfl (fun K hK => ?_) AllReadyIn.nil
         go_simp
         refine hK _ _ ?_
         clear hK K
         refine wpAnyIn_ready (rs := [2]) (by kernel_rfl) (by simp) ?_
         refine AllReadyIn.cons rfl (fun K hK => ?_) AllReadyIn.nil
         go_simp
         gi_wp2_with (refine ⟨trivial, ?_⟩; gi_at_call 72; refine (callsIn_wide.2 (HWO.out _)).mono ?_; rintro e w9 ⟨rfl, hb9⟩)
         try (refine hK _ _ ?_; clear hK K)
         have hbW : Below W.heap.size W w9 := (((Below.refl _ W).drew).alloc (Nat.le_refl _) _).trans (hb9.mono (by simp))
         have hf9 := (hbW.block _ hlBf).trans HF3.out
         obtain ⟨u0, u1, u2, v0, v1, v2⟩ := cell3 hf9
         have hlBf9 := heap_lt hf9
         have hzX : w9.heap[W.heap.size]? = some (.cells #[.int .i64 0, .int .i64 0, .slice none 0 0, .slice none 0 0, .int .i64 0, .int .i64 0, .int .i64 0, .int .i64 0, .int .i64 0] 86 (0, 0)) := (hb9.block _ (by simp)).trans (alloc_at rfl)
         have hlX := heap_lt hzX
         refine wpAnyIn_ready (rs := [3]) (by kernel_rfl) (by simp) ?_
         refine AllReadyIn.cons rfl (fun K hK => ?_) AllReadyIn.nil
         go_simp
         gi_wp2_with (refine ⟨trivial, ?_⟩; gi_at_call 81; refine (callsIn_wide.2 (HAD.out _ _ (RodsR.of_own (own_relen HRL.out (own_below HROW.out hbW))))).mono ?_; rintro e wA ⟨⟨s1, q1, k1, j0, j1, j2, j3, rfl, -, or, -⟩, hbA⟩; obtain ⟨rb1, rc1, rfl⟩ := own_block or (by rw [goR_len, HRL.out]; omega))
         try (refine hK _ _ ?_; clear hK K)
         have hbWA : Below W.heap.size W wA := hbW.trans (hbA.mono hbW.size)
         have hzA : wA.heap[W.heap.size]? = some (.cells #[.int .i64 0, .int .i64 0, .slice none 0 0, .slice none 0 0, .int .i64 0, .int .i64 0, .int .i64 0, .int .i64 0, .int .i64 0] 86 (0, 0)) := (hbA.block _ hlX).trans hzX
         obtain ⟨zac0, zac1, zac2, zac3, zac4, zac5, zac6, zac7, zac8, zad0, zad1, zad2, zad3, zad4, zad5, zad6, zad7, zad8⟩ := cell9 hzA
         have hlA := heap_lt hzA
         refine wpAnyIn_take (i := 4) (v := ?v37) rfl rfl (by kernel_rfl) (by kernel_rfl) (by kernel_rfl) (fun _ _ _ h => h) ⟨Or.inl ⟨by rfl, ?y37⟩, fun _ => rfl⟩ ?r37
         case y37 => (intro w; go_simp; (first | done | with_reducible rfl))
         refine wpAnyIn_take (i := 5) (v := ?v38) rfl rfl (by kernel_rfl) (by kernel_rfl) (by kernel_rfl) (fun _ _ _ h => h) ⟨Or.inl ⟨by rfl, ?y38⟩, fun _ => rfl⟩ ?r38
         case y38 => (intro w; go_simp; (first | done | with_reducible rfl))
         refine wpAnyIn_take (i := 6) (v := ?v39) rfl rfl (by kernel_rfl) (by kernel_rfl) (by kernel_rfl) (fun _ _ _ h => h) ⟨Or.inl ⟨by rfl, ?y39⟩, fun _ => rfl⟩ ?r39
         case y39 => (intro w; go_simp; (first | done | with_reducible rfl))
         refine wpAnyIn_ready (rs := [8]) (by kernel_rfl) (by simp) ?_
         refine AllReadyIn.cons rfl (fun K hK => ?_) AllReadyIn.nil
         go_simp
         refine hK _ _ ?_
         clear hK K
         refine wpAnyIn_ready (rs := [9]) (by kernel_rfl) (by simp) ?_
         refine AllReadyIn.cons rfl (fun K hK => ?_) AllReadyIn.nil
         go_simp
         refine hK _ _ ?_
         clear hK K
         refine wpAnyIn_done (by kernel_rfl) ?_ _
         have or' := own_mono or (Nat.le_trans hbW.size (Nat.le_refl _))
         have hl8 : (goR 0 (digs rs.length V) rs).length = 8 := by rw [goR_len]; exact HRL.out
         rw [← HRT.out] at or'
         rw [tcR_len, forR8.1] at or'
         rw [hl8]
         gi_wp2
         gi_meet
         case rel => exact tc_early (Nat.le_refl _) hbWA hzA or'
       · go_simp
         refine hK _ _ ?_
         clear hK K
         refine wpAnyIn_ready (rs := [0, 2]) (by kernel_rfl) (by simp) ?_
         refine AllReadyIn.cons rfl (fun K hK => ?_) (AllReadyIn.cons rfl (fun K hK => ?_) AllReadyIn.nil)
         · go_simp
           refine hK _ _ ?_
           clear hK K
           refine wpAnyIn_ready (rs := [2]) (by kernel_rfl) (by simp) ?_
           refine AllReadyIn.cons rfl (fun K hK => ?_) AllReadyIn.nil
           go_simp
           gi_wp2_with (refine ⟨trivial, ?_⟩; gi_at_call 72; refine (callsIn_wide.2 (HWO.out _)).mono ?_; rintro e w9 ⟨rfl, hb9⟩)
           try (refine hK _ _ ?_; clear hK K)
           have hbW : Below W.heap.size W w9 := (((Below.refl _ W).drew).alloc (Nat.le_refl _) _).trans (hb9.mono (by simp))
           have hf9 := (hbW.block _ hlBf).trans HF3.out
           obtain ⟨u0, u1, u2, v0, v1, v2⟩ := cell3 hf9
           have hlBf9 := heap_lt hf9
           have hzX : w9.heap[W.heap.size]? = some (.cells #[.int .i64 0, .int .i64 0, .slice none 0 0, .slice none 0 0, .int .i64 0, .int .i64 0, .int .i64 0, .int .i64 0, .int .i64 0] 86 (0, 0)) := (hb9.block _ (by simp)).trans (alloc_at rfl)
           have hlX := heap_lt hzX
           refine wpAnyIn_ready (rs := [3]) (by kernel_rfl) (by simp) ?_
           refine AllReadyIn.cons rfl (fun K hK => ?_) AllReadyIn.nil
           go_simp
           gi_wp2_with (refine ⟨trivial, ?_⟩; gi_at_call 81; refine (callsIn_wide.2 (HAD.out _ _ (RodsR.of_own (own_relen HRL.out (own_below HROW.out hbW))))).mono ?_; rintro e wA ⟨⟨s1, q1, k1, j0, j1, j2, j3, rfl, -, or, -⟩, hbA⟩; obtain ⟨rb1, rc1, rfl⟩ := own_block or (by rw [goR_len, HRL.out]; omega))
           try (refine hK _ _ ?_; clear hK K)
           have hbWA : Below W.heap.size W wA := hbW.trans (hbA.mono hbW.size)
           have hzA : wA.heap[W.heap.size]? = some (.cells #[.int .i64 0, .int .i64 0, .slice none 0 0, .slice none 0 0, .int .i64 0, .int .i64 0, .int .i64 0, .int .i64 0, .int .i64 0] 86 (0, 0)) := (hbA.block _ hlX).trans hzX
           obtain ⟨zac0, zac1, zac2, zac3, zac4, zac5, zac6, zac7, zac8, zad0, zad1, zad2, zad3, zad4, zad5, zad6, zad7, zad8⟩ := cell9 hzA
           have hlA := heap_lt hzA
           refine wpAnyIn_take (i := 4) (v := ?v40) rfl rfl (by kernel_rfl) (by kernel_rfl) (by kernel_rfl) (fun _ _ _ h => h) ⟨Or.inl ⟨by rfl, ?y40⟩, fun _ => rfl⟩ ?r40
           case y40 => (intro w; go_simp; (first | done | with_reducible rfl))
           refine wpAnyIn_take (i := 5) (v := ?v41) rfl rfl (by kernel_rfl) (by kernel_rfl) (by kernel_rfl) (fun _ _ _ h => h) ⟨Or.inl ⟨by rfl, ?y41⟩, fun _ => rfl⟩ ?r41
           case y41 => (intro w; go_simp; (first | done | with_reducible rfl))
           refine wpAnyIn_take (i := 6) (v := ?v42) rfl rfl (by kernel_rfl) (by kernel_rfl) (by kernel_rfl) (fun _ _ _ h => h) ⟨Or.inl ⟨by rfl, ?y42⟩, fun _ => rfl⟩ ?r42
           case y42 => (intro w; go_simp; (first | done | with_reducible rfl))
           refine wpAnyIn_ready (rs := [8]) (by kernel_rfl) (by simp) ?_
           refine AllReadyIn.cons rfl (fun K hK => ?_) AllReadyIn.nil
           go_simp
           refine hK _ _ ?_
           clear hK K
           refine wpAnyIn_ready (rs := [9]) (by kernel_rfl) (by simp) ?_
           refine AllReadyIn.cons rfl (fun K hK => ?_) AllReadyIn.nil
           go_simp
           refine hK _ _ ?_
           clear hK K
           refine wpAnyIn_done (by kernel_rfl) ?_ _
           have or' := own_mono or (Nat.le_trans hbW.size (Nat.le_refl _))
           have hl8 : (goR 0 (digs rs.length V) rs).length = 8 := by rw [goR_len]; exact HRL.out
           rw [← HRT.out] at or'
           rw [tcR_len, forR8.1] at or'
           rw [hl8]
           gi_wp2
           gi_meet
           case rel => exact tc_early (Nat.le_refl _) hbWA hzA or'
         · go_simp
           gi_wp2_with (refine ⟨trivial, ?_⟩; gi_at_call 72; refine (callsIn_wide.2 (HWO.out _)).mono ?_; rintro e w9 ⟨rfl, hb9⟩)
           try (refine hK _ _ ?_; clear hK K)
           have hbW : Below W.heap.size W w9 := (((Below.refl _ W).drew).alloc (Nat.le_refl _) _).trans (hb9.mono (by simp))
           have hf9 := (hbW.block _ hlBf).trans HF3.out
           obtain ⟨u0, u1, u2, v0, v1, v2⟩ := cell3 hf9
           have hlBf9 := heap_lt hf9
           have hzX : w9.heap[W.heap.size]? = some (.cells #[.int .i64 0, .int .i64 0, .slice none 0 0, .slice none 0 0, .int .i64 0, .int .i64 0, .int .i64 0, .int .i64 0, .int .i64 0] 86 (0, 0)) := (hb9.block _ (by simp)).trans (alloc_at rfl)
           have hlX := heap_lt hzX
           refine wpAnyIn_ready (rs := [0]) (by kernel_rfl) (by simp) ?_
           refine AllReadyIn.cons rfl (fun K hK => ?_) AllReadyIn.nil
           go_simp
           refine hK _ _ ?_
           clear hK K
           refine wpAnyIn_ready (rs := [3]) (by kernel_rfl) (by simp) ?_
           refine AllReadyIn.cons rfl (fun K hK => ?_) AllReadyIn.nil
           go_simp
           gi_wp2_with (refine ⟨trivial, ?_⟩; gi_at_call 81; refine (callsIn_wide.2 (HAD.out _ _ (RodsR.of_own (own_relen HRL.out (own_below HROW.out hbW))))).mono ?_; rintro e wA ⟨⟨s1, q1, k1, j0, j1, j2, j3, rfl, -, or, -⟩, hbA⟩; obtain ⟨rb1, rc1, rfl⟩ := own_block or (by rw [goR_len, HRL.out]; omega))
           try (refine hK _ _ ?_; clear hK K)
           have hbWA : Below W.heap.size W wA := hbW.trans (hbA.mono hbW.size)
           have hzA : wA.heap[W.heap.size]? = some (.cells #[.int .i64 0, .int .i64 0, .slice none 0 0, .slice none 0 0, .int .i64 0, .int .i64 0, .int .i64 0, .int .i64 0, .int .i64 0] 86 (0, 0)) := (hbA.block _ hlX).trans hzX
           obtain ⟨zac0, zac1, zac2, zac3, zac4, zac5, zac6, zac7, zac8, zad0, zad1, zad2, zad3, zad4, zad5, zad6, zad7, zad8⟩ := cell9 hzA
           have hlA := heap_lt hzA
           refine wpAnyIn_take (i := 4) (v := ?v43) rfl rfl (by kernel_rfl) (by kernel_rfl) (by kernel_rfl) (fun _ _ _ h => h) ⟨Or.inl ⟨by rfl, ?y43⟩, fun _ => rfl⟩ ?r43
           case y43 => (intro w; go_simp; (first | done | with_reducible rfl))
           refine wpAnyIn_take (i := 5) (v := ?v44) rfl rfl (by kernel_rfl) (by kernel_rfl) (by kernel_rfl) (fun _ _ _ h => h) ⟨Or.inl ⟨by rfl, ?y44⟩, fun _ => rfl⟩ ?r44
           case y44 => (intro w; go_simp; (first | done | with_reducible rfl))
           refine wpAnyIn_take (i := 6) (v := ?v45) rfl rfl (by kernel_rfl) (by kernel_rfl) (by kernel_rfl) (fun _ _ _ h => h) ⟨Or.inl ⟨by rfl, ?y45⟩, fun _ => rfl⟩ ?r45
           case y45 => (intro w; go_simp; (first | done | with_reducible rfl))
           refine wpAnyIn_ready (rs := [8]) (by kernel_rfl) (by simp) ?_
           refine AllReadyIn.cons rfl (fun K hK => ?_) AllReadyIn.nil
           go_simp
           refine hK _ _ ?_
           clear hK K
           refine wpAnyIn_ready (rs := [9]) (by kernel_rfl) (by simp) ?_
           refine AllReadyIn.cons rfl (fun K hK => ?_) AllReadyIn.nil
           go_simp
           refine hK _ _ ?_
           clear hK K
           refine wpAnyIn_done (by kernel_rfl) ?_ _
           have or' := own_mono or (Nat.le_trans hbW.size (Nat.le_refl _))
           have hl8 : (goR 0 (digs rs.length V) rs).length = 8 := by rw [goR_len]; exact HRL.out
           rw [← HRT.out] at or'
           rw [tcR_len, forR8.1] at or'
           rw [hl8]
           gi_wp2
           gi_meet
           case rel => exact tc_early (Nat.le_refl _) hbWA hzA or'
    case rest =>
     obtain ⟨A, rb1, rc1, q1, n1, k1, j0, j1, j2, j3, rfl, hA, hWc, hzc, hoc⟩ := hcut
     obtain ⟨zc0, zc1, zc2, zc3, zc4, zc5, zc6, zc7, zc8, zd0, zd1, zd2, zd3, zd4, zd5, zd6, zd7, zd8⟩ := cell9 hzc
     have hlA := heap_lt hzc
     have hlY := heap_lt HY3.out
     have hfc := (hWc.block _ hlBf).trans HF3.out
     have hyw : Boxed wc (Bf + 1) 3 (.int .i64 (cn : Int)) := (hWc.block _ hlY).trans HY3.out
     obtain ⟨k0, k1', k2, l0, l1, l2⟩ := cell3 hfc
     have hyc2 := hyw.cell
     have hyf2 := hyw.frozen
     have hAf : Bf ≠ A := by omega
     have hAy : Bf + 1 ≠ A := by omega
     gi_wp2
     exact tc_step HBF.out (by have := HS2.out; have := HS4.out; omega) HB3.out HF3.out HY3.out hWc hoc rfl HCT.out rfl
set_option maxRecDepth 100000 in
set_option maxHeartbeats 800000 in
theorem impTimesCarries_no (a b : Int) (w : World) (h : ¬ okFs a b) :
    Calls Try.prog 28 #[.int .i64 a, .int .i64 b] w fun e w' => e = .returned (.tuple #[.int .i64 0, .bool false]) ∧ Below w.heap.size w w' := by
  have HH := Lib.hid h
  clear h
  go_enter Try.func28, Try.ntmps28
  go_wp2_with fail
  refine (areF_no _ _ w HH.out).mono ?_
  rintro e w2 ⟨rfl, rfl⟩
  go_wp2_with fail
  go_ret2
  exact ⟨rfl, Below.refl _ _⟩
end Go.Proofs.Ythmbehknacjodaa
