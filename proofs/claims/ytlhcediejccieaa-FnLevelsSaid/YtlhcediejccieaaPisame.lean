/- Those with the same name: the program's, by a map. -/
import Derived.Test.YtlhcediejccieaaGmap
import Derived.Test.YtlhcediejccieaaPi3
import Derived.Test.YtlhcediejccieaaPplace
import Derived.Lib.Strings
namespace Go.Proofs.Ytlhcediejccieaa
set_option linter.unusedVariables false
open Go.RowKit Go.Maps

def nmB (s : ByteArray) : List UInt8 := s.data.toList
/-- The Ids of all with a name. -/
def idsN (l : List UInt8) (ps : List Pu) : List Int := idL (ps.filter fun p => nmB p.name == l)
theorem idsN_yes (ps : List Pu) (k : Nat) (h : k < ps.length) : idsN (nmB ps[k].name) (ps.take (k + 1)) = idsN (nmB ps[k].name) (ps.take k) ++ [ps[k].id] := by
  unfold idsN idL; rw [List.take_succ_eq_append_getElem h, List.filter_append]; simp
theorem idsN_no (l : List UInt8) (ps : List Pu) (k : Nat) (h : k < ps.length) (hc : ¬ l = nmB ps[k].name) : idsN l (ps.take (k + 1)) = idsN l (ps.take k) := by
  unfold idsN idL; rw [List.take_succ_eq_append_getElem h, List.filter_append]
  have : (nmB ps[k].name == l) = false := by rw [beq_eq_false_iff_ne]; exact fun e => hc e.symm
  simp [this]
theorem idsN_len (l : List UInt8) (ps : List Pu) : (idsN l ps).length ≤ ps.length := by unfold idsN; rw [idL_len]; exact List.length_filter_le _ _
theorem sameOf_idsN (ps : List Pu) (q : Pu) : sameOf ps q = idsN (nmB q.name) ps := by
  unfold sameOf idsN nmEq nmB
  simp only [Lib.toList_data]
/-- The rows that the map's values are: each owned, no two of them one. -/
structure Grp (B : Nat) (w : World) (f : List UInt8 → Value) (ps : List Pu) : Prop where
  own : ∀ l, w.ownsRow B 3 1 (f l) (idsN l ps).length (flatC inC (idsN l ps))
  two : ∀ l l', l ≠ l' → ∀ g, (f l).ownBlock = some g → (f l').ownBlock ≠ some g
theorem Grp.next {B : Nat} {w w' : World} {f : List UInt8 → Value} {ps : List Pu} (h : Grp B w f ps) (hb : Below w.heap.size w w') : Grp B w' f ps := { h with own := fun l => own_below (h.own l) hb }
theorem Grp.kept {B : Nat} {w w' : World} {f : List UInt8 → Value} {ps : List Pu} {row : Option Nat} (h : Grp B w f ps) (hg : w.grownBy w' row) (hr : ∀ g, row = some g → g < B) : Grp B w' f ps :=
  { h with own := fun l => (h.own l).kept hg (by
      cases hb : (f l).ownBlock with
      | none => exact .inl rfl
      | some g => exact .inr fun e => by have h1 := ((h.own l).lt g hb).1; have h2 := hr g e.symm; omega) }
/-- One of them grows by an Id. -/
theorem Grp.step {B : Nat} {w w1 w2 : World} {f : List UInt8 → Value} {ps : List Pu} {k : Nat} (hk : k < ps.length) (h : Grp B w f (ps.take k)) (hb : Below w.heap.size w w1) {v' : Value}
    (ho : w2.ownsRow B 3 1 v' ((idsN (nmB ps[k].name) (ps.take k)).length + 1) (flatC inC (idsN (nmB ps[k].name) (ps.take k)) ++ [.int .i64 ps[k].id])) (hg : w1.grownBy w2 (f (nmB ps[k].name)).ownBlock)
    (hl : v'.ownBlock = (f (nmB ps[k].name)).ownBlock ∨ v'.ownBlock = some w1.heap.size) : Grp B w2 (fun l => if l = nmB ps[k].name then v' else f l) (ps.take (k + 1)) := by
  have hn := h.next hb
  have key : ∀ l', l' ≠ nmB ps[k].name → ∀ g, v'.ownBlock = some g → (f l').ownBlock ≠ some g := by
    intro l' hne g hv e
    rcases hl with hl | hl
    · exact h.two _ _ (Ne.symm hne) g (hl ▸ hv) e
    · rw [hl] at hv
      injection hv with hv
      have := ((hn.own l').lt g e).2
      omega
  refine ⟨fun l => ?_, fun l l' hne g => ?_⟩
  · show w2.ownsRow B 3 1 (if l = nmB ps[k].name then v' else f l) _ _
    by_cases e : l = nmB ps[k].name
    · subst e
      rw [if_pos rfl, idsN_yes ps k hk, flatC_app, List.length_append]
      exact ho
    · rw [if_neg e, idsN_no l ps k hk e]
      refine (hn.own l).kept hg ?_
      cases hbk : (f l).ownBlock with
      | none => exact .inl rfl
      | some g => exact .inr fun e' => h.two _ _ (Ne.symm e) g e'.symm hbk
  · show (if l = nmB ps[k].name then v' else f l).ownBlock = some g → (if l' = nmB ps[k].name then v' else f l').ownBlock ≠ some g
    by_cases e : l = nmB ps[k].name
    · have e' : l' ≠ nmB ps[k].name := fun e' => hne (e.trans e'.symm)
      rw [if_pos e, if_neg e']
      exact key l' e' g
    · rw [if_neg e]
      by_cases e' : l' = nmB ps[k].name
      · rw [if_pos e']
        intro h1 h2
        exact key l e g h2 h1
      · rw [if_neg e']
        exact h.two l l' hne g
/-- The names that are told after k pupils. -/
def lsN (ps : List Pu) : Nat → List (List UInt8)
  | 0 => []
  | k + 1 => match ps[k]? with
    | none => lsN ps k
    | some q => if 1 < (sameOf ps q).length ∧ (sameOf ps q).getD 0 0 = q.id then lsN ps k ++ [nmB q.name] else lsN ps k
theorem lsN_yes (ps : List Pu) (k : Nat) (h : k < ps.length) (hc : 1 < (sameOf ps ps[k]).length ∧ (sameOf ps ps[k]).getD 0 0 = ps[k].id) : lsN ps (k + 1) = lsN ps k ++ [nmB ps[k].name] := by
  rw [lsN, List.getElem?_eq_getElem h]; exact if_pos hc
theorem lsN_no (ps : List Pu) (k : Nat) (h : k < ps.length) (hc : ¬ (1 < (sameOf ps ps[k]).length ∧ (sameOf ps ps[k]).getD 0 0 = ps[k].id)) : lsN ps (k + 1) = lsN ps k := by
  rw [lsN, List.getElem?_eq_getElem h]; exact if_neg hc
theorem lsN_len (ps : List Pu) : ∀ k, (lsN ps k).length ≤ k
  | 0 => by simp [lsN]
  | k + 1 => by
    have ih := lsN_len ps k
    by_cases hk : k < ps.length
    · by_cases hc : 1 < (sameOf ps ps[k]).length ∧ (sameOf ps ps[k]).getD 0 0 = ps[k].id
      · rw [lsN_yes ps k hk hc]; simp; omega
      · rw [lsN_no ps k hk hc]; omega
    · have e : lsN ps (k + 1) = lsN ps k := by rw [lsN, List.getElem?_eq_none (by omega)]
      rw [e]; omega
theorem lsN_samL (ps : List Pu) : ∀ k, k ≤ ps.length → samL ps k = (lsN ps k).map fun l => idsN l ps
  | 0, _ => rfl
  | k + 1, h => by
    have ih := lsN_samL ps k (by omega)
    by_cases hc : 1 < (sameOf ps ps[k]).length ∧ (sameOf ps ps[k]).getD 0 0 = ps[k].id
    · rw [samL_yes ps k h hc, lsN_yes ps k h hc, List.map_append, ih, sameOf_idsN]; rfl
    · rw [samL_no ps k h hc, lsN_no ps k h hc, ih]
theorem lsN_inv {ps : List Pu} (ho : okL ps) : ∀ k, k ≤ ps.length → (lsN ps k).Nodup ∧ ∀ l ∈ lsN ps k, ∃ i, ∃ h : i < ps.length, i < k ∧ (idsN l ps).getD 0 0 = ps[i].id
  | 0, _ => ⟨by simp [lsN], fun l h => by simp [lsN] at h⟩
  | k + 1, h => by
    obtain ⟨h1, h2⟩ := lsN_inv ho k (by omega)
    by_cases hc : 1 < (sameOf ps ps[k]).length ∧ (sameOf ps ps[k]).getD 0 0 = ps[k].id
    · rw [lsN_yes ps k h hc]
      have hck := hc.2
      rw [sameOf_idsN] at hck
      refine ⟨?_, fun l hl => ?_⟩
      · refine List.nodup_append.2 ⟨h1, by simp, fun l hl l' hl' e => ?_⟩
        rw [List.mem_singleton.1 hl'] at e
        subst e
        obtain ⟨i, hi, hik, he⟩ := h2 _ hl
        rw [hck] at he
        obtain ⟨d, rfl⟩ : ∃ d, k = i + d + 1 := ⟨k - i - 1, by omega⟩
        have := okL_lt ho d i h
        omega
      · rcases List.mem_append.1 hl with hl | hl
        · obtain ⟨i, hi, hik, he⟩ := h2 l hl
          exact ⟨i, hi, by omega, he⟩
        · rw [List.mem_singleton.1 hl]
          exact ⟨k, h, by omega, hck⟩
    · rw [lsN_no ps k h hc]
      refine ⟨h1, fun l hl => ?_⟩
      obtain ⟨i, hi, hik, he⟩ := h2 l hl
      exact ⟨i, hi, by omega, he⟩
theorem getD_map {α β : Type} (g : α → β) (l : List α) (i : Nat) (d : β) (h : i < l.length) : (l.map g).getD i d = g l[i] := by
  rw [getD_at _ _ _ (by rw [List.length_map]; exact h), List.getElem_map]
/-- The rows that are told, all of them in blocks of their own. -/
theorem own_names {B Bo : Nat} {w : World} {v : Value} {f : List UInt8 → Value} {ps : List Pu} (ho : okL ps) (hg : Grp B w f ps) (hv : w.ownsRow Bo 27 1 v (lsN ps ps.length).length ((lsN ps ps.length).map f)) (hB : B ≤ Bo) (hBo : Bo ≤ w.heap.size)
    (hr : ∀ l g, (f l).ownBlock = some g → g < Bo) : OwnSS B w.heap.size w v ((lsN ps ps.length).map f) (samL ps ps.length) := by
  have hlen : ((lsN ps ps.length).map f).length = (lsN ps ps.length).length := List.length_map _
  have hs := lsN_samL ps ps.length (Nat.le_refl _)
  have hnd := (lsN_inv ho ps.length (Nat.le_refl _)).1
  generalize lsN ps ps.length = ls at *
  refine ⟨Nat.le_trans hB hBo, ⟨by rw [hlen]; exact own_mono hv hB, fun g hg' => (hv.lt g hg').2⟩, by rw [hs]; simp, fun i hi => ?_, fun i hi g hg' => ?_, fun i j hi hj hij g hg' => ?_⟩
  · have hi' : i < ls.length := by rwa [hlen] at hi
    rw [hs, getD_map f ls i undef hi', getD_map (fun l => idsN l ps) ls i [] hi']
    exact ⟨hg.own _, fun g hg' => ((hg.own _).lt g hg').2⟩
  · have hi' : i < ls.length := by rwa [hlen] at hi
    rw [getD_map f ls i undef hi'] at hg'
    intro e
    have h1 := hr _ g hg'
    have h2 := (hv.lt g e).1
    omega
  · have hi' : i < ls.length := by rwa [hlen] at hi
    have hj' : j < ls.length := by rwa [hlen] at hj
    rw [getD_map f ls i undef hi'] at hg'
    rw [getD_map f ls j undef hj']
    exact hg.two _ _ (fun e => hij ((List.getElem_inj hnd).1 e)) g hg'
set_option maxRecDepth 100000 in
set_option maxHeartbeats 800000 in
theorem implSame_no (v : Value) (ps : List Pu) (w : World) (h : RowsR 5 puC w v ps) (hs : ∀ p ∈ ps, p.name.size ≤ maxLen) (hn : ¬ okL ps) :
    Calls Try.prog 31 #[v] w fun e w' => (∃ sq vs, e = .returned (.tuple #[sq, .bool false]) ∧ OwnSS w.heap.size w'.heap.size w' sq vs []) ∧ Below w.heap.size w w' := by
  have HC := Lib.hid (iGood_no v ps w h hs hn)
  clear h hs hn
  go_enter Try.func31, Try.ntmps31
  go_wp2_with fail
  refine HC.out.mono ?_
  rintro e w2 ⟨rfl, hb2⟩
  have HB := Lib.hid hb2
  clear hb2
  go_wp2_with fail
  go_ret2
  exact ⟨⟨_, [], rfl, OwnSS.empty (by have := HB.out.size; simp; omega) (World.ownsRow_made (base := w.heap.size) (e := 27) (size := 1) _ #[] 0 HB.out.size (Nat.zero_le _) (by simp)) (fun g hg => by simp [Value.ownBlock] at hg; simp; omega)⟩, HB.out.alloc HB.out.size _⟩
theorem Try.zeroInts (w : World) : (zeroValue 27).run Try.prog w = .ok (.slice none 0 0) w := by kernel_rfl
set_option maxRecDepth 100000 in
set_option maxHeartbeats 3200000 in
theorem implSame_ok (v : Value) (ps : List Pu) (w : World) (h : RowsR 5 puC w v ps) (ho : okL ps) (hs : ∀ p ∈ ps, p.name.size ≤ maxLen) :
    Calls Try.prog 31 #[v] w fun e w' => (∃ sq vs, e = .returned (.tuple #[sq, .bool true]) ∧ OwnSS w.heap.size w'.heap.size w' sq vs (samL ps ps.length)) ∧ Below w.heap.size w w' := by
  obtain ⟨i0, hi, hz0, hz1, hz2⟩ := info_parts Try.infoInt
  obtain ⟨i1, ii, iz0, iz1, iz2⟩ := info_parts Try.infoInts
  have hl := okL_len ho
  have HC := Lib.hid (iGood_yes v ps w h hs ho)
  obtain ⟨a, cp, rfl⟩ := h.form
  have R1 := Lib.hid h.at
  have HS := Lib.hid hs
  have HOK := Lib.hid ho
  clear h hs ho
  have hmm := @run_makeMap Try.prog
  go_enter Try.func31, Try.ntmps31
  go_wp2_with fail
  refine HC.out.mono ?_
  rintro e w2 ⟨rfl, hb2⟩
  have HB := Lib.hid hb2
  clear hb2
  go_wp2_with fail
  go_loopw [18] (fun i wr => ∃ (k : Nat) (f : List UInt8 → Value), k ≤ ps.length ∧ i = .int .i64 k ∧ Hid (GMap wr w2.heap.size k f) ∧ Hid (Grp (w2.heap.size + 1) wr f (ps.take k)) ∧ Below w.heap.size w wr ∧ w2.heap.size + 1 ≤ wr.heap.size) (fun i _ => ps.length - (intOf i).toNat)
  case atStart => exact ⟨0, fun _ => .slice none 0 0, Nat.zero_le _, rfl, Lib.hid (GMap.made w2), Lib.hid ⟨fun l => own_nil' _ _ _ _, fun l l' _ g hg => by simp [Value.ownBlock] at hg⟩, HB.out.alloc HB.out.size _, by simp⟩
  case round =>
    obtain ⟨k, f, hk, rfl, HM, HG, hb, hsz⟩ := hrel
    have HB2 := Lib.hid hb
    have HSZ := Lib.hid hsz
    by_cases hlt : k < ps.length
    · have z1 : (0 : Int) ≤ (k : Int) := by omega
      have z2 : (k : Int) < (ps.length : Int) := by omega
      obtain ⟨b1, o1, rfl, l1, k1⟩ := R1.out _ hb k hlt
      have p0 : wr.cell? ⟨b1, o1 + k * 5, none⟩ = some (.int .i64 ps[k].id) := k1 0 (by omega)
      have p1 : wr.cell? ⟨b1, o1 + k * 5 + 1, none⟩ = some (.string ps[k].name) := k1 1 (by omega)
      have p2 : wr.cell? ⟨b1, o1 + k * 5 + 2, none⟩ = some (.int .i64 ps[k].born) := k1 2 (by omega)
      have p3 : wr.cell? ⟨b1, o1 + k * 5 + 3, none⟩ = some (.int .i64 ps[k].cls) := k1 3 (by omega)
      have p4 : wr.cell? ⟨b1, o1 + k * 5 + 4, none⟩ = some (.int .i64 ps[k].lvl) := k1 4 (by omega)
      have HNS : Hid (ps[k].name.size ≤ maxLen) := Lib.hid (HS.out _ (List.getElem_mem hlt))
      clear k1 hb hsz
      go_wp2_with fail
      have hbx : Below wr.heap.size wr (wr.alloc (.cells #[.int .i64 ps[k].id, .string ps[k].name, .int .i64 ps[k].born, .int .i64 ps[k].cls, .int .i64 ps[k].lvl] 38)) := (Below.refl _ _).alloc (Nat.le_refl _) _
      have hkx : (wr.alloc (.cells #[.int .i64 ps[k].id, .string ps[k].name, .int .i64 ps[k].born, .int .i64 ps[k].cls, .int .i64 ps[k].lvl] 38)).heap[wr.heap.size]? = some (.cells #[.int .i64 ps[k].id, .string ps[k].name, .int .i64 ps[k].born, .int .i64 ps[k].cls, .int .i64 ps[k].lvl] 38 (0, 0)) := alloc_at rfl
      generalize wr.alloc (.cells #[.int .i64 ps[k].id, .string ps[k].name, .int .i64 ps[k].born, .int .i64 ps[k].cls, .int .i64 ps[k].lvl] 38) = wb at hbx hkx ⊢
      have HMB := Lib.hid (HM.out.below hbx HM.out.lt)
      have HGB := Lib.hid (HG.out.next hbx)
      have HBB : Hid (Below w.heap.size w wb) := Lib.hid (HB2.out.trans (hbx.mono HB2.out.size))
      have HZB : Hid (w2.heap.size + 1 ≤ wb.heap.size) := Lib.hid (Nat.le_trans HSZ.out hbx.size)
      obtain ⟨c0, c1, c2, c3, c4, _⟩ := cell5 hkx
      have hlk : (Instr.lookup 71 (.map (some w2.heap.size)) (.string ps[k].name) false).run Try.prog wb.drew = .ok (f (nmB ps[k].name)) wb.drew := GMap.look (w := wb.drew) (HMB.out.below (B := wb.heap.size) (Below.refl _ _).drew HMB.out.lt) (Try.zeroInts _) ps[k].name HNS.out
      have HXB : Hid (wr.heap.size < wb.heap.size) := Lib.hid (lt_of_block hkx)
      clear hbx hkx p0 p1 p2 p3 p4
      obtain ⟨fa, fc, hff⟩ := own_form (HGB.out.own (nmB ps[k].name))
      have hbd : Below wb.heap.size wb wb.drew := (Below.refl _ _).drew
      have HMD := Lib.hid (HMB.out.below hbd HMB.out.lt)
      have HGD := Lib.hid (HGB.out.next hbd)
      have HBD : Hid (Below w.heap.size w wb.drew) := Lib.hid (HBB.out.trans (hbd.mono HBB.out.size))
      have HZD : Hid (w2.heap.size + 1 ≤ wb.drew.heap.size) := Lib.hid (Nat.le_trans HZB.out hbd.size)
      have HXD : Hid (wr.heap.size < wb.drew.heap.size) := Lib.hid (Nat.lt_of_lt_of_le HXB.out hbd.size)
      have hown := HGD.out.own (nmB ps[k].name)
      have hLe := idsN_len (nmB ps[k].name) (ps.take k)
      have htl : (ps.take k).length ≤ k := List.length_take_le _ _
      have HXN : Hid (∀ q, (f (nmB ps[k].name)).ownBlock = some q → (⟨wr.heap.size, 0, none⟩ : Addr).block = q → False) := Lib.hid (fun q hq e => by
        have h1 := ((HG.out.own (nmB ps[k].name)).lt q hq).2
        have h2 : wr.heap.size = q := e
        omega)
      generalize hLL : (idsN (nmB ps[k].name) (ps.take k)).length = L at hff hown hLe
      have HLL := Lib.hid hLL
      rw [hff] at hlk hown
      have HFF := Lib.hid hff
      have HOW := Lib.hid hown
      clear hff hown hLL hbd
      have hlk2 : (Instr.lookup 71 (.map (some w2.heap.size)) (.string ps[k].name) false).run Try.prog (wb.drew.alloc (.cells #[.int .i64 ps[k].id] 3)) = .ok (.slice fa L fc) (wb.drew.alloc (.cells #[.int .i64 ps[k].id] 3)) := by
        rw [GMap.look (HMD.out.kept (World.grownBy_alloc wb.drew (.cells #[.int .i64 ps[k].id] 3) none) (by simp)) (Try.zeroInts _) ps[k].name HNS.out]
        show Result.ok (f (nmB ps[k].name)) _ = _
        rw [HFF.out]
      refine wp_region_held_drew (S := (fun w' => w'.cell? ⟨wr.heap.size, 0, none⟩ = some (.int .i64 ps[k].id) ∧ w'.cell? ⟨wr.heap.size, 1, none⟩ = some (.string ps[k].name))) (by kernel_rfl) (⟨c0, c1⟩) (fun hHeld => ?_)
      have hHeld0 := hHeld
      clear c0 c1 c2 c3 c4
      generalize wb.drew = wd at HMD HGD HBD HZD HXD HOW hlk hlk2 hHeld hHeld0 ⊢
      try dsimp only at hHeld0
      refine take1 (i := 0) (v := ?v1) (some 22) rfl rfl (by kernel_rfl) (by kernel_rfl) (by kernel_rfl) (fun _ _ _ h => h) (Or.inl ⟨by rfl, ?y1⟩) (by assumption) ?r1
      case y1 => (intro w hSw; (try dsimp only at hSw); go_simp; (first | done | with_reducible rfl))
      try simp only [Act.put, List.setIfInBounds_toArray, List.set_cons_zero, List.set_cons_succ]
      refine take1 (i := 1) (v := ?v2) (some 23) rfl rfl (by kernel_rfl) (by kernel_rfl) (by kernel_rfl) (fun _ _ _ h => h) (Or.inl ⟨by rfl, ?y2⟩) (by assumption) ?r2
      case y2 => (intro w hSw; (try dsimp only at hSw); go_simp; (first | done | with_reducible rfl))
      try simp only [Act.put, List.setIfInBounds_toArray, List.set_cons_zero, List.set_cons_succ]
      refine take1 (i := 2) (v := ?v3) (some 24) rfl rfl (by kernel_rfl) (by kernel_rfl) (by kernel_rfl) (fun _ _ _ h => h) (Or.inl ⟨by rfl, ?y3⟩) (by assumption) ?r3
      case y3 => (intro w hSw; (try dsimp only at hSw); go_simp; (first | done | with_reducible rfl))
      try simp only [Act.put, List.setIfInBounds_toArray, List.set_cons_zero, List.set_cons_succ]
      refine take1 (i := 3) (v := ?v4) (some 25) rfl rfl (by kernel_rfl) (by kernel_rfl) (by kernel_rfl) (fun _ _ _ h => h) (Or.inl ⟨by rfl, ?y4⟩) (by assumption) ?r4
      case y4 => (intro w hSw; (try dsimp only at hSw); go_simp; (first | done | with_reducible rfl))
      try simp only [Act.put, List.setIfInBounds_toArray, List.set_cons_zero, List.set_cons_succ]
      refine take1 (i := 4) (v := ?v5) (some 26) rfl rfl (by kernel_rfl) (by kernel_rfl) (by kernel_rfl) (fun _ _ _ h => h) (Or.inl ⟨by rfl, ?y5⟩) (by assumption) ?r5
      case y5 => (intro w hSw; (try dsimp only at hSw); go_simp; (first | done | with_reducible rfl))
      try simp only [Act.put, List.setIfInBounds_toArray, List.set_cons_zero, List.set_cons_succ]
      refine take1 (i := 5) (v := ?v6) (some 27) rfl rfl (by kernel_rfl) (by kernel_rfl) (by kernel_rfl) (fun _ _ _ h => h) (Or.inl ⟨by rfl, ?y6⟩) (by assumption) ?r6
      case y6 => (intro w hSw; (try dsimp only at hSw); go_simp; (first | done | with_reducible rfl))
      try simp only [Act.put, List.setIfInBounds_toArray, List.set_cons_zero, List.set_cons_succ]
      refine take1 (i := 7) (v := ?v7) (some 29) rfl rfl (by kernel_rfl) (by kernel_rfl) (by kernel_rfl) (fun _ _ _ h => h) (Or.inl ⟨by rfl, ?y7⟩) (by assumption) ?r7
      case y7 => (intro w hSw; (try dsimp only at hSw); go_simp; (first | done | with_reducible rfl))
      try simp only [Act.put, List.setIfInBounds_toArray, List.set_cons_zero, List.set_cons_succ]
      refine take1 (i := 8) (v := ?v8) (some 30) rfl rfl (by kernel_rfl) (by kernel_rfl) (by kernel_rfl) (fun _ _ _ h => h) (Or.inl ⟨by rfl, ?y8⟩) (by assumption) ?r8
      case y8 => (intro w hSw; (try dsimp only at hSw); go_simp; (first | done | with_reducible rfl))
      try simp only [Act.put, List.setIfInBounds_toArray, List.set_cons_zero, List.set_cons_succ]
      refine wpAnyH_ready (rs := [6, 9]) (by kernel_rfl) (by simp) ?_
      refine AllReadyH.cons rfl (fun K hK => ?_) (AllReadyH.cons rfl (fun K hK => ?_) AllReadyH.nil)
      · go_simp
        refine hK.out _ _ (hHeld0) (fun hHeld => ?_)
        clear hK K
        try simp only [Act.put, List.setIfInBounds_toArray, List.set_cons_zero, List.set_cons_succ]
        refine wpAnyH_ready (rs := [9]) (by kernel_rfl) (by simp) ?_
        refine AllReadyH.cons rfl (fun K hK => ?_) AllReadyH.nil
        go_simp
        refine hK.out _ _ (⟨((Below.refl wd.heap.size wd).alloc (Nat.le_refl _) (.cells #[.int .i64 ps[k].id] 3)).cell (p := ⟨wr.heap.size, 0, none⟩) HXD.out |>.trans hHeld0.1, ((Below.refl wd.heap.size wd).alloc (Nat.le_refl _) (.cells #[.int .i64 ps[k].id] 3)).cell (p := ⟨wr.heap.size, 1, none⟩) HXD.out |>.trans hHeld0.2⟩) (fun hHeld => ?_)
        clear hK K
        try simp only [Act.put, List.setIfInBounds_toArray, List.set_cons_zero, List.set_cons_succ]
        have HMA := Lib.hid (HMD.out.kept (World.grownBy_alloc wd (.cells #[.int .i64 ps[k].id] 3) none) (by simp))
        refine wpAnyH_ready (rs := [10]) (by kernel_rfl) (by simp) ?_
        refine AllReadyH.cons rfl (fun K hK => ?_) AllReadyH.nil
        refine step_append_lies _ (by rfl) _ _ _ (by rfl) (w2.heap.size + 1) 3 i0 (.int .i64 0) 1 8 Try.underlying27 hi hz0 hz1 hz2 rfl (by omega) _ L (flatC inC (idsN (nmB ps[k].name) (ps.take k))) (by rfl) (HOW.out.alloc _) ⟨wd.heap.size, 0, none⟩ 1 1 [.int .i64 ps[k].id] (by rfl) rfl (one_new _ _ _) (by intro u hu; rw [List.mem_singleton.1 hu]; rfl) (by omega) (by unfold maxLen; omega) (by omega) (by have := HZD.out; simp; omega) (wd.heap.size + 1) (by simp) ?_
        intro g cap w5 hown5 hgrow5 hat5 hlt5
        have hbk : ∀ q, (f (nmB ps[k].name)).ownBlock = some q → w2.heap.size + 1 ≤ q := fun q hq => ((HGD.out.own (nmB ps[k].name)).lt q hq).1
        rw [← HFF.out] at hgrow5 hat5
        have HM5 := Lib.hid (HMA.out.kept hgrow5 (fun e => by have := hbk _ e.symm; omega))
        have HG5 := Lib.hid (HGD.out.step hlt ((Below.refl _ _).alloc (Nat.le_refl _) _) (by rw [HLL.out]; exact hown5) hgrow5 (by rcases hat5 with h | h; (· exact .inl h.symm); exact .inr (by simp [Value.ownBlock, h])))
        have HB5 : Hid (Below w.heap.size w w5) := Lib.hid ((HBD.out.alloc HBD.out.size _).grown hgrow5 (by have := HBD.out.size; simp; omega) (fun q hq => by have h1 := hbk q hq; have h2 := HB.out.size; omega))
        have HZ5 : Hid (w2.heap.size + 1 ≤ w5.heap.size) := Lib.hid (Nat.le_trans HZD.out (Nat.le_trans (by simp) hgrow5.size))
        have d0 : w5.cell? ⟨wr.heap.size, 0, none⟩ = some (.int .i64 ps[k].id) := hgrow5.cell (v := .int .i64 ps[k].id) (by rw [(Below.refl wd.heap.size wd |>.alloc (Nat.le_refl _) (.cells #[.int .i64 ps[k].id] 3)).cell (p := ⟨wr.heap.size, 0, none⟩) HXD.out]; exact hHeld0.1) (fun e => HXN.out _ e.symm rfl)
        have d1 : w5.cell? ⟨wr.heap.size, 1, none⟩ = some (.string ps[k].name) := hgrow5.cell (v := .string ps[k].name) (by rw [(Below.refl wd.heap.size wd |>.alloc (Nat.le_refl _) (.cells #[.int .i64 ps[k].id] 3)).cell (p := ⟨wr.heap.size, 1, none⟩) HXD.out]; exact hHeld0.2) (fun e => HXN.out _ e.symm rfl)
        have hx5 : wr.heap.size < w5.heap.size := cell_lt d0
        refine hK.out _ _ (⟨d0, d1⟩) (fun hHeld => ?_)
        clear hK K
        try simp only [Act.put, List.setIfInBounds_toArray]
        obtain ⟨D, hD1, hD2⟩ := HM5.out
        have hDM : IsMap D := by obtain ⟨es, clock, _, _, _, e⟩ := hD1; exact ⟨_, e⟩
        obtain ⟨w6, hrun, hown6, hgrow6⟩ := hD1.update strK Try.underlying71 (by unfold maxLen; omega) (key := .string ps[k].name) (val := .slice (some ⟨g, 0, none⟩) (L + 1) cap) (Go.WideMaps.keyOf_string_mk Try.underlying9 HNS.out) (d := .held (.slice (some ⟨g, 0, none⟩) (L + 1) cap)) (ps := []) rfl
        have HM6 := Lib.hid (GMap.put hown6 hDM hD2)
        have HG6 := Lib.hid (HG5.out.kept hgrow6 (fun q e => by injection e with e; omega))
        have HB6 : Hid (Below w.heap.size w w6) := Lib.hid (HB5.out.grown hgrow6 HB5.out.size (fun q hq => by injection hq with hq; have := HB.out.size; omega))
        have HZ6 : Hid (w2.heap.size + 1 ≤ w6.heap.size) := Lib.hid (Nat.le_trans HZ5.out hgrow6.size)
        have e0 : w6.cell? ⟨wr.heap.size, 0, none⟩ = some (.int .i64 ps[k].id) := hgrow6.cell d0 (fun e => by injection e with e; have h1 : wr.heap.size = w2.heap.size := e; have := HSZ.out; omega)
        have e1 : w6.cell? ⟨wr.heap.size, 1, none⟩ = some (.string ps[k].name) := hgrow6.cell d1 (fun e => by injection e with e; have h1 : wr.heap.size = w2.heap.size := e; have := HSZ.out; omega)
        clear hD1 hD2 hDM hown6 hown5 hgrow5 hat5 hlt5 hbk hgrow6
        refine wpAnyH_ready (rs := [11]) (by kernel_rfl) (by simp) ?_
        refine AllReadyH.cons rfl (fun K hK => ?_) AllReadyH.nil
        go_simp
        refine hK.out _ _ (⟨e0, e1⟩) (fun hHeld => ?_)
        clear hK K
        try simp only [Act.put]
        refine wpAnyH_done (by kernel_rfl) ?_ _
        clear d0 d1 e0 e1 hrun
        go_wp2_with fail
        go_roundw
        case rel => exact ⟨k + 1, _, by omega, by go_num, HM6, HG6, HB6.out, HZ6.out⟩
        case measure => simp [intOf]; omega
      · go_simp
        refine hK.out _ _ (⟨((Below.refl wd.heap.size wd).alloc (Nat.le_refl _) (.cells #[.int .i64 ps[k].id] 3)).cell (p := ⟨wr.heap.size, 0, none⟩) HXD.out |>.trans hHeld0.1, ((Below.refl wd.heap.size wd).alloc (Nat.le_refl _) (.cells #[.int .i64 ps[k].id] 3)).cell (p := ⟨wr.heap.size, 1, none⟩) HXD.out |>.trans hHeld0.2⟩) (fun hHeld => ?_)
        clear hK K
        try simp only [Act.put, List.setIfInBounds_toArray, List.set_cons_zero, List.set_cons_succ]
        refine wpAnyH_ready (rs := [6]) (by kernel_rfl) (by simp) ?_
        refine AllReadyH.cons rfl (fun K hK => ?_) AllReadyH.nil
        go_simp
        refine hK.out _ _ (⟨((Below.refl wd.heap.size wd).alloc (Nat.le_refl _) (.cells #[.int .i64 ps[k].id] 3)).cell (p := ⟨wr.heap.size, 0, none⟩) HXD.out |>.trans hHeld0.1, ((Below.refl wd.heap.size wd).alloc (Nat.le_refl _) (.cells #[.int .i64 ps[k].id] 3)).cell (p := ⟨wr.heap.size, 1, none⟩) HXD.out |>.trans hHeld0.2⟩) (fun hHeld => ?_)
        clear hK K
        try simp only [Act.put, List.setIfInBounds_toArray, List.set_cons_zero, List.set_cons_succ]
        have HMA := Lib.hid (HMD.out.kept (World.grownBy_alloc wd (.cells #[.int .i64 ps[k].id] 3) none) (by simp))
        refine wpAnyH_ready (rs := [10]) (by kernel_rfl) (by simp) ?_
        refine AllReadyH.cons rfl (fun K hK => ?_) AllReadyH.nil
        refine step_append_lies _ (by rfl) _ _ _ (by rfl) (w2.heap.size + 1) 3 i0 (.int .i64 0) 1 8 Try.underlying27 hi hz0 hz1 hz2 rfl (by omega) _ L (flatC inC (idsN (nmB ps[k].name) (ps.take k))) (by rfl) (HOW.out.alloc _) ⟨wd.heap.size, 0, none⟩ 1 1 [.int .i64 ps[k].id] (by rfl) rfl (one_new _ _ _) (by intro u hu; rw [List.mem_singleton.1 hu]; rfl) (by omega) (by unfold maxLen; omega) (by omega) (by have := HZD.out; simp; omega) (wd.heap.size + 1) (by simp) ?_
        intro g cap w5 hown5 hgrow5 hat5 hlt5
        have hbk : ∀ q, (f (nmB ps[k].name)).ownBlock = some q → w2.heap.size + 1 ≤ q := fun q hq => ((HGD.out.own (nmB ps[k].name)).lt q hq).1
        rw [← HFF.out] at hgrow5 hat5
        have HM5 := Lib.hid (HMA.out.kept hgrow5 (fun e => by have := hbk _ e.symm; omega))
        have HG5 := Lib.hid (HGD.out.step hlt ((Below.refl _ _).alloc (Nat.le_refl _) _) (by rw [HLL.out]; exact hown5) hgrow5 (by rcases hat5 with h | h; (· exact .inl h.symm); exact .inr (by simp [Value.ownBlock, h])))
        have HB5 : Hid (Below w.heap.size w w5) := Lib.hid ((HBD.out.alloc HBD.out.size _).grown hgrow5 (by have := HBD.out.size; simp; omega) (fun q hq => by have h1 := hbk q hq; have h2 := HB.out.size; omega))
        have HZ5 : Hid (w2.heap.size + 1 ≤ w5.heap.size) := Lib.hid (Nat.le_trans HZD.out (Nat.le_trans (by simp) hgrow5.size))
        have d0 : w5.cell? ⟨wr.heap.size, 0, none⟩ = some (.int .i64 ps[k].id) := hgrow5.cell (v := .int .i64 ps[k].id) (by rw [(Below.refl wd.heap.size wd |>.alloc (Nat.le_refl _) (.cells #[.int .i64 ps[k].id] 3)).cell (p := ⟨wr.heap.size, 0, none⟩) HXD.out]; exact hHeld0.1) (fun e => HXN.out _ e.symm rfl)
        have d1 : w5.cell? ⟨wr.heap.size, 1, none⟩ = some (.string ps[k].name) := hgrow5.cell (v := .string ps[k].name) (by rw [(Below.refl wd.heap.size wd |>.alloc (Nat.le_refl _) (.cells #[.int .i64 ps[k].id] 3)).cell (p := ⟨wr.heap.size, 1, none⟩) HXD.out]; exact hHeld0.2) (fun e => HXN.out _ e.symm rfl)
        have hx5 : wr.heap.size < w5.heap.size := cell_lt d0
        refine hK.out _ _ (⟨d0, d1⟩) (fun hHeld => ?_)
        clear hK K
        try simp only [Act.put, List.setIfInBounds_toArray]
        obtain ⟨D, hD1, hD2⟩ := HM5.out
        have hDM : IsMap D := by obtain ⟨es, clock, _, _, _, e⟩ := hD1; exact ⟨_, e⟩
        obtain ⟨w6, hrun, hown6, hgrow6⟩ := hD1.update strK Try.underlying71 (by unfold maxLen; omega) (key := .string ps[k].name) (val := .slice (some ⟨g, 0, none⟩) (L + 1) cap) (Go.WideMaps.keyOf_string_mk Try.underlying9 HNS.out) (d := .held (.slice (some ⟨g, 0, none⟩) (L + 1) cap)) (ps := []) rfl
        have HM6 := Lib.hid (GMap.put hown6 hDM hD2)
        have HG6 := Lib.hid (HG5.out.kept hgrow6 (fun q e => by injection e with e; omega))
        have HB6 : Hid (Below w.heap.size w w6) := Lib.hid (HB5.out.grown hgrow6 HB5.out.size (fun q hq => by injection hq with hq; have := HB.out.size; omega))
        have HZ6 : Hid (w2.heap.size + 1 ≤ w6.heap.size) := Lib.hid (Nat.le_trans HZ5.out hgrow6.size)
        have e0 : w6.cell? ⟨wr.heap.size, 0, none⟩ = some (.int .i64 ps[k].id) := hgrow6.cell d0 (fun e => by injection e with e; have h1 : wr.heap.size = w2.heap.size := e; have := HSZ.out; omega)
        have e1 : w6.cell? ⟨wr.heap.size, 1, none⟩ = some (.string ps[k].name) := hgrow6.cell d1 (fun e => by injection e with e; have h1 : wr.heap.size = w2.heap.size := e; have := HSZ.out; omega)
        clear hD1 hD2 hDM hown6 hown5 hgrow5 hat5 hlt5 hbk hgrow6
        refine wpAnyH_ready (rs := [11]) (by kernel_rfl) (by simp) ?_
        refine AllReadyH.cons rfl (fun K hK => ?_) AllReadyH.nil
        go_simp
        refine hK.out _ _ (⟨e0, e1⟩) (fun hHeld => ?_)
        clear hK K
        try simp only [Act.put]
        refine wpAnyH_done (by kernel_rfl) ?_ _
        clear d0 d1 e0 e1 hrun
        go_wp2_with fail
        go_roundw
        case rel => exact ⟨k + 1, _, by omega, by go_num, HM6, HG6, HB6.out, HZ6.out⟩
        case measure => simp [intOf]; omega
    · have HGE : Hid (Grp (w2.heap.size + 1) wr f ps) := Lib.hid (by have := HG.out; rwa [List.take_of_length_le (by omega)] at this)
      rename World => wo
      clear hb
      go_wp2_with fail
      have HO7 := Lib.hid (World.ownsRow_made (base := wo.heap.size) (e := 27) (size := 1) wo #[] 0 (Nat.le_refl _) (Nat.zero_le _) (by simp))
      go_loopw [7, 37] (fun out i wi => ∃ j : Nat, j ≤ ps.length ∧ i = .int .i64 j ∧ wi.ownsRow wo.heap.size 27 1 out (lsN ps j).length ((lsN ps j).map f) ∧ Below wo.heap.size wo wi) (fun _ i _ => ps.length - (intOf i).toNat)
      case atStart => exact ⟨0, Nat.zero_le _, rfl, HO7.out, (Below.refl _ _).alloc (Nat.le_refl _) _⟩
      case round =>
        obtain ⟨j, hj, rfl, hown, hbi⟩ := hrel
        rename World => wi
        have HBI := Lib.hid hbi
        have HOI := Lib.hid hown
        have HBW : Hid (Below w.heap.size w wi) := Lib.hid (HB2.out.trans (hbi.mono HB2.out.size))
        obtain ⟨da, dc, hfm⟩ := own_form hown
        subst hfm
        by_cases hjl : j < ps.length
        · have y1 : (0 : Int) ≤ (j : Int) := by omega
          have y2 : (j : Int) < (ps.length : Int) := by omega
          obtain ⟨b1, o1, rfl, l1, k1⟩ := R1.out _ HBW.out j hjl
          have p0 : wi.cell? ⟨b1, o1 + j * 5, none⟩ = some (.int .i64 ps[j].id) := k1 0 (by omega)
          have p1 : wi.cell? ⟨b1, o1 + j * 5 + 1, none⟩ = some (.string ps[j].name) := k1 1 (by omega)
          have p2 : wi.cell? ⟨b1, o1 + j * 5 + 2, none⟩ = some (.int .i64 ps[j].born) := k1 2 (by omega)
          have p3 : wi.cell? ⟨b1, o1 + j * 5 + 3, none⟩ = some (.int .i64 ps[j].cls) := k1 3 (by omega)
          have p4 : wi.cell? ⟨b1, o1 + j * 5 + 4, none⟩ = some (.int .i64 ps[j].lvl) := k1 4 (by omega)
          have HNS : Hid (ps[j].name.size ≤ maxLen) := Lib.hid (HS.out _ (List.getElem_mem hjl))
          have hxb : Below wi.heap.size wi (wi.alloc (.cells #[.int .i64 ps[j].id, .string ps[j].name, .int .i64 ps[j].born, .int .i64 ps[j].cls, .int .i64 ps[j].lvl] 38)) := (Below.refl _ _).alloc (Nat.le_refl _) _
          have HB4 : Hid (Below wo.heap.size wo (wi.alloc (.cells #[.int .i64 ps[j].id, .string ps[j].name, .int .i64 ps[j].born, .int .i64 ps[j].cls, .int .i64 ps[j].lvl] 38))) := Lib.hid (HBI.out.trans (hxb.mono HBI.out.size))
          have HO4 := Lib.hid (own_below HOI.out hxb)
          have hlk : (Instr.lookup 71 (.map (some w2.heap.size)) (.string ps[j].name) false).run Try.prog (wi.alloc (.cells #[.int .i64 ps[j].id, .string ps[j].name, .int .i64 ps[j].born, .int .i64 ps[j].cls, .int .i64 ps[j].lvl] 38)) = .ok (f (nmB ps[j].name)) _ := GMap.look (HM.out.below HB4.out HM.out.lt) (Try.zeroInts _) ps[j].name HNS.out
          have hG4 := (HGE.out.next HB4.out).own (nmB ps[j].name)
          have hSN := sameOf_idsN ps ps[j]
          rw [← hSN] at hG4
          obtain ⟨fa, fc, hff⟩ := own_form hG4
          rw [hff] at hlk hG4
          have HFF := Lib.hid hff
          have HG4 := Lib.hid hG4
          have hlen2 := sameOf_len ps ps[j]
          have hlsl := lsN_len ps j
          clear k1 hbi hown hff hG4 hSN hxb
          by_cases hc : 1 < (sameOf ps ps[j]).length ∧ (sameOf ps ps[j]).getD 0 0 = ps[j].id
          · have HLY := Lib.hid (lsN_yes ps j hjl hc)
            generalize sameOf ps ps[j] = S at HG4 HFF hlk hlen2 hc
            obtain ⟨h1, h2⟩ := hc
            obtain ⟨gi, gc, hge⟩ := own_some HG4.out (by omega)
            injection hge with hg1 hg2 hg3
            subst hg1
            have d0 := (HG4.out.cellAt 0 (by omega)).trans (flat_int0 S (by omega))
            rw [h2] at d0
            have hL1 : (1 : Int) < (S.length : Int) := by omega
            have hL0 : (0 : Int) < (S.length : Int) := by omega
            have hcc : (ps[j].id == ps[j].id) = true := by simp
            clear h2 hg2 hg3
            go_wp2_with fail
            go_quiet (fail)
            rename Nat => nq
            have hbq : Below (wi.alloc (.cells #[.int .i64 ps[j].id, .string ps[j].name, .int .i64 ps[j].born, .int .i64 ps[j].cls, .int .i64 ps[j].lvl] 38)).heap.size (wi.alloc (.cells #[.int .i64 ps[j].id, .string ps[j].name, .int .i64 ps[j].born, .int .i64 ps[j].cls, .int .i64 ps[j].lvl] 38)) ((wi.alloc (.cells #[.int .i64 ps[j].id, .string ps[j].name, .int .i64 ps[j].born, .int .i64 ps[j].cls, .int .i64 ps[j].lvl] 38)).drewN nq) := bl_drewN (Below.refl _ _) nq
            have HO5 := Lib.hid (own_below HO4.out hbq)
            have HB5 : Hid (Below wo.heap.size wo ((wi.alloc (.cells #[.int .i64 ps[j].id, .string ps[j].name, .int .i64 ps[j].born, .int .i64 ps[j].cls, .int .i64 ps[j].lvl] 38)).drewN nq)) := Lib.hid (HB4.out.trans (hbq.mono HB4.out.size))
            clear hbq
            clear d0 p0 p1 p2 p3 p4 hlk
            generalize (wi.alloc (.cells #[.int .i64 ps[j].id, .string ps[j].name, .int .i64 ps[j].born, .int .i64 ps[j].cls, .int .i64 ps[j].lvl] 38)).drewN nq = wj at HO5 HB5 ⊢
            go_wp2_with (at_builtin; refine wpList_append_own _ rfl _ _ 46 rfl wo.heap.size 27 i1 (.slice none 0 0) 1 24 Try.underlying46 ii iz0 iz1 iz2 rfl (by decide) _ _ _ rfl (HO5.out.alloc _) ⟨wj.heap.size, 0, none⟩ 1 1 [.slice (some ⟨gi, 0, none⟩) S.length fc] rfl rfl ?d1 ?d2 ?d3 ?d4 ?d5 ?_)
            case d1 => exact one_new _ _ _
            case d2 => intro u hu; rw [List.mem_singleton.1 hu]; rfl
            case d3 => unfold maxLen; omega
            case d4 => omega
            case d5 => have := HB5.out.size; simp; omega
            intro v6 w6 hown6 hgrow6 _
            have HO6 := Lib.hid hown6
            have HB6 : Hid (Below wo.heap.size wo w6) := Lib.hid ((HB5.out.alloc HB5.out.size _).grown hgrow6 (by have := HB5.out.size; simp; omega) (fun q hq => (HO5.out.lt q hq).1))
            clear hown6 hgrow6
            go_wp2_with fail
            go_roundw
            case rel =>
              refine ⟨j + 1, by omega, by go_num, ?_, HB6.out⟩
              rw [HLY.out, List.map_append, List.length_append]
              show World.ownsRow w6 wo.heap.size 27 1 v6 ((lsN ps j).length + 1) ((lsN ps j).map f ++ [f (nmB ps[j].name)])
              rw [HFF.out]
              exact HO6.out
            case measure => simp [intOf]; omega
          · have HLN := Lib.hid (lsN_no ps j hjl hc)
            generalize sameOf ps ps[j] = S at HG4 HFF hlk hlen2 hc
            by_cases h1 : 1 < S.length
            · obtain ⟨gi, gc, hge⟩ := own_some HG4.out (by omega)
              injection hge with hg1 hg2 hg3
              subst hg1
              have d0 := (HG4.out.cellAt 0 (by omega)).trans (flat_int0 S (by omega))
              have hcc : (S.getD 0 0 == ps[j].id) = false := by rw [beq_eq_false_iff_ne]; exact fun e => hc ⟨h1, e⟩
              have hL1 : (1 : Int) < (S.length : Int) := by omega
              have hL0 : (0 : Int) < (S.length : Int) := by omega
              clear hc hg2 hg3
              generalize S.getD 0 0 = x0 at d0 hcc
              go_wp2_with fail
              go_quiet (fail)
              rename Nat => nq
              have hbq : Below (wi.alloc (.cells #[.int .i64 ps[j].id, .string ps[j].name, .int .i64 ps[j].born, .int .i64 ps[j].cls, .int .i64 ps[j].lvl] 38)).heap.size (wi.alloc (.cells #[.int .i64 ps[j].id, .string ps[j].name, .int .i64 ps[j].born, .int .i64 ps[j].cls, .int .i64 ps[j].lvl] 38)) ((wi.alloc (.cells #[.int .i64 ps[j].id, .string ps[j].name, .int .i64 ps[j].born, .int .i64 ps[j].cls, .int .i64 ps[j].lvl] 38)).drewN nq) := bl_drewN (Below.refl _ _) nq
              have HO5 := Lib.hid (own_below HO4.out hbq)
              have HB5 : Hid (Below wo.heap.size wo ((wi.alloc (.cells #[.int .i64 ps[j].id, .string ps[j].name, .int .i64 ps[j].born, .int .i64 ps[j].cls, .int .i64 ps[j].lvl] 38)).drewN nq)) := Lib.hid (HB4.out.trans (hbq.mono HB4.out.size))
              clear hbq
              go_wp2_with fail
              go_roundw
              case rel => exact ⟨j + 1, by omega, by go_num, by rw [HLN.out]; exact HO5.out, HB5.out⟩
              case measure => simp [intOf]; omega
            · have hL1 : ¬ (1 : Int) < (S.length : Int) := by omega
              have hLd : decide ((1 : Int) < (S.length : Int)) = false := decide_eq_false hL1
              clear hc h1
              go_wp2_with fail
              go_quiet (fail)
              rename Nat => nq
              have hbq : Below (wi.alloc (.cells #[.int .i64 ps[j].id, .string ps[j].name, .int .i64 ps[j].born, .int .i64 ps[j].cls, .int .i64 ps[j].lvl] 38)).heap.size (wi.alloc (.cells #[.int .i64 ps[j].id, .string ps[j].name, .int .i64 ps[j].born, .int .i64 ps[j].cls, .int .i64 ps[j].lvl] 38)) ((wi.alloc (.cells #[.int .i64 ps[j].id, .string ps[j].name, .int .i64 ps[j].born, .int .i64 ps[j].cls, .int .i64 ps[j].lvl] 38)).drewN nq) := bl_drewN (Below.refl _ _) nq
              have HO5 := Lib.hid (own_below HO4.out hbq)
              have HB5 : Hid (Below wo.heap.size wo ((wi.alloc (.cells #[.int .i64 ps[j].id, .string ps[j].name, .int .i64 ps[j].born, .int .i64 ps[j].cls, .int .i64 ps[j].lvl] 38)).drewN nq)) := Lib.hid (HB4.out.trans (hbq.mono HB4.out.size))
              clear hbq
              go_wp2_with fail
              go_roundw
              case rel => exact ⟨j + 1, by omega, by go_num, by rw [HLN.out]; exact HO5.out, HB5.out⟩
              case measure => simp [intOf]; omega
        · obtain rfl : j = ps.length := by omega
          have HFIN := Lib.hid (own_names HOK.out (HGE.out.next hbi) HOI.out HSZ.out HBI.out.size (fun l g hg => ((HGE.out.own l).lt g hg).2))
          clear hbi hown
          go_wp2_with fail
          go_ret2
          exact ⟨⟨_, _, rfl, HFIN.out.relo (by have := HB.out.size; omega)⟩, HBW.out⟩
end Go.Proofs.Ytlhcediejccieaa
