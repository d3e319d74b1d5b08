/- Lessons as texts. -/
import Derived.Test.YtblbeoeklkcamaaDoorTls
import Derived.Test.YtblbeoeklkcamaaDoorNum
namespace Go.Proofs.YtblbeoeklkcamaaDoor
set_option linter.unusedVariables false
open Go.RowKit

def chE (x : Int) : UInt8 := UInt8.ofNat (48 + x.toNat)
theorem chE_nat (x : Int) (h0 : 0 ≤ x) (h1 : x ≤ 9) : ((chE x).toNat : Int) = 48 + x := by
  unfold chE
  rw [UInt8.toNat_ofNat']
  omega
def dayBL : List ByteArray := [⟨#[109, 111]⟩, ⟨#[116, 117]⟩, ⟨#[119, 101]⟩, ⟨#[116, 104]⟩, ⟨#[102, 114]⟩, ⟨#[115, 97]⟩, ⟨#[115, 117]⟩]
def dayB (j : Nat) : ByteArray := dayBL.getD j ⟨#[]⟩
def nmS (x : Int) : ByteArray := ⟨(Lib.itoa x).toArray⟩
theorem nmS_size (x : Int) (h0 : 0 ≤ x) (h1 : x ≤ 9999) : (nmS x).size ≤ 19 := by
  unfold nmS; rw [mk_size, itoa_small x h0]; exact dec_len _ (by omega)
theorem nmS_dig (x : Int) (h0 : 0 ≤ x) (h1 : x ≤ 9) : nmS x = ⟨#[chE x]⟩ := by
  unfold nmS
  rw [itoa_small x h0, dec_small _ (by omega)]
  rfl
/-- A minute of a day as a text. -/
def clS (m : Int) : ByteArray := nmS (m / 60) ++ ⟨#[58]⟩ ++ ⟨#[chE (m % 60 / 10)]⟩ ++ ⟨#[chE (m % 10)]⟩
theorem clS_size (m : Int) (h0 : 0 ≤ m) (h1 : m ≤ 9999) : (clS m).size ≤ 22 := by
  have := nmS_size (m / 60) (by omega) (by omega)
  have e (x : UInt8) : (⟨#[x]⟩ : ByteArray).size = 1 := rfl
  unfold clS
  simp only [ByteArray.size_append, e]
  omega
theorem clS_eq (m : Int) (a b : UInt8) (ha : a = chE (m % 60 / 10)) (hb : b = chE (m % 60 % 10)) : nmS (m / 60) ++ ⟨[58, a, b].toArray⟩ = clS m := by
  subst ha hb
  have h1 : m % 60 % 10 = m % 10 := by omega
  rw [h1]
  unfold clS
  generalize nmS (m / 60) = T
  rw [ByteArray.append_assoc, ByteArray.append_assoc]
  rfl
def clsS : ByteArray := ⟨#[99, 108, 97, 115, 115, 32]⟩
def romS : ByteArray := ⟨#[32, 114, 111, 111, 109, 32]⟩
def spS : ByteArray := ⟨#[32]⟩
def dsS : ByteArray := ⟨#[45]⟩
/-- A lesson as a text. -/
def txL (day : ByteArray) (c b e r : Int) : ByteArray := clsS ++ nmS c ++ spS ++ day ++ spS ++ clS b ++ dsS ++ clS e ++ romS ++ nmS r
theorem txL_eq (day : ByteArray) (c b e r : Int) : clsS ++ nmS c ++ spS ++ day ++ spS ++ (clS b ++ dsS ++ clS e) ++ romS ++ nmS r = txL day c b e r := by
  unfold txL
  simp only [ByteArray.append_assoc]
theorem day_size (j : Nat) : (dayB j).size ≤ 2 := by
  unfold dayB
  rcases j with _ | _ | _ | _ | _ | _ | _ | j <;> (simp [dayBL]; try decide)
end Go.Proofs.YtblbeoeklkcamaaDoor
