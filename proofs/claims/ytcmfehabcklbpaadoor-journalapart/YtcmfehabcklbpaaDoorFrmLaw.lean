/-
  Ours: the statements' helpers same, copied, roomy, turned.
-/
import Derived.Test.YtcmfehabcklbpaaDoorFrmSum
import Derived.Test.YtcmfehabcklbpaaDoorFrmOwn
import Derived.Deep.QuietTactic
import Derived.BigQuiet
namespace Go.Proofs.YtcmfehabcklbpaaDoor
open Go.RowKit

def marks5 : List Nat := [201, 202, 203, 204, 205]
def roomL (bs : List Nat) : List Nat := bs ++ marks5
theorem roomL_take (bs : List Nat) : (roomL bs).take bs.length = bs := by unfold roomL; simp
theorem roomL_len (bs : List Nat) : (roomL bs).length = bs.length + 5 := by simp [roomL, marks5]

/-- The byte in the middle is another one. -/
def turnL (rs : List Nat) (n : Nat) : List Nat := if 0 < n then rs.set (n / 2) ((rs.getD (n / 2) 0 + 85) % 256) else rs
theorem turnL_len (rs : List Nat) (n : Nat) : (turnL rs n).length = rs.length := by unfold turnL; split <;> simp
theorem turnL_lt {rs : List Nat} (h : ∀ b ∈ rs, b < 256) (n : Nat) : ∀ b ∈ turnL rs n, b < 256 := by
  intro b hb
  unfold turnL at hb
  split at hb
  · rcases List.mem_or_eq_of_mem_set hb with h1 | h1
    · exact h b h1
    · omega
  · exact h b hb

end Go.Proofs.YtcmfehabcklbpaaDoor
