/-
  Ours: the journal's store: calls through the interface; lay, cut, renew, other.
-/
import Derived.Test.YtcmfehabcklbpaaDoorJouNum
import Derived.WalkMore
namespace Go.Proofs.YtcmfehabcklbpaaDoor
open Go.RowKit

/-- The disk at R, as the journal holds it. -/
abbrev stV (R : Nat) : Value := .iface 25 (.pointer (some ⟨R, 0, none⟩))
theorem meth_append (R : Nat) (w : World) : (method 238 25 (.pointer (some ⟨R, 0, none⟩)) "Append").run Tryd.prog w = .ok (77, .pointer (some ⟨R, 0, none⟩)) w := by kernel_rfl
theorem meth_sync (R : Nat) (w : World) : (method 238 25 (.pointer (some ⟨R, 0, none⟩)) "Sync").run Tryd.prog w = .ok (79, .pointer (some ⟨R, 0, none⟩)) w := by kernel_rfl
theorem meth_trunc (R : Nat) (w : World) : (method 238 25 (.pointer (some ⟨R, 0, none⟩)) "Truncate").run Tryd.prog w = .ok (80, .pointer (some ⟨R, 0, none⟩)) w := by kernel_rfl
theorem meth_read (R : Nat) (w : World) : (method 238 25 (.pointer (some ⟨R, 0, none⟩)) "Read").run Tryd.prog w = .ok (78, .pointer (some ⟨R, 0, none⟩)) w := by kernel_rfl

/-! What the journal does to a disk. -/
def Dk.lay (t : Dk) (n : Int) (f : List Nat) : Dk × Int := if (t.append n f).2 ≠ 0 then t.append n f else (t.append n f).1.sync n
def Dk.cut (t : Dk) (n : Int) (len size : Nat) : Dk × Int := if len = size then (t, 0) else t.trunc n size

/-- Two calls one behind the other. -/
theorem DkPost.trans {R : Nat} {S S1 : Nat → Prop} {w w1 w2 : World} {t2 : Dk} (h1 : ∀ g, S1 g → S g ∨ w.heap.size ≤ g) (k1 : Kp S w w1) (h2 : DkPost R S1 w1 t2 w2) : DkPost R S w t2 w2 := by
  obtain ⟨S2, d2, g2, k2⟩ := h2
  refine ⟨S2, d2, fun g hg => ?_, k1.trans k2 (fun g hg hs => ?_)⟩
  · rcases g2 g hg with h | h
    · exact h1 g h
    · exact .inr (Nat.le_trans k1.size h)
  · rcases h1 g hs with h | h
    · exact h
    · omega
theorem write_wr' (t : Dk) : t.write.1.wr = t.wr + 1 := by
  cases hq : t.q with
  | nil => rw [Dk.write_nil hq]
  | cons c q => rw [Dk.write_cons hq]; split <;> rfl
theorem put_wr (t : Dk) (n : Int) (b : List Nat) (d : Nat) : (t.put n b d).wr = t.wr := by unfold Dk.put; split <;> rfl
theorem append_wr (t : Dk) (n : Int) (f : List Nat) : t.wr ≤ (t.append n f).1.wr ∧ (t.append n f).1.wr ≤ t.wr + 1 := by
  unfold Dk.append
  split
  · show t.wr ≤ t.wr ∧ t.wr ≤ t.wr + 1; omega
  · split
    · show t.wr ≤ t.wr ∧ t.wr ≤ t.wr + 1; omega
    · rw [write_wr', put_wr]; exact ⟨by omega, by omega⟩
theorem sync_wr (t : Dk) (n : Int) : t.wr ≤ (t.sync n).1.wr ∧ (t.sync n).1.wr ≤ t.wr + 1 := by
  unfold Dk.sync
  split
  · show t.wr ≤ t.wr ∧ t.wr ≤ t.wr + 1; omega
  · split
    · rw [write_wr']; exact ⟨by omega, by omega⟩
    · rw [put_wr, write_wr']; exact ⟨by omega, by omega⟩
theorem trunc_wr (t : Dk) (n k : Int) : t.wr ≤ (t.trunc n k).1.wr ∧ (t.trunc n k).1.wr ≤ t.wr + 1 := by
  unfold Dk.trunc
  split
  · show t.wr ≤ t.wr ∧ t.wr ≤ t.wr + 1; omega
  · split
    · show t.wr ≤ t.wr ∧ t.wr ≤ t.wr + 1; omega
    · split
      · rw [write_wr']; exact ⟨by omega, by omega⟩
      · rw [put_wr, write_wr']; exact ⟨by omega, by omega⟩
theorem lay_wr (t : Dk) (n : Int) (f : List Nat) : t.wr ≤ (t.lay n f).1.wr ∧ (t.lay n f).1.wr ≤ t.wr + 2 := by
  have h1 := append_wr t n f
  have h2 := sync_wr (t.append n f).1 n
  unfold Dk.lay
  split <;> omega
theorem cut_wr (t : Dk) (n : Int) (len size : Nat) : t.wr ≤ (t.cut n len size).1.wr ∧ (t.cut n len size).1.wr ≤ t.wr + 1 := by
  have h1 := trunc_wr t n size
  unfold Dk.cut
  split
  · show t.wr ≤ t.wr ∧ t.wr ≤ t.wr + 1; omega
  · exact h1

theorem other_at (n : Int) (h0 : n = 0 ∨ n = 1) (w : World) : Calls Tryd.prog 38 #[.int .i64 n] w fun e w' => e = .returned (.int .i64 (1 - n)) ∧ w' = w := by
  have n0 : 0 ≤ n := by omega
  have n1 : n ≤ 1 := by omega
  clear h0
  go_enter Tryd.func38, Tryd.ntmps38
  go_wp2_with fail
  go_ret
  exact ⟨rfl, rfl⟩

set_option maxRecDepth 40000 in
set_option maxHeartbeats 1000000 in
theorem lay_at (R : Nat) (S : Nat → Prop) (t : Dk) (w : World) (n : Int) (ds : List Nat) (ad : Option Addr) (m cd : Nat) (hw : 0 ≤ t.wr ∧ t.wr < 2305843009213693952) (h : DkAt R S t w) (hd : RdB w (.slice ad m cd) ds) (hl : ds.length ≤ 1000000000000) (hap : 0 < m → ∀ g, (Value.slice ad m cd).ownBlock = some g → ¬ S g) :
    Calls Tryd.prog 35 #[stV R, .int .i64 n, .slice ad m cd] w fun e w' => e = .returned (.int .i64 (t.lay n ds).2) ∧ DkPost R S w (t.lay n ds).1 w' := by
  have A1 : Hid (Calls Tryd.prog 77 #[.pointer (some ⟨R, 0, none⟩), .int .i64 n, .slice ad m cd] w fun e w' => e = .returned (.int .i64 (t.append n ds).2) ∧ DkPost R S w (t.append n ds).1 w') := append_at R S t w n ds ad m cd ⟨hw.1, by omega⟩ h hd hl hap
  have WR := append_wr t n ds
  have SY : Hid (∀ S1 w1, DkAt R S1 (t.append n ds).1 w1 → Calls Tryd.prog 79 #[.pointer (some ⟨R, 0, none⟩), .int .i64 n] w1 fun e w' => e = .returned (.int .i64 ((t.append n ds).1.sync n).2) ∧ DkPost R S1 w1 ((t.append n ds).1.sync n).1 w') := fun S1 w1 h1 => sync_at R S1 _ w1 n ⟨by omega, by omega⟩ h1
  have LV : Hid (t.lay n ds = if (t.append n ds).2 ≠ 0 then t.append n ds else (t.append n ds).1.sync n) := rfl
  clear h hd hl hap hw WR
  have ma := meth_append R
  have ms := meth_sync R
  generalize t.lay n ds = L at *
  generalize (t.append n ds).1.sync n = T2 at *
  generalize t.append n ds = T1 at *
  obtain ⟨t1, e1⟩ := T1
  obtain ⟨t2, e2⟩ := T2
  by_cases he : e1 = 0
  · obtain rfl : L = (t2, e2) := by rw [LV.out, if_neg (by simpa using he)]
    have d1 : (e1 != 0) = false := by rw [he]; rfl
    have HE : Hid (e1 = 0) := he
    clear he
    go_enter Tryd.func35, Tryd.ntmps35
    go_wp2_with fail
    refine A1.out.mono ?_
    rintro e w1 ⟨rfl, P1⟩
    obtain ⟨S1, D1, G1, K1⟩ := P1
    have C2 : Hid (Calls Tryd.prog 79 #[.pointer (some ⟨R, 0, none⟩), .int .i64 n] w1 fun e w' => e = .returned (.int .i64 e2) ∧ DkPost R S1 w1 t2 w') := SY.out S1 w1 D1
    have GG : Hid ((∀ g, S1 g → S g ∨ w.heap.size ≤ g) ∧ Kp S w w1) := ⟨G1, K1⟩
    clear D1 G1 K1
    go_wp2_with fail
    refine C2.out.mono ?_
    rintro e w2 ⟨rfl, P2⟩
    have PP : Hid (DkPost R S w t2 w2) := DkPost.trans GG.out.1 GG.out.2 P2
    clear P2
    go_wp2_with fail
    go_ret
    exact ⟨rfl, PP.out⟩
  · obtain rfl : L = (t1, e1) := by rw [LV.out, if_pos (by simpa using he)]
    have d1 : (e1 != 0) = true := bne_iff_ne.2 he
    clear he
    go_enter Tryd.func35, Tryd.ntmps35
    go_wp2_with fail
    refine A1.out.mono ?_
    rintro e w1 ⟨rfl, P1⟩
    have PP : Hid (DkPost R S w t1 w1) := P1
    clear P1
    go_wp2_with fail
    go_ret
    exact ⟨rfl, PP.out⟩

set_option maxRecDepth 40000 in
set_option maxHeartbeats 1000000 in
theorem jcut_at (R : Nat) (S : Nat → Prop) (t : Dk) (w : World) (n : Int) (ad : Option Addr) (len cd size : Nat) (hw : 0 ≤ t.wr ∧ t.wr < 2305843009213693952) (h : DkAt R S t w) :
    Calls Tryd.prog 44 #[stV R, .int .i64 n, .slice ad len cd, .int .i64 (size : Int)] w fun e w' => e = .returned (.int .i64 (t.cut n len size).2) ∧ DkPost R S w (t.cut n len size).1 w' := by
  have T1 : Hid (Calls Tryd.prog 80 #[.pointer (some ⟨R, 0, none⟩), .int .i64 n, .int .i64 (size : Int)] w fun e w' => e = .returned (.int .i64 (t.trunc n size).2) ∧ DkPost R S w (t.trunc n size).1 w') := trunc_at R S t w n size ⟨hw.1, by omega⟩ h
  have SM : Hid (DkPost R S w t w) := DkPost.same h
  have mt := meth_trunc R
  have CV : Hid (t.cut n len size = if len = size then (t, 0) else t.trunc n size) := rfl
  clear h
  generalize t.cut n len size = C at *
  by_cases he : len = size
  · obtain rfl : C = (t, 0) := by rw [CV.out, if_pos he]
    have d1 : ((len : Int) == (size : Int)) = true := by rw [he]; simp
    have HE : Hid (len = size) := he
    clear he
    go_enter Tryd.func44, Tryd.ntmps44
    go_wp2_with fail
    go_ret
    exact ⟨rfl, SM.out⟩
  · obtain rfl : C = t.trunc n size := by rw [CV.out, if_neg he]
    have d1 : ((len : Int) == (size : Int)) = false := beq_eq_false_iff_ne.2 (by omega)
    clear he
    generalize t.trunc n size = T at *
    go_enter Tryd.func44, Tryd.ntmps44
    go_wp2_with fail
    refine T1.out.mono ?_
    rintro e w1 ⟨rfl, P1⟩
    have PP : Hid (DkPost R S w T.1 w1) := P1
    clear P1
    go_wp2_with fail
    go_ret
    exact ⟨rfl, PP.out⟩
end Go.Proofs.YtcmfehabcklbpaaDoor
