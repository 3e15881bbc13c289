/-
  Ours: what a step does to a disk, as data.
-/
import Derived.Test.YtiefnomldfhhnaaDskSide
namespace Go.Proofs.Ytiefnomldfhhnaa

/-- A disk that is down holds durable bytes alone. -/
def Dk.Inv (t : Dk) : Prop := t.dn = true → t.d0 = t.b0.length ∧ t.d1 = t.b1.length
def Dk.sh (t : Dk) (n : Int) : Dk := { t with wr := t.wr + n }

theorem Dk.Ok.sh {t : Dk} (h : t.Ok) (n : Int) : (t.sh n).Ok := ⟨h.d0, h.l0, h.d1, h.l1, h.q, h.qe⟩
theorem down_inv {t : Dk} (h0 : t.d0 ≤ t.b0.length) (h1 : t.d1 ≤ t.b1.length) (k : Nat) : (t.down k).Inv := fun _ => by
  have e0 := left_le (keep := k) h0
  have e1 := left_le (keep := k) h1
  refine ⟨?_, ?_⟩
  · show left t.b0 t.d0 k = (t.b0.take (left t.b0 t.d0 k)).length; rw [List.length_take]; omega
  · show left t.b1 t.d1 k = (t.b1.take (left t.b1 t.d1 k)).length; rw [List.length_take]; omega
theorem write_sh (t : Dk) (n : Int) : (t.sh n).write = (t.write.1.sh n, t.write.2) := by
  cases hq : t.q with
  | nil =>
    rw [Dk.write_nil hq, Dk.write_nil (t := t.sh n) hq]
    simp only [Dk.sh, Prod.mk.injEq, Dk.mk.injEq, and_true, true_and]; omega
  | cons c q =>
    rw [Dk.write_cons hq, Dk.write_cons (t := t.sh n) hq]
    split
    · simp only [Dk.sh, Dk.tick, Prod.mk.injEq, Dk.mk.injEq, and_true, true_and]; omega
    · simp only [Dk.sh, Dk.tick, Dk.down, Dk.lose0, Dk.lose1, Prod.mk.injEq, Dk.mk.injEq, and_true, true_and]; omega
theorem write_wr (t : Dk) : t.write.1.wr = t.wr + 1 := by
  cases hq : t.q with
  | nil => rw [Dk.write_nil hq]
  | cons c q => rw [Dk.write_cons hq]; split <;> rfl
theorem write_inv {t : Dk} (h0 : t.d0 ≤ t.b0.length) (h1 : t.d1 ≤ t.b1.length) (hd : t.dn = false) : t.write.1.Inv := by
  cases hq : t.q with
  | nil => rw [Dk.write_nil hq]; intro h; rw [show ({ t with wr := t.wr + 1 } : Dk).dn = t.dn from rfl, hd] at h; cases h
  | cons c q =>
    rw [Dk.write_cons hq]; split
    · intro h; rw [show (t.tick c q).dn = t.dn from rfl, hd] at h; cases h
    · exact down_inv (t := t.tick c q) h0 h1 _
theorem write_up {t : Dk} (hd : t.dn = false) (h : t.write.2 = 0) : t.write.1.dn = false := by
  cases hq : t.q with
  | nil => rw [Dk.write_nil hq]; exact hd
  | cons c q =>
    rw [Dk.write_cons hq] at h ⊢
    split at h
    · rename_i hc; rw [if_pos hc]; exact hd
    · cases h
theorem no_up {t : Dk} {n : Int} (h : ¬ t.no n ≠ 0) : t.dn = false := by
  rcases t.no_cases n with h1 | h1 | h1
  · exact absurd h1 h
  · exact h1.2
  · exact h1.2
theorem put_dn (t : Dk) (n : Int) (b : List Nat) (d : Nat) : (t.put n b d).dn = t.dn ∧ (t.put n b d).wr = t.wr := by unfold Dk.put; split <;> exact ⟨rfl, rfl⟩
theorem put_sh (t : Dk) (n : Int) (b : List Nat) (d : Nat) (m : Int) : (t.sh m).put n b d = (t.put n b d).sh m := by unfold Dk.put; split <;> rfl

theorem append_inv {t : Dk} (ok : t.Ok) (h : t.Inv) (n : Int) (ds : List Nat) : (t.append n ds).1.Inv := by
  unfold Dk.append
  split
  · exact h
  · rename_i hn
    split
    · exact h
    · have hd := no_up hn
      have hp := put_dn t n (t.fb n ++ ds) (t.fd n)
      apply write_inv
      · unfold Dk.put Dk.fb Dk.fd; split
        · show t.d0 ≤ (t.b0 ++ ds).length; rw [List.length_append]; have := ok.d0; omega
        · exact ok.d0
      · unfold Dk.put Dk.fb Dk.fd; split
        · exact ok.d1
        · show t.d1 ≤ (t.b1 ++ ds).length; rw [List.length_append]; have := ok.d1; omega
      · rw [hp.1]; exact hd
theorem sync_inv {t : Dk} (ok : t.Ok) (h : t.Inv) (n : Int) : (t.sync n).1.Inv := by
  unfold Dk.sync
  split
  · exact h
  · rename_i hn
    have hd := no_up hn
    split
    · exact write_inv ok.d0 ok.d1 hd
    · rename_i hw
      intro hx
      rw [(put_dn _ _ _ _).1, write_up hd (by simpa using hw)] at hx; cases hx
theorem trunc_inv {t : Dk} (ok : t.Ok) (h : t.Inv) (n k : Int) : (t.trunc n k).1.Inv := by
  unfold Dk.trunc
  split
  · exact h
  · rename_i hn
    have hd := no_up hn
    split
    · exact h
    · split
      · exact write_inv ok.d0 ok.d1 hd
      · rename_i hw
        intro hx
        rw [(put_dn _ _ _ _).1, write_up hd (by simpa using hw)] at hx; cases hx
theorem arm_inv {t : Dk} (h : t.Inv) (a k : Int) : (t.arm a k).1.Inv := by
  unfold Dk.arm; split
  · exact h
  · split <;> exact h
theorem restart_inv {t : Dk} (h : t.Inv) : t.restart.1.Inv := by
  unfold Dk.restart; split
  · intro hx; cases hx
  · exact h
theorem done_inv {t : Dk} (ok : t.Ok) (h : t.Inv) (o : OpD) : (t.done o).1.Inv := by
  unfold Dk.done
  split
  · exact append_inv ok h _ _
  · split
    · exact sync_inv ok h _
    · split
      · exact trunc_inv ok h _ _
      · split
        · exact arm_inv h _ _
        · split
          · exact h
          · split
            · exact restart_inv h
            · exact h
theorem done_wr (t : Dk) (o : OpD) : t.wr ≤ (t.done o).1.wr ∧ (t.done o).1.wr ≤ t.wr + 1 := by
  have ww := write_wr t
  unfold Dk.done Dk.append Dk.sync Dk.trunc Dk.arm Dk.restart
  repeat' split
  all_goals first
    | (show t.wr ≤ t.wr ∧ t.wr ≤ t.wr + 1; omega)
    | (rw [write_wr, (put_dn _ _ _ _).2]; omega)
    | (rw [write_wr]; omega)
    | (rw [show (Dk.put t.write.1 _ _ _, (0 : Int)).1.wr = t.write.1.wr from (put_dn _ _ _ _).2, write_wr]; omega)
theorem fb_sh (t : Dk) (n : Int) (m : Int) : (t.sh m).fb n = t.fb n ∧ (t.sh m).fd n = t.fd n ∧ (t.sh m).no n = t.no n := ⟨rfl, rfl, rfl⟩
theorem append_sh (t : Dk) (n : Int) (ds : List Nat) (m : Int) : (t.sh m).append n ds = ((t.append n ds).1.sh m, (t.append n ds).2) := by
  unfold Dk.append
  rw [(fb_sh t n m).1, (fb_sh t n m).2.1, (fb_sh t n m).2.2]
  split
  · rfl
  · split
    · rfl
    · rw [put_sh, write_sh]
theorem sync_sh (t : Dk) (n : Int) (m : Int) : (t.sh m).sync n = ((t.sync n).1.sh m, (t.sync n).2) := by
  unfold Dk.sync
  rw [(fb_sh t n m).2.2, write_sh]
  split
  · rfl
  · simp only
    split
    · rfl
    · rw [put_sh, (fb_sh t.write.1 n m).1]
theorem trunc_sh (t : Dk) (n k : Int) (m : Int) : (t.sh m).trunc n k = ((t.trunc n k).1.sh m, (t.trunc n k).2) := by
  unfold Dk.trunc
  rw [(fb_sh t n m).2.2, (fb_sh t n m).1, write_sh]
  split
  · rfl
  · split
    · rfl
    · simp only
      split
      · rfl
      · rw [put_sh, (fb_sh t.write.1 n m).1]
theorem done_sh (t : Dk) (o : OpD) (m : Int) : (t.sh m).done o = ((t.done o).1.sh m, (t.done o).2) := by
  unfold Dk.done
  split
  · exact append_sh _ _ _ _
  · split
    · exact sync_sh _ _ _
    · split
      · exact trunc_sh _ _ _ _
      · split
        · unfold Dk.arm; rw [show (t.sh m).q = t.q from rfl]; split
          · rfl
          · split <;> rfl
        · split
          · rfl
          · split
            · unfold Dk.restart; rw [show (t.sh m).dn = t.dn from rfl]; split <;> rfl
            · rfl
end Go.Proofs.Ytiefnomldfhhnaa
