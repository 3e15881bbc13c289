/-
  Ours: policy's Backoff, Bound, Window.
-/
import Derived.Test.YteppdlaoeoeplaaPolChk
namespace Go.Proofs.Yteppdlaoeoeplaa
open Go.RowKit LedM PolM

namespace PolM
def p2 : Nat → Int
  | 0 => 1
  | m + 1 => 2 * p2 m
theorem p2_pos : ∀ m, 1 ≤ p2 m
  | 0 => by decide
  | m + 1 => by have := p2_pos m; simp only [p2]; omega
theorem p2_mono {m n : Nat} (h : m ≤ n) : p2 m ≤ p2 n := by
  induction n with
  | zero => obtain rfl : m = 0 := by omega
            exact Int.le_refl _
  | succ n ih =>
    by_cases e : m = n + 1
    · subst e; exact Int.le_refl _
    · have := ih (by omega); have := p2_pos n; simp only [p2]; omega
/-- The wait behind the attempt of that number. -/
def bkN (b c : Int) (m : Nat) : Int := min (b * p2 (min m 7)) c
def bkV (b c att : Int) : Int := bkN b c (att - 1).toNat
theorem bk_end {b c : Int} {m n : Nat} (b0 : 1 ≤ b) (h : m ≤ n) (h7 : m ≤ 7) (hh : n ≤ m ∨ c ≤ b * p2 m) : min (b * p2 m) c = bkN b c n := by
  unfold bkN
  rcases hh with hh | hh
  · obtain rfl : m = n := by omega
    rw [Nat.min_eq_left h7]
  · have h1 : p2 m ≤ p2 (min n 7) := p2_mono (by omega)
    have h2 : b * p2 m ≤ b * p2 (min n 7) := Int.mul_le_mul_of_nonneg_left h1 (by omega)
    omega
theorem p2_small {b c : Int} {m : Nat} (b0 : 1 ≤ b) (c1 : c ≤ 64) (h : b * p2 m < c) : m ≤ 5 ∧ p2 m ≤ 63 := by
  have h3 : p2 m ≤ b * p2 m := by
    have := Int.mul_le_mul_of_nonneg_right b0 (by have := p2_pos m; omega : 0 ≤ p2 m)
    omega
  refine ⟨?_, by omega⟩
  rcases Nat.lt_or_ge 5 m with h5 | h5
  · have := p2_mono (show 6 ≤ m from h5)
    have : p2 6 = 64 := rfl
    omega
  · exact h5
end PolM

/-- What a policy that may be gives of its numbers. -/
structure Nums (l : List Int) : Prop where
  rate : 0 ≤ l.getD 4 0 ∧ l.getD 4 0 ≤ 10000
  least : 0 ≤ l.getD 5 0 ∧ l.getD 5 0 ≤ 1000000000
  most : l.getD 5 0 ≤ l.getD 6 0 ∧ l.getD 6 0 ≤ 1000000000
  cyc : 0 ≤ l.getD 7 0 ∧ l.getD 7 0 ≤ 1000000000
  life : 0 ≤ l.getD 8 0 ∧ l.getD 8 0 ≤ 1000000000
  off : 1 ≤ l.getD 3 0 ∧ l.getD 3 0 ≤ 365
  prom : 0 ≤ l.getD 9 0 ∧ l.getD 9 0 ≤ 8
  pday : 1 ≤ l.getD 10 0 ∧ l.getD 10 0 ≤ 60
  base : 1 ≤ l.getD 14 0 ∧ l.getD 14 0 ≤ 64
  cap : l.getD 14 0 ≤ l.getD 15 0 ∧ l.getD 15 0 ≤ 64
theorem nums {l hs : List Int} (h : good l hs = true) : Nums l :=
  ⟨good_fld h 4 (by omega), good_fld h 5 (by omega), good_fld h 6 (by omega), good_fld h 7 (by omega), good_fld h 8 (by omega), good_fld h 3 (by omega), good_fld h 9 (by omega), good_fld h 10 (by omega), good_fld h 14 (by omega), good_fld h 15 (by omega)⟩

set_option maxRecDepth 20000 in
set_option maxHeartbeats 4000000 in
theorem backoff_at (l hs : List Int) (s : Value) (w : World) (hl : l.length = 17) (hr : Rd w s (bkL hs)) (hb : hs.length ≤ 1152921504606846976) (att : Int) (ha : i64 att) : Calls Try.prog 47 #[PV l s, .int .i64 att] w fun e w' => e = .returned (.int .i64 (if good l hs then bkV (l.getD 14 0) (l.getD 15 0) att else 0)) ∧ Below w.heap.size w w' := by
  have MA : Hid (∀ w', Below w.heap.size w w' → Calls Try.prog 74 #[PV l s] w' fun e w'' => e = .returned (.bool (good l hs)) ∧ Below w'.heap.size w' w'') := fun w' hb' => maybe_at l hs s w' hl (hr.later hb') hb
  show Calls _ _ #[.agg (polL l s).toArray, _] _ _
  have BP : Hid (Blk w.heap.size 24 (polL l s) (w.alloc (.cells (polL l s).toArray 24))) := Blk.new _ _ _
  have BB : Hid (Below w.heap.size w (w.alloc (.cells (polL l s).toArray 24))) := below_alloc _ _
  have SZ : Hid ((Try.prog.info? 24).map (·.size) = some (polL l s).length) := by show _ = _; rw [polL_len hl]; exact sizeP
  have NU : Hid (good l hs = true → 1 ≤ l.getD 14 0 ∧ l.getD 14 0 ≤ l.getD 15 0 ∧ l.getD 15 0 ≤ 64) := fun h => by have := nums h; exact ⟨this.base.1, this.cap⟩
  have C : Hid (∀ w', Blk w.heap.size 24 (polL l s) w' → w'.cell? ⟨w.heap.size, 14, none⟩ = some (.int .i64 (l.getD 14 0)) ∧ w'.cell? ⟨w.heap.size, 15, none⟩ = some (.int .i64 (l.getD 15 0))) := fun w' h => ⟨h.cell 14 _ (polL_at hl 14 (by omega)), h.cell 15 _ (polL_at hl 15 (by omega))⟩
  clear hr hl hb
  generalize l.getD 14 0 = b at *
  generalize l.getD 15 0 = c at *
  generalize good l hs = g at *
  obtain ⟨a1, a2⟩ := ha
  cases g
  · go_enter Try.func47, Try.ntmps47
    go_wp2_with (refine step_load rfl 24 _ rfl w.heap.size 0 rfl (polL l s) _ (Blk.all BP.out) Try.underlying24 rfl SZ.out ?_)
    refine (MA.out _ BB.out).mono ?_
    rintro e w1 ⟨rfl, b1⟩
    have B1 : Hid (Below w.heap.size w w1) := below_trans BB.out b1
    clear b1
    go_wp2_with fail
    go_ret
    exact ⟨rfl, B1.out⟩
  · obtain ⟨n1, n2, n3⟩ := NU.out rfl
    obtain ⟨V, HV⟩ : ∃ V, Hid (bkV b c att = V) := ⟨_, rfl⟩
    rw [if_pos rfl, HV.out]
    go_enter Try.func47, Try.ntmps47
    go_wp2_with (refine step_load rfl 24 _ rfl w.heap.size 0 rfl (polL l s) _ (Blk.all BP.out) Try.underlying24 rfl SZ.out ?_)
    refine (MA.out _ BB.out).mono ?_
    rintro e w1 ⟨rfl, b1⟩
    have B1 : Hid (Below w.heap.size w w1) := below_trans BB.out b1
    obtain ⟨c14, c15⟩ := C.out w1 (BP.out.below b1)
    clear b1
    go_wp2_with fail
    go_loopw [5, 6] (fun vt vn wr => ∃ m : Nat, vn = .int .i64 ((m : Int) + 1) ∧ Hid (vt = .int .i64 (b * p2 m) ∧ m ≤ 7 ∧ (m = 0 ∨ (m : Int) + 1 ≤ att)) ∧ wr = w1) (fun _ vn _ => 8 - (intOf vn).toNat)
    case atStart => exact ⟨0, rfl, ⟨by simp [p2], by omega, .inl rfl⟩, rfl⟩
    case round =>
      obtain ⟨m, rfl, hm, rfl⟩ := hrel
      obtain ⟨rfl, m7, mo⟩ := hm.out
      have PP : Hid (p2 (m + 1) = 2 * p2 m) := rfl
      have EN : Hid ((att ≤ (m : Int) + 1 ∨ c ≤ b * p2 m) → min (b * p2 m) c = V) := fun h => by
        rw [← HV.out]
        exact bk_end n1 (by omega) m7 (by rcases h with h | h; exact .inl (by omega); exact .inr h)
      have SM : Hid (b * p2 m < c → m ≤ 5 ∧ p2 m ≤ 63) := p2_small n1 n3
      have AS : Hid (b * p2 (m + 1) = b * p2 m * 2) := by show _ = _; rw [PP.out, ← Int.mul_assoc, Int.mul_comm b 2, Int.mul_assoc, Int.mul_comm]
      have GE : Hid (1 ≤ b * p2 m) := by
        have := Int.mul_le_mul n1 (p2_pos m) (by omega) (by omega)
        show 1 ≤ _
        omega
      clear hm
      by_cases h1 : (m : Int) + 1 < att
      · by_cases h2 : b * p2 m < c
        · obtain ⟨s1, s2⟩ := SM.out h2
          have g1 := GE.out
          generalize hq : b * p2 m = q at *
          clear hq mo
          go_wp2_with fail
          go_roundw
          case rel => exact ⟨m + 1, by go_num, ⟨by rw [AS.out], by omega, .inr (by omega)⟩, trivial⟩
          case measure => simp [intOf]; omega
        · have g1 := GE.out
          have e := EN.out (.inr (by omega))
          generalize hq : b * p2 m = q at *
          have E : Hid (min q c = V) := e
          clear hq mo e
          go_wp2_with fail
          all_goals go_ret
          all_goals exact ⟨by rw [← E.out]; simp [Int.min_def]; try omega, B1.out⟩
      · have g1 := GE.out
        have e := EN.out (.inl (by omega))
        generalize hq : b * p2 m = q at *
        have E : Hid (min q c = V) := e
        clear hq mo e
        go_wp2_with fail
        all_goals go_ret
        all_goals exact ⟨by rw [← E.out]; simp [Int.min_def]; try omega, B1.out⟩
end Go.Proofs.Yteppdlaoeoeplaa
