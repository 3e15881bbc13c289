/-
  Ours: slices.Index, Contains and IndexFunc over an array's nets.
-/
import Derived.Test.YthepahhidmihmaaBdM
import Derived.Test.YthepahhidmihmaaLedNet
namespace Go.Proofs.Ythepahhidmihmaa
open Go.RowKit LedM BdM

theorem sindex_at (l : List Int) (m : Int) (g : Nat) (w : World) (hl : l.length = 12) (hc : ∀ i, i < 12 → w.cell? ⟨g, i, none⟩ = some (.int .i64 (l.getD i 0))) :
    Calls Try.prog 15 #[.slice (some ⟨g, 0, none⟩) 12 12, .int .i64 m] w fun e w' => (∃ n : Int, e = .returned (.int .i64 n) ∧ decide (0 ≤ n) = l.contains m) ∧ w' = w := by
  obtain ⟨K, HK⟩ : ∃ K, Hid (l.contains m = K) := ⟨_, rfl⟩
  rw [HK.out]
  have HC : Hid (∀ i, i < 12 → w.cell? ⟨g, i, none⟩ = some (.int .i64 (l.getD i 0))) := hc
  have KT : Hid (∀ i, i < 12 → m = l.getD i 0 → K = true) := fun i hi e => by
    rw [← HK.out, List.contains_eq_mem, decide_eq_true_eq, e, List.getD_eq_getElem?_getD, List.getElem?_eq_getElem (by omega)]
    exact List.getElem_mem _
  have KF : Hid ((∀ j, j < 12 → m ≠ l.getD j 0) → K = false) := fun h => by
    rw [← HK.out, List.contains_eq_mem, decide_eq_false_iff_not]
    intro hm
    obtain ⟨j, hj, e⟩ := List.getElem_of_mem hm
    refine h j (by omega) ?_
    rw [List.getD_eq_getElem?_getD, List.getElem?_eq_getElem hj]; exact e.symm
  clear hc hl
  go_enter Try.func15, Try.ntmps15
  go_wp2
  go_loop [5, 8] (fun _ ii => ∃ k : Nat, k ≤ 12 ∧ ii = .int .i64 (k : Int) ∧ Hid (∀ j, j < k → m ≠ l.getD j 0)) (fun _ ii => 12 - (intOf ii).toNat)
  case atStart => exact ⟨0, by omega, rfl, fun j hj => by omega⟩
  case round =>
    obtain ⟨k, hk, rfl, NO⟩ := hrel
    by_cases hlt : (k : Int) < 12
    · have cx := HC.out k (by omega)
      have kt : Hid (m = l.getD k 0 → K = true) := KT.out k (by omega)
      have NX : Hid (m ≠ l.getD k 0 → ∀ j, j < k + 1 → m ≠ l.getD j 0) := fun h j hj => by
        by_cases e : j = k
        · subst e; exact h
        · exact NO.out j (by omega)
      generalize l.getD k 0 = x at *
      by_cases hx : m = x
      · have d : (m == x) = true := by simp [hx]
        obtain rfl : K = true := kt.out hx
        have d2 : decide (0 ≤ (k : Int)) = true := by simp
        clear hx
        go_wp2
        go_ret
        exact ⟨⟨_, rfl, by omega⟩, rfl⟩
      · have d : (m == x) = false := by simp [hx]
        have NY : Hid (∀ j, j < k + 1 → m ≠ l.getD j 0) := NX.out hx
        clear hx
        go_wp2
        go_round
        case rel => exact ⟨k + 1, by omega, by go_num, NY⟩
        case measure => simp [intOf]; omega
    · obtain rfl : k = 12 := by omega
      obtain rfl : K = false := KF.out NO.out
      go_wp2
      go_ret
      exact ⟨⟨_, rfl, by decide⟩, rfl⟩

theorem scont_at (l : List Int) (m : Int) (g : Nat) (w : World) (hl : l.length = 12) (hc : ∀ i, i < 12 → w.cell? ⟨g, i, none⟩ = some (.int .i64 (l.getD i 0))) :
    Calls Try.prog 9 #[.slice (some ⟨g, 0, none⟩) 12 12, .int .i64 m] w fun e w' => e = .returned (.bool (l.contains m)) ∧ w' = w := by
  have HI : Hid (∀ w', w' = w → Calls Try.prog 15 #[.slice (some ⟨g, 0, none⟩) 12 12, .int .i64 m] w' fun e w2 => (∃ n : Int, e = .returned (.int .i64 n) ∧ decide (0 ≤ n) = l.contains m) ∧ w2 = w) := fun w' e => by subst e; exact sindex_at l m g w' hl hc
  obtain ⟨K, HK⟩ : ∃ K, Hid (l.contains m = K) := ⟨_, rfl⟩
  rw [HK.out] at HI ⊢
  clear hc hl
  go_enter Try.func9, Try.ntmps9
  go_wp2_with fail
  refine (HI.out _ rfl).mono ?_
  rintro e w2 ⟨⟨n, rfl, hn⟩, rfl⟩
  go_wp2_with fail
  go_ret
  exact ⟨rfl, rfl⟩

theorem up_at (x : Int) (w : World) : Calls Try.prog 11 #[.int .i64 x] w fun e w' => e = .returned (.bool (decide (0 < x))) ∧ w' = w := by
  go_enter Try.func11, Try.ntmps11
  go_wp2
  go_ret
  exact ⟨rfl, rfl⟩
theorem dn_at (x : Int) (w : World) : Calls Try.prog 12 #[.int .i64 x] w fun e w' => e = .returned (.bool (decide (x < 0))) ∧ w' = w := by
  go_enter Try.func12, Try.ntmps12
  go_wp2
  go_ret
  exact ⟨rfl, rfl⟩

/-- The first account whose net is so: Q tells it; there is one. -/
theorem ifunc_at (F : FuncId) (Q : Int → Bool) (l : List Int) (p : Nat) (g : Nat) (w : World) (hF : ∀ x w, Calls Try.prog F #[.int .i64 x] w fun e w' => e = .returned (.bool (Q x)) ∧ w' = w)
    (hE : ∀ args w, (callFunc F args).run Try.prog w = .ok (.enter F args) w)
    (hp : p < 12) (hpt : Q (l.getD p 0) = true) (hpf : ∀ j, j < p → Q (l.getD j 0) = false) (hc : ∀ i, i < 12 → w.cell? ⟨g, i, none⟩ = some (.int .i64 (l.getD i 0))) :
    Calls Try.prog 10 #[.slice (some ⟨g, 0, none⟩) 12 12, .func (.func F) #[] #[]] w fun e w' => e = .returned (.int .i64 p) ∧ w' = w := by
  have HC : Hid (∀ i, i < 12 → w.cell? ⟨g, i, none⟩ = some (.int .i64 (l.getD i 0))) := hc
  have HF : Hid (∀ x w', Calls Try.prog F #[.int .i64 x] w' fun e w2 => e = .returned (.bool (Q x)) ∧ w2 = w') := hF
  have PF : Hid (∀ j, j < p → Q (l.getD j 0) = false) := hpf
  have PT : Hid (Q (l.getD p 0) = true) := hpt
  clear hc hF hpf hpt
  go_enter Try.func10, Try.ntmps10
  go_wp2
  go_loop [5, 8] (fun _ ii => ∃ k : Nat, k ≤ p ∧ ii = .int .i64 (k : Int)) (fun _ ii => 12 - (intOf ii).toNat)
  case atStart => exact ⟨0, by omega, rfl⟩
  case round =>
    obtain ⟨k, hk, rfl⟩ := hrel
    have hlt : (k : Int) < 12 := by omega
    have cx := HC.out k (by omega)
    have kf : Hid (k < p → Q (l.getD k 0) = false) := fun h => PF.out k h
    have kt : Hid (k = p → Q (l.getD k 0) = true) := fun h => by rw [h]; exact PT.out
    generalize l.getD k 0 = x at *
    go_wp2_with fail
    refine (HF.out _ _).mono ?_
    rintro e w2 ⟨rfl, hw⟩; rw [hw]; clear hw w2
    by_cases hx : k = p
    · subst hx
      rw [kt.out rfl]
      go_wp2
      go_ret
      exact ⟨rfl, rfl⟩
    · rw [kf.out (by omega)]
      go_wp2
      go_round
      case rel => exact ⟨k + 1, by omega, by go_num⟩
      case measure => simp [intOf]; omega
end Go.Proofs.Ythepahhidmihmaa
