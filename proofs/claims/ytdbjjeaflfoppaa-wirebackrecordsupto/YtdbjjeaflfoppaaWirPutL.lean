/-
  Ours: the program's PutList with putNumber.
-/
import Derived.Test.YtdbjjeaflfoppaaWirRec0
namespace Go.Proofs.Ytdbjjeaflfoppaa
open Go.RowKit

def I64s (xs : List Int) : Prop := ∀ x ∈ xs, -9223372036854775808 ≤ x ∧ x ≤ 9223372036854775807
/-- The telling of a list. -/
def putFs (xs : List Int) : List Nat := xs.flatMap putI
def putL (xs : List Int) : List Nat := put xs.length ++ putFs xs
theorem putFs_len : ∀ (xs : List Int), I64s xs → (putFs xs).length ≤ 10 * xs.length
  | [], _ => by simp [putFs]
  | x :: xs, h => by
    have h1 := putI_len x (h x (by simp))
    have h2 := putFs_len xs (fun y hy => h y (by simp [hy]))
    simp only [putFs, List.flatMap_cons, List.length_append, List.length_cons] at *
    omega
theorem I64s.take {xs : List Int} (h : I64s xs) (k : Nat) : I64s (xs.take k) := fun x hx => h x (List.mem_of_mem_take hx)
theorem putFs_step (xs : List Int) (k : Nat) (h : k < xs.length) : putFs (xs.take (k + 1)) = putFs (xs.take k) ++ putI (xs.getD k 0) := by
  have e : xs.take (k + 1) = xs.take k ++ [xs[k]] := by rw [List.take_add_one, List.getElem?_eq_getElem h]; rfl
  have g : xs.getD k 0 = xs[k] := by rw [List.getD_eq_getElem?_getD, List.getElem?_eq_getElem h]; rfl
  rw [e, g]
  unfold putFs
  rw [List.flatMap_append]
  simp

set_option maxRecDepth 20000 in
set_option maxHeartbeats 2000000 in
theorem putList_at (xs : List Int) (v : Value) (w : World) (hx : I64s xs) (hl : xs.length ≤ 1000000000000) (h : RdI w v xs) : Calls Try.prog 36 #[v, .func (.func 37) #[] #[]] w (NewB w (putL xs)) := by
  obtain ⟨i0, hi, hz0, hz1, hz2⟩ := info_parts infoB
  have U : Hid (Calls Try.prog 35 #[.int .u64 (xs.length : Int)] w (NewB w (put xs.length))) := putUint_at _ (by omega) w
  obtain ⟨L, hL⟩ : ∃ L, xs.length = L := ⟨_, rfl⟩
  obtain ⟨ao, cap, rfl, hcap, hn, H⟩ := h
  have HH : Hid (∀ i (h : i < L), ∃ g o, ao = some ⟨g, o, none⟩ ∧ g < w.heap.size ∧ w.cell? ⟨g, o + i, none⟩ = some (.int .i64 (xs.getD i 0)) ∧ putFs (xs.take (i + 1)) = putFs (xs.take i) ++ putI (xs.getD i 0) ∧ (-9223372036854775808 ≤ xs.getD i 0 ∧ xs.getD i 0 ≤ 9223372036854775807)) := fun i hi => by
    obtain ⟨g, o, e1, lt, e2⟩ := H i (by rw [List.length_map]; omega)
    refine ⟨g, o, e1, lt, ?_, putFs_step xs i (by omega), ?_⟩
    · rw [e2, List.getElem_map, List.getD_eq_getElem?_getD, List.getElem?_eq_getElem (by omega)]; rfl
    · rw [List.getD_eq_getElem?_getD, List.getElem?_eq_getElem (by omega)]; exact hx _ (List.getElem_mem _)
  have LN : Hid (∀ k, k ≤ L → (put L ++ putFs (xs.take k)).length ≤ 10 + 10 * k) := fun k hk => by
    have h1 := put_len10 L (by omega)
    have h2 := putFs_len _ (hx.take k)
    rw [List.length_take] at h2
    rw [List.length_append]
    omega
  have PF : Hid (put L ++ putFs (xs.take L) = putL xs) := by show _ = _; rw [List.take_of_length_le (by omega)]; unfold putL; rw [hL]
  rw [List.length_map, hL] at hcap ⊢
  rw [hL] at U
  have hl' : L ≤ 1000000000000 := by omega
  clear H hL hl hx
  go_enter Try.func36, Try.ntmps36
  go_wp2_with fail
  refine U.out.mono ?_
  rintro e w1 ⟨v1, rfl, r1, b1⟩
  go_wp2_with fail
  go_loopw [5, 14] (fun v vk wr => ∃ k : Nat, vk = .int .i64 (k : Int) ∧ k ≤ L ∧ RowB 5 w.heap.size wr v (put L ++ putFs (xs.take k)) ∧ Below w.heap.size w wr) (fun _ vk _ => L - (intOf vk).toNat)
  case atStart => exact ⟨0, rfl, by omega, by simpa [putFs] using r1, b1⟩
  case round =>
    obtain ⟨k, rfl, hk, hown, hnx⟩ := hrel
    have hsz := hnx.size
    by_cases hlt : (k : Int) < (L : Int)
    · obtain ⟨g, o, rfl, lt, cc, ct, xb⟩ := HH.out k (by omega)
      have c2 : wr.cell? ⟨g, o + k, none⟩ = some (.int .i64 (xs.getD k 0)) := (hnx.cell (p := ⟨g, o + k, none⟩) lt).trans cc
      have CT : Hid (putFs (xs.take (k + 1)) = putFs (xs.take k) ++ putI (xs.getD k 0)) := ct
      have l0 := LN.out k hk
      clear ct cc
      have PI : Hid (∀ w, Calls Try.prog 37 #[.int .i64 (xs.getD k 0)] w (NewB w (putI (xs.getD k 0)))) := fun w => putNumber_at _ xb w
      have l3 := putI_len _ xb
      clear xb
      generalize xs.getD k 0 = x at *
      go_wp2_with fail
      refine (PI.out _).mono ?_
      rintro e w2 ⟨v2, rfl, r2, b2⟩
      have own2 := RowV.later hown b2
      have rd2 := RowV.rd r2
      have nx2 := hnx.trans (b2.mono hsz)
      have sz2 := nx2.size
      have one : ∀ u ∈ (putI x).map bv, u.oneCell' = true := fun u hu => by obtain ⟨x, _, rfl⟩ := List.mem_map.1 hu; rfl
      have l1 : ((put L ++ putFs (xs.take k)).map bv).length + ((putI x).map bv).length ≤ maxLen := by rw [List.length_map, List.length_map]; unfold maxLen; omega
      have l2 : (((put L ++ putFs (xs.take k)).map bv).length + ((putI x).map bv).length) * 1 ≤ 140737488355328 := by rw [List.length_map, List.length_map]; omega
      clear r2 b2 hnx hown
      go_wp2_with (at_builtin; refine wpList_catV rfl (.tmp 18) (.tmp 21) 33 rfl 5 i0 (.int .u8 0) 1 underB hi hz0 hz1 hz2 rfl w.heap.size _ _ _ _ one rfl own2 sz2 rfl rd2 l1 l2 ?_; intro v' w3 hown' hgr)
      have hb : Below w.heap.size w w3 := below_grown nx2 own2 (Nat.le_refl _) sz2 hgr
      go_roundw
      case rel =>
        refine ⟨k + 1, by go_num, by omega, ?_, hb⟩
        rw [CT.out, ← List.append_assoc]
        simpa [RowB, List.map_append] using hown'
      case measure => simp [intOf]; omega
    · obtain rfl : k = L := by omega
      rw [PF.out] at hown
      go_wp2_with fail
      go_ret
      exact ⟨_, rfl, hown, hnx⟩
end Go.Proofs.Ytdbjjeaflfoppaa
