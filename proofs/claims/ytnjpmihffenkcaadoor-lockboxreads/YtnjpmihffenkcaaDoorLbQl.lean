/-
  Ours: the reference's formed and field.
-/
import Derived.Test.YtnjpmihffenkcaaDoorLbRdr
import Derived.Test.YtnjpmihffenkcaaDoorLbF4
import Derived.BigGuard
namespace Go.Proofs.YtnjpmihffenkcaaDoor
open Go.RowKit LbM LbF
theorem rdB_at {w : World} {a : Option Addr} {n c : Nat} {bs : List Nat} (h : RdB w (.slice a n c) bs) {i : Nat} (hi : i < bs.length) : ∃ g o, a = some ⟨g, o, none⟩ ∧ w.cell? ⟨g, o + i, none⟩ = some (.int .u8 ((bs.getD i 0 : Nat) : Int)) := by
  obtain ⟨ao, cap, e, hcap, hnil, H⟩ := h
  injection e with e1 e2 e3
  subst e1
  obtain ⟨g, o, e1, _, c0⟩ := H i (by rw [List.length_map]; exact hi)
  refine ⟨g, o, e1, ?_⟩
  rw [c0, List.getElem_map, List.getD_eq_getElem?_getD, List.getElem?_eq_getElem hi]
  rfl
set_option maxRecDepth 20000 in
set_option maxHeartbeats 4000000 in
theorem field_at (bs : List Nat) (v : Value) (p n : Nat) (w : World) (hl : bs.length ≤ 1000000) (hn : n ≤ 16) (hp : p + n ≤ bs.length) (h : RdB w v bs) (hd : ∀ c ∈ (bs.drop p).take n, isDg c) :
    Calls Tryd.prog 51 #[v, .int .i64 (p : Int), .int .i64 (n : Int)] w fun e w' => e = .returned (.int .i64 ((numD ((bs.drop p).take n) : Nat) : Int)) ∧ w = w' := by
  obtain ⟨a, c, rfl, -, -⟩ := h.len
  rw [List.length_map] at h ⊢
  obtain ⟨ds, hds⟩ : ∃ ds, (bs.drop p).take n = ds := ⟨_, rfl⟩
  have hlen : ds.length = n := by rw [← hds, List.length_take, List.length_drop]; omega
  have GI : Hid (∀ j, p ≤ j → j < p + n → ∃ (g o x : Nat), a = some ⟨g, o, none⟩ ∧ w.cell? ⟨g, o + j, none⟩ = some (.int .u8 (x : Int)) ∧ isDg x ∧ numD (ds.take (j - p + 1)) = 10 * numD (ds.take (j - p)) + (x - 48)) := fun j h1 h2 => by
    obtain ⟨g, o, e, c0⟩ := rdB_at h (i := j) (by omega)
    have e1 : ds.getD (j - p) 0 = bs.getD j 0 := by
      rw [← hds, List.getD_eq_getElem?_getD, List.getElem?_take, if_pos (by omega), List.getElem?_drop, List.getD_eq_getElem?_getD, show p + (j - p) = j by omega]
    refine ⟨g, o, _, e, c0, ?_, ?_⟩
    · apply hd
      rw [hds, ← e1, List.getD_eq_getElem?_getD, List.getElem?_eq_getElem (by omega)]
      exact List.getElem_mem _
    · rw [numD_take (by omega), e1]
  have NB : Hid (∀ i, i ≤ n → numD (ds.take i) < 10000000000000000) := fun i hi => by
    have := numD_lt (ds.take i) (fun c hc => hd c (by rw [hds]; exact List.mem_of_mem_take hc))
    have h16 : 10 ^ (ds.take i).length ≤ 10 ^ 16 := Nat.pow_le_pow_right (by omega) (by rw [List.length_take]; omega)
    omega
  have TK : Hid (ds.take n = ds) := by show _ = _; rw [← hlen, List.take_length]
  rw [hds]
  obtain ⟨L, hL⟩ : ∃ L, bs.length = L := ⟨_, rfl⟩
  obtain ⟨E, hE⟩ : ∃ E, p + n = E := ⟨_, rfl⟩
  rw [hL] at hp hl ⊢
  have hw1 : IntKind.i64.wrap ((p : Int) + (n : Int)) = (E : Int) := by simp [IntKind.wrap, IntKind.bits, IntKind.signed]; omega
  have HE : Hid (p + n = E) := hE
  have hEL : E ≤ L := by omega
  clear hd hds hlen h hL hE hp
  go_enter Tryd.func51, Tryd.ntmps51
  go_wp2_with fail
  go_loopw [7, 8] (fun vs vk wr => ∃ (j s : Nat), wr = w ∧ vk = .int .i64 (j : Int) ∧ j ≤ E ∧ vs = .int .i64 (s : Int) ∧ s < 10000000000000000 ∧ Hid (p ≤ j ∧ s = numD (ds.take (j - p)))) (fun _ vk _ => E - (intOf vk).toNat)
  case atStart => exact ⟨p, 0, rfl, rfl, by have := HE.out; omega, rfl, by omega, Nat.le_refl _, by rw [Nat.sub_self]; rfl⟩
  case round =>
    obtain ⟨j, s, rfl, rfl, hj, rfl, hs, HR⟩ := hrel
    by_cases hlt : (j : Int) < (E : Int)
    · obtain ⟨g, o, x, rfl, c0, hx, e1⟩ := GI.out j HR.out.1 (by have := HE.out; omega)
      have nb := NB.out (j - p + 1) (by have := HE.out; have := HR.out.1; omega)
      rw [e1, ← HR.out.2] at nb
      have N1 : Hid (10 * s + (x - 48) = numD (ds.take (j + 1 - p)) ∧ p ≤ j + 1) := ⟨by rw [show j + 1 - p = j - p + 1 by have := HR.out.1; omega, e1, HR.out.2], by have := HR.out.1; omega⟩
      unfold isDg at hx
      obtain ⟨y, hy⟩ : ∃ y, x - 48 = y := ⟨_, rfl⟩
      have hu : IntKind.u8.wrap ((x : Int) - 48) = (y : Int) := by simp [IntKind.wrap, IntKind.bits, IntKind.signed]; omega
      have hjL : (j : Int) < (L : Int) := by omega
      rw [hy] at N1 nb
      clear HR e1 hx hy
      go_wp2_with fail
      go_roundw
      case rel => exact ⟨j + 1, 10 * s + y, trivial, by go_num, by omega, by go_num, nb, N1.out.2, N1.out.1⟩
      case measure => simp [intOf]; omega
    · obtain rfl : j = E := by omega
      have F : Hid (s = numD ds) := by have := HR.out.2; rwa [show j - p = n by have := HE.out; omega, TK.out] at this
      clear HR
      go_wp2_with fail
      go_ret
      exact ⟨by rw [← F.out]; rfl, rfl⟩
/-- A letter and so many digits, and nothing else. -/
def fmd (k d : Nat) (ln : List Nat) : Prop := ln.length = d + 1 ∧ ln.head? = some k ∧ ∀ c ∈ ln.tail, isDg c
instance (k d : Nat) (ln : List Nat) : Decidable (fmd k d ln) := by unfold fmd; infer_instance
theorem fmd_is (k : Nat) (ln : List Nat) : fmd (ltr k) (wid k).sum ln ↔ fm k ln := Iff.rfl
theorem tail_dg {bs : List Nat} (h : ∀ j, 1 ≤ j → j < bs.length → isDg (bs.getD j 0)) : ∀ c ∈ bs.tail, isDg c := fun c hc => by
  obtain ⟨i, hi, rfl⟩ := List.getElem_of_mem hc
  rw [List.length_tail] at hi
  have := h (i + 1) (by omega) (by omega)
  rw [List.getD_eq_getElem?_getD, List.getElem?_eq_getElem (by omega)] at this
  rw [List.getElem_tail]
  exact this
theorem dg_tail {bs : List Nat} (h : ∀ c ∈ bs.tail, isDg c) (j : Nat) (h1 : 1 ≤ j) (h2 : j < bs.length) : isDg (bs.getD j 0) := by
  apply h
  cases bs with
  | nil => simp at h2
  | cons b bs =>
    obtain ⟨j, rfl⟩ : ∃ i, j = i + 1 := ⟨j - 1, by omega⟩
    have h3 : j < bs.length := by simpa using h2
    rw [List.getD_cons_succ, List.getD_eq_getElem?_getD, List.getElem?_eq_getElem h3]
    exact List.getElem_mem h3
set_option maxRecDepth 20000 in
set_option maxHeartbeats 4000000 in
theorem formed_at (bs : List Nat) (v : Value) (k d : Nat) (w : World) (hl : bs.length ≤ 1000000) (hd : d ≤ 1000) (h : RdB w v bs) (h8 : ∀ c ∈ bs, c < 256) :
    Calls Tryd.prog 50 #[v, .int .u8 (k : Int), .int .i64 (d : Int)] w fun e w' => e = .returned (.bool (decide (fmd k d bs))) ∧ w = w' := by
  obtain ⟨a, c, rfl, -, -⟩ := h.len
  rw [List.length_map] at h ⊢
  have GI : Hid (∀ j, j < bs.length → ∃ (g o : Nat), a = some ⟨g, o, none⟩ ∧ w.cell? ⟨g, o + j, none⟩ = some (.int .u8 ((bs.getD j 0 : Nat) : Int)) ∧ bs.getD j 0 < 256) := fun j hj => by
    obtain ⟨g, o, e, c0⟩ := rdB_at h hj
    refine ⟨g, o, e, c0, h8 _ ?_⟩
    rw [List.getD_eq_getElem?_getD, List.getElem?_eq_getElem hj]
    exact List.getElem_mem hj
  obtain ⟨L, hL⟩ : ∃ L, bs.length = L := ⟨_, rfl⟩
  have HL : Hid (bs.length = L) := hL
  rw [hL] at hl GI ⊢
  obtain ⟨r, hr⟩ : ∃ r, decide (fmd k d bs) = r := ⟨_, rfl⟩
  have RN : Hid (¬ fmd k d bs → false = r) := fun h => by rw [← hr]; exact (decide_eq_false h).symm
  have RY : Hid (fmd k d bs → true = r) := fun h => by rw [← hr]; exact (decide_eq_true h).symm
  rw [hr]
  have HH : Hid (0 < L → bs.head? = some (bs.getD 0 0)) := fun h0 => by
    cases bs with
    | nil => simp at hL; omega
    | cons b r => rfl
  clear hr hL h h8
  go_enter Tryd.func50, Tryd.ntmps50
  go_upto_region 1 with fail
  have hwd : IntKind.i64.wrap ((d : Int) + 1) = (d : Int) + 1 := by simp [IntKind.wrap, IntKind.bits, IntKind.signed]; omega
  by_cases hlen : L = d + 1
  · have e0 : ((L : Int) != (d : Int) + 1) = false := by rw [hlen]; simp
    obtain ⟨g, o, rfl, c0, hb⟩ := GI.out 0 (by omega)
    have HD := HH.out (by omega)
    have h0L : (0 : Int) < (L : Int) := by omega
    rw [Nat.add_zero] at c0
    obtain ⟨x, hx⟩ : ∃ x, bs.getD 0 0 = x := ⟨_, rfl⟩
    rw [hx] at c0 HD hb
    have HLD : Hid (L = d + 1) := hlen
    clear hlen hx
    by_cases hxk : x = k
    · have e1 : ((x : Int) != (k : Int)) = false := by rw [hxk]; simp
      have HK : Hid (bs.head? = some k) := by rw [← hxk]; exact HD
      clear hxk HD
      go_wp2_with fail
      go_loopw [7] (fun vk wr => ∃ (i : Nat), wr = w ∧ vk = .int .i64 (i : Int) ∧ i ≤ L ∧ Hid (1 ≤ i ∧ ∀ j, 1 ≤ j → j < i → isDg (bs.getD j 0))) (fun vk _ => L - (intOf vk).toNat)
      case atStart => exact ⟨1, rfl, rfl, by omega, Nat.le_refl _, fun j h1 h2 => by omega⟩
      case round =>
        obtain ⟨i, rfl, rfl, hi, HR⟩ := hrel
        clear c0 e1 e0 hb
        by_cases hlt : (i : Int) < (L : Int)
        · obtain ⟨g', o', eg, c1, hb⟩ := GI.out i (by omega)
          injection eg with eg
          injection eg with eg1 eg2
          subst eg1 eg2
          obtain ⟨y, hy⟩ : ∃ y, bs.getD i 0 = y := ⟨_, rfl⟩
          rw [hy] at c1 hb
          have HY : Hid (bs.getD i 0 = y ∧ i < L) := ⟨hy, by omega⟩
          clear hy
          by_cases h48 : (y : Int) < 48
          · have NO : Hid (¬ fmd k d bs) := fun q => by
              have := dg_tail q.2.2 i HR.out.1 (by rw [HL.out]; exact HY.out.2)
              rw [HY.out.1] at this
              unfold isDg at this
              omega
            go_wp2_with fail
            go_ret
            exact ⟨by rw [← RN.out NO.out]; rfl, rfl⟩
          · have e48 : decide ((y : Int) < 48) = false := decide_eq_false h48
            by_cases h57 : 57 < (y : Int)
            · have NO : Hid (¬ fmd k d bs) := fun q => by
                have := dg_tail q.2.2 i HR.out.1 (by rw [HL.out]; exact HY.out.2)
                rw [HY.out.1] at this
                unfold isDg at this
                omega
              go_wp2_with fail
              go_ret
              exact ⟨by rw [← RN.out NO.out]; rfl, rfl⟩
            · have e57 : decide (57 < (y : Int)) = false := decide_eq_false h57
              have R1 : Hid (1 ≤ i + 1 ∧ ∀ j, 1 ≤ j → j < i + 1 → isDg (bs.getD j 0)) := ⟨by omega, fun j h1 h2 => by
                by_cases hj : j = i
                · rw [hj, HY.out.1]; unfold isDg; omega
                · exact HR.out.2 j h1 (by omega)⟩
              go_wp2_with fail
              go_roundw
              case rel => exact ⟨i + 1, trivial, by go_num, by omega, R1⟩
              case measure => simp [intOf]; omega
        · obtain rfl : i = L := by omega
          have YES : Hid (fmd k d bs) := ⟨by rw [HL.out]; exact HLD.out, HK.out, tail_dg (fun j h1 h2 => HR.out.2 j h1 (by rw [HL.out] at h2; exact h2))⟩
          go_wp2_with fail
          go_ret
          exact ⟨by rw [← RY.out YES.out]; rfl, rfl⟩
    · have e1 : ((x : Int) != (k : Int)) = true := by simp; omega
      have NO : Hid (¬ fmd k d bs) := fun q => by have := q.2.1; rw [HD] at this; injection this with this; exact hxk this
      clear hxk HD
      go_wp2_with fail
      go_ret
      exact ⟨by rw [← RN.out NO.out]; rfl, rfl⟩
  · have e0 : ((L : Int) != (d : Int) + 1) = true := by simp; omega
    have NO : Hid (¬ fmd k d bs) := fun q => hlen (by rw [← HL.out]; exact q.1)
    clear hlen
    go_wp2_with fail
    go_ret
    exact ⟨by rw [← RN.out NO.out]; rfl, rfl⟩
end Go.Proofs.YtnjpmihffenkcaaDoor
