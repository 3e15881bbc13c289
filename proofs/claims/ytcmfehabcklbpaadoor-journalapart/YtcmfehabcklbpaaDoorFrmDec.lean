/-
  Ours: bytes.Clone and frame.Decode.
-/
import Derived.Test.YtcmfehabcklbpaaDoorFrmWhole
import Derived.Lib.SliceRun
namespace Go.Proofs.YtcmfehabcklbpaaDoor
open Go.RowKit

set_option maxHeartbeats 600000 in
theorem clone_at (bs : List Nat) (v : Value) (w : World) (hl : bs.length ≤ 1000000000000) (h : RdB w v bs) : Calls Tryd.prog 59 #[v] w (NewB w bs) := by
  obtain ⟨i0, hi, hz0, hz1, hz2⟩ := info_parts infoB
  have hm : ∀ (w : World) (a : Option Addr) (n c : Nat), (binOp .eql 22 (.slice a n c) (.slice none 0 0)).run Tryd.prog w = .ok (.bool a.isNone) w := fun w a n c => Lib.run_eql_slice_nil w _ _ a n c 0 0 underB
  obtain ⟨ao, cap, rfl, hcap, hnil⟩ := h.len
  have hl0 : (bs.map bv).length = bs.length := List.length_map ..
  cases ao with
  | none =>
    have : bs = [] := List.eq_nil_of_length_eq_zero (by have := hnil rfl; omega)
    subst this
    obtain rfl := hnil rfl
    clear h
    go_enter Tryd.func59, Tryd.ntmps59
    go_wp2_with fail
    go_ret
    exact ⟨_, rfl, RowV.nil _ _ _, Below.refl _ _⟩
  | some ad =>
    have one := one_bv bs
    have l1 : ([] : List Value).length + (bs.map bv).length ≤ maxLen := by simp only [List.length_map, List.length_nil]; unfold maxLen; omega
    have l2 : (([] : List Value).length + (bs.map bv).length) * 1 ≤ 140737488355328 := by simp only [List.length_map, List.length_nil]; omega
    have own0 : RowV 5 w.heap.size (w.alloc (.cells #[] 5)) (.slice (some ⟨w.heap.size, 0, none⟩) 0 0) [] := ⟨by simp, .inr ⟨w.heap.size, 0, #[], rfl, Nat.le_refl _, (MapKept.heap_alloc w _).1, by simp, by unfold maxLen; omega, rfl, rfl⟩⟩
    have rd0 := Rd.later h (below_alloc w (.cells #[] 5))
    have hsz : w.heap.size ≤ (w.alloc (.cells #[] 5)).heap.size := by simp
    have b0 := below_alloc w (.cells #[] 5)
    obtain ⟨us, hus⟩ : ∃ us, bs.map bv = us := ⟨_, rfl⟩
    rw [hus] at one l1 l2 rd0 ⊢
    have HU : Hid (bs.map bv = us) := hus
    clear h hl0 hus hnil hcap
    go_enter Tryd.func59, Tryd.ntmps59
    go_wp2_with (at_builtin; refine wpList_catV rfl (.tmp 5) (.tmp 6) 22 rfl 5 i0 (.int .u8 0) 1 underB hi hz0 hz1 hz2 rfl w.heap.size _ _ _ _ one rfl own0 hsz rfl rd0 l1 l2 ?_; intro v3 w3 r3 g3)
    go_ret
    exact ⟨v3, rfl, by rw [RowB, HU.out]; simpa using r3, below_grown b0 own0 (Nat.le_refl _) hsz g3⟩

theorem below_drewN' {w w' : World} {n : Nat} (h : Below (w.drewN n).heap.size (w.drewN n) w') : Below w.heap.size w w' := ⟨h.os, h.tape, h.output, h.size, h.block⟩

/-- Decode. -/
def decL (file : List Nat) (at' : Int) : List Nat × Int × Nat :=
  if at' < 0 ∨ (file.length : Int) < at' then ([], at', 1)
  else if (CrcM.whole (file.drop at'.toNat)).1 = 0 then ([], at', (CrcM.whole (file.drop at'.toNat)).2)
  else (CrcM.pay (file.drop at'.toNat), at' + ((CrcM.whole (file.drop at'.toNat)).1 : Nat), 0)
/-- New bytes, a place and a tail. -/
def NewP (w : World) (r : List Nat × Int × Nat) (e : Ending) (w' : World) : Prop := ∃ a c, e = .returned (.tuple #[.slice a r.1.length c, .int .i64 r.2.1, .int .i64 ((r.2.2 : Nat) : Int)]) ∧ RowB 5 w.heap.size w' (.slice a r.1.length c) r.1 ∧ Below w.heap.size w w'

set_option maxHeartbeats 400000 in
theorem decode_at (bs : List Nat) (a : Int) (v : Value) (w : World) (hb : ∀ b ∈ bs, b < 256) (hl : bs.length ≤ 1000000000000) (h : RdB w v bs) (hT : TabS w) :
    Calls Tryd.prog 56 #[v, .int .i64 a] w (NewP w (decL bs a)) := by
  obtain ⟨ao, cap, rfl, hcap, hnil⟩ := h.len
  have hl0 : (bs.map bv).length = bs.length := List.length_map ..
  rw [hl0] at h hcap ⊢
  unfold decL NewP
  by_cases h1 : a < 0
  · rw [if_pos (.inl h1)]
    have d1 : decide (a < 0) = true := decide_eq_true h1
    generalize bs.length = L at *
    clear h hb hT
    go_enter Tryd.func56, Tryd.ntmps56
    go_wp2_with fail
    go_ret3
    exact ⟨none, 0, rfl, RowV.nil _ _ _, Below.refl _ _⟩
  have d1 : decide (a < 0) = false := decide_eq_false h1
  by_cases h2 : (bs.length : Int) < a
  · rw [if_pos (.inr h2)]
    have d2 : decide ((bs.length : Int) < a) = true := decide_eq_true h2
    generalize bs.length = L at *
    clear h hb hT
    go_enter Tryd.func56, Tryd.ntmps56
    go_wp2_with fail
    go_ret3
    exact ⟨none, 0, rfl, RowV.nil _ _ _, Below.refl _ _⟩
  have d2 : decide ((bs.length : Int) < a) = false := decide_eq_false h2
  rw [if_neg (by omega)]
  obtain ⟨A, rfl⟩ : ∃ A : Nat, a = (A : Int) := ⟨a.toNat, by omega⟩
  simp only [Int.toNat_natCast]
  have hA : A ≤ bs.length := by omega
  have wb : ∀ b ∈ bs.drop A, b < 256 := fun b hb' => hb b (List.mem_of_mem_drop hb')
  have wl : (bs.drop A).length = bs.length - A := List.length_drop ..
  -- the bytes from the place on
  have tail : ∀ ad : Option Addr, (A < bs.length → ad = ao.map (fun x => x.add A)) → (ad = none → cap - A = 0) → RdB w (.slice ad (bs.length - A) (cap - A)) (bs.drop A) := fun ad h1 h2 => by
    have r := Rd.tail (k := A) (ad := ad) h hA (fun g o e hk => by rw [h1 hk, e]; simp [Addr.add_lit]) h2
    rw [← List.map_drop] at r
    exact r
  have adr : ∃ ad : Option Addr, (ad = if A = cap then ao else ao.map (fun x => x.add A)) ∧ RdB w (.slice ad (bs.length - A) (cap - A)) (bs.drop A) := by
    refine ⟨_, rfl, ?_⟩
    by_cases hc : A = cap
    · rw [if_pos hc]
      exact tail ao (fun hk => by omega) (fun _ => by omega)
    · rw [if_neg hc]
      refine tail _ (fun _ => rfl) (fun e => ?_)
      cases ao with
      | none => have := hnil rfl; omega
      | some ad => cases e
  obtain ⟨ad, had, hrd⟩ := adr
  have AO : Hid (A < bs.length → ∃ g o, ao = some ⟨g, o, none⟩) := fun hk => by
    obtain ⟨_, _, H⟩ := h.at
    obtain ⟨g, o, e, _⟩ := H A hk
    exact ⟨g, o, e⟩
  clear tail h hb
  have WH : Hid (Calls Tryd.prog 58 #[.slice ad (bs.length - A) (cap - A)] w (WholeIs (bs.drop A) w)) := whole_at _ _ w wb (by omega) hrd hT
  have ll : bs.length ≤ 1000000000000 := hl
  obtain ⟨l, hll⟩ : ∃ l, bs.drop A = l := ⟨_, rfl⟩
  rw [hll] at WH hrd wb wl ⊢
  obtain ⟨L, hL⟩ : ∃ L, bs.length = L := ⟨_, rfl⟩
  rw [hL] at WH hrd wl hcap ll hA d2 AO ⊢
  clear hl hL hll h1 h2 hl0 hnil hT
  by_cases h3 : (CrcM.whole l).1 = 0
  · rw [if_pos h3]
    unfold WholeIs at WH
    rw [h3] at WH
    generalize (CrcM.whole l).2 = T at *
    have e1 : (((0 : Nat) : Int) == 0) = true := rfl
    clear hrd wb
    by_cases hc : A = cap
    · rw [if_pos hc] at had
      subst had hc
      obtain rfl : L = A := by omega
      simp only [Nat.sub_self] at WH
      clear hcap hA d1 d2
      have d1 : decide ((L : Int) < 0) = false := decide_eq_false (by omega)
      have d2 : decide ((L : Int) < (L : Int)) = false := decide_eq_false (by omega)
      go_enter Tryd.func56, Tryd.ntmps56
      go_wp2_with fail
      refine WH.out.mono ?_
      rintro e w2 ⟨rfl, n, rfl⟩
      go_wp2_with fail
      go_ret3
      exact ⟨none, 0, rfl, RowV.nil _ _ _, below_drewN (Below.refl _ _) n⟩
    · rw [if_neg hc] at had
      subst had
      go_enter Tryd.func56, Tryd.ntmps56
      go_wp2_with fail
      refine WH.out.mono ?_
      rintro e w2 ⟨rfl, n, rfl⟩
      go_wp2_with fail
      go_ret3
      exact ⟨none, 0, rfl, RowV.nil _ _ _, below_drewN (Below.refl _ _) n⟩
  · rw [if_neg h3]
    obtain ⟨p1, p2, p3, p4, p5, p6⟩ := CrcM.whole_pos h3
    have pl := CrcM.pay_len h3
    have hc : ¬ A = cap := by omega
    rw [if_neg hc] at had
    subst had
    obtain ⟨g, o, rfl⟩ := AO.out (by omega)
    have emap : (some (⟨g, o, none⟩ : Addr)).map (fun x => x.add A) = some ⟨g, o + A, none⟩ := by simp [Addr.add_lit]
    rw [emap] at WH hrd
    have rp : RdB w (.slice (some ⟨g, o + A + 4, none⟩) (CrcM.pay l).length (cap - A - 4)) (CrcM.pay l) := by
      have r1 := Rd.tail (k := 4) (ad := some ⟨g, o + A + 4, none⟩) hrd (by omega) (fun g' o' e _ => by cases e; rfl) (fun e => by cases e)
      have r2 := Rd.cut (k := (CrcM.pay l).length) r1 (by omega)
      rw [← List.map_drop, ← List.map_take] at r2
      have : (l.drop 4).take (CrcM.pay l).length = CrcM.pay l := by
        have e : CrcM.pay l = (l.drop 4).take (CrcM.num (l.take 4)) := by unfold CrcM.pay; rfl
        rw [show (CrcM.pay l).length = CrcM.num (l.take 4) by omega, e]
      rw [this] at r2
      exact r2
    have CL : Hid (∀ n, Calls Tryd.prog 59 #[.slice (some ⟨g, o + A + 4, none⟩) (CrcM.pay l).length (cap - A - 4)] (w.drewN n) (NewB (w.drewN n) (CrcM.pay l))) := fun n => clone_at _ _ _ (by omega) (Rd.drewN rp n)
    unfold WholeIs at WH
    rw [p5] at WH
    have S8 : (CrcM.whole l).1 = (CrcM.pay l).length + 8 := by omega
    rw [S8] at WH ⊢
    have b1 : (CrcM.pay l).length + 8 + A ≤ L := by omega
    clear p1 p2 p3 p4 p5 p6 pl S8 h3 hrd wb rp wl emap
    generalize CrcM.pay l = P at *
    have e1 : ((((P.length + 8 : Nat)) : Int) == 0) = false := beq_eq_false_iff_ne.2 (by omega)
    go_enter Tryd.func56, Tryd.ntmps56
    go_wp2_with fail
    refine WH.out.mono ?_
    rintro e w2 ⟨rfl, n, rfl⟩
    go_wp2_with fail
    refine (CL.out n).mono ?_
    rintro e w3 ⟨v3, rfl, r3, b3⟩
    obtain ⟨a3, c3, rfl, _, _⟩ := (RowV.rd r3).len
    rw [List.length_map] at r3 ⊢
    go_wp2_with fail
    go_ret3
    exact ⟨a3, c3, by simp, r3, below_drewN' b3⟩
end Go.Proofs.YtcmfehabcklbpaaDoor
