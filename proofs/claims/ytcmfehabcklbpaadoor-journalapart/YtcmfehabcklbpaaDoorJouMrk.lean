/-
  Ours: marked, readHeader.
-/
import Derived.Test.YtcmfehabcklbpaaDoorJouTl
namespace Go.Proofs.YtcmfehabcklbpaaDoor
open Go.RowKit JM

/-- What marked answers: nothing, or new bytes and the place behind the frame. -/
def MkAns (w : World) (k : Nat) (r : Option (List Nat × Nat)) (e : Ending) (w' : World) : Prop := Below w.heap.size w w' ∧ match r with
  | none => e = .returned (.tuple #[.slice none 0 0, .int .i64 0, .bool false])
  | some (b, n) => ∃ a c, e = .returned (.tuple #[.slice a b.length c, .int .i64 (((k + n : Nat)) : Int), .bool true]) ∧ OwnT w.heap.size w' (.slice a b.length c) b

theorem mkF_none {m : Nat} {l : List Nat} (h : (CrcM.whole l).1 = 0) : mkF m l = none := by unfold mkF; rw [if_pos h]
theorem mkF_nil {m : Nat} {l : List Nat} (h : (CrcM.whole l).1 ≠ 0) (hp : CrcM.pay l = []) : mkF m l = none := by unfold mkF; rw [if_neg h, hp]
theorem mkF_cons {m x : Nat} {l r : List Nat} (h : (CrcM.whole l).1 ≠ 0) (hp : CrcM.pay l = x :: r) : mkF m l = if x = m then some (r, (CrcM.whole l).1) else none := by unfold mkF; rw [if_neg h, hp]

set_option maxRecDepth 40000 in
set_option maxHeartbeats 1000000 in
theorem marked_at (bs : List Nat) (k m : Nat) (v : Value) (w : World) (hk : k ≤ bs.length) (hm : m < 256) (hb : ∀ b ∈ bs, b < 256) (hl : bs.length ≤ 1000000000000) (h : RdB w v bs) (hT : TabS w) :
    Calls Tryd.prog 51 #[v, .int .i64 (k : Int), .int .u8 (m : Int)] w (MkAns w k (mkF m (bs.drop k))) := by
  have DE : Hid (Calls Tryd.prog 56 #[v, .int .i64 (k : Int)] w (NewP w (decL bs k))) := decode_at bs k v w hb hl h hT
  have DL : decL bs (k : Int) = if (CrcM.whole (bs.drop k)).1 = 0 then ([], (k : Int), (CrcM.whole (bs.drop k)).2) else (CrcM.pay (bs.drop k), (k : Int) + ((CrcM.whole (bs.drop k)).1 : Nat), 0) := by
    unfold decL
    rw [if_neg (by omega), Int.toNat_natCast]
  rw [DL] at DE
  clear DL h hT
  by_cases h0 : (CrcM.whole (bs.drop k)).1 = 0
  · rw [mkF_none h0]
    rw [if_pos h0] at DE
    clear h0
    generalize (CrcM.whole (bs.drop k)).2 = tl at *
    unfold MkAns
    go_enter Tryd.func51, Tryd.ntmps51
    go_wp2_with fail
    refine DE.out.mono ?_
    rintro e w1 ⟨a, c, rfl, -, b1⟩
    have B1 : Hid (Below w.heap.size w w1) := b1
    clear b1
    go_wp2_with fail
    go_ret3
    exact ⟨B1.out, rfl⟩
  · rw [if_neg h0] at DE
    cases hp : CrcM.pay (bs.drop k) with
    | nil =>
      rw [mkF_nil h0 hp]
      rw [hp] at DE
      clear hp
      generalize (CrcM.whole (bs.drop k)).1 = nn at *
      unfold MkAns
      go_enter Tryd.func51, Tryd.ntmps51
      go_wp2_with fail
      refine DE.out.mono ?_
      rintro e w1 ⟨a, c, rfl, -, b1⟩
      have B1 : Hid (Below w.heap.size w w1) := b1
      clear b1
      go_wp2_with fail
      go_ret3
      exact ⟨B1.out, rfl⟩
    | cons x r =>
      rw [mkF_cons h0 hp]
      have LR : Hid (r.length + 1 ≤ 1000000000000 ∧ x < 256) := by
        have h1 : (CrcM.pay (bs.drop k)).length ≤ bs.length := by unfold CrcM.pay; rw [List.length_take, List.length_drop, List.length_drop]; omega
        rw [hp] at h1
        refine ⟨by simp at h1; omega, ?_⟩
        have : x ∈ CrcM.pay (bs.drop k) := by rw [hp]; simp
        unfold CrcM.pay at this
        exact hb x (List.mem_of_mem_drop (List.mem_of_mem_drop (List.mem_of_mem_take this)))
      rw [hp] at DE
      clear hp hb hl
      generalize (CrcM.whole (bs.drop k)).1 = nn at *
      have D2 : Hid (Calls Tryd.prog 56 #[v, .int .i64 (k : Int)] w fun e w' => ∃ g c, e = .returned (.tuple #[.slice (some ⟨g, 0, none⟩) (r.length + 1) c, .int .i64 ((k : Int) + (nn : Int)), .int .i64 0]) ∧ r.length + 1 ≤ c ∧ w.heap.size ≤ g ∧ w'.cell? ⟨g, 0, none⟩ = some (.int .u8 (x : Int)) ∧ RowB 5 w.heap.size w' (.slice (some ⟨g, 0, none⟩) (r.length + 1) c) (x :: r) ∧ Below w.heap.size w w') := DE.out.mono fun e w' ⟨a, c, h1, h2, h3⟩ => by
        obtain ⟨g, cap, ev, hc, c0, -⟩ := RowV.own h2 (by simp)
        have ev' : Value.slice a (r.length + 1) c = .slice (some ⟨g, 0, none⟩) (r.length + 1) cap := by simpa using ev
        injection ev' with e1 e2 e3
        subst e1 e3
        exact ⟨g, c, h1, by simpa using hc, RowV.block_ge h2 rfl, c0 0 (by simp), h2, h3⟩
      clear DE
      unfold MkAns
      obtain ⟨lr, lx⟩ := LR.out
      by_cases hx : x = m
      · subst hx
        rw [if_pos rfl]
        have d1 : (((x : Nat) : Int) != ((x : Nat) : Int)) = false := by simp
        go_enter Tryd.func51, Tryd.ntmps51
        go_wp2_with fail
        refine D2.out.mono ?_
        rintro e w1 ⟨g, c, rfl, hc, hg, c0, r1, b1⟩
        have B1 : Hid (Below w.heap.size w w1 ∧ w.heap.size ≤ g) := ⟨b1, hg⟩
        have R1 : Hid (RowB 5 w.heap.size w1 (.slice (some ⟨g, 0, none⟩) (r.length + 1) c) (x :: r)) := r1
        clear b1 hg r1
        have KN : Hid ((((k + nn : Nat)) : Int) = (k : Int) + (nn : Int)) := Int.natCast_add k nn
        by_cases h1 : c = 1
        · have HC : Hid (c = 1) := h1
          have R2 : Hid (OwnT w.heap.size w1 (.slice (some ⟨g, 0, none⟩) r.length (c - 1)) r) := ⟨g, r.length + 1, c, 1, 0, x :: r, R1.out, rfl, by omega, rfl, fun h => by omega⟩
          rw [HC.out] at R2
          go_wp2_with fail
          go_ret3
          exact ⟨B1.out.1, _, _, by rw [KN.out]; rfl, R2.out⟩
        · have R2 : Hid (OwnT w.heap.size w1 (.slice (some ⟨g, 1, none⟩) r.length (c - 1)) r) := ⟨g, r.length + 1, c, 1, 1, x :: r, R1.out, rfl, by omega, rfl, fun _ => rfl⟩
          go_wp2_with fail
          go_ret3
          exact ⟨B1.out.1, _, _, by rw [KN.out]; rfl, R2.out⟩
      · rw [if_neg hx]
        have d1 : (((x : Nat) : Int) != ((m : Nat) : Int)) = true := bne_iff_ne.2 (by omega)
        go_enter Tryd.func51, Tryd.ntmps51
        go_wp2_with fail
        refine D2.out.mono ?_
        rintro e w1 ⟨g, c, rfl, hc, hg, c0, r1, b1⟩
        have B1 : Hid (Below w.heap.size w w1) := b1
        clear b1 r1
        go_wp2_with fail
        go_ret3
        exact ⟨B1.out, rfl⟩
end Go.Proofs.YtcmfehabcklbpaaDoor
