/-
  Ours: what was handed out, and its marks: hold, held.
-/
import Derived.Test.YteppdlaoeoeplaaObRf4
namespace Go.Proofs.Yteppdlaoeoeplaa
open Go.RowKit ObM LedM PolM
set_option linter.unusedSimpArgs false

namespace ObM
/-- Bytes, as they lie. -/
structure By where
  ba : Option Addr
  bn : Nat
  bc : Nat
abbrev By.v (b : By) : Value := .slice b.ba b.bn b.bc
/-- Bytes that were handed out, and their holder's mark. -/
structure Hd where
  b : By
  mark : Int
def hdL (h : Hd) : List Value := [.slice h.b.ba h.b.bn h.b.bc, .int .u8 h.mark]
/-- The mark of the i-th. -/
def mkB (m : Int) (i : Nat) : Int := (m + (i : Int)) % 256
def zBy : By := ⟨none, 0, 0⟩
def hdOf (m : Int) (bl : List By) (k : Nat) : List Hd := (List.range k).map (fun i => ⟨bl.getD i zBy, mkB m i⟩)
theorem hdOf_snoc {m : Int} {bl : List By} {k : Nat} {b : By} (h : bl[k]? = some b) : hdOf m bl (k + 1) = hdOf m bl k ++ [⟨b, mkB m k⟩] := by
  unfold hdOf
  rw [List.range_succ, List.map_append]
  simp [List.getD_eq_getElem?_getD, h]
end ObM
theorem hdL_one (h : Hd) : ∀ v ∈ hdL h, v.oneCell' = true := fun v hv => by
  simp only [hdL, List.mem_cons, List.mem_nil_iff, or_false] at hv
  rcases hv with rfl | rfl <;> rfl
theorem infoHd : (Try.prog.info? 74).map (fun i => (i.zero, i.size, i.bytes)) = some (some (.agg #[.slice none 0 0, .int .u8 0]), 2, 32) := by kernel_rfl
theorem hdL_len (h : Hd) : (hdL h).length = 2 := rfl

/-- What hold answers. -/
def HoldAns (m : Int) (bl : List By) (hs : List Hd) (v : Value) (base : Nat) (w : World) (e : Ending) (w' : World) : Prop :=
  ∃ a' n' c', e = .returned (.slice a' n' c') ∧ w'.ownsRow base 74 2 (.slice a' n' c') (hs ++ hdOf m bl bl.length).length ((hs ++ hdOf m bl bl.length).flatMap hdL) ∧ Kp (fun g => v.ownBlock = some g) w w' ∧ ∀ g, (Value.slice a' n' c').ownBlock = some g → v.ownBlock = some g ∨ w.heap.size ≤ g
set_option maxRecDepth 40000 in
set_option maxHeartbeats 2000000 in
theorem hold_at (m : Int) (bl : List By) (hs : List Hd) (a b : Option Addr) (n c q d base : Nat) (w : World) (h : w.ownsRow base 74 2 (.slice a n c) hs.length (hs.flatMap hdL)) (hB : base ≤ w.heap.size) (hb : Rd w (.slice b q d) (bl.map By.v)) (hne : ∀ g, (Value.slice b q d).ownBlock = some g → (Value.slice a n c).ownBlock ≠ some g)
    (hl : hs.length ≤ 2199023255552) (hl2 : bl.length ≤ 1000000000) (hm : 0 ≤ m ∧ m < 256) :
    Calls Try.prog 13 #[.slice a n c, .slice b q d, .int .u8 m] w (HoldAns m bl hs (.slice a n c) base w) := by
  obtain ⟨i0, hi, hz0, hz1, hz2⟩ := info_parts infoHd
  obtain ⟨m1, m2⟩ := hm
  obtain rfl : q = bl.length := by
    obtain ⟨_, _, e, _⟩ := hb
    injection e with _ e _
    rw [e, List.length_map]
  obtain ⟨N, hN⟩ : ∃ N, bl.length = N := ⟨_, rfl⟩
  obtain ⟨Z, hZ⟩ : ∃ Z, hs.length = Z := ⟨_, rfl⟩
  have HN : Hid (bl.length = N) := hN
  have HZ : Hid (hs.length = Z) := hZ
  have FIN : Hid (∀ a' n' c' w', w'.ownsRow base 74 2 (.slice a' n' c') (Z + N) ((hs ++ hdOf m bl N).flatMap hdL) ∧ Kp (fun g => (Value.slice a n c).ownBlock = some g) w w' ∧ (∀ g, (Value.slice a' n' c').ownBlock = some g → (Value.slice a n c).ownBlock = some g ∨ w.heap.size ≤ g) → HoldAns m bl hs (.slice a n c) base w (.returned (.slice a' n' c')) w') := fun a' n' c' w' q => ⟨a', n', c', rfl, by rw [hN, show (hs ++ hdOf m bl N).length = Z + N by rw [List.length_append, hZ]; simp [hdOf]]; exact q.1, q.2⟩
  generalize HoldAns m bl hs (.slice a n c) base w = PP at *
  rw [hN] at hb hne hl2 ⊢
  rw [hZ] at hl h
  have HB : Hid (Rd w (.slice b N d) (bl.map By.v)) := hb
  have HNE : Hid (∀ g, (Value.slice b N d).ownBlock = some g → (Value.slice a n c).ownBlock ≠ some g) := hne
  have HBS : Hid (base ≤ w.heap.size) := hB
  have D1 : Hid (w.ownsRow base 74 2 (.slice a n c) (Z + 0) ((hs ++ hdOf m bl 0).flatMap hdL) ∧ Kp (fun g => (Value.slice a n c).ownBlock = some g) w w ∧ ∀ g, (Value.slice a n c).ownBlock = some g → (Value.slice a n c).ownBlock = some g ∨ w.heap.size ≤ g) := ⟨by simpa [hdOf] using h, Kp.refl _ _, fun _ e => .inl e⟩
  clear hb hne h hN hZ hB
  go_enter Try.func13, Try.ntmps13
  go_wp2_with fail
  go_loopw [0, 7] (fun v vk wr => ∃ k : Nat, ∃ va vm vc, vk = .int .i64 (k : Int) ∧ k ≤ N ∧ v = .slice va vm vc ∧ Hid (wr.ownsRow base 74 2 (.slice va vm vc) (Z + k) ((hs ++ hdOf m bl k).flatMap hdL) ∧ Kp (fun g => (Value.slice a n c).ownBlock = some g) w wr ∧ ∀ g, (Value.slice va vm vc).ownBlock = some g → (Value.slice a n c).ownBlock = some g ∨ w.heap.size ≤ g)) (fun _ vk _ => N - (intOf vk).toNat)
  case atStart => exact ⟨0, a, n, c, rfl, by omega, rfl, D1⟩
  case round =>
    clear D1
    obtain ⟨k, va, vm, vc, rfl, hk, rfl, D⟩ := hrel
    by_cases hlt : (k : Int) < (N : Int)
    · obtain ⟨x, hx⟩ : ∃ x, bl[k]? = some x := ⟨bl[k]'(by rw [HN.out]; omega), List.getElem?_eq_getElem _⟩
      obtain ⟨g, o, rfl, lg, c0⟩ := rd_at2 (HB.out.kp D.out.2.1 (fun q hq => HNE.out q hq)) (i := k) (u := .slice x.ba x.bn x.bc) (by rw [List.getElem?_map, hx]; rfl)
      have SN : Hid (hdOf m bl (k + 1) = hdOf m bl k ++ [⟨x, mkB m k⟩]) := hdOf_snoc hx
      have l1 : Z + k + 1 ≤ maxLen := by unfold maxLen; omega
      have l2 : (Z + k + 1) * 32 ≤ 140737488355328 := by omega
      have hsz : base ≤ wr.heap.size := Nat.le_trans HBS.out D.out.2.1.size
      clear hx
      go_wp2_with (at_builtin; refine wpList_pushR rfl (.tmp 14) (.tmp 24) 40 rfl 74 i0 (.agg #[.slice none 0 0, .int .u8 0]) 2 32 Try.underlying40 hi hz0 hz1 hz2 rfl (by decide) base (.slice va vm vc) (Z + k) ((hs ++ hdOf m bl k).flatMap hdL) [.slice x.ba x.bn x.bc, .int .u8 ((m + (k : Int)) % 256)] rfl (hdL_one ⟨x, mkB m k⟩) rfl D.out.1 hsz rfl l1 l2 ?_; intro a4 n4 c4 w4 r4 g4 x4)
      have D4 : Hid (w4.ownsRow base 74 2 (.slice a4 n4 c4) (Z + (k + 1)) ((hs ++ hdOf m bl (k + 1)).flatMap hdL) ∧ Kp (fun g => (Value.slice a n c).ownBlock = some g) w w4 ∧ ∀ g, (Value.slice a4 n4 c4).ownBlock = some g → (Value.slice a n c).ownBlock = some g ∨ w.heap.size ≤ g) := by
        refine ⟨?_, D.out.2.1.trans (Kp.of_grown g4) (fun q hq e => ?_), fun q hq => ?_⟩
        · rw [SN.out, ← List.append_assoc, fl_snoc]; exact r4
        · rcases D.out.2.2 q e with h | h
          · exact h
          · omega
        · rcases x4 q hq with h | h
          · exact D.out.2.2 q h
          · exact .inr (Nat.le_trans D.out.2.1.size h)
      clear r4 g4 x4 D
      go_roundw
      case rel => exact ⟨k + 1, a4, n4, c4, by go_num, by omega, rfl, D4⟩
      case measure => simp [intOf]; omega
    · obtain rfl : N = k := by omega
      go_wp2_with fail
      exact FIN.out _ _ _ _ D.out
end Go.Proofs.Yteppdlaoeoeplaa
