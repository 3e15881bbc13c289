/-
  Ours: below, lower, settle.
-/
import Derived.Test.YtfdehlfhnlgcjaaDoorTsUp
import Derived.BigQuiet
namespace Go.Proofs.YtfdehlfhnlgcjaaDoor
open Go.RowKit TqM

namespace TS
/-- Two keys of the heap. -/
abbrev CT (w : World) (R g o p : Nat) (vh : Value) (x k : Ky) (w' : World) : Prop := Below w.heap.size w w' ∧ w'.cell? ⟨R, 0, none⟩ = some vh ∧
  w'.cell? ⟨g, o, none⟩ = some (.int .i64 x.d) ∧ w'.cell? ⟨g, o + 1, none⟩ = some (.int .i64 x.l) ∧ w'.cell? ⟨g, o + 2, none⟩ = some (.int .i64 x.n) ∧
  w'.cell? ⟨g, p, none⟩ = some (.int .i64 k.d) ∧ w'.cell? ⟨g, p + 1, none⟩ = some (.int .i64 k.l) ∧ w'.cell? ⟨g, p + 2, none⟩ = some (.int .i64 k.n)
theorem CT.keep {w w1 w2 : World} {R g o p : Nat} {vh : Value} {x k : Ky} (b : Below w1.heap.size w1 w2) (h : CT w R g o p vh x k w1) : CT w R g o p vh x k w2 :=
  ⟨below_trans h.1 b, below_cell b h.2.1, below_cell b h.2.2.1, below_cell b h.2.2.2.1, below_cell b h.2.2.2.2.1, below_cell b h.2.2.2.2.2.1, below_cell b h.2.2.2.2.2.2.1, below_cell b h.2.2.2.2.2.2.2⟩

/-- What below tells. -/
def Bel (hp : List (Ky × ByteArray)) (i c : Nat) (ok : Bool) : Prop :=
  if 2 * i + 1 < hp.length then ok = true ∧ 0 < c ∧ (c - 1) / 2 = i ∧ ∃ z, hp[c]? = some z ∧ ∀ (j : Nat) (x : Ky × ByteArray), 0 < j → (j - 1) / 2 = i → j ≠ c → hp[j]? = some x → ¬ TqM.lt x.1 z.1
  else ok = false ∧ c = 0
def BelP (hp : List (Ky × ByteArray)) (i : Nat) (w : World) (e : Ending) (w' : World) : Prop := ∃ (c : Nat) (ok : Bool), e = .returned (.tuple #[.int .i64 (c : Int), .bool ok]) ∧ Bel hp i c ok ∧ Below w.heap.size w w'
set_option maxRecDepth 20000 in
set_option maxHeartbeats 2000000 in
theorem below_at (R bm g n cap : Nat) (S : Nat → Prop) (hp : List (Ky × ByteArray)) (f : Ky → Option Nat) (w : World) (i : Nat) (hn : n ≤ 1000000000000) (hi : i < n) (h : QG R bm g n cap S hp f w) :
    Calls Tryd.prog 68 #[.pointer (some ⟨R, 0, none⟩), .int .i64 (i : Int)] w (BelP hp i w) := by
  have C : Hid (∀ a b w, Calls Tryd.prog 55 #[kyV a, kyV b] w fun e w' => e = .returned (.int .i64 (cmpK a b)) ∧ Below w.heap.size w w') := compare_at
  have l0 := h.1.blk.cell 0 _ rfl
  obtain ⟨hc1, hc2⟩ := h.le
  by_cases h1 : 2 * i + 1 < n
  · by_cases h2 : 2 * i + 2 < n
    · obtain ⟨x, hx⟩ : ∃ x, hp[2 * i + 2]? = some x := ⟨hp[2 * i + 2]'(by have := h.2; omega), List.getElem?_eq_getElem _⟩
      obtain ⟨z, hz⟩ : ∃ z, hp[2 * i + 1]? = some z := ⟨hp[2 * i + 1]'(by have := h.2; omega), List.getElem?_eq_getElem _⟩
      obtain ⟨x0, x1, x2, _⟩ := QG.cells h hx
      obtain ⟨z0, z1, z2, _⟩ := QG.cells h hz
      have S0 : Hid (CT w R g ((2 * i + 2) * 4) ((2 * i + 1) * 4) (.slice (some ⟨g, 0, none⟩) n cap) x.1 z.1 w.drew) := ⟨Below.drew (Below.refl _ _), l0, x0, x1, x2, z0, z1, z2⟩
      have CC : Hid (∀ w, Calls Tryd.prog 55 #[.agg #[.int .i64 x.1.d, .int .i64 x.1.l, .int .i64 x.1.n], .agg #[.int .i64 z.1.d, .int .i64 z.1.l, .int .i64 z.1.n]] w fun e w' => e = .returned (.int .i64 (cmpK x.1 z.1)) ∧ Below w.heap.size w w') := fun w => C.out x.1 z.1 w
      have SM := cmpK_small x.1 z.1
      have NE : Hid (cmpK x.1 z.1 < 0 ↔ TqM.lt x.1 z.1) := cmpK_neg x.1 z.1
      have BR : Hid (TqM.lt x.1 z.1 → Bel hp i (2 * i + 2) true) := fun hlt => by
        unfold Bel
        rw [if_pos (by have := h.2; omega)]
        refine ⟨rfl, by omega, by omega, x, hx, fun j y hj e hne hy hly => ?_⟩
        have : j = 2 * i + 1 := by omega
        subst this
        rw [hz] at hy
        cases hy
        exact lt_asym hlt hly
      have BL : Hid (¬ TqM.lt x.1 z.1 → Bel hp i (2 * i + 1) true) := fun hlt => by
        unfold Bel
        rw [if_pos (by have := h.2; omega)]
        refine ⟨rfl, by omega, by omega, z, hz, fun j y hj e hne hy hly => ?_⟩
        have : j = 2 * i + 2 := by omega
        subst this
        rw [hx] at hy
        cases hy
        exact hlt hly
      generalize cmpK x.1 z.1 = c at *
      clear hx hz x0 x1 x2 z0 z1 z2 C h
      have j1 : ((2 * i + 1 : Nat) : Int) = 2 * (i : Int) + 1 := by omega
      have j2 : ((2 * i + 2 : Nat) : Int) = 2 * (i : Int) + 2 := by omega
      obtain ⟨a, ha⟩ : ∃ a, 2 * i + 1 = a := ⟨_, rfl⟩
      obtain ⟨b, hb⟩ : ∃ b, 2 * i + 2 = b := ⟨_, rfl⟩
      rw [ha] at h1 S0 BL j1
      rw [hb] at h2 S0 BR j2
      have j3 : 2 * (i : Int) + 1 = (a : Int) := j1.symm
      have j4 : 2 * (i : Int) + 2 = (b : Int) := j2.symm
      have j5 : ¬ ((n : Int) ≤ (a : Int)) := by omega
      have j6 : (b : Int) < (n : Int) := by omega
      have L1 : a ≤ 9223372036854775807 := by omega
      have L2 : b ≤ 9223372036854775807 := by omega
      clear j1 j2 ha hb
      go_enter Tryd.func68, Tryd.ntmps68
      go_upto_region 4 with fail
      go_region_held3 (fun w' => CT w R g (b * 4) (a * 4) (.slice (some ⟨g, 0, none⟩) n cap) x.1 z.1 w') (first | assumption | exact S0.out | exact CT.keep hU (by assumption)) (first
        | (go_at_call 55; refine (CC.out _).mono ?_; rintro e w2 ⟨rfl, hU⟩))
      have S2 : Hid (CT w R g (b * 4) (a * 4) (.slice (some ⟨g, 0, none⟩) n cap) x.1 z.1 w2) := by assumption
      clear S0 hU
      by_cases hc : c < 0
      · have F2 : Hid (Bel hp i b true ∧ Below w.heap.size w w2) := ⟨BR.out (NE.out.1 hc), S2.out.1⟩
        clear S2 NE BR BL CC
        go_wp2_with fail
        go_ret2
        exact ⟨b, true, rfl, F2.out⟩
      · have F2 : Hid (Bel hp i a true ∧ Below w.heap.size w w2) := ⟨BL.out (fun h => hc (NE.out.2 h)), S2.out.1⟩
        clear S2 NE BR BL CC
        go_wp2_with fail
        go_ret2
        exact ⟨a, true, rfl, F2.out⟩
    · have BL : Hid (Bel hp i (2 * i + 1) true) := by
        unfold Hid Bel
        rw [if_pos (by have := h.2; omega)]
        obtain ⟨z, hz⟩ : ∃ z, hp[2 * i + 1]? = some z := ⟨hp[2 * i + 1]'(by have := h.2; omega), List.getElem?_eq_getElem _⟩
        refine ⟨rfl, by omega, by omega, z, hz, fun j y hj e hne hy => ?_⟩
        have := (List.getElem?_eq_some_iff.1 hy).1
        have := h.2
        omega
      clear C h
      have j1 : ((2 * i + 1 : Nat) : Int) = 2 * (i : Int) + 1 := by omega
      obtain ⟨a, ha⟩ : ∃ a, 2 * i + 1 = a := ⟨_, rfl⟩
      rw [ha] at h1 BL j1
      have j3 : 2 * (i : Int) + 1 = (a : Int) := j1.symm
      have j5 : ¬ ((n : Int) ≤ (a : Int)) := by omega
      have j6 : ¬ (2 * (i : Int) + 2 < (n : Int)) := by omega
      have j7 : decide (2 * (i : Int) + 2 < (n : Int)) = false := decide_eq_false j6
      clear j1 ha
      go_enter Tryd.func68, Tryd.ntmps68
      go_upto_region 4 with fail
      go_quiet (fail)
      go_wp2_with fail
      go_ret2
      exact ⟨a, true, rfl, BL.out, below_drewN (Below.refl _ _) _⟩
  · have BL : Hid (Bel hp i 0 false) := by
      unfold Hid Bel
      rw [if_neg (by have := h.2; omega)]
      exact ⟨rfl, rfl⟩
    have j5 : (n : Int) ≤ 2 * (i : Int) + 1 := by omega
    clear C h
    go_enter Tryd.func68, Tryd.ntmps68
    go_wp2_with fail
    go_ret2
    exact ⟨0, false, rfl, BL.out, Below.refl _ _⟩

set_option maxRecDepth 20000 in
set_option maxHeartbeats 2000000 in
theorem lower_at (R bm g n cap : Nat) (S : Nat → Prop) (hp : List (Ky × ByteArray)) (f : Ky → Option Nat) (w : World) (k : Ky) (i : Nat) (Rr : List (Ky × ByteArray)) (hn : n ≤ 1000000000000) (h : QG R bm g n cap S hp f w) (hg : GS hp f i k Rr) (hu : Up k hp i) :
    Calls Tryd.prog 60 #[.pointer (some ⟨R, 0, none⟩), .int .i64 (i : Int), kyV k] w (Moved R bm g n cap S k Rr w fun hp i => Up k hp i ∧ Dn k hp i) := by
  have C : Hid (∀ a b w, Calls Tryd.prog 55 #[kyV a, kyV b] w fun e w' => e = .returned (.int .i64 (cmpK a b)) ∧ Below w.heap.size w w') := compare_at
  have BE : Hid (∀ hp f w i, QG R bm g n cap S hp f w → GS hp f i k Rr → Calls Tryd.prog 68 #[.pointer (some ⟨R, 0, none⟩), .int .i64 (i : Int)] w (BelP hp i w)) := fun hp f w i h hg => below_at R bm g n cap S hp f w i hn (by have := hg.lt; have := h.2; omega) h
  have LA : Hid (∀ hp f w t (i : Nat), QG R bm g n cap S hp f w → i < n → Calls Tryd.prog 61 #[.pointer (some ⟨R, 0, none⟩), tmV t, .int .i64 (i : Int)] w fun e w' => e = .returned (.tuple #[]) ∧ QG R bm g n cap S (hp.set i t) (upd f t.1 (some i)) w' ∧ Kp S w w') := fun hp f w t i h hi => (lay_at R bm g n cap S hp f w t i _ rfl hi h.1).mono (by rintro e w' ⟨rfl, h1, h2⟩; exact ⟨rfl, ⟨h1, by rw [List.length_set]; exact h.2⟩, h2⟩)
  have B0 : Hid (Blk w.heap.size 24 (kyL k) (w.alloc (.cells #[.int .i64 k.d, .int .i64 k.l, .int .i64 k.n] 24)) ∧ Kp S w (w.alloc (.cells #[.int .i64 k.d, .int .i64 k.l, .int .i64 k.n] 24)) ∧ QG R bm g n cap S hp f (w.alloc (.cells #[.int .i64 k.d, .int .i64 k.l, .int .i64 k.n] 24))) := ⟨Blk.new 24 (kyL k) w, Kp.of_below (below_alloc _ _) _, h.1.below (below_alloc _ _), h.2⟩
  have SB : Hid (∀ g, S g → g < w.heap.size) := h.1.s
  obtain ⟨h1, h2⟩ := h.le
  have G0 : Hid (GS hp f i k Rr ∧ Up k hp i) := ⟨hg, hu⟩
  clear h hg hu
  go_enter Tryd.func60, Tryd.ntmps60
  go_wp2_with fail
  generalize w.alloc (.cells #[.int .i64 k.d, .int .i64 k.l, .int .i64 k.n] 24) = w1 at *
  go_loopw [1] (fun vg wr => ∃ i : Nat, vg = .int .i64 (i : Int) ∧ i < n ∧ ∃ hp f, Hid (Blk w.heap.size 24 (kyL k) wr ∧ Kp S w wr ∧ QG R bm g n cap S hp f wr ∧ GS hp f i k Rr ∧ Up k hp i)) (fun vg _ => n - (intOf vg).toNat)
  case atStart => exact ⟨i, rfl, by have := G0.out.1.lt; have := B0.out.2.2.2; omega, hp, f, B0.out.1, B0.out.2.1, B0.out.2.2, G0.out⟩
  case round =>
    obtain ⟨i, rfl, hin, hp, f, D⟩ := hrel
    clear B0 G0
    go_wp2_with fail
    refine (BE.out hp f wr i D.out.2.2.1 D.out.2.2.2.1).mono ?_
    rintro e w2 ⟨c, ok, rfl, hbel, b2⟩
    have D2 : Hid (Blk w.heap.size 24 (kyL k) w2 ∧ Kp S w w2 ∧ QG R bm g n cap S hp f w2 ∧ GS hp f i k Rr ∧ Up k hp i) := ⟨D.out.1.below b2, D.out.2.1.trans (Kp.of_below b2 S) (fun _ _ h => h), ⟨D.out.2.2.1.1.below b2, D.out.2.2.1.2⟩, D.out.2.2.2⟩
    clear D b2
    by_cases hch : 2 * i + 1 < n
    · have hl : hp.length = n := D2.out.2.2.1.2
      unfold Bel at hbel
      rw [if_pos (by omega)] at hbel
      obtain ⟨rfl, hc0, hci, x, hx, hleast⟩ := hbel
      have hcn : c < n := by have := (List.getElem?_eq_some_iff.1 hx).1; omega
      have HX : Hid (hp[c]? = some x ∧ 0 < c ∧ (c - 1) / 2 = i) := ⟨hx, hc0, hci⟩
      have LE : Hid (∀ (j : Nat) (y : Ky × ByteArray), 0 < j → (j - 1) / 2 = i → j ≠ c → hp[j]? = some y → TqM.lt x.1 y.1) := fun j y hj e hne hy => by
        rcases lt_or x.1 y.1 (fun e1 => by
          have hg := D2.out.2.2.2.1
          have hxk : x.1 ≠ k := fun e => hg.pl.fresh c x.2 (by omega) (by rw [hx, ← e])
          have h1 := (hg.pl.at' x.1 hxk c).2 ⟨by omega, x.2, hx⟩
          have h2 := (hg.pl.at' x.1 hxk j).2 ⟨by omega, y.2, by rw [hy, e1]⟩
          rw [h1] at h2
          injection h2 with h2
          exact hne h2.symm) with h | h
        · exact h
        · exact absurd h (hleast j y hj e hne hy)
      obtain ⟨y0, y1, y2, y3⟩ := QG.cells D2.out.2.2.1 hx
      have S0 : Hid (CS w2 R w.heap.size g (c * 4) (.slice (some ⟨g, 0, none⟩) n cap) x.1 k w2.drew) := ⟨Below.drew (Below.refl _ _), D2.out.2.2.1.1.blk.cell 0 _ rfl, y0, y1, y2, D2.out.1.cell 0 _ rfl, D2.out.1.cell 1 _ rfl, D2.out.1.cell 2 _ rfl⟩
      have Y3 : Hid (∀ w', Below w2.heap.size w2 w' → w'.cell? ⟨g, c * 4 + 3, none⟩ = some (.string x.2)) := fun w' b => below_cell b y3
      have NX : Hid (∀ w', Below w2.heap.size w2 w' → Blk w.heap.size 24 (kyL k) w' ∧ Kp S w w' ∧ QG R bm g n cap S hp f w') := fun w' b => ⟨D2.out.1.below b, D2.out.2.1.trans (Kp.of_below b S) (fun _ _ h => h), D2.out.2.2.1.1.below b, D2.out.2.2.1.2⟩
      have GG : Hid (GS hp f i k Rr ∧ Up k hp i) := D2.out.2.2.2
      have CC : Hid (∀ w, Calls Tryd.prog 55 #[.agg #[.int .i64 k.d, .int .i64 k.l, .int .i64 k.n], .agg #[.int .i64 x.1.d, .int .i64 x.1.l, .int .i64 x.1.n]] w fun e w' => e = .returned (.int .i64 (cmpK k x.1)) ∧ Below w.heap.size w w') := fun w => C.out k x.1 w
      have SM := cmpK_small k x.1
      have NE : Hid ((cmpK k x.1 < 0 ↔ TqM.lt k x.1) ∧ (¬ TqM.lt k x.1 → TqM.lt x.1 k)) := ⟨cmpK_neg k x.1, fun h => by
        rcases lt_or k x.1 (fun e => D2.out.2.2.2.1.pl.fresh c x.2 (by omega) (by rw [hx, e])) with h1 | h1
        · exact absurd h1 h
        · exact h1⟩
      generalize cmpK k x.1 = q at *
      clear hx hc0 hci hleast y0 y1 y2 y3 D2 C hl
      go_upto_region 2 with fail
      go_region_held3 (fun w' => CS w2 R w.heap.size g (c * 4) (.slice (some ⟨g, 0, none⟩) n cap) x.1 k w') (first | assumption | exact S0.out | exact CS.keep hU (by assumption)) (first
        | (go_at_call 55; refine (CC.out _).mono ?_; rintro e w3 ⟨rfl, hU⟩))
      have S2 : Hid (CS w2 R w.heap.size g (c * 4) (.slice (some ⟨g, 0, none⟩) n cap) x.1 k w3) := by assumption
      clear S0 hU
      by_cases hc : q < 0
      · have FN : Hid (Dn k hp i) := fun j y hj e hy => by
          by_cases ej : j = c
          · subst ej
            rw [HX.out.1] at hy
            cases hy
            exact NE.out.1.1 hc
          · exact lt_trans (NE.out.1.1 hc) (LE.out j y hj e ej hy)
        have N2 := NX.out w3 S2.out.1
        have F2 : Hid (QG R bm g n cap S hp f w3 ∧ GS hp f i k Rr ∧ Kp S w w3 ∧ Up k hp i ∧ Dn k hp i) := ⟨N2.2.2, GG.out.1, N2.2.1, GG.out.2, FN.out⟩
        clear NE Y3 NX N2 CC LE FN
        go_wp2_with fail
        go_ret
        exact ⟨i, rfl, hp, f, F2.out⟩
      · obtain ⟨l0, y0, y1, y2⟩ : w3.cell? ⟨R, 0, none⟩ = some (.slice (some ⟨g, 0, none⟩) n cap) ∧ w3.cell? ⟨g, c * 4, none⟩ = some (.int .i64 x.1.d) ∧ w3.cell? ⟨g, c * 4 + 1, none⟩ = some (.int .i64 x.1.l) ∧ w3.cell? ⟨g, c * 4 + 2, none⟩ = some (.int .i64 x.1.n) := ⟨S2.out.2.1, S2.out.2.2.1, S2.out.2.2.2.1, S2.out.2.2.2.2.1⟩
        have y3 := Y3.out w3 S2.out.1
        have N2 : Hid (Blk w.heap.size 24 (kyL k) w3 ∧ Kp S w w3 ∧ QG R bm g n cap S hp f w3) := NX.out w3 S2.out.1
        have LT : Hid (TqM.lt x.1 k) := NE.out.2 (fun h => hc (NE.out.1.2 h))
        clear S2 Y3 NX CC NE
        go_wp2_with fail
        refine (LA.out hp f w3 x i N2.out.2.2 hin).mono ?_
        rintro e w4 ⟨rfl, q3, k3⟩
        have N3 : Hid (Blk w.heap.size 24 (kyL k) w4 ∧ Kp S w w4 ∧ QG R bm g n cap S (hp.set i x) (upd f x.1 (some i)) w4 ∧ GS (hp.set i x) (upd f x.1 (some i)) c k Rr ∧ Up k (hp.set i x) c) := by
          refine ⟨N2.out.1.kp k3 (fun h => by have := SB.out _ h; omega), N2.out.2.1.trans k3 (fun _ _ h => h), q3, GG.out.1.lower HX.out.2.1 HX.out.2.2 HX.out.1 LE.out, fun y _ hy => ?_⟩
          rw [HX.out.2.2, getset GG.out.1.lt, if_pos rfl] at hy
          cases hy
          exact LT.out
        have hai : i < c := by have := HX.out.2; omega
        clear q3 k3 N2 l0 y0 y1 y2 y3 HX GG LE LT
        go_wp2_with fail
        go_roundw
        case rel => exact ⟨c, rfl, hcn, hp.set i x, upd f x.1 (some i), N3.out⟩
        case measure => simp [intOf]; omega
    · have hl : hp.length = n := D2.out.2.2.1.2
      unfold Bel at hbel
      rw [if_neg (by omega)] at hbel
      obtain ⟨rfl, rfl⟩ := hbel
      have F2 : Hid (∀ m, QG R bm g n cap S hp f (w2.drewN m) ∧ GS hp f i k Rr ∧ Kp S w (w2.drewN m) ∧ Up k hp i ∧ Dn k hp i) := fun m => by
        have b := below_drewN (Below.refl w2.heap.size w2) m
        refine ⟨⟨D2.out.2.2.1.1.below b, D2.out.2.2.1.2⟩, D2.out.2.2.2.1, D2.out.2.1.trans (Kp.of_below b S) (fun _ _ h => h), D2.out.2.2.2.2, fun j y hj e hy => ?_⟩
        have := (List.getElem?_eq_some_iff.1 hy).1
        omega
      clear D2 hl C LA BE
      go_upto_region 2 with fail
      go_quiet (fail)
      go_wp2_with fail
      go_ret
      exact ⟨i, rfl, hp, f, F2.out _⟩

set_option maxRecDepth 20000 in
set_option maxHeartbeats 2000000 in
theorem settle_at (R bm g n cap : Nat) (S : Nat → Prop) (hp : List (Ky × ByteArray)) (f : Ky → Option Nat) (w : World) (t : Ky × ByteArray) (i : Nat) (Rr : List (Ky × ByteArray)) (hn : n ≤ 1000000000000) (h : QG R bm g n cap S hp f w) (hg : GS hp f i t.1 Rr) :
    Calls Tryd.prog 52 #[.pointer (some ⟨R, 0, none⟩), tmV t, .int .i64 (i : Int)] w fun e w' => e = .returned (.tuple #[]) ∧ ∃ hp' f', QG R bm g n cap S hp' f' w' ∧ HS hp' f' (t :: Rr) ∧ Kp S w w' := by
  have RA : Hid (∀ w, QG R bm g n cap S hp f w → Calls Tryd.prog 59 #[.pointer (some ⟨R, 0, none⟩), .int .i64 (i : Int), .agg #[.int .i64 t.1.d, .int .i64 t.1.l, .int .i64 t.1.n]] w (Moved R bm g n cap S t.1 Rr w (Up t.1))) := fun w h => raise_at R bm g n cap S hp f w t.1 i Rr h hg
  have LO : Hid (∀ hp f w (i : Nat), QG R bm g n cap S hp f w → GS hp f i t.1 Rr → Up t.1 hp i → Calls Tryd.prog 60 #[.pointer (some ⟨R, 0, none⟩), .int .i64 (i : Int), .agg #[.int .i64 t.1.d, .int .i64 t.1.l, .int .i64 t.1.n]] w (Moved R bm g n cap S t.1 Rr w fun hp i => Up t.1 hp i ∧ Dn t.1 hp i)) := fun hp f w i h hg hu => lower_at R bm g n cap S hp f w t.1 i Rr hn h hg hu
  have LA : Hid (∀ hp f w (i : Nat), QG R bm g n cap S hp f w → i < n → Calls Tryd.prog 61 #[.pointer (some ⟨R, 0, none⟩), .agg #[.int .i64 t.1.d, .int .i64 t.1.l, .int .i64 t.1.n, .string t.2], .int .i64 (i : Int)] w fun e w' => e = .returned (.tuple #[]) ∧ QG R bm g n cap S (hp.set i t) (upd f t.1 (some i)) w' ∧ Kp S w w') := fun hp f w i h hi => (lay_at R bm g n cap S hp f w t i _ rfl hi h.1).mono (by rintro e w' ⟨rfl, h1, h2⟩; exact ⟨rfl, ⟨h1, by rw [List.length_set]; exact h.2⟩, h2⟩)
  have SB : Hid (∀ g, S g → g < w.heap.size) := h.1.s
  have B0 : Hid (Blk w.heap.size 66 (tmL t) (w.alloc (.cells #[.int .i64 t.1.d, .int .i64 t.1.l, .int .i64 t.1.n, .string t.2] 66)) ∧ Kp S w (w.alloc (.cells #[.int .i64 t.1.d, .int .i64 t.1.l, .int .i64 t.1.n, .string t.2] 66)) ∧ QG R bm g n cap S hp f (w.alloc (.cells #[.int .i64 t.1.d, .int .i64 t.1.l, .int .i64 t.1.n, .string t.2] 66))) := ⟨Blk.new 66 (tmL t) w, Kp.of_below (below_alloc _ _) _, h.1.below (below_alloc _ _), h.2⟩
  clear h hg
  go_enter Tryd.func52, Tryd.ntmps52
  go_wp2_with fail
  refine (RA.out _ B0.out.2.2).mono ?_
  rintro e w2 ⟨i2, rfl, hp2, f2, q2, g2, k2, u2⟩
  have D2 : Hid (Blk w.heap.size 66 (tmL t) w2 ∧ Kp S w w2 ∧ QG R bm g n cap S hp2 f2 w2 ∧ GS hp2 f2 i2 t.1 Rr ∧ Up t.1 hp2 i2) := ⟨B0.out.1.kp k2 (fun h => by have := SB.out _ h; omega), B0.out.2.1.trans k2 (fun _ _ h => h), q2, g2, u2⟩
  have y0 := D2.out.1.cell 0 _ rfl
  have y1 := D2.out.1.cell 1 _ rfl
  have y2 := D2.out.1.cell 2 _ rfl
  clear q2 g2 k2 u2 B0 RA
  go_wp2_with fail
  refine (LO.out hp2 f2 w2 i2 D2.out.2.2.1 D2.out.2.2.2.1 D2.out.2.2.2.2).mono ?_
  rintro e w3 ⟨i3, rfl, hp3, f3, q3, g3, k3, u3⟩
  have D3 : Hid (Blk w.heap.size 66 (tmL t) w3 ∧ Kp S w w3 ∧ QG R bm g n cap S hp3 f3 w3 ∧ GS hp3 f3 i3 t.1 Rr ∧ Up t.1 hp3 i3 ∧ Dn t.1 hp3 i3) := ⟨D2.out.1.kp k3 (fun h => by have := SB.out _ h; omega), D2.out.2.1.trans k3 (fun _ _ h => h), q3, g3, u3⟩
  clear y0 y1 y2 q3 g3 k3 u3 D2 LO
  have y0 := D3.out.1.cell 0 _ rfl
  have y1 := D3.out.1.cell 1 _ rfl
  have y2 := D3.out.1.cell 2 _ rfl
  have y3 := D3.out.1.cell 3 _ rfl
  go_wp2_with fail
  refine (LA.out hp3 f3 w3 i3 D3.out.2.2.1 (by have := D3.out.2.2.2.1.lt; have := D3.out.2.2.1.2; omega)).mono ?_
  rintro e w4 ⟨rfl, q4, k4⟩
  have D4 : Hid (∃ hp' f', QG R bm g n cap S hp' f' w4 ∧ HS hp' f' (t :: Rr) ∧ Kp S w w4) := ⟨_, _, q4, D3.out.2.2.2.1.lay D3.out.2.2.2.2.1 D3.out.2.2.2.2.2, D3.out.2.1.trans k4 (fun _ _ h => h)⟩
  clear y0 y1 y2 y3 q4 k4 D3 LA
  go_wp2_with fail
  go_end0
  exact ⟨rfl, D4.out⟩
end TS
end Go.Proofs.YtfdehlfhnlgcjaaDoor
