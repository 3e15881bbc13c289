/-
  Ours: raise, below, lower, settle.
-/
import Derived.Test.YtfdehlfhnlgcjaaDoorTsRow
namespace Go.Proofs.YtfdehlfhnlgcjaaDoor
open Go.RowKit TqM

namespace TS
/-- A queue whose heap's block is known. -/
abbrev QG (R bm g n cap : Nat) (S : Nat → Prop) (hp : List (Ky × ByteArray)) (f : Ky → Option Nat) (w : World) : Prop := QV R bm S hp f (.slice (some ⟨g, 0, none⟩) n cap) w ∧ hp.length = n
theorem QG.cells {R bm g n cap : Nat} {S : Nat → Prop} {hp : List (Ky × ByteArray)} {f : Ky → Option Nat} {w : World} (h : QG R bm g n cap S hp f w) {i : Nat} {t : Ky × ByteArray} (hi : hp[i]? = some t) :
    w.cell? ⟨g, i * 4, none⟩ = some (.int .i64 t.1.d) ∧ w.cell? ⟨g, i * 4 + 1, none⟩ = some (.int .i64 t.1.l) ∧ w.cell? ⟨g, i * 4 + 2, none⟩ = some (.int .i64 t.1.n) ∧ w.cell? ⟨g, i * 4 + 3, none⟩ = some (.string t.2) := by
  rcases h.1.row.open with ⟨e, _⟩ | ⟨g', n', cap', cur, e, r⟩
  · cases e
  injection e with e1 e2 e3
  injection e1 with e1
  injection e1 with e1 _ _
  subst e1 e2 e3
  exact ⟨r.cell hi 0 _ rfl, r.cell hi 1 _ rfl, r.cell hi 2 _ rfl, r.cell hi 3 _ rfl⟩
theorem QG.le {R bm g n cap : Nat} {S : Nat → Prop} {hp : List (Ky × ByteArray)} {f : Ky → Option Nat} {w : World} (h : QG R bm g n cap S hp f w) : n ≤ cap ∧ cap ≤ 9223372036854775807 := by
  rcases h.1.row.open with ⟨e, _⟩ | ⟨g', n', cap', cur, e, r⟩
  · cases e
  injection e with e1 e2 e3
  subst e2 e3
  exact ⟨r.le, r.max⟩

/-- What a comparison wants: the queue's row, one key of the heap, one key apart. -/
abbrev CS (w : World) (R Q g o : Nat) (vh : Value) (x k : Ky) (w' : World) : Prop := Below w.heap.size w w' ∧ w'.cell? ⟨R, 0, none⟩ = some vh ∧
  w'.cell? ⟨g, o, none⟩ = some (.int .i64 x.d) ∧ w'.cell? ⟨g, o + 1, none⟩ = some (.int .i64 x.l) ∧ w'.cell? ⟨g, o + 2, none⟩ = some (.int .i64 x.n) ∧
  w'.cell? ⟨Q, 0, none⟩ = some (.int .i64 k.d) ∧ w'.cell? ⟨Q, 1, none⟩ = some (.int .i64 k.l) ∧ w'.cell? ⟨Q, 2, none⟩ = some (.int .i64 k.n)
theorem CS.keep {w w1 w2 : World} {R Q g o : Nat} {vh : Value} {x k : Ky} (b : Below w1.heap.size w1 w2) (h : CS w R Q g o vh x k w1) : CS w R Q g o vh x k w2 :=
  ⟨below_trans h.1 b, below_cell b h.2.1, below_cell b h.2.2.1, below_cell b h.2.2.2.1, below_cell b h.2.2.2.2.1, below_cell b h.2.2.2.2.2.1, below_cell b h.2.2.2.2.2.2.1, below_cell b h.2.2.2.2.2.2.2⟩

/-- What raise and lower leave. -/
def Moved (R bm g n cap : Nat) (S : Nat → Prop) (k : Ky) (Rr : List (Ky × ByteArray)) (w : World) (U : List (Ky × ByteArray) → Nat → Prop) (e : Ending) (w' : World) : Prop :=
  ∃ (i : Nat), e = .returned (.int .i64 (i : Int)) ∧ ∃ hp f, QG R bm g n cap S hp f w' ∧ GS hp f i k Rr ∧ Kp S w w' ∧ U hp i
def Up (k : Ky) (hp : List (Ky × ByteArray)) (i : Nat) : Prop := ∀ y, 0 < i → hp[(i - 1) / 2]? = some y → TqM.lt y.1 k
def Dn (k : Ky) (hp : List (Ky × ByteArray)) (i : Nat) : Prop := ∀ (j : Nat) (x : Ky × ByteArray), 0 < j → (j - 1) / 2 = i → hp[j]? = some x → TqM.lt k x.1

set_option maxRecDepth 20000 in
set_option maxHeartbeats 2000000 in
theorem raise_at (R bm g n cap : Nat) (S : Nat → Prop) (hp : List (Ky × ByteArray)) (f : Ky → Option Nat) (w : World) (k : Ky) (i : Nat) (Rr : List (Ky × ByteArray)) (h : QG R bm g n cap S hp f w) (hg : GS hp f i k Rr) :
    Calls Tryd.prog 59 #[.pointer (some ⟨R, 0, none⟩), .int .i64 (i : Int), kyV k] w (Moved R bm g n cap S k Rr w (Up k)) := by
  have C : Hid (∀ a b w, Calls Tryd.prog 55 #[kyV a, kyV b] w fun e w' => e = .returned (.int .i64 (cmpK a b)) ∧ Below w.heap.size w w') := compare_at
  have LA : Hid (∀ hp f w t (i : Nat), QG R bm g n cap S hp f w → i < n → Calls Tryd.prog 61 #[.pointer (some ⟨R, 0, none⟩), tmV t, .int .i64 (i : Int)] w fun e w' => e = .returned (.tuple #[]) ∧ QG R bm g n cap S (hp.set i t) (upd f t.1 (some i)) w' ∧ Kp S w w') := fun hp f w t i h hi => (lay_at R bm g n cap S hp f w t i _ rfl hi h.1).mono (by rintro e w' ⟨rfl, h1, h2⟩; exact ⟨rfl, ⟨h1, by rw [List.length_set]; exact h.2⟩, h2⟩)
  have B0 : Hid (Blk w.heap.size 24 (kyL k) (w.alloc (.cells #[.int .i64 k.d, .int .i64 k.l, .int .i64 k.n] 24)) ∧ Kp S w (w.alloc (.cells #[.int .i64 k.d, .int .i64 k.l, .int .i64 k.n] 24)) ∧ QG R bm g n cap S hp f (w.alloc (.cells #[.int .i64 k.d, .int .i64 k.l, .int .i64 k.n] 24))) := ⟨Blk.new 24 (kyL k) w, Kp.of_below (below_alloc _ _) _, h.1.below (below_alloc _ _), h.2⟩
  have SB : Hid (∀ g, S g → g < w.heap.size) := h.1.s
  have hle := h.le
  obtain ⟨h1, h2⟩ := hle
  have G0 : Hid (GS hp f i k Rr) := hg
  clear h hg
  go_enter Tryd.func59, Tryd.ntmps59
  go_wp2_with fail
  generalize w.alloc (.cells #[.int .i64 k.d, .int .i64 k.l, .int .i64 k.n] 24) = w1 at *
  go_loopw [1] (fun vg wr => ∃ i : Nat, vg = .int .i64 (i : Int) ∧ i < n ∧ ∃ hp f, Hid (Blk w.heap.size 24 (kyL k) wr ∧ Kp S w wr ∧ QG R bm g n cap S hp f wr ∧ GS hp f i k Rr)) (fun vg _ => (intOf vg).toNat)
  case atStart => exact ⟨i, rfl, by have := G0.out.lt; have := B0.out.2.2.2; omega, hp, f, B0.out.1, B0.out.2.1, B0.out.2.2, G0.out⟩
  case round =>
    obtain ⟨i, rfl, hin, hp, f, D⟩ := hrel
    by_cases hi : 0 < i
    · have hi' : (0 : Int) < (i : Int) := by omega
      obtain ⟨a, ha⟩ : ∃ a, (i - 1) / 2 = a := ⟨_, rfl⟩
      have han : a < n := by omega
      have key : Int.tdiv ((i : Int) - 1) 2 = (a : Int) := by rw [Int.tdiv_eq_ediv_of_nonneg (by omega)]; omega
      obtain ⟨x, hx⟩ : ∃ x, hp[a]? = some x := ⟨hp[a]'(by have := D.out.2.2.1.2; omega), List.getElem?_eq_getElem _⟩
      have HX : Hid (hp[a]? = some x ∧ (i - 1) / 2 = a) := ⟨hx, ha⟩
      obtain ⟨y0, y1, y2, y3⟩ := QG.cells D.out.2.2.1 hx
      have S0 : Hid (CS wr R w.heap.size g (a * 4) (.slice (some ⟨g, 0, none⟩) n cap) x.1 k wr.drew) := ⟨Below.drew (Below.refl _ _), D.out.2.2.1.1.blk.cell 0 _ rfl, y0, y1, y2, D.out.1.cell 0 _ rfl, D.out.1.cell 1 _ rfl, D.out.1.cell 2 _ rfl⟩
      have Y3 : Hid (∀ w', Below wr.heap.size wr w' → w'.cell? ⟨g, a * 4 + 3, none⟩ = some (.string x.2)) := fun w' b => below_cell b y3
      have NX : Hid (∀ w', Below wr.heap.size wr w' → Blk w.heap.size 24 (kyL k) w' ∧ Kp S w w' ∧ QG R bm g n cap S hp f w') := fun w' b => ⟨D.out.1.below b, D.out.2.1.trans (Kp.of_below b S) (fun _ _ h => h), D.out.2.2.1.1.below b, D.out.2.2.1.2⟩
      have GG : Hid (GS hp f i k Rr) := D.out.2.2.2
      have CC : Hid (∀ w, Calls Tryd.prog 55 #[.agg #[.int .i64 x.1.d, .int .i64 x.1.l, .int .i64 x.1.n], kyV k] w fun e w' => e = .returned (.int .i64 (cmpK x.1 k)) ∧ Below w.heap.size w w') := fun w => C.out x.1 k w
      have SM := cmpK_small x.1 k
      have NE : Hid (cmpK x.1 k < 0 ↔ TqM.lt x.1 k) := cmpK_neg x.1 k
      generalize cmpK x.1 k = c at *
      clear hx ha y0 y1 y2 y3 D B0 G0 C
      go_upto_region 3 with fail
      go_region_held3 (fun w' => CS wr R w.heap.size g (a * 4) (.slice (some ⟨g, 0, none⟩) n cap) x.1 k w') (first | assumption | exact S0.out | exact CS.keep hU (by assumption)) (first
        | (go_at_call 55; refine (CC.out _).mono ?_; rintro e w2 ⟨rfl, hU⟩))
      have S2 : Hid (CS wr R w.heap.size g (a * 4) (.slice (some ⟨g, 0, none⟩) n cap) x.1 k w2) := by assumption
      clear S0 hU
      by_cases hc : c < 0
      · have FN : Hid (Up k hp i) := fun y _ hy => by
          rw [HX.out.2, HX.out.1] at hy
          cases hy
          exact NE.out.1 hc
        have N2 := NX.out w2 S2.out.1
        have F2 : Hid (QG R bm g n cap S hp f w2 ∧ GS hp f i k Rr ∧ Kp S w w2 ∧ Up k hp i) := ⟨N2.2.2, GG.out, N2.2.1, FN.out⟩
        clear NE Y3 NX N2 CC
        go_wp2_with fail
        go_ret
        exact ⟨i, rfl, hp, f, F2.out⟩
      · obtain ⟨l0, y0, y1, y2⟩ : w2.cell? ⟨R, 0, none⟩ = some (.slice (some ⟨g, 0, none⟩) n cap) ∧ w2.cell? ⟨g, a * 4, none⟩ = some (.int .i64 x.1.d) ∧ w2.cell? ⟨g, a * 4 + 1, none⟩ = some (.int .i64 x.1.l) ∧ w2.cell? ⟨g, a * 4 + 2, none⟩ = some (.int .i64 x.1.n) := ⟨S2.out.2.1, S2.out.2.2.1, S2.out.2.2.2.1, S2.out.2.2.2.2.1⟩
        have y3 := Y3.out w2 S2.out.1
        have N2 : Hid (Blk w.heap.size 24 (kyL k) w2 ∧ Kp S w w2 ∧ QG R bm g n cap S hp f w2) := NX.out w2 S2.out.1
        clear S2 Y3 NX CC NE
        go_wp2_with fail
        refine (LA.out hp f w2 x i N2.out.2.2 hin).mono ?_
        rintro e w3 ⟨rfl, q3, k3⟩
        have N3 : Hid (Blk w.heap.size 24 (kyL k) w3 ∧ Kp S w w3 ∧ QG R bm g n cap S (hp.set i x) (upd f x.1 (some i)) w3 ∧ GS (hp.set i x) (upd f x.1 (some i)) a k Rr) := by
          refine ⟨N2.out.1.kp k3 (fun h => by have := SB.out _ h; omega), N2.out.2.1.trans k3 (fun _ _ h => h), q3, ?_⟩
          have := GG.out.raise (z := x) hi (by rw [HX.out.2]; exact HX.out.1)
          rw [HX.out.2] at this
          exact this
        have hai : a < i := by have := HX.out.2; omega
        clear q3 k3 N2 l0 y0 y1 y2 y3 HX GG
        go_wp2_with fail
        go_roundw
        case rel => exact ⟨a, rfl, han, hp.set i x, upd f x.1 (some i), N3.out⟩
        case measure => simp [intOf]; omega
    · have hi0 : i = 0 := by omega
      subst hi0
      have F2 : Hid (QG R bm g n cap S hp f wr ∧ GS hp f 0 k Rr ∧ Kp S w wr ∧ Up k hp 0) := ⟨D.out.2.2.1, D.out.2.2.2, D.out.2.1, fun y h => by omega⟩
      go_wp2_with fail
      go_ret
      exact ⟨0, rfl, hp, f, F2.out⟩
end TS
end Go.Proofs.YtfdehlfhnlgcjaaDoor
