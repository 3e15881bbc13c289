/-
  Ours: the places in memory; the contract of the comparing closure; slices.insertionSortCmpFunc walked.
-/
import Derived.Test.YtfdahdloihgjeacDoorProg
import Derived.Test.YtfdahdloihgjeacDoorStable
import Derived.WalkKit
import Derived.WalkSpells
import Derived.WalkLawsBesides
import Derived.RowKit3
import Derived.Deep.QuietTactic
import Derived.BigQuiet
import Derived.RegionTactic
import Derived.BigRegion
namespace Go.Proofs.YtfdahdloihgjeacDoor
open Go.RowKit Stable

/-- Nothing but the row g has turned (and the count of draws). -/
structure Only (g : Nat) (w w' : World) : Prop where
  os : w'.os = w.os
  tape : w'.tape = w.tape
  output : w'.output = w.output
  size : w'.heap.size = w.heap.size
  block : ∀ k, k ≠ g → w'.heap[k]? = w.heap[k]?

theorem Only.refl (g : Nat) (w : World) : Only g w w := ⟨rfl, rfl, rfl, rfl, fun _ _ => rfl⟩
theorem Only.trans {g : Nat} {a b c : World} (h : Only g a b) (k : Only g b c) : Only g a c :=
  ⟨k.os.trans h.os, k.tape.trans h.tape, k.output.trans h.output, k.size.trans h.size, fun i hi => (k.block i hi).trans (h.block i hi)⟩
theorem Only.draws {g : Nat} {a b : World} (h : Only g a b) (n : Nat) : Only g a (b.drewN n) := ⟨h.os, h.tape, h.output, h.size, h.block⟩
theorem Only.drew {g : Nat} {a b : World} (h : Only g a b) : Only g a b.drew := ⟨h.os, h.tape, h.output, h.size, h.block⟩
theorem Only.setCell {g i : Nat} {a b : World} (h : Only g a b) (v : Value) : Only g a (b.setCell ⟨g, i, none⟩ v) :=
  ⟨h.os, h.tape, h.output, by rw [World.size_setCell]; exact h.size, fun k hk => (Below.heap_setCell b ⟨g, i, none⟩ v k hk).trans (h.block k hk)⟩
theorem Only.cell {g : Nat} {a b : World} (h : Only g a b) {p : Addr} (hp : p.block ≠ g) : b.cell? p = a.cell? p := World.cell?_of_block (w := a) (h.block p.block hp)

/-- The row g holds the places f. -/
def Cells (g n : Nat) (w : World) (f : Nat → Nat) : Prop :=
  ∃ cur : Array Value, w.heap[g]? = some (.cells cur 3 (0, 0)) ∧ n ≤ cur.size ∧ ∀ i, i < n → cur[i]? = some (.int .i64 (f i : Int))

theorem Cells.cell {g n : Nat} {w : World} {f : Nat → Nat} (h : Cells g n w f) {i : Nat} (hi : i < n) : w.cell? ⟨g, i, none⟩ = some (.int .i64 (f i : Int)) := by
  obtain ⟨cur, hg, _, hc⟩ := h
  rw [cell_of_row w g i cur _ (0, 0) hg]; exact hc i hi
theorem Cells.frozen {g n : Nat} {w : World} {f : Nat → Nat} (h : Cells g n w f) (i : Nat) : w.frozen? ⟨g, i, none⟩ = false := by
  obtain ⟨cur, hg, _⟩ := h
  simp [World.frozen?, hg]
theorem Cells.set {g n : Nat} {w : World} {f : Nat → Nat} (h : Cells g n w f) {i : Nat} (hi : i < n) (x : Nat) : Cells g n (w.setCell ⟨g, i, none⟩ (.int .i64 (x : Int))) (upd f i x) := by
  obtain ⟨cur, hg, hn, hc⟩ := h
  refine ⟨cur.setIfInBounds i (.int .i64 (x : Int)), heap_setCell_same w g i cur _ _ hg, by simpa using hn, fun k hk => ?_⟩
  unfold upd
  by_cases e : k = i
  · subst e; rw [if_pos rfl, Array.getElem?_setIfInBounds_self_of_lt (by omega)]
  · rw [if_neg e, Array.getElem?_setIfInBounds_ne (by omega)]; exact hc k hk
theorem Cells.draws {g n : Nat} {w : World} {f : Nat → Nat} (h : Cells g n w f) (m : Nat) : Cells g n (w.drewN m) f := h
theorem Cells.congr {g n : Nat} {w : World} {f f' : Nat → Nat} (h : Cells g n w f) (e : f = f') : Cells g n w f' := e ▸ h

/-- What the closure reads: the box of the captured slice, and the rests. -/
structure Env (g n bx gr o cap : Nat) (R : Nat → Int) (w : World) : Prop where
  hbx : bx ≠ g
  hgr : gr ≠ g
  box : w.cell? ⟨bx, 0, none⟩ = some (.slice (some ⟨gr, o, none⟩) n cap)
  rests : ∀ i, i < n → w.cell? ⟨gr, o + i, none⟩ = some (.int .i64 (R i))
theorem Env.later {g n bx gr o cap : Nat} {R : Nat → Int} {w w' : World} (h : Env g n bx gr o cap R w) (k : Only g w w') : Env g n bx gr o cap R w' :=
  ⟨h.hbx, h.hgr, (k.cell (p := ⟨bx, 0, none⟩) h.hbx).trans h.box, fun i hi => (k.cell (p := ⟨gr, o + i, none⟩) h.hgr).trans (h.rests i hi)⟩

def cmpV (x y : Int) : Int := if x < y then -1 else if y < x then 1 else 0
theorem cmpV_neg (x y : Int) : decide (cmpV x y < 0) = decide (x < y) := by
  unfold cmpV
  by_cases h : x < y
  · simp [h]
  · by_cases h2 : y < x <;> simp [h, h2]

theorem compare_any (x y : Int) (w : World) : Calls Tryd.prog 64 #[.int .i64 x, .int .i64 y] w fun e w' => e = .returned (.int .i64 (cmpV x y)) ∧ w' = w := by
  have ex : (x != x) = false := by simp
  have ey : (y != y) = false := by simp
  by_cases h : x < y
  · have e : cmpV x y = -1 := by simp [cmpV, h]
    rw [e]; clear e
    go_enter Tryd.func64, Tryd.ntmps64
    go_wp2
    go_ret
    exact ⟨rfl, rfl⟩
  · by_cases h2 : y < x
    · have e : cmpV x y = 1 := by simp [cmpV, h, h2]
      rw [e]; clear e
      go_enter Tryd.func64, Tryd.ntmps64
      go_wp2
      go_ret
      exact ⟨rfl, rfl⟩
    · have e : cmpV x y = 0 := by simp [cmpV, h, h2]
      rw [e]; clear e
      go_enter Tryd.func64, Tryd.ntmps64
      go_wp2
      go_ret
      exact ⟨rfl, rfl⟩

set_option maxHeartbeats 400000 in
theorem closure_any {g n bx gr o cap : Nat} {R : Nat → Int} {w : World} (h : Env g n bx gr o cap R w) (x y : Nat) (hx : x < n) (hy : y < n) :
    Calls Tryd.prog 63 #[.int .i64 (x : Int), .int .i64 (y : Int), .pointer (some ⟨bx, 0, none⟩)] w fun e w' => e = .returned (.int .i64 (cmpV (R y) (R x))) ∧ ∃ m, w' = w.drewN m := by
  have c1 := h.box
  have c2 := h.rests x hx
  have c3 := h.rests y hy
  have CC : Hid (∀ w, Calls Tryd.prog 64 #[.int .i64 (R y), .int .i64 (R x)] w fun e w' => e = .returned (.int .i64 (cmpV (R y) (R x))) ∧ w' = w) := fun w => compare_any _ _ w
  have x1 : (x : Int) < (n : Int) := by omega
  have y1 : (y : Int) < (n : Int) := by omega
  generalize cmpV (R y) (R x) = V at *
  generalize R x = rx at *
  generalize R y = ry at *
  clear h
  go_enter Tryd.func63, Tryd.ntmps63
  go_wp2
  go_quiet ((go_at_call 64; exact Calls.quiet_of_same (CC.out _)))
  go_wp2
  go_ret
  exact ⟨rfl, _, rfl⟩

/-- The comparing closure, as a value. -/
def clo (bx : Nat) : Value := .func (.func 63) #[] #[.pointer (some ⟨bx, 0, none⟩)]

theorem shuf_val {a b : Nat} {f f' : Nat → Nat} (h : Shuf a b f f') {n : Nat} (hb : b ≤ n) (hv : ∀ i, i < n → f i < n) : ∀ i, i < n → f' i < n := by
  intro i hi
  by_cases hab : a ≤ i ∧ i < b
  · obtain ⟨j, h1, h2, e⟩ := h.into i hab.1 hab.2
    rw [e]; exact hv j (by omega)
  · rw [h.out i (by omega)]; exact hv i hi

set_option maxHeartbeats 2000000 in
theorem insertion_any {g n bx gr o cap cap0 a b : Nat} {R : Nat → Int} {f : Nat → Nat} {w : World} (hE : Env g n bx gr o cap R w) (hC : Cells g n w f) (hab : a < b) (hbn : b ≤ n) (hn : n ≤ 1048576)
    (hv : ∀ i, i < n → f i < n) (hinc : ∀ p q, a ≤ p → p < q → q < b → f p < f q) :
    Calls Tryd.prog 81 #[.slice (some ⟨g, 0, none⟩) n cap0, .int .i64 (a : Int), .int .i64 (b : Int), clo bx] w fun e w' =>
      e = .returned (.tuple #[]) ∧ Only g w w' ∧ ∃ f', Cells g n w' f' ∧ Shuf a b f f' ∧ Sorted R a b f' := by
  unfold clo
  go_enter Tryd.func81, Tryd.ntmps81
  go_wp2
  go_loopw [8, 9] (fun i _ wr => ∃ (k : Nat) (fk : Nat → Nat), i = .int .i64 (k : Int) ∧ a + 1 ≤ k ∧ k ≤ b ∧ Only g w wr ∧ Cells g n wr fk ∧ Shuf a k f fk ∧ Sorted R a k fk) (fun i _ _ => b - (intOf i).toNat)
  case atStart => exact ⟨a + 1, f, by go_num, by omega, by omega, Only.refl _ _, hC, Shuf.refl _ _ _, fun i j h1 h2 h3 => by omega⟩
  case round =>
    obtain ⟨k, fk, rfl, hk1, hk2, hO, hCk, hSh, hSo⟩ := hrel
    by_cases hlt : (k : Int) < (b : Int)
    · go_wp2
      go_loopw [9] (fun j wr => ∃ (t : Nat) (fj : Nat → Nat), j = .int .i64 (t : Int) ∧ a ≤ t ∧ t ≤ k ∧ Only g w wr ∧ Cells g n wr fj ∧ Shuf a (k + 1) f fj ∧ Ins R a k t fj) (fun j _ => (intOf j).toNat)
      case atStart =>
        refine ⟨k, fk, rfl, by omega, by omega, hO, hCk, hSh.wide (by omega) (by omega), Ins.start hSo fun p h1 h2 => ?_⟩
        obtain ⟨q, q1, q2, e⟩ := hSh.into p h1 h2
        rw [e, hSh.out k (by omega)]
        exact hinc q k q1 q2 (by omega)
      case round =>
        clear hO hCk hSh hSo
        obtain ⟨t, fj, rfl, ht1, ht2, hO, hCj, hSh, hI⟩ := hrel
        by_cases hta : a < t
        · obtain ⟨t, rfl⟩ : ∃ s, t = s + 1 := ⟨t - 1, by omega⟩
          have hEj := hE.later hO
          have vj := shuf_val hSh (by omega) hv
          have c1 := hCj.cell (i := t + 1) (by omega)
          have c2 := hCj.cell (i := t) (by omega)
          have CL : Hid (∀ m, Calls Tryd.prog 63 #[.int .i64 (fj (t + 1) : Int), .int .i64 (fj t : Int), .pointer (some ⟨bx, 0, none⟩)] (wr.drewN m) fun e w' => e = .returned (.int .i64 (cmpV (R (fj t)) (R (fj (t + 1))))) ∧ ∃ m', w' = (wr.drewN m).drewN m') :=
            fun m => closure_any (hEj.later ((Only.refl _ _).draws m)) (fj (t + 1)) (fj t) (vj _ (by omega)) (vj _ (by omega))
          have dv := cmpV_neg (R (fj t)) (R (fj (t + 1)))
          have hta' : (a : Int) < ((t : Int) + 1) := by omega
          have HI : Hid (Ins R a k (t + 1) fj) := hI
          have HS : Hid (Shuf a (k + 1) f fj) := hSh
          clear hI hSh hEj
          have fz := hCj.frozen (t + 1)
          have fz2 := hCj.frozen t
          have HC : Hid (∀ m, Cells g n (((wr.drewN m).setCell ⟨g, t + 1, none⟩ (.int .i64 (fj t : Int))).setCell ⟨g, t, none⟩ (.int .i64 (fj (t + 1) : Int))) (swap fj (t + 1) t)) :=
            fun m => (((hCj.draws m).set (i := t + 1) (by omega) (fj t)).set (i := t) (by omega) (fj (t + 1))).congr (swap_eq fj (t + 1) t)
          have HO : Hid (∀ m, Only g w (((wr.drewN m).setCell ⟨g, t + 1, none⟩ (.int .i64 (fj t : Int))).setCell ⟨g, t, none⟩ (.int .i64 (fj (t + 1) : Int)))) := fun m => ((hO.draws m).setCell _).setCell _
          by_cases hc : R (fj t) < R (fj (t + 1))
          · rw [decide_eq_true hc] at dv
            have HN : Hid (Ins R a k t (swap fj (t + 1) t)) := HI.out.down (by omega) (by omega) hc
            have HSN : Hid (Shuf a (k + 1) f (swap fj (t + 1) t)) := HS.out.trans (shuf_swap fj ⟨by omega, by omega⟩ ⟨by omega, by omega⟩)
            generalize cmpV (R (fj t)) (R (fj (t + 1))) = V at *
            generalize hx : fj (t + 1) = x at *
            generalize hy : fj t = y at *
            have dv' : V < 0 := of_decide_eq_true dv
            clear hx hy hc dv hv hinc vj hCj hO hE hC
            go_wp2
            go_quiet ((go_at_call 63; exact Calls.quiet_of (CL.out _)))
            go_wp2
            go_region
            go_wp2
            go_roundw
            case rel => exact ⟨t, _, by go_num, by omega, by omega, HO.out _, HC.out _, HSN.out, HN.out⟩
            case measure => simp [intOf]
          · rw [decide_eq_false hc] at dv
            have HD : Hid (Sorted R a (k + 1) fj) := HI.out.stop (by omega) (by omega) (fun _ => by simpa using hc)
            have CK := hCj
            have OK := hO
            generalize cmpV (R (fj t)) (R (fj (t + 1))) = V at *
            have dv' : ¬ V < 0 := of_decide_eq_false dv
            have HCK : Hid (Cells g n wr fj) := CK
            have HOK : Hid (Only g w wr) := OK
            generalize hx : fj (t + 1) = x at *
            generalize hy : fj t = y at *
            clear hx hy hc dv hv hinc vj hCj hO hE hC CK OK
            go_wp2
            go_quiet ((go_at_call 63; exact Calls.quiet_of (CL.out _)))
            go_wp2
            go_roundw
            case rel => exact ⟨k + 1, fj, by go_num, by omega, by omega, HOK.out.draws _, HCK.out.draws _, HS.out, HD.out⟩
            case measure => simp [intOf]; omega
        · obtain rfl : t = a := by omega
          have HD : Hid (Sorted R t (k + 1) fj) := hI.stop (by omega) (by omega) (fun h => by omega)
          have da : decide ((t : Int) < (t : Int)) = false := by simp
          go_wp2
          go_quiet (fail)
          go_wp2
          go_roundw
          case rel => exact ⟨k + 1, fj, by go_num, by omega, by omega, hO.draws _, hCj.draws _, hSh, HD.out⟩
          case measure => simp [intOf]; omega
    · obtain rfl : k = b := by omega
      go_wp2
      go_end0
      exact ⟨rfl, hO, fk, hCk, hSh, hSo⟩

end Go.Proofs.YtfdahdloihgjeacDoor
