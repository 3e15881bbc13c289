/-
  Ours: an operation of a script; handed; done.
-/
import Derived.Test.YtiefnomldfhhnaaDskWorks
import Derived.Deep.RegionWith
import Derived.Deep.CutRange
namespace Go.Proofs.Ytiefnomldfhhnaa
open Go.RowKit

structure OpD where
  kind : Int
  other : Bool
  file : Int
  a : Int
  b : Int
  data : List Nat
def opd (o : OpD) (x : Option Addr) (c : Nat) : Value := .agg #[.int .i64 o.kind, .bool o.other, .int .i64 o.file, .int .i64 o.a, .int .i64 o.b, .slice x o.data.length c]
abbrev OD (k : Int) (ot : Bool) (f a b : Int) (x : Option Addr) (n c : Nat) : List Value := [.int .i64 k, .bool ot, .int .i64 f, .int .i64 a, .int .i64 b, .slice x n c]
def handedL (o : OpD) : List Nat := if o.kind ≠ 2 then o.data else if o.a < 0 ∨ 16777224 < o.a then [] else List.replicate o.a.toNat 0
theorem zeros_row (n : Nat) : (madeCells (Value.int .u8 0).cells (n * 1)).toList = (List.replicate n 0).map bv := by
  apply List.ext_getElem
  · simp [madeCells]
  · intro i h1 h2
    simp [madeCells, Value.cells, bv, Nat.mod_one]

set_option maxRecDepth 20000 in
set_option maxHeartbeats 1000000 in
theorem handed_at (o : OpD) (x : Option Addr) (c : Nat) (w : World) (hl : o.data.length ≤ 1048576) (h : RdB w (.slice x o.data.length c) o.data) : Calls Try.prog 26 #[opd o x c] w (NewB w (handedL o)) := by
  obtain ⟨k, ot, f, a, b, ds⟩ := o
  simp only at hl h
  have BA := below_alloc w (.cells (OD k ot f a b x ds.length c).toArray 28)
  have h1 := Rd.later h BA
  have CP : Hid (∀ w, RdB w (.slice x ds.length c) ds → Calls Try.prog 10 #[.slice x ds.length c] w (NewB w ds)) := fun w h => lcopied_at ds _ w (by omega) h
  unfold opd handedL
  simp only
  clear h
  by_cases hk : k = 2
  · subst hk
    have e1 : ((2 : Int) != 2) = false := rfl
    rw [if_neg (by simp)]
    by_cases ha : a < 0 ∨ 16777224 < a
    · rw [if_pos ha]
      have FIN : Hid (Below w.heap.size w (w.alloc (.cells (OD 2 ot f a b x ds.length c).toArray 28))) := BA
      clear h1 CP BA
      by_cases h0 : a < 0
      · have d1 : decide (a < 0) = true := decide_eq_true h0
        go_enter Try.func26, Try.ntmps26
        go_wp2_with fail
        go_ret
        exact ⟨_, rfl, RowV.nil _ _ _, FIN.out⟩
      · have d1 : decide (a < 0) = false := decide_eq_false h0
        have d2 : decide (16777224 < a) = true := decide_eq_true (by omega)
        go_enter Try.func26, Try.ntmps26
        go_wp2_with fail
        go_ret
        exact ⟨_, rfl, RowV.nil _ _ _, FIN.out⟩
    · rw [if_neg ha]
      obtain ⟨m, rfl⟩ : ∃ m : Nat, a = (m : Int) := ⟨a.toNat, by omega⟩
      rw [Int.toNat_natCast]
      obtain ⟨i0, hi, hz0, hz1, hz2⟩ := info_parts infoB
      have d1 : decide ((m : Int) < 0) = false := decide_eq_false (by omega)
      have d2 : decide (16777224 < (m : Int)) = false := decide_eq_false (by omega)
      have b2 : i0.bytes * m ≤ 281474976710656 := by rw [hz2]; omega
      have b3 : m ≤ maxLen := by unfold maxLen; omega
      have FB := BA
      clear h1 CP
      go_enter Try.func26, Try.ntmps26
      go_wp2_with (refine wpList_make_full _ rfl (.tmp 18) (.tmp 18) 22 rfl w.heap.size 5 i0 (.int .u8 0) 1 underB hi hz0 hz1 .i64 .i64 _ _ m rfl rfl rfl rfl b2 b3 BA.size ?_; intro w2 r2 g2)
      go_ret
      refine ⟨.slice (some ⟨w.heap.size + 1, 0, none⟩) m m, rfl, ?_, below_trans FB (below_none g2)⟩
      rw [zeros_row] at r2
      rw [show (w.alloc (.cells (OD 2 ot f (m : Int) b x ds.length c).toArray 28)).heap.size = w.heap.size + 1 by simp] at r2
      unfold RowB RowV
      rw [List.length_map, List.length_replicate]
      exact r2
  · have e1 : (k != 2) = true := by simpa using hk
    rw [if_pos (by simpa using hk)]
    have FB : Hid (Below _ _ _) := BA
    clear BA
    go_enter Try.func26, Try.ntmps26
    go_wp2_with fail
    refine (CP.out _ h1).mono ?_
    rintro e w2 ⟨v2, rfl, r2, b2⟩
    have FIN : Hid (RowB 5 w.heap.size w2 v2 ds ∧ Below w.heap.size w w2) := ⟨r2.mono FB.out.size, below_trans FB.out b2⟩
    clear r2 b2 h1 CP
    go_wp2_with fail
    go_ret
    exact ⟨v2, rfl, FIN.out⟩

/-- What a step does to a disk, and its answer. -/
def Dk.done (t : Dk) (o : OpD) : Dk × Int :=
  if o.kind = 1 ∨ o.kind = 2 then t.append o.file (handedL o)
  else if o.kind = 3 then t.sync o.file
  else if o.kind = 4 then t.trunc o.file o.a
  else if o.kind = 7 then t.arm o.a o.b
  else if o.kind = 8 then ({ t with q := [] }, 0)
  else if o.kind = 9 then t.restart
  else (t, 0)

theorem DkPost.pre {R : Nat} {S : Nat → Prop} {t : Dk} {w w1 w' : World} (hb : Below w.heap.size w w1) (p : DkPost R S w1 t w') : DkPost R S w t w' := by
  obtain ⟨S', p1, p2, p3⟩ := p
  exact ⟨S', p1, fun g hg => (p2 g hg).imp id (fun h => Nat.le_trans hb.size h), (Kp.of_below hb S).trans p3 (fun _ _ h => h)⟩

end Go.Proofs.Ytiefnomldfhhnaa
