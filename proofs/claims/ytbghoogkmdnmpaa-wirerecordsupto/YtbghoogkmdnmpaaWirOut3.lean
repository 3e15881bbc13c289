/-
  Ours: the reference's Out.num, Out.n and Out.text.
-/
import Derived.Test.YtbghoogkmdnmpaaWirOut2
namespace Go.Proofs.Ytbghoogkmdnmpaa
open Go.RowKit

theorem OutS.own {K : Nat → Prop} {R base : Nat} {bs : List Nat} {w w' : World} (h : OutS K R base bs w) (hb : Below w.heap.size w w') : ∀ v, w'.cell? ⟨R, 0, none⟩ = some v → ∀ g, v.ownBlock = some g → g < w.heap.size := by
  obtain ⟨v0, c, r, a⟩ := h.row
  intro v hv g hg
  have := (hb.cell (p := ⟨R, 0, none⟩) h.lt).trans c
  rw [this] at hv
  cases hv
  exact RowV.block_lt r hg
theorem OutS.beside {K : Nat → Prop} {R base : Nat} {bs ts : List Nat} {w w' : World} {v' : Value} (h : OutS K R base bs w) (hb : Below w.heap.size w w') (hr : RowB 5 w.heap.size w' v' ts) : OutS (fun g => K g ∨ v'.ownBlock = some g) R base bs w' := by
  refine (h.later hb).more _ fun g hg => hg.imp id fun e => ⟨RowV.block_lt hr e, ?_, fun v hv e' => ?_⟩
  · have := RowV.block_ge hr e
    have := h.lt
    omega
  · have := h.own hb v hv g e'
    have := RowV.block_ge hr e
    omega
theorem OutS.fewer {K K' : Nat → Prop} {R base : Nat} {bs : List Nat} {w : World} (h : OutS K R base bs w) (hk : ∀ g, K' g → K g) : OutS K' R base bs w := h.more K' fun g hg => .inl (hk g hg)

theorem outNum_at (K : Nat → Prop) (R base : Nat) (bs : List Nat) (y : Int) (hy : I64 y) (w : World) (h : OutS K R base bs w) (hl : bs.length ≤ 900000000000) :
    Calls Try.prog 120 #[.pointer (some ⟨R, 0, none⟩), .int .i64 y] w fun e w' => e = .returned (.tuple #[]) ∧ OutS K R base (bs ++ putI y) w' ∧ Fr K base w w' := by
  have P : Hid (Calls Try.prog 124 #[.int .i64 y] w (NewB w (putI y))) := rputInt_at y hy.1 hy.2 w
  have ln := putI_len y hy
  have B : Hid (∀ w1 v1, Below w.heap.size w w1 → RowB 5 w.heap.size w1 v1 (putI y) → Calls Try.prog 122 #[.pointer (some ⟨R, 0, none⟩), v1] w1 fun e w' => e = .returned (.tuple #[]) ∧ OutS K R base (bs ++ putI y) w' ∧ Fr K base w w') := fun w1 v1 b1 r1 => by
    refine (outBytes_at _ R base bs _ v1 w1 (h.beside b1 r1) (RowV.rd r1) (fun g hg => .inr hg) (by omega)).mono ?_
    rintro e w2 ⟨rfl, o2, f2⟩
    exact ⟨rfl, o2.fewer (fun g hg => .inl hg), (h.fr b1).trans (f2.less fun g hg => .inl hg)⟩
  clear h hl ln hy
  generalize putI y = ts at *
  go_enter Try.func120, Try.ntmps120
  go_wp2_with fail
  refine P.out.mono ?_
  rintro e w1 ⟨v1, rfl, r1, b1⟩
  have R1 : Hid (RowB 5 w.heap.size w1 v1 ts) := r1
  clear r1
  go_wp2_with fail
  refine (B.out w1 v1 b1 R1.out).mono ?_
  rintro e w2 ⟨rfl, o2, f2⟩
  have O2 : Hid (OutS K R base (bs ++ ts) w2) := o2
  clear o2
  go_wp2_with fail
  go_end0
  exact ⟨rfl, O2.out, f2⟩

theorem outN_at (K : Nat → Prop) (R base : Nat) (bs : List Nat) (y : Int) (hy : I64 y) (w : World) (h : OutS K R base bs w) (hl : bs.length ≤ 900000000000) :
    Calls Try.prog 95 #[.pointer (some ⟨R, 0, none⟩), .int .i64 y] w fun e w' => e = .returned (.tuple #[]) ∧ OutS K R base (bs ++ putI y) w' ∧ Fr K base w w' := by
  have P : Hid (Calls Try.prog 124 #[.int .i64 y] w (NewB w (putI y))) := rputInt_at y hy.1 hy.2 w
  have ln := putI_len y hy
  have B : Hid (∀ w1 v1, Below w.heap.size w w1 → RowB 5 w.heap.size w1 v1 (putI y) → Calls Try.prog 122 #[.pointer (some ⟨R, 0, none⟩), v1] w1 fun e w' => e = .returned (.tuple #[]) ∧ OutS K R base (bs ++ putI y) w' ∧ Fr K base w w') := fun w1 v1 b1 r1 => by
    refine (outBytes_at _ R base bs _ v1 w1 (h.beside b1 r1) (RowV.rd r1) (fun g hg => .inr hg) (by omega)).mono ?_
    rintro e w2 ⟨rfl, o2, f2⟩
    exact ⟨rfl, o2.fewer (fun g hg => .inl hg), (h.fr b1).trans (f2.less fun g hg => .inl hg)⟩
  clear h hl ln hy
  generalize putI y = ts at *
  go_enter Try.func95, Try.ntmps95
  go_wp2_with fail
  refine P.out.mono ?_
  rintro e w1 ⟨v1, rfl, r1, b1⟩
  have R1 : Hid (RowB 5 w.heap.size w1 v1 ts) := r1
  clear r1
  go_wp2_with fail
  refine (B.out w1 v1 b1 R1.out).mono ?_
  rintro e w2 ⟨rfl, o2, f2⟩
  have O2 : Hid (OutS K R base (bs ++ ts) w2) := o2
  clear o2
  go_wp2_with fail
  go_end0
  exact ⟨rfl, O2.out, f2⟩

theorem putT_len (y : ByteArray) (hy : y.size ≤ 1000000000) : (putT (sB y)).length ≤ 1000000010 := by
  have h1 := put_len10 (sB y).length (by rw [sB_len]; omega)
  have h2 := sB_len y
  unfold putT
  rw [List.length_append]
  omega

theorem outText_at (K : Nat → Prop) (R base : Nat) (bs : List Nat) (y : ByteArray) (hy : y.size ≤ 1000000000) (w : World) (h : OutS K R base bs w) (hl : bs.length ≤ 900000000000) :
    Calls Try.prog 121 #[.pointer (some ⟨R, 0, none⟩), .string y] w fun e w' => e = .returned (.tuple #[]) ∧ OutS K R base (bs ++ putT (sB y)) w' ∧ Fr K base w w' := by
  have P : Hid (Calls Try.prog 139 #[.string y] w (NewB w (putT (sB y)))) := rputText_at y hy w
  have ln := putT_len y hy
  have B : Hid (∀ w1 v1, Below w.heap.size w w1 → RowB 5 w.heap.size w1 v1 (putT (sB y)) → Calls Try.prog 122 #[.pointer (some ⟨R, 0, none⟩), v1] w1 fun e w' => e = .returned (.tuple #[]) ∧ OutS K R base (bs ++ putT (sB y)) w' ∧ Fr K base w w') := fun w1 v1 b1 r1 => by
    refine (outBytes_at _ R base bs _ v1 w1 (h.beside b1 r1) (RowV.rd r1) (fun g hg => .inr hg) (by omega)).mono ?_
    rintro e w2 ⟨rfl, o2, f2⟩
    exact ⟨rfl, o2.fewer (fun g hg => .inl hg), (h.fr b1).trans (f2.less fun g hg => .inl hg)⟩
  clear h hl ln hy
  generalize putT (sB y) = ts at *
  go_enter Try.func121, Try.ntmps121
  go_wp2_with fail
  refine P.out.mono ?_
  rintro e w1 ⟨v1, rfl, r1, b1⟩
  have R1 : Hid (RowB 5 w.heap.size w1 v1 ts) := r1
  clear r1
  go_wp2_with fail
  refine (B.out w1 v1 b1 R1.out).mono ?_
  rintro e w2 ⟨rfl, o2, f2⟩
  have O2 : Hid (OutS K R base (bs ++ ts) w2) := o2
  clear o2
  go_wp2_with fail
  go_end0
  exact ⟨rfl, O2.out, f2⟩
end Go.Proofs.Ytbghoogkmdnmpaa
