/-
  Ours: the program's whole[Record] and DecodeRecord.
-/
import Derived.Test.YtdbjjeaflfoppaaWirRecP
namespace Go.Proofs.Ytdbjjeaflfoppaa
open Go.RowKit

/-- What bytes read as, whole. -/
def decR (bs : List Nat) : (Int × OpV × List Int) × Bool := match (recR bs).2 with
  | some q => if q = bs.length then ((recR bs).1, true) else ((0, opZ, []), false)
  | none => ((0, opZ, []), false)

theorem below_past2 {w a b : World} {G : Nat} (h : Below w.heap.size w a) (k : a.grownBy b (some G)) (hG : w.heap.size ≤ G) : Below w.heap.size w b :=
  ⟨k.os.trans h.os, k.tape.trans h.tape, k.output.trans h.output, Nat.le_trans h.size k.size, fun i hi => (k.block i (Nat.lt_of_lt_of_le hi h.size) (fun e => by injection e with e; omega)).trans (h.block i hi)⟩

set_option maxRecDepth 20000 in
set_option maxHeartbeats 4000000 in
theorem wholeRec_at (bs : List Nat) (hb : ∀ c ∈ bs, c < 256) (hl : bs.length ≤ 1000000000000) (R : Nat) (v u0 u1 : Value) (w : World) (ty : TypeId) (h : Blk R ty [u0, u1, .bool false] w) (hr : RdB w v bs) (ha : 0 < bs.length → v.ownBlock ≠ some R) :
    Calls Try.prog 49 #[v, .func (.func 50) #[.pointer (some ⟨R, 0, none⟩)] #[]] w fun e w' => (∃ va, e = .returned (.tuple #[recV (decR bs).1.1 (decR bs).1.2.1 va, .bool (decR bs).2]) ∧ RowN w.heap.size w' va (decR bs).1.2.2) ∧ w.grownBy w' (some R) := by
  have OP : Hid (∀ w, Blk R ty [u0, u1, .bool false] w → RdB w v bs → Calls Try.prog 50 #[.pointer (some ⟨R, 0, none⟩), v, .int .i64 0] w fun e w' => (∃ (p : Int) (va : Value), e = .returned (.tuple #[recV (recR bs).1.1 (recR bs).1.2.1 va, .int .i64 p, .bool (recR bs).2.isSome]) ∧ (∀ q, (recR bs).2 = some q → p = (q : Int)) ∧ RowN w.heap.size w' va (recR bs).1.2.2) ∧ w.grownBy w' (some R)) := fun w h hr => readerRec_at bs hb hl R v u0 u1 w ty h hr ha
  have DE : Hid (decR bs = match (recR bs).2 with | some q => if q = bs.length then ((recR bs).1, true) else ((0, opZ, []), false) | none => ((0, opZ, []), false)) := rfl
  have hR := h.lt
  obtain ⟨L, hL⟩ : ∃ L, bs.length = L := ⟨_, rfl⟩
  obtain ⟨ao, cap, ev, _, _⟩ := hr.len
  have hl' : L ≤ 1000000000000 := by omega
  rw [List.length_map, hL] at ev
  subst ev
  rw [hL] at DE
  generalize decR bs = dd at *
  generalize recR bs = rr at *
  obtain ⟨⟨kk, o, xs⟩, so⟩ := rr
  obtain ⟨f0, f1, f2, f3, f4, f5, f6⟩ := o
  simp only at *
  have BA := below_alloc w (.cells #[.int .i64 0, .int .i64 0, .int .i64 0, .int .i64 0, .int .i64 0, .int .i64 0, .int .i64 0, .string ⟨#[]⟩, .slice none 0 0] 26)
  have BD0 := Blk.new 26 [.int .i64 0, .int .i64 0, .int .i64 0, .int .i64 0, .int .i64 0, .int .i64 0, .int .i64 0, .string ⟨#[]⟩, .slice none 0 0] w
  have h1 := h.below BA
  have r1 := Rd.later hr BA
  obtain ⟨D, hDe⟩ : ∃ D, w.heap.size = D := ⟨_, rfl⟩
  have GA := grownBy_below BA (some R)
  have sz0 : (w.alloc (.cells #[.int .i64 0, .int .i64 0, .int .i64 0, .int .i64 0, .int .i64 0, .int .i64 0, .int .i64 0, .string ⟨#[]⟩, .slice none 0 0] 26)).heap.size = D + 1 := by rw [← hDe]; simp
  go_enter Try.func49, Try.ntmps49
  go_wp2_with fail
  rw [hDe] at BD0 hR
  have hDe' : Hid (w.heap.size = D) := hDe
  clear h hr BA hDe hL hb hl
  generalize w.alloc (.cells #[.int .i64 0, .int .i64 0, .int .i64 0, .int .i64 0, .int .i64 0, .int .i64 0, .int .i64 0, .string ⟨#[]⟩, .slice none 0 0] 26) = W0 at *
  refine (OP.out _ h1 r1).mono ?_
  rintro e w2 ⟨⟨p, va, rfl, hp, r2⟩, g2⟩
  obtain ⟨al, cl, el, _, _⟩ := r2.rd.len
  generalize (List.map (Value.int .i64) xs).length = nl at el
  subst el
  unfold recV
  simp only
  have BD2 : Blk D 26 [.int .i64 0, .int .i64 0, .int .i64 0, .int .i64 0, .int .i64 0, .int .i64 0, .int .i64 0, .string ⟨#[]⟩, .slice none 0 0] w2 := Blk.grown BD0 g2 (by omega)
  have G2 := grownBy_trans GA g2
  clear BD0 GA g2 h1 r1
  have BA2 := below_alloc w2 (.cells #[.int .i64 kk, .int .i64 f0, .int .i64 f1, .int .i64 f2, .int .i64 f3, .int .i64 f4, .int .i64 f5, .string f6, .slice al nl cl] 26)
  have BG3 := Blk.new 26 [.int .i64 kk, .int .i64 f0, .int .i64 f1, .int .i64 f2, .int .i64 f3, .int .i64 f4, .int .i64 f5, .string f6, .slice al nl cl] w2
  have BD3 := BD2.below BA2
  have r3 := RowV.later r2 BA2
  have AP : Hid (∀ g, (Value.slice al nl cl).ownBlock = some g → D ≠ g) := fun g hg e => by have := r2.block_ge hg; omega
  have R3 : RowN D _ _ xs := RowV.mono r3 (by omega)
  have G3 := grownBy_trans G2 (grownBy_below BA2 (some R))
  obtain ⟨G, hGe⟩ : ∃ G, w2.heap.size = G := ⟨_, rfl⟩
  have HP : Hid (∀ q, so = some q → p = (q : Int)) := hp
  clear hp r2 r3
  by_cases ok : so = some L
  · subst ok
    obtain rfl := HP.out L rfl
    obtain rfl : dd = ((kk, ⟨f0, f1, f2, f3, f4, f5, f6⟩, xs), true) := by have := DE.out; simpa using this
    have e0 : ((L : Int) != (L : Int)) = false := by simp
    simp only [Option.isSome]
    have BG4 : Blk G 26 [.int .i64 kk, .int .i64 f0, .int .i64 f1, .int .i64 f2, .int .i64 f3, .int .i64 f4, .int .i64 f5, .string f6, .slice al nl cl] (w2.alloc (.cells #[.int .i64 kk, .int .i64 f0, .int .i64 f1, .int .i64 f2, .int .i64 f3, .int .i64 f4, .int .i64 f5, .string f6, .slice al nl cl] 26)) := by rw [← hGe]; exact BG3
    obtain ⟨b9, g9⟩ := Blk.nine BD3 (.int .i64 kk) (.int .i64 f0) (.int .i64 f1) (.int .i64 f2) (.int .i64 f3) (.int .i64 f4) (.int .i64 f5) (.string f6) (.slice al nl cl)
    have GF := grown_more G3 g9 (Nat.le_of_eq hDe'.out)
    have RF : Hid (RowN D ((((((((((w2.alloc (.cells #[.int .i64 kk, .int .i64 f0, .int .i64 f1, .int .i64 f2, .int .i64 f3, .int .i64 f4, .int .i64 f5, .string f6, .slice al nl cl] 26)).setCell ⟨D, 0, none⟩ (.int .i64 kk)).setCell ⟨D, 1, none⟩ (.int .i64 f0)).setCell ⟨D, 2, none⟩ (.int .i64 f1)).setCell ⟨D, 3, none⟩ (.int .i64 f2)).setCell ⟨D, 4, none⟩ (.int .i64 f3)).setCell ⟨D, 5, none⟩ (.int .i64 f4)).setCell ⟨D, 6, none⟩ (.int .i64 f5)).setCell ⟨D, 7, none⟩ (.string f6)).setCell ⟨D, 8, none⟩ (.slice al nl cl)) (.slice al nl cl) xs) := RowV.kept R3 g9 (fun g hg e => AP.out g hg (by injection e))
    have ld0 := BG4.cell 0 _ rfl
    have lz0 := BD3.cell 0 _ rfl
    have lf0 := BD3.fz 0
    have ld1 := BG4.cell 1 _ rfl
    have lz1 := BD3.cell 1 _ rfl
    have lf1 := BD3.fz 1
    have ld2 := BG4.cell 2 _ rfl
    have lz2 := BD3.cell 2 _ rfl
    have lf2 := BD3.fz 2
    have ld3 := BG4.cell 3 _ rfl
    have lz3 := BD3.cell 3 _ rfl
    have lf3 := BD3.fz 3
    have ld4 := BG4.cell 4 _ rfl
    have lz4 := BD3.cell 4 _ rfl
    have lf4 := BD3.fz 4
    have ld5 := BG4.cell 5 _ rfl
    have lz5 := BD3.cell 5 _ rfl
    have lf5 := BD3.fz 5
    have ld6 := BG4.cell 6 _ rfl
    have lz6 := BD3.cell 6 _ rfl
    have lf6 := BD3.fz 6
    have ld7 := BG4.cell 7 _ rfl
    have lz7 := BD3.cell 7 _ rfl
    have lf7 := BD3.fz 7
    have ld8 := BG4.cell 8 _ rfl
    have lz8 := BD3.cell 8 _ rfl
    have lf8 := BD3.fz 8
    have B9 : Hid (Blk D 26 [.int .i64 kk, .int .i64 f0, .int .i64 f1, .int .i64 f2, .int .i64 f3, .int .i64 f4, .int .i64 f5, .string f6, .slice al nl cl] ((((((((((w2.alloc (.cells #[.int .i64 kk, .int .i64 f0, .int .i64 f1, .int .i64 f2, .int .i64 f3, .int .i64 f4, .int .i64 f5, .string f6, .slice al nl cl] 26)).setCell ⟨D, 0, none⟩ (.int .i64 kk)).setCell ⟨D, 1, none⟩ (.int .i64 f0)).setCell ⟨D, 2, none⟩ (.int .i64 f1)).setCell ⟨D, 3, none⟩ (.int .i64 f2)).setCell ⟨D, 4, none⟩ (.int .i64 f3)).setCell ⟨D, 5, none⟩ (.int .i64 f4)).setCell ⟨D, 6, none⟩ (.int .i64 f5)).setCell ⟨D, 7, none⟩ (.string f6)).setCell ⟨D, 8, none⟩ (.slice al nl cl))) := b9
    have GF' : Hid (w.grownBy ((((((((((w2.alloc (.cells #[.int .i64 kk, .int .i64 f0, .int .i64 f1, .int .i64 f2, .int .i64 f3, .int .i64 f4, .int .i64 f5, .string f6, .slice al nl cl] 26)).setCell ⟨D, 0, none⟩ (.int .i64 kk)).setCell ⟨D, 1, none⟩ (.int .i64 f0)).setCell ⟨D, 2, none⟩ (.int .i64 f1)).setCell ⟨D, 3, none⟩ (.int .i64 f2)).setCell ⟨D, 4, none⟩ (.int .i64 f3)).setCell ⟨D, 5, none⟩ (.int .i64 f4)).setCell ⟨D, 6, none⟩ (.int .i64 f5)).setCell ⟨D, 7, none⟩ (.string f6)).setCell ⟨D, 8, none⟩ (.slice al nl cl)) (some R)) := GF
    clear b9 g9 GF BG3 BG4 BD3 G3 BA2 BD2 G2 DE OP R3
    go_wp2_with fail
    generalize w2.alloc (.cells #[.int .i64 kk, .int .i64 f0, .int .i64 f1, .int .i64 f2, .int .i64 f3, .int .i64 f4, .int .i64 f5, .string f6, .slice al nl cl] 26) = W3 at *
    generalize (((((((((W3.setCell ⟨D, 0, none⟩ (.int .i64 kk)).setCell ⟨D, 1, none⟩ (.int .i64 f0)).setCell ⟨D, 2, none⟩ (.int .i64 f1)).setCell ⟨D, 3, none⟩ (.int .i64 f2)).setCell ⟨D, 4, none⟩ (.int .i64 f3)).setCell ⟨D, 5, none⟩ (.int .i64 f4)).setCell ⟨D, 6, none⟩ (.int .i64 f5)).setCell ⟨D, 7, none⟩ (.string f6)).setCell ⟨D, 8, none⟩ (.slice al nl cl)) = W9 at *
    exact bodyPost_cell_tmp rfl rfl D _ _ _ _ rfl B9.out Try.underlying26 rfl (by kernel_rfl) ⟨⟨_, rfl, by rw [hDe'.out]; exact RF.out⟩, GF'.out⟩
  · obtain rfl : dd = ((0, opZ, []), false) := by
      have := DE.out
      cases so with
      | none => exact this
      | some q => simp only at this; rw [if_neg (fun e => ok (by rw [e]))] at this; exact this

    have BA3 := below_alloc (w2.alloc (.cells #[.int .i64 kk, .int .i64 f0, .int .i64 f1, .int .i64 f2, .int .i64 f3, .int .i64 f4, .int .i64 f5, .string f6, .slice al nl cl] 26)) (.cells #[.int .i64 0, .int .i64 0, .int .i64 0, .int .i64 0, .int .i64 0, .int .i64 0, .int .i64 0, .string ⟨#[]⟩, .slice none 0 0] 26)
    have BH := Blk.new 26 [.int .i64 0, .int .i64 0, .int .i64 0, .int .i64 0, .int .i64 0, .int .i64 0, .int .i64 0, .string ⟨#[]⟩, .slice none 0 0] (w2.alloc (.cells #[.int .i64 kk, .int .i64 f0, .int .i64 f1, .int .i64 f2, .int .i64 f3, .int .i64 f4, .int .i64 f5, .string f6, .slice al nl cl] 26))
    have BD4 := BD3.below BA3
    have G4 := grownBy_trans G3 (grownBy_below BA3 (some R))
    obtain ⟨H, hHe⟩ : ∃ H, (w2.alloc (.cells #[.int .i64 kk, .int .i64 f0, .int .i64 f1, .int .i64 f2, .int .i64 f3, .int .i64 f4, .int .i64 f5, .string f6, .slice al nl cl] 26)).heap.size = H := ⟨_, rfl⟩
    have hHe2 : w2.heap.size + 1 = H := by rw [← hHe]; simp
    have BH4 : Blk H 26 [.int .i64 0, .int .i64 0, .int .i64 0, .int .i64 0, .int .i64 0, .int .i64 0, .int .i64 0, .string ⟨#[]⟩, .slice none 0 0] ((w2.alloc (.cells #[.int .i64 kk, .int .i64 f0, .int .i64 f1, .int .i64 f2, .int .i64 f3, .int .i64 f4, .int .i64 f5, .string f6, .slice al nl cl] 26)).alloc (.cells #[.int .i64 0, .int .i64 0, .int .i64 0, .int .i64 0, .int .i64 0, .int .i64 0, .int .i64 0, .string ⟨#[]⟩, .slice none 0 0] 26)) := by rw [← hHe]; exact BH
    obtain ⟨b9, g9⟩ := Blk.nine BD4 (.int .i64 0) (.int .i64 0) (.int .i64 0) (.int .i64 0) (.int .i64 0) (.int .i64 0) (.int .i64 0) (.string ⟨#[]⟩) (.slice none 0 0)
    have GF := grown_more G4 g9 (Nat.le_of_eq hDe'.out)
    have ld0 := BH4.cell 0 _ rfl
    have lz0 := BD4.cell 0 _ rfl
    have lf0 := BD4.fz 0
    have ld1 := BH4.cell 1 _ rfl
    have lz1 := BD4.cell 1 _ rfl
    have lf1 := BD4.fz 1
    have ld2 := BH4.cell 2 _ rfl
    have lz2 := BD4.cell 2 _ rfl
    have lf2 := BD4.fz 2
    have ld3 := BH4.cell 3 _ rfl
    have lz3 := BD4.cell 3 _ rfl
    have lf3 := BD4.fz 3
    have ld4 := BH4.cell 4 _ rfl
    have lz4 := BD4.cell 4 _ rfl
    have lf4 := BD4.fz 4
    have ld5 := BH4.cell 5 _ rfl
    have lz5 := BD4.cell 5 _ rfl
    have lf5 := BD4.fz 5
    have ld6 := BH4.cell 6 _ rfl
    have lz6 := BD4.cell 6 _ rfl
    have lf6 := BD4.fz 6
    have ld7 := BH4.cell 7 _ rfl
    have lz7 := BD4.cell 7 _ rfl
    have lf7 := BD4.fz 7
    have ld8 := BH4.cell 8 _ rfl
    have lz8 := BD4.cell 8 _ rfl
    have lf8 := BD4.fz 8
    have B9 : Hid (Blk D 26 [.int .i64 0, .int .i64 0, .int .i64 0, .int .i64 0, .int .i64 0, .int .i64 0, .int .i64 0, .string ⟨#[]⟩, .slice none 0 0] (((((((((((w2.alloc (.cells #[.int .i64 kk, .int .i64 f0, .int .i64 f1, .int .i64 f2, .int .i64 f3, .int .i64 f4, .int .i64 f5, .string f6, .slice al nl cl] 26)).alloc (.cells #[.int .i64 0, .int .i64 0, .int .i64 0, .int .i64 0, .int .i64 0, .int .i64 0, .int .i64 0, .string ⟨#[]⟩, .slice none 0 0] 26)).setCell ⟨D, 0, none⟩ (.int .i64 0)).setCell ⟨D, 1, none⟩ (.int .i64 0)).setCell ⟨D, 2, none⟩ (.int .i64 0)).setCell ⟨D, 3, none⟩ (.int .i64 0)).setCell ⟨D, 4, none⟩ (.int .i64 0)).setCell ⟨D, 5, none⟩ (.int .i64 0)).setCell ⟨D, 6, none⟩ (.int .i64 0)).setCell ⟨D, 7, none⟩ (.string ⟨#[]⟩)).setCell ⟨D, 8, none⟩ (.slice none 0 0))) := b9
    have GF' : Hid (w.grownBy (((((((((((w2.alloc (.cells #[.int .i64 kk, .int .i64 f0, .int .i64 f1, .int .i64 f2, .int .i64 f3, .int .i64 f4, .int .i64 f5, .string f6, .slice al nl cl] 26)).alloc (.cells #[.int .i64 0, .int .i64 0, .int .i64 0, .int .i64 0, .int .i64 0, .int .i64 0, .int .i64 0, .string ⟨#[]⟩, .slice none 0 0] 26)).setCell ⟨D, 0, none⟩ (.int .i64 0)).setCell ⟨D, 1, none⟩ (.int .i64 0)).setCell ⟨D, 2, none⟩ (.int .i64 0)).setCell ⟨D, 3, none⟩ (.int .i64 0)).setCell ⟨D, 4, none⟩ (.int .i64 0)).setCell ⟨D, 5, none⟩ (.int .i64 0)).setCell ⟨D, 6, none⟩ (.int .i64 0)).setCell ⟨D, 7, none⟩ (.string ⟨#[]⟩)).setCell ⟨D, 8, none⟩ (.slice none 0 0)) (some R)) := GF
    clear b9 g9 GF BG3 BH BH4 BD3 BD4 G3 G4 BA2 BA3 BD2 G2 DE OP R3
    rw [hGe] at hHe2
    cases so with
    | none =>
      simp only [Option.isSome]
      go_wp2_with fail
      generalize (((((((((((w2.alloc (.cells #[.int .i64 kk, .int .i64 f0, .int .i64 f1, .int .i64 f2, .int .i64 f3, .int .i64 f4, .int .i64 f5, .string f6, .slice al nl cl] 26)).alloc (.cells #[.int .i64 0, .int .i64 0, .int .i64 0, .int .i64 0, .int .i64 0, .int .i64 0, .int .i64 0, .string ⟨#[]⟩, .slice none 0 0] 26)).setCell ⟨D, 0, none⟩ (.int .i64 0)).setCell ⟨D, 1, none⟩ (.int .i64 0)).setCell ⟨D, 2, none⟩ (.int .i64 0)).setCell ⟨D, 3, none⟩ (.int .i64 0)).setCell ⟨D, 4, none⟩ (.int .i64 0)).setCell ⟨D, 5, none⟩ (.int .i64 0)).setCell ⟨D, 6, none⟩ (.int .i64 0)).setCell ⟨D, 7, none⟩ (.string ⟨#[]⟩)).setCell ⟨D, 8, none⟩ (.slice none 0 0)) = W9 at *
      exact bodyPost_cell_tmp rfl rfl D _ _ _ _ rfl B9.out Try.underlying26 rfl (by kernel_rfl) ⟨⟨_, rfl, RowV.nil _ _ _⟩, GF'.out⟩
    | some q =>
      obtain rfl := HP.out q rfl
      have e0 : ((q : Int) != (L : Int)) = true := by rw [bne_iff_ne]; intro h; exact ok (by rw [show q = L by omega])
      simp only [Option.isSome]
      go_wp2_with fail
      generalize (((((((((((w2.alloc (.cells #[.int .i64 kk, .int .i64 f0, .int .i64 f1, .int .i64 f2, .int .i64 f3, .int .i64 f4, .int .i64 f5, .string f6, .slice al nl cl] 26)).alloc (.cells #[.int .i64 0, .int .i64 0, .int .i64 0, .int .i64 0, .int .i64 0, .int .i64 0, .int .i64 0, .string ⟨#[]⟩, .slice none 0 0] 26)).setCell ⟨D, 0, none⟩ (.int .i64 0)).setCell ⟨D, 1, none⟩ (.int .i64 0)).setCell ⟨D, 2, none⟩ (.int .i64 0)).setCell ⟨D, 3, none⟩ (.int .i64 0)).setCell ⟨D, 4, none⟩ (.int .i64 0)).setCell ⟨D, 5, none⟩ (.int .i64 0)).setCell ⟨D, 6, none⟩ (.int .i64 0)).setCell ⟨D, 7, none⟩ (.string ⟨#[]⟩)).setCell ⟨D, 8, none⟩ (.slice none 0 0)) = W9 at *
      exact bodyPost_cell_tmp rfl rfl D _ _ _ _ rfl B9.out Try.underlying26 rfl (by kernel_rfl) ⟨⟨_, rfl, RowV.nil _ _ _⟩, GF'.out⟩

set_option maxRecDepth 20000 in
set_option maxHeartbeats 1000000 in
theorem decodeRecord_at (bs : List Nat) (hb : ∀ c ∈ bs, c < 256) (hl : bs.length ≤ 1000000000000) (v : Value) (w : World) (hr : RdB w v bs) :
    Calls Try.prog 20 #[v] w fun e w' => (∃ va, e = .returned (.tuple #[recV (decR bs).1.1 (decR bs).1.2.1 va, .bool (decR bs).2]) ∧ RowN w.heap.size w' va (decR bs).1.2.2) ∧ Below w.heap.size w w' := by
  have BA := below_alloc w (.cells #[.int .i64 0, .int .i64 0, .int .i64 0, .int .i64 0, .int .i64 0, .int .i64 0, .int .i64 0, .string ⟨#[]⟩, .slice none 0 0] 26)
  have BD0 := Blk.new 26 [.int .i64 0, .int .i64 0, .int .i64 0, .int .i64 0, .int .i64 0, .int .i64 0, .int .i64 0, .string ⟨#[]⟩, .slice none 0 0] w
  have BA1 := below_alloc (w.alloc (.cells #[.int .i64 0, .int .i64 0, .int .i64 0, .int .i64 0, .int .i64 0, .int .i64 0, .int .i64 0, .string ⟨#[]⟩, .slice none 0 0] 26)) (.cells #[.slice none 0 0, .int .i64 0, .bool false] 92)
  have BR1 := Blk.new 92 [.slice none 0 0, .int .i64 0, .bool false] (w.alloc (.cells #[.int .i64 0, .int .i64 0, .int .i64 0, .int .i64 0, .int .i64 0, .int .i64 0, .int .i64 0, .string ⟨#[]⟩, .slice none 0 0] 26))
  have BD1 := BD0.below BA1
  have BB := below_trans BA BA1
  have hr1 := Rd.later hr BB
  obtain ⟨D, hDe⟩ : ∃ D, w.heap.size = D := ⟨_, rfl⟩
  obtain ⟨R, hRe⟩ : ∃ R, (w.alloc (.cells #[.int .i64 0, .int .i64 0, .int .i64 0, .int .i64 0, .int .i64 0, .int .i64 0, .int .i64 0, .string ⟨#[]⟩, .slice none 0 0] 26)).heap.size = R := ⟨_, rfl⟩
  have hRe2 : D + 1 = R := by rw [← hRe, ← hDe]; simp
  have sz0 : ((w.alloc (.cells #[.int .i64 0, .int .i64 0, .int .i64 0, .int .i64 0, .int .i64 0, .int .i64 0, .int .i64 0, .string ⟨#[]⟩, .slice none 0 0] 26)).alloc (.cells #[.slice none 0 0, .int .i64 0, .bool false] 92)).heap.size = D + 2 := by rw [← hDe]; simp
  have hV : 0 < bs.length → v.ownBlock ≠ some R := fun h0 e => by
    have := Rd.block hr (by rw [List.length_map]; exact h0) e
    omega
  have WH : Hid (∀ w, Blk R 92 [.slice none 0 0, .int .i64 0, .bool false] w → RdB w v bs → Calls Try.prog 49 #[v, .func (.func 50) #[.pointer (some ⟨R, 0, none⟩)] #[]] w fun e w' => (∃ va, e = .returned (.tuple #[recV (decR bs).1.1 (decR bs).1.2.1 va, .bool (decR bs).2]) ∧ RowN w.heap.size w' va (decR bs).1.2.2) ∧ w.grownBy w' (some R)) := fun w h hr => wholeRec_at bs hb hl R v _ _ w 92 h hr hV
  rw [hRe] at BR1
  rw [hDe] at BD1
  generalize (decR bs) = dd at *
  obtain ⟨⟨kk, o, xs⟩, ok⟩ := dd
  obtain ⟨f0, f1, f2, f3, f4, f5, f6⟩ := o
  unfold recV at *
  simp only at *
  have hDe' : Hid (w.heap.size = D) := hDe
  clear BD0 BA BA1 hr hb hl hV
  go_enter Try.func20, Try.ntmps20
  go_wp2_with fail
  clear hRe hDe
  generalize (w.alloc (.cells #[.int .i64 0, .int .i64 0, .int .i64 0, .int .i64 0, .int .i64 0, .int .i64 0, .int .i64 0, .string ⟨#[]⟩, .slice none 0 0] 26)).alloc (.cells #[.slice none 0 0, .int .i64 0, .bool false] 92) = W0 at *
  refine (WH.out _ BR1 hr1).mono ?_
  rintro e w2 ⟨⟨va, rfl, r2⟩, g2⟩
  obtain ⟨al, cl, el, _, _⟩ := r2.rd.len
  generalize (List.map (Value.int .i64) xs).length = nl at el
  subst el
  have BD3 : Blk D 26 [.int .i64 0, .int .i64 0, .int .i64 0, .int .i64 0, .int .i64 0, .int .i64 0, .int .i64 0, .string ⟨#[]⟩, .slice none 0 0] w2 := Blk.grown BD1 g2 (by omega)
  have GW : Below w.heap.size w w2 := below_past2 BB g2 (by have := hDe'.out; omega)
  obtain ⟨b9, g9⟩ := Blk.nine BD3 (.int .i64 kk) (.int .i64 f0) (.int .i64 f1) (.int .i64 f2) (.int .i64 f3) (.int .i64 f4) (.int .i64 f5) (.string f6) (.slice al nl cl)
  have lz0 := BD3.cell 0 _ rfl
  have lf0 := BD3.fz 0
  have lz1 := BD3.cell 1 _ rfl
  have lf1 := BD3.fz 1
  have lz2 := BD3.cell 2 _ rfl
  have lf2 := BD3.fz 2
  have lz3 := BD3.cell 3 _ rfl
  have lf3 := BD3.fz 3
  have lz4 := BD3.cell 4 _ rfl
  have lf4 := BD3.fz 4
  have lz5 := BD3.cell 5 _ rfl
  have lf5 := BD3.fz 5
  have lz6 := BD3.cell 6 _ rfl
  have lf6 := BD3.fz 6
  have lz7 := BD3.cell 7 _ rfl
  have lf7 := BD3.fz 7
  have lz8 := BD3.cell 8 _ rfl
  have lf8 := BD3.fz 8
  have GF : Hid (Below w.heap.size w (((((((((w2.setCell ⟨D, 0, none⟩ (.int .i64 kk)).setCell ⟨D, 1, none⟩ (.int .i64 f0)).setCell ⟨D, 2, none⟩ (.int .i64 f1)).setCell ⟨D, 3, none⟩ (.int .i64 f2)).setCell ⟨D, 4, none⟩ (.int .i64 f3)).setCell ⟨D, 5, none⟩ (.int .i64 f4)).setCell ⟨D, 6, none⟩ (.int .i64 f5)).setCell ⟨D, 7, none⟩ (.string f6)).setCell ⟨D, 8, none⟩ (.slice al nl cl))) := below_past2 GW g9 (Nat.le_of_eq hDe'.out)
  have B9 : Hid (Blk D 26 [.int .i64 kk, .int .i64 f0, .int .i64 f1, .int .i64 f2, .int .i64 f3, .int .i64 f4, .int .i64 f5, .string f6, .slice al nl cl] (((((((((w2.setCell ⟨D, 0, none⟩ (.int .i64 kk)).setCell ⟨D, 1, none⟩ (.int .i64 f0)).setCell ⟨D, 2, none⟩ (.int .i64 f1)).setCell ⟨D, 3, none⟩ (.int .i64 f2)).setCell ⟨D, 4, none⟩ (.int .i64 f3)).setCell ⟨D, 5, none⟩ (.int .i64 f4)).setCell ⟨D, 6, none⟩ (.int .i64 f5)).setCell ⟨D, 7, none⟩ (.string f6)).setCell ⟨D, 8, none⟩ (.slice al nl cl))) := b9
  have RF : Hid (RowN D (((((((((w2.setCell ⟨D, 0, none⟩ (.int .i64 kk)).setCell ⟨D, 1, none⟩ (.int .i64 f0)).setCell ⟨D, 2, none⟩ (.int .i64 f1)).setCell ⟨D, 3, none⟩ (.int .i64 f2)).setCell ⟨D, 4, none⟩ (.int .i64 f3)).setCell ⟨D, 5, none⟩ (.int .i64 f4)).setCell ⟨D, 6, none⟩ (.int .i64 f5)).setCell ⟨D, 7, none⟩ (.string f6)).setCell ⟨D, 8, none⟩ (.slice al nl cl)) (.slice al nl cl) xs) := RowV.mono (RowV.kept r2 g9 (fun g hg e => by have := r2.block_ge hg; injection e with e; omega)) (by omega)
  clear b9 g9 GW BD3 BD1 BR1 hr1 BB g2 WH r2
  go_wp2_with fail
  generalize (((((((((w2.setCell ⟨D, 0, none⟩ (.int .i64 kk)).setCell ⟨D, 1, none⟩ (.int .i64 f0)).setCell ⟨D, 2, none⟩ (.int .i64 f1)).setCell ⟨D, 3, none⟩ (.int .i64 f2)).setCell ⟨D, 4, none⟩ (.int .i64 f3)).setCell ⟨D, 5, none⟩ (.int .i64 f4)).setCell ⟨D, 6, none⟩ (.int .i64 f5)).setCell ⟨D, 7, none⟩ (.string f6)).setCell ⟨D, 8, none⟩ (.slice al nl cl)) = W9 at *
  exact bodyPost_cell_tmp rfl rfl D _ _ _ _ rfl B9.out Try.underlying26 rfl (by kernel_rfl) ⟨⟨_, rfl, by rw [hDe'.out]; exact RF.out⟩, GF.out⟩
end Go.Proofs.Ytdbjjeaflfoppaa
