/-
  Ours: the law's twinRecord.
-/
import Derived.Test.YtdbjjeaflfoppaaWirRecW
namespace Go.Proofs.Ytdbjjeaflfoppaa
open Go.RowKit

set_option maxRecDepth 20000 in
set_option maxHeartbeats 1000000 in
theorem twinRecord_at (k : Int) (o : OpV) (xs : List Int) (va : Value) (w : World) (hl : xs.length ≤ 1000000000000) (hr : RdI w va xs) :
    Calls Try.prog 8 #[recV k o va] w fun e w' => ∃ vb, e = .returned (recV k o vb) ∧ RowN w.heap.size w' vb xs ∧ Below w.heap.size w w' := by
  obtain ⟨i0, hi, hz0, hz1, hz2⟩ := info_parts infoN
  obtain ⟨f0, f1, f2, f3, f4, f5, f6⟩ := o
  obtain ⟨al, cl, el, _, _⟩ := hr.len
  obtain ⟨nl, hnl⟩ : ∃ nl, (xs.map (Value.int .i64)).length = nl := ⟨_, rfl⟩
  rw [hnl] at el
  subst el
  have l1 : ([] : List Value).length + (xs.map (Value.int .i64)).length ≤ maxLen := by simp only [List.length_map, List.length_nil]; unfold maxLen; omega
  have l2 : (([] : List Value).length + (xs.map (Value.int .i64)).length) * 8 ≤ 140737488355328 := by simp only [List.length_map, List.length_nil]; omega
  have one : ∀ u ∈ xs.map (Value.int .i64), u.oneCell' = true := fun u hu => by
    obtain ⟨x, _, rfl⟩ := List.mem_map.1 hu; rfl
  have BA := below_alloc w (.cells #[.int .i64 k, .int .i64 f0, .int .i64 f1, .int .i64 f2, .int .i64 f3, .int .i64 f4, .int .i64 f5, .string f6, .slice al nl cl] 26)
  have B0 := Blk.new 26 [.int .i64 k, .int .i64 f0, .int .i64 f1, .int .i64 f2, .int .i64 f3, .int .i64 f4, .int .i64 f5, .string f6, .slice al nl cl] w
  have BA1 := below_alloc (w.alloc (.cells #[.int .i64 k, .int .i64 f0, .int .i64 f1, .int .i64 f2, .int .i64 f3, .int .i64 f4, .int .i64 f5, .string f6, .slice al nl cl] 26)) (.cells #[.int .i64 0, .int .i64 0, .int .i64 0, .int .i64 0, .int .i64 0, .int .i64 0, .int .i64 0, .string ⟨#[]⟩, .slice none 0 0] 26)
  have B1 := Blk.new 26 [.int .i64 0, .int .i64 0, .int .i64 0, .int .i64 0, .int .i64 0, .int .i64 0, .int .i64 0, .string ⟨#[]⟩, .slice none 0 0] (w.alloc (.cells #[.int .i64 k, .int .i64 f0, .int .i64 f1, .int .i64 f2, .int .i64 f3, .int .i64 f4, .int .i64 f5, .string f6, .slice al nl cl] 26))
  have B2 := B0.below BA1
  have BB := below_trans BA BA1
  have hr1 := Rd.later hr BB
  obtain ⟨E, hEe⟩ : ∃ E, w.heap.size = E := ⟨_, rfl⟩
  obtain ⟨D, hDe⟩ : ∃ D, (w.alloc (.cells #[.int .i64 k, .int .i64 f0, .int .i64 f1, .int .i64 f2, .int .i64 f3, .int .i64 f4, .int .i64 f5, .string f6, .slice al nl cl] 26)).heap.size = D := ⟨_, rfl⟩
  have hDe2 : E + 1 = D := by rw [← hDe, ← hEe]; simp
  rw [hEe] at B2
  rw [hDe] at B1
  have hEe' : Hid (w.heap.size = E) := hEe
  have SZ : Hid (D + 1 ≤ ((w.alloc (.cells #[.int .i64 k, .int .i64 f0, .int .i64 f1, .int .i64 f2, .int .i64 f3, .int .i64 f4, .int .i64 f5, .string f6, .slice al nl cl] 26)).alloc (.cells #[.int .i64 0, .int .i64 0, .int .i64 0, .int .i64 0, .int .i64 0, .int .i64 0, .int .i64 0, .string ⟨#[]⟩, .slice none 0 0] 26)).heap.size) := by show _ ≤ _; rw [← hDe]; simp
  unfold recV
  simp only
  clear hr BA BA1 B0
  have ld8 := B2.cell 8 _ rfl
  go_enter Try.func8, Try.ntmps8
  go_wp2_with (
    at_builtin
    refine wpList_catV rfl (.tmp 4) (.tmp 6) 24 rfl 3 i0 (.int .i64 0) 8 underN hi hz0 hz1 hz2 rfl (D + 1) _ _ _ _ one rfl (RowV.nil _ _ _) SZ.out rfl hr1 l1 l2 ?_
    intro v' w3 hown0 hgr
    have hown' : RowN (D + 1) w3 v' xs := hown0
    have hgr' : Below ((((w.alloc (.cells #[.int .i64 k, .int .i64 f0, .int .i64 f1, .int .i64 f2, .int .i64 f3, .int .i64 f4, .int .i64 f5, .string f6, .slice al nl cl] 26)).alloc (.cells #[.int .i64 0, .int .i64 0, .int .i64 0, .int .i64 0, .int .i64 0, .int .i64 0, .int .i64 0, .string ⟨#[]⟩, .slice none 0 0] 26)))).heap.size (((w.alloc (.cells #[.int .i64 k, .int .i64 f0, .int .i64 f1, .int .i64 f2, .int .i64 f3, .int .i64 f4, .int .i64 f5, .string f6, .slice al nl cl] 26)).alloc (.cells #[.int .i64 0, .int .i64 0, .int .i64 0, .int .i64 0, .int .i64 0, .int .i64 0, .int .i64 0, .string ⟨#[]⟩, .slice none 0 0] 26))) w3 := below_none hgr
    obtain ⟨ab, cb, eb, _, _⟩ := hown'.rd.len
    generalize (xs.map (Value.int .i64)).length = nb at eb
    subst eb
    have B3 := B2.below hgr'
    have D3 := B1.below hgr'
    have W3 := below_trans BB hgr'
    have g4 := setCell_grown w3 E 8 (.slice ab nb cb)
    have B4 : Blk E 26 [.int .i64 k, .int .i64 f0, .int .i64 f1, .int .i64 f2, .int .i64 f3, .int .i64 f4, .int .i64 f5, .string f6, .slice ab nb cb] (w3.setCell ⟨E, 8, none⟩ (.slice ab nb cb)) := Blk.set (i := 8) B3 (.slice ab nb cb)
    have D4 := D3.grown g4 (by omega)
    have B4c := below_past2 W3 g4 (by have := hEe'.out; omega)
    have r4 := RowV.kept hown' g4 (fun g hg e => by have := hown'.block_ge hg; injection e with e; omega)
    obtain ⟨b9, g9⟩ := Blk.nine D4 (.int .i64 k) (.int .i64 f0) (.int .i64 f1) (.int .i64 f2) (.int .i64 f3) (.int .i64 f4) (.int .i64 f5) (.string f6) (.slice ab nb cb)
    have GF : Hid (Below w.heap.size w ((((((((((w3.setCell ⟨E, 8, none⟩ (.slice ab nb cb)).setCell ⟨D, 0, none⟩ (.int .i64 k)).setCell ⟨D, 1, none⟩ (.int .i64 f0)).setCell ⟨D, 2, none⟩ (.int .i64 f1)).setCell ⟨D, 3, none⟩ (.int .i64 f2)).setCell ⟨D, 4, none⟩ (.int .i64 f3)).setCell ⟨D, 5, none⟩ (.int .i64 f4)).setCell ⟨D, 6, none⟩ (.int .i64 f5)).setCell ⟨D, 7, none⟩ (.string f6)).setCell ⟨D, 8, none⟩ (.slice ab nb cb))) := below_past2 B4c g9 (by have := hEe'.out; omega)
    have B9 : Hid (Blk D 26 [.int .i64 k, .int .i64 f0, .int .i64 f1, .int .i64 f2, .int .i64 f3, .int .i64 f4, .int .i64 f5, .string f6, .slice ab nb cb] ((((((((((w3.setCell ⟨E, 8, none⟩ (.slice ab nb cb)).setCell ⟨D, 0, none⟩ (.int .i64 k)).setCell ⟨D, 1, none⟩ (.int .i64 f0)).setCell ⟨D, 2, none⟩ (.int .i64 f1)).setCell ⟨D, 3, none⟩ (.int .i64 f2)).setCell ⟨D, 4, none⟩ (.int .i64 f3)).setCell ⟨D, 5, none⟩ (.int .i64 f4)).setCell ⟨D, 6, none⟩ (.int .i64 f5)).setCell ⟨D, 7, none⟩ (.string f6)).setCell ⟨D, 8, none⟩ (.slice ab nb cb))) := b9
    have RF : Hid (RowN w.heap.size ((((((((((w3.setCell ⟨E, 8, none⟩ (.slice ab nb cb)).setCell ⟨D, 0, none⟩ (.int .i64 k)).setCell ⟨D, 1, none⟩ (.int .i64 f0)).setCell ⟨D, 2, none⟩ (.int .i64 f1)).setCell ⟨D, 3, none⟩ (.int .i64 f2)).setCell ⟨D, 4, none⟩ (.int .i64 f3)).setCell ⟨D, 5, none⟩ (.int .i64 f4)).setCell ⟨D, 6, none⟩ (.int .i64 f5)).setCell ⟨D, 7, none⟩ (.string f6)).setCell ⟨D, 8, none⟩ (.slice ab nb cb)) (.slice ab nb cb) xs) := RowV.mono (RowV.kept r4 g9 (fun g hg e => by have := hown'.block_ge hg; injection e with e; omega)) (by have := hEe'.out; omega)
    have ld0 := B4.cell 0 _ rfl
    have lz0 := D4.cell 0 _ rfl
    have lf0 := D4.fz 0
    have ld1 := B4.cell 1 _ rfl
    have lz1 := D4.cell 1 _ rfl
    have lf1 := D4.fz 1
    have ld2 := B4.cell 2 _ rfl
    have lz2 := D4.cell 2 _ rfl
    have lf2 := D4.fz 2
    have ld3 := B4.cell 3 _ rfl
    have lz3 := D4.cell 3 _ rfl
    have lf3 := D4.fz 3
    have ld4 := B4.cell 4 _ rfl
    have lz4 := D4.cell 4 _ rfl
    have lf4 := D4.fz 4
    have ld5 := B4.cell 5 _ rfl
    have lz5 := D4.cell 5 _ rfl
    have lf5 := D4.fz 5
    have ld6 := B4.cell 6 _ rfl
    have lz6 := D4.cell 6 _ rfl
    have lf6 := D4.fz 6
    have ld7 := B4.cell 7 _ rfl
    have lz7 := D4.cell 7 _ rfl
    have lf7 := D4.fz 7
    have ld8 := B4.cell 8 _ rfl
    have lz8 := D4.cell 8 _ rfl
    have lf8 := D4.fz 8
    have le8 := B3.cell 8 _ rfl
    have lf8' := B3.fz 8
    clear b9 g9 B3 D3 B4 D4 g4 B4c W3 r4 hown' hgr hgr' hown0)
  exact bodyPost_cell rfl rfl D _ _ _ _ rfl B9.out Try.underlying26 rfl (by kernel_rfl) ⟨_, rfl, RF.out, GF.out⟩
end Go.Proofs.Ytdbjjeaflfoppaa
