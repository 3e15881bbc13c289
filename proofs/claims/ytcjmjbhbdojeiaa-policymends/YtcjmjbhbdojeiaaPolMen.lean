/-
  Ours: mended and beyond (gen_polmen.py).
-/
import Derived.Test.YtcjmjbhbdojeiaaPolOwn
import Derived.Deep.CutRange
namespace Go.Proofs.Ytcjmjbhbdojeiaa
open Go.RowKit LedM PolM

theorem polL_setn {l : List Int} {s : Value} {k : Nat} (hk : k < l.length) (x : Int) : (polL l s).set k (.int .i64 x) = polL (l.set k x) s := by
  rw [polL, List.set_append_left _ _ (by rw [bkL_len]; exact hk), polL, bkL, bkL, List.map_set]
theorem blk_new3 (w : World) (o o' : Obj) (T : TypeId) (cs : List Value) : Blk (w.heap.size + 1 + 1) T cs (((w.alloc o).alloc o').alloc (.cells cs.toArray T)) := Blk.new3 T cs w o o'

set_option maxRecDepth 20000 in
set_option maxHeartbeats 1000000 in
theorem mended0_at (l l' : List Int) (a a' : Option Addr) (n n' c c' : Nat) (hl : l.length = 17) (hl' : l'.length = 17) (w : World) :
    Calls Try.prog 12 #[PV l (.slice a n c), PV l' (.slice a' n' c'), .int .i64 1] w fun e w' => e = .returned (PV (l.set 0 (l'.getD 0 0)) (.slice a n c)) ∧ Below w.heap.size w w' := by
  obtain ⟨s, hs⟩ : ∃ s : Value, s = .slice a n c := ⟨_, rfl⟩
  obtain ⟨s', hs'⟩ : ∃ s : Value, s = .slice a' n' c' := ⟨_, rfl⟩
  rw [← hs, ← hs']
  show Calls _ _ #[.agg (polL l s).toArray, .agg (polL l' s').toArray, _] _ _
  have B0 : Hid (Below w.heap.size w (((w.alloc (.cells (polL l s).toArray 24)).alloc (.cells (polL l' s').toArray 24)).alloc (.cells #[.int .i64 0, .int .i64 0, .int .i64 0, .int .i64 0, .int .i64 0, .int .i64 0, .int .i64 0, .int .i64 0, .int .i64 0, .int .i64 0, .int .i64 0, .int .i64 0, .int .i64 0, .int .i64 0, .int .i64 0, .int .i64 0, .int .i64 0, .slice none 0 0] 24))) := below_trans (below_trans (below_alloc _ _) (below_alloc _ _)) (below_alloc _ _)
  have Q0 : Hid (Blk w.heap.size 24 (polL l s) (((w.alloc (.cells (polL l s).toArray 24)).alloc (.cells (polL l' s').toArray 24)).alloc (.cells #[.int .i64 0, .int .i64 0, .int .i64 0, .int .i64 0, .int .i64 0, .int .i64 0, .int .i64 0, .int .i64 0, .int .i64 0, .int .i64 0, .int .i64 0, .int .i64 0, .int .i64 0, .int .i64 0, .int .i64 0, .int .i64 0, .int .i64 0, .slice none 0 0] 24))) := ((Blk.new _ _ _).below (below_alloc _ _)).below (below_alloc _ _)
  have QB : Hid (Blk (w.heap.size + 1) 24 (polL l' s') (((w.alloc (.cells (polL l s).toArray 24)).alloc (.cells (polL l' s').toArray 24)).alloc (.cells #[.int .i64 0, .int .i64 0, .int .i64 0, .int .i64 0, .int .i64 0, .int .i64 0, .int .i64 0, .int .i64 0, .int .i64 0, .int .i64 0, .int .i64 0, .int .i64 0, .int .i64 0, .int .i64 0, .int .i64 0, .int .i64 0, .int .i64 0, .slice none 0 0] 24))) := (Blk.new2 _ _ _ _).below (below_alloc _ _)
  have QZ : Hid (Blk (w.heap.size + 1 + 1) 24 polZ (((w.alloc (.cells (polL l s).toArray 24)).alloc (.cells (polL l' s').toArray 24)).alloc (.cells #[.int .i64 0, .int .i64 0, .int .i64 0, .int .i64 0, .int .i64 0, .int .i64 0, .int .i64 0, .int .i64 0, .int .i64 0, .int .i64 0, .int .i64 0, .int .i64 0, .int .i64 0, .int .i64 0, .int .i64 0, .int .i64 0, .int .i64 0, .slice none 0 0] 24))) := Blk.new3 _ _ _ _ _
  have A0 : Hid ((polL l s)[0]? = some (.int .i64 (l.getD 0 0))) := polL_at hl 0 (by omega)
  have A1 : Hid ((polL l' s')[0]? = some (.int .i64 (l'.getD 0 0))) := polL_at hl' 0 (by omega)
  have ST : Hid ((polL l s).set 0 (.int .i64 (l'.getD 0 0)) = polL (l.set 0 (l'.getD 0 0)) s) := polL_setn (by omega) _
  have SZ : Hid ((Try.prog.info? 24).map (·.size) = some (polL (l.set 0 (l'.getD 0 0)) s).length) := by show _ = _; rw [polL_len (by rw [List.length_set]; exact hl)]; exact sizeP
  have FT : Hid (0 + (polL (l.set 0 (l'.getD 0 0)) s).length ≤ polZ.length ∧ polZ.length ≤ 0 + (polL (l.set 0 (l'.getD 0 0)) s).length) := by show _ ∧ _; rw [polL_len (by rw [List.length_set]; exact hl)]; exact ⟨Nat.le_refl 18, Nat.le_refl 18⟩
  have OV : Hid (∀ v ∈ polL (l.set 0 (l'.getD 0 0)) s, v.oneCell' = true) := by show ∀ v ∈ _, _; rw [hs]; exact polL_one
  clear hl hl'
  generalize l'.getD 0 0 = x at *
  generalize l.getD 0 0 = y at *
  obtain ⟨RC, hR⟩ : ∃ RC, polL (l.set 0 x) s = RC := ⟨_, rfl⟩
  rw [hR] at ST SZ FT OV
  have HR : Hid (polL (l.set 0 x) s = RC) := hR
  clear hR
  generalize polL l s = C0 at *
  generalize polL l' s' = C1 at *
  go_enter Try.func12, Try.ntmps12
  go_upto_region 1 with fail
  generalize ((w.alloc (.cells C0.toArray 24)).alloc (.cells C1.toArray 24)).alloc (.cells #[.int .i64 0, .int .i64 0, .int .i64 0, .int .i64 0, .int .i64 0, .int .i64 0, .int .i64 0, .int .i64 0, .int .i64 0, .int .i64 0, .int .i64 0, .int .i64 0, .int .i64 0, .int .i64 0, .int .i64 0, .int .i64 0, .int .i64 0, .slice none 0 0] 24) = w0 at *
  have x0 := Q0.out.cell 0 _ A0.out
  have f0 := Q0.out.fz 0
  have x1 := QB.out.cell 0 _ A1.out
  have q1 : Hid (Blk w.heap.size 24 RC (w0.setCell ⟨w.heap.size, 0, none⟩ (.int .i64 x))) := by
    have := Q0.out.set (i := 0) (.int .i64 x)
    rwa [ST.out] at this
  have z1 : Hid (Blk (w.heap.size + 1 + 1) 24 polZ (w0.setCell ⟨w.heap.size, 0, none⟩ (.int .i64 x))) := QZ.out.grown (setCell_grown _ _ _ _) (fun e => by injection e with e; omega)
  have b1 : Hid (Below w.heap.size w (w0.setCell ⟨w.heap.size, 0, none⟩ (.int .i64 x))) := below_row B0.out (setCell_grown _ _ _ _) (Nat.le_refl _)
  go_upto_region 38 with fail
  generalize w0.setCell ⟨w.heap.size, 0, none⟩ (.int .i64 x) = w1 at *
  clear x0 f0 x1 Q0 QB QZ B0 A0 A1 ST
  go_wp2_with (first
  | (refine step_load rfl 24 (.tmp 3) rfl w.heap.size 0 rfl RC _ (Blk.all q1.out) Try.underlying24 rfl SZ.out ?_)
  | ((with_reducible refine at_store ?_); refine step_store rfl 24 (.tmp 6) (.tmp 98) rfl (w.heap.size + 1 + 1) 0 24 polZ RC rfl rfl z1.out FT.out.1 SZ.out OV.out ?_; intro w2 nb2 g2))
  refine ret_blk rfl rfl (w.heap.size + 1 + 1) 24 RC _ rfl (blk_put FT.out.2 nb2) Try.underlying24 rfl SZ.out ?_
  exact ⟨by rw [← HR.out], below_row b1.out g2 (by omega)⟩

set_option maxRecDepth 20000 in
set_option maxHeartbeats 1000000 in
theorem mended1_at (l l' : List Int) (a a' : Option Addr) (n n' c c' : Nat) (hl : l.length = 17) (hl' : l'.length = 17) (w : World) :
    Calls Try.prog 12 #[PV l (.slice a n c), PV l' (.slice a' n' c'), .int .i64 2] w fun e w' => e = .returned (PV (l.set 1 (l'.getD 1 0)) (.slice a n c)) ∧ Below w.heap.size w w' := by
  obtain ⟨s, hs⟩ : ∃ s : Value, s = .slice a n c := ⟨_, rfl⟩
  obtain ⟨s', hs'⟩ : ∃ s : Value, s = .slice a' n' c' := ⟨_, rfl⟩
  rw [← hs, ← hs']
  show Calls _ _ #[.agg (polL l s).toArray, .agg (polL l' s').toArray, _] _ _
  have B0 : Hid (Below w.heap.size w (((w.alloc (.cells (polL l s).toArray 24)).alloc (.cells (polL l' s').toArray 24)).alloc (.cells #[.int .i64 0, .int .i64 0, .int .i64 0, .int .i64 0, .int .i64 0, .int .i64 0, .int .i64 0, .int .i64 0, .int .i64 0, .int .i64 0, .int .i64 0, .int .i64 0, .int .i64 0, .int .i64 0, .int .i64 0, .int .i64 0, .int .i64 0, .slice none 0 0] 24))) := below_trans (below_trans (below_alloc _ _) (below_alloc _ _)) (below_alloc _ _)
  have Q0 : Hid (Blk w.heap.size 24 (polL l s) (((w.alloc (.cells (polL l s).toArray 24)).alloc (.cells (polL l' s').toArray 24)).alloc (.cells #[.int .i64 0, .int .i64 0, .int .i64 0, .int .i64 0, .int .i64 0, .int .i64 0, .int .i64 0, .int .i64 0, .int .i64 0, .int .i64 0, .int .i64 0, .int .i64 0, .int .i64 0, .int .i64 0, .int .i64 0, .int .i64 0, .int .i64 0, .slice none 0 0] 24))) := ((Blk.new _ _ _).below (below_alloc _ _)).below (below_alloc _ _)
  have QB : Hid (Blk (w.heap.size + 1) 24 (polL l' s') (((w.alloc (.cells (polL l s).toArray 24)).alloc (.cells (polL l' s').toArray 24)).alloc (.cells #[.int .i64 0, .int .i64 0, .int .i64 0, .int .i64 0, .int .i64 0, .int .i64 0, .int .i64 0, .int .i64 0, .int .i64 0, .int .i64 0, .int .i64 0, .int .i64 0, .int .i64 0, .int .i64 0, .int .i64 0, .int .i64 0, .int .i64 0, .slice none 0 0] 24))) := (Blk.new2 _ _ _ _).below (below_alloc _ _)
  have QZ : Hid (Blk (w.heap.size + 1 + 1) 24 polZ (((w.alloc (.cells (polL l s).toArray 24)).alloc (.cells (polL l' s').toArray 24)).alloc (.cells #[.int .i64 0, .int .i64 0, .int .i64 0, .int .i64 0, .int .i64 0, .int .i64 0, .int .i64 0, .int .i64 0, .int .i64 0, .int .i64 0, .int .i64 0, .int .i64 0, .int .i64 0, .int .i64 0, .int .i64 0, .int .i64 0, .int .i64 0, .slice none 0 0] 24))) := Blk.new3 _ _ _ _ _
  have A0 : Hid ((polL l s)[1]? = some (.int .i64 (l.getD 1 0))) := polL_at hl 1 (by omega)
  have A1 : Hid ((polL l' s')[1]? = some (.int .i64 (l'.getD 1 0))) := polL_at hl' 1 (by omega)
  have ST : Hid ((polL l s).set 1 (.int .i64 (l'.getD 1 0)) = polL (l.set 1 (l'.getD 1 0)) s) := polL_setn (by omega) _
  have SZ : Hid ((Try.prog.info? 24).map (·.size) = some (polL (l.set 1 (l'.getD 1 0)) s).length) := by show _ = _; rw [polL_len (by rw [List.length_set]; exact hl)]; exact sizeP
  have FT : Hid (0 + (polL (l.set 1 (l'.getD 1 0)) s).length ≤ polZ.length ∧ polZ.length ≤ 0 + (polL (l.set 1 (l'.getD 1 0)) s).length) := by show _ ∧ _; rw [polL_len (by rw [List.length_set]; exact hl)]; exact ⟨Nat.le_refl 18, Nat.le_refl 18⟩
  have OV : Hid (∀ v ∈ polL (l.set 1 (l'.getD 1 0)) s, v.oneCell' = true) := by show ∀ v ∈ _, _; rw [hs]; exact polL_one
  clear hl hl'
  generalize l'.getD 1 0 = x at *
  generalize l.getD 1 0 = y at *
  obtain ⟨RC, hR⟩ : ∃ RC, polL (l.set 1 x) s = RC := ⟨_, rfl⟩
  rw [hR] at ST SZ FT OV
  have HR : Hid (polL (l.set 1 x) s = RC) := hR
  clear hR
  generalize polL l s = C0 at *
  generalize polL l' s' = C1 at *
  go_enter Try.func12, Try.ntmps12
  go_upto_region 1 with fail
  generalize ((w.alloc (.cells C0.toArray 24)).alloc (.cells C1.toArray 24)).alloc (.cells #[.int .i64 0, .int .i64 0, .int .i64 0, .int .i64 0, .int .i64 0, .int .i64 0, .int .i64 0, .int .i64 0, .int .i64 0, .int .i64 0, .int .i64 0, .int .i64 0, .int .i64 0, .int .i64 0, .int .i64 0, .int .i64 0, .int .i64 0, .slice none 0 0] 24) = w0 at *
  have x0 := Q0.out.cell 1 _ A0.out
  have f0 := Q0.out.fz 1
  have x1 := QB.out.cell 1 _ A1.out
  have q1 : Hid (Blk w.heap.size 24 RC (w0.setCell ⟨w.heap.size, 1, none⟩ (.int .i64 x))) := by
    have := Q0.out.set (i := 1) (.int .i64 x)
    rwa [ST.out] at this
  have z1 : Hid (Blk (w.heap.size + 1 + 1) 24 polZ (w0.setCell ⟨w.heap.size, 1, none⟩ (.int .i64 x))) := QZ.out.grown (setCell_grown _ _ _ _) (fun e => by injection e with e; omega)
  have b1 : Hid (Below w.heap.size w (w0.setCell ⟨w.heap.size, 1, none⟩ (.int .i64 x))) := below_row B0.out (setCell_grown _ _ _ _) (Nat.le_refl _)
  go_upto_region 38 with fail
  generalize w0.setCell ⟨w.heap.size, 1, none⟩ (.int .i64 x) = w1 at *
  clear x0 f0 x1 Q0 QB QZ B0 A0 A1 ST
  go_wp2_with (first
  | (refine step_load rfl 24 (.tmp 3) rfl w.heap.size 0 rfl RC _ (Blk.all q1.out) Try.underlying24 rfl SZ.out ?_)
  | ((with_reducible refine at_store ?_); refine step_store rfl 24 (.tmp 6) (.tmp 98) rfl (w.heap.size + 1 + 1) 0 24 polZ RC rfl rfl z1.out FT.out.1 SZ.out OV.out ?_; intro w2 nb2 g2))
  refine ret_blk rfl rfl (w.heap.size + 1 + 1) 24 RC _ rfl (blk_put FT.out.2 nb2) Try.underlying24 rfl SZ.out ?_
  exact ⟨by rw [← HR.out], below_row b1.out g2 (by omega)⟩

set_option maxRecDepth 20000 in
set_option maxHeartbeats 1000000 in
theorem mended2_at (l l' : List Int) (a a' : Option Addr) (n n' c c' : Nat) (hl : l.length = 17) (hl' : l'.length = 17) (w : World) :
    Calls Try.prog 12 #[PV l (.slice a n c), PV l' (.slice a' n' c'), .int .i64 3] w fun e w' => e = .returned (PV (l.set 2 (l'.getD 2 0)) (.slice a n c)) ∧ Below w.heap.size w w' := by
  obtain ⟨s, hs⟩ : ∃ s : Value, s = .slice a n c := ⟨_, rfl⟩
  obtain ⟨s', hs'⟩ : ∃ s : Value, s = .slice a' n' c' := ⟨_, rfl⟩
  rw [← hs, ← hs']
  show Calls _ _ #[.agg (polL l s).toArray, .agg (polL l' s').toArray, _] _ _
  have B0 : Hid (Below w.heap.size w (((w.alloc (.cells (polL l s).toArray 24)).alloc (.cells (polL l' s').toArray 24)).alloc (.cells #[.int .i64 0, .int .i64 0, .int .i64 0, .int .i64 0, .int .i64 0, .int .i64 0, .int .i64 0, .int .i64 0, .int .i64 0, .int .i64 0, .int .i64 0, .int .i64 0, .int .i64 0, .int .i64 0, .int .i64 0, .int .i64 0, .int .i64 0, .slice none 0 0] 24))) := below_trans (below_trans (below_alloc _ _) (below_alloc _ _)) (below_alloc _ _)
  have Q0 : Hid (Blk w.heap.size 24 (polL l s) (((w.alloc (.cells (polL l s).toArray 24)).alloc (.cells (polL l' s').toArray 24)).alloc (.cells #[.int .i64 0, .int .i64 0, .int .i64 0, .int .i64 0, .int .i64 0, .int .i64 0, .int .i64 0, .int .i64 0, .int .i64 0, .int .i64 0, .int .i64 0, .int .i64 0, .int .i64 0, .int .i64 0, .int .i64 0, .int .i64 0, .int .i64 0, .slice none 0 0] 24))) := ((Blk.new _ _ _).below (below_alloc _ _)).below (below_alloc _ _)
  have QB : Hid (Blk (w.heap.size + 1) 24 (polL l' s') (((w.alloc (.cells (polL l s).toArray 24)).alloc (.cells (polL l' s').toArray 24)).alloc (.cells #[.int .i64 0, .int .i64 0, .int .i64 0, .int .i64 0, .int .i64 0, .int .i64 0, .int .i64 0, .int .i64 0, .int .i64 0, .int .i64 0, .int .i64 0, .int .i64 0, .int .i64 0, .int .i64 0, .int .i64 0, .int .i64 0, .int .i64 0, .slice none 0 0] 24))) := (Blk.new2 _ _ _ _).below (below_alloc _ _)
  have QZ : Hid (Blk (w.heap.size + 1 + 1) 24 polZ (((w.alloc (.cells (polL l s).toArray 24)).alloc (.cells (polL l' s').toArray 24)).alloc (.cells #[.int .i64 0, .int .i64 0, .int .i64 0, .int .i64 0, .int .i64 0, .int .i64 0, .int .i64 0, .int .i64 0, .int .i64 0, .int .i64 0, .int .i64 0, .int .i64 0, .int .i64 0, .int .i64 0, .int .i64 0, .int .i64 0, .int .i64 0, .slice none 0 0] 24))) := Blk.new3 _ _ _ _ _
  have A0 : Hid ((polL l s)[2]? = some (.int .i64 (l.getD 2 0))) := polL_at hl 2 (by omega)
  have A1 : Hid ((polL l' s')[2]? = some (.int .i64 (l'.getD 2 0))) := polL_at hl' 2 (by omega)
  have ST : Hid ((polL l s).set 2 (.int .i64 (l'.getD 2 0)) = polL (l.set 2 (l'.getD 2 0)) s) := polL_setn (by omega) _
  have SZ : Hid ((Try.prog.info? 24).map (·.size) = some (polL (l.set 2 (l'.getD 2 0)) s).length) := by show _ = _; rw [polL_len (by rw [List.length_set]; exact hl)]; exact sizeP
  have FT : Hid (0 + (polL (l.set 2 (l'.getD 2 0)) s).length ≤ polZ.length ∧ polZ.length ≤ 0 + (polL (l.set 2 (l'.getD 2 0)) s).length) := by show _ ∧ _; rw [polL_len (by rw [List.length_set]; exact hl)]; exact ⟨Nat.le_refl 18, Nat.le_refl 18⟩
  have OV : Hid (∀ v ∈ polL (l.set 2 (l'.getD 2 0)) s, v.oneCell' = true) := by show ∀ v ∈ _, _; rw [hs]; exact polL_one
  clear hl hl'
  generalize l'.getD 2 0 = x at *
  generalize l.getD 2 0 = y at *
  obtain ⟨RC, hR⟩ : ∃ RC, polL (l.set 2 x) s = RC := ⟨_, rfl⟩
  rw [hR] at ST SZ FT OV
  have HR : Hid (polL (l.set 2 x) s = RC) := hR
  clear hR
  generalize polL l s = C0 at *
  generalize polL l' s' = C1 at *
  go_enter Try.func12, Try.ntmps12
  go_upto_region 1 with fail
  generalize ((w.alloc (.cells C0.toArray 24)).alloc (.cells C1.toArray 24)).alloc (.cells #[.int .i64 0, .int .i64 0, .int .i64 0, .int .i64 0, .int .i64 0, .int .i64 0, .int .i64 0, .int .i64 0, .int .i64 0, .int .i64 0, .int .i64 0, .int .i64 0, .int .i64 0, .int .i64 0, .int .i64 0, .int .i64 0, .int .i64 0, .slice none 0 0] 24) = w0 at *
  have x0 := Q0.out.cell 2 _ A0.out
  have f0 := Q0.out.fz 2
  have x1 := QB.out.cell 2 _ A1.out
  have q1 : Hid (Blk w.heap.size 24 RC (w0.setCell ⟨w.heap.size, 2, none⟩ (.int .i64 x))) := by
    have := Q0.out.set (i := 2) (.int .i64 x)
    rwa [ST.out] at this
  have z1 : Hid (Blk (w.heap.size + 1 + 1) 24 polZ (w0.setCell ⟨w.heap.size, 2, none⟩ (.int .i64 x))) := QZ.out.grown (setCell_grown _ _ _ _) (fun e => by injection e with e; omega)
  have b1 : Hid (Below w.heap.size w (w0.setCell ⟨w.heap.size, 2, none⟩ (.int .i64 x))) := below_row B0.out (setCell_grown _ _ _ _) (Nat.le_refl _)
  go_upto_region 38 with fail
  generalize w0.setCell ⟨w.heap.size, 2, none⟩ (.int .i64 x) = w1 at *
  clear x0 f0 x1 Q0 QB QZ B0 A0 A1 ST
  go_wp2_with (first
  | (refine step_load rfl 24 (.tmp 3) rfl w.heap.size 0 rfl RC _ (Blk.all q1.out) Try.underlying24 rfl SZ.out ?_)
  | ((with_reducible refine at_store ?_); refine step_store rfl 24 (.tmp 6) (.tmp 98) rfl (w.heap.size + 1 + 1) 0 24 polZ RC rfl rfl z1.out FT.out.1 SZ.out OV.out ?_; intro w2 nb2 g2))
  refine ret_blk rfl rfl (w.heap.size + 1 + 1) 24 RC _ rfl (blk_put FT.out.2 nb2) Try.underlying24 rfl SZ.out ?_
  exact ⟨by rw [← HR.out], below_row b1.out g2 (by omega)⟩

set_option maxRecDepth 20000 in
set_option maxHeartbeats 1000000 in
theorem mended3_at (l l' : List Int) (a a' : Option Addr) (n n' c c' : Nat) (hl : l.length = 17) (hl' : l'.length = 17) (w : World) :
    Calls Try.prog 12 #[PV l (.slice a n c), PV l' (.slice a' n' c'), .int .i64 4] w fun e w' => e = .returned (PV (l.set 3 (l'.getD 3 0)) (.slice a n c)) ∧ Below w.heap.size w w' := by
  obtain ⟨s, hs⟩ : ∃ s : Value, s = .slice a n c := ⟨_, rfl⟩
  obtain ⟨s', hs'⟩ : ∃ s : Value, s = .slice a' n' c' := ⟨_, rfl⟩
  rw [← hs, ← hs']
  show Calls _ _ #[.agg (polL l s).toArray, .agg (polL l' s').toArray, _] _ _
  have B0 : Hid (Below w.heap.size w (((w.alloc (.cells (polL l s).toArray 24)).alloc (.cells (polL l' s').toArray 24)).alloc (.cells #[.int .i64 0, .int .i64 0, .int .i64 0, .int .i64 0, .int .i64 0, .int .i64 0, .int .i64 0, .int .i64 0, .int .i64 0, .int .i64 0, .int .i64 0, .int .i64 0, .int .i64 0, .int .i64 0, .int .i64 0, .int .i64 0, .int .i64 0, .slice none 0 0] 24))) := below_trans (below_trans (below_alloc _ _) (below_alloc _ _)) (below_alloc _ _)
  have Q0 : Hid (Blk w.heap.size 24 (polL l s) (((w.alloc (.cells (polL l s).toArray 24)).alloc (.cells (polL l' s').toArray 24)).alloc (.cells #[.int .i64 0, .int .i64 0, .int .i64 0, .int .i64 0, .int .i64 0, .int .i64 0, .int .i64 0, .int .i64 0, .int .i64 0, .int .i64 0, .int .i64 0, .int .i64 0, .int .i64 0, .int .i64 0, .int .i64 0, .int .i64 0, .int .i64 0, .slice none 0 0] 24))) := ((Blk.new _ _ _).below (below_alloc _ _)).below (below_alloc _ _)
  have QB : Hid (Blk (w.heap.size + 1) 24 (polL l' s') (((w.alloc (.cells (polL l s).toArray 24)).alloc (.cells (polL l' s').toArray 24)).alloc (.cells #[.int .i64 0, .int .i64 0, .int .i64 0, .int .i64 0, .int .i64 0, .int .i64 0, .int .i64 0, .int .i64 0, .int .i64 0, .int .i64 0, .int .i64 0, .int .i64 0, .int .i64 0, .int .i64 0, .int .i64 0, .int .i64 0, .int .i64 0, .slice none 0 0] 24))) := (Blk.new2 _ _ _ _).below (below_alloc _ _)
  have QZ : Hid (Blk (w.heap.size + 1 + 1) 24 polZ (((w.alloc (.cells (polL l s).toArray 24)).alloc (.cells (polL l' s').toArray 24)).alloc (.cells #[.int .i64 0, .int .i64 0, .int .i64 0, .int .i64 0, .int .i64 0, .int .i64 0, .int .i64 0, .int .i64 0, .int .i64 0, .int .i64 0, .int .i64 0, .int .i64 0, .int .i64 0, .int .i64 0, .int .i64 0, .int .i64 0, .int .i64 0, .slice none 0 0] 24))) := Blk.new3 _ _ _ _ _
  have A0 : Hid ((polL l s)[3]? = some (.int .i64 (l.getD 3 0))) := polL_at hl 3 (by omega)
  have A1 : Hid ((polL l' s')[3]? = some (.int .i64 (l'.getD 3 0))) := polL_at hl' 3 (by omega)
  have ST : Hid ((polL l s).set 3 (.int .i64 (l'.getD 3 0)) = polL (l.set 3 (l'.getD 3 0)) s) := polL_setn (by omega) _
  have SZ : Hid ((Try.prog.info? 24).map (·.size) = some (polL (l.set 3 (l'.getD 3 0)) s).length) := by show _ = _; rw [polL_len (by rw [List.length_set]; exact hl)]; exact sizeP
  have FT : Hid (0 + (polL (l.set 3 (l'.getD 3 0)) s).length ≤ polZ.length ∧ polZ.length ≤ 0 + (polL (l.set 3 (l'.getD 3 0)) s).length) := by show _ ∧ _; rw [polL_len (by rw [List.length_set]; exact hl)]; exact ⟨Nat.le_refl 18, Nat.le_refl 18⟩
  have OV : Hid (∀ v ∈ polL (l.set 3 (l'.getD 3 0)) s, v.oneCell' = true) := by show ∀ v ∈ _, _; rw [hs]; exact polL_one
  clear hl hl'
  generalize l'.getD 3 0 = x at *
  generalize l.getD 3 0 = y at *
  obtain ⟨RC, hR⟩ : ∃ RC, polL (l.set 3 x) s = RC := ⟨_, rfl⟩
  rw [hR] at ST SZ FT OV
  have HR : Hid (polL (l.set 3 x) s = RC) := hR
  clear hR
  generalize polL l s = C0 at *
  generalize polL l' s' = C1 at *
  go_enter Try.func12, Try.ntmps12
  go_upto_region 1 with fail
  generalize ((w.alloc (.cells C0.toArray 24)).alloc (.cells C1.toArray 24)).alloc (.cells #[.int .i64 0, .int .i64 0, .int .i64 0, .int .i64 0, .int .i64 0, .int .i64 0, .int .i64 0, .int .i64 0, .int .i64 0, .int .i64 0, .int .i64 0, .int .i64 0, .int .i64 0, .int .i64 0, .int .i64 0, .int .i64 0, .int .i64 0, .slice none 0 0] 24) = w0 at *
  have x0 := Q0.out.cell 3 _ A0.out
  have f0 := Q0.out.fz 3
  have x1 := QB.out.cell 3 _ A1.out
  have q1 : Hid (Blk w.heap.size 24 RC (w0.setCell ⟨w.heap.size, 3, none⟩ (.int .i64 x))) := by
    have := Q0.out.set (i := 3) (.int .i64 x)
    rwa [ST.out] at this
  have z1 : Hid (Blk (w.heap.size + 1 + 1) 24 polZ (w0.setCell ⟨w.heap.size, 3, none⟩ (.int .i64 x))) := QZ.out.grown (setCell_grown _ _ _ _) (fun e => by injection e with e; omega)
  have b1 : Hid (Below w.heap.size w (w0.setCell ⟨w.heap.size, 3, none⟩ (.int .i64 x))) := below_row B0.out (setCell_grown _ _ _ _) (Nat.le_refl _)
  go_upto_region 38 with fail
  generalize w0.setCell ⟨w.heap.size, 3, none⟩ (.int .i64 x) = w1 at *
  clear x0 f0 x1 Q0 QB QZ B0 A0 A1 ST
  go_wp2_with (first
  | (refine step_load rfl 24 (.tmp 3) rfl w.heap.size 0 rfl RC _ (Blk.all q1.out) Try.underlying24 rfl SZ.out ?_)
  | ((with_reducible refine at_store ?_); refine step_store rfl 24 (.tmp 6) (.tmp 98) rfl (w.heap.size + 1 + 1) 0 24 polZ RC rfl rfl z1.out FT.out.1 SZ.out OV.out ?_; intro w2 nb2 g2))
  refine ret_blk rfl rfl (w.heap.size + 1 + 1) 24 RC _ rfl (blk_put FT.out.2 nb2) Try.underlying24 rfl SZ.out ?_
  exact ⟨by rw [← HR.out], below_row b1.out g2 (by omega)⟩

set_option maxRecDepth 20000 in
set_option maxHeartbeats 1000000 in
theorem mended4_at (l l' : List Int) (a a' : Option Addr) (n n' c c' : Nat) (hl : l.length = 17) (hl' : l'.length = 17) (w : World) :
    Calls Try.prog 12 #[PV l (.slice a n c), PV l' (.slice a' n' c'), .int .i64 5] w fun e w' => e = .returned (PV (l.set 4 (l'.getD 4 0)) (.slice a n c)) ∧ Below w.heap.size w w' := by
  obtain ⟨s, hs⟩ : ∃ s : Value, s = .slice a n c := ⟨_, rfl⟩
  obtain ⟨s', hs'⟩ : ∃ s : Value, s = .slice a' n' c' := ⟨_, rfl⟩
  rw [← hs, ← hs']
  show Calls _ _ #[.agg (polL l s).toArray, .agg (polL l' s').toArray, _] _ _
  have B0 : Hid (Below w.heap.size w (((w.alloc (.cells (polL l s).toArray 24)).alloc (.cells (polL l' s').toArray 24)).alloc (.cells #[.int .i64 0, .int .i64 0, .int .i64 0, .int .i64 0, .int .i64 0, .int .i64 0, .int .i64 0, .int .i64 0, .int .i64 0, .int .i64 0, .int .i64 0, .int .i64 0, .int .i64 0, .int .i64 0, .int .i64 0, .int .i64 0, .int .i64 0, .slice none 0 0] 24))) := below_trans (below_trans (below_alloc _ _) (below_alloc _ _)) (below_alloc _ _)
  have Q0 : Hid (Blk w.heap.size 24 (polL l s) (((w.alloc (.cells (polL l s).toArray 24)).alloc (.cells (polL l' s').toArray 24)).alloc (.cells #[.int .i64 0, .int .i64 0, .int .i64 0, .int .i64 0, .int .i64 0, .int .i64 0, .int .i64 0, .int .i64 0, .int .i64 0, .int .i64 0, .int .i64 0, .int .i64 0, .int .i64 0, .int .i64 0, .int .i64 0, .int .i64 0, .int .i64 0, .slice none 0 0] 24))) := ((Blk.new _ _ _).below (below_alloc _ _)).below (below_alloc _ _)
  have QB : Hid (Blk (w.heap.size + 1) 24 (polL l' s') (((w.alloc (.cells (polL l s).toArray 24)).alloc (.cells (polL l' s').toArray 24)).alloc (.cells #[.int .i64 0, .int .i64 0, .int .i64 0, .int .i64 0, .int .i64 0, .int .i64 0, .int .i64 0, .int .i64 0, .int .i64 0, .int .i64 0, .int .i64 0, .int .i64 0, .int .i64 0, .int .i64 0, .int .i64 0, .int .i64 0, .int .i64 0, .slice none 0 0] 24))) := (Blk.new2 _ _ _ _).below (below_alloc _ _)
  have QZ : Hid (Blk (w.heap.size + 1 + 1) 24 polZ (((w.alloc (.cells (polL l s).toArray 24)).alloc (.cells (polL l' s').toArray 24)).alloc (.cells #[.int .i64 0, .int .i64 0, .int .i64 0, .int .i64 0, .int .i64 0, .int .i64 0, .int .i64 0, .int .i64 0, .int .i64 0, .int .i64 0, .int .i64 0, .int .i64 0, .int .i64 0, .int .i64 0, .int .i64 0, .int .i64 0, .int .i64 0, .slice none 0 0] 24))) := Blk.new3 _ _ _ _ _
  have A0 : Hid ((polL l s)[4]? = some (.int .i64 (l.getD 4 0))) := polL_at hl 4 (by omega)
  have A1 : Hid ((polL l' s')[4]? = some (.int .i64 (l'.getD 4 0))) := polL_at hl' 4 (by omega)
  have ST : Hid ((polL l s).set 4 (.int .i64 (l'.getD 4 0)) = polL (l.set 4 (l'.getD 4 0)) s) := polL_setn (by omega) _
  have SZ : Hid ((Try.prog.info? 24).map (·.size) = some (polL (l.set 4 (l'.getD 4 0)) s).length) := by show _ = _; rw [polL_len (by rw [List.length_set]; exact hl)]; exact sizeP
  have FT : Hid (0 + (polL (l.set 4 (l'.getD 4 0)) s).length ≤ polZ.length ∧ polZ.length ≤ 0 + (polL (l.set 4 (l'.getD 4 0)) s).length) := by show _ ∧ _; rw [polL_len (by rw [List.length_set]; exact hl)]; exact ⟨Nat.le_refl 18, Nat.le_refl 18⟩
  have OV : Hid (∀ v ∈ polL (l.set 4 (l'.getD 4 0)) s, v.oneCell' = true) := by show ∀ v ∈ _, _; rw [hs]; exact polL_one
  clear hl hl'
  generalize l'.getD 4 0 = x at *
  generalize l.getD 4 0 = y at *
  obtain ⟨RC, hR⟩ : ∃ RC, polL (l.set 4 x) s = RC := ⟨_, rfl⟩
  rw [hR] at ST SZ FT OV
  have HR : Hid (polL (l.set 4 x) s = RC) := hR
  clear hR
  generalize polL l s = C0 at *
  generalize polL l' s' = C1 at *
  go_enter Try.func12, Try.ntmps12
  go_upto_region 1 with fail
  generalize ((w.alloc (.cells C0.toArray 24)).alloc (.cells C1.toArray 24)).alloc (.cells #[.int .i64 0, .int .i64 0, .int .i64 0, .int .i64 0, .int .i64 0, .int .i64 0, .int .i64 0, .int .i64 0, .int .i64 0, .int .i64 0, .int .i64 0, .int .i64 0, .int .i64 0, .int .i64 0, .int .i64 0, .int .i64 0, .int .i64 0, .slice none 0 0] 24) = w0 at *
  have x0 := Q0.out.cell 4 _ A0.out
  have f0 := Q0.out.fz 4
  have x1 := QB.out.cell 4 _ A1.out
  have q1 : Hid (Blk w.heap.size 24 RC (w0.setCell ⟨w.heap.size, 4, none⟩ (.int .i64 x))) := by
    have := Q0.out.set (i := 4) (.int .i64 x)
    rwa [ST.out] at this
  have z1 : Hid (Blk (w.heap.size + 1 + 1) 24 polZ (w0.setCell ⟨w.heap.size, 4, none⟩ (.int .i64 x))) := QZ.out.grown (setCell_grown _ _ _ _) (fun e => by injection e with e; omega)
  have b1 : Hid (Below w.heap.size w (w0.setCell ⟨w.heap.size, 4, none⟩ (.int .i64 x))) := below_row B0.out (setCell_grown _ _ _ _) (Nat.le_refl _)
  go_upto_region 38 with fail
  generalize w0.setCell ⟨w.heap.size, 4, none⟩ (.int .i64 x) = w1 at *
  clear x0 f0 x1 Q0 QB QZ B0 A0 A1 ST
  go_wp2_with (first
  | (refine step_load rfl 24 (.tmp 3) rfl w.heap.size 0 rfl RC _ (Blk.all q1.out) Try.underlying24 rfl SZ.out ?_)
  | ((with_reducible refine at_store ?_); refine step_store rfl 24 (.tmp 6) (.tmp 98) rfl (w.heap.size + 1 + 1) 0 24 polZ RC rfl rfl z1.out FT.out.1 SZ.out OV.out ?_; intro w2 nb2 g2))
  refine ret_blk rfl rfl (w.heap.size + 1 + 1) 24 RC _ rfl (blk_put FT.out.2 nb2) Try.underlying24 rfl SZ.out ?_
  exact ⟨by rw [← HR.out], below_row b1.out g2 (by omega)⟩

set_option maxRecDepth 20000 in
set_option maxHeartbeats 1000000 in
theorem mended5_at (l l' : List Int) (a a' : Option Addr) (n n' c c' : Nat) (hl : l.length = 17) (hl' : l'.length = 17) (w : World) :
    Calls Try.prog 12 #[PV l (.slice a n c), PV l' (.slice a' n' c'), .int .i64 6] w fun e w' => e = .returned (PV (l.set 5 (l'.getD 5 0)) (.slice a n c)) ∧ Below w.heap.size w w' := by
  obtain ⟨s, hs⟩ : ∃ s : Value, s = .slice a n c := ⟨_, rfl⟩
  obtain ⟨s', hs'⟩ : ∃ s : Value, s = .slice a' n' c' := ⟨_, rfl⟩
  rw [← hs, ← hs']
  show Calls _ _ #[.agg (polL l s).toArray, .agg (polL l' s').toArray, _] _ _
  have B0 : Hid (Below w.heap.size w (((w.alloc (.cells (polL l s).toArray 24)).alloc (.cells (polL l' s').toArray 24)).alloc (.cells #[.int .i64 0, .int .i64 0, .int .i64 0, .int .i64 0, .int .i64 0, .int .i64 0, .int .i64 0, .int .i64 0, .int .i64 0, .int .i64 0, .int .i64 0, .int .i64 0, .int .i64 0, .int .i64 0, .int .i64 0, .int .i64 0, .int .i64 0, .slice none 0 0] 24))) := below_trans (below_trans (below_alloc _ _) (below_alloc _ _)) (below_alloc _ _)
  have Q0 : Hid (Blk w.heap.size 24 (polL l s) (((w.alloc (.cells (polL l s).toArray 24)).alloc (.cells (polL l' s').toArray 24)).alloc (.cells #[.int .i64 0, .int .i64 0, .int .i64 0, .int .i64 0, .int .i64 0, .int .i64 0, .int .i64 0, .int .i64 0, .int .i64 0, .int .i64 0, .int .i64 0, .int .i64 0, .int .i64 0, .int .i64 0, .int .i64 0, .int .i64 0, .int .i64 0, .slice none 0 0] 24))) := ((Blk.new _ _ _).below (below_alloc _ _)).below (below_alloc _ _)
  have QB : Hid (Blk (w.heap.size + 1) 24 (polL l' s') (((w.alloc (.cells (polL l s).toArray 24)).alloc (.cells (polL l' s').toArray 24)).alloc (.cells #[.int .i64 0, .int .i64 0, .int .i64 0, .int .i64 0, .int .i64 0, .int .i64 0, .int .i64 0, .int .i64 0, .int .i64 0, .int .i64 0, .int .i64 0, .int .i64 0, .int .i64 0, .int .i64 0, .int .i64 0, .int .i64 0, .int .i64 0, .slice none 0 0] 24))) := (Blk.new2 _ _ _ _).below (below_alloc _ _)
  have QZ : Hid (Blk (w.heap.size + 1 + 1) 24 polZ (((w.alloc (.cells (polL l s).toArray 24)).alloc (.cells (polL l' s').toArray 24)).alloc (.cells #[.int .i64 0, .int .i64 0, .int .i64 0, .int .i64 0, .int .i64 0, .int .i64 0, .int .i64 0, .int .i64 0, .int .i64 0, .int .i64 0, .int .i64 0, .int .i64 0, .int .i64 0, .int .i64 0, .int .i64 0, .int .i64 0, .int .i64 0, .slice none 0 0] 24))) := Blk.new3 _ _ _ _ _
  have A0 : Hid ((polL l s)[5]? = some (.int .i64 (l.getD 5 0))) := polL_at hl 5 (by omega)
  have A1 : Hid ((polL l' s')[5]? = some (.int .i64 (l'.getD 5 0))) := polL_at hl' 5 (by omega)
  have ST : Hid ((polL l s).set 5 (.int .i64 (l'.getD 5 0)) = polL (l.set 5 (l'.getD 5 0)) s) := polL_setn (by omega) _
  have SZ : Hid ((Try.prog.info? 24).map (·.size) = some (polL (l.set 5 (l'.getD 5 0)) s).length) := by show _ = _; rw [polL_len (by rw [List.length_set]; exact hl)]; exact sizeP
  have FT : Hid (0 + (polL (l.set 5 (l'.getD 5 0)) s).length ≤ polZ.length ∧ polZ.length ≤ 0 + (polL (l.set 5 (l'.getD 5 0)) s).length) := by show _ ∧ _; rw [polL_len (by rw [List.length_set]; exact hl)]; exact ⟨Nat.le_refl 18, Nat.le_refl 18⟩
  have OV : Hid (∀ v ∈ polL (l.set 5 (l'.getD 5 0)) s, v.oneCell' = true) := by show ∀ v ∈ _, _; rw [hs]; exact polL_one
  clear hl hl'
  generalize l'.getD 5 0 = x at *
  generalize l.getD 5 0 = y at *
  obtain ⟨RC, hR⟩ : ∃ RC, polL (l.set 5 x) s = RC := ⟨_, rfl⟩
  rw [hR] at ST SZ FT OV
  have HR : Hid (polL (l.set 5 x) s = RC) := hR
  clear hR
  generalize polL l s = C0 at *
  generalize polL l' s' = C1 at *
  go_enter Try.func12, Try.ntmps12
  go_upto_region 1 with fail
  generalize ((w.alloc (.cells C0.toArray 24)).alloc (.cells C1.toArray 24)).alloc (.cells #[.int .i64 0, .int .i64 0, .int .i64 0, .int .i64 0, .int .i64 0, .int .i64 0, .int .i64 0, .int .i64 0, .int .i64 0, .int .i64 0, .int .i64 0, .int .i64 0, .int .i64 0, .int .i64 0, .int .i64 0, .int .i64 0, .int .i64 0, .slice none 0 0] 24) = w0 at *
  have x0 := Q0.out.cell 5 _ A0.out
  have f0 := Q0.out.fz 5
  have x1 := QB.out.cell 5 _ A1.out
  have q1 : Hid (Blk w.heap.size 24 RC (w0.setCell ⟨w.heap.size, 5, none⟩ (.int .i64 x))) := by
    have := Q0.out.set (i := 5) (.int .i64 x)
    rwa [ST.out] at this
  have z1 : Hid (Blk (w.heap.size + 1 + 1) 24 polZ (w0.setCell ⟨w.heap.size, 5, none⟩ (.int .i64 x))) := QZ.out.grown (setCell_grown _ _ _ _) (fun e => by injection e with e; omega)
  have b1 : Hid (Below w.heap.size w (w0.setCell ⟨w.heap.size, 5, none⟩ (.int .i64 x))) := below_row B0.out (setCell_grown _ _ _ _) (Nat.le_refl _)
  go_upto_region 38 with fail
  generalize w0.setCell ⟨w.heap.size, 5, none⟩ (.int .i64 x) = w1 at *
  clear x0 f0 x1 Q0 QB QZ B0 A0 A1 ST
  go_wp2_with (first
  | (refine step_load rfl 24 (.tmp 3) rfl w.heap.size 0 rfl RC _ (Blk.all q1.out) Try.underlying24 rfl SZ.out ?_)
  | ((with_reducible refine at_store ?_); refine step_store rfl 24 (.tmp 6) (.tmp 98) rfl (w.heap.size + 1 + 1) 0 24 polZ RC rfl rfl z1.out FT.out.1 SZ.out OV.out ?_; intro w2 nb2 g2))
  refine ret_blk rfl rfl (w.heap.size + 1 + 1) 24 RC _ rfl (blk_put FT.out.2 nb2) Try.underlying24 rfl SZ.out ?_
  exact ⟨by rw [← HR.out], below_row b1.out g2 (by omega)⟩

set_option maxRecDepth 20000 in
set_option maxHeartbeats 1000000 in
theorem mended6_at (l l' : List Int) (a a' : Option Addr) (n n' c c' : Nat) (hl : l.length = 17) (hl' : l'.length = 17) (w : World) :
    Calls Try.prog 12 #[PV l (.slice a n c), PV l' (.slice a' n' c'), .int .i64 7] w fun e w' => e = .returned (PV (l.set 6 (l'.getD 6 0)) (.slice a n c)) ∧ Below w.heap.size w w' := by
  obtain ⟨s, hs⟩ : ∃ s : Value, s = .slice a n c := ⟨_, rfl⟩
  obtain ⟨s', hs'⟩ : ∃ s : Value, s = .slice a' n' c' := ⟨_, rfl⟩
  rw [← hs, ← hs']
  show Calls _ _ #[.agg (polL l s).toArray, .agg (polL l' s').toArray, _] _ _
  have B0 : Hid (Below w.heap.size w (((w.alloc (.cells (polL l s).toArray 24)).alloc (.cells (polL l' s').toArray 24)).alloc (.cells #[.int .i64 0, .int .i64 0, .int .i64 0, .int .i64 0, .int .i64 0, .int .i64 0, .int .i64 0, .int .i64 0, .int .i64 0, .int .i64 0, .int .i64 0, .int .i64 0, .int .i64 0, .int .i64 0, .int .i64 0, .int .i64 0, .int .i64 0, .slice none 0 0] 24))) := below_trans (below_trans (below_alloc _ _) (below_alloc _ _)) (below_alloc _ _)
  have Q0 : Hid (Blk w.heap.size 24 (polL l s) (((w.alloc (.cells (polL l s).toArray 24)).alloc (.cells (polL l' s').toArray 24)).alloc (.cells #[.int .i64 0, .int .i64 0, .int .i64 0, .int .i64 0, .int .i64 0, .int .i64 0, .int .i64 0, .int .i64 0, .int .i64 0, .int .i64 0, .int .i64 0, .int .i64 0, .int .i64 0, .int .i64 0, .int .i64 0, .int .i64 0, .int .i64 0, .slice none 0 0] 24))) := ((Blk.new _ _ _).below (below_alloc _ _)).below (below_alloc _ _)
  have QB : Hid (Blk (w.heap.size + 1) 24 (polL l' s') (((w.alloc (.cells (polL l s).toArray 24)).alloc (.cells (polL l' s').toArray 24)).alloc (.cells #[.int .i64 0, .int .i64 0, .int .i64 0, .int .i64 0, .int .i64 0, .int .i64 0, .int .i64 0, .int .i64 0, .int .i64 0, .int .i64 0, .int .i64 0, .int .i64 0, .int .i64 0, .int .i64 0, .int .i64 0, .int .i64 0, .int .i64 0, .slice none 0 0] 24))) := (Blk.new2 _ _ _ _).below (below_alloc _ _)
  have QZ : Hid (Blk (w.heap.size + 1 + 1) 24 polZ (((w.alloc (.cells (polL l s).toArray 24)).alloc (.cells (polL l' s').toArray 24)).alloc (.cells #[.int .i64 0, .int .i64 0, .int .i64 0, .int .i64 0, .int .i64 0, .int .i64 0, .int .i64 0, .int .i64 0, .int .i64 0, .int .i64 0, .int .i64 0, .int .i64 0, .int .i64 0, .int .i64 0, .int .i64 0, .int .i64 0, .int .i64 0, .slice none 0 0] 24))) := Blk.new3 _ _ _ _ _
  have A0 : Hid ((polL l s)[6]? = some (.int .i64 (l.getD 6 0))) := polL_at hl 6 (by omega)
  have A1 : Hid ((polL l' s')[6]? = some (.int .i64 (l'.getD 6 0))) := polL_at hl' 6 (by omega)
  have ST : Hid ((polL l s).set 6 (.int .i64 (l'.getD 6 0)) = polL (l.set 6 (l'.getD 6 0)) s) := polL_setn (by omega) _
  have SZ : Hid ((Try.prog.info? 24).map (·.size) = some (polL (l.set 6 (l'.getD 6 0)) s).length) := by show _ = _; rw [polL_len (by rw [List.length_set]; exact hl)]; exact sizeP
  have FT : Hid (0 + (polL (l.set 6 (l'.getD 6 0)) s).length ≤ polZ.length ∧ polZ.length ≤ 0 + (polL (l.set 6 (l'.getD 6 0)) s).length) := by show _ ∧ _; rw [polL_len (by rw [List.length_set]; exact hl)]; exact ⟨Nat.le_refl 18, Nat.le_refl 18⟩
  have OV : Hid (∀ v ∈ polL (l.set 6 (l'.getD 6 0)) s, v.oneCell' = true) := by show ∀ v ∈ _, _; rw [hs]; exact polL_one
  clear hl hl'
  generalize l'.getD 6 0 = x at *
  generalize l.getD 6 0 = y at *
  obtain ⟨RC, hR⟩ : ∃ RC, polL (l.set 6 x) s = RC := ⟨_, rfl⟩
  rw [hR] at ST SZ FT OV
  have HR : Hid (polL (l.set 6 x) s = RC) := hR
  clear hR
  generalize polL l s = C0 at *
  generalize polL l' s' = C1 at *
  go_enter Try.func12, Try.ntmps12
  go_upto_region 1 with fail
  generalize ((w.alloc (.cells C0.toArray 24)).alloc (.cells C1.toArray 24)).alloc (.cells #[.int .i64 0, .int .i64 0, .int .i64 0, .int .i64 0, .int .i64 0, .int .i64 0, .int .i64 0, .int .i64 0, .int .i64 0, .int .i64 0, .int .i64 0, .int .i64 0, .int .i64 0, .int .i64 0, .int .i64 0, .int .i64 0, .int .i64 0, .slice none 0 0] 24) = w0 at *
  have x0 := Q0.out.cell 6 _ A0.out
  have f0 := Q0.out.fz 6
  have x1 := QB.out.cell 6 _ A1.out
  have q1 : Hid (Blk w.heap.size 24 RC (w0.setCell ⟨w.heap.size, 6, none⟩ (.int .i64 x))) := by
    have := Q0.out.set (i := 6) (.int .i64 x)
    rwa [ST.out] at this
  have z1 : Hid (Blk (w.heap.size + 1 + 1) 24 polZ (w0.setCell ⟨w.heap.size, 6, none⟩ (.int .i64 x))) := QZ.out.grown (setCell_grown _ _ _ _) (fun e => by injection e with e; omega)
  have b1 : Hid (Below w.heap.size w (w0.setCell ⟨w.heap.size, 6, none⟩ (.int .i64 x))) := below_row B0.out (setCell_grown _ _ _ _) (Nat.le_refl _)
  go_upto_region 38 with fail
  generalize w0.setCell ⟨w.heap.size, 6, none⟩ (.int .i64 x) = w1 at *
  clear x0 f0 x1 Q0 QB QZ B0 A0 A1 ST
  go_wp2_with (first
  | (refine step_load rfl 24 (.tmp 3) rfl w.heap.size 0 rfl RC _ (Blk.all q1.out) Try.underlying24 rfl SZ.out ?_)
  | ((with_reducible refine at_store ?_); refine step_store rfl 24 (.tmp 6) (.tmp 98) rfl (w.heap.size + 1 + 1) 0 24 polZ RC rfl rfl z1.out FT.out.1 SZ.out OV.out ?_; intro w2 nb2 g2))
  refine ret_blk rfl rfl (w.heap.size + 1 + 1) 24 RC _ rfl (blk_put FT.out.2 nb2) Try.underlying24 rfl SZ.out ?_
  exact ⟨by rw [← HR.out], below_row b1.out g2 (by omega)⟩

set_option maxRecDepth 20000 in
set_option maxHeartbeats 1000000 in
theorem mended7_at (l l' : List Int) (a a' : Option Addr) (n n' c c' : Nat) (hl : l.length = 17) (hl' : l'.length = 17) (w : World) :
    Calls Try.prog 12 #[PV l (.slice a n c), PV l' (.slice a' n' c'), .int .i64 8] w fun e w' => e = .returned (PV (l.set 7 (l'.getD 7 0)) (.slice a n c)) ∧ Below w.heap.size w w' := by
  obtain ⟨s, hs⟩ : ∃ s : Value, s = .slice a n c := ⟨_, rfl⟩
  obtain ⟨s', hs'⟩ : ∃ s : Value, s = .slice a' n' c' := ⟨_, rfl⟩
  rw [← hs, ← hs']
  show Calls _ _ #[.agg (polL l s).toArray, .agg (polL l' s').toArray, _] _ _
  have B0 : Hid (Below w.heap.size w (((w.alloc (.cells (polL l s).toArray 24)).alloc (.cells (polL l' s').toArray 24)).alloc (.cells #[.int .i64 0, .int .i64 0, .int .i64 0, .int .i64 0, .int .i64 0, .int .i64 0, .int .i64 0, .int .i64 0, .int .i64 0, .int .i64 0, .int .i64 0, .int .i64 0, .int .i64 0, .int .i64 0, .int .i64 0, .int .i64 0, .int .i64 0, .slice none 0 0] 24))) := below_trans (below_trans (below_alloc _ _) (below_alloc _ _)) (below_alloc _ _)
  have Q0 : Hid (Blk w.heap.size 24 (polL l s) (((w.alloc (.cells (polL l s).toArray 24)).alloc (.cells (polL l' s').toArray 24)).alloc (.cells #[.int .i64 0, .int .i64 0, .int .i64 0, .int .i64 0, .int .i64 0, .int .i64 0, .int .i64 0, .int .i64 0, .int .i64 0, .int .i64 0, .int .i64 0, .int .i64 0, .int .i64 0, .int .i64 0, .int .i64 0, .int .i64 0, .int .i64 0, .slice none 0 0] 24))) := ((Blk.new _ _ _).below (below_alloc _ _)).below (below_alloc _ _)
  have QB : Hid (Blk (w.heap.size + 1) 24 (polL l' s') (((w.alloc (.cells (polL l s).toArray 24)).alloc (.cells (polL l' s').toArray 24)).alloc (.cells #[.int .i64 0, .int .i64 0, .int .i64 0, .int .i64 0, .int .i64 0, .int .i64 0, .int .i64 0, .int .i64 0, .int .i64 0, .int .i64 0, .int .i64 0, .int .i64 0, .int .i64 0, .int .i64 0, .int .i64 0, .int .i64 0, .int .i64 0, .slice none 0 0] 24))) := (Blk.new2 _ _ _ _).below (below_alloc _ _)
  have QZ : Hid (Blk (w.heap.size + 1 + 1) 24 polZ (((w.alloc (.cells (polL l s).toArray 24)).alloc (.cells (polL l' s').toArray 24)).alloc (.cells #[.int .i64 0, .int .i64 0, .int .i64 0, .int .i64 0, .int .i64 0, .int .i64 0, .int .i64 0, .int .i64 0, .int .i64 0, .int .i64 0, .int .i64 0, .int .i64 0, .int .i64 0, .int .i64 0, .int .i64 0, .int .i64 0, .int .i64 0, .slice none 0 0] 24))) := Blk.new3 _ _ _ _ _
  have A0 : Hid ((polL l s)[7]? = some (.int .i64 (l.getD 7 0))) := polL_at hl 7 (by omega)
  have A1 : Hid ((polL l' s')[7]? = some (.int .i64 (l'.getD 7 0))) := polL_at hl' 7 (by omega)
  have ST : Hid ((polL l s).set 7 (.int .i64 (l'.getD 7 0)) = polL (l.set 7 (l'.getD 7 0)) s) := polL_setn (by omega) _
  have SZ : Hid ((Try.prog.info? 24).map (·.size) = some (polL (l.set 7 (l'.getD 7 0)) s).length) := by show _ = _; rw [polL_len (by rw [List.length_set]; exact hl)]; exact sizeP
  have FT : Hid (0 + (polL (l.set 7 (l'.getD 7 0)) s).length ≤ polZ.length ∧ polZ.length ≤ 0 + (polL (l.set 7 (l'.getD 7 0)) s).length) := by show _ ∧ _; rw [polL_len (by rw [List.length_set]; exact hl)]; exact ⟨Nat.le_refl 18, Nat.le_refl 18⟩
  have OV : Hid (∀ v ∈ polL (l.set 7 (l'.getD 7 0)) s, v.oneCell' = true) := by show ∀ v ∈ _, _; rw [hs]; exact polL_one
  clear hl hl'
  generalize l'.getD 7 0 = x at *
  generalize l.getD 7 0 = y at *
  obtain ⟨RC, hR⟩ : ∃ RC, polL (l.set 7 x) s = RC := ⟨_, rfl⟩
  rw [hR] at ST SZ FT OV
  have HR : Hid (polL (l.set 7 x) s = RC) := hR
  clear hR
  generalize polL l s = C0 at *
  generalize polL l' s' = C1 at *
  go_enter Try.func12, Try.ntmps12
  go_upto_region 1 with fail
  generalize ((w.alloc (.cells C0.toArray 24)).alloc (.cells C1.toArray 24)).alloc (.cells #[.int .i64 0, .int .i64 0, .int .i64 0, .int .i64 0, .int .i64 0, .int .i64 0, .int .i64 0, .int .i64 0, .int .i64 0, .int .i64 0, .int .i64 0, .int .i64 0, .int .i64 0, .int .i64 0, .int .i64 0, .int .i64 0, .int .i64 0, .slice none 0 0] 24) = w0 at *
  have x0 := Q0.out.cell 7 _ A0.out
  have f0 := Q0.out.fz 7
  have x1 := QB.out.cell 7 _ A1.out
  have q1 : Hid (Blk w.heap.size 24 RC (w0.setCell ⟨w.heap.size, 7, none⟩ (.int .i64 x))) := by
    have := Q0.out.set (i := 7) (.int .i64 x)
    rwa [ST.out] at this
  have z1 : Hid (Blk (w.heap.size + 1 + 1) 24 polZ (w0.setCell ⟨w.heap.size, 7, none⟩ (.int .i64 x))) := QZ.out.grown (setCell_grown _ _ _ _) (fun e => by injection e with e; omega)
  have b1 : Hid (Below w.heap.size w (w0.setCell ⟨w.heap.size, 7, none⟩ (.int .i64 x))) := below_row B0.out (setCell_grown _ _ _ _) (Nat.le_refl _)
  go_upto_region 38 with fail
  generalize w0.setCell ⟨w.heap.size, 7, none⟩ (.int .i64 x) = w1 at *
  clear x0 f0 x1 Q0 QB QZ B0 A0 A1 ST
  go_wp2_with (first
  | (refine step_load rfl 24 (.tmp 3) rfl w.heap.size 0 rfl RC _ (Blk.all q1.out) Try.underlying24 rfl SZ.out ?_)
  | ((with_reducible refine at_store ?_); refine step_store rfl 24 (.tmp 6) (.tmp 98) rfl (w.heap.size + 1 + 1) 0 24 polZ RC rfl rfl z1.out FT.out.1 SZ.out OV.out ?_; intro w2 nb2 g2))
  refine ret_blk rfl rfl (w.heap.size + 1 + 1) 24 RC _ rfl (blk_put FT.out.2 nb2) Try.underlying24 rfl SZ.out ?_
  exact ⟨by rw [← HR.out], below_row b1.out g2 (by omega)⟩

set_option maxRecDepth 20000 in
set_option maxHeartbeats 1000000 in
theorem mended8_at (l l' : List Int) (a a' : Option Addr) (n n' c c' : Nat) (hl : l.length = 17) (hl' : l'.length = 17) (w : World) :
    Calls Try.prog 12 #[PV l (.slice a n c), PV l' (.slice a' n' c'), .int .i64 9] w fun e w' => e = .returned (PV (l.set 8 (l'.getD 8 0)) (.slice a n c)) ∧ Below w.heap.size w w' := by
  obtain ⟨s, hs⟩ : ∃ s : Value, s = .slice a n c := ⟨_, rfl⟩
  obtain ⟨s', hs'⟩ : ∃ s : Value, s = .slice a' n' c' := ⟨_, rfl⟩
  rw [← hs, ← hs']
  show Calls _ _ #[.agg (polL l s).toArray, .agg (polL l' s').toArray, _] _ _
  have B0 : Hid (Below w.heap.size w (((w.alloc (.cells (polL l s).toArray 24)).alloc (.cells (polL l' s').toArray 24)).alloc (.cells #[.int .i64 0, .int .i64 0, .int .i64 0, .int .i64 0, .int .i64 0, .int .i64 0, .int .i64 0, .int .i64 0, .int .i64 0, .int .i64 0, .int .i64 0, .int .i64 0, .int .i64 0, .int .i64 0, .int .i64 0, .int .i64 0, .int .i64 0, .slice none 0 0] 24))) := below_trans (below_trans (below_alloc _ _) (below_alloc _ _)) (below_alloc _ _)
  have Q0 : Hid (Blk w.heap.size 24 (polL l s) (((w.alloc (.cells (polL l s).toArray 24)).alloc (.cells (polL l' s').toArray 24)).alloc (.cells #[.int .i64 0, .int .i64 0, .int .i64 0, .int .i64 0, .int .i64 0, .int .i64 0, .int .i64 0, .int .i64 0, .int .i64 0, .int .i64 0, .int .i64 0, .int .i64 0, .int .i64 0, .int .i64 0, .int .i64 0, .int .i64 0, .int .i64 0, .slice none 0 0] 24))) := ((Blk.new _ _ _).below (below_alloc _ _)).below (below_alloc _ _)
  have QB : Hid (Blk (w.heap.size + 1) 24 (polL l' s') (((w.alloc (.cells (polL l s).toArray 24)).alloc (.cells (polL l' s').toArray 24)).alloc (.cells #[.int .i64 0, .int .i64 0, .int .i64 0, .int .i64 0, .int .i64 0, .int .i64 0, .int .i64 0, .int .i64 0, .int .i64 0, .int .i64 0, .int .i64 0, .int .i64 0, .int .i64 0, .int .i64 0, .int .i64 0, .int .i64 0, .int .i64 0, .slice none 0 0] 24))) := (Blk.new2 _ _ _ _).below (below_alloc _ _)
  have QZ : Hid (Blk (w.heap.size + 1 + 1) 24 polZ (((w.alloc (.cells (polL l s).toArray 24)).alloc (.cells (polL l' s').toArray 24)).alloc (.cells #[.int .i64 0, .int .i64 0, .int .i64 0, .int .i64 0, .int .i64 0, .int .i64 0, .int .i64 0, .int .i64 0, .int .i64 0, .int .i64 0, .int .i64 0, .int .i64 0, .int .i64 0, .int .i64 0, .int .i64 0, .int .i64 0, .int .i64 0, .slice none 0 0] 24))) := Blk.new3 _ _ _ _ _
  have A0 : Hid ((polL l s)[8]? = some (.int .i64 (l.getD 8 0))) := polL_at hl 8 (by omega)
  have A1 : Hid ((polL l' s')[8]? = some (.int .i64 (l'.getD 8 0))) := polL_at hl' 8 (by omega)
  have ST : Hid ((polL l s).set 8 (.int .i64 (l'.getD 8 0)) = polL (l.set 8 (l'.getD 8 0)) s) := polL_setn (by omega) _
  have SZ : Hid ((Try.prog.info? 24).map (·.size) = some (polL (l.set 8 (l'.getD 8 0)) s).length) := by show _ = _; rw [polL_len (by rw [List.length_set]; exact hl)]; exact sizeP
  have FT : Hid (0 + (polL (l.set 8 (l'.getD 8 0)) s).length ≤ polZ.length ∧ polZ.length ≤ 0 + (polL (l.set 8 (l'.getD 8 0)) s).length) := by show _ ∧ _; rw [polL_len (by rw [List.length_set]; exact hl)]; exact ⟨Nat.le_refl 18, Nat.le_refl 18⟩
  have OV : Hid (∀ v ∈ polL (l.set 8 (l'.getD 8 0)) s, v.oneCell' = true) := by show ∀ v ∈ _, _; rw [hs]; exact polL_one
  clear hl hl'
  generalize l'.getD 8 0 = x at *
  generalize l.getD 8 0 = y at *
  obtain ⟨RC, hR⟩ : ∃ RC, polL (l.set 8 x) s = RC := ⟨_, rfl⟩
  rw [hR] at ST SZ FT OV
  have HR : Hid (polL (l.set 8 x) s = RC) := hR
  clear hR
  generalize polL l s = C0 at *
  generalize polL l' s' = C1 at *
  go_enter Try.func12, Try.ntmps12
  go_upto_region 1 with fail
  generalize ((w.alloc (.cells C0.toArray 24)).alloc (.cells C1.toArray 24)).alloc (.cells #[.int .i64 0, .int .i64 0, .int .i64 0, .int .i64 0, .int .i64 0, .int .i64 0, .int .i64 0, .int .i64 0, .int .i64 0, .int .i64 0, .int .i64 0, .int .i64 0, .int .i64 0, .int .i64 0, .int .i64 0, .int .i64 0, .int .i64 0, .slice none 0 0] 24) = w0 at *
  have x0 := Q0.out.cell 8 _ A0.out
  have f0 := Q0.out.fz 8
  have x1 := QB.out.cell 8 _ A1.out
  have q1 : Hid (Blk w.heap.size 24 RC (w0.setCell ⟨w.heap.size, 8, none⟩ (.int .i64 x))) := by
    have := Q0.out.set (i := 8) (.int .i64 x)
    rwa [ST.out] at this
  have z1 : Hid (Blk (w.heap.size + 1 + 1) 24 polZ (w0.setCell ⟨w.heap.size, 8, none⟩ (.int .i64 x))) := QZ.out.grown (setCell_grown _ _ _ _) (fun e => by injection e with e; omega)
  have b1 : Hid (Below w.heap.size w (w0.setCell ⟨w.heap.size, 8, none⟩ (.int .i64 x))) := below_row B0.out (setCell_grown _ _ _ _) (Nat.le_refl _)
  go_upto_region 38 with fail
  generalize w0.setCell ⟨w.heap.size, 8, none⟩ (.int .i64 x) = w1 at *
  clear x0 f0 x1 Q0 QB QZ B0 A0 A1 ST
  go_wp2_with (first
  | (refine step_load rfl 24 (.tmp 3) rfl w.heap.size 0 rfl RC _ (Blk.all q1.out) Try.underlying24 rfl SZ.out ?_)
  | ((with_reducible refine at_store ?_); refine step_store rfl 24 (.tmp 6) (.tmp 98) rfl (w.heap.size + 1 + 1) 0 24 polZ RC rfl rfl z1.out FT.out.1 SZ.out OV.out ?_; intro w2 nb2 g2))
  refine ret_blk rfl rfl (w.heap.size + 1 + 1) 24 RC _ rfl (blk_put FT.out.2 nb2) Try.underlying24 rfl SZ.out ?_
  exact ⟨by rw [← HR.out], below_row b1.out g2 (by omega)⟩

set_option maxRecDepth 20000 in
set_option maxHeartbeats 1000000 in
theorem mended9_at (l l' : List Int) (a a' : Option Addr) (n n' c c' : Nat) (hl : l.length = 17) (hl' : l'.length = 17) (w : World) :
    Calls Try.prog 12 #[PV l (.slice a n c), PV l' (.slice a' n' c'), .int .i64 10] w fun e w' => e = .returned (PV (l.set 9 (l'.getD 9 0)) (.slice a n c)) ∧ Below w.heap.size w w' := by
  obtain ⟨s, hs⟩ : ∃ s : Value, s = .slice a n c := ⟨_, rfl⟩
  obtain ⟨s', hs'⟩ : ∃ s : Value, s = .slice a' n' c' := ⟨_, rfl⟩
  rw [← hs, ← hs']
  show Calls _ _ #[.agg (polL l s).toArray, .agg (polL l' s').toArray, _] _ _
  have B0 : Hid (Below w.heap.size w (((w.alloc (.cells (polL l s).toArray 24)).alloc (.cells (polL l' s').toArray 24)).alloc (.cells #[.int .i64 0, .int .i64 0, .int .i64 0, .int .i64 0, .int .i64 0, .int .i64 0, .int .i64 0, .int .i64 0, .int .i64 0, .int .i64 0, .int .i64 0, .int .i64 0, .int .i64 0, .int .i64 0, .int .i64 0, .int .i64 0, .int .i64 0, .slice none 0 0] 24))) := below_trans (below_trans (below_alloc _ _) (below_alloc _ _)) (below_alloc _ _)
  have Q0 : Hid (Blk w.heap.size 24 (polL l s) (((w.alloc (.cells (polL l s).toArray 24)).alloc (.cells (polL l' s').toArray 24)).alloc (.cells #[.int .i64 0, .int .i64 0, .int .i64 0, .int .i64 0, .int .i64 0, .int .i64 0, .int .i64 0, .int .i64 0, .int .i64 0, .int .i64 0, .int .i64 0, .int .i64 0, .int .i64 0, .int .i64 0, .int .i64 0, .int .i64 0, .int .i64 0, .slice none 0 0] 24))) := ((Blk.new _ _ _).below (below_alloc _ _)).below (below_alloc _ _)
  have QB : Hid (Blk (w.heap.size + 1) 24 (polL l' s') (((w.alloc (.cells (polL l s).toArray 24)).alloc (.cells (polL l' s').toArray 24)).alloc (.cells #[.int .i64 0, .int .i64 0, .int .i64 0, .int .i64 0, .int .i64 0, .int .i64 0, .int .i64 0, .int .i64 0, .int .i64 0, .int .i64 0, .int .i64 0, .int .i64 0, .int .i64 0, .int .i64 0, .int .i64 0, .int .i64 0, .int .i64 0, .slice none 0 0] 24))) := (Blk.new2 _ _ _ _).below (below_alloc _ _)
  have QZ : Hid (Blk (w.heap.size + 1 + 1) 24 polZ (((w.alloc (.cells (polL l s).toArray 24)).alloc (.cells (polL l' s').toArray 24)).alloc (.cells #[.int .i64 0, .int .i64 0, .int .i64 0, .int .i64 0, .int .i64 0, .int .i64 0, .int .i64 0, .int .i64 0, .int .i64 0, .int .i64 0, .int .i64 0, .int .i64 0, .int .i64 0, .int .i64 0, .int .i64 0, .int .i64 0, .int .i64 0, .slice none 0 0] 24))) := Blk.new3 _ _ _ _ _
  have A0 : Hid ((polL l s)[9]? = some (.int .i64 (l.getD 9 0))) := polL_at hl 9 (by omega)
  have A1 : Hid ((polL l' s')[9]? = some (.int .i64 (l'.getD 9 0))) := polL_at hl' 9 (by omega)
  have ST : Hid ((polL l s).set 9 (.int .i64 (l'.getD 9 0)) = polL (l.set 9 (l'.getD 9 0)) s) := polL_setn (by omega) _
  have SZ : Hid ((Try.prog.info? 24).map (·.size) = some (polL (l.set 9 (l'.getD 9 0)) s).length) := by show _ = _; rw [polL_len (by rw [List.length_set]; exact hl)]; exact sizeP
  have FT : Hid (0 + (polL (l.set 9 (l'.getD 9 0)) s).length ≤ polZ.length ∧ polZ.length ≤ 0 + (polL (l.set 9 (l'.getD 9 0)) s).length) := by show _ ∧ _; rw [polL_len (by rw [List.length_set]; exact hl)]; exact ⟨Nat.le_refl 18, Nat.le_refl 18⟩
  have OV : Hid (∀ v ∈ polL (l.set 9 (l'.getD 9 0)) s, v.oneCell' = true) := by show ∀ v ∈ _, _; rw [hs]; exact polL_one
  clear hl hl'
  generalize l'.getD 9 0 = x at *
  generalize l.getD 9 0 = y at *
  obtain ⟨RC, hR⟩ : ∃ RC, polL (l.set 9 x) s = RC := ⟨_, rfl⟩
  rw [hR] at ST SZ FT OV
  have HR : Hid (polL (l.set 9 x) s = RC) := hR
  clear hR
  generalize polL l s = C0 at *
  generalize polL l' s' = C1 at *
  go_enter Try.func12, Try.ntmps12
  go_upto_region 1 with fail
  generalize ((w.alloc (.cells C0.toArray 24)).alloc (.cells C1.toArray 24)).alloc (.cells #[.int .i64 0, .int .i64 0, .int .i64 0, .int .i64 0, .int .i64 0, .int .i64 0, .int .i64 0, .int .i64 0, .int .i64 0, .int .i64 0, .int .i64 0, .int .i64 0, .int .i64 0, .int .i64 0, .int .i64 0, .int .i64 0, .int .i64 0, .slice none 0 0] 24) = w0 at *
  have x0 := Q0.out.cell 9 _ A0.out
  have f0 := Q0.out.fz 9
  have x1 := QB.out.cell 9 _ A1.out
  have q1 : Hid (Blk w.heap.size 24 RC (w0.setCell ⟨w.heap.size, 9, none⟩ (.int .i64 x))) := by
    have := Q0.out.set (i := 9) (.int .i64 x)
    rwa [ST.out] at this
  have z1 : Hid (Blk (w.heap.size + 1 + 1) 24 polZ (w0.setCell ⟨w.heap.size, 9, none⟩ (.int .i64 x))) := QZ.out.grown (setCell_grown _ _ _ _) (fun e => by injection e with e; omega)
  have b1 : Hid (Below w.heap.size w (w0.setCell ⟨w.heap.size, 9, none⟩ (.int .i64 x))) := below_row B0.out (setCell_grown _ _ _ _) (Nat.le_refl _)
  go_upto_region 38 with fail
  generalize w0.setCell ⟨w.heap.size, 9, none⟩ (.int .i64 x) = w1 at *
  clear x0 f0 x1 Q0 QB QZ B0 A0 A1 ST
  go_wp2_with (first
  | (refine step_load rfl 24 (.tmp 3) rfl w.heap.size 0 rfl RC _ (Blk.all q1.out) Try.underlying24 rfl SZ.out ?_)
  | ((with_reducible refine at_store ?_); refine step_store rfl 24 (.tmp 6) (.tmp 98) rfl (w.heap.size + 1 + 1) 0 24 polZ RC rfl rfl z1.out FT.out.1 SZ.out OV.out ?_; intro w2 nb2 g2))
  refine ret_blk rfl rfl (w.heap.size + 1 + 1) 24 RC _ rfl (blk_put FT.out.2 nb2) Try.underlying24 rfl SZ.out ?_
  exact ⟨by rw [← HR.out], below_row b1.out g2 (by omega)⟩

set_option maxRecDepth 20000 in
set_option maxHeartbeats 1000000 in
theorem mended10_at (l l' : List Int) (a a' : Option Addr) (n n' c c' : Nat) (hl : l.length = 17) (hl' : l'.length = 17) (w : World) :
    Calls Try.prog 12 #[PV l (.slice a n c), PV l' (.slice a' n' c'), .int .i64 11] w fun e w' => e = .returned (PV (l.set 10 (l'.getD 10 0)) (.slice a n c)) ∧ Below w.heap.size w w' := by
  obtain ⟨s, hs⟩ : ∃ s : Value, s = .slice a n c := ⟨_, rfl⟩
  obtain ⟨s', hs'⟩ : ∃ s : Value, s = .slice a' n' c' := ⟨_, rfl⟩
  rw [← hs, ← hs']
  show Calls _ _ #[.agg (polL l s).toArray, .agg (polL l' s').toArray, _] _ _
  have B0 : Hid (Below w.heap.size w (((w.alloc (.cells (polL l s).toArray 24)).alloc (.cells (polL l' s').toArray 24)).alloc (.cells #[.int .i64 0, .int .i64 0, .int .i64 0, .int .i64 0, .int .i64 0, .int .i64 0, .int .i64 0, .int .i64 0, .int .i64 0, .int .i64 0, .int .i64 0, .int .i64 0, .int .i64 0, .int .i64 0, .int .i64 0, .int .i64 0, .int .i64 0, .slice none 0 0] 24))) := below_trans (below_trans (below_alloc _ _) (below_alloc _ _)) (below_alloc _ _)
  have Q0 : Hid (Blk w.heap.size 24 (polL l s) (((w.alloc (.cells (polL l s).toArray 24)).alloc (.cells (polL l' s').toArray 24)).alloc (.cells #[.int .i64 0, .int .i64 0, .int .i64 0, .int .i64 0, .int .i64 0, .int .i64 0, .int .i64 0, .int .i64 0, .int .i64 0, .int .i64 0, .int .i64 0, .int .i64 0, .int .i64 0, .int .i64 0, .int .i64 0, .int .i64 0, .int .i64 0, .slice none 0 0] 24))) := ((Blk.new _ _ _).below (below_alloc _ _)).below (below_alloc _ _)
  have QB : Hid (Blk (w.heap.size + 1) 24 (polL l' s') (((w.alloc (.cells (polL l s).toArray 24)).alloc (.cells (polL l' s').toArray 24)).alloc (.cells #[.int .i64 0, .int .i64 0, .int .i64 0, .int .i64 0, .int .i64 0, .int .i64 0, .int .i64 0, .int .i64 0, .int .i64 0, .int .i64 0, .int .i64 0, .int .i64 0, .int .i64 0, .int .i64 0, .int .i64 0, .int .i64 0, .int .i64 0, .slice none 0 0] 24))) := (Blk.new2 _ _ _ _).below (below_alloc _ _)
  have QZ : Hid (Blk (w.heap.size + 1 + 1) 24 polZ (((w.alloc (.cells (polL l s).toArray 24)).alloc (.cells (polL l' s').toArray 24)).alloc (.cells #[.int .i64 0, .int .i64 0, .int .i64 0, .int .i64 0, .int .i64 0, .int .i64 0, .int .i64 0, .int .i64 0, .int .i64 0, .int .i64 0, .int .i64 0, .int .i64 0, .int .i64 0, .int .i64 0, .int .i64 0, .int .i64 0, .int .i64 0, .slice none 0 0] 24))) := Blk.new3 _ _ _ _ _
  have A0 : Hid ((polL l s)[10]? = some (.int .i64 (l.getD 10 0))) := polL_at hl 10 (by omega)
  have A1 : Hid ((polL l' s')[10]? = some (.int .i64 (l'.getD 10 0))) := polL_at hl' 10 (by omega)
  have ST : Hid ((polL l s).set 10 (.int .i64 (l'.getD 10 0)) = polL (l.set 10 (l'.getD 10 0)) s) := polL_setn (by omega) _
  have SZ : Hid ((Try.prog.info? 24).map (·.size) = some (polL (l.set 10 (l'.getD 10 0)) s).length) := by show _ = _; rw [polL_len (by rw [List.length_set]; exact hl)]; exact sizeP
  have FT : Hid (0 + (polL (l.set 10 (l'.getD 10 0)) s).length ≤ polZ.length ∧ polZ.length ≤ 0 + (polL (l.set 10 (l'.getD 10 0)) s).length) := by show _ ∧ _; rw [polL_len (by rw [List.length_set]; exact hl)]; exact ⟨Nat.le_refl 18, Nat.le_refl 18⟩
  have OV : Hid (∀ v ∈ polL (l.set 10 (l'.getD 10 0)) s, v.oneCell' = true) := by show ∀ v ∈ _, _; rw [hs]; exact polL_one
  clear hl hl'
  generalize l'.getD 10 0 = x at *
  generalize l.getD 10 0 = y at *
  obtain ⟨RC, hR⟩ : ∃ RC, polL (l.set 10 x) s = RC := ⟨_, rfl⟩
  rw [hR] at ST SZ FT OV
  have HR : Hid (polL (l.set 10 x) s = RC) := hR
  clear hR
  generalize polL l s = C0 at *
  generalize polL l' s' = C1 at *
  go_enter Try.func12, Try.ntmps12
  go_upto_region 1 with fail
  generalize ((w.alloc (.cells C0.toArray 24)).alloc (.cells C1.toArray 24)).alloc (.cells #[.int .i64 0, .int .i64 0, .int .i64 0, .int .i64 0, .int .i64 0, .int .i64 0, .int .i64 0, .int .i64 0, .int .i64 0, .int .i64 0, .int .i64 0, .int .i64 0, .int .i64 0, .int .i64 0, .int .i64 0, .int .i64 0, .int .i64 0, .slice none 0 0] 24) = w0 at *
  have x0 := Q0.out.cell 10 _ A0.out
  have f0 := Q0.out.fz 10
  have x1 := QB.out.cell 10 _ A1.out
  have q1 : Hid (Blk w.heap.size 24 RC (w0.setCell ⟨w.heap.size, 10, none⟩ (.int .i64 x))) := by
    have := Q0.out.set (i := 10) (.int .i64 x)
    rwa [ST.out] at this
  have z1 : Hid (Blk (w.heap.size + 1 + 1) 24 polZ (w0.setCell ⟨w.heap.size, 10, none⟩ (.int .i64 x))) := QZ.out.grown (setCell_grown _ _ _ _) (fun e => by injection e with e; omega)
  have b1 : Hid (Below w.heap.size w (w0.setCell ⟨w.heap.size, 10, none⟩ (.int .i64 x))) := below_row B0.out (setCell_grown _ _ _ _) (Nat.le_refl _)
  go_upto_region 38 with fail
  generalize w0.setCell ⟨w.heap.size, 10, none⟩ (.int .i64 x) = w1 at *
  clear x0 f0 x1 Q0 QB QZ B0 A0 A1 ST
  go_wp2_with (first
  | (refine step_load rfl 24 (.tmp 3) rfl w.heap.size 0 rfl RC _ (Blk.all q1.out) Try.underlying24 rfl SZ.out ?_)
  | ((with_reducible refine at_store ?_); refine step_store rfl 24 (.tmp 6) (.tmp 98) rfl (w.heap.size + 1 + 1) 0 24 polZ RC rfl rfl z1.out FT.out.1 SZ.out OV.out ?_; intro w2 nb2 g2))
  refine ret_blk rfl rfl (w.heap.size + 1 + 1) 24 RC _ rfl (blk_put FT.out.2 nb2) Try.underlying24 rfl SZ.out ?_
  exact ⟨by rw [← HR.out], below_row b1.out g2 (by omega)⟩

set_option maxRecDepth 20000 in
set_option maxHeartbeats 1000000 in
theorem mended11_at (l l' : List Int) (a a' : Option Addr) (n n' c c' : Nat) (hl : l.length = 17) (hl' : l'.length = 17) (w : World) :
    Calls Try.prog 12 #[PV l (.slice a n c), PV l' (.slice a' n' c'), .int .i64 12] w fun e w' => e = .returned (PV (l.set 11 (l'.getD 11 0)) (.slice a n c)) ∧ Below w.heap.size w w' := by
  obtain ⟨s, hs⟩ : ∃ s : Value, s = .slice a n c := ⟨_, rfl⟩
  obtain ⟨s', hs'⟩ : ∃ s : Value, s = .slice a' n' c' := ⟨_, rfl⟩
  rw [← hs, ← hs']
  show Calls _ _ #[.agg (polL l s).toArray, .agg (polL l' s').toArray, _] _ _
  have B0 : Hid (Below w.heap.size w (((w.alloc (.cells (polL l s).toArray 24)).alloc (.cells (polL l' s').toArray 24)).alloc (.cells #[.int .i64 0, .int .i64 0, .int .i64 0, .int .i64 0, .int .i64 0, .int .i64 0, .int .i64 0, .int .i64 0, .int .i64 0, .int .i64 0, .int .i64 0, .int .i64 0, .int .i64 0, .int .i64 0, .int .i64 0, .int .i64 0, .int .i64 0, .slice none 0 0] 24))) := below_trans (below_trans (below_alloc _ _) (below_alloc _ _)) (below_alloc _ _)
  have Q0 : Hid (Blk w.heap.size 24 (polL l s) (((w.alloc (.cells (polL l s).toArray 24)).alloc (.cells (polL l' s').toArray 24)).alloc (.cells #[.int .i64 0, .int .i64 0, .int .i64 0, .int .i64 0, .int .i64 0, .int .i64 0, .int .i64 0, .int .i64 0, .int .i64 0, .int .i64 0, .int .i64 0, .int .i64 0, .int .i64 0, .int .i64 0, .int .i64 0, .int .i64 0, .int .i64 0, .slice none 0 0] 24))) := ((Blk.new _ _ _).below (below_alloc _ _)).below (below_alloc _ _)
  have QB : Hid (Blk (w.heap.size + 1) 24 (polL l' s') (((w.alloc (.cells (polL l s).toArray 24)).alloc (.cells (polL l' s').toArray 24)).alloc (.cells #[.int .i64 0, .int .i64 0, .int .i64 0, .int .i64 0, .int .i64 0, .int .i64 0, .int .i64 0, .int .i64 0, .int .i64 0, .int .i64 0, .int .i64 0, .int .i64 0, .int .i64 0, .int .i64 0, .int .i64 0, .int .i64 0, .int .i64 0, .slice none 0 0] 24))) := (Blk.new2 _ _ _ _).below (below_alloc _ _)
  have QZ : Hid (Blk (w.heap.size + 1 + 1) 24 polZ (((w.alloc (.cells (polL l s).toArray 24)).alloc (.cells (polL l' s').toArray 24)).alloc (.cells #[.int .i64 0, .int .i64 0, .int .i64 0, .int .i64 0, .int .i64 0, .int .i64 0, .int .i64 0, .int .i64 0, .int .i64 0, .int .i64 0, .int .i64 0, .int .i64 0, .int .i64 0, .int .i64 0, .int .i64 0, .int .i64 0, .int .i64 0, .slice none 0 0] 24))) := Blk.new3 _ _ _ _ _
  have A0 : Hid ((polL l s)[11]? = some (.int .i64 (l.getD 11 0))) := polL_at hl 11 (by omega)
  have A1 : Hid ((polL l' s')[11]? = some (.int .i64 (l'.getD 11 0))) := polL_at hl' 11 (by omega)
  have ST : Hid ((polL l s).set 11 (.int .i64 (l'.getD 11 0)) = polL (l.set 11 (l'.getD 11 0)) s) := polL_setn (by omega) _
  have SZ : Hid ((Try.prog.info? 24).map (·.size) = some (polL (l.set 11 (l'.getD 11 0)) s).length) := by show _ = _; rw [polL_len (by rw [List.length_set]; exact hl)]; exact sizeP
  have FT : Hid (0 + (polL (l.set 11 (l'.getD 11 0)) s).length ≤ polZ.length ∧ polZ.length ≤ 0 + (polL (l.set 11 (l'.getD 11 0)) s).length) := by show _ ∧ _; rw [polL_len (by rw [List.length_set]; exact hl)]; exact ⟨Nat.le_refl 18, Nat.le_refl 18⟩
  have OV : Hid (∀ v ∈ polL (l.set 11 (l'.getD 11 0)) s, v.oneCell' = true) := by show ∀ v ∈ _, _; rw [hs]; exact polL_one
  clear hl hl'
  generalize l'.getD 11 0 = x at *
  generalize l.getD 11 0 = y at *
  obtain ⟨RC, hR⟩ : ∃ RC, polL (l.set 11 x) s = RC := ⟨_, rfl⟩
  rw [hR] at ST SZ FT OV
  have HR : Hid (polL (l.set 11 x) s = RC) := hR
  clear hR
  generalize polL l s = C0 at *
  generalize polL l' s' = C1 at *
  go_enter Try.func12, Try.ntmps12
  go_upto_region 1 with fail
  generalize ((w.alloc (.cells C0.toArray 24)).alloc (.cells C1.toArray 24)).alloc (.cells #[.int .i64 0, .int .i64 0, .int .i64 0, .int .i64 0, .int .i64 0, .int .i64 0, .int .i64 0, .int .i64 0, .int .i64 0, .int .i64 0, .int .i64 0, .int .i64 0, .int .i64 0, .int .i64 0, .int .i64 0, .int .i64 0, .int .i64 0, .slice none 0 0] 24) = w0 at *
  have x0 := Q0.out.cell 11 _ A0.out
  have f0 := Q0.out.fz 11
  have x1 := QB.out.cell 11 _ A1.out
  have q1 : Hid (Blk w.heap.size 24 RC (w0.setCell ⟨w.heap.size, 11, none⟩ (.int .i64 x))) := by
    have := Q0.out.set (i := 11) (.int .i64 x)
    rwa [ST.out] at this
  have z1 : Hid (Blk (w.heap.size + 1 + 1) 24 polZ (w0.setCell ⟨w.heap.size, 11, none⟩ (.int .i64 x))) := QZ.out.grown (setCell_grown _ _ _ _) (fun e => by injection e with e; omega)
  have b1 : Hid (Below w.heap.size w (w0.setCell ⟨w.heap.size, 11, none⟩ (.int .i64 x))) := below_row B0.out (setCell_grown _ _ _ _) (Nat.le_refl _)
  go_upto_region 38 with fail
  generalize w0.setCell ⟨w.heap.size, 11, none⟩ (.int .i64 x) = w1 at *
  clear x0 f0 x1 Q0 QB QZ B0 A0 A1 ST
  go_wp2_with (first
  | (refine step_load rfl 24 (.tmp 3) rfl w.heap.size 0 rfl RC _ (Blk.all q1.out) Try.underlying24 rfl SZ.out ?_)
  | ((with_reducible refine at_store ?_); refine step_store rfl 24 (.tmp 6) (.tmp 98) rfl (w.heap.size + 1 + 1) 0 24 polZ RC rfl rfl z1.out FT.out.1 SZ.out OV.out ?_; intro w2 nb2 g2))
  refine ret_blk rfl rfl (w.heap.size + 1 + 1) 24 RC _ rfl (blk_put FT.out.2 nb2) Try.underlying24 rfl SZ.out ?_
  exact ⟨by rw [← HR.out], below_row b1.out g2 (by omega)⟩

set_option maxRecDepth 20000 in
set_option maxHeartbeats 1000000 in
theorem mended12_at (l l' : List Int) (a a' : Option Addr) (n n' c c' : Nat) (hl : l.length = 17) (hl' : l'.length = 17) (w : World) :
    Calls Try.prog 12 #[PV l (.slice a n c), PV l' (.slice a' n' c'), .int .i64 13] w fun e w' => e = .returned (PV (l.set 12 (l'.getD 12 0)) (.slice a n c)) ∧ Below w.heap.size w w' := by
  obtain ⟨s, hs⟩ : ∃ s : Value, s = .slice a n c := ⟨_, rfl⟩
  obtain ⟨s', hs'⟩ : ∃ s : Value, s = .slice a' n' c' := ⟨_, rfl⟩
  rw [← hs, ← hs']
  show Calls _ _ #[.agg (polL l s).toArray, .agg (polL l' s').toArray, _] _ _
  have B0 : Hid (Below w.heap.size w (((w.alloc (.cells (polL l s).toArray 24)).alloc (.cells (polL l' s').toArray 24)).alloc (.cells #[.int .i64 0, .int .i64 0, .int .i64 0, .int .i64 0, .int .i64 0, .int .i64 0, .int .i64 0, .int .i64 0, .int .i64 0, .int .i64 0, .int .i64 0, .int .i64 0, .int .i64 0, .int .i64 0, .int .i64 0, .int .i64 0, .int .i64 0, .slice none 0 0] 24))) := below_trans (below_trans (below_alloc _ _) (below_alloc _ _)) (below_alloc _ _)
  have Q0 : Hid (Blk w.heap.size 24 (polL l s) (((w.alloc (.cells (polL l s).toArray 24)).alloc (.cells (polL l' s').toArray 24)).alloc (.cells #[.int .i64 0, .int .i64 0, .int .i64 0, .int .i64 0, .int .i64 0, .int .i64 0, .int .i64 0, .int .i64 0, .int .i64 0, .int .i64 0, .int .i64 0, .int .i64 0, .int .i64 0, .int .i64 0, .int .i64 0, .int .i64 0, .int .i64 0, .slice none 0 0] 24))) := ((Blk.new _ _ _).below (below_alloc _ _)).below (below_alloc _ _)
  have QB : Hid (Blk (w.heap.size + 1) 24 (polL l' s') (((w.alloc (.cells (polL l s).toArray 24)).alloc (.cells (polL l' s').toArray 24)).alloc (.cells #[.int .i64 0, .int .i64 0, .int .i64 0, .int .i64 0, .int .i64 0, .int .i64 0, .int .i64 0, .int .i64 0, .int .i64 0, .int .i64 0, .int .i64 0, .int .i64 0, .int .i64 0, .int .i64 0, .int .i64 0, .int .i64 0, .int .i64 0, .slice none 0 0] 24))) := (Blk.new2 _ _ _ _).below (below_alloc _ _)
  have QZ : Hid (Blk (w.heap.size + 1 + 1) 24 polZ (((w.alloc (.cells (polL l s).toArray 24)).alloc (.cells (polL l' s').toArray 24)).alloc (.cells #[.int .i64 0, .int .i64 0, .int .i64 0, .int .i64 0, .int .i64 0, .int .i64 0, .int .i64 0, .int .i64 0, .int .i64 0, .int .i64 0, .int .i64 0, .int .i64 0, .int .i64 0, .int .i64 0, .int .i64 0, .int .i64 0, .int .i64 0, .slice none 0 0] 24))) := Blk.new3 _ _ _ _ _
  have A0 : Hid ((polL l s)[12]? = some (.int .i64 (l.getD 12 0))) := polL_at hl 12 (by omega)
  have A1 : Hid ((polL l' s')[12]? = some (.int .i64 (l'.getD 12 0))) := polL_at hl' 12 (by omega)
  have ST : Hid ((polL l s).set 12 (.int .i64 (l'.getD 12 0)) = polL (l.set 12 (l'.getD 12 0)) s) := polL_setn (by omega) _
  have SZ : Hid ((Try.prog.info? 24).map (·.size) = some (polL (l.set 12 (l'.getD 12 0)) s).length) := by show _ = _; rw [polL_len (by rw [List.length_set]; exact hl)]; exact sizeP
  have FT : Hid (0 + (polL (l.set 12 (l'.getD 12 0)) s).length ≤ polZ.length ∧ polZ.length ≤ 0 + (polL (l.set 12 (l'.getD 12 0)) s).length) := by show _ ∧ _; rw [polL_len (by rw [List.length_set]; exact hl)]; exact ⟨Nat.le_refl 18, Nat.le_refl 18⟩
  have OV : Hid (∀ v ∈ polL (l.set 12 (l'.getD 12 0)) s, v.oneCell' = true) := by show ∀ v ∈ _, _; rw [hs]; exact polL_one
  clear hl hl'
  generalize l'.getD 12 0 = x at *
  generalize l.getD 12 0 = y at *
  obtain ⟨RC, hR⟩ : ∃ RC, polL (l.set 12 x) s = RC := ⟨_, rfl⟩
  rw [hR] at ST SZ FT OV
  have HR : Hid (polL (l.set 12 x) s = RC) := hR
  clear hR
  generalize polL l s = C0 at *
  generalize polL l' s' = C1 at *
  go_enter Try.func12, Try.ntmps12
  go_upto_region 1 with fail
  generalize ((w.alloc (.cells C0.toArray 24)).alloc (.cells C1.toArray 24)).alloc (.cells #[.int .i64 0, .int .i64 0, .int .i64 0, .int .i64 0, .int .i64 0, .int .i64 0, .int .i64 0, .int .i64 0, .int .i64 0, .int .i64 0, .int .i64 0, .int .i64 0, .int .i64 0, .int .i64 0, .int .i64 0, .int .i64 0, .int .i64 0, .slice none 0 0] 24) = w0 at *
  have x0 := Q0.out.cell 12 _ A0.out
  have f0 := Q0.out.fz 12
  have x1 := QB.out.cell 12 _ A1.out
  have q1 : Hid (Blk w.heap.size 24 RC (w0.setCell ⟨w.heap.size, 12, none⟩ (.int .i64 x))) := by
    have := Q0.out.set (i := 12) (.int .i64 x)
    rwa [ST.out] at this
  have z1 : Hid (Blk (w.heap.size + 1 + 1) 24 polZ (w0.setCell ⟨w.heap.size, 12, none⟩ (.int .i64 x))) := QZ.out.grown (setCell_grown _ _ _ _) (fun e => by injection e with e; omega)
  have b1 : Hid (Below w.heap.size w (w0.setCell ⟨w.heap.size, 12, none⟩ (.int .i64 x))) := below_row B0.out (setCell_grown _ _ _ _) (Nat.le_refl _)
  go_upto_region 38 with fail
  generalize w0.setCell ⟨w.heap.size, 12, none⟩ (.int .i64 x) = w1 at *
  clear x0 f0 x1 Q0 QB QZ B0 A0 A1 ST
  go_wp2_with (first
  | (refine step_load rfl 24 (.tmp 3) rfl w.heap.size 0 rfl RC _ (Blk.all q1.out) Try.underlying24 rfl SZ.out ?_)
  | ((with_reducible refine at_store ?_); refine step_store rfl 24 (.tmp 6) (.tmp 98) rfl (w.heap.size + 1 + 1) 0 24 polZ RC rfl rfl z1.out FT.out.1 SZ.out OV.out ?_; intro w2 nb2 g2))
  refine ret_blk rfl rfl (w.heap.size + 1 + 1) 24 RC _ rfl (blk_put FT.out.2 nb2) Try.underlying24 rfl SZ.out ?_
  exact ⟨by rw [← HR.out], below_row b1.out g2 (by omega)⟩

set_option maxRecDepth 20000 in
set_option maxHeartbeats 1000000 in
theorem mended13_at (l l' : List Int) (a a' : Option Addr) (n n' c c' : Nat) (hl : l.length = 17) (hl' : l'.length = 17) (w : World) :
    Calls Try.prog 12 #[PV l (.slice a n c), PV l' (.slice a' n' c'), .int .i64 14] w fun e w' => e = .returned (PV (l.set 13 (l'.getD 13 0)) (.slice a n c)) ∧ Below w.heap.size w w' := by
  obtain ⟨s, hs⟩ : ∃ s : Value, s = .slice a n c := ⟨_, rfl⟩
  obtain ⟨s', hs'⟩ : ∃ s : Value, s = .slice a' n' c' := ⟨_, rfl⟩
  rw [← hs, ← hs']
  show Calls _ _ #[.agg (polL l s).toArray, .agg (polL l' s').toArray, _] _ _
  have B0 : Hid (Below w.heap.size w (((w.alloc (.cells (polL l s).toArray 24)).alloc (.cells (polL l' s').toArray 24)).alloc (.cells #[.int .i64 0, .int .i64 0, .int .i64 0, .int .i64 0, .int .i64 0, .int .i64 0, .int .i64 0, .int .i64 0, .int .i64 0, .int .i64 0, .int .i64 0, .int .i64 0, .int .i64 0, .int .i64 0, .int .i64 0, .int .i64 0, .int .i64 0, .slice none 0 0] 24))) := below_trans (below_trans (below_alloc _ _) (below_alloc _ _)) (below_alloc _ _)
  have Q0 : Hid (Blk w.heap.size 24 (polL l s) (((w.alloc (.cells (polL l s).toArray 24)).alloc (.cells (polL l' s').toArray 24)).alloc (.cells #[.int .i64 0, .int .i64 0, .int .i64 0, .int .i64 0, .int .i64 0, .int .i64 0, .int .i64 0, .int .i64 0, .int .i64 0, .int .i64 0, .int .i64 0, .int .i64 0, .int .i64 0, .int .i64 0, .int .i64 0, .int .i64 0, .int .i64 0, .slice none 0 0] 24))) := ((Blk.new _ _ _).below (below_alloc _ _)).below (below_alloc _ _)
  have QB : Hid (Blk (w.heap.size + 1) 24 (polL l' s') (((w.alloc (.cells (polL l s).toArray 24)).alloc (.cells (polL l' s').toArray 24)).alloc (.cells #[.int .i64 0, .int .i64 0, .int .i64 0, .int .i64 0, .int .i64 0, .int .i64 0, .int .i64 0, .int .i64 0, .int .i64 0, .int .i64 0, .int .i64 0, .int .i64 0, .int .i64 0, .int .i64 0, .int .i64 0, .int .i64 0, .int .i64 0, .slice none 0 0] 24))) := (Blk.new2 _ _ _ _).below (below_alloc _ _)
  have QZ : Hid (Blk (w.heap.size + 1 + 1) 24 polZ (((w.alloc (.cells (polL l s).toArray 24)).alloc (.cells (polL l' s').toArray 24)).alloc (.cells #[.int .i64 0, .int .i64 0, .int .i64 0, .int .i64 0, .int .i64 0, .int .i64 0, .int .i64 0, .int .i64 0, .int .i64 0, .int .i64 0, .int .i64 0, .int .i64 0, .int .i64 0, .int .i64 0, .int .i64 0, .int .i64 0, .int .i64 0, .slice none 0 0] 24))) := Blk.new3 _ _ _ _ _
  have A0 : Hid ((polL l s)[13]? = some (.int .i64 (l.getD 13 0))) := polL_at hl 13 (by omega)
  have A1 : Hid ((polL l' s')[13]? = some (.int .i64 (l'.getD 13 0))) := polL_at hl' 13 (by omega)
  have ST : Hid ((polL l s).set 13 (.int .i64 (l'.getD 13 0)) = polL (l.set 13 (l'.getD 13 0)) s) := polL_setn (by omega) _
  have SZ : Hid ((Try.prog.info? 24).map (·.size) = some (polL (l.set 13 (l'.getD 13 0)) s).length) := by show _ = _; rw [polL_len (by rw [List.length_set]; exact hl)]; exact sizeP
  have FT : Hid (0 + (polL (l.set 13 (l'.getD 13 0)) s).length ≤ polZ.length ∧ polZ.length ≤ 0 + (polL (l.set 13 (l'.getD 13 0)) s).length) := by show _ ∧ _; rw [polL_len (by rw [List.length_set]; exact hl)]; exact ⟨Nat.le_refl 18, Nat.le_refl 18⟩
  have OV : Hid (∀ v ∈ polL (l.set 13 (l'.getD 13 0)) s, v.oneCell' = true) := by show ∀ v ∈ _, _; rw [hs]; exact polL_one
  clear hl hl'
  generalize l'.getD 13 0 = x at *
  generalize l.getD 13 0 = y at *
  obtain ⟨RC, hR⟩ : ∃ RC, polL (l.set 13 x) s = RC := ⟨_, rfl⟩
  rw [hR] at ST SZ FT OV
  have HR : Hid (polL (l.set 13 x) s = RC) := hR
  clear hR
  generalize polL l s = C0 at *
  generalize polL l' s' = C1 at *
  go_enter Try.func12, Try.ntmps12
  go_upto_region 1 with fail
  generalize ((w.alloc (.cells C0.toArray 24)).alloc (.cells C1.toArray 24)).alloc (.cells #[.int .i64 0, .int .i64 0, .int .i64 0, .int .i64 0, .int .i64 0, .int .i64 0, .int .i64 0, .int .i64 0, .int .i64 0, .int .i64 0, .int .i64 0, .int .i64 0, .int .i64 0, .int .i64 0, .int .i64 0, .int .i64 0, .int .i64 0, .slice none 0 0] 24) = w0 at *
  have x0 := Q0.out.cell 13 _ A0.out
  have f0 := Q0.out.fz 13
  have x1 := QB.out.cell 13 _ A1.out
  have q1 : Hid (Blk w.heap.size 24 RC (w0.setCell ⟨w.heap.size, 13, none⟩ (.int .i64 x))) := by
    have := Q0.out.set (i := 13) (.int .i64 x)
    rwa [ST.out] at this
  have z1 : Hid (Blk (w.heap.size + 1 + 1) 24 polZ (w0.setCell ⟨w.heap.size, 13, none⟩ (.int .i64 x))) := QZ.out.grown (setCell_grown _ _ _ _) (fun e => by injection e with e; omega)
  have b1 : Hid (Below w.heap.size w (w0.setCell ⟨w.heap.size, 13, none⟩ (.int .i64 x))) := below_row B0.out (setCell_grown _ _ _ _) (Nat.le_refl _)
  go_upto_region 38 with fail
  generalize w0.setCell ⟨w.heap.size, 13, none⟩ (.int .i64 x) = w1 at *
  clear x0 f0 x1 Q0 QB QZ B0 A0 A1 ST
  go_wp2_with (first
  | (refine step_load rfl 24 (.tmp 3) rfl w.heap.size 0 rfl RC _ (Blk.all q1.out) Try.underlying24 rfl SZ.out ?_)
  | ((with_reducible refine at_store ?_); refine step_store rfl 24 (.tmp 6) (.tmp 98) rfl (w.heap.size + 1 + 1) 0 24 polZ RC rfl rfl z1.out FT.out.1 SZ.out OV.out ?_; intro w2 nb2 g2))
  refine ret_blk rfl rfl (w.heap.size + 1 + 1) 24 RC _ rfl (blk_put FT.out.2 nb2) Try.underlying24 rfl SZ.out ?_
  exact ⟨by rw [← HR.out], below_row b1.out g2 (by omega)⟩

set_option maxRecDepth 20000 in
set_option maxHeartbeats 1000000 in
theorem mended14_at (l l' : List Int) (a a' : Option Addr) (n n' c c' : Nat) (hl : l.length = 17) (hl' : l'.length = 17) (w : World) :
    Calls Try.prog 12 #[PV l (.slice a n c), PV l' (.slice a' n' c'), .int .i64 15] w fun e w' => e = .returned (PV (l.set 14 (l'.getD 14 0)) (.slice a n c)) ∧ Below w.heap.size w w' := by
  obtain ⟨s, hs⟩ : ∃ s : Value, s = .slice a n c := ⟨_, rfl⟩
  obtain ⟨s', hs'⟩ : ∃ s : Value, s = .slice a' n' c' := ⟨_, rfl⟩
  rw [← hs, ← hs']
  show Calls _ _ #[.agg (polL l s).toArray, .agg (polL l' s').toArray, _] _ _
  have B0 : Hid (Below w.heap.size w (((w.alloc (.cells (polL l s).toArray 24)).alloc (.cells (polL l' s').toArray 24)).alloc (.cells #[.int .i64 0, .int .i64 0, .int .i64 0, .int .i64 0, .int .i64 0, .int .i64 0, .int .i64 0, .int .i64 0, .int .i64 0, .int .i64 0, .int .i64 0, .int .i64 0, .int .i64 0, .int .i64 0, .int .i64 0, .int .i64 0, .int .i64 0, .slice none 0 0] 24))) := below_trans (below_trans (below_alloc _ _) (below_alloc _ _)) (below_alloc _ _)
  have Q0 : Hid (Blk w.heap.size 24 (polL l s) (((w.alloc (.cells (polL l s).toArray 24)).alloc (.cells (polL l' s').toArray 24)).alloc (.cells #[.int .i64 0, .int .i64 0, .int .i64 0, .int .i64 0, .int .i64 0, .int .i64 0, .int .i64 0, .int .i64 0, .int .i64 0, .int .i64 0, .int .i64 0, .int .i64 0, .int .i64 0, .int .i64 0, .int .i64 0, .int .i64 0, .int .i64 0, .slice none 0 0] 24))) := ((Blk.new _ _ _).below (below_alloc _ _)).below (below_alloc _ _)
  have QB : Hid (Blk (w.heap.size + 1) 24 (polL l' s') (((w.alloc (.cells (polL l s).toArray 24)).alloc (.cells (polL l' s').toArray 24)).alloc (.cells #[.int .i64 0, .int .i64 0, .int .i64 0, .int .i64 0, .int .i64 0, .int .i64 0, .int .i64 0, .int .i64 0, .int .i64 0, .int .i64 0, .int .i64 0, .int .i64 0, .int .i64 0, .int .i64 0, .int .i64 0, .int .i64 0, .int .i64 0, .slice none 0 0] 24))) := (Blk.new2 _ _ _ _).below (below_alloc _ _)
  have QZ : Hid (Blk (w.heap.size + 1 + 1) 24 polZ (((w.alloc (.cells (polL l s).toArray 24)).alloc (.cells (polL l' s').toArray 24)).alloc (.cells #[.int .i64 0, .int .i64 0, .int .i64 0, .int .i64 0, .int .i64 0, .int .i64 0, .int .i64 0, .int .i64 0, .int .i64 0, .int .i64 0, .int .i64 0, .int .i64 0, .int .i64 0, .int .i64 0, .int .i64 0, .int .i64 0, .int .i64 0, .slice none 0 0] 24))) := Blk.new3 _ _ _ _ _
  have A0 : Hid ((polL l s)[14]? = some (.int .i64 (l.getD 14 0))) := polL_at hl 14 (by omega)
  have A1 : Hid ((polL l' s')[14]? = some (.int .i64 (l'.getD 14 0))) := polL_at hl' 14 (by omega)
  have ST : Hid ((polL l s).set 14 (.int .i64 (l'.getD 14 0)) = polL (l.set 14 (l'.getD 14 0)) s) := polL_setn (by omega) _
  have SZ : Hid ((Try.prog.info? 24).map (·.size) = some (polL (l.set 14 (l'.getD 14 0)) s).length) := by show _ = _; rw [polL_len (by rw [List.length_set]; exact hl)]; exact sizeP
  have FT : Hid (0 + (polL (l.set 14 (l'.getD 14 0)) s).length ≤ polZ.length ∧ polZ.length ≤ 0 + (polL (l.set 14 (l'.getD 14 0)) s).length) := by show _ ∧ _; rw [polL_len (by rw [List.length_set]; exact hl)]; exact ⟨Nat.le_refl 18, Nat.le_refl 18⟩
  have OV : Hid (∀ v ∈ polL (l.set 14 (l'.getD 14 0)) s, v.oneCell' = true) := by show ∀ v ∈ _, _; rw [hs]; exact polL_one
  clear hl hl'
  generalize l'.getD 14 0 = x at *
  generalize l.getD 14 0 = y at *
  obtain ⟨RC, hR⟩ : ∃ RC, polL (l.set 14 x) s = RC := ⟨_, rfl⟩
  rw [hR] at ST SZ FT OV
  have HR : Hid (polL (l.set 14 x) s = RC) := hR
  clear hR
  generalize polL l s = C0 at *
  generalize polL l' s' = C1 at *
  go_enter Try.func12, Try.ntmps12
  go_upto_region 1 with fail
  generalize ((w.alloc (.cells C0.toArray 24)).alloc (.cells C1.toArray 24)).alloc (.cells #[.int .i64 0, .int .i64 0, .int .i64 0, .int .i64 0, .int .i64 0, .int .i64 0, .int .i64 0, .int .i64 0, .int .i64 0, .int .i64 0, .int .i64 0, .int .i64 0, .int .i64 0, .int .i64 0, .int .i64 0, .int .i64 0, .int .i64 0, .slice none 0 0] 24) = w0 at *
  have x0 := Q0.out.cell 14 _ A0.out
  have f0 := Q0.out.fz 14
  have x1 := QB.out.cell 14 _ A1.out
  have q1 : Hid (Blk w.heap.size 24 RC (w0.setCell ⟨w.heap.size, 14, none⟩ (.int .i64 x))) := by
    have := Q0.out.set (i := 14) (.int .i64 x)
    rwa [ST.out] at this
  have z1 : Hid (Blk (w.heap.size + 1 + 1) 24 polZ (w0.setCell ⟨w.heap.size, 14, none⟩ (.int .i64 x))) := QZ.out.grown (setCell_grown _ _ _ _) (fun e => by injection e with e; omega)
  have b1 : Hid (Below w.heap.size w (w0.setCell ⟨w.heap.size, 14, none⟩ (.int .i64 x))) := below_row B0.out (setCell_grown _ _ _ _) (Nat.le_refl _)
  go_upto_region 38 with fail
  generalize w0.setCell ⟨w.heap.size, 14, none⟩ (.int .i64 x) = w1 at *
  clear x0 f0 x1 Q0 QB QZ B0 A0 A1 ST
  go_wp2_with (first
  | (refine step_load rfl 24 (.tmp 3) rfl w.heap.size 0 rfl RC _ (Blk.all q1.out) Try.underlying24 rfl SZ.out ?_)
  | ((with_reducible refine at_store ?_); refine step_store rfl 24 (.tmp 6) (.tmp 98) rfl (w.heap.size + 1 + 1) 0 24 polZ RC rfl rfl z1.out FT.out.1 SZ.out OV.out ?_; intro w2 nb2 g2))
  refine ret_blk rfl rfl (w.heap.size + 1 + 1) 24 RC _ rfl (blk_put FT.out.2 nb2) Try.underlying24 rfl SZ.out ?_
  exact ⟨by rw [← HR.out], below_row b1.out g2 (by omega)⟩

set_option maxRecDepth 20000 in
set_option maxHeartbeats 1000000 in
theorem mended15_at (l l' : List Int) (a a' : Option Addr) (n n' c c' : Nat) (hl : l.length = 17) (hl' : l'.length = 17) (w : World) :
    Calls Try.prog 12 #[PV l (.slice a n c), PV l' (.slice a' n' c'), .int .i64 16] w fun e w' => e = .returned (PV (l.set 15 (l'.getD 15 0)) (.slice a n c)) ∧ Below w.heap.size w w' := by
  obtain ⟨s, hs⟩ : ∃ s : Value, s = .slice a n c := ⟨_, rfl⟩
  obtain ⟨s', hs'⟩ : ∃ s : Value, s = .slice a' n' c' := ⟨_, rfl⟩
  rw [← hs, ← hs']
  show Calls _ _ #[.agg (polL l s).toArray, .agg (polL l' s').toArray, _] _ _
  have B0 : Hid (Below w.heap.size w (((w.alloc (.cells (polL l s).toArray 24)).alloc (.cells (polL l' s').toArray 24)).alloc (.cells #[.int .i64 0, .int .i64 0, .int .i64 0, .int .i64 0, .int .i64 0, .int .i64 0, .int .i64 0, .int .i64 0, .int .i64 0, .int .i64 0, .int .i64 0, .int .i64 0, .int .i64 0, .int .i64 0, .int .i64 0, .int .i64 0, .int .i64 0, .slice none 0 0] 24))) := below_trans (below_trans (below_alloc _ _) (below_alloc _ _)) (below_alloc _ _)
  have Q0 : Hid (Blk w.heap.size 24 (polL l s) (((w.alloc (.cells (polL l s).toArray 24)).alloc (.cells (polL l' s').toArray 24)).alloc (.cells #[.int .i64 0, .int .i64 0, .int .i64 0, .int .i64 0, .int .i64 0, .int .i64 0, .int .i64 0, .int .i64 0, .int .i64 0, .int .i64 0, .int .i64 0, .int .i64 0, .int .i64 0, .int .i64 0, .int .i64 0, .int .i64 0, .int .i64 0, .slice none 0 0] 24))) := ((Blk.new _ _ _).below (below_alloc _ _)).below (below_alloc _ _)
  have QB : Hid (Blk (w.heap.size + 1) 24 (polL l' s') (((w.alloc (.cells (polL l s).toArray 24)).alloc (.cells (polL l' s').toArray 24)).alloc (.cells #[.int .i64 0, .int .i64 0, .int .i64 0, .int .i64 0, .int .i64 0, .int .i64 0, .int .i64 0, .int .i64 0, .int .i64 0, .int .i64 0, .int .i64 0, .int .i64 0, .int .i64 0, .int .i64 0, .int .i64 0, .int .i64 0, .int .i64 0, .slice none 0 0] 24))) := (Blk.new2 _ _ _ _).below (below_alloc _ _)
  have QZ : Hid (Blk (w.heap.size + 1 + 1) 24 polZ (((w.alloc (.cells (polL l s).toArray 24)).alloc (.cells (polL l' s').toArray 24)).alloc (.cells #[.int .i64 0, .int .i64 0, .int .i64 0, .int .i64 0, .int .i64 0, .int .i64 0, .int .i64 0, .int .i64 0, .int .i64 0, .int .i64 0, .int .i64 0, .int .i64 0, .int .i64 0, .int .i64 0, .int .i64 0, .int .i64 0, .int .i64 0, .slice none 0 0] 24))) := Blk.new3 _ _ _ _ _
  have A0 : Hid ((polL l s)[15]? = some (.int .i64 (l.getD 15 0))) := polL_at hl 15 (by omega)
  have A1 : Hid ((polL l' s')[15]? = some (.int .i64 (l'.getD 15 0))) := polL_at hl' 15 (by omega)
  have ST : Hid ((polL l s).set 15 (.int .i64 (l'.getD 15 0)) = polL (l.set 15 (l'.getD 15 0)) s) := polL_setn (by omega) _
  have SZ : Hid ((Try.prog.info? 24).map (·.size) = some (polL (l.set 15 (l'.getD 15 0)) s).length) := by show _ = _; rw [polL_len (by rw [List.length_set]; exact hl)]; exact sizeP
  have FT : Hid (0 + (polL (l.set 15 (l'.getD 15 0)) s).length ≤ polZ.length ∧ polZ.length ≤ 0 + (polL (l.set 15 (l'.getD 15 0)) s).length) := by show _ ∧ _; rw [polL_len (by rw [List.length_set]; exact hl)]; exact ⟨Nat.le_refl 18, Nat.le_refl 18⟩
  have OV : Hid (∀ v ∈ polL (l.set 15 (l'.getD 15 0)) s, v.oneCell' = true) := by show ∀ v ∈ _, _; rw [hs]; exact polL_one
  clear hl hl'
  generalize l'.getD 15 0 = x at *
  generalize l.getD 15 0 = y at *
  obtain ⟨RC, hR⟩ : ∃ RC, polL (l.set 15 x) s = RC := ⟨_, rfl⟩
  rw [hR] at ST SZ FT OV
  have HR : Hid (polL (l.set 15 x) s = RC) := hR
  clear hR
  generalize polL l s = C0 at *
  generalize polL l' s' = C1 at *
  go_enter Try.func12, Try.ntmps12
  go_upto_region 1 with fail
  generalize ((w.alloc (.cells C0.toArray 24)).alloc (.cells C1.toArray 24)).alloc (.cells #[.int .i64 0, .int .i64 0, .int .i64 0, .int .i64 0, .int .i64 0, .int .i64 0, .int .i64 0, .int .i64 0, .int .i64 0, .int .i64 0, .int .i64 0, .int .i64 0, .int .i64 0, .int .i64 0, .int .i64 0, .int .i64 0, .int .i64 0, .slice none 0 0] 24) = w0 at *
  have x0 := Q0.out.cell 15 _ A0.out
  have f0 := Q0.out.fz 15
  have x1 := QB.out.cell 15 _ A1.out
  have q1 : Hid (Blk w.heap.size 24 RC (w0.setCell ⟨w.heap.size, 15, none⟩ (.int .i64 x))) := by
    have := Q0.out.set (i := 15) (.int .i64 x)
    rwa [ST.out] at this
  have z1 : Hid (Blk (w.heap.size + 1 + 1) 24 polZ (w0.setCell ⟨w.heap.size, 15, none⟩ (.int .i64 x))) := QZ.out.grown (setCell_grown _ _ _ _) (fun e => by injection e with e; omega)
  have b1 : Hid (Below w.heap.size w (w0.setCell ⟨w.heap.size, 15, none⟩ (.int .i64 x))) := below_row B0.out (setCell_grown _ _ _ _) (Nat.le_refl _)
  go_upto_region 38 with fail
  generalize w0.setCell ⟨w.heap.size, 15, none⟩ (.int .i64 x) = w1 at *
  clear x0 f0 x1 Q0 QB QZ B0 A0 A1 ST
  go_wp2_with (first
  | (refine step_load rfl 24 (.tmp 3) rfl w.heap.size 0 rfl RC _ (Blk.all q1.out) Try.underlying24 rfl SZ.out ?_)
  | ((with_reducible refine at_store ?_); refine step_store rfl 24 (.tmp 6) (.tmp 98) rfl (w.heap.size + 1 + 1) 0 24 polZ RC rfl rfl z1.out FT.out.1 SZ.out OV.out ?_; intro w2 nb2 g2))
  refine ret_blk rfl rfl (w.heap.size + 1 + 1) 24 RC _ rfl (blk_put FT.out.2 nb2) Try.underlying24 rfl SZ.out ?_
  exact ⟨by rw [← HR.out], below_row b1.out g2 (by omega)⟩

set_option maxRecDepth 20000 in
set_option maxHeartbeats 1000000 in
theorem mended16_at (l l' : List Int) (a a' : Option Addr) (n n' c c' : Nat) (hl : l.length = 17) (hl' : l'.length = 17) (w : World) :
    Calls Try.prog 12 #[PV l (.slice a n c), PV l' (.slice a' n' c'), .int .i64 17] w fun e w' => e = .returned (PV (l.set 16 (l'.getD 16 0)) (.slice a n c)) ∧ Below w.heap.size w w' := by
  obtain ⟨s, hs⟩ : ∃ s : Value, s = .slice a n c := ⟨_, rfl⟩
  obtain ⟨s', hs'⟩ : ∃ s : Value, s = .slice a' n' c' := ⟨_, rfl⟩
  rw [← hs, ← hs']
  show Calls _ _ #[.agg (polL l s).toArray, .agg (polL l' s').toArray, _] _ _
  have B0 : Hid (Below w.heap.size w (((w.alloc (.cells (polL l s).toArray 24)).alloc (.cells (polL l' s').toArray 24)).alloc (.cells #[.int .i64 0, .int .i64 0, .int .i64 0, .int .i64 0, .int .i64 0, .int .i64 0, .int .i64 0, .int .i64 0, .int .i64 0, .int .i64 0, .int .i64 0, .int .i64 0, .int .i64 0, .int .i64 0, .int .i64 0, .int .i64 0, .int .i64 0, .slice none 0 0] 24))) := below_trans (below_trans (below_alloc _ _) (below_alloc _ _)) (below_alloc _ _)
  have Q0 : Hid (Blk w.heap.size 24 (polL l s) (((w.alloc (.cells (polL l s).toArray 24)).alloc (.cells (polL l' s').toArray 24)).alloc (.cells #[.int .i64 0, .int .i64 0, .int .i64 0, .int .i64 0, .int .i64 0, .int .i64 0, .int .i64 0, .int .i64 0, .int .i64 0, .int .i64 0, .int .i64 0, .int .i64 0, .int .i64 0, .int .i64 0, .int .i64 0, .int .i64 0, .int .i64 0, .slice none 0 0] 24))) := ((Blk.new _ _ _).below (below_alloc _ _)).below (below_alloc _ _)
  have QB : Hid (Blk (w.heap.size + 1) 24 (polL l' s') (((w.alloc (.cells (polL l s).toArray 24)).alloc (.cells (polL l' s').toArray 24)).alloc (.cells #[.int .i64 0, .int .i64 0, .int .i64 0, .int .i64 0, .int .i64 0, .int .i64 0, .int .i64 0, .int .i64 0, .int .i64 0, .int .i64 0, .int .i64 0, .int .i64 0, .int .i64 0, .int .i64 0, .int .i64 0, .int .i64 0, .int .i64 0, .slice none 0 0] 24))) := (Blk.new2 _ _ _ _).below (below_alloc _ _)
  have QZ : Hid (Blk (w.heap.size + 1 + 1) 24 polZ (((w.alloc (.cells (polL l s).toArray 24)).alloc (.cells (polL l' s').toArray 24)).alloc (.cells #[.int .i64 0, .int .i64 0, .int .i64 0, .int .i64 0, .int .i64 0, .int .i64 0, .int .i64 0, .int .i64 0, .int .i64 0, .int .i64 0, .int .i64 0, .int .i64 0, .int .i64 0, .int .i64 0, .int .i64 0, .int .i64 0, .int .i64 0, .slice none 0 0] 24))) := Blk.new3 _ _ _ _ _
  have A0 : Hid ((polL l s)[16]? = some (.int .i64 (l.getD 16 0))) := polL_at hl 16 (by omega)
  have A1 : Hid ((polL l' s')[16]? = some (.int .i64 (l'.getD 16 0))) := polL_at hl' 16 (by omega)
  have ST : Hid ((polL l s).set 16 (.int .i64 (l'.getD 16 0)) = polL (l.set 16 (l'.getD 16 0)) s) := polL_setn (by omega) _
  have SZ : Hid ((Try.prog.info? 24).map (·.size) = some (polL (l.set 16 (l'.getD 16 0)) s).length) := by show _ = _; rw [polL_len (by rw [List.length_set]; exact hl)]; exact sizeP
  have FT : Hid (0 + (polL (l.set 16 (l'.getD 16 0)) s).length ≤ polZ.length ∧ polZ.length ≤ 0 + (polL (l.set 16 (l'.getD 16 0)) s).length) := by show _ ∧ _; rw [polL_len (by rw [List.length_set]; exact hl)]; exact ⟨Nat.le_refl 18, Nat.le_refl 18⟩
  have OV : Hid (∀ v ∈ polL (l.set 16 (l'.getD 16 0)) s, v.oneCell' = true) := by show ∀ v ∈ _, _; rw [hs]; exact polL_one
  clear hl hl'
  generalize l'.getD 16 0 = x at *
  generalize l.getD 16 0 = y at *
  obtain ⟨RC, hR⟩ : ∃ RC, polL (l.set 16 x) s = RC := ⟨_, rfl⟩
  rw [hR] at ST SZ FT OV
  have HR : Hid (polL (l.set 16 x) s = RC) := hR
  clear hR
  generalize polL l s = C0 at *
  generalize polL l' s' = C1 at *
  go_enter Try.func12, Try.ntmps12
  go_upto_region 1 with fail
  generalize ((w.alloc (.cells C0.toArray 24)).alloc (.cells C1.toArray 24)).alloc (.cells #[.int .i64 0, .int .i64 0, .int .i64 0, .int .i64 0, .int .i64 0, .int .i64 0, .int .i64 0, .int .i64 0, .int .i64 0, .int .i64 0, .int .i64 0, .int .i64 0, .int .i64 0, .int .i64 0, .int .i64 0, .int .i64 0, .int .i64 0, .slice none 0 0] 24) = w0 at *
  have x0 := Q0.out.cell 16 _ A0.out
  have f0 := Q0.out.fz 16
  have x1 := QB.out.cell 16 _ A1.out
  have q1 : Hid (Blk w.heap.size 24 RC (w0.setCell ⟨w.heap.size, 16, none⟩ (.int .i64 x))) := by
    have := Q0.out.set (i := 16) (.int .i64 x)
    rwa [ST.out] at this
  have z1 : Hid (Blk (w.heap.size + 1 + 1) 24 polZ (w0.setCell ⟨w.heap.size, 16, none⟩ (.int .i64 x))) := QZ.out.grown (setCell_grown _ _ _ _) (fun e => by injection e with e; omega)
  have b1 : Hid (Below w.heap.size w (w0.setCell ⟨w.heap.size, 16, none⟩ (.int .i64 x))) := below_row B0.out (setCell_grown _ _ _ _) (Nat.le_refl _)
  go_upto_region 38 with fail
  generalize w0.setCell ⟨w.heap.size, 16, none⟩ (.int .i64 x) = w1 at *
  clear x0 f0 x1 Q0 QB QZ B0 A0 A1 ST
  go_wp2_with (first
  | (refine step_load rfl 24 (.tmp 3) rfl w.heap.size 0 rfl RC _ (Blk.all q1.out) Try.underlying24 rfl SZ.out ?_)
  | ((with_reducible refine at_store ?_); refine step_store rfl 24 (.tmp 6) (.tmp 98) rfl (w.heap.size + 1 + 1) 0 24 polZ RC rfl rfl z1.out FT.out.1 SZ.out OV.out ?_; intro w2 nb2 g2))
  refine ret_blk rfl rfl (w.heap.size + 1 + 1) 24 RC _ rfl (blk_put FT.out.2 nb2) Try.underlying24 rfl SZ.out ?_
  exact ⟨by rw [← HR.out], below_row b1.out g2 (by omega)⟩

set_option maxRecDepth 20000 in
set_option maxHeartbeats 1000000 in
theorem mended17_at (l l' : List Int) (a a' : Option Addr) (n n' c c' : Nat) (hl : l.length = 17) (hl' : l'.length = 17) (w : World) :
    Calls Try.prog 12 #[PV l (.slice a n c), PV l' (.slice a' n' c'), .int .i64 18] w fun e w' => e = .returned (PV l (.slice a' n' c')) ∧ Below w.heap.size w w' := by
  obtain ⟨s, hs⟩ : ∃ s : Value, s = .slice a n c := ⟨_, rfl⟩
  obtain ⟨s', hs'⟩ : ∃ s : Value, s = .slice a' n' c' := ⟨_, rfl⟩
  rw [← hs, ← hs']
  show Calls _ _ #[.agg (polL l s).toArray, .agg (polL l' s').toArray, _] _ _
  have B0 : Hid (Below w.heap.size w (((w.alloc (.cells (polL l s).toArray 24)).alloc (.cells (polL l' s').toArray 24)).alloc (.cells #[.int .i64 0, .int .i64 0, .int .i64 0, .int .i64 0, .int .i64 0, .int .i64 0, .int .i64 0, .int .i64 0, .int .i64 0, .int .i64 0, .int .i64 0, .int .i64 0, .int .i64 0, .int .i64 0, .int .i64 0, .int .i64 0, .int .i64 0, .slice none 0 0] 24))) := below_trans (below_trans (below_alloc _ _) (below_alloc _ _)) (below_alloc _ _)
  have Q0 : Hid (Blk w.heap.size 24 (polL l s) (((w.alloc (.cells (polL l s).toArray 24)).alloc (.cells (polL l' s').toArray 24)).alloc (.cells #[.int .i64 0, .int .i64 0, .int .i64 0, .int .i64 0, .int .i64 0, .int .i64 0, .int .i64 0, .int .i64 0, .int .i64 0, .int .i64 0, .int .i64 0, .int .i64 0, .int .i64 0, .int .i64 0, .int .i64 0, .int .i64 0, .int .i64 0, .slice none 0 0] 24))) := ((Blk.new _ _ _).below (below_alloc _ _)).below (below_alloc _ _)
  have QB : Hid (Blk (w.heap.size + 1) 24 (polL l' s') (((w.alloc (.cells (polL l s).toArray 24)).alloc (.cells (polL l' s').toArray 24)).alloc (.cells #[.int .i64 0, .int .i64 0, .int .i64 0, .int .i64 0, .int .i64 0, .int .i64 0, .int .i64 0, .int .i64 0, .int .i64 0, .int .i64 0, .int .i64 0, .int .i64 0, .int .i64 0, .int .i64 0, .int .i64 0, .int .i64 0, .int .i64 0, .slice none 0 0] 24))) := (Blk.new2 _ _ _ _).below (below_alloc _ _)
  have QZ : Hid (Blk (w.heap.size + 1 + 1) 24 polZ (((w.alloc (.cells (polL l s).toArray 24)).alloc (.cells (polL l' s').toArray 24)).alloc (.cells #[.int .i64 0, .int .i64 0, .int .i64 0, .int .i64 0, .int .i64 0, .int .i64 0, .int .i64 0, .int .i64 0, .int .i64 0, .int .i64 0, .int .i64 0, .int .i64 0, .int .i64 0, .int .i64 0, .int .i64 0, .int .i64 0, .int .i64 0, .slice none 0 0] 24))) := Blk.new3 _ _ _ _ _
  have A0 : Hid ((polL l s)[17]? = some s) := polL_hol hl
  have A1 : Hid ((polL l' s')[17]? = some s') := polL_hol hl'
  have ST : Hid ((polL l s).set 17 s' = polL l s') := polL_set hl
  have SZ : Hid ((Try.prog.info? 24).map (·.size) = some (polL l s').length) := by show _ = _; rw [polL_len hl]; exact sizeP
  have FT : Hid (0 + (polL l s').length ≤ polZ.length ∧ polZ.length ≤ 0 + (polL l s').length) := by show _ ∧ _; rw [polL_len hl]; exact ⟨Nat.le_refl 18, Nat.le_refl 18⟩
  have OV : Hid (∀ v ∈ polL l s', v.oneCell' = true) := by show ∀ v ∈ _, _; rw [hs']; exact polL_one
  clear hl hl'
  obtain ⟨RC, hR⟩ : ∃ RC, polL l s' = RC := ⟨_, rfl⟩
  rw [hR] at ST SZ FT OV
  have HR : Hid (polL l s' = RC) := hR
  clear hR
  generalize polL l s = C0 at *
  generalize polL l' s' = C1 at *
  subst hs'
  go_enter Try.func12, Try.ntmps12
  go_upto_region 1 with fail
  generalize ((w.alloc (.cells C0.toArray 24)).alloc (.cells C1.toArray 24)).alloc (.cells #[.int .i64 0, .int .i64 0, .int .i64 0, .int .i64 0, .int .i64 0, .int .i64 0, .int .i64 0, .int .i64 0, .int .i64 0, .int .i64 0, .int .i64 0, .int .i64 0, .int .i64 0, .int .i64 0, .int .i64 0, .int .i64 0, .int .i64 0, .slice none 0 0] 24) = w0 at *
  have x0 := Q0.out.cell 17 _ A0.out
  have f0 := Q0.out.fz 17
  have x1 := QB.out.cell 17 _ A1.out
  have q1 : Hid (Blk w.heap.size 24 RC (w0.setCell ⟨w.heap.size, 17, none⟩ (.slice a' n' c'))) := by
    have := Q0.out.set (i := 17) (.slice a' n' c')
    rwa [ST.out] at this
  have z1 : Hid (Blk (w.heap.size + 1 + 1) 24 polZ (w0.setCell ⟨w.heap.size, 17, none⟩ (.slice a' n' c'))) := QZ.out.grown (setCell_grown _ _ _ _) (fun e => by injection e with e; omega)
  have b1 : Hid (Below w.heap.size w (w0.setCell ⟨w.heap.size, 17, none⟩ (.slice a' n' c'))) := below_row B0.out (setCell_grown _ _ _ _) (Nat.le_refl _)
  go_upto_region 38 with fail
  generalize w0.setCell ⟨w.heap.size, 17, none⟩ (.slice a' n' c') = w1 at *
  clear x0 f0 x1 Q0 QB QZ B0 A0 A1 ST
  go_wp2_with (first
  | (refine step_load rfl 24 (.tmp 3) rfl w.heap.size 0 rfl RC _ (Blk.all q1.out) Try.underlying24 rfl SZ.out ?_)
  | ((with_reducible refine at_store ?_); refine step_store rfl 24 (.tmp 6) (.tmp 98) rfl (w.heap.size + 1 + 1) 0 24 polZ RC rfl rfl z1.out FT.out.1 SZ.out OV.out ?_; intro w2 nb2 g2))
  refine ret_blk rfl rfl (w.heap.size + 1 + 1) 24 RC _ rfl (blk_put FT.out.2 nb2) Try.underlying24 rfl SZ.out ?_
  exact ⟨by rw [← HR.out], below_row b1.out g2 (by omega)⟩
end Go.Proofs.Ytcjmjbhbdojeiaa
