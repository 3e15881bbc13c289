/-
  Ours: bytes.Clone; what a notice's own calls answer.
-/
import Derived.Test.YteppdlaoeoeplaaObSrt
import Derived.Test.YteppdlaoeoeplaaAgCat
import Derived.Test.YteppdlaoeoeplaaPolPrg
import Derived.Lib.SliceRun
namespace Go.Proofs.Yteppdlaoeoeplaa
open Go.RowKit ObM LedM PolM

theorem infoB : (Try.prog.info? 5).map (fun i => (i.zero, i.size, i.bytes)) = some (some (.int .u8 0), 1, 1) := by kernel_rfl
theorem underB : Try.prog.underlying 28 = some (.slice 5) := by kernel_rfl
theorem one_bv (bs : List Nat) : ∀ u ∈ bs.map bv, u.oneCell' = true := fun u hu => by obtain ⟨x, _, rfl⟩ := List.mem_map.1 hu; rfl
/-- New bytes. -/
def NewS (w : World) (bs : List Nat) (e : Ending) (w' : World) : Prop := ∃ a n c, e = .returned (.slice a n c) ∧ RowB 5 w.heap.size w' (.slice a n c) bs ∧ Below w.heap.size w w'

set_option maxHeartbeats 600000 in
theorem clone_at (bs : List Nat) (v : Value) (w : World) (hl : bs.length ≤ 140737488351232) (h : RdB w v bs) : Calls Try.prog 42 #[v] w (NewS w bs) := by
  obtain ⟨i0, hi, hz0, hz1, hz2⟩ := info_parts infoB
  have hm : ∀ (w : World) (a : Option Addr) (n c : Nat), (binOp .eql 28 (.slice a n c) (.slice none 0 0)).run Try.prog w = .ok (.bool a.isNone) w := fun w a n c => Lib.run_eql_slice_nil w _ _ a n c 0 0 underB
  obtain ⟨ao, cap, rfl, hcap, hnil⟩ := h.len
  have hl0 : (bs.map bv).length = bs.length := List.length_map ..
  cases ao with
  | none =>
    have : bs = [] := List.eq_nil_of_length_eq_zero (by have := hnil rfl; omega)
    subst this
    obtain rfl := hnil rfl
    clear h
    go_enter Try.func42, Try.ntmps42
    go_wp2_with fail
    go_ret
    exact ⟨_, _, _, rfl, RowV.nil _ _ _, Below.refl _ _⟩
  | some ad =>
    have one := one_bv bs
    have l1 : ([] : List Value).length + (bs.map bv).length ≤ maxLen := by simp only [List.length_map, List.length_nil]; unfold maxLen; omega
    have l2 : (([] : List Value).length + (bs.map bv).length) * 1 ≤ 140737488355328 := by simp only [List.length_map, List.length_nil]; omega
    have own0 : RowV 5 w.heap.size (w.alloc (.cells #[] 5)) (.slice (some ⟨w.heap.size, 0, none⟩) 0 0) [] := ⟨by simp, .inr ⟨w.heap.size, 0, #[], rfl, Nat.le_refl _, (MapKept.heap_alloc w _).1, by simp, by unfold maxLen; omega, rfl, rfl⟩⟩
    have rd0 := Rd.later h (below_alloc w (.cells #[] 5))
    have hsz : w.heap.size ≤ (w.alloc (.cells #[] 5)).heap.size := by simp
    have b0 := below_alloc w (.cells #[] 5)
    obtain ⟨us, hus⟩ : ∃ us, bs.map bv = us := ⟨_, rfl⟩
    rw [hus] at one l1 l2 rd0 ⊢
    have HU : Hid (bs.map bv = us) := hus
    clear h hl0 hus hnil hcap
    go_enter Try.func42, Try.ntmps42
    go_wp2_with (at_builtin; refine wpList_catV rfl (.tmp 5) (.tmp 6) 28 rfl 5 i0 (.int .u8 0) 1 underB hi hz0 hz1 hz2 rfl w.heap.size _ _ _ _ one rfl own0 hsz rfl rd0 l1 l2 ?_; intro v3 w3 r3 g3)
    obtain ⟨a3, c3, rfl, -, -⟩ := (RowV.rd r3).len
    go_ret
    exact ⟨a3, _, c3, rfl, by rw [RowB, HU.out]; simpa using r3, below_grown b0 own0 (Nat.le_refl _) hsz g3⟩

theorem later_at (now t : Int) (w : World) (hn : i64 now) (ht : 0 ≤ t ∧ t ≤ 9223372036854775807) : Calls Try.prog 46 #[.int .i64 now, .int .i64 t] w fun e w' => e = .returned (.int .i64 (lateN now t)) ∧ w' = w := by
  obtain ⟨h1, h2⟩ := hn
  obtain ⟨h3, h4⟩ := ht
  unfold lateN
  by_cases h : now > 9223372036854775807 - t
  · rw [if_pos h]
    go_enter Try.func46, Try.ntmps46
    go_wp2_with fail
    go_ret
    exact ⟨rfl, rfl⟩
  · rw [if_neg h]
    go_enter Try.func46, Try.ntmps46
    go_wp2_with fail
    go_ret
    exact ⟨by go_num, rfl⟩
theorem lateN_ok {now t : Int} (hn : i64 now) (ht : 0 ≤ t) : i64 (lateN now t) := by
  unfold lateN i64 at *
  split <;> omega

theorem edue_at (e : En) (now : Int) (w : World) : Calls Try.prog 44 #[enV e, .int .i64 now] w fun x w' => x = .returned (.bool (decide (e.nx ≤ now))) ∧ Below w.heap.size w w' := by
  have b0 := below_alloc w (.cells #[.int .i64 e.id, .int .i64 e.att, .int .i64 e.nx, .slice e.ba e.bn e.bc] 78)
  go_enter Try.func44, Try.ntmps44
  go_wp2_with fail
  go_ret
  exact ⟨rfl, b0⟩

theorem sizeEn : (Try.prog.info? 78).map (·.size) = some 4 := by kernel_rfl
theorem sizePn : (Try.prog.info? 72).map (·.size) = some 4 := by kernel_rfl
theorem sizePk : (Try.prog.info? 67).map (·.size) = some 3 := by kernel_rfl
theorem enL_one (e : En) : ∀ v ∈ enL e, v.oneCell' = true := fun v hv => by simp [enL] at hv; rcases hv with rfl | rfl | rfl | rfl <;> rfl
set_option maxRecDepth 20000 in
set_option maxHeartbeats 1000000 in
theorem newEntry_at (id now : Int) (a : Option Addr) (n c : Nat) (bs : List Nat) (w : World) (hr : RdB w (.slice a n c) bs) (hl : bs.length ≤ 140737488351232) :
    Calls Try.prog 29 #[.int .i64 id, .slice a n c, .int .i64 now] w fun x w' => ∃ a' n' c', x = .returned (enV ⟨id, 0, now, a', n', c', bs⟩) ∧ RowB 5 w.heap.size w' (.slice a' n' c') bs ∧ Below w.heap.size w w' := by
  have B0 : Hid (Blk w.heap.size 78 (enL zEn) (w.alloc (.cells #[.int .i64 0, .int .i64 0, .int .i64 0, .slice none 0 0] 78))) := Blk.new _ _ _
  have b0 : Hid (Below w.heap.size w (w.alloc (.cells #[.int .i64 0, .int .i64 0, .int .i64 0, .slice none 0 0] 78))) := below_alloc _ _
  have CL : Hid (Calls Try.prog 42 #[.slice a n c] (w.alloc (.cells #[.int .i64 0, .int .i64 0, .int .i64 0, .slice none 0 0] 78)) (NewS (w.alloc (.cells #[.int .i64 0, .int .i64 0, .int .i64 0, .slice none 0 0] 78)) bs)) := clone_at bs _ _ hl (Rd.later hr b0.out)
  clear hr hl
  go_enter Try.func29, Try.ntmps29
  go_upto_region 1 with fail
  generalize w.alloc (.cells #[.int .i64 0, .int .i64 0, .int .i64 0, .slice none 0 0] 78) = w0 at *
  go_wp2_with fail
  refine CL.out.mono ?_
  rintro e w1 ⟨a1, n1, c1, rfl, r1, b1⟩
  have B1 : Hid (Blk w.heap.size 78 (enL zEn) w1) := B0.out.below b1
  have R1 : Hid (RowB 5 w.heap.size w1 (.slice a1 n1 c1) bs ∧ Below w.heap.size w w1) := ⟨RowV.mono r1 b0.out.size, below_trans b0.out b1⟩
  clear r1 b1 B0 CL
  go_wp2_with (refine step_store rfl 78 _ _ rfl w.heap.size 0 78 (enL zEn) (enL ⟨id, 0, now, a1, n1, c1, bs⟩) rfl rfl B1.out (show 0 + 4 ≤ 4 by decide) sizeEn (enL_one _) ?_; intro w2 B2 g2)
  refine ret_blk rfl rfl w.heap.size 78 (enL ⟨id, 0, now, a1, n1, c1, bs⟩) _ rfl B2 Try.underlying78 rfl sizeEn ?_
  refine ⟨a1, n1, c1, rfl, RowV.kept R1.out.1 g2 (fun g hg e => ?_), below_row R1.out.2 g2 (Nat.le_refl _)⟩
  cases e
  have := own_heap R1.out.1 hg
  obtain ⟨_, cur, hc⟩ := this
  exact ne_ty hc B1.out (by decide) rfl
end Go.Proofs.Yteppdlaoeoeplaa
