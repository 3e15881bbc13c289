/-
  Ours: the statements' own sums in two halves: plus, nothing.
-/
import Derived.Test.YtcigbghbiapohaaLedNet
import Derived.Test.YtcigbghbiapohaaSum
namespace Go.Proofs.Ytcigbghbiapohaa
open Go.RowKit LedM

namespace LedM
/-- The halves h, l stand for s; k numbers have been added. -/
def WhIs (s : Int) (k : Nat) (h l : Int) : Prop := h * 4294967296 + l = s ∧ -(2147483648 * (k : Int)) ≤ h ∧ h ≤ 2147483648 * (k : Int) ∧ 0 ≤ l ∧ l ≤ 4294967296 * (k : Int)
def whH (h x : Int) : Int := h + x / 4294967296
def whL (l x : Int) : Int := l + (x - x / 4294967296 * 4294967296)
theorem wh_zero : WhIs 0 0 0 0 := by unfold WhIs; omega
theorem wh_plus {s : Int} {k : Nat} {h l x : Int} (hw : WhIs s k h l) (hx : i64 x) : WhIs (s + x) (k + 1) (whH h x) (whL l x) := by
  unfold WhIs whH whL i64 at *
  have := Int.mul_ediv_add_emod x 4294967296
  have m0 : 0 ≤ x % 4294967296 := by omega
  have m1 : x % 4294967296 < 4294967296 := by omega
  omega
theorem wh_nothing {s : Int} {k : Nat} {h l : Int} (hw : WhIs s k h l) : (decide (l % 4294967296 = 0) && decide (h + l / 4294967296 = 0)) = decide (s = 0) := by
  unfold WhIs at hw
  by_cases h0 : s = 0
  · rw [decide_eq_true h0, decide_eq_true (p := l % 4294967296 = 0) (by omega), decide_eq_true (p := h + l / 4294967296 = 0) (by omega)]; rfl
  · rw [decide_eq_false h0]
    by_cases h1 : l % 4294967296 = 0
    · rw [decide_eq_true h1, decide_eq_false (p := h + l / 4294967296 = 0) (by omega)]; rfl
    · rw [decide_eq_false h1]; rfl
end LedM
abbrev WH : TypeId := 30
theorem infoH : (Try.prog.info? 30).map (·.size) = some 2 := by kernel_rfl
theorem oneH (a b : Int) : ∀ v ∈ [Value.int .i64 a, Value.int .i64 b], v.oneCell' = true := fun v hv => by
  simp at hv
  rcases hv with rfl | rfl <;> rfl

set_option maxHeartbeats 1000000 in
theorem plus_at (s : Int) (k : Nat) (h l x : Int) (w : World) (hw : WhIs s k h l) (hk : k ≤ 100000) (hx : i64 x) :
    Calls Try.prog 6 #[.agg #[.int .i64 h, .int .i64 l], .int .i64 x] w fun e w' => e = .returned (.agg #[.int .i64 (whH h x), .int .i64 (whL l x)]) ∧ Below w.heap.size w w' := by
  have NB : Hid (Blk (w.heap.size + 1) 30 [.int .i64 0, .int .i64 0] ((w.alloc (.cells #[.int .i64 h, .int .i64 l] 30)).alloc (.cells #[.int .i64 0, .int .i64 0] 30))) := Blk.new2 30 [.int .i64 0, .int .i64 0] w _
  have BB : Hid (Below w.heap.size w ((w.alloc (.cells #[.int .i64 h, .int .i64 l] 30)).alloc (.cells #[.int .i64 0, .int .i64 0] 30))) := (below_alloc w _).alloc (by simp) _
  unfold WhIs i64 at *
  unfold whH whL
  obtain ⟨_, a1, a2, a3, a4⟩ := hw
  obtain ⟨x0, x1⟩ := hx
  have m := Int.mul_ediv_add_emod x 4294967296
  have m0 : 0 ≤ x % 4294967296 := by omega
  have m1 : x % 4294967296 < 4294967296 := by omega
  obtain ⟨q, hq⟩ : ∃ q, x / 4294967296 = q := ⟨_, rfl⟩
  rw [hq] at m ⊢
  have g0 : wrap64 (h + q) = h + q := by unfold wrap64; omega
  have g1 : wrap64 (q * 4294967296) = q * 4294967296 := by unfold wrap64; omega
  have g2 : wrap64 (x - q * 4294967296) = x - q * 4294967296 := by unfold wrap64; omega
  have g3 : wrap64 (l + (x - q * 4294967296)) = l + (x - q * 4294967296) := by unfold wrap64; omega
  go_enter Try.func6, Try.ntmps6
  go_wp2_with (refine step_store rfl 30 _ _ rfl (w.heap.size + 1) 0 30 [.int .i64 0, .int .i64 0] [.int .i64 (h + q), .int .i64 (l + (x - q * 4294967296))] rfl rfl NB.out (by simp) infoH (oneH _ _) ?_; intro w2 nb2 g2)
  refine ret_blk rfl rfl (w.heap.size + 1) 30 [.int .i64 (h + q), .int .i64 (l + (x - q * 4294967296))] _ rfl nb2 Try.underlying30 rfl infoH ?_
  exact ⟨rfl, below_row BB.out g2 (by omega)⟩

set_option maxHeartbeats 1000000 in
theorem nothing_at (s : Int) (k : Nat) (h l : Int) (w : World) (hw : WhIs s k h l) (hk : k ≤ 100000) :
    Calls Try.prog 7 #[.agg #[.int .i64 h, .int .i64 l]] w fun e w' => e = .returned (.bool (decide (s = 0))) ∧ Below w.heap.size w w' := by
  have BB : Hid (Below w.heap.size w (w.alloc (.cells #[.int .i64 h, .int .i64 l] 30))) := below_alloc w _
  rw [← wh_nothing hw]
  unfold WhIs at hw
  obtain ⟨_, a1, a2, a3, a4⟩ := hw
  have b1 : decide (h + l / 4294967296 = 0) = (h + l / 4294967296 == 0) := by by_cases hz : h + l / 4294967296 = 0 <;> simp [hz]
  rw [b1]
  clear b1
  by_cases h0 : l % 4294967296 = 0
  · rw [decide_eq_true h0, Bool.true_and]
    have e0 : (l % 4294967296 == 0) = true := beq_iff_eq.2 h0
    clear h0
    go_enter Try.func7, Try.ntmps7
    go_wp2_with fail
    go_ret
    exact ⟨rfl, BB.out⟩
  · rw [decide_eq_false h0, Bool.false_and]
    have e0 : (l % 4294967296 == 0) = false := beq_eq_false_iff_ne.2 h0
    clear h0
    go_enter Try.func7, Try.ntmps7
    go_wp2_with fail
    go_ret
    exact ⟨rfl, BB.out⟩
end Go.Proofs.Ytcigbghbiapohaa
