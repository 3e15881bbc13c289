/-
  Ours: the rules (gen_polr.py).
-/
import Derived.Test.YtgdmkcbbomfmdaaGreatDoorPolFld
namespace Go.Proofs.YtgdmkcbbomfmdaaGreatDoor
open Go.RowKit LedM PolM

def ruW (w : World) (bs : List Int) : World := bs.foldl (fun v b => v.alloc (.cells #[.int .i64 b] 2)) w
theorem ruW_below : ∀ (bs : List Int) (w : World), Below w.heap.size w (ruW w bs)
  | [], _ => Below.refl _ _
  | _ :: r, w => below_trans (below_alloc w _) (ruW_below r _)
theorem ruW_at : ∀ (bs : List Int) (w : World) (i : Nat) (b : Int), bs[i]? = some b → Blk (w.heap.size + i) 2 [.int .i64 b] (ruW w bs)
  | b :: r, w, 0, x, h => by
    simp at h; subst h
    exact (Blk.new 2 [.int .i64 b] w).below (ruW_below r _)
  | b :: r, w, i + 1, x, h => by
    have := ruW_at r (w.alloc (.cells #[.int .i64 b] 2)) i x (by simpa using h)
    rw [show (w.alloc (.cells #[.int .i64 b] 2)).heap.size + i = w.heap.size + (i + 1) from by simp; omega] at this
    exact this
def rul0 : List Value := [.nilFunc, .nilFunc, .int .i64 0, .nilFunc, .nilFunc, .int .i64 0, .nilFunc, .nilFunc, .int .i64 0, .nilFunc, .nilFunc, .int .i64 0, .nilFunc, .nilFunc, .int .i64 0, .nilFunc, .nilFunc, .int .i64 0, .nilFunc, .nilFunc, .int .i64 0, .nilFunc, .nilFunc, .int .i64 0, .nilFunc, .nilFunc, .int .i64 0, .nilFunc, .nilFunc, .int .i64 0, .nilFunc, .nilFunc, .int .i64 0, .nilFunc, .nilFunc, .int .i64 0, .nilFunc, .nilFunc, .int .i64 0, .nilFunc, .nilFunc, .int .i64 0, .nilFunc, .nilFunc, .int .i64 0, .nilFunc, .nilFunc, .int .i64 0, .nilFunc, .nilFunc, .int .i64 0]
def rulB : List Int := [1, 0, 1, 0, 0, 0, 0, 0, 1, 0, 0, 0, 1, 0]
def rulL (G : Nat) : List Value := [.func (.func 59) #[] #[], .func (.func 102) #[] #[.pointer (some ⟨G + 1, 0, none⟩)], .int .i64 3652059, .func (.func 61) #[] #[], .func (.func 102) #[] #[.pointer (some ⟨G + 1 + 1, 0, none⟩)], .int .i64 30, .func (.func 62) #[] #[], .func (.func 63) #[] #[], .int .i64 365, .func (.func 64) #[] #[], .func (.func 102) #[] #[.pointer (some ⟨G + 1 + 1 + 1, 0, none⟩)], .int .i64 365, .func (.func 65) #[] #[], .func (.func 102) #[] #[.pointer (some ⟨G + 1 + 1 + 1 + 1, 0, none⟩)], .int .i64 10000, .func (.func 66) #[] #[], .func (.func 102) #[] #[.pointer (some ⟨G + 1 + 1 + 1 + 1 + 1, 0, none⟩)], .int .i64 1000000000, .func (.func 67) #[] #[], .func (.func 68) #[] #[], .int .i64 1000000000, .func (.func 69) #[] #[], .func (.func 102) #[] #[.pointer (some ⟨G + 1 + 1 + 1 + 1 + 1 + 1, 0, none⟩)], .int .i64 1000000000, .func (.func 70) #[] #[], .func (.func 102) #[] #[.pointer (some ⟨G + 1 + 1 + 1 + 1 + 1 + 1 + 1, 0, none⟩)], .int .i64 1000000000, .func (.func 71) #[] #[], .func (.func 102) #[] #[.pointer (some ⟨G + 1 + 1 + 1 + 1 + 1 + 1 + 1 + 1, 0, none⟩)], .int .i64 8, .func (.func 72) #[] #[], .func (.func 102) #[] #[.pointer (some ⟨G + 1 + 1 + 1 + 1 + 1 + 1 + 1 + 1 + 1, 0, none⟩)], .int .i64 60, .func (.func 73) #[] #[], .func (.func 102) #[] #[.pointer (some ⟨G + 1 + 1 + 1 + 1 + 1 + 1 + 1 + 1 + 1 + 1, 0, none⟩)], .int .i64 4, .func (.func 74) #[] #[], .func (.func 102) #[] #[.pointer (some ⟨G + 1 + 1 + 1 + 1 + 1 + 1 + 1 + 1 + 1 + 1 + 1, 0, none⟩)], .int .i64 5, .func (.func 75) #[] #[], .func (.func 102) #[] #[.pointer (some ⟨G + 1 + 1 + 1 + 1 + 1 + 1 + 1 + 1 + 1 + 1 + 1 + 1, 0, none⟩)], .int .i64 3, .func (.func 76) #[] #[], .func (.func 102) #[] #[.pointer (some ⟨G + 1 + 1 + 1 + 1 + 1 + 1 + 1 + 1 + 1 + 1 + 1 + 1 + 1, 0, none⟩)], .int .i64 64, .func (.func 77) #[] #[], .func (.func 78) #[] #[], .int .i64 64, .func (.func 79) #[] #[], .func (.func 102) #[] #[.pointer (some ⟨G + 1 + 1 + 1 + 1 + 1 + 1 + 1 + 1 + 1 + 1 + 1 + 1 + 1 + 1, 0, none⟩)], .int .i64 1000]
theorem rulL_one (G : Nat) : ∀ v ∈ rulL G, v.oneCell' = true := fun v hv => by
  simp only [rulL, List.mem_cons, List.not_mem_nil, or_false] at hv
  rcases hv with rfl | rfl | rfl | rfl | rfl | rfl | rfl | rfl | rfl | rfl | rfl | rfl | rfl | rfl | rfl | rfl | rfl | rfl | rfl | rfl | rfl | rfl | rfl | rfl | rfl | rfl | rfl | rfl | rfl | rfl | rfl | rfl | rfl | rfl | rfl | rfl | rfl | rfl | rfl | rfl | rfl | rfl | rfl | rfl | rfl | rfl | rfl | rfl | rfl | rfl | rfl <;> rfl

/-- The rule k among these cells. -/
def Rule (RL : List Value) (k : Nat) (l : List Int) (s : Value) (w : World) : Prop :=
  ∃ Ff cf Ft ct, RL[k * 3]? = some (.func (.func Ff) #[] cf) ∧ RL[k * 3 + 1]? = some (.func (.func Ft) #[] ct) ∧ RL[k * 3 + 2]? = some (.int .i64 (tov k)) ∧ Ent Ff ∧ Ent Ft ∧ Ans Ff cf l s (l.getD k 0) w ∧ ((∀ j, j < k → fld l j = true) → Ans Ft ct l s (frm l k) w)
theorem Ans.later {F : Nat} {caps : Array Value} {l : List Int} {s : Value} {x : Int} {w w1 : World} (h : Ans F caps l s x w) (hb : Below w.heap.size w w1) : Ans F caps l s x w1 := fun w' h' => h w' (below_trans hb h')
theorem Rule.later {RL : List Value} {k : Nat} {l : List Int} {s : Value} {w w1 : World} (h : Rule RL k l s w) (hb : Below w.heap.size w w1) : Rule RL k l s w1 := by
  obtain ⟨Ff, cf, Ft, ct, e0, e1, e2, en0, en1, A0, A1⟩ := h
  exact ⟨Ff, cf, Ft, ct, e0, e1, e2, en0, en1, A0.later hb, fun g => (A1 g).later hb⟩
theorem rule_at (G : Nat) (l : List Int) (s : Value) (hl : l.length = 17) (w : World) (h0 : ∀ i b, rulB[i]? = some b → w.cell? ⟨G + 1 + i, 0, none⟩ = some (.int .i64 b)) (k : Nat) (hk : k < 17) : Rule (rulL G) k l s w := by
  match k, hk with
  | 0, _ => exact ⟨_, _, _, _, rfl, rfl, rfl, enters Tryz.func59 (by decide +kernel) rfl, enters Tryz.func102 (by decide +kernel) rfl, fld0_at l s hl w, fun _ => always1_at l s 1 _ w (h0 0 1 rfl)⟩
  | 1, _ => exact ⟨_, _, _, _, rfl, rfl, rfl, enters Tryz.func61 (by decide +kernel) rfl, enters Tryz.func102 (by decide +kernel) rfl, fld1_at l s hl w, fun _ => always1_at l s 0 _ w (h0 1 0 rfl)⟩
  | 2, _ => exact ⟨_, _, _, _, rfl, rfl, rfl, enters Tryz.func62 (by decide +kernel) rfl, enters Tryz.func63 (by decide +kernel) rfl, fld2_at l s hl w, fun h => frm2_at l s hl w (h 1 (by omega))⟩
  | 3, _ => exact ⟨_, _, _, _, rfl, rfl, rfl, enters Tryz.func64 (by decide +kernel) rfl, enters Tryz.func102 (by decide +kernel) rfl, fld3_at l s hl w, fun _ => always1_at l s 1 _ w (h0 2 1 rfl)⟩
  | 4, _ => exact ⟨_, _, _, _, rfl, rfl, rfl, enters Tryz.func65 (by decide +kernel) rfl, enters Tryz.func102 (by decide +kernel) rfl, fld4_at l s hl w, fun _ => always1_at l s 0 _ w (h0 3 0 rfl)⟩
  | 5, _ => exact ⟨_, _, _, _, rfl, rfl, rfl, enters Tryz.func66 (by decide +kernel) rfl, enters Tryz.func102 (by decide +kernel) rfl, fld5_at l s hl w, fun _ => always1_at l s 0 _ w (h0 4 0 rfl)⟩
  | 6, _ => exact ⟨_, _, _, _, rfl, rfl, rfl, enters Tryz.func67 (by decide +kernel) rfl, enters Tryz.func68 (by decide +kernel) rfl, fld6_at l s hl w, fun _ => frm6_at l s hl w ⟩
  | 7, _ => exact ⟨_, _, _, _, rfl, rfl, rfl, enters Tryz.func69 (by decide +kernel) rfl, enters Tryz.func102 (by decide +kernel) rfl, fld7_at l s hl w, fun _ => always1_at l s 0 _ w (h0 5 0 rfl)⟩
  | 8, _ => exact ⟨_, _, _, _, rfl, rfl, rfl, enters Tryz.func70 (by decide +kernel) rfl, enters Tryz.func102 (by decide +kernel) rfl, fld8_at l s hl w, fun _ => always1_at l s 0 _ w (h0 6 0 rfl)⟩
  | 9, _ => exact ⟨_, _, _, _, rfl, rfl, rfl, enters Tryz.func71 (by decide +kernel) rfl, enters Tryz.func102 (by decide +kernel) rfl, fld9_at l s hl w, fun _ => always1_at l s 0 _ w (h0 7 0 rfl)⟩
  | 10, _ => exact ⟨_, _, _, _, rfl, rfl, rfl, enters Tryz.func72 (by decide +kernel) rfl, enters Tryz.func102 (by decide +kernel) rfl, fld10_at l s hl w, fun _ => always1_at l s 1 _ w (h0 8 1 rfl)⟩
  | 11, _ => exact ⟨_, _, _, _, rfl, rfl, rfl, enters Tryz.func73 (by decide +kernel) rfl, enters Tryz.func102 (by decide +kernel) rfl, fld11_at l s hl w, fun _ => always1_at l s 0 _ w (h0 9 0 rfl)⟩
  | 12, _ => exact ⟨_, _, _, _, rfl, rfl, rfl, enters Tryz.func74 (by decide +kernel) rfl, enters Tryz.func102 (by decide +kernel) rfl, fld12_at l s hl w, fun _ => always1_at l s 0 _ w (h0 10 0 rfl)⟩
  | 13, _ => exact ⟨_, _, _, _, rfl, rfl, rfl, enters Tryz.func75 (by decide +kernel) rfl, enters Tryz.func102 (by decide +kernel) rfl, fld13_at l s hl w, fun _ => always1_at l s 0 _ w (h0 11 0 rfl)⟩
  | 14, _ => exact ⟨_, _, _, _, rfl, rfl, rfl, enters Tryz.func76 (by decide +kernel) rfl, enters Tryz.func102 (by decide +kernel) rfl, fld14_at l s hl w, fun _ => always1_at l s 1 _ w (h0 12 1 rfl)⟩
  | 15, _ => exact ⟨_, _, _, _, rfl, rfl, rfl, enters Tryz.func77 (by decide +kernel) rfl, enters Tryz.func78 (by decide +kernel) rfl, fld15_at l s hl w, fun _ => frm15_at l s hl w ⟩
  | 16, _ => exact ⟨_, _, _, _, rfl, rfl, rfl, enters Tryz.func79 (by decide +kernel) rfl, enters Tryz.func102 (by decide +kernel) rfl, fld16_at l s hl w, fun _ => always1_at l s 0 _ w (h0 13 0 rfl)⟩
  | k + 17, h => omega

/-- The next operation is a store. -/
theorem at_store {P : Program} {ops : Array Oper} {rest : List Oper} {a : Act} {w : World} {Q : Exit → Act → World → Prop} {dst : Option Tmp} {ty t : TypeId} {x y : Operand} {pos : String} {af : Array Edge}
    (h : wpList P ops Q ({ dst := dst, op := .store ty x y, type := t, pos := pos, after := af, guard := none } :: rest) a w) : wpList P ops Q ({ dst := dst, op := .store ty x y, type := t, pos := pos, after := af, guard := none } :: rest) a w := h
theorem sizeR : (Tryz.prog.info? 96).map (·.size) = some 51 := by kernel_rfl
theorem rulL_len (G : Nat) : (rulL G).length = 51 := rfl
theorem sizeRL (G : Nat) : (Tryz.prog.info? 96).map (·.size) = some (rulL G).length := by rw [rulL_len]; exact sizeR
theorem rul_fit (G : Nat) : 0 + (rulL G).length ≤ rul0.length := by rw [rulL_len]; exact Nat.le_refl 51

set_option maxRecDepth 100000 in
set_option maxHeartbeats 4000000 in
theorem rules_at (w : World) : Calls Tryz.prog 41 #[] w fun e w' => ∃ RL : List Value, e = .returned (.agg RL.toArray) ∧ Below w.heap.size w w' ∧ RL.length = 51 ∧ (∀ v ∈ RL, v.oneCell' = true) ∧ ∀ l s k, l.length = 17 → k < 17 → Rule RL k l s w' := by
  have AL : Hid (∀ (x : Int) (w : World), Calls Tryz.prog 60 #[.int .i64 x] w fun e w' => e = .returned (.func (.func 102) #[] #[.pointer (some ⟨w.heap.size, 0, none⟩)]) ∧ w' = w.alloc (.cells #[.int .i64 x] 2)) := always_at
  have BL : Hid (Blk w.heap.size 96 rul0 (ruW (w.alloc (.cells rul0.toArray 96)) rulB)) := (Blk.new 96 rul0 w).below (ruW_below _ _)
  have BE : Hid (Below w.heap.size w (ruW (w.alloc (.cells rul0.toArray 96)) rulB)) := below_trans (below_alloc w _) (ruW_below _ _)
  have CE : Hid (∀ i b, rulB[i]? = some b → Blk (w.heap.size + 1 + i) 2 [.int .i64 b] (ruW (w.alloc (.cells rul0.toArray 96)) rulB)) := fun i b h => by
    have := ruW_at rulB (w.alloc (.cells rul0.toArray 96)) i b h
    rwa [show (w.alloc (.cells rul0.toArray 96)).heap.size = w.heap.size + 1 from by simp] at this
  have BL2 : Hid (Blk w.heap.size 96 rul0 (((((((((((((((w.alloc (.cells #[.nilFunc, .nilFunc, .int .i64 0, .nilFunc, .nilFunc, .int .i64 0, .nilFunc, .nilFunc, .int .i64 0, .nilFunc, .nilFunc, .int .i64 0, .nilFunc, .nilFunc, .int .i64 0, .nilFunc, .nilFunc, .int .i64 0, .nilFunc, .nilFunc, .int .i64 0, .nilFunc, .nilFunc, .int .i64 0, .nilFunc, .nilFunc, .int .i64 0, .nilFunc, .nilFunc, .int .i64 0, .nilFunc, .nilFunc, .int .i64 0, .nilFunc, .nilFunc, .int .i64 0, .nilFunc, .nilFunc, .int .i64 0, .nilFunc, .nilFunc, .int .i64 0, .nilFunc, .nilFunc, .int .i64 0, .nilFunc, .nilFunc, .int .i64 0, .nilFunc, .nilFunc, .int .i64 0] 96)).alloc (.cells #[.int .i64 1] 2)).alloc (.cells #[.int .i64 0] 2)).alloc (.cells #[.int .i64 1] 2)).alloc (.cells #[.int .i64 0] 2)).alloc (.cells #[.int .i64 0] 2)).alloc (.cells #[.int .i64 0] 2)).alloc (.cells #[.int .i64 0] 2)).alloc (.cells #[.int .i64 0] 2)).alloc (.cells #[.int .i64 1] 2)).alloc (.cells #[.int .i64 0] 2)).alloc (.cells #[.int .i64 0] 2)).alloc (.cells #[.int .i64 0] 2)).alloc (.cells #[.int .i64 1] 2)).alloc (.cells #[.int .i64 0] 2))) := by
    have := BL.out
    simp only [ruW, rulB, List.foldl] at this
    exact this
  clear BL
  go_enter Tryz.func41, Tryz.ntmps41
  go_wp2_with (first
  | (go_at_call 60; refine (AL.out _ _).mono ?_; rintro e w' ⟨rfl, rfl⟩)
  | ((with_reducible refine at_store ?_); refine step_store rfl 96 _ _ rfl w.heap.size 0 96 rul0 (rulL w.heap.size) rfl rfl BL2.out (rul_fit _) (sizeRL _) (rulL_one _) ?_; intro w2 nb2 g2))
  have n2 : Blk w.heap.size 96 (rulL w.heap.size) w2 := nb2
  refine ret_blk rfl rfl w.heap.size 96 (rulL w.heap.size) _ rfl n2 Tryz.underlying96 rfl (sizeRL _) ?_
  refine ⟨_, rfl, below_row BE.out g2 (Nat.le_refl _), rulL_len _, rulL_one _, fun l s k hl hk => rule_at w.heap.size l s hl w2 (fun i b h => ?_) k hk⟩
  exact ((CE.out i b h).grown g2 (fun e => by injection e; omega)).cell 0 _ rfl
end Go.Proofs.YtgdmkcbbomfmdaaGreatDoor
