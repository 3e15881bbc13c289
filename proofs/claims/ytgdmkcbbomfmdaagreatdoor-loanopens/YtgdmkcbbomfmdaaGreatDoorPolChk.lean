/-
  Ours: policy.Check and mayBe.
-/
import Derived.Test.YtgdmkcbbomfmdaaGreatDoorPolHol
namespace Go.Proofs.YtgdmkcbbomfmdaaGreatDoor
open Go.RowKit LedM PolM

def ruW (w : World) (bs : List Int) : World := bs.foldl (fun v b => v.alloc (.cells #[.int .i64 b] 2)) w
theorem ruW_below : ∀ (bs : List Int) (w : World), Below w.heap.size w (ruW w bs)
  | [], _ => Below.refl _ _
  | _ :: r, w => below_trans (below_alloc w _) (ruW_below r _)
theorem ruW_at : ∀ (bs : List Int) (w : World) (i : Nat) (b : Int), bs[i]? = some b → Blk (w.heap.size + i) 2 [.int .i64 b] (ruW w bs)
  | b :: r, w, 0, x, h => by
    simp at h; subst h
    exact (Blk.new 2 [.int .i64 b] w).below (ruW_below r _)
  | b :: r, w, i + 1, x, h => by
    have := ruW_at r (w.alloc (.cells #[.int .i64 b] 2)) i x (by simpa using h)
    rw [show (w.alloc (.cells #[.int .i64 b] 2)).heap.size + i = w.heap.size + (i + 1) from by simp; omega] at this
    exact this
def rul0 : List Value := [.nilFunc, .nilFunc, .int .i64 0, .nilFunc, .nilFunc, .int .i64 0, .nilFunc, .nilFunc, .int .i64 0, .nilFunc, .nilFunc, .int .i64 0, .nilFunc, .nilFunc, .int .i64 0, .nilFunc, .nilFunc, .int .i64 0, .nilFunc, .nilFunc, .int .i64 0, .nilFunc, .nilFunc, .int .i64 0, .nilFunc, .nilFunc, .int .i64 0, .nilFunc, .nilFunc, .int .i64 0, .nilFunc, .nilFunc, .int .i64 0, .nilFunc, .nilFunc, .int .i64 0, .nilFunc, .nilFunc, .int .i64 0, .nilFunc, .nilFunc, .int .i64 0, .nilFunc, .nilFunc, .int .i64 0, .nilFunc, .nilFunc, .int .i64 0, .nilFunc, .nilFunc, .int .i64 0]
def rulB : List Int := [1, 0, 1, 0, 0, 0, 0, 0, 1, 0, 0, 0, 1, 0]
def rulL (G : Nat) : List Value := [.func (.func 59) #[] #[], .func (.func 102) #[] #[.pointer (some ⟨G + 1, 0, none⟩)], .int .i64 3652059, .func (.func 61) #[] #[], .func (.func 102) #[] #[.pointer (some ⟨G + 1 + 1, 0, none⟩)], .int .i64 30, .func (.func 62) #[] #[], .func (.func 63) #[] #[], .int .i64 365, .func (.func 64) #[] #[], .func (.func 102) #[] #[.pointer (some ⟨G + 1 + 1 + 1, 0, none⟩)], .int .i64 365, .func (.func 65) #[] #[], .func (.func 102) #[] #[.pointer (some ⟨G + 1 + 1 + 1 + 1, 0, none⟩)], .int .i64 10000, .func (.func 66) #[] #[], .func (.func 102) #[] #[.pointer (some ⟨G + 1 + 1 + 1 + 1 + 1, 0, none⟩)], .int .i64 1000000000, .func (.func 67) #[] #[], .func (.func 68) #[] #[], .int .i64 1000000000, .func (.func 69) #[] #[], .func (.func 102) #[] #[.pointer (some ⟨G + 1 + 1 + 1 + 1 + 1 + 1, 0, none⟩)], .int .i64 1000000000, .func (.func 70) #[] #[], .func (.func 102) #[] #[.pointer (some ⟨G + 1 + 1 + 1 + 1 + 1 + 1 + 1, 0, none⟩)], .int .i64 1000000000, .func (.func 71) #[] #[], .func (.func 102) #[] #[.pointer (some ⟨G + 1 + 1 + 1 + 1 + 1 + 1 + 1 + 1, 0, none⟩)], .int .i64 8, .func (.func 72) #[] #[], .func (.func 102) #[] #[.pointer (some ⟨G + 1 + 1 + 1 + 1 + 1 + 1 + 1 + 1 + 1, 0, none⟩)], .int .i64 60, .func (.func 73) #[] #[], .func (.func 102) #[] #[.pointer (some ⟨G + 1 + 1 + 1 + 1 + 1 + 1 + 1 + 1 + 1 + 1, 0, none⟩)], .int .i64 4, .func (.func 74) #[] #[], .func (.func 102) #[] #[.pointer (some ⟨G + 1 + 1 + 1 + 1 + 1 + 1 + 1 + 1 + 1 + 1 + 1, 0, none⟩)], .int .i64 5, .func (.func 75) #[] #[], .func (.func 102) #[] #[.pointer (some ⟨G + 1 + 1 + 1 + 1 + 1 + 1 + 1 + 1 + 1 + 1 + 1 + 1, 0, none⟩)], .int .i64 3, .func (.func 76) #[] #[], .func (.func 102) #[] #[.pointer (some ⟨G + 1 + 1 + 1 + 1 + 1 + 1 + 1 + 1 + 1 + 1 + 1 + 1 + 1, 0, none⟩)], .int .i64 64, .func (.func 77) #[] #[], .func (.func 78) #[] #[], .int .i64 64, .func (.func 79) #[] #[], .func (.func 102) #[] #[.pointer (some ⟨G + 1 + 1 + 1 + 1 + 1 + 1 + 1 + 1 + 1 + 1 + 1 + 1 + 1 + 1, 0, none⟩)], .int .i64 1000]
theorem rulL_one (G : Nat) : ∀ v ∈ rulL G, v.oneCell' = true := fun v hv => by
  simp only [rulL, List.mem_cons, List.not_mem_nil, or_false] at hv
  rcases hv with rfl | rfl | rfl | rfl | rfl | rfl | rfl | rfl | rfl | rfl | rfl | rfl | rfl | rfl | rfl | rfl | rfl | rfl | rfl | rfl | rfl | rfl | rfl | rfl | rfl | rfl | rfl | rfl | rfl | rfl | rfl | rfl | rfl | rfl | rfl | rfl | rfl | rfl | rfl | rfl | rfl | rfl | rfl | rfl | rfl | rfl | rfl | rfl | rfl | rfl | rfl <;> rfl

/-- The rule k among these cells. -/
def Rule (RL : List Value) (k : Nat) (l : List Int) (s : Value) (w : World) : Prop :=
  ∃ Ff cf Ft ct, RL[k * 3]? = some (.func (.func Ff) #[] cf) ∧ RL[k * 3 + 1]? = some (.func (.func Ft) #[] ct) ∧ RL[k * 3 + 2]? = some (.int .i64 (tov k)) ∧ Ent Ff ∧ Ent Ft ∧ Ans Ff cf l s (l.getD k 0) w ∧ ((∀ j, j < k → fld l j = true) → Ans Ft ct l s (frm l k) w)
theorem Ans.later {F : Nat} {caps : Array Value} {l : List Int} {s : Value} {x : Int} {w w1 : World} (h : Ans F caps l s x w) (hb : Below w.heap.size w w1) : Ans F caps l s x w1 := fun w' h' => h w' (below_trans hb h')
theorem Rule.later {RL : List Value} {k : Nat} {l : List Int} {s : Value} {w w1 : World} (h : Rule RL k l s w) (hb : Below w.heap.size w w1) : Rule RL k l s w1 := by
  obtain ⟨Ff, cf, Ft, ct, e0, e1, e2, en0, en1, A0, A1⟩ := h
  exact ⟨Ff, cf, Ft, ct, e0, e1, e2, en0, en1, A0.later hb, fun g => (A1 g).later hb⟩
theorem rule_at (G : Nat) (l : List Int) (s : Value) (hl : l.length = 17) (w : World) (h0 : ∀ i b, rulB[i]? = some b → w.cell? ⟨G + 1 + i, 0, none⟩ = some (.int .i64 b)) (k : Nat) (hk : k < 17) : Rule (rulL G) k l s w := by
  match k, hk with
  | 0, _ => exact ⟨_, _, _, _, rfl, rfl, rfl, enters Tryz.func59 (by decide +kernel) rfl, enters Tryz.func102 (by decide +kernel) rfl, fld0_at l s hl w, fun _ => always1_at l s 1 _ w (h0 0 1 rfl)⟩
  | 1, _ => exact ⟨_, _, _, _, rfl, rfl, rfl, enters Tryz.func61 (by decide +kernel) rfl, enters Tryz.func102 (by decide +kernel) rfl, fld1_at l s hl w, fun _ => always1_at l s 0 _ w (h0 1 0 rfl)⟩
  | 2, _ => exact ⟨_, _, _, _, rfl, rfl, rfl, enters Tryz.func62 (by decide +kernel) rfl, enters Tryz.func63 (by decide +kernel) rfl, fld2_at l s hl w, fun h => frm2_at l s hl w (h 1 (by omega))⟩
  | 3, _ => exact ⟨_, _, _, _, rfl, rfl, rfl, enters Tryz.func64 (by decide +kernel) rfl, enters Tryz.func102 (by decide +kernel) rfl, fld3_at l s hl w, fun _ => always1_at l s 1 _ w (h0 2 1 rfl)⟩
  | 4, _ => exact ⟨_, _, _, _, rfl, rfl, rfl, enters Tryz.func65 (by decide +kernel) rfl, enters Tryz.func102 (by decide +kernel) rfl, fld4_at l s hl w, fun _ => always1_at l s 0 _ w (h0 3 0 rfl)⟩
  | 5, _ => exact ⟨_, _, _, _, rfl, rfl, rfl, enters Tryz.func66 (by decide +kernel) rfl, enters Tryz.func102 (by decide +kernel) rfl, fld5_at l s hl w, fun _ => always1_at l s 0 _ w (h0 4 0 rfl)⟩
  | 6, _ => exact ⟨_, _, _, _, rfl, rfl, rfl, enters Tryz.func67 (by decide +kernel) rfl, enters Tryz.func68 (by decide +kernel) rfl, fld6_at l s hl w, fun _ => frm6_at l s hl w ⟩
  | 7, _ => exact ⟨_, _, _, _, rfl, rfl, rfl, enters Tryz.func69 (by decide +kernel) rfl, enters Tryz.func102 (by decide +kernel) rfl, fld7_at l s hl w, fun _ => always1_at l s 0 _ w (h0 5 0 rfl)⟩
  | 8, _ => exact ⟨_, _, _, _, rfl, rfl, rfl, enters Tryz.func70 (by decide +kernel) rfl, enters Tryz.func102 (by decide +kernel) rfl, fld8_at l s hl w, fun _ => always1_at l s 0 _ w (h0 6 0 rfl)⟩
  | 9, _ => exact ⟨_, _, _, _, rfl, rfl, rfl, enters Tryz.func71 (by decide +kernel) rfl, enters Tryz.func102 (by decide +kernel) rfl, fld9_at l s hl w, fun _ => always1_at l s 0 _ w (h0 7 0 rfl)⟩
  | 10, _ => exact ⟨_, _, _, _, rfl, rfl, rfl, enters Tryz.func72 (by decide +kernel) rfl, enters Tryz.func102 (by decide +kernel) rfl, fld10_at l s hl w, fun _ => always1_at l s 1 _ w (h0 8 1 rfl)⟩
  | 11, _ => exact ⟨_, _, _, _, rfl, rfl, rfl, enters Tryz.func73 (by decide +kernel) rfl, enters Tryz.func102 (by decide +kernel) rfl, fld11_at l s hl w, fun _ => always1_at l s 0 _ w (h0 9 0 rfl)⟩
  | 12, _ => exact ⟨_, _, _, _, rfl, rfl, rfl, enters Tryz.func74 (by decide +kernel) rfl, enters Tryz.func102 (by decide +kernel) rfl, fld12_at l s hl w, fun _ => always1_at l s 0 _ w (h0 10 0 rfl)⟩
  | 13, _ => exact ⟨_, _, _, _, rfl, rfl, rfl, enters Tryz.func75 (by decide +kernel) rfl, enters Tryz.func102 (by decide +kernel) rfl, fld13_at l s hl w, fun _ => always1_at l s 0 _ w (h0 11 0 rfl)⟩
  | 14, _ => exact ⟨_, _, _, _, rfl, rfl, rfl, enters Tryz.func76 (by decide +kernel) rfl, enters Tryz.func102 (by decide +kernel) rfl, fld14_at l s hl w, fun _ => always1_at l s 1 _ w (h0 12 1 rfl)⟩
  | 15, _ => exact ⟨_, _, _, _, rfl, rfl, rfl, enters Tryz.func77 (by decide +kernel) rfl, enters Tryz.func78 (by decide +kernel) rfl, fld15_at l s hl w, fun _ => frm15_at l s hl w ⟩
  | 16, _ => exact ⟨_, _, _, _, rfl, rfl, rfl, enters Tryz.func79 (by decide +kernel) rfl, enters Tryz.func102 (by decide +kernel) rfl, fld16_at l s hl w, fun _ => always1_at l s 0 _ w (h0 13 0 rfl)⟩
  | k + 17, h => omega

/-- The next operation is a store. -/
theorem at_store {P : Program} {ops : Array Oper} {rest : List Oper} {a : Act} {w : World} {Q : Exit → Act → World → Prop} {dst : Option Tmp} {ty t : TypeId} {x y : Operand} {pos : String} {af : Array Edge}
    (h : wpList P ops Q ({ dst := dst, op := .store ty x y, type := t, pos := pos, after := af, guard := none } :: rest) a w) : wpList P ops Q ({ dst := dst, op := .store ty x y, type := t, pos := pos, after := af, guard := none } :: rest) a w := h
theorem sizeR : (Tryz.prog.info? 96).map (·.size) = some 51 := by kernel_rfl
theorem rulL_len (G : Nat) : (rulL G).length = 51 := rfl
theorem sizeRL (G : Nat) : (Tryz.prog.info? 96).map (·.size) = some (rulL G).length := by rw [rulL_len]; exact sizeR
theorem rul_fit (G : Nat) : 0 + (rulL G).length ≤ rul0.length := by rw [rulL_len]; exact Nat.le_refl 51

set_option maxRecDepth 100000 in
set_option maxHeartbeats 4000000 in
theorem rules_at (w : World) : Calls Tryz.prog 41 #[] w fun e w' => ∃ RL : List Value, e = .returned (.agg RL.toArray) ∧ Below w.heap.size w w' ∧ RL.length = 51 ∧ (∀ v ∈ RL, v.oneCell' = true) ∧ ∀ l s k, l.length = 17 → k < 17 → Rule RL k l s w' := by
  have AL : Hid (∀ (x : Int) (w : World), Calls Tryz.prog 60 #[.int .i64 x] w fun e w' => e = .returned (.func (.func 102) #[] #[.pointer (some ⟨w.heap.size, 0, none⟩)]) ∧ w' = w.alloc (.cells #[.int .i64 x] 2)) := always_at
  have BL : Hid (Blk w.heap.size 96 rul0 (ruW (w.alloc (.cells rul0.toArray 96)) rulB)) := (Blk.new 96 rul0 w).below (ruW_below _ _)
  have BE : Hid (Below w.heap.size w (ruW (w.alloc (.cells rul0.toArray 96)) rulB)) := below_trans (below_alloc w _) (ruW_below _ _)
  have CE : Hid (∀ i b, rulB[i]? = some b → Blk (w.heap.size + 1 + i) 2 [.int .i64 b] (ruW (w.alloc (.cells rul0.toArray 96)) rulB)) := fun i b h => by
    have := ruW_at rulB (w.alloc (.cells rul0.toArray 96)) i b h
    rwa [show (w.alloc (.cells rul0.toArray 96)).heap.size = w.heap.size + 1 from by simp] at this
  have BL2 : Hid (Blk w.heap.size 96 rul0 (((((((((((((((w.alloc (.cells #[.nilFunc, .nilFunc, .int .i64 0, .nilFunc, .nilFunc, .int .i64 0, .nilFunc, .nilFunc, .int .i64 0, .nilFunc, .nilFunc, .int .i64 0, .nilFunc, .nilFunc, .int .i64 0, .nilFunc, .nilFunc, .int .i64 0, .nilFunc, .nilFunc, .int .i64 0, .nilFunc, .nilFunc, .int .i64 0, .nilFunc, .nilFunc, .int .i64 0, .nilFunc, .nilFunc, .int .i64 0, .nilFunc, .nilFunc, .int .i64 0, .nilFunc, .nilFunc, .int .i64 0, .nilFunc, .nilFunc, .int .i64 0, .nilFunc, .nilFunc, .int .i64 0, .nilFunc, .nilFunc, .int .i64 0, .nilFunc, .nilFunc, .int .i64 0, .nilFunc, .nilFunc, .int .i64 0] 96)).alloc (.cells #[.int .i64 1] 2)).alloc (.cells #[.int .i64 0] 2)).alloc (.cells #[.int .i64 1] 2)).alloc (.cells #[.int .i64 0] 2)).alloc (.cells #[.int .i64 0] 2)).alloc (.cells #[.int .i64 0] 2)).alloc (.cells #[.int .i64 0] 2)).alloc (.cells #[.int .i64 0] 2)).alloc (.cells #[.int .i64 1] 2)).alloc (.cells #[.int .i64 0] 2)).alloc (.cells #[.int .i64 0] 2)).alloc (.cells #[.int .i64 0] 2)).alloc (.cells #[.int .i64 1] 2)).alloc (.cells #[.int .i64 0] 2))) := by
    have := BL.out
    simp only [ruW, rulB, List.foldl] at this
    exact this
  clear BL
  go_enter Tryz.func41, Tryz.ntmps41
  go_wp2_with (first
  | (go_at_call 60; refine (AL.out _ _).mono ?_; rintro e w' ⟨rfl, rfl⟩)
  | ((with_reducible refine at_store ?_); refine step_store rfl 96 _ _ rfl w.heap.size 0 96 rul0 (rulL w.heap.size) rfl rfl BL2.out (rul_fit _) (sizeRL _) (rulL_one _) ?_; intro w2 nb2 g2))
  have n2 : Blk w.heap.size 96 (rulL w.heap.size) w2 := nb2
  refine ret_blk rfl rfl w.heap.size 96 (rulL w.heap.size) _ rfl n2 Tryz.underlying96 rfl (sizeRL _) ?_
  refine ⟨_, rfl, below_row BE.out g2 (Nat.le_refl _), rulL_len _, rulL_one _, fun l s k hl hk => rule_at w.heap.size l s hl w2 (fun i b h => ?_) k hk⟩
  exact ((CE.out i b h).grown g2 (fun e => by injection e; omega)).cell 0 _ rfl
end Go.Proofs.YtgdmkcbbomfmdaaGreatDoor

namespace Go.Proofs.YtgdmkcbbomfmdaaGreatDoor
open Go.RowKit LedM PolM

section
variable {P : Program}
/-- An entry of an array of structs that is a value. -/
theorem run_index_row (t e : TypeId) (n z : Nat) (d : TypeDesc) (cs : Array Value) (k : Nat) (hu : P.underlying t = some (.array n e)) (hk : k < n) (he : P.underlying e = some d) (hd : d.isRow = true)
    (hi : (P.info? e).map (·.size) = some z) (w : World) : (Instr.index t (.agg cs) (.int .i64 (k : Int))).run P w = .ok (.agg (cs.extract (k * z) (k * z + z))) w := by
  have hagg : (isAgg e).run P w = .ok true w := by
    unfold isAgg
    rw [Sem.run_bind, run_underlying he w]
    cases d <;> simp_all [TypeDesc.isRow]
  cases hq : P.info? e with
  | none => simp [hq] at hi
  | some i =>
    have hs : i.size = z := by simpa [hq] using hi
    simp [Instr.index, asIntOf, run_underlying hu, hk, part, sizeOf, typeInfo, hq, hs, hagg]
end
theorem sizeR1 : (Tryz.prog.info? 95).map (·.size) = some 3 := by kernel_rfl
theorem index_rule (RL : List Value) (k : Nat) (a b c : Value) (hk : k < 17) (h0 : RL[k * 3]? = some a) (h1 : RL[k * 3 + 1]? = some b) (h2 : RL[k * 3 + 2]? = some c) (w : World) :
    (Instr.index 96 (.agg RL.toArray) (.int .i64 (k : Int))).run Tryz.prog w = .ok (.agg #[a, b, c]) w := by
  rw [run_index_row 96 95 17 3 _ RL.toArray k Tryz.underlying96 hk Tryz.underlying95 rfl sizeR1 w]
  congr 2
  rw [List.extract_toArray, List.extract_eq_take_drop]
  congr 1
  have e : k * 3 + 3 - k * 3 = 3 := by omega
  rw [e]
  apply List.ext_getElem?
  intro i
  rw [List.getElem?_take]
  match i with
  | 0 => simp [List.getElem?_drop, h0]
  | 1 => simp [List.getElem?_drop, h1]
  | 2 => simp [List.getElem?_drop, h2]
  | i + 3 => simp [show ¬ i + 3 < 3 from by omega]

theorem rule_one (a b : Nat) (x y : Array Value) (t : Int) : ∀ v ∈ [Value.func (.func a) #[] x, .func (.func b) #[] y, .int .i64 t], v.oneCell' = true := fun v hv => by
  simp only [List.mem_cons, List.not_mem_nil, or_false] at hv
  rcases hv with rfl | rfl | rfl <;> rfl
theorem blk_whole {G T : Nat} {Z RL : List Value} {w : World} (hZ : Z.length ≤ 0 + RL.length) (h : Blk G T (Z.take 0 ++ RL ++ Z.drop (0 + RL.length)) w) : Blk G T RL w := by
  rw [List.take_zero, List.nil_append, List.drop_of_length_le hZ, List.append_nil] at h; exact h

set_option maxRecDepth 20000 in
set_option maxHeartbeats 4000000 in
theorem check_at (l hs : List Int) (s : Value) (w : World) (hl : l.length = 17) (hr : Rd w s (bkL hs)) (hb : hs.length ≤ 1152921504606846976) :
    Calls Tryz.prog 24 #[PV l s] w fun e w' => e = .returned (.tuple #[.int .i64 (ev (chk l hs)), .int .i64 (chk l hs : Int)]) ∧ Below w.heap.size w w' := by
  have PB := Blk.new 24 (polL l s) w
  have RA : Hid (∀ w, Calls Tryz.prog 41 #[] w fun e w' => ∃ RL : List Value, e = .returned (.agg RL.toArray) ∧ Below w.heap.size w w' ∧ RL.length = 51 ∧ (∀ v ∈ RL, v.oneCell' = true) ∧ ∀ l s k, l.length = 17 → k < 17 → Rule RL k l s w') := rules_at
  have CN : Hid (∀ n, n < 17 → (∀ j, j < n → fld l j = true) → fld l n = false → chk l hs = n + 1) := fun n hn h h' => chk_stop (by omega) (fun j hj => by rw [may, if_pos (by omega)]; exact h j hj) (by rw [may, if_pos hn]; exact h')
  have CH : Hid ((∀ j, j < 17 → fld l j = true) → chk l hs = if hol hs then 0 else 18) := fun h => by
    cases e : hol hs
    · exact chk_stop (n := 17) (by omega) (fun j hj => by rw [may, if_pos hj]; exact h j hj) (by rw [may, if_neg (by omega)]; exact e)
    · exact chk_ok fun j hj => by
        by_cases h17 : j < 17
        · rw [may, if_pos h17]; exact h j h17
        · rw [may, if_neg h17]; exact e
  show Calls _ _ #[.agg (polL l s).toArray] _ _
  have HM : Hid (∀ w', Below w.heap.size w w' → Calls Tryz.prog 42 #[s] w' fun e w'' => e = .returned (.bool (hol hs)) ∧ w'' = w') := fun w' hb' => hmb_at hs s w' (hr.later hb') hb
  have c17 := PB.cell 17 _ (polL_hol hl)
  have BP : Hid (Blk w.heap.size 24 (polL l s) (w.alloc (.cells (polL l s).toArray 24))) := PB
  have SZ : Hid ((Tryz.prog.info? 24).map (·.size) = some (polL l s).length) := by show _ = _; rw [polL_len hl]; exact sizeP
  have LN : Hid (l.length = 17) := hl
  clear PB hr hl
  go_enter Tryz.func24, Tryz.ntmps24
  go_wp2_with fail
  refine (RA.out _).mono ?_
  rintro e w1 ⟨RL, rfl, b1, rlen, rone, hrule⟩
  have B1 : Hid (Below w.heap.size w w1) := below_trans (below_alloc w _) b1
  have P1 : Hid (Blk w.heap.size 24 (polL l s) w1) := BP.out.below b1
  have RU1 : Hid (∀ k, k < 17 → Rule RL k l s w1) := fun k hk => hrule l s k LN.out hk
  have RO : Hid (∀ v ∈ RL, v.oneCell' = true) := rone
  have RN : Hid (RL.length = 51) := rlen
  have SR : Hid ((Tryz.prog.info? 96).map (·.size) = some RL.length) := by show _ = _; rw [rlen]; exact sizeR
  have FT : Hid (0 + RL.length ≤ rul0.length) := by show _ ≤ _; rw [rlen]; exact Nat.le_refl 51
  have ZL : Hid (rul0.length ≤ 0 + RL.length) := by show _ ≤ _; rw [rlen]; exact Nat.le_refl 51
  have NW : Hid (Blk w1.heap.size 96 rul0 (w1.alloc (.cells #[.nilFunc, .nilFunc, .int .i64 0, .nilFunc, .nilFunc, .int .i64 0, .nilFunc, .nilFunc, .int .i64 0, .nilFunc, .nilFunc, .int .i64 0, .nilFunc, .nilFunc, .int .i64 0, .nilFunc, .nilFunc, .int .i64 0, .nilFunc, .nilFunc, .int .i64 0, .nilFunc, .nilFunc, .int .i64 0, .nilFunc, .nilFunc, .int .i64 0, .nilFunc, .nilFunc, .int .i64 0, .nilFunc, .nilFunc, .int .i64 0, .nilFunc, .nilFunc, .int .i64 0, .nilFunc, .nilFunc, .int .i64 0, .nilFunc, .nilFunc, .int .i64 0, .nilFunc, .nilFunc, .int .i64 0, .nilFunc, .nilFunc, .int .i64 0, .nilFunc, .nilFunc, .int .i64 0] 96))) := Blk.new _ _ _
  clear b1 rlen rone hrule BP c17
  go_wp2_with (first
  | ((with_reducible refine at_store ?_); refine step_store rfl 96 _ _ rfl w1.heap.size 0 96 rul0 RL rfl rfl NW.out FT.out SR.out RO.out ?_; intro w2 nb2 g2; have NB : Hid (Blk w1.heap.size 96 RL w2) := blk_whole ZL.out nb2; clear nb2)
  | (refine step_load rfl 96 _ rfl w1.heap.size 0 rfl RL _ (Blk.all NB.out) Tryz.underlying96 rfl SR.out ?_))
  have B2 : Hid (Below w.heap.size w w2) := below_row (B1.out.alloc B1.out.size _) g2 B1.out.size
  have D12 : Hid (Below w1.heap.size w1 w2) := below_row (below_alloc w1 _) g2 (Nat.le_refl _)
  have P2 : Hid (Blk w.heap.size 24 (polL l s) w2) := P1.out.below D12.out
  have RU : Hid (∀ k, k < 17 → Rule RL k l s w2) := fun k hk => (RU1.out k hk).later D12.out
  clear RU1 P1 B1 D12 NB g2 NW ZL FT SR RO RA
  go_loopw [5, 6, 7, 10] (fun _ _ _ vk wr => ∃ k : Nat, vk = .int .i64 (k : Int) ∧ k ≤ 17 ∧ Hid (∀ j, j < k → fld l j = true) ∧ Hid (Below w2.heap.size w2 wr)) (fun _ _ _ vk _ => 17 - (intOf vk).toNat)
  case atStart => exact ⟨0, rfl, by omega, fun j hj => by omega, Below.refl _ _⟩
  case round =>
    obtain ⟨k, rfl, hk, FO, BR⟩ := hrel
    by_cases hlt : (k : Int) < 17
    · obtain ⟨Ff, cf, Ft, ct, e0, e1, e2, en0, en1, A0, A1⟩ := RU.out k (by omega)
      have ix := index_rule RL k _ _ _ (by omega) e0 e1 e2
      have CA0 : Hid (∀ w', Below w2.heap.size w2 w' → Calls Tryz.prog Ff (#[PV l s] ++ cf) w' fun e w'' => e = .returned (.int .i64 (l.getD k 0)) ∧ Below w'.heap.size w' w'') := A0
      have CA1 : Hid (∀ w', Below w2.heap.size w2 w' → Calls Tryz.prog Ft (#[PV l s] ++ ct) w' fun e w'' => e = .returned (.int .i64 (frm l k)) ∧ Below w'.heap.size w' w'') := A1 FO.out
      have ZN : Hid (Blk wr.heap.size 95 [.nilFunc, .nilFunc, .int .i64 0] (wr.alloc (.cells #[.nilFunc, .nilFunc, .int .i64 0] 95))) := Blk.new _ _ _
      have BZ : Hid (Below w2.heap.size w2 (wr.alloc (.cells #[.nilFunc, .nilFunc, .int .i64 0] 95))) := below_trans BR.out (below_alloc _ _)
      have ent0 : ∀ (args : Array Value) (w : World), Sem.run Tryz.prog (callFunc Ff args) w = .ok (.enter Ff args) w := en0
      have ent1 : ∀ (args : Array Value) (w : World), Sem.run Tryz.prog (callFunc Ft args) w = .ok (.enter Ft args) w := en1
      have FD : Hid (fld l k = decide (frm l k ≤ l.getD k 0 ∧ l.getD k 0 ≤ tov k)) := rfl
      have CK : Hid (fld l k = false → chk l hs = k + 1) := CN.out k (by omega) FO.out
      have FO' : Hid (fld l k = true → ∀ j, j < k + 1 → fld l j = true) := fun h j hj => by
        by_cases e : j = k
        · subst e; exact h
        · exact FO.out j (by omega)
      have EV : Hid (ev (k + 1) = 120) := rfl
      clear e0 e1 e2 A0 A1 en0 en1
      generalize hx : l.getD k 0 = x at *
      generalize hf : frm l k = f at *
      generalize ht : tov k = t at *
      clear hx hf ht
      go_wp2_with (first
      | ((with_reducible refine at_store ?_); refine step_store rfl 95 _ _ rfl wr.heap.size 0 95 [.nilFunc, .nilFunc, .int .i64 0] [.func (.func Ff) #[] cf, .func (.func Ft) #[] ct, .int .i64 t] rfl rfl ZN.out (Nat.le_refl _) sizeR1 (rule_one _ _ _ _ _) ?_; intro w3 nb3 g3; have N3 : Hid (Blk wr.heap.size 95 [.func (.func Ff) #[] cf, .func (.func Ft) #[] ct, .int .i64 t] w3) := nb3; have B3 : Hid (Below w2.heap.size w2 w3) := below_row BZ.out g3 BR.out.size; have P3 : Hid (Blk w.heap.size 24 (polL l s) w3) := P2.out.below B3.out; have c0 := nb3.cell 0 _ rfl; clear nb3 g3)
      | (refine step_load rfl 24 _ rfl w.heap.size 0 rfl (polL l s) _ (Blk.all P3.out) Tryz.underlying24 rfl SZ.out ?_))
      refine (CA0.out _ B3.out).mono ?_
      rintro e w4 ⟨rfl, b4⟩
      have B4 : Hid (Below w2.heap.size w2 w4) := below_trans B3.out b4
      have P4 : Hid (Blk w.heap.size 24 (polL l s) w4) := P2.out.below B4.out
      have N4 : Hid (Blk wr.heap.size 95 [.func (.func Ff) #[] cf, .func (.func Ft) #[] ct, .int .i64 t] w4) := N3.out.below b4
      have d1 := N4.out.cell 1 _ rfl
      clear b4 c0 ix
      by_cases h1 : x < f
      · go_wp2_with (first
        | (refine step_load rfl 24 _ rfl w.heap.size 0 rfl (polL l s) _ (Blk.all P4.out) Tryz.underlying24 rfl SZ.out ?_))
        refine (CA1.out _ B4.out).mono ?_
        rintro e w5 ⟨rfl, b5⟩
        have B5 : Hid (Below w2.heap.size w2 w5) := below_trans B4.out b5
        have N5 : Hid (Blk wr.heap.size 95 [.func (.func Ff) #[] cf, .func (.func Ft) #[] ct, .int .i64 t] w5) := N4.out.below b5
        have d2 := N5.out.cell 2 _ rfl
        clear b5
        go_wp2_with fail
        go_ret2
        refine ⟨?_, below_trans B2.out B5.out⟩
        rw [CK.out (by rw [FD.out]; exact decide_eq_false (by omega)), EV.out]
        rfl
      · by_cases h2 : t < x
        · go_wp2_with (first
          | (refine step_load rfl 24 _ rfl w.heap.size 0 rfl (polL l s) _ (Blk.all P4.out) Tryz.underlying24 rfl SZ.out ?_))
          refine (CA1.out _ B4.out).mono ?_
          rintro e w5 ⟨rfl, b5⟩
          have B5 : Hid (Below w2.heap.size w2 w5) := below_trans B4.out b5
          have N5 : Hid (Blk wr.heap.size 95 [.func (.func Ff) #[] cf, .func (.func Ft) #[] ct, .int .i64 t] w5) := N4.out.below b5
          have d2 := N5.out.cell 2 _ rfl
          clear b5
          go_wp2_with fail
          go_ret2
          refine ⟨?_, below_trans B2.out B5.out⟩
          rw [CK.out (by rw [FD.out]; exact decide_eq_false (by omega)), EV.out]
          rfl
        · go_wp2_with (first
          | (refine step_load rfl 24 _ rfl w.heap.size 0 rfl (polL l s) _ (Blk.all P4.out) Tryz.underlying24 rfl SZ.out ?_))
          refine (CA1.out _ B4.out).mono ?_
          rintro e w5 ⟨rfl, b5⟩
          have B5 : Hid (Below w2.heap.size w2 w5) := below_trans B4.out b5
          have N5 : Hid (Blk wr.heap.size 95 [.func (.func Ff) #[] cf, .func (.func Ft) #[] ct, .int .i64 t] w5) := N4.out.below b5
          have d2 := N5.out.cell 2 _ rfl
          clear b5
          go_wp2_with fail
          go_roundw
          case rel => exact ⟨k + 1, by go_num, by omega, FO'.out (by rw [FD.out]; exact decide_eq_true ⟨by omega, by omega⟩), B5.out⟩
          case measure => simp [intOf]; omega
    · obtain rfl : k = 17 := by omega
      have CE := CH.out FO.out
      have B5 : Hid (Below w.heap.size w wr) := below_trans B2.out BR.out
      have HM' : Hid (Calls Tryz.prog 42 #[s] wr fun e w'' => e = .returned (.bool (hol hs)) ∧ w'' = wr) := HM.out wr B5.out
      have d17 := (P2.out.below BR.out).cell 17 _ (polL_hol LN.out)
      have CC : Hid (chk l hs = if hol hs then 0 else 18) := CE
      clear CE
      generalize hol hs = hb at *
      cases hb
      · go_wp2_with fail
        refine HM'.out.mono ?_
        rintro e w5 ⟨rfl, rfl⟩
        go_wp2_with fail
        go_ret2
        refine ⟨?_, B5.out⟩
        rw [CC.out]
        rfl
      · go_wp2_with fail
        refine HM'.out.mono ?_
        rintro e w5 ⟨rfl, rfl⟩
        go_wp2_with fail
        go_ret2
        refine ⟨?_, B5.out⟩
        rw [CC.out]
        rfl

end Go.Proofs.YtgdmkcbbomfmdaaGreatDoor
