/-
  Ours: the reference's Out.record of an operation.
-/
import Derived.Test.YtbghoogkmdnmpaaWirEncR
namespace Go.Proofs.Ytbghoogkmdnmpaa
open Go.RowKit

set_option maxRecDepth 20000 in
set_option maxHeartbeats 2000000 in
theorem outRecord1_at (K : Nat → Prop) (R base : Nat) (bs : List Nat) (o : OpV) (ok : o.Ok) (hm : fmask o.kind ≠ none) (va : Value) (w : World) (h : OutS K R base bs w) (hl : bs.length ≤ 700000000000) :
    Calls Try.prog 69 #[.pointer (some ⟨R, 0, none⟩), recV 1 o va] w fun e w' => e = .returned (.tuple #[]) ∧ OutS K R base (bs ++ (put 1 ++ opL o)) w' ∧ Fr K base w w' := by
  obtain ⟨i0, hi, hz0, hz1, hz2⟩ := info_parts infoB
  have p1 : put 1 = [1] := by rw [put]; simp
  have OP : Hid (∀ K w, OutS K R base (bs ++ [1]) w → Calls Try.prog 93 #[.pointer (some ⟨R, 0, none⟩), opV o] w fun e w' => e = .returned (.tuple #[]) ∧ OutS K R base (bs ++ (put 1 ++ opL o)) w' ∧ Fr K base w w') := fun K w h => by
    refine (outOp_at K R base _ o ok hm w h (by simp; omega)).mono ?_
    rintro e w2 ⟨rfl, h1, h2⟩
    exact ⟨rfl, by rw [p1, ← List.append_assoc]; exact h1, h2⟩
  have l1 : (bs.map bv).length + 1 ≤ maxLen := by rw [List.length_map]; unfold maxLen; omega
  have l2 : ((bs.map bv).length + 1) * 1 ≤ 140737488355328 := by rw [List.length_map]; omega
  obtain ⟨f0, f1, f2, f3, f4, f5, f6⟩ := o
  generalize put 1 ++ opL ⟨f0, f1, f2, f3, f4, f5, f6⟩ = T at *
  unfold opV at OP
  unfold recV
  simp only at *
  have BA := below_alloc w (.cells #[.int .i64 1, .int .i64 f0, .int .i64 f1, .int .i64 f2, .int .i64 f3, .int .i64 f4, .int .i64 f5, .string f6, va] 26)
  have BX := Blk.new 26 [.int .i64 1, .int .i64 f0, .int .i64 f1, .int .i64 f2, .int .i64 f3, .int .i64 f4, .int .i64 f5, .string f6, va] w
  have h0 := h.later BA
  have FR0 := h.fr BA
  have OW := h.own BA
  have hR := h.lt
  clear h hl hm ok p1
  go_enter Try.func69, Try.ntmps69
  go_wp2_with fail
  obtain ⟨X, hX⟩ : ∃ X, w.heap.size = X := ⟨_, rfl⟩
  rw [hX] at BX OW hR ⊢
  generalize w.alloc (.cells #[.int .i64 1, .int .i64 f0, .int .i64 f1, .int .i64 f2, .int .i64 f3, .int .i64 f4, .int .i64 f5, .string f6, va] 26) = W0 at *
  have O0 : OutS (fun g => K g ∨ g = X) R base bs W0 := h0.more _ fun g hg => by
    rcases hg with hg | rfl
    · exact .inl hg
    · exact .inr ⟨BX.lt, by omega, fun v hv e => by have := OW v hv _ e; omega⟩
  obtain ⟨v, cv, rv, av⟩ := O0.row
  have fv := O0.fz
  have ltR := O0.lt
  have ltX := BX.lt
  have cX0 := BX.cell 0 _ rfl
  have HO : Hid (OutS (fun g => K g ∨ g = X) R base bs W0) := O0
  have bz : base ≤ W0.heap.size := Nat.le_of_lt (Nat.lt_of_le_of_lt O0.ge O0.lt)
  obtain ⟨N, hN⟩ : ∃ N, (bs.map bv).length = N := ⟨_, rfl⟩
  have HN : Hid ((bs.map bv).length = N) := hN
  have RV : Hid (W0.ownsRow base 5 1 v N (bs.map bv)) := by show World.ownsRow _ _ _ _ _ _ _; rw [← hN]; exact rv
  have RW : Hid ((W0.alloc (.cells #[.int .u8 1] 5)).drew.ownsRow base 5 1 v N (bs.map bv)) := by show World.ownsRow _ _ _ _ _ _ _; exact World.ownsRow.alloc RV.out _
  have NW : Hid (∀ j u, [bv 1][j]? = some u → (W0.alloc (.cells #[.int .u8 1] 5)).drew.cell? ((⟨W0.heap.size, 0, none⟩ : Addr).add j) = some u) := World.news_of_block (cs := #[.int .u8 1]) (t := 5) (fr := (0, 0)) (MapKept.heap_alloc W0 _).1
  have BB := below_alloc W0 (.cells #[.int .u8 1] 5)
  have BD : Hid (Below W0.heap.size W0 (W0.alloc (.cells #[.int .u8 1] 5)).drew) := ⟨BB.os, BB.tape, BB.output, BB.size, BB.block⟩
  rw [hN] at l1 l2
  have HX : Hid (Blk X 26 [.int .i64 1, .int .i64 f0, .int .i64 f1, .int .i64 f2, .int .i64 f3, .int .i64 f4, .int .i64 f5, .string f6, va] W0) := BX
  clear h0 rv av hN BB OW O0 BX
  go_region_law (refine step_append_lies _ rfl (.tmp 9) (.tmp 13) 27 rfl base 5 i0 (.int .u8 0) 1 1 underB hi hz0 hz1 hz2 rfl (by decide) v N _ (by simp [Act.eval]) RW.out ⟨W0.heap.size, 0, none⟩ 1 1 [bv 1] (by simp [Act.eval]) rfl NW.out (fun u hu => by simp at hu; subst hu; rfl) (by decide) l1 l2 (by simp; omega) (W0.heap.size + 1) (by simp) ?_; intro g cp w2 hown hgrow hat hlt2; have PP := OutS.push HO.out cv BD.out (rowB_of hown HN.out) hgrow (hat.imp id (fun e => by omega)); obtain ⟨p1, p2, c2, f2⟩ := PP; have P1 : Hid (OutS (fun g => K g ∨ g = X) R base (bs ++ [1]) (w2.setCell ⟨R, 0, none⟩ (.slice (some ⟨g, 0, none⟩) (N + 1) cp))) := p1; have P2 : Hid (Fr (fun g => K g ∨ g = X) base W0 (w2.setCell ⟨R, 0, none⟩ (.slice (some ⟨g, 0, none⟩) (N + 1) cp))) := p2; clear p1 p2 hown hgrow hat)
  all_goals
    have bx := Blk.fr HX.out P2.out (.inr rfl)
    generalize w2.setCell ⟨R, 0, none⟩ (.slice (some ⟨g, 0, none⟩) (N + 1) cp) = W2 at *
    have x0 := bx.cell 0 _ rfl
    have x1 := bx.cell 1 _ rfl
    have x2 := bx.cell 2 _ rfl
    have x3 := bx.cell 3 _ rfl
    have x4 := bx.cell 4 _ rfl
    have x5 := bx.cell 5 _ rfl
    have x6 := bx.cell 6 _ rfl
    have x7 := bx.cell 7 _ rfl
    go_wp2_with fail
    refine (OP.out _ _ P1.out).mono ?_
    rintro e w3 ⟨rfl, o3, g3⟩
    have O3 : Hid (OutS K R base (bs ++ T) w3) := o3.fewer fun g hg => .inl hg
    have G3 : Hid (Fr K base w w3) := FR0.trans ((P2.out.trans g3).less fun g hg => .inl hg)
    clear o3 g3
    go_wp2_with fail
    refine bodyPost_ret_by (results_none rfl _ _ _) rfl ?_
    exact ⟨rfl, O3.out, G3.out⟩
end Go.Proofs.Ytbghoogkmdnmpaa
