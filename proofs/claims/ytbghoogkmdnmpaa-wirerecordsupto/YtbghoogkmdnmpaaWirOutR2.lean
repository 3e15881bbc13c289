/-
  Ours: the reference's Out.record of acknowledgements.
-/
import Derived.Test.YtbghoogkmdnmpaaWirOutR1
namespace Go.Proofs.Ytbghoogkmdnmpaa
open Go.RowKit

set_option maxRecDepth 20000 in
set_option maxHeartbeats 2000000 in
theorem outRecord2_at (K : Nat → Prop) (R base : Nat) (bs : List Nat) (o : OpV) (xs : List Int) (hx : I64s xs) (va : Value) (w : World) (h : OutS K R base bs w) (hl : bs.length ≤ 700000000000) (hxl : xs.length ≤ 1000000000) (hr : ∀ w', Below base w w' → RdI w' va xs) :
    Calls Try.prog 69 #[.pointer (some ⟨R, 0, none⟩), recV 2 o va] w fun e w' => e = .returned (.tuple #[]) ∧ OutS K R base (bs ++ (put 2 ++ putL xs)) w' ∧ Fr K base w w' := by
  obtain ⟨i0, hi, hz0, hz1, hz2⟩ := info_parts infoB
  have p1 : put 2 = [2] := by rw [put]; simp
  obtain ⟨ao, cap, ev, -, -⟩ := (hr w (Below.refl _ _)).len
  obtain ⟨L, hL⟩ : ∃ L, xs.length = L := ⟨_, rfl⟩
  rw [List.length_map, hL] at ev
  subst ev
  have HH : Hid (∀ w', Below base w w' → ∀ i, i < L → ∃ g o, ao = some ⟨g, o, none⟩ ∧ w'.cell? ⟨g, o + i, none⟩ = some (.int .i64 (xs.getD i 0)) ∧ putFs (xs.take (i + 1)) = putFs (xs.take i) ++ putI (xs.getD i 0) ∧ I64 (xs.getD i 0)) := fun w' hb i hi => by
    obtain ⟨ao', cap', e, _, _, H⟩ := hr w' hb
    cases e
    obtain ⟨g, o, e1, lt, e2⟩ := H i (by rw [List.length_map]; omega)
    refine ⟨g, o, e1, ?_, putFs_step xs i (by omega), ?_⟩
    · rw [e2, List.getElem_map, List.getD_eq_getElem?_getD, List.getElem?_eq_getElem (by omega)]; rfl
    · rw [List.getD_eq_getElem?_getD, List.getElem?_eq_getElem (by omega)]; exact hx _ (List.getElem_mem _)
  have LN : Hid (∀ k, k ≤ L → (bs ++ [2] ++ put L ++ putFs (xs.take k)).length ≤ 900000000000) := fun k hk => by
    have h1 := put_len10 L (by omega)
    have h2 := putFs_len _ (hx.take k)
    rw [List.length_take] at h2
    simp only [List.length_append, List.length_cons, List.length_nil]
    omega
  have PF : Hid (bs ++ [2] ++ put L ++ putFs (xs.take L) = bs ++ (put 2 ++ putL xs)) := by
    show _ = _
    rw [List.take_of_length_le (by omega), p1]; unfold putL; rw [hL]; simp
  have CO : Hid (∀ K w, OutS K R base (bs ++ [2]) w → Calls Try.prog 94 #[.pointer (some ⟨R, 0, none⟩), .int .i64 (L : Int)] w fun e w' => e = .returned (.tuple #[]) ∧ OutS K R base (bs ++ [2] ++ put L) w' ∧ Fr K base w w') := fun K w h => outCount_at K R base _ L (by omega) w h (by simp; omega)
  have hl' : L ≤ 1000000000 := by omega
  have l1 : (bs.map bv).length + 1 ≤ maxLen := by rw [List.length_map]; unfold maxLen; omega
  have l2 : ((bs.map bv).length + 1) * 1 ≤ 140737488355328 := by rw [List.length_map]; omega
  obtain ⟨f0, f1, f2, f3, f4, f5, f6⟩ := o
  unfold recV
  simp only
  have BA := below_alloc w (.cells #[.int .i64 2, .int .i64 f0, .int .i64 f1, .int .i64 f2, .int .i64 f3, .int .i64 f4, .int .i64 f5, .string f6, .slice ao L cap] 26)
  have BX := Blk.new 26 [.int .i64 2, .int .i64 f0, .int .i64 f1, .int .i64 f2, .int .i64 f3, .int .i64 f4, .int .i64 f5, .string f6, .slice ao L cap] w
  have h0 := h.later BA
  have FR0 := h.fr BA
  have OW := h.own BA
  have hR := h.lt
  clear h hl hr hx hxl hL p1
  go_enter Try.func69, Try.ntmps69
  go_wp2_with fail
  obtain ⟨X, hX⟩ : ∃ X, w.heap.size = X := ⟨_, rfl⟩
  rw [hX] at BX OW hR ⊢
  generalize w.alloc (.cells #[.int .i64 2, .int .i64 f0, .int .i64 f1, .int .i64 f2, .int .i64 f3, .int .i64 f4, .int .i64 f5, .string f6, .slice ao L cap] 26) = W0 at *
  have O0 : OutS (fun g => K g ∨ g = X) R base bs W0 := h0.more _ fun g hg => by
    rcases hg with hg | rfl
    · exact .inl hg
    · exact .inr ⟨BX.lt, by omega, fun v hv e => by have := OW v hv _ e; omega⟩
  obtain ⟨v, cv, rv, av⟩ := O0.row
  have fv := O0.fz
  have ltR := O0.lt
  have ltX := BX.lt
  have cX0 := BX.cell 0 _ rfl
  have HO : Hid (OutS (fun g => K g ∨ g = X) R base bs W0) := O0
  have bz : base ≤ W0.heap.size := Nat.le_of_lt (Nat.lt_of_le_of_lt O0.ge O0.lt)
  obtain ⟨N, hN⟩ : ∃ N, (bs.map bv).length = N := ⟨_, rfl⟩
  have HN : Hid ((bs.map bv).length = N) := hN
  have RV : Hid (W0.ownsRow base 5 1 v N (bs.map bv)) := by show World.ownsRow _ _ _ _ _ _ _; rw [← hN]; exact rv
  have RW : Hid ((W0.alloc (.cells #[.int .u8 2] 5)).drew.ownsRow base 5 1 v N (bs.map bv)) := by show World.ownsRow _ _ _ _ _ _ _; exact World.ownsRow.alloc RV.out _
  have NW : Hid (∀ j u, [bv 2][j]? = some u → (W0.alloc (.cells #[.int .u8 2] 5)).drew.cell? ((⟨W0.heap.size, 0, none⟩ : Addr).add j) = some u) := World.news_of_block (cs := #[.int .u8 2]) (t := 5) (fr := (0, 0)) (MapKept.heap_alloc W0 _).1
  have BB := below_alloc W0 (.cells #[.int .u8 2] 5)
  have BD : Hid (Below W0.heap.size W0 (W0.alloc (.cells #[.int .u8 2] 5)).drew) := ⟨BB.os, BB.tape, BB.output, BB.size, BB.block⟩
  rw [hN] at l1 l2
  have HX : Hid (Blk X 26 [.int .i64 2, .int .i64 f0, .int .i64 f1, .int .i64 f2, .int .i64 f3, .int .i64 f4, .int .i64 f5, .string f6, .slice ao L cap] W0) := BX
  clear h0 rv av hN BB OW O0 BX
  go_region_law (refine step_append_lies _ rfl (.tmp 9) (.tmp 13) 27 rfl base 5 i0 (.int .u8 0) 1 1 underB hi hz0 hz1 hz2 rfl (by decide) v N _ (by simp [Act.eval]) RW.out ⟨W0.heap.size, 0, none⟩ 1 1 [bv 2] (by simp [Act.eval]) rfl NW.out (fun u hu => by simp at hu; subst hu; rfl) (by decide) l1 l2 (by simp; omega) (W0.heap.size + 1) (by simp) ?_; intro g cp w2 hown hgrow hat hlt2; have PP := OutS.push HO.out cv BD.out (rowB_of hown HN.out) hgrow (hat.imp id (fun e => by omega)); obtain ⟨p1, p2, c2, f2⟩ := PP; have P1 : Hid (OutS (fun g => K g ∨ g = X) R base (bs ++ [2]) (w2.setCell ⟨R, 0, none⟩ (.slice (some ⟨g, 0, none⟩) (N + 1) cp))) := p1; have P2 : Hid (Fr (fun g => K g ∨ g = X) base W0 (w2.setCell ⟨R, 0, none⟩ (.slice (some ⟨g, 0, none⟩) (N + 1) cp))) := p2; clear p1 p2 hown hgrow hat)
  all_goals
    have bx := Blk.fr HX.out P2.out (.inr rfl)
    generalize w2.setCell ⟨R, 0, none⟩ (.slice (some ⟨g, 0, none⟩) (N + 1) cp) = W2 at *
    have x0 := bx.cell 0 _ rfl
    have x8 := bx.cell 8 _ rfl
    go_wp2_with fail
    refine (CO.out _ _ P1.out).mono ?_
    rintro e w3 ⟨rfl, o3, g3⟩
    have O3 : Hid (OutS (fun g => K g ∨ g = X) R base (bs ++ [2] ++ put L) w3) := o3
    have G3 : Hid (Fr (fun g => K g ∨ g = X) base W0 w3) := P2.out.trans g3
    clear o3 g3 x0 x8 bx
    go_wp2_with fail
    go_loopw [4] (fun vk wr => ∃ k : Nat, vk = .int .i64 (k : Int) ∧ k ≤ L ∧ OutS (fun g => K g ∨ g = X) R base (bs ++ [2] ++ put L ++ putFs (xs.take k)) wr ∧ Fr (fun g => K g ∨ g = X) base W0 wr) (fun vk _ => L - (intOf vk).toNat)
    case atStart => exact ⟨0, rfl, by omega, by simpa [putFs] using O3.out, G3.out⟩
    case round =>
      obtain ⟨k, rfl, hk, ho, hf⟩ := hrel
      have bx := Blk.fr HX.out hf (.inr rfl)
      have x8 := bx.cell 8 _ rfl
      have FW : Hid (Fr K base w wr) := FR0.trans (hf.less fun g hg => .inl hg)
      by_cases hlt : (k : Int) < (L : Int)
      · obtain ⟨g2, o2, rfl, cc, ct, xb⟩ := HH.out wr FW.out.below k (by omega)
        have CT : Hid (putFs (xs.take (k + 1)) = putFs (xs.take k) ++ putI (xs.getD k 0)) := ct
        have NU : Hid (Calls Try.prog 95 #[.pointer (some ⟨R, 0, none⟩), .int .i64 (xs.getD k 0)] wr fun e w' => e = .returned (.tuple #[]) ∧ OutS (fun g => K g ∨ g = X) R base (bs ++ [2] ++ put L ++ putFs (xs.take k) ++ putI (xs.getD k 0)) w' ∧ Fr (fun g => K g ∨ g = X) base wr w') := outN_at _ R base _ _ xb wr ho (LN.out k hk)
        have HF : Hid (Fr (fun g => K g ∨ g = X) base W0 wr) := hf
        clear ct xb ho hf bx
        generalize xs.getD k 0 = x at *
        go_wp2_with fail
        refine NU.out.mono ?_
        rintro e w4 ⟨rfl, o4, g4⟩
        go_wp2_with fail
        go_roundw
        case rel =>
          refine ⟨k + 1, by go_num, by omega, ?_, HF.out.trans g4⟩
          rw [CT.out, ← List.append_assoc]; exact o4
        case measure => simp [intOf]; omega
      · obtain rfl : k = L := by omega
        rw [PF.out] at ho
        go_wp2_with fail
        go_end0
        exact ⟨rfl, ho.fewer fun g hg => .inl hg, FW.out⟩
end Go.Proofs.Ytbghoogkmdnmpaa
