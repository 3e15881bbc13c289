/-
  Ours: the law MoneySplits walked.
-/
import Derived.Test.YtfdahdloihgjeacDoorSplitLaw1
import Derived.Test.YtfdahdloihgjeacDoorRefSplit2
namespace Go.Proofs.YtfdahdloihgjeacDoor
open Go.RowKit Stable Spl

set_option maxRecDepth 100000 in
set_option maxHeartbeats 4000000 in
theorem splits_long (a : Option Addr) (len cap : Nat) (T : Int) (w : World) (h : 4096 < len) (hl : len ≤ 9223372036854775807) :
    Calls Tryd.prog 11 #[.int .i64 T, .slice a len cap] w fun e w' => e = .returned (.bool true) ∧ Below w.heap.size w w' := by
  have h' : (4096 : Int) < (len : Int) := by omega
  go_enter Tryd.func11, Tryd.ntmps11
  go_wp2_with fail
  go_ret
  exact ⟨rfl, Below.refl _ _⟩

set_option maxRecDepth 100000 in
set_option maxHeartbeats 4000000 in
theorem two_push {P : Program} {wr : World} {ops : Array Oper} {rest : List Oper} {o : Oper} {a : Act} {Q : Exit → Act → World → Prop} (hgd : o.guard = none) (s x : Operand) (t : TypeId)
    (ho : o.op = .call { callee := .builtin .append, args := #[s, x], argTypes := #[t, t] })
    (e : TypeId) (i : TypeInfo) (ht : P.underlying t = some (.slice e)) (hi : P.info? e = some i) (hz : i.zero = some (.int .i64 0)) (hsize : i.size = 1) (hby : i.bytes = 8)
    (B : Nat) (w : World) (v : Value) (xs : List Int) (y z : Int) (hs : a.eval s = v) (hown : Row e B wr v xs) (hnx : Below B w wr) (hsz : B ≤ wr.heap.size)
    (hx : a.eval x = .slice (some ⟨wr.heap.size, 0, none⟩) 2 2) (hl : xs.length < 1099511627776)
    (h : ∀ gf cf w', B ≤ gf → gf < w'.heap.size → xs.length + 2 ≤ cf → cf ≤ maxLen → (∀ i, i < xs.length → w'.cell? ⟨gf, i, none⟩ = some (.int .i64 (xs.getD i 0))) → w'.cell? ⟨gf, xs.length, none⟩ = some (.int .i64 y) → w'.cell? ⟨gf, xs.length + 1, none⟩ = some (.int .i64 z) → Below B w w' → wpList P ops Q rest (a.put o.dst (.slice (some ⟨gf, 0, none⟩) (xs.length + 2) cf)) w') :
    wpList P ops Q (o :: rest) a (wr.alloc (.cells #[.int .i64 y, .int .i64 z] e)) := by
  refine wpList_append_own _ hgd s x t ho B e i (.int .i64 0) 1 8 ht hi hz hsize hby rfl (by decide) v xs.length (xs.map (Value.int .i64)) hs (World.ownsRow.alloc hown _) ⟨wr.heap.size, 0, none⟩ 2 2 [.int .i64 y, .int .i64 z] hx rfl ?_ ?_ ?_ ?_ ?_ ?_
  · intro j u hj
    match j, hj with
    | 0, hj => simp at hj; subst hj; simp [Addr.add]
    | 1, hj => simp at hj; subst hj; simp [Addr.add]
  · intro u hu; simp at hu; rcases hu with rfl | rfl <;> rfl
  · unfold maxLen; omega
  · omega
  · simp; omega
  · intro v' w' hown' hgrow _
    have bel : Below B w w' := (hnx.alloc (by omega) _).grown hgrow (by simp; omega) (fun j hj => by have := (hown.lt j hj).1; omega)
    have r2 : Row e B w' v' (xs ++ [y, z]) := by simpa [Row] using hown'
    obtain ⟨gf, cf, rfl, bf, lf, hcf, mcf, cellf, _⟩ := r2.arr (by simp)
    have lm : (xs ++ [y, z]).length = xs.length + 2 := by simp
    rw [lm] at hcf cellf ⊢
    refine h gf cf w' bf lf hcf mcf (fun i hi => ?_) ?_ ?_ bel
    · rw [cellf i (by omega)]; simp [List.getD_eq_getElem?_getD, List.getElem?_append_left hi]
    · rw [cellf _ (by omega)]; simp [List.getD_eq_getElem?_getD]
    · rw [cellf _ (by omega)]; simp [List.getD_eq_getElem?_getD]

set_option maxRecDepth 100000 in
set_option maxHeartbeats 4000000 in
theorem splits_full (ws : List Int) (g o cap : Nat) (T : Int) (w : World) (hx : I64 ws) (h0 : 0 < ws.length) (hl : ws.length ≤ 4096) (hcap : ws.length ≤ cap) (hg : g < w.heap.size) (t0 : -9223372036854775808 ≤ T) (t1 : T ≤ 9223372036854775807)
    (hc : ∀ i, i < ws.length → w.cell? ⟨g, o + i, none⟩ = some (.int .i64 (ws.getD i 0))) :
    Calls Tryd.prog 11 #[.int .i64 T, .slice (some ⟨g, o, none⟩) ws.length cap] w fun e w' => e = .returned (.bool true) ∧ Below w.heap.size w w' := by
  obtain ⟨i0, hi, hz0, hz1, hz2⟩ := info_parts Tryd.info2
  have RD : Hid (Reads w (.slice (some ⟨g, o, none⟩) ws.length cap) ws) := .inr ⟨h0, g, o, cap, rfl, hcap, hg, hc⟩
  have HX : Hid (I64 ws) := hx
  have HC : Hid (∀ i, i < ws.length → w.cell? ⟨g, o + i, none⟩ = some (.int .i64 (ws.getD i 0))) := hc
  have CP : Hid (∀ w, ∀ v, Reads w v ws → Calls Tryd.prog 14 #[v] w fun e w' => ∃ v', e = .returned v' ∧ Row 2 w.heap.size w' v' ws ∧ Below w.heap.size w w') := fun w v h => copied_reads h (by omega)
  clear hc hx
  go_enter Tryd.func11, Tryd.ntmps11
  go_wp2_with fail
  refine (CP.out _ _ RD.out).mono ?_
  rintro e w1 ⟨v1, rfl, r1, b1⟩
  have bz := b1.size
  have ll : ws.length < 1099511627776 := by omega
  go_wp2_with (at_builtin; refine two_push rfl (.tmp 15) (.tmp 16) 25 rfl 2 i0 Tryd.underlying25 hi hz0 hz1 hz2 w.heap.size w _ _ _ _ rfl r1 b1 bz rfl ll ?_; intro gf cf w2 bf lf hcf mcf cellf c901 c902 b2)
  have CF : Hid (∀ i, i < ws.length → w2.cell? ⟨gf, i, none⟩ = some (.int .i64 (ws.getD i 0))) := cellf
  have RG : Hid (Reads w2 (.slice (some ⟨gf, 0, none⟩) ws.length cf) ws) := .inr ⟨h0, gf, 0, cf, rfl, by omega, lf, fun i hi => by rw [Nat.zero_add]; exact cellf i hi⟩
  have RW : Hid (∀ w', Below w.heap.size w w' → Reads w' (.slice (some ⟨g, o, none⟩) ws.length cap) ws) := fun w' b => RD.out.later b
  have SA : Hid (Calls Tryd.prog 15 #[.int .i64 T, .slice (some ⟨gf, 0, none⟩) ws.length cf] w2 (SplitAns T ws w2)) := split_ans RG.out HX.out (by omega) t0 t1
  clear r1 b1 cellf RD CP
  have mc : cf ≤ 9223372036854775807 := by unfold maxLen at mcf; omega
  clear mcf
  have e1 : ¬ (cf : Int) < (ws.length : Int) := by omega
  have G : Hid (∀ w', Below w2.heap.size w2 w' → ∀ m, Calls Tryd.prog 18 #[.slice (some ⟨gf, 0, none⟩) ws.length cf, .slice (some ⟨g, o, none⟩) ws.length cap] (w'.drewN m) fun e w'' => e = .returned (.bool true) ∧ ∃ n, w'' = (w'.drewN m).drewN n) := fun w' b m =>
    same_reads (RG.out.later ⟨b.os, b.tape, b.output, b.size, b.block⟩) (RW.out _ (b2.trans (by have := b.mono b2.size; exact ⟨this.os, this.tape, this.output, this.size, this.block⟩))) (by omega)
  have C1 : Hid (∀ w', Below w2.heap.size w2 w' → w'.cell? ⟨gf, ws.length, none⟩ = some (.int .i64 901)) := fun w' b => (b.cell (p := ⟨gf, ws.length, none⟩) lf).trans c901
  have C2 : Hid (∀ w', Below w2.heap.size w2 w' → w'.cell? ⟨gf, ws.length + 1, none⟩ = some (.int .i64 902)) := fun w' b => (b.cell (p := ⟨gf, ws.length + 1, none⟩) lf).trans c902
  go_wp2_with fail
  refine SA.out.mono ?_
  rintro e w3 (⟨rfl, hw, no⟩ | ⟨gp, f, rfl, hgp, hb3, sh, ic, _, l1000, T0, ad⟩)
  · rw [hw]; clear hw w3
    have RR : Hid (Calls Tryd.prog 16 #[.int .i64 T, .slice (some ⟨g, o, none⟩) ws.length cap] w2 fun e w' => e = .returned (.tuple #[.slice none 0 0, .bool false]) ∧ w' = w2) := rsplit_refused (RW.out w2 b2) HX.out (by omega) no
    clear no
    go_wp2_with fail
    refine RR.out.mono ?_
    rintro e w4 ⟨rfl, hw⟩; rw [hw]; clear hw w4
    have GG := G.out w2 (Below.refl _ _)
    go_wp2_with fail
    refine (same_empty none none 0 0 _).mono ?_
    rintro e w4 ⟨rfl, n1, hw⟩; rw [hw]; clear hw w4
    go_wp2_with fail
    refine (GG n1).mono ?_
    rintro e w4 ⟨rfl, n2, hw⟩; rw [hw]; clear hw w4
    clear G C1 C2
    go_wp2_with fail
    go_ret
    exact ⟨rfl, ⟨b2.os, b2.tape, b2.output, b2.size, b2.block⟩⟩
  · have b3 : Below w.heap.size w w3 := b2.trans (hb3.mono b2.size)
    have hg3 := Nat.lt_of_lt_of_le hg b3.size
    have tw : total ws ≤ 9223372036854775807 := by
      have g2 := of_decide_eq_true (show decide _ = true from ad)
      have sm := of_decide_eq_true (show decide _ = true from g2.2.2.1)
      exact sm.2
    have RR : Hid (Calls Tryd.prog 16 #[.int .i64 T, .slice (some ⟨g, o, none⟩) ws.length cap] w3 (RefSplitAns ws.length (prt T (total ws) (fun i => ws.getD i 0) ws.length f) w3)) := rsplit_yes T (total ws) ws f g o cap w3 HX.out h0 l1000 hg3 T0 t1 (fun i hi => (b3.cell (p := ⟨g, o + i, none⟩) hg).trans (HC.out i hi)) ad rfl tw sh
    clear sh ad tw
    go_wp2_with fail
    refine RR.out.mono ?_
    rintro e w4 ⟨gq, cq, rfl, hcq, b4, ic4, _⟩
    have bb : Below w2.heap.size w2 w4 := hb3.trans (b4.mono hb3.size)
    have bw : Below w.heap.size w w4 := b3.trans (b4.mono b3.size)
    have ic3 : IC gp ws.length w4 (prt T (total ws) (fun i => ws.getD i 0) ws.length f) := ic.other (b4.block gp ic.lt)
    have S1 : Hid (Calls Tryd.prog 18 #[.slice (some ⟨gp, 0, none⟩) ws.length ws.length, .slice (some ⟨gq, 0, none⟩) ws.length cq] w4 fun e w' => e = .returned (.bool true) ∧ ∃ n, w' = w4.drewN n) := same_reads (ic3.reads h0 (Nat.le_refl _)) (ic4.reads h0 hcq) (by rw [lst_length]; omega)
    have GG := G.out w4 bb
    have d1 := C1.out w4 bb
    have d2 := C2.out w4 bb
    clear G C1 C2 c901 c902 ic ic3 ic4 RR b4 bb hb3 b3
    go_wp2_with fail
    refine S1.out.mono ?_
    rintro e w5 ⟨rfl, n1, hw⟩; rw [hw]; clear hw w5
    go_wp2_with fail
    refine (GG n1).mono ?_
    rintro e w5 ⟨rfl, n2, hw⟩; rw [hw]; clear hw w5
    go_wp2_with fail
    go_ret
    exact ⟨rfl, ⟨bw.os, bw.tape, bw.output, bw.size, bw.block⟩⟩

set_option maxRecDepth 100000 in
set_option maxHeartbeats 4000000 in
theorem splits_empty (a : Option Addr) (cap : Nat) (T : Int) (w : World) (t0 : -9223372036854775808 ≤ T) (t1 : T ≤ 9223372036854775807) :
    Calls Tryd.prog 11 #[.int .i64 T, .slice a 0 cap] w fun e w' => e = .returned (.bool true) ∧ Below w.heap.size w w' := by
  obtain ⟨i0, hi, hz0, hz1, hz2⟩ := info_parts Tryd.info2
  have hx : I64 [] := fun i => by simp
  have no : ¬ (0 ≤ T ∧ adOk [] = true) := fun h => by have : adOk [] = false := by decide
                                                      rw [this] at h; cases h.2
  have RD : Hid (∀ w, Reads w (.slice a 0 cap) []) := fun w => .inl ⟨rfl, a, cap, rfl⟩
  have CP : Hid (∀ w, Calls Tryd.prog 14 #[.slice a 0 cap] w fun e w' => ∃ v', e = .returned v' ∧ Row 2 w.heap.size w' v' [] ∧ Below w.heap.size w w') := fun w => copied_reads (RD.out w) (by decide)
  have SA : Hid (∀ (gf cf : Nat) (w : World), Calls Tryd.prog 15 #[.int .i64 T, .slice (some ⟨gf, 0, none⟩) 0 cf] w fun e w' => e = .returned (.tuple #[.slice none 0 0, .bool false]) ∧ w' = w) := fun gf cf w => (split_ans (ws := []) (.inl ⟨rfl, _, _, rfl⟩) hx (by decide) t0 t1).mono fun e w' h => by
    rcases h with ⟨he, hw, _⟩ | ⟨_, _, _, _, _, _, _, h0, _⟩
    · exact ⟨he, hw⟩
    · exact absurd h0 (by decide)
  have RR : Hid (∀ w, Calls Tryd.prog 16 #[.int .i64 T, .slice a 0 cap] w fun e w' => e = .returned (.tuple #[.slice none 0 0, .bool false]) ∧ w' = w) := fun w => rsplit_refused (RD.out w) hx (by decide) no
  clear hx no
  go_enter Tryd.func11, Tryd.ntmps11
  go_wp2_with fail
  refine (CP.out _).mono ?_
  rintro e w1 ⟨v1, rfl, r1, b1⟩
  have bz := b1.size
  have ll : ([] : List Int).length < 1099511627776 := by decide
  go_wp2_with (at_builtin; refine two_push rfl (.tmp 15) (.tmp 16) 25 rfl 2 i0 Tryd.underlying25 hi hz0 hz1 hz2 w.heap.size w _ _ _ _ rfl r1 b1 bz rfl ll ?_; intro gf cf w2 bf lf hcf mcf cellf c901 c902 b2)
  have mc : cf ≤ 9223372036854775807 := by unfold maxLen at mcf; omega
  have hc2 : 2 ≤ cf := hcf
  have d1 : w2.cell? ⟨gf, 0, none⟩ = some (.int .i64 901) := c901
  have d2 : w2.cell? ⟨gf, 1, none⟩ = some (.int .i64 902) := c902
  clear mcf cellf c901 c902 hcf r1 b1
  go_wp2_with fail
  refine (SA.out _ _ _).mono ?_
  rintro e w3 ⟨rfl, hw⟩; rw [hw]; clear hw w3
  go_wp2_with fail
  refine (RR.out _).mono ?_
  rintro e w4 ⟨rfl, hw⟩; rw [hw]; clear hw w4
  go_wp2_with fail
  refine (same_empty none none 0 0 _).mono ?_
  rintro e w4 ⟨rfl, n1, hw⟩; rw [hw]; clear hw w4
  go_wp2_with fail
  refine (same_empty _ _ _ _ _).mono ?_
  rintro e w4 ⟨rfl, n2, hw⟩; rw [hw]; clear hw w4
  go_wp2_with fail
  go_ret
  exact ⟨rfl, ⟨b2.os, b2.tape, b2.output, b2.size, b2.block⟩⟩

end Go.Proofs.YtfdahdloihgjeacDoor
