/-
  Ours: the law MoneyShares walked.
-/
import Derived.Test.YtjlkcceaagecpaaSplitLaw
import Derived.Test.YtjlkcceaagecpaaOrderless
namespace Go.Proofs.Ytjlkcceaagecpaa
open Go.RowKit Stable Spl

/-- Split of the one weight 1. -/
def OneAns (T : Int) (w : World) (e : Ending) (w' : World) : Prop :=
  (T < 0 ∧ e = .returned (.tuple #[.slice none 0 0, .bool false]) ∧ w' = w) ∨
  (0 ≤ T ∧ ∃ gp, e = .returned (.tuple #[.slice (some ⟨gp, 0, none⟩) 1 1, .bool true]) ∧ Below w.heap.size w w' ∧ w'.cell? ⟨gp, 0, none⟩ = some (.int .i64 T))

theorem one_ans {T : Int} {w : World} {v : Value} (h : Reads w v [1]) (T0 : -9223372036854775808 ≤ T) (T1 : T ≤ 9223372036854775807) :
    Calls Try.prog 19 #[.int .i64 T, v] w (OneAns T w) := by
  have hx : I64 [1] := fun i => by
    match i with
    | 0 => decide
    | k + 1 => simp
  have ad : adOk [1] = true := by decide
  refine (split_ans h hx (by decide) T0 T1).mono fun e w' h => ?_
  rcases h with ⟨he, hw, hn⟩ | ⟨gp, f, he, _, hb, sh, ic, _, _, ht, _⟩
  · exact Or.inl ⟨by
      by_cases t : T < 0
      · exact t
      · exact absurd ⟨by omega, ad⟩ hn, he, hw⟩
  · refine Or.inr ⟨ht, gp, he, hb, ?_⟩
    have tot := sh.total
    have c := ic.cell (i := 0) (by decide)
    rw [c]
    have e1 : sumTo (prt T (total [1]) (fun i => [1].getD i 0) [1].length f) [1].length = prt T (total [1]) (fun i => [1].getD i 0) [1].length f 0 := by
      show sumTo _ 1 = _
      simp [sumTo]
    exact congrArg (fun x => some (Value.int .i64 x)) (e1.symm.trans tot)

/-- Split's answer, as the law's loop needs it. -/
def CutAns (T : Int) (ws : List Int) (w : World) (e : Ending) (w' : World) : Prop :=
  (e = .returned (.tuple #[.slice none 0 0, .bool false]) ∧ w' = w) ∨
  (0 ≤ T ∧ 0 < ws.length ∧ ∃ gp f, e = .returned (.tuple #[.slice (some ⟨gp, 0, none⟩) ws.length ws.length, .bool true]) ∧ Below w.heap.size w w' ∧
    Sh T (total ws) (fun i => ws.getD i 0) ws.length f ∧ ∀ i, i < ws.length → w'.cell? ⟨gp, i, none⟩ = some (.int .i64 (prt T (total ws) (fun i => ws.getD i 0) ws.length f i)))

theorem cut_ans {T : Int} {w : World} {v : Value} {ws : List Int} (h : Reads w v ws) (hx : I64 ws) (hl : ws.length ≤ 1048576) (T0 : -9223372036854775808 ≤ T) (T1 : T ≤ 9223372036854775807) :
    Calls Try.prog 19 #[.int .i64 T, v] w (CutAns T ws w) := by
  refine (split_ans h hx hl T0 T1).mono fun e w' h => ?_
  rcases h with ⟨he, hw, _⟩ | ⟨gp, f, he, _, hb, sh, ic, h0, _, ht, _⟩
  · exact Or.inl ⟨he, hw⟩
  · exact Or.inr ⟨ht, h0, gp, f, he, hb, sh, fun i hi => ic.cell hi⟩

theorem sumTo_step (P : Nat → Int) (i : Nat) : sumTo P (i + 1) = sumTo P i + P i := rfl

set_option maxRecDepth 100000 in
set_option maxHeartbeats 4000000 in
theorem shares_full (ws : List Int) (g o cap : Nat) (T : Int) (w : World) (hx : I64 ws) (h0 : 0 < ws.length) (hl : ws.length ≤ 4096) (hcap : ws.length ≤ cap) (hg : g < w.heap.size) (t0 : -9223372036854775808 ≤ T) (t1 : T ≤ 9223372036854775807)
    (hc : ∀ i, i < ws.length → w.cell? ⟨g, o + i, none⟩ = some (.int .i64 (ws.getD i 0))) :
    Calls Try.prog 7 #[.int .i64 T, .slice (some ⟨g, o, none⟩) ws.length cap] w fun e w' => e = .returned (.bool true) ∧ Below w.heap.size w w' := by
  have rd : Hid (Reads w (.slice (some ⟨g, o, none⟩) ws.length cap) ws) := .inr ⟨h0, g, o, cap, rfl, hcap, hg, hc⟩
  have HX : Hid (I64 ws) := hx
  have HC : Hid (∀ i, i < ws.length → w.cell? ⟨g, o + i, none⟩ = some (.int .i64 (ws.getD i 0))) := hc
  have S1 : Hid (∀ w : World, Calls Try.prog 19 #[.int .i64 T, .slice (some ⟨w.heap.size, 0, none⟩) 1 1] (w.alloc (.cells #[.int .i64 1] 2)) (OneAns T (w.alloc (.cells #[.int .i64 1] 2)))) := fun w => one_ans (.inr ⟨by decide, w.heap.size, 0, 1, rfl, by decide, by simp, fun i hi => by
    match i, hi with
    | 0, _ => simp⟩) t0 t1
  have SA : Hid (∀ w v, Reads w v ws → Calls Try.prog 19 #[.int .i64 T, v] w (CutAns T ws w)) := fun w v h => cut_ans h HX.out (by omega) t0 t1
  have CP : Hid (∀ w, ∀ v, Reads w v ws → Calls Try.prog 10 #[v] w fun e w' => ∃ v', e = .returned v' ∧ Row 2 w.heap.size w' v' ws ∧ Below w.heap.size w w') := fun w v h => copied_reads h (by omega)
  have FA : Hid (∀ (f : Nat → Nat) (gp cap2 : Nat) (w : World), Sh T (total ws) (fun i => ws.getD i 0) ws.length f → (∀ i, i < ws.length → w.cell? ⟨gp, i, none⟩ = some (.int .i64 (prt T (total ws) (fun i => ws.getD i 0) ws.length f i))) → (∀ i, i < ws.length → w.cell? ⟨g, o + i, none⟩ = some (.int .i64 (ws.getD i 0))) →
    Calls Try.prog 20 #[.slice (some ⟨gp, 0, none⟩) ws.length cap2, .slice (some ⟨g, o, none⟩) ws.length cap] w fun e w' => e = .returned (.bool true) ∧ ∃ n, w' = w.drewN n) := fun f gp cap2 w h1 h2 h3 => fair_any ws gp g o cap2 cap w h1 (by omega) h2 h3 t1
  clear hc hx
  go_enter Try.func7, Try.ntmps7
  go_wp2_with fail
  refine (S1.out _).mono ?_
  rintro e w1 (⟨ht, rfl, hw⟩ | ⟨ht, gp, rfl, hb, hcell⟩)
  · rw [hw]; clear hw w1
    go_wp2_with fail
    refine (CP.out _ _ (rd.out.later ((Below.refl _ _).alloc (Nat.le_refl _) _))).mono ?_
    rintro e w1 ⟨v1, rfl, r1, b1⟩
    have bb1 : Below w.heap.size w w1 := below2' ((Below.refl _ _).alloc (Nat.le_refl _) _) b1
    go_wp2_with fail
    refine (SA.out _ _ r1.reads).mono ?_
    rintro e w2 (⟨rfl, hw⟩ | ⟨ht', _⟩)
    · rw [hw]; clear hw w2
      go_wp2
      go_ret
      exact ⟨rfl, bb1⟩
    · omega
  · go_wp2_with fail
    have bb0 : Below w.heap.size w w1 := below2' ((Below.refl _ _).alloc (Nat.le_refl _) _) hb
    refine (CP.out _ _ (rd.out.later bb0)).mono ?_
    rintro e w2 ⟨v1, rfl, r1, b1⟩
    have bb1 : Below w.heap.size w w2 := below2' bb0 b1
    go_wp2_with fail
    refine (SA.out _ _ r1.reads).mono ?_
    rintro e w3 (⟨rfl, hw⟩ | ⟨ht', _, gq, f, rfl, hb3, sh, hcells⟩)
    · rw [hw]; clear hw w3
      go_wp2
      go_ret
      exact ⟨rfl, bb1⟩
    · have bb3 : Below w.heap.size w w3 := below2' bb1 hb3
      have WC : Hid (∀ i, i < ws.length → w3.cell? ⟨g, o + i, none⟩ = some (.int .i64 (ws.getD i 0))) := fun i hi => (bb3.cell (p := ⟨g, o + i, none⟩) hg).trans (HC.out i hi)
      have PC : Hid (∀ i, i < ws.length → w3.cell? ⟨gq, i, none⟩ = some (.int .i64 (prt T (total ws) (fun i => ws.getD i 0) ws.length f i))) := hcells
      have LF : Hid (∀ i, i < ws.length → prt T (total ws) (fun i => ws.getD i 0) ws.length f i ≤ T - sumTo (prt T (total ws) (fun i => ws.getD i 0) ws.length f) i ∧ 0 ≤ sumTo (prt T (total ws) (fun i => ws.getD i 0) ws.length f) i ∧ sumTo (prt T (total ws) (fun i => ws.getD i 0) ws.length f) i ≤ T) := fun i hi => sh.le_left hi
      have P0 : Hid (∀ i, i < ws.length → 0 ≤ prt T (total ws) (fun i => ws.getD i 0) ws.length f i) := fun i hi => (sh.bounds hi).1
      have Z0 : Hid (∀ i, ws.getD i 0 = 0 → prt T (total ws) (fun i => ws.getD i 0) ws.length f i = 0) := fun i hi => sh.zero hi
      have TT : Hid (sumTo (prt T (total ws) (fun i => ws.getD i 0) ws.length f) ws.length = T) := sh.total
      have FF := FA.out f gq ws.length w3 sh hcells WC.out
      have FG : Hid (∀ m, Calls Try.prog 20 #[.slice (some ⟨gq, 0, none⟩) ws.length ws.length, .slice (some ⟨g, o, none⟩) ws.length cap] (w3.drewN m) fun e w' => e = .returned (.bool true) ∧ ∃ n, w' = (w3.drewN m).drewN n) := fun m => FA.out f gq ws.length (w3.drewN m) sh (fun i hi => by simpa using hcells i hi) (fun i hi => by simpa using WC.out i hi)
      clear hcells FF hcell bb0 b1 hb r1 bb1 hb3
      generalize prt T (total ws) (fun i => ws.getD i 0) ws.length f = P at *
      generalize ws.length = n at *
      go_wp2
      go_loopw [8, 9] (fun l ii wr => ∃ i m : Nat, i ≤ n ∧ l = .int .i64 (T - sumTo P i) ∧ ii = .int .i64 (i : Int) ∧ wr = w3.drewN m) (fun _ ii _ => n - (intOf ii).toNat)
      case atStart => exact ⟨0, 0, by omega, by simp [sumTo], rfl, rfl⟩
      case round =>
        obtain ⟨i, m, hi, rfl, rfl, rfl⟩ := hrel
        by_cases hil : (i : Int) < (n : Int)
        · have c1 := PC.out i (by omega)
          have c2 := WC.out i (by omega)
          have l1 := LF.out i (by omega)
          have p0 := P0.out i (by omega)
          have z0 := Z0.out i
          have st := sumTo_step P i
          generalize P i = pi at *
          generalize ws.getD i 0 = wi at *
          generalize sumTo P i = si at *
          have d1 : decide (pi < 0) = false := decide_eq_false (by omega)
          have d2 : decide (T - si < pi) = false := decide_eq_false (by omega)
          by_cases k : wi = 0
          · have k2 := z0 k
            have d3 : (wi == 0) = true := by rw [k]; rfl
            have d4 : (pi == 0) = true := by rw [k2]; rfl
            have d5 : (pi != 0) = false := by rw [k2]; rfl
            go_wp2
            go_roundw
            case rel => exact ⟨i + 1, m, by omega, by rw [st]; go_num, by go_num, rfl⟩
            case measure => simp [intOf]; omega
          · have d3 : (wi == 0) = false := by rw [beq_eq_false_iff_ne]; exact k
            go_wp2
            go_roundw
            case rel => exact ⟨i + 1, m, by omega, by rw [st]; go_num, by go_num, rfl⟩
            case measure => simp [intOf]; omega
        · have e1 : i = n := by omega
          have tt : sumTo P i = T := by rw [e1]; exact TT.out
          rw [tt]
          clear e1 tt
          go_wp2_with fail
          refine (FG.out _).mono ?_
          rintro e w4 ⟨rfl, q, hw⟩; rw [hw]; clear hw w4
          go_wp2
          go_ret
          exact ⟨rfl, ⟨bb3.os, bb3.tape, bb3.output, bb3.size, bb3.block⟩⟩

set_option maxRecDepth 100000 in
set_option maxHeartbeats 4000000 in
theorem shares_long (a : Option Addr) (len cap : Nat) (T : Int) (w : World) (h : 4096 < len) (hl : len ≤ 9223372036854775807) (t0 : -9223372036854775808 ≤ T) (t1 : T ≤ 9223372036854775807) :
    Calls Try.prog 7 #[.int .i64 T, .slice a len cap] w fun e w' => e = .returned (.bool true) ∧ Below w.heap.size w w' := by
  have h' : (4096 : Int) < (len : Int) := by omega
  have S1 : Hid (∀ w : World, Calls Try.prog 19 #[.int .i64 T, .slice (some ⟨w.heap.size, 0, none⟩) 1 1] (w.alloc (.cells #[.int .i64 1] 2)) (OneAns T (w.alloc (.cells #[.int .i64 1] 2)))) := fun w => one_ans (.inr ⟨by decide, w.heap.size, 0, 1, rfl, by decide, by simp, fun i hi => by
    match i, hi with
    | 0, _ => simp⟩) t0 t1
  go_enter Try.func7, Try.ntmps7
  go_wp2_with fail
  refine (S1.out _).mono ?_
  rintro e w1 (⟨ht, rfl, hw⟩ | ⟨ht, gp, rfl, hb, hcell⟩)
  · rw [hw]; clear hw w1
    go_wp2_with fail
    go_ret
    exact ⟨rfl, (Below.refl _ _).alloc (Nat.le_refl _) _⟩
  · go_wp2_with fail
    go_ret
    exact ⟨rfl, below2' ((Below.refl _ _).alloc (Nat.le_refl _) _) hb⟩

set_option maxRecDepth 100000 in
set_option maxHeartbeats 4000000 in
theorem shares_empty (a : Option Addr) (cap : Nat) (T : Int) (w : World) (t0 : -9223372036854775808 ≤ T) (t1 : T ≤ 9223372036854775807) :
    Calls Try.prog 7 #[.int .i64 T, .slice a 0 cap] w fun e w' => e = .returned (.bool true) ∧ Below w.heap.size w w' := by
  have hx : I64 [] := fun i => by simp
  have S1 : Hid (∀ w : World, Calls Try.prog 19 #[.int .i64 T, .slice (some ⟨w.heap.size, 0, none⟩) 1 1] (w.alloc (.cells #[.int .i64 1] 2)) (OneAns T (w.alloc (.cells #[.int .i64 1] 2)))) := fun w => one_ans (.inr ⟨by decide, w.heap.size, 0, 1, rfl, by decide, by simp, fun i hi => by
    match i, hi with
    | 0, _ => simp⟩) t0 t1
  have SA : Hid (∀ w v, Reads w v [] → Calls Try.prog 19 #[.int .i64 T, v] w (CutAns T [] w)) := fun w v h => cut_ans h hx (by decide) t0 t1
  have CP : Hid (∀ w, ∀ v, Reads w v [] → Calls Try.prog 10 #[v] w fun e w' => ∃ v', e = .returned v' ∧ Row 2 w.heap.size w' v' [] ∧ Below w.heap.size w w') := fun w v h => copied_reads h (by decide)
  have RD : Hid (∀ w, Reads w (.slice a 0 cap) []) := fun w => .inl ⟨rfl, a, cap, rfl⟩
  clear hx
  go_enter Try.func7, Try.ntmps7
  go_wp2_with fail
  refine (S1.out _).mono ?_
  rintro e w1 (⟨ht, rfl, hw⟩ | ⟨ht, gp, rfl, hb, hcell⟩)
  · rw [hw]; clear hw w1
    go_wp2_with fail
    refine (CP.out _ _ (RD.out _)).mono ?_
    rintro e w1 ⟨v1, rfl, r1, b1⟩
    have bb1 : Below w.heap.size w w1 := below2' ((Below.refl _ _).alloc (Nat.le_refl _) _) b1
    go_wp2_with fail
    refine (SA.out _ _ r1.reads).mono ?_
    rintro e w2 (⟨rfl, hw⟩ | ⟨_, h0, _⟩)
    · rw [hw]; clear hw w2
      go_wp2
      go_ret
      exact ⟨rfl, bb1⟩
    · exact absurd h0 (by decide)
  · go_wp2_with fail
    refine (CP.out _ _ (RD.out _)).mono ?_
    rintro e w2 ⟨v1, rfl, r1, b1⟩
    have bb1 : Below w.heap.size w w2 := below2' (below2' ((Below.refl _ _).alloc (Nat.le_refl _) _) hb) b1
    go_wp2_with fail
    refine (SA.out _ _ r1.reads).mono ?_
    rintro e w3 (⟨rfl, hw⟩ | ⟨_, h0, _⟩)
    · rw [hw]; clear hw w3
      go_wp2
      go_ret
      exact ⟨rfl, bb1⟩
    · exact absurd h0 (by decide)

end Go.Proofs.Ytjlkcceaagecpaa
