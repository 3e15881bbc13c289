/-
  Ours: money.Split at any list that reads: refused, or the parts.
-/
import Derived.Test.YtjlkcceaagecpaaSplitGo2
import Derived.Test.YtjlkcceaagecpaaSharesMath
namespace Go.Proofs.Ytjlkcceaagecpaa
open Go.RowKit Stable Spl

/-- What money.Split has answered. -/
def SplitAns (T : Int) (ws : List Int) (w : World) (e : Ending) (w' : World) : Prop :=
  (e = .returned (.tuple #[.slice none 0 0, .bool false]) ∧ w' = w ∧ ¬ (0 ≤ T ∧ adOk ws = true)) ∨
  (∃ gp f, e = .returned (.tuple #[.slice (some ⟨gp, 0, none⟩) ws.length ws.length, .bool true]) ∧ w.heap.size ≤ gp ∧ Below w.heap.size w w' ∧
    Sh T (total ws) (fun i => ws.getD i 0) ws.length f ∧ IC gp ws.length w' (prt T (total ws) (fun i => ws.getD i 0) ws.length f) ∧ 0 < ws.length ∧ ws.length ≤ 1000 ∧ 0 ≤ T ∧ adOk ws = true)

theorem split_ans {T : Int} {w : World} {v : Value} {ws : List Int} (h : Reads w v ws) (hx : I64 ws) (hl : ws.length ≤ 1048576) (T0 : -9223372036854775808 ≤ T) (T1 : T ≤ 9223372036854775807) :
    Calls Try.prog 19 #[.int .i64 T, v] w (SplitAns T ws w) := by
  have _t := T0
  rcases h with ⟨rfl, a, cap, rfl⟩ | ⟨h0, g, o, cap, rfl, _, hg, cell⟩
  · have no : adOk [] = false := by decide
    exact (split_no T 0 false (Or.inr rfl) (addW_empty a cap w)).mono fun e w' ⟨he, hw⟩ => Or.inl ⟨he, hw, fun h => by rw [no] at h; cases h.2⟩
  · have A := fun w' (h : w' = w) => addW_full ws g o cap w' hx hl h0 (fun i hi => by rw [h]; exact cell i hi)
    by_cases ok : 0 ≤ T ∧ adOk ws = true
    · have ad := ok.2
      have g2 := of_decide_eq_true (show decide _ = true from ad)
      obtain ⟨l, p, s, z⟩ := g2
      have av : adV ws = total ws := by unfold adV; rw [ad, if_pos rfl]
      rw [ad, av] at A
      have sm := of_decide_eq_true (show decide _ = true from s)
      have tn : 0 ≤ total ws := by
        have h := sumTo_total ws ws.length (Nat.le_refl _)
        rw [List.take_of_length_le (Nat.le_refl _)] at h
        rw [← h]; exact sumTo_nonneg _ p
      refine (split_yes T (total ws) ws g o cap w hx h0 l hg ok.1 T1 cell p rfl (by omega) sm.2 A).mono fun e w' ⟨gp, he, hgp, hb, f, sh, so, ic⟩ => Or.inr ⟨gp, f, he, hgp, hb, ⟨ok.1, by omega, p, ?_, sh, so⟩, ic, h0, l, ok.1, ad⟩
      have h := sumTo_total ws ws.length (Nat.le_refl _)
      rw [List.take_of_length_le (Nat.le_refl _)] at h
      exact h
    · have hb : T < 0 ∨ adOk ws = false := by
        by_cases t : T < 0
        · exact Or.inl t
        · right
          cases hk : adOk ws
          · rfl
          · exact absurd ⟨by omega, hk⟩ ok
      exact (split_no T (adV ws) (adOk ws) hb (A w rfl)).mono fun e w' ⟨he, hw⟩ => Or.inl ⟨he, hw, ok⟩

set_option maxRecDepth 100000 in
set_option maxHeartbeats 4000000 in
theorem fair_any {T W : Int} {f : Nat → Nat} (ws : List Int) (gp g o cap cap2 : Nat) (w : World) (hS : Sh T W (fun i => ws.getD i 0) ws.length f) (hl : ws.length ≤ 1048576)
    (hp : ∀ i, i < ws.length → w.cell? ⟨gp, i, none⟩ = some (.int .i64 (prt T W (fun i => ws.getD i 0) ws.length f i))) (hw : ∀ i, i < ws.length → w.cell? ⟨g, o + i, none⟩ = some (.int .i64 (ws.getD i 0)))
    (T1 : T ≤ 9223372036854775807) :
    Calls Try.prog 20 #[.slice (some ⟨gp, 0, none⟩) ws.length cap, .slice (some ⟨g, o, none⟩) ws.length cap2] w fun e w' => e = .returned (.bool true) ∧ ∃ n, w' = w.drewN n := by
  have GR : Hid (∀ i j, i < ws.length → j < ws.length → ws.getD i 0 < ws.getD j 0 → prt T W (fun i => ws.getD i 0) ws.length f i ≤ prt T W (fun i => ws.getD i 0) ws.length f j) := fun i j h1 h2 h3 => hS.greater h1 h2 h3
  have EQ : Hid (∀ i j, i < j → j < ws.length → ws.getD i 0 = ws.getD j 0 → prt T W (fun i => ws.getD i 0) ws.length f i = prt T W (fun i => ws.getD i 0) ws.length f j ∨ prt T W (fun i => ws.getD i 0) ws.length f i = prt T W (fun i => ws.getD i 0) ws.length f j + 1) := fun i j h1 h2 h3 => hS.equal h1 h2 h3
  have BD : Hid (∀ i, i < ws.length → 0 ≤ prt T W (fun i => ws.getD i 0) ws.length f i ∧ prt T W (fun i => ws.getD i 0) ws.length f i ≤ 9223372036854775807) := fun i hi => ⟨(hS.bounds hi).1, by have := hS.le_left hi; omega⟩
  have HP : Hid (∀ i, i < ws.length → w.cell? ⟨gp, i, none⟩ = some (.int .i64 (prt T W (fun i => ws.getD i 0) ws.length f i))) := hp
  have HW : Hid (∀ i, i < ws.length → w.cell? ⟨g, o + i, none⟩ = some (.int .i64 (ws.getD i 0))) := hw
  clear hS hp hw T1
  generalize prt T W (fun i => ws.getD i 0) ws.length f = P at *
  generalize hn : ws.length = n at *
  clear hn
  go_enter Try.func20, Try.ntmps20
  go_wp2
  go_loopw [5, 6] (fun ii _ wr => ∃ i m : Nat, i ≤ n ∧ ii = .int .i64 (i : Int) ∧ wr = w.drewN m) (fun ii _ _ => n - (intOf ii).toNat)
  case atStart => exact ⟨0, 0, by omega, rfl, rfl⟩
  case round =>
    obtain ⟨i, m, hi, rfl, rfl⟩ := hrel
    by_cases hil : (i : Int) < (n : Int)
    · go_wp2
      go_loopw [6] (fun jj wr => ∃ j m : Nat, i + 1 ≤ j ∧ j ≤ n ∧ jj = .int .i64 (j : Int) ∧ wr = w.drewN m) (fun jj _ => n - (intOf jj).toNat)
      case atStart => exact ⟨i + 1, m, by omega, by omega, by go_num, rfl⟩
      case round =>
        clear m
        obtain ⟨j, m, hj1, hj2, rfl, rfl⟩ := hrel
        by_cases hjl : (j : Int) < (n : Int)
        · have c1 := HP.out i (by omega)
          have c2 := HP.out j (by omega)
          have c3 := HW.out i (by omega)
          have c4 := HW.out j (by omega)
          have gr1 := GR.out i j (by omega) (by omega)
          have gr2 := GR.out j i (by omega) (by omega)
          have eq1 := EQ.out i j (by omega) (by omega)
          have b1 := BD.out i (by omega)
          have b2 := BD.out j (by omega)
          generalize P i = pi at *
          generalize P j = pj at *
          generalize ws.getD i 0 = wi at *
          generalize ws.getD j 0 = wj at *
          by_cases k1 : wi < wj
          · have q1 := gr1 k1
            have d1 : decide (wj < wi) = false := decide_eq_false (by omega)
            have d2 : decide (pj < pi) = false := decide_eq_false (by omega)
            have d3 : (wi == wj) = false := by rw [beq_eq_false_iff_ne]; omega
            have d4 : decide (wi < wj) = true := decide_eq_true k1
            clear gr1 gr2 eq1
            go_wp2
            go_quiet (fail)
            go_wp2
            go_quiet (fail)
            go_wp2
            go_roundw
            case rel => exact ⟨j + 1, _, by omega, by omega, by go_num, rfl⟩
            case measure => simp [intOf]; omega
          · by_cases k2 : wj < wi
            · have q1 := gr2 k2
              have d1 : decide (wj < wi) = true := decide_eq_true k2
              have d2 : decide (pi < pj) = false := decide_eq_false (by omega)
              have d3 : (wi == wj) = false := by rw [beq_eq_false_iff_ne]; omega
              have d4 : decide (wi < wj) = false := decide_eq_false k1
              clear gr1 gr2 eq1
              go_wp2
              go_quiet (fail)
              go_wp2
              go_quiet (fail)
              go_wp2
              go_roundw
              case rel => exact ⟨j + 1, _, by omega, by omega, by go_num, rfl⟩
              case measure => simp [intOf]; omega
            · have k3 : wi = wj := by omega
              have q1 := eq1 k3
              subst k3
              clear gr1 gr2 eq1
              have d1 : decide (wi < wi) = false := decide_eq_false (by omega)
              have d3 : (wi == wi) = true := beq_self_eq_true _
              rcases q1 with q1 | q1
              · subst q1
                have d5 : (pi == pi) = true := beq_self_eq_true _
                go_wp2
                go_quiet (fail)
                go_wp2
                go_quiet (fail)
                go_wp2
                go_roundw
                case rel => exact ⟨j + 1, _, by omega, by omega, by go_num, rfl⟩
                case measure => simp [intOf]; omega
              · have d5 : (pi == pj) = false := by rw [beq_eq_false_iff_ne]; omega
                have d6 : (pi == pj + 1) = true := by rw [q1]; exact beq_self_eq_true _
                have d7 : (pi != pj) = true := by unfold bne; rw [d5]; rfl
                have d8 : (pi != pj + 1) = false := by unfold bne; rw [d6]; rfl
                have b3 : pj + 1 ≤ 9223372036854775807 := by omega
                have b4 : 0 ≤ pj := b2.1
                clear q1
                go_wp2
                go_quiet (fail)
                go_wp2
                go_quiet (fail)
                go_wp2
                go_roundw
                case rel => exact ⟨j + 1, _, by omega, by omega, by go_num, rfl⟩
                case measure => simp [intOf]; omega
        · go_wp2
          go_roundw
          case rel => exact ⟨i + 1, m, by omega, by go_num, rfl⟩
          case measure => simp [intOf]; omega
    · go_wp2
      go_ret
      exact ⟨rfl, m, rfl⟩

end Go.Proofs.Ytjlkcceaagecpaa
