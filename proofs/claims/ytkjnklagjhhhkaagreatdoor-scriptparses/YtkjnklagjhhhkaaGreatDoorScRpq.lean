/-
  Ours: the slice of a line; where the fields of a line lie.
-/
import Derived.Test.YtkjnklagjhhhkaaGreatDoorScRpf
import Derived.Test.YtkjnklagjhhhkaaGreatDoorScRp
import Derived.Test.YtkjnklagjhhhkaaGreatDoorScPar
namespace Go.Proofs.YtkjnklagjhhhkaaGreatDoor
open Go.RowKit Go.Lib ScF

set_option maxRecDepth 40000 in
theorem slice_b (a : Option Addr) (p q n c : Nat) (h1 : p ≤ q) (h2 : q ≤ n) (h3 : n ≤ c) (hn : a = none → c = 0) : ∃ AD : Option Addr, ((AD = none → c - p = 0) ∧ ∀ g o, p < c → a = some ⟨g, o, none⟩ → AD = some ⟨g, o + p, none⟩) ∧ (∀ W, (Instr.slice 22 (.slice a n c) (some (.int .i64 (p : Int))) (some (.int .i64 (q : Int))) none).run Tryz.prog W = .ok (.slice AD (q - p) (c - p)) W) ∧ ∀ W, (Instr.sliceAt 22 (.slice a n c) (some (.int .i64 (p : Int))) (some (.int .i64 (q : Int))) none).run Tryz.prog W = .ok (.slice AD (q - p) (c - p)) W := by
  cases a with
  | none =>
    obtain rfl := hn rfl
    obtain rfl : n = 0 := by omega
    obtain rfl : q = 0 := by omega
    obtain rfl : p = 0 := by omega
    refine ⟨none, ⟨fun _ => rfl, fun g o h => by omega⟩, fun W => ?_, fun W => ?_⟩
    · go_simp
    · go_simp
  | some ad =>
    refine ⟨if c = p then some ad else some (ad.add p), ⟨?_, fun g' o' h e => ?_⟩, fun W => ?_, fun W => ?_⟩
    · intro h
      split at h
      · cases h
      · cases h
    · injection e with e; subst e; rw [if_neg (by omega)]; simp [Addr.add]
    · go_simp
      intro h
      omega
    · go_simp
      intro h
      omega
theorem rd_slice {w : World} {a AD : Option Addr} {n c p q : Nat} {l : List UInt8} (h : Rd w (.slice a n c) (byteCells l)) (h1 : p ≤ q) (h2 : q ≤ n) (hA : (AD = none → c - p = 0) ∧ ∀ g o, p < c → a = some ⟨g, o, none⟩ → AD = some ⟨g, o + p, none⟩) : Rd w (.slice AD (q - p) (c - p)) (byteCells ((l.drop p).take (q - p))) := by
  obtain ⟨ao, cap, e, hcap, hnil, H⟩ := h
  injection e with e1 e2 e3
  subst e1 e3
  rw [byteCells_length] at e2 hcap
  have hl : ((l.drop p).take (q - p)).length = q - p := by simp; omega
  refine ⟨AD, c - p, by rw [byteCells_length, hl], by rw [byteCells_length, hl]; omega, hA.1, fun i hi => ?_⟩
  rw [byteCells_length, hl] at hi
  obtain ⟨g, o, e1, lt, e4⟩ := H (p + i) (by rw [byteCells_length]; omega)
  refine ⟨g, o + p, hA.2 g o (by omega) e1, lt, ?_⟩
  rw [Nat.add_assoc, e4]
  simp [byteCells]
theorem rd_cap {w : World} {a : Option Addr} {n c : Nat} {vs : List Value} (h : Rd w (.slice a n c) vs) : n ≤ c ∧ (a = none → c = 0) := by
  obtain ⟨ao, cap, e, hcap, hnil, H⟩ := h
  injection e with e1 e2 e3
  subst e1 e3
  exact ⟨by omega, hnil⟩
theorem place {l f0 : List UInt8} {fs : List (List UInt8)} (e : spl l = f0 :: fs) : ∀ i, i < fs.length → f0.length + 1 + plc fs i ≤ l.length ∧ spl (l.drop (f0.length + 1 + plc fs i)) = fs.drop i := by
  intro i
  induction i with
  | zero =>
    intro h
    have h0 : spl (l.drop 0) = f0 :: fs := e
    obtain ⟨h1, h2⟩ := spl_step h0 (by intro h'; rw [h'] at h; simp at h)
    rw [Nat.zero_add] at h1 h2
    exact ⟨by simp [plc]; omega, h2⟩
  | succ i ih =>
    intro h
    obtain ⟨h1, h2⟩ := ih (by omega)
    have hd : fs.drop i = fs.getD i [] :: fs.drop (i + 1) := by
      rw [List.drop_eq_getElem_cons (by omega), List.getD_eq_getElem?_getD, List.getElem?_eq_getElem (by omega)]; rfl
    rw [hd] at h2
    obtain ⟨h3, h4⟩ := spl_step h2 (by intro h'; have := congrArg List.length h'; simp at this; omega)
    rw [plc]
    have e1 : f0.length + 1 + (plc fs i + (fs.getD i []).length + 1) = f0.length + 1 + plc fs i + (fs.getD i []).length + 1 := by omega
    rw [e1]
    exact ⟨by omega, h4⟩
theorem placed {l f0 : List UInt8} {fs : List (List UInt8)} (e : spl l = f0 :: fs) (i : Nat) (h : i < fs.length) : f0.length + 1 + plc fs i ≤ l.length ∧ fe (l.drop (f0.length + 1 + plc fs i)) = (fs.getD i []).length ∧ f0.length + 1 + plc fs i + (fs.getD i []).length ≤ l.length ∧ (l.drop (f0.length + 1 + plc fs i)).take (fs.getD i []).length = fs.getD i [] := by
  obtain ⟨h1, h2⟩ := place e i h
  have hd : fs.drop i = fs.getD i [] :: fs.drop (i + 1) := by
    rw [List.drop_eq_getElem_cons h, List.getD_eq_getElem?_getD, List.getElem?_eq_getElem h]; rfl
  rw [hd] at h2
  have h3 := spl_head h2
  have h4 := congrArg List.length h3
  simp only [List.length_take, List.length_drop] at h4
  exact ⟨h1, fe_of h2, by omega, h3⟩
end Go.Proofs.YtkjnklagjhhhkaaGreatDoor
