/-
  Ours: the statements' same, less, filled, unlike.
-/
import Derived.Test.YtfdehlfhnlgcjaaDoorTqKs
namespace Go.Proofs.YtfdehlfhnlgcjaaDoor
open Go.RowKit TqM

namespace TqM
/-- The keys of the first n, each once. -/
def unT (ks : List Ky) : Nat → List Ky
  | 0 => []
  | i + 1 => if kN ks i ∈ ks.take i then unT ks i else unT ks i ++ [kN ks i]
/-- What a queue holds, into which the first n were put. -/
def flT (ks : List Ky) : Nat → List (Ky × Int)
  | 0 => []
  | i + 1 => if kN ks i ∈ ks.take i then flT ks i else (kN ks i, (i : Int)) :: flT ks i
theorem flT_keys (ks : List Ky) : ∀ n, n ≤ ks.length → ∀ k, k ∈ (flT ks n).map (·.1) ↔ k ∈ ks.take n
  | 0, _, k => by simp [flT]
  | n + 1, h, k => by
    have ih := flT_keys ks n (by omega) k
    rw [take_kN (by omega), List.mem_append, List.mem_singleton]
    unfold flT
    split
    · rename_i hm
      rw [ih]
      constructor
      · exact .inl
      · rintro (h | rfl)
        · exact h
        · exact hm
    · rw [List.map_cons, List.mem_cons, ih]
      exact Or.comm
theorem unT_mem (ks : List Ky) : ∀ n, n ≤ ks.length → ∀ k, k ∈ unT ks n ↔ k ∈ ks.take n
  | 0, _, k => by simp [unT]
  | n + 1, h, k => by
    have ih := unT_mem ks n (by omega) k
    rw [take_kN (by omega), List.mem_append, List.mem_singleton]
    unfold unT
    split
    · rename_i hm
      rw [ih]
      constructor
      · exact .inl
      · rintro (h | rfl)
        · exact h
        · exact hm
    · rw [List.mem_append, List.mem_singleton, ih]
theorem unT_len (ks : List Ky) : ∀ n, (unT ks n).length ≤ n
  | 0 => by simp [unT]
  | n + 1 => by
    have := unT_len ks n
    unfold unT
    split
    · omega
    · simp; omega
theorem flT_perm (ks : List Ky) : ∀ n, ((flT ks n).map (·.1)).Perm (unT ks n)
  | 0 => by simp [flT, unT]
  | n + 1 => by
    have ih := flT_perm ks n
    unfold flT unT
    split
    · exact ih
    · rw [List.map_cons]
      exact (ih.cons _).trans (List.perm_append_singleton _ _).symm
theorem flT_len (ks : List Ky) (n : Nat) : (flT ks n).length = (unT ks n).length := by
  have := (flT_perm ks n).length_eq
  simpa using this
theorem flT_first (ks : List Ky) : ∀ n, n ≤ ks.length → ∀ k v, (k, v) ∈ flT ks n → ∃ j : Nat, v = (j : Int) ∧ j < n ∧ kN ks j = k ∧ ∀ i, i < j → kN ks i ≠ k
  | 0, _, k, v, h => by simp [flT] at h
  | n + 1, h, k, v, hm => by
    unfold flT at hm
    split at hm
    · obtain ⟨j, h1, h2, h3⟩ := flT_first ks n (by omega) k v hm
      exact ⟨j, h1, by omega, h3⟩
    · rename_i hn
      rcases List.mem_cons.1 hm with e | hm
      · injection e with e1 e2
        subst e1 e2
        refine ⟨n, rfl, by omega, rfl, fun i hi e => hn ?_⟩
        rw [← e, kN_at (by omega)]
        rw [List.mem_take_iff_getElem]
        exact ⟨i, by omega, rfl⟩
      · obtain ⟨j, h1, h2, h3⟩ := flT_first ks n (by omega) k v hm
        exact ⟨j, h1, by omega, h3⟩
theorem mem_take_kN {ks : List Ky} {n j : Nat} (h : j < n) (hn : n ≤ ks.length) : kN ks j ∈ ks.take n := by
  rw [kN_at (by omega), List.mem_take_iff_getElem]
  exact ⟨j, by omega, rfl⟩
end TqM

set_option maxRecDepth 20000 in
set_option maxHeartbeats 2000000 in
theorem same_at (a b : Ky) (w : World) : Calls Tryd.prog 40 #[kyV a, kyV b] w fun e w' => e = .returned (.bool (decide (a = b))) ∧ Below w.heap.size w w' := by
  have BB : Hid (Below w.heap.size w ((w.alloc (.cells #[.int .i64 a.d, .int .i64 a.l, .int .i64 a.n] 24)).alloc (.cells #[.int .i64 b.d, .int .i64 b.l, .int .i64 b.n] 24))) := below_trans (below_alloc _ _) (below_alloc _ _)
  obtain ⟨r, hr⟩ : ∃ r, decide (a = b) = r := ⟨_, rfl⟩
  have HR : Hid (r = decide (a.d = b.d ∧ a.l = b.l ∧ a.n = b.n)) := by show _ = _; rw [← hr]; exact decide_eq_decide.2 (ky_eq a b)
  rw [hr]
  clear hr
  by_cases h0 : a.d = b.d
  · have e0 : (a.d == b.d) = true := by simpa using h0
    by_cases h1 : a.l = b.l
    · have e1 : (a.l == b.l) = true := by simpa using h1
      by_cases h2 : a.n = b.n
      · have e2 : (a.n == b.n) = true := by simpa using h2
        have hh : r = true := HR.out.trans (decide_eq_true ⟨h0, h1, h2⟩)
        subst hh
        clear HR h0 h1 h2
        go_enter Tryd.func40, Tryd.ntmps40
        go_wp2_with fail
        go_ret
        exact ⟨rfl, BB.out⟩
      · have e2 : (a.n == b.n) = false := by simpa using h2
        have hh : r = false := HR.out.trans (decide_eq_false (fun h => h2 h.2.2))
        subst hh
        clear HR h0 h1 h2
        go_enter Tryd.func40, Tryd.ntmps40
        go_wp2_with fail
        go_ret
        exact ⟨rfl, BB.out⟩
    · have e1 : (a.l == b.l) = false := by simpa using h1
      have hh : r = false := HR.out.trans (decide_eq_false (fun h => h1 h.2.1))
      subst hh
      clear HR h0 h1
      go_enter Tryd.func40, Tryd.ntmps40
      go_wp2_with fail
      go_ret
      exact ⟨rfl, BB.out⟩
  · have e0 : (a.d == b.d) = false := by simpa using h0
    have hh : r = false := HR.out.trans (decide_eq_false (fun h => h0 h.1))
    subst hh
    clear HR h0
    go_enter Tryd.func40, Tryd.ntmps40
    go_wp2_with fail
    go_ret
    exact ⟨rfl, BB.out⟩

/-- A queue whose blocks are all new. -/
def NewL (w : World) (L : List (Ky × Int)) (e : Ending) (w' : World) : Prop := ∃ R S, e = .returned (.pointer (some ⟨R, 0, none⟩)) ∧ TQ.QAt R S L w' ∧ (∀ g, S g → w.heap.size ≤ g) ∧ Below w.heap.size w w'
theorem newL_post {R : Nat} {S : Nat → Prop} {L : List (Ky × Int)} {w w1 w2 : World} (hS : ∀ g, S g → w.heap.size ≤ g) (b : Below w.heap.size w w1) (h : TQ.QPost R S w1 L w2) : ∃ S', TQ.QAt R S' L w2 ∧ (∀ g, S' g → w.heap.size ≤ g) ∧ Below w.heap.size w w2 := by
  obtain ⟨S', h1, h2, h3⟩ := h
  refine ⟨S', h1, fun g hg => ?_, ?_⟩
  · rcases h2 g hg with h | h
    · exact hS g h
    · exact Nat.le_trans b.size h
  · exact ⟨h3.os.trans b.os, h3.tape.trans b.tape, h3.output.trans b.output, Nat.le_trans b.size h3.size, fun i hi => (h3.block i (Nat.lt_of_lt_of_le hi b.size) (fun hs => by have := hS i hs; omega)).trans (b.block i hi)⟩

end Go.Proofs.YtfdehlfhnlgcjaaDoor
