/-
  Ours: two networks beside one another; letters of a text.
-/
import Derived.Test.YtcnhcdlbippjoaaNwQuM
import Derived.Deep.CutRange
namespace Go.Proofs.Ytcnhcdlbippjoaa
open Go.RowKit NwM

structure TwoN (w : World) (R : Nat) (S B : Nat → Prop) (t : Nt) (R2 : Nat) (S2 B2 : Nat → Prop) (t2 : Nt) (wr : World) : Prop where
  a : NO w R S B t wr
  b : NO w R2 S2 B2 t2 wr
  ss : ∀ g, S g → ¬ S2 g
  sb : ∀ g, B2 g → ¬ S g
  bs : ∀ g, B g → ¬ S2 g
section
variable {w wr w' : World} {R R2 : Nat} {S B S2 B2 S' B' : Nat → Prop} {t t2 t' : Nt}
theorem TwoN.swap (h : TwoN w R S B t R2 S2 B2 t2 wr) : TwoN w R2 S2 B2 t2 R S B t wr := ⟨h.b, h.a, fun g h1 h2 => h.ss g h2 h1, h.bs, h.sb⟩
theorem TwoN.stepA (h : TwoN w R S B t R2 S2 B2 t2 wr) (p : NPost R S B wr t' S' B' w') : TwoN w R S' B' t' R2 S2 B2 t2 w' := by
  have hb : ∀ g, B2 g → g < wr.heap.size := fun g hg => (h.b.net.b hg).1
  have hs : ∀ g, S2 g → g < wr.heap.size := fun g hg => h.b.net.s hg
  refine ⟨h.a.step p, ⟨h.b.net.kp p.k (fun g h1 h2 => h.ss g h2 h1) h.sb, h.b.s, (h.a.step p).below⟩, fun g h1 h2 => ?_, fun g h1 h2 => ?_, fun g h1 h2 => ?_⟩
  · rcases p.s g h1 with q | q
    · exact h.ss g q h2
    · have := hs g h2; omega
  · rcases p.s g h2 with q | q
    · exact h.sb g h1 q
    · have := hb g h1; omega
  · rcases p.b g h1 with q | q
    · exact h.bs g q h2
    · have := hs g h2; omega
theorem TwoN.stepB (h : TwoN w R S B t R2 S2 B2 t2 wr) (p : NPost R2 S2 B2 wr t' S' B' w') : TwoN w R S B t R2 S' B' t' w' := (h.swap.stepA p).swap
theorem TwoN.later (h : TwoN w R S B t R2 S2 B2 t2 wr) (b : Below wr.heap.size wr w') : TwoN w R S B t R2 S2 B2 t2 w' := ⟨h.a.later b, h.b.later b, h.ss, h.sb, h.bs⟩
theorem TwoN.new {w1 : World} {e : Ending} (h : NO w R S (fun _ => False) nt0 w1) (h2 : NewN w1 e w') : ∃ R2 S2, e = .returned (.pointer (some ⟨R2, 0, none⟩)) ∧ TwoN w R S (fun _ => False) nt0 R2 S2 (fun _ => False) nt0 w' := by
  obtain ⟨R2, S2, he, n2⟩ := NO.new h2
  refine ⟨R2, S2, he, h.later n2.below, ⟨n2.net, fun g hg => Nat.le_trans h.below.size (n2.s g hg), below_trans h.below n2.below⟩, fun g h1 h3 => ?_, (fun g hg => hg.elim), (fun g hg => hg.elim)⟩
  have := h.net.s h1
  have := n2.s g h3
  omega
end
theorem allF_of {s : ByteArray} (h : ∀ b ∈ bytesOf s, isF b) (h0 : 0 < s.size) : allF s = true := by
  unfold allF
  rw [Bool.and_eq_true, List.all_eq_true]
  refine ⟨fun b hb => decide_eq_true (h b hb), ?_⟩
  have e0 : (s.size == 0) = false := by
    rw [beq_eq_false_iff_ne]
    omega
  rw [e0]
  rfl
theorem fate_all {t : Nt} {s : ByteArray} (hF : ∀ b ∈ bytesOf s, isF b) (h0 : 0 < s.size) (h64 : s.size ≤ 64) (ht : t.fs.length + s.size ≤ 4096) : fateC t s = 0 ∧ fateT t s = { t with fs := t.fs ++ bytesOf s } := by
  have e : fateC t s = 0 := by
    unfold fateC
    rw [if_neg (by omega), if_neg (by rw [allF_of hF h0]; decide), if_neg (by omega)]
  exact ⟨e, by unfold fateT; rw [if_pos e]⟩
theorem index_at (s : ByteArray) {k : Nat} {c : Nat} (hc : (bytesOf s)[k]? = some c) (w : World) : (Instr.index 9 (.string s) (.int .i64 ((k : Nat) : Int))).run Try.prog w = .ok (.int .u8 ((c : Nat) : Int)) w := by
  have hu : Try.prog.underlying 9 = some .string := by kernel_rfl
  have hk : k < s.size := by have := (List.getElem?_eq_some_iff.1 hc).1; rwa [bytesOf_len] at this
  rw [run_index_string w 9 s .i64 _ hu, dif_pos ⟨by omega, by omega⟩]
  have := bytesOf_at s k hk
  rw [hc] at this
  injection this with this
  simp [this]
theorem str_to (s : ByteArray) (a : Nat) (h : a ≤ s.size) (W : World) : (Instr.sliceAt 9 (.string s) none (some (.int .i64 ((a : Nat) : Int))) none).run Try.prog W = .ok (.string (s.extract 0 a)) W := by
  have hu : Try.prog.underlying 9 = some .string := by kernel_rfl
  go_simp
  first | done | (rw [if_pos (by omega)]; simp) | simp
theorem str_from (s : ByteArray) (a : Nat) (h : a ≤ s.size) (W : World) : (Instr.sliceAt 9 (.string s) (some (.int .i64 ((a : Nat) : Int))) none none).run Try.prog W = .ok (.string (s.extract a s.size)) W := by
  have hu : Try.prog.underlying 9 = some .string := by kernel_rfl
  go_simp
  first | done | (rw [if_pos (by omega)]; simp) | simp
theorem bytesOf_cut (s : ByteArray) (a b : Nat) : bytesOf (s.extract a b) = ((bytesOf s).take b).drop a := by
  unfold bytesOf
  rw [ByteArray.data_extract, Array.toList_extract]
  simp [List.extract, List.map_take, List.map_drop, List.drop_take]
end Go.Proofs.Ytcnhcdlbippjoaa
