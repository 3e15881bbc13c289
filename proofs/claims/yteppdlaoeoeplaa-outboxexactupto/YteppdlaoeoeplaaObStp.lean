/-
  Ours: the statement's step: what lies there when it begins; Ack, and what does nothing.
-/
import Derived.Test.YteppdlaoeoeplaaObApt2
namespace Go.Proofs.Yteppdlaoeoeplaa
open Go.RowKit ObM LedM PolM
set_option linter.unusedSimpArgs false

theorem infoPr : (Try.prog.info? 39).map (fun i => (i.zero, i.size)) = some (some (.agg #[.pointer none, .slice none 0 0]), 2) := by kernel_rfl
theorem infoOu : (Try.prog.info? 45).map (fun i => (i.zero, i.size)) = some (some (.agg #[.slice none 0 0, .slice none 0 0]), 2) := by kernel_rfl
theorem sizePr : (Try.prog.info? 39).map (·.size) = some 2 := by kernel_rfl
theorem sizeOu : (Try.prog.info? 45).map (·.size) = some 2 := by kernel_rfl
theorem sizeOp : (Try.prog.info? 30).map (·.size) = some 5 := by kernel_rfl
theorem ret_ctc {P : Program} {fn : Func} {R : Ending → World → Prop} {a : Act} {w : World} {p u q : Tmp} {ty tz : TypeId} (h : fn.results = #[.cell p ty, .tmp u, .cell q tz]) (hdf : a.defers = [])
    (g : Nat) (t : TypeId) (cs : List Value) (d : TypeDesc) (hp : a.tmps.getD p undef = .pointer (some ⟨g, 0, none⟩)) (hg : Blk g t cs w)
    (hu : P.underlying ty = some d) (hd : (match d with | .struct _ | .array _ _ => true | _ => false) = true) (hi : (P.info? ty).map (·.size) = some cs.length)
    (g' : Nat) (t' : TypeId) (cs' : List Value) (d' : TypeDesc) (hp' : a.tmps.getD q undef = .pointer (some ⟨g', 0, none⟩)) (hg' : Blk g' t' cs' w)
    (hu' : P.underlying tz = some d') (hd' : (match d' with | .struct _ | .array _ _ => true | _ => false) = true) (hi' : (P.info? tz).map (·.size) = some cs'.length)
    (hR : R (.returned (.tuple #[.agg cs.toArray, a.tmps.getD u undef, .agg cs'.toArray])) w) : bodyPost P fn R .ret a w := by
  refine bodyPost_ret_by ?_ hdf hR
  have hp1 : a.tmps[p]?.getD undef = .pointer (some ⟨g, 0, none⟩) := by simpa using hp
  have hp2 : a.tmps[q]?.getD undef = .pointer (some ⟨g', 0, none⟩) := by simpa using hp'
  simp only [results, h]
  simp [Result.andThen, hp1, hp2, asAddr, run_loadVar_row w g t ty cs.toArray (0, 0) d hg hu hd (by simpa using hi), run_loadVar_row w g' t' tz cs'.toArray (0, 0) d' hg' hu' hd' (by simpa using hi')]

/-- What lies there when step begins. -/
structure SB (Q : Nat) (l : List Int) (s : Value) (R : Nat) (v : Value) (o : Oc) (xa : Option Addr) (xc : Nat) (w : World) : Prop where
  p : Blk Q 24 (polL l s) w
  x : Blk (Q + 1) 39 [.pointer (some ⟨R, 0, none⟩), v] w
  o : Blk (Q + 2) 30 (ocL o xa xc) w
  y : Blk (Q + 3) 39 [.pointer none, .slice none 0 0] w
  z : Blk (Q + 4) 45 [.slice none 0 0, .slice none 0 0] w
theorem SB.kp {Q : Nat} {l : List Int} {s : Value} {R : Nat} {v : Value} {o : Oc} {xa : Option Addr} {xc : Nat} {w w' : World} {M : Nat → Prop} (h : SB Q l s R v o xa xc w) (k : Kp M w w') (hM : ∀ g, Q ≤ g → g ≤ Q + 4 → ¬ M g) : SB Q l s R v o xa xc w' :=
  ⟨h.p.kp k (hM _ (by omega) (by omega)), h.x.kp k (hM _ (by omega) (by omega)), h.o.kp k (hM _ (by omega) (by omega)), h.y.kp k (hM _ (by omega) (by omega)), h.z.kp k (hM _ (by omega) (by omega))⟩
theorem SB.new {l : List Int} {s : Value} {R : Nat} {v : Value} {o : Oc} {xa : Option Addr} {xc : Nat} (w : World) : SB w.heap.size l s R v o xa xc (((((w.alloc (.cells (polL l s).toArray 24)).alloc (.cells #[.pointer (some ⟨R, 0, none⟩), v] 39)).alloc (.cells (ocL o xa xc).toArray 30)).alloc (.cells #[.pointer none, .slice none 0 0] 39)).alloc (.cells #[.slice none 0 0, .slice none 0 0] 45))
    ∧ Below w.heap.size w (((((w.alloc (.cells (polL l s).toArray 24)).alloc (.cells #[.pointer (some ⟨R, 0, none⟩), v] 39)).alloc (.cells (ocL o xa xc).toArray 30)).alloc (.cells #[.pointer none, .slice none 0 0] 39)).alloc (.cells #[.slice none 0 0, .slice none 0 0] 45)) := by
  generalize e0 : w.alloc (.cells (polL l s).toArray 24) = w0
  generalize e1 : w0.alloc (.cells #[.pointer (some ⟨R, 0, none⟩), v] 39) = w1
  generalize e2 : w1.alloc (.cells (ocL o xa xc).toArray 30) = w2
  generalize e3 : w2.alloc (.cells #[.pointer none, .slice none 0 0] 39) = w3
  generalize e4 : w3.alloc (.cells #[.slice none 0 0, .slice none 0 0] 45) = w4
  have n0 : w0.heap.size = w.heap.size + 1 := by rw [← e0]; simp
  have n1 : w1.heap.size = w.heap.size + 2 := by rw [← e1]; simp [n0]
  have n2 : w2.heap.size = w.heap.size + 3 := by rw [← e2]; simp [n1]
  have n3 : w3.heap.size = w.heap.size + 4 := by rw [← e3]; simp [n2]
  have b0 : Below w.heap.size w w0 := by rw [← e0]; exact below_alloc _ _
  have b1 : Below w0.heap.size w0 w1 := by rw [← e1]; exact below_alloc _ _
  have b2 : Below w1.heap.size w1 w2 := by rw [← e2]; exact below_alloc _ _
  have b3 : Below w2.heap.size w2 w3 := by rw [← e3]; exact below_alloc _ _
  have b4 : Below w3.heap.size w3 w4 := by rw [← e4]; exact below_alloc _ _
  have k0 : Blk w.heap.size 24 (polL l s) w0 := by rw [← e0]; exact Blk.new _ _ _
  have k1 : Blk (w.heap.size + 1) 39 [.pointer (some ⟨R, 0, none⟩), v] w1 := by rw [← n0, ← e1]; exact Blk.new _ [.pointer (some ⟨R, 0, none⟩), v] _
  have k2 : Blk (w.heap.size + 2) 30 (ocL o xa xc) w2 := by rw [← n1, ← e2]; exact Blk.new _ _ _
  have k3 : Blk (w.heap.size + 3) 39 [.pointer none, .slice none 0 0] w3 := by rw [← n2, ← e3]; exact Blk.new _ [.pointer none, .slice none 0 0] _
  have k4 : Blk (w.heap.size + 4) 45 [.slice none 0 0, .slice none 0 0] w4 := by rw [← n3, ← e4]; exact Blk.new _ [.slice none 0 0, .slice none 0 0] _
  exact ⟨⟨(((k0.below b1).below b2).below b3).below b4, ((k1.below b2).below b3).below b4, (k2.below b3).below b4, k3.below b4, k4⟩, below_trans (below_trans (below_trans (below_trans b0 b1) b2) b3) b4⟩
/-- What step answers when nothing is handed out. -/
def StAns (R bm : Nat) (B T : Nat → Prop) (lb : List Int) (w : World) (L' ys' : List En) (B' : Nat → Prop) (e : Ending) (w' : World) : Prop :=
  ∃ a n c T', e = .returned (.tuple #[.agg #[.pointer (some ⟨R, 0, none⟩), .slice a n c], .bool true, .agg #[.slice none 0 0, .slice none 0 0]]) ∧ OPost R bm B lb w L' B' w' ∧ RL T' w' a n c ys' ∧ ∀ g, T' g → T g ∨ w.heap.size ≤ g
end Go.Proofs.Yteppdlaoeoeplaa
