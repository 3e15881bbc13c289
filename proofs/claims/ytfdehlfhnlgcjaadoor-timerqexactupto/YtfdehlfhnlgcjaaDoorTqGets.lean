/-
  Ours: the law's gets.
-/
import Derived.Test.YtfdehlfhnlgcjaaDoorTqTri
namespace Go.Proofs.YtfdehlfhnlgcjaaDoor
open Go.RowKit TqM

/-- A trio's three cells and a key, in a call's own memory. -/
abbrev Tk (w : World) (Q : Nat) (R1 R2 : Nat) (vL : Value) (k : Ky) (w' : World) : Prop := Below w.heap.size w w' ∧
  w'.cell? ⟨Q, 0, none⟩ = some (.pointer (some ⟨R1, 0, none⟩)) ∧ w'.cell? ⟨Q, 1, none⟩ = some (.pointer (some ⟨R2, 0, none⟩)) ∧ w'.cell? ⟨Q, 2, none⟩ = some vL ∧
  w'.cell? ⟨Q + 1, 0, none⟩ = some (.int .i64 k.d) ∧ w'.cell? ⟨Q + 1, 1, none⟩ = some (.int .i64 k.l) ∧ w'.cell? ⟨Q + 1, 2, none⟩ = some (.int .i64 k.n)
theorem Tk.keep {w w1 w2 : World} {Q R1 R2 : Nat} {vL : Value} {k : Ky} (b : Below w1.heap.size w1 w2) (c : Tk w Q R1 R2 vL k w1) : Tk w Q R1 R2 vL k w2 :=
  ⟨below_trans c.1 b, below_cell b c.2.1, below_cell b c.2.2.1, below_cell b c.2.2.2.1, below_cell b c.2.2.2.2.1, below_cell b c.2.2.2.2.2.1, below_cell b c.2.2.2.2.2.2⟩
theorem Tk.start (w : World) (R1 R2 : Nat) (vL : Value) (k : Ky) : Tk w w.heap.size R1 R2 vL k ((w.alloc (.cells #[.pointer (some ⟨R1, 0, none⟩), .pointer (some ⟨R2, 0, none⟩), vL] 33)).alloc (.cells #[.int .i64 k.d, .int .i64 k.l, .int .i64 k.n] 24)) := by
  have B1 := (Blk.new 33 (trL R1 R2 vL) w).old (.cells #[.int .i64 k.d, .int .i64 k.l, .int .i64 k.n] 24)
  have B2 := Blk.new2 24 (kyL k) w (.cells #[.pointer (some ⟨R1, 0, none⟩), .pointer (some ⟨R2, 0, none⟩), vL] 33)
  exact ⟨below_trans (below_alloc _ _) (below_alloc _ _), B1.cell 0 _ rfl, B1.cell 1 _ rfl, B1.cell 2 _ rfl, B2.cell 0 _ rfl, B2.cell 1 _ rfl, B2.cell 2 _ rfl⟩

set_option maxRecDepth 20000 in
set_option maxHeartbeats 2000000 in
theorem gets_no (B R1 R2 N : Nat) (vL : Value) (T : Nat → Prop) (G : List (Ky × Int)) (k : Ky) (w : World) (hN : N ≤ 1000000000) (h : Tri B R1 R2 vL T N G w) (hk : k ∉ G.map (·.1)) :
    Calls Tryd.prog 16 #[trV R1 R2 vL, kyV k] w fun e w' => e = .returned (.bool true) ∧ Below w.heap.size w w' := by
  obtain ⟨S1, S2, L1, L2, q⟩ := h.q
  have GR : Hid (∀ w', Below w.heap.size w w' → Calls Tryd.prog 26 #[vL, .agg #[.int .i64 k.d, .int .i64 k.l, .int .i64 k.n]] w' fun e w2 => e = .returned (.tuple #[.int .i64 0, .bool false]) ∧ Below w'.heap.size w' w2) := fun w' b => rget_at G vL k w' (Nat.le_trans h.len hN) (q.row.rd.later b) 0 false (.inl ⟨rfl, rfl, hk⟩)
  have GI : Hid (∀ w', Below w.heap.size w w' → Calls Tryd.prog 31 #[.pointer (some ⟨R1, 0, none⟩), .agg #[.int .i64 k.d, .int .i64 k.l, .int .i64 k.n]] w' fun e w2 => e = .returned (.tuple #[.int .i64 0, .bool false]) ∧ Below w'.heap.size w' w2) := fun w' b => TQ.get_no R1 S1 L1 w' k (q.q1.below b) (fun hm => hk (((q.p1.map (·.1)).mem_iff).1 hm))
  have GT : Hid (∀ w', Below w.heap.size w w' → Calls Tryd.prog 32 #[.pointer (some ⟨R2, 0, none⟩), .agg #[.int .i64 k.d, .int .i64 k.l, .int .i64 k.n]] w' fun e w2 => e = .returned (.tuple #[.string ⟨#[]⟩, .bool false]) ∧ Below w'.heap.size w' w2) := fun w' b => TS.get_no R2 S2 L2 w' k (q.q2.below b) (fun hm => hk (by
    have := ((q.p2.map (·.1)).mem_iff).1 hm
    rw [List.map_map] at this
    exact this))
  have S0 : Hid (Tk w w.heap.size R1 R2 vL k ((w.alloc (.cells #[.pointer (some ⟨R1, 0, none⟩), .pointer (some ⟨R2, 0, none⟩), vL] 33)).alloc (.cells #[.int .i64 k.d, .int .i64 k.l, .int .i64 k.n] 24))) := Tk.start w R1 R2 vL k
  clear h q hk
  go_enter Tryd.func16, Tryd.ntmps16
  go_wp2_with fail
  refine (GR.out _ S0.out.1).mono ?_
  rintro e w2 ⟨rfl, b2⟩
  have S2 : Hid (Tk w w.heap.size R1 R2 vL k w2) := Tk.keep b2 S0.out
  have F2 : Hid (Below w.heap.size w w2) := S2.out.1
  obtain ⟨-, x0, x1, x2, y0, y1, y2⟩ := S2.out
  clear S0 b2 GR
  go_wp2_with fail
  clear x0 x1 x2 y0 y1 y2
  refine (GI.out _ S2.out.1).mono ?_
  rintro e w3 ⟨rfl, b3⟩
  have S3 : Hid (Tk w w.heap.size R1 R2 vL k w3) := Tk.keep b3 S2.out
  have F3 : Hid (Below w.heap.size w w3) := S3.out.1
  obtain ⟨-, x0, x1, x2, y0, y1, y2⟩ := S3.out
  clear S2 b3 GI
  go_wp2_with fail
  clear x0 x1 x2 y0 y1 y2
  refine (GT.out _ S3.out.1).mono ?_
  rintro e w4 ⟨rfl, b4⟩
  have S4 : Hid (Tk w w.heap.size R1 R2 vL k w4) := Tk.keep b4 S3.out
  have F4 : Hid (Below w.heap.size w w4) := S4.out.1
  obtain ⟨-, x0, x1, x2, y0, y1, y2⟩ := S4.out
  clear S3 b4 GT
  go_wp2_with fail
  go_ret
  exact ⟨rfl, F4.out⟩

set_option maxRecDepth 20000 in
set_option maxHeartbeats 2000000 in
theorem gets_yes (B R1 R2 N : Nat) (vL : Value) (T : Nat → Prop) (G : List (Ky × Int)) (k : Ky) (w : World) (hN : N ≤ 1000000000) (h : Tri B R1 R2 vL T N G w) (x : Int) (hk : (k, x) ∈ G) (ht : TabP w) :
    Calls Tryd.prog 16 #[trV R1 R2 vL, kyV k] w fun e w' => e = .returned (.bool true) ∧ Below w.heap.size w w' := by
  obtain ⟨S1, S2, L1, L2, q⟩ := h.q
  have GR : Hid (∀ w', Below w.heap.size w w' → Calls Tryd.prog 26 #[vL, .agg #[.int .i64 k.d, .int .i64 k.l, .int .i64 k.n]] w' fun e w2 => e = .returned (.tuple #[.int .i64 x, .bool true]) ∧ Below w'.heap.size w' w2) := fun w' b => rget_at G vL k w' (Nat.le_trans h.len hN) (q.row.rd.later b) x true (.inr ⟨rfl, hk, h.sd.nodup⟩)
  have GI : Hid (∀ w', Below w.heap.size w w' → Calls Tryd.prog 31 #[.pointer (some ⟨R1, 0, none⟩), .agg #[.int .i64 k.d, .int .i64 k.l, .int .i64 k.n]] w' fun e w2 => e = .returned (.tuple #[.int .i64 x, .bool true]) ∧ Below w'.heap.size w' w2) := fun w' b => TQ.get_yes R1 S1 L1 w' k x (q.q1.below b) (q.p1.mem_iff.2 hk)
  have GT : Hid (∀ w', Below w.heap.size w w' → Calls Tryd.prog 32 #[.pointer (some ⟨R2, 0, none⟩), .agg #[.int .i64 k.d, .int .i64 k.l, .int .i64 k.n]] w' fun e w2 => e = .returned (.tuple #[.string (wdB x), .bool true]) ∧ Below w'.heap.size w' w2) := fun w' b => TS.get_yes R2 S2 L2 w' k (wdB x) (q.q2.below b) (q.p2.mem_iff.2 (List.mem_map.2 ⟨(k, x), hk, rfl⟩))
  have WD : Hid (∀ w', Below w.heap.size w w' → Calls Tryd.prog 15 #[.int .i64 x] w' fun e w2 => e = .returned (.string (wdB x)) ∧ Below w'.heap.size w' w2) := fun w' b => word_at x (h.i64 _ hk) w' (ht.below ht.lt b)
  have S0 : Hid (Tk w w.heap.size R1 R2 vL k ((w.alloc (.cells #[.pointer (some ⟨R1, 0, none⟩), .pointer (some ⟨R2, 0, none⟩), vL] 33)).alloc (.cells #[.int .i64 k.d, .int .i64 k.l, .int .i64 k.n] 24))) := Tk.start w R1 R2 vL k
  clear h q hk ht
  generalize wdB x = s at *
  go_enter Tryd.func16, Tryd.ntmps16
  go_wp2_with fail
  refine (GR.out _ S0.out.1).mono ?_
  rintro e w2 ⟨rfl, b2⟩
  have S2 : Hid (Tk w w.heap.size R1 R2 vL k w2) := Tk.keep b2 S0.out
  have F2 : Hid (Below w.heap.size w w2) := S2.out.1
  obtain ⟨-, x0, x1, x2, y0, y1, y2⟩ := S2.out
  clear S0 b2 GR
  go_wp2_with fail
  clear x0 x1 x2 y0 y1 y2
  refine (GI.out _ S2.out.1).mono ?_
  rintro e w3 ⟨rfl, b3⟩
  have S3 : Hid (Tk w w.heap.size R1 R2 vL k w3) := Tk.keep b3 S2.out
  have F3 : Hid (Below w.heap.size w w3) := S3.out.1
  obtain ⟨-, x0, x1, x2, y0, y1, y2⟩ := S3.out
  clear S2 b3 GI
  go_wp2_with fail
  clear x0 x1 x2 y0 y1 y2
  refine (GT.out _ S3.out.1).mono ?_
  rintro e w4 ⟨rfl, b4⟩
  have S4 : Hid (Tk w w.heap.size R1 R2 vL k w4) := Tk.keep b4 S3.out
  have F4 : Hid (Below w.heap.size w w4) := S4.out.1
  obtain ⟨-, x0, x1, x2, y0, y1, y2⟩ := S4.out
  clear S3 b4 GT
  go_wp2_with fail
  refine (WD.out _ F4.out).mono ?_
  rintro e w5 ⟨rfl, b5⟩
  have F5 : Hid (Below w.heap.size w w5) := below_trans F4.out b5
  clear b5 S4 WD
  go_wp2_with fail
  go_ret
  exact ⟨rfl, F5.out⟩

end Go.Proofs.YtfdehlfhnlgcjaaDoor
