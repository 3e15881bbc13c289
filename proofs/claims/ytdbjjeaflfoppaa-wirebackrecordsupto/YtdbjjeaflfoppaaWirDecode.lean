/-
  Ours: the program's DecodeOp.
-/
import Derived.Test.YtdbjjeaflfoppaaWirOpFB
import Derived.RegionTactic
import Derived.ChangeAlike
import Derived.BigRegion
namespace Go.Proofs.Ytdbjjeaflfoppaa
open Go.RowKit

/-- A new reader, set to a place. -/
theorem RS.start {bs : List Nat} {R : Nat} {v u0 u1 : Value} {w : World} {ty : TypeId} (h : Blk R ty [u0, u1, .bool false] w) (p : Nat) (hp : p ≤ bs.length) (hr : RdB w v bs) (ha : 0 < bs.length → v.ownBlock ≠ some R) :
    RS bs R v (some p) ((w.setCell ⟨R, 0, none⟩ v).setCell ⟨R, 1, none⟩ (.int .i64 (p : Int))) ∧ w.grownBy ((w.setCell ⟨R, 0, none⟩ v).setCell ⟨R, 1, none⟩ (.int .i64 (p : Int))) (some R) := by
  have g := grownBy_trans (setCell_grown w R 0 v) (setCell_grown (w.setCell ⟨R, 0, none⟩ v) R 1 (.int .i64 (p : Int)))
  have b : Blk R ty [v, .int .i64 (p : Int), .bool false] ((w.setCell ⟨R, 0, none⟩ v).setCell ⟨R, 1, none⟩ (.int .i64 (p : Int))) := Blk.set (i := 1) (Blk.set (i := 0) h v) (.int .i64 (p : Int))
  exact ⟨⟨b.cell 0 _ rfl, ⟨p, b.cell 1 _ rfl, fun q h => by cases h; rfl⟩, b.cell 2 _ rfl, b.fz, b.lt, Rd.grownN hr g (by rw [List.length_map]; exact ha), ha, fun q h => by cases h; exact hp⟩, g⟩

set_option maxRecDepth 20000 in
theorem seek_at (bs : List Nat) (R : Nat) (v u0 u1 : Value) (p : Nat) (w : World) (ty : TypeId) (h : Blk R ty [u0, u1, .bool false] w) (hp : p ≤ bs.length) (hr : RdB w v bs) (ha : 0 < bs.length → v.ownBlock ≠ some R) :
    Calls Try.prog 68 #[.pointer (some ⟨R, 0, none⟩), v, .int .i64 (p : Int)] w fun e w' => e = .returned (.tuple #[]) ∧ RS bs R v (some p) w' ∧ w.grownBy w' (some R) := by
  have S : Hid (RS bs R v (some p) ((w.setCell ⟨R, 0, none⟩ v).setCell ⟨R, 1, none⟩ (.int .i64 (p : Int))) ∧ w.grownBy ((w.setCell ⟨R, 0, none⟩ v).setCell ⟨R, 1, none⟩ (.int .i64 (p : Int))) (some R)) := RS.start h p hp hr ha
  obtain ⟨ao, cap, rfl, _, _⟩ := hr.len
  simp only [List.length_map] at S ⊢
  have c0 := h.cell 0 _ rfl
  have c1 := h.cell 1 _ rfl
  have f0 := h.fz 0
  have f1 := h.fz 1
  clear h hr ha
  go_enter Try.func68, Try.ntmps68
  go_wp2_with fail
  go_end0
  exact ⟨rfl, S.out⟩

/-- A return of a struct in a new block and two plain values. -/
theorem bodyPost_cell_tmp2 {P : Program} {fn : Func} {R : Ending → World → Prop} {a : Act} {w : World} {p u t2 : Tmp} {ty : TypeId} (h : fn.results = #[.cell p ty, .tmp u, .tmp t2]) (hdf : a.defers = [])
    (g : Nat) (t : TypeId) (cs : Array Value) (fr : Nat × Nat) (d : TypeDesc) (hp : a.tmps.getD p undef = .pointer (some ⟨g, 0, none⟩)) (hg : w.heap[g]? = some (.cells cs t fr))
    (hu : P.underlying ty = some d) (hd : (match d with | .struct _ | .array _ _ => true | _ => false) = true) (hi : (P.info? ty).map (·.size) = some cs.size)
    (hR : R (.returned (.tuple #[.agg cs, a.tmps.getD u undef, a.tmps.getD t2 undef])) w) : bodyPost P fn R .ret a w := by
  refine bodyPost_ret_by ?_ hdf hR
  have hp' : a.tmps[p]?.getD undef = .pointer (some ⟨g, 0, none⟩) := by simpa using hp
  simp [results, h, hp', asAddr, Result.andThen, run_loadVar_row w g t ty cs fr d hg hu hd hi]

set_option maxRecDepth 20000 in
set_option maxHeartbeats 1000000 in
theorem readerOp_at (bs : List Nat) (hb : ∀ c ∈ bs, c < 256) (hl : bs.length ≤ 1000000000000) (R : Nat) (v u0 u1 : Value) (w : World) (ty : TypeId) (h : Blk R ty [u0, u1, .bool false] w) (hr : RdB w v bs) (ha : 0 < bs.length → v.ownBlock ≠ some R) :
    Calls Try.prog 45 #[.pointer (some ⟨R, 0, none⟩), v, .int .i64 0] w fun e w' => (∃ p : Int, e = .returned (.tuple #[opV (opR bs (some 0)).1, .int .i64 p, .bool (opR bs (some 0)).2.isSome]) ∧ ∀ q, (opR bs (some 0)).2 = some q → p = (q : Int)) ∧ w.grownBy w' (some R) := by
  have SK : Hid (∀ w, Blk R ty [u0, u1, .bool false] w → RdB w v bs → Calls Try.prog 68 #[.pointer (some ⟨R, 0, none⟩), v, .int .i64 0] w fun e w' => e = .returned (.tuple #[]) ∧ RS bs R v (some 0) w' ∧ w.grownBy w' (some R)) := fun w h hr => seek_at bs R v u0 u1 0 w ty h (Nat.zero_le _) hr ha
  have OF : Hid (∀ w, RS bs R v (some 0) w → Calls Try.prog 69 #[.pointer (some ⟨R, 0, none⟩)] w fun e w' => e = .returned (opV (opR bs (some 0)).1) ∧ RS bs R v (opR bs (some 0)).2 w' ∧ w.grownBy w' (some R)) := fun w h => opFields_at bs hb hl R v (some 0) w h
  have hR := h.lt
  have hV : Hid (∀ g, w.heap.size ≤ g → 0 < bs.length → v.ownBlock ≠ some g) := fun g hg h0 e => by
    have := Rd.block hr (by rw [List.length_map]; exact h0) e
    omega
  generalize (opR bs (some 0)).2 = so at *
  generalize (opR bs (some 0)).1 = o at *
  obtain ⟨f0, f1, f2, f3, f4, f5, f6⟩ := o
  unfold opV at *
  simp only at *
  have BA := below_alloc w (.cells #[.int .i64 0, .int .i64 0, .int .i64 0, .int .i64 0, .int .i64 0, .int .i64 0, .string ⟨#[]⟩] 23)
  have BD0 := Blk.new 23 [.int .i64 0, .int .i64 0, .int .i64 0, .int .i64 0, .int .i64 0, .int .i64 0, .string ⟨#[]⟩] w
  have h1 := h.below BA
  have r1 := Rd.later hr BA
  obtain ⟨D, hDe⟩ : ∃ D, w.heap.size = D := ⟨_, rfl⟩
  have GA := grownBy_below BA (some R)
  go_enter Try.func45, Try.ntmps45
  go_wp2_with fail
  rw [hDe] at BD0 hR hV
  have GA2 : w.grownBy (w.alloc (.cells #[.int .i64 0, .int .i64 0, .int .i64 0, .int .i64 0, .int .i64 0, .int .i64 0, .string ⟨#[]⟩] 23)) (some R) := GA
  have hDe' : Hid (w.heap.size = D) := hDe
  clear h hr BA hDe GA
  generalize w.alloc (.cells #[.int .i64 0, .int .i64 0, .int .i64 0, .int .i64 0, .int .i64 0, .int .i64 0, .string ⟨#[]⟩] 23) = W0 at *
  refine (SK.out _ h1 r1).mono ?_
  rintro e w1 ⟨rfl, s1, g1⟩
  have BD1 : Blk D 23 [.int .i64 0, .int .i64 0, .int .i64 0, .int .i64 0, .int .i64 0, .int .i64 0, .string ⟨#[]⟩] w1 := Blk.grown BD0 g1 (by omega)
  have G1 := grownBy_trans GA2 g1
  clear h1 r1 BD0 GA2 g1
  go_wp2_with fail
  refine (OF.out _ s1).mono ?_
  rintro e w2 ⟨rfl, s2, g2⟩
  have BD2 : Blk D 23 [.int .i64 0, .int .i64 0, .int .i64 0, .int .i64 0, .int .i64 0, .int .i64 0, .string ⟨#[]⟩] w2 := Blk.grown BD1 g2 (by omega)
  have G2 := grownBy_trans G1 g2
  clear s1 BD1 G1 g2
  have BA2 := below_alloc w2 (.cells #[.int .i64 f0, .int .i64 f1, .int .i64 f2, .int .i64 f3, .int .i64 f4, .int .i64 f5, .string f6] 23)
  have BG3 := Blk.new 23 [.int .i64 f0, .int .i64 f1, .int .i64 f2, .int .i64 f3, .int .i64 f4, .int .i64 f5, .string f6] w2
  have BD3 := BD2.below BA2
  have S3 := s2.below BA2
  have G3 := grownBy_trans G2 (grownBy_below BA2 (some R))
  obtain ⟨G, hGe⟩ : ∃ G, w2.heap.size = G := ⟨_, rfl⟩
  have hDG : D < G := by have := BD2.lt; omega
  go_wp2_with fail
  rw [hGe] at BG3
  have BG4 : Blk G 23 [.int .i64 f0, .int .i64 f1, .int .i64 f2, .int .i64 f3, .int .i64 f4, .int .i64 f5, .string f6] (w2.alloc (.cells #[.int .i64 f0, .int .i64 f1, .int .i64 f2, .int .i64 f3, .int .i64 f4, .int .i64 f5, .string f6] 23)) := BG3
  clear BG3 BA2 s2 BD2 G2 hGe
  generalize w2.alloc (.cells #[.int .i64 f0, .int .i64 f1, .int .i64 f2, .int .i64 f3, .int .i64 f4, .int .i64 f5, .string f6] 23) = W3 at *
  obtain ⟨p, c1, hp⟩ := S3.c1
  have c2 := S3.c2
  have ld0 := BG4.cell 0 _ rfl
  have lz0 := BD3.cell 0 _ rfl
  have lf0 := BD3.fz 0
  have ld1 := BG4.cell 1 _ rfl
  have lz1 := BD3.cell 1 _ rfl
  have lf1 := BD3.fz 1
  have ld2 := BG4.cell 2 _ rfl
  have lz2 := BD3.cell 2 _ rfl
  have lf2 := BD3.fz 2
  have ld3 := BG4.cell 3 _ rfl
  have lz3 := BD3.cell 3 _ rfl
  have lf3 := BD3.fz 3
  have ld4 := BG4.cell 4 _ rfl
  have lz4 := BD3.cell 4 _ rfl
  have lf4 := BD3.fz 4
  have ld5 := BG4.cell 5 _ rfl
  have lz5 := BD3.cell 5 _ rfl
  have lf5 := BD3.fz 5
  have ld6 := BG4.cell 6 _ rfl
  have lz6 := BD3.cell 6 _ rfl
  have lf6 := BD3.fz 6
  have HP : Hid (∀ q, so = some q → p = (q : Int)) := hp
  have S3' : Hid (RS bs R v so W3) := S3
  clear S3 hp
  obtain ⟨nb, hnb⟩ : ∃ b, so.isNone = b := ⟨_, rfl⟩
  have NB : Hid (so.isSome = !nb) := by show _ = _; rw [← hnb]; cases so <;> rfl
  rw [hnb] at c2
  clear hnb
  obtain ⟨b7, g7⟩ := Blk.seven BD3 (.int .i64 f0) (.int .i64 f1) (.int .i64 f2) (.int .i64 f3) (.int .i64 f4) (.int .i64 f5) (.string f6)
  have GF : w.grownBy (((((((W3.setCell ⟨D, 0, none⟩ (.int .i64 f0)).setCell ⟨D, 1, none⟩ (.int .i64 f1)).setCell ⟨D, 2, none⟩ (.int .i64 f2)).setCell ⟨D, 3, none⟩ (.int .i64 f3)).setCell ⟨D, 4, none⟩ (.int .i64 f4)).setCell ⟨D, 5, none⟩ (.int .i64 f5)).setCell ⟨D, 6, none⟩ (.string f6)) (some R) := ⟨g7.os.trans G3.os, g7.tape.trans G3.tape, g7.output.trans G3.output, Nat.le_trans G3.size g7.size, fun k hk hn => (g7.block k (Nat.lt_of_lt_of_le hk G3.size) (fun e => by injection e with e; have := hDe'.out; omega)).trans (G3.block k hk hn)⟩
  have B7 : Hid (Blk D 23 [.int .i64 f0, .int .i64 f1, .int .i64 f2, .int .i64 f3, .int .i64 f4, .int .i64 f5, .string f6] (((((((W3.setCell ⟨D, 0, none⟩ (.int .i64 f0)).setCell ⟨D, 1, none⟩ (.int .i64 f1)).setCell ⟨D, 2, none⟩ (.int .i64 f2)).setCell ⟨D, 3, none⟩ (.int .i64 f3)).setCell ⟨D, 4, none⟩ (.int .i64 f4)).setCell ⟨D, 5, none⟩ (.int .i64 f5)).setCell ⟨D, 6, none⟩ (.string f6))) := b7
  have GF' : Hid (w.grownBy (((((((W3.setCell ⟨D, 0, none⟩ (.int .i64 f0)).setCell ⟨D, 1, none⟩ (.int .i64 f1)).setCell ⟨D, 2, none⟩ (.int .i64 f2)).setCell ⟨D, 3, none⟩ (.int .i64 f3)).setCell ⟨D, 4, none⟩ (.int .i64 f4)).setCell ⟨D, 5, none⟩ (.int .i64 f5)).setCell ⟨D, 6, none⟩ (.string f6)) (some R)) := GF
  clear b7 g7 GF BD3 BG4 G3
  go_region
  generalize (((((((W3.setCell ⟨D, 0, none⟩ (.int .i64 f0)).setCell ⟨D, 1, none⟩ (.int .i64 f1)).setCell ⟨D, 2, none⟩ (.int .i64 f2)).setCell ⟨D, 3, none⟩ (.int .i64 f3)).setCell ⟨D, 4, none⟩ (.int .i64 f4)).setCell ⟨D, 5, none⟩ (.int .i64 f5)).setCell ⟨D, 6, none⟩ (.string f6)) = W7 at *
  go_wp2_with fail
  refine bodyPost_cell_tmp2 rfl rfl D _ _ _ _ rfl B7.out Try.underlying23 rfl (by kernel_rfl) ⟨⟨p, ?_, HP.out⟩, ?_⟩
  · rw [NB.out]; rfl
  · exact ⟨GF'.out.os, GF'.out.tape, GF'.out.output, GF'.out.size, GF'.out.block⟩
end Go.Proofs.Ytdbjjeaflfoppaa
