/-
  Ours: the program's whole and DecodeOp.
-/
import Derived.Test.YtdbjjeaflfoppaaWirDecode
namespace Go.Proofs.Ytdbjjeaflfoppaa
open Go.RowKit

def opZ : OpV := ⟨0, 0, 0, 0, 0, 0, ⟨#[]⟩⟩
/-- What bytes read as, whole. -/
def decO (bs : List Nat) : OpV × Bool := match (opR bs (some 0)).2 with
  | some q => if q = bs.length then ((opR bs (some 0)).1, true) else (opZ, false)
  | none => (opZ, false)

/-- A return of a struct in a new block and a plain value. -/
theorem bodyPost_cell_tmp {P : Program} {fn : Func} {R : Ending → World → Prop} {a : Act} {w : World} {p u : Tmp} {ty : TypeId} (h : fn.results = #[.cell p ty, .tmp u]) (hdf : a.defers = [])
    (g : Nat) (t : TypeId) (cs : Array Value) (fr : Nat × Nat) (d : TypeDesc) (hp : a.tmps.getD p undef = .pointer (some ⟨g, 0, none⟩)) (hg : w.heap[g]? = some (.cells cs t fr))
    (hu : P.underlying ty = some d) (hd : (match d with | .struct _ | .array _ _ => true | _ => false) = true) (hi : (P.info? ty).map (·.size) = some cs.size)
    (hR : R (.returned (.tuple #[.agg cs, a.tmps.getD u undef])) w) : bodyPost P fn R .ret a w := by
  refine bodyPost_ret_by ?_ hdf hR
  rw [results_cell_tmp h]
  have hp' : a.tmps[p]?.getD undef = .pointer (some ⟨g, 0, none⟩) := by simpa using hp
  simp [hp', asAddr, Result.andThen, run_loadVar_row w g t ty cs fr d hg hu hd hi]

theorem grown_more {w a b : World} {R D : Nat} (h : w.grownBy a (some R)) (k : a.grownBy b (some D)) (hD : w.heap.size ≤ D) : w.grownBy b (some R) :=
  ⟨k.os.trans h.os, k.tape.trans h.tape, k.output.trans h.output, Nat.le_trans h.size k.size, fun i hi hn => (k.block i (Nat.lt_of_lt_of_le hi h.size) (fun e => by injection e with e; omega)).trans (h.block i hi hn)⟩

set_option maxRecDepth 20000 in
set_option maxHeartbeats 1000000 in
theorem wholeOp_at (bs : List Nat) (hb : ∀ c ∈ bs, c < 256) (hl : bs.length ≤ 1000000000000) (R : Nat) (v u0 u1 : Value) (w : World) (ty : TypeId) (h : Blk R ty [u0, u1, .bool false] w) (hr : RdB w v bs) (ha : 0 < bs.length → v.ownBlock ≠ some R) :
    Calls Try.prog 44 #[v, .func (.func 45) #[.pointer (some ⟨R, 0, none⟩)] #[]] w fun e w' => e = .returned (.tuple #[opV (decO bs).1, .bool (decO bs).2]) ∧ w.grownBy w' (some R) := by
  have OP : Hid (∀ w, Blk R ty [u0, u1, .bool false] w → RdB w v bs → Calls Try.prog 45 #[.pointer (some ⟨R, 0, none⟩), v, .int .i64 0] w fun e w' => (∃ p : Int, e = .returned (.tuple #[opV (opR bs (some 0)).1, .int .i64 p, .bool (opR bs (some 0)).2.isSome]) ∧ ∀ q, (opR bs (some 0)).2 = some q → p = (q : Int)) ∧ w.grownBy w' (some R)) := fun w h hr => readerOp_at bs hb hl R v u0 u1 w ty h hr ha
  have DE : Hid (decO bs = match (opR bs (some 0)).2 with | some q => if q = bs.length then ((opR bs (some 0)).1, true) else (opZ, false) | none => (opZ, false)) := rfl
  have hR := h.lt
  obtain ⟨L, hL⟩ : ∃ L, bs.length = L := ⟨_, rfl⟩
  obtain ⟨ao, cap, ev, _, _⟩ := hr.len
  have hl' : L ≤ 1000000000000 := by omega
  rw [List.length_map, hL] at ev
  subst ev
  rw [hL] at DE
  generalize decO bs = dd at *
  generalize (opR bs (some 0)).2 = so at *
  generalize (opR bs (some 0)).1 = o at *
  obtain ⟨f0, f1, f2, f3, f4, f5, f6⟩ := o
  have BA := below_alloc w (.cells #[.int .i64 0, .int .i64 0, .int .i64 0, .int .i64 0, .int .i64 0, .int .i64 0, .string ⟨#[]⟩] 23)
  have BD0 := Blk.new 23 [.int .i64 0, .int .i64 0, .int .i64 0, .int .i64 0, .int .i64 0, .int .i64 0, .string ⟨#[]⟩] w
  have h1 := h.below BA
  have r1 := Rd.later hr BA
  obtain ⟨D, hDe⟩ : ∃ D, w.heap.size = D := ⟨_, rfl⟩
  have GA := grownBy_below BA (some R)
  go_enter Try.func44, Try.ntmps44
  go_wp2_with fail
  rw [hDe] at BD0 hR
  have hDe' : Hid (w.heap.size = D) := hDe
  clear h hr BA hDe hL
  generalize w.alloc (.cells #[.int .i64 0, .int .i64 0, .int .i64 0, .int .i64 0, .int .i64 0, .int .i64 0, .string ⟨#[]⟩] 23) = W0 at *
  refine (OP.out _ h1 r1).mono ?_
  rintro e w2 ⟨⟨p, rfl, hp⟩, g2⟩
  unfold opV
  simp only
  have BD2 : Blk D 23 [.int .i64 0, .int .i64 0, .int .i64 0, .int .i64 0, .int .i64 0, .int .i64 0, .string ⟨#[]⟩] w2 := Blk.grown BD0 g2 (by omega)
  have G2 := grownBy_trans GA g2
  clear BD0 GA g2 h1 r1
  have BA2 := below_alloc w2 (.cells #[.int .i64 f0, .int .i64 f1, .int .i64 f2, .int .i64 f3, .int .i64 f4, .int .i64 f5, .string f6] 23)
  have BG3 := Blk.new 23 [.int .i64 f0, .int .i64 f1, .int .i64 f2, .int .i64 f3, .int .i64 f4, .int .i64 f5, .string f6] w2
  have BD3 := BD2.below BA2
  have G3 := grownBy_trans G2 (grownBy_below BA2 (some R))
  obtain ⟨G, hGe⟩ : ∃ G, w2.heap.size = G := ⟨_, rfl⟩
  have HP : Hid (∀ q, so = some q → p = (q : Int)) := hp
  clear hp
  by_cases ok : so = some L
  · subst ok
    obtain rfl := HP.out L rfl
    obtain rfl : dd = (⟨f0, f1, f2, f3, f4, f5, f6⟩, true) := by have := DE.out; simpa using this
    have e0 : ((L : Int) != (L : Int)) = false := by simp
    simp only [Option.isSome]
    have BG4 : Blk G 23 [.int .i64 f0, .int .i64 f1, .int .i64 f2, .int .i64 f3, .int .i64 f4, .int .i64 f5, .string f6] (w2.alloc (.cells #[.int .i64 f0, .int .i64 f1, .int .i64 f2, .int .i64 f3, .int .i64 f4, .int .i64 f5, .string f6] 23)) := by rw [← hGe]; exact BG3
    obtain ⟨b7, g7⟩ := Blk.seven BD3 (.int .i64 f0) (.int .i64 f1) (.int .i64 f2) (.int .i64 f3) (.int .i64 f4) (.int .i64 f5) (.string f6)
    have GF := grown_more G3 g7 (Nat.le_of_eq hDe'.out)
    have ld0 := BG4.cell 0 _ rfl
    have lz0 := BD3.cell 0 _ rfl
    have lf0 := BD3.fz 0
    have ld1 := BG4.cell 1 _ rfl
    have lz1 := BD3.cell 1 _ rfl
    have lf1 := BD3.fz 1
    have ld2 := BG4.cell 2 _ rfl
    have lz2 := BD3.cell 2 _ rfl
    have lf2 := BD3.fz 2
    have ld3 := BG4.cell 3 _ rfl
    have lz3 := BD3.cell 3 _ rfl
    have lf3 := BD3.fz 3
    have ld4 := BG4.cell 4 _ rfl
    have lz4 := BD3.cell 4 _ rfl
    have lf4 := BD3.fz 4
    have ld5 := BG4.cell 5 _ rfl
    have lz5 := BD3.cell 5 _ rfl
    have lf5 := BD3.fz 5
    have ld6 := BG4.cell 6 _ rfl
    have lz6 := BD3.cell 6 _ rfl
    have lf6 := BD3.fz 6
    have B7 : Hid (Blk D 23 [.int .i64 f0, .int .i64 f1, .int .i64 f2, .int .i64 f3, .int .i64 f4, .int .i64 f5, .string f6] ((((((((w2.alloc (.cells #[.int .i64 f0, .int .i64 f1, .int .i64 f2, .int .i64 f3, .int .i64 f4, .int .i64 f5, .string f6] 23)).setCell ⟨D, 0, none⟩ (.int .i64 f0)).setCell ⟨D, 1, none⟩ (.int .i64 f1)).setCell ⟨D, 2, none⟩ (.int .i64 f2)).setCell ⟨D, 3, none⟩ (.int .i64 f3)).setCell ⟨D, 4, none⟩ (.int .i64 f4)).setCell ⟨D, 5, none⟩ (.int .i64 f5)).setCell ⟨D, 6, none⟩ (.string f6))) := b7
    have GF' : Hid (w.grownBy ((((((((w2.alloc (.cells #[.int .i64 f0, .int .i64 f1, .int .i64 f2, .int .i64 f3, .int .i64 f4, .int .i64 f5, .string f6] 23)).setCell ⟨D, 0, none⟩ (.int .i64 f0)).setCell ⟨D, 1, none⟩ (.int .i64 f1)).setCell ⟨D, 2, none⟩ (.int .i64 f2)).setCell ⟨D, 3, none⟩ (.int .i64 f3)).setCell ⟨D, 4, none⟩ (.int .i64 f4)).setCell ⟨D, 5, none⟩ (.int .i64 f5)).setCell ⟨D, 6, none⟩ (.string f6)) (some R)) := GF
    clear b7 g7 GF BG3 BG4 BD3 G3 BA2 BD2 G2 DE OP
    go_wp2_with fail
    generalize w2.alloc (.cells #[.int .i64 f0, .int .i64 f1, .int .i64 f2, .int .i64 f3, .int .i64 f4, .int .i64 f5, .string f6] 23) = W3 at *
    generalize (((((((W3.setCell ⟨D, 0, none⟩ (.int .i64 f0)).setCell ⟨D, 1, none⟩ (.int .i64 f1)).setCell ⟨D, 2, none⟩ (.int .i64 f2)).setCell ⟨D, 3, none⟩ (.int .i64 f3)).setCell ⟨D, 4, none⟩ (.int .i64 f4)).setCell ⟨D, 5, none⟩ (.int .i64 f5)).setCell ⟨D, 6, none⟩ (.string f6)) = W7 at *
    exact bodyPost_cell_tmp rfl rfl D _ _ _ _ rfl B7.out Try.underlying23 rfl (by kernel_rfl) ⟨rfl, GF'.out⟩
  · obtain rfl : dd = (opZ, false) := by
      have := DE.out
      cases so with
      | none => exact this
      | some q => simp only at this; rw [if_neg (fun e => ok (by rw [e]))] at this; exact this
    have BA3 := below_alloc (w2.alloc (.cells #[.int .i64 f0, .int .i64 f1, .int .i64 f2, .int .i64 f3, .int .i64 f4, .int .i64 f5, .string f6] 23)) (.cells #[.int .i64 0, .int .i64 0, .int .i64 0, .int .i64 0, .int .i64 0, .int .i64 0, .string ⟨#[]⟩] 23)
    have BH := Blk.new 23 [.int .i64 0, .int .i64 0, .int .i64 0, .int .i64 0, .int .i64 0, .int .i64 0, .string ⟨#[]⟩] (w2.alloc (.cells #[.int .i64 f0, .int .i64 f1, .int .i64 f2, .int .i64 f3, .int .i64 f4, .int .i64 f5, .string f6] 23))
    have BD4 := BD3.below BA3
    have G4 := grownBy_trans G3 (grownBy_below BA3 (some R))
    obtain ⟨H, hHe⟩ : ∃ H, (w2.alloc (.cells #[.int .i64 f0, .int .i64 f1, .int .i64 f2, .int .i64 f3, .int .i64 f4, .int .i64 f5, .string f6] 23)).heap.size = H := ⟨_, rfl⟩
    have hHe2 : w2.heap.size + 1 = H := by rw [← hHe]; simp
    have BH4 : Blk H 23 [.int .i64 0, .int .i64 0, .int .i64 0, .int .i64 0, .int .i64 0, .int .i64 0, .string ⟨#[]⟩] ((w2.alloc (.cells #[.int .i64 f0, .int .i64 f1, .int .i64 f2, .int .i64 f3, .int .i64 f4, .int .i64 f5, .string f6] 23)).alloc (.cells #[.int .i64 0, .int .i64 0, .int .i64 0, .int .i64 0, .int .i64 0, .int .i64 0, .string ⟨#[]⟩] 23)) := by rw [← hHe]; exact BH
    obtain ⟨b7, g7⟩ := Blk.seven BD4 (.int .i64 0) (.int .i64 0) (.int .i64 0) (.int .i64 0) (.int .i64 0) (.int .i64 0) (.string ⟨#[]⟩)
    have GF := grown_more G4 g7 (Nat.le_of_eq hDe'.out)
    have ld0 := BH4.cell 0 _ rfl
    have lz0 := BD4.cell 0 _ rfl
    have lf0 := BD4.fz 0
    have ld1 := BH4.cell 1 _ rfl
    have lz1 := BD4.cell 1 _ rfl
    have lf1 := BD4.fz 1
    have ld2 := BH4.cell 2 _ rfl
    have lz2 := BD4.cell 2 _ rfl
    have lf2 := BD4.fz 2
    have ld3 := BH4.cell 3 _ rfl
    have lz3 := BD4.cell 3 _ rfl
    have lf3 := BD4.fz 3
    have ld4 := BH4.cell 4 _ rfl
    have lz4 := BD4.cell 4 _ rfl
    have lf4 := BD4.fz 4
    have ld5 := BH4.cell 5 _ rfl
    have lz5 := BD4.cell 5 _ rfl
    have lf5 := BD4.fz 5
    have ld6 := BH4.cell 6 _ rfl
    have lz6 := BD4.cell 6 _ rfl
    have lf6 := BD4.fz 6
    have B7 : Hid (Blk D 23 [.int .i64 0, .int .i64 0, .int .i64 0, .int .i64 0, .int .i64 0, .int .i64 0, .string ⟨#[]⟩] (((((((((w2.alloc (.cells #[.int .i64 f0, .int .i64 f1, .int .i64 f2, .int .i64 f3, .int .i64 f4, .int .i64 f5, .string f6] 23)).alloc (.cells #[.int .i64 0, .int .i64 0, .int .i64 0, .int .i64 0, .int .i64 0, .int .i64 0, .string ⟨#[]⟩] 23)).setCell ⟨D, 0, none⟩ (.int .i64 0)).setCell ⟨D, 1, none⟩ (.int .i64 0)).setCell ⟨D, 2, none⟩ (.int .i64 0)).setCell ⟨D, 3, none⟩ (.int .i64 0)).setCell ⟨D, 4, none⟩ (.int .i64 0)).setCell ⟨D, 5, none⟩ (.int .i64 0)).setCell ⟨D, 6, none⟩ (.string ⟨#[]⟩))) := b7
    have GF' : Hid (w.grownBy (((((((((w2.alloc (.cells #[.int .i64 f0, .int .i64 f1, .int .i64 f2, .int .i64 f3, .int .i64 f4, .int .i64 f5, .string f6] 23)).alloc (.cells #[.int .i64 0, .int .i64 0, .int .i64 0, .int .i64 0, .int .i64 0, .int .i64 0, .string ⟨#[]⟩] 23)).setCell ⟨D, 0, none⟩ (.int .i64 0)).setCell ⟨D, 1, none⟩ (.int .i64 0)).setCell ⟨D, 2, none⟩ (.int .i64 0)).setCell ⟨D, 3, none⟩ (.int .i64 0)).setCell ⟨D, 4, none⟩ (.int .i64 0)).setCell ⟨D, 5, none⟩ (.int .i64 0)).setCell ⟨D, 6, none⟩ (.string ⟨#[]⟩)) (some R)) := GF
    clear b7 g7 GF BG3 BH BH4 BD3 BD4 G3 G4 BA2 BA3 BD2 G2 DE OP
    rw [hGe] at hHe2
    cases so with
    | none =>
      simp only [Option.isSome]
      go_wp2_with fail
      generalize (((((((((w2.alloc (.cells #[.int .i64 f0, .int .i64 f1, .int .i64 f2, .int .i64 f3, .int .i64 f4, .int .i64 f5, .string f6] 23)).alloc (.cells #[.int .i64 0, .int .i64 0, .int .i64 0, .int .i64 0, .int .i64 0, .int .i64 0, .string ⟨#[]⟩] 23)).setCell ⟨D, 0, none⟩ (.int .i64 0)).setCell ⟨D, 1, none⟩ (.int .i64 0)).setCell ⟨D, 2, none⟩ (.int .i64 0)).setCell ⟨D, 3, none⟩ (.int .i64 0)).setCell ⟨D, 4, none⟩ (.int .i64 0)).setCell ⟨D, 5, none⟩ (.int .i64 0)).setCell ⟨D, 6, none⟩ (.string ⟨#[]⟩)) = W7 at *
      exact bodyPost_cell_tmp rfl rfl D _ _ _ _ rfl B7.out Try.underlying23 rfl (by kernel_rfl) ⟨rfl, GF'.out⟩
    | some q =>
      obtain rfl := HP.out q rfl
      have e0 : ((q : Int) != (L : Int)) = true := by rw [bne_iff_ne]; intro h; exact ok (by rw [show q = L by omega])
      simp only [Option.isSome]
      go_wp2_with fail
      generalize (((((((((w2.alloc (.cells #[.int .i64 f0, .int .i64 f1, .int .i64 f2, .int .i64 f3, .int .i64 f4, .int .i64 f5, .string f6] 23)).alloc (.cells #[.int .i64 0, .int .i64 0, .int .i64 0, .int .i64 0, .int .i64 0, .int .i64 0, .string ⟨#[]⟩] 23)).setCell ⟨D, 0, none⟩ (.int .i64 0)).setCell ⟨D, 1, none⟩ (.int .i64 0)).setCell ⟨D, 2, none⟩ (.int .i64 0)).setCell ⟨D, 3, none⟩ (.int .i64 0)).setCell ⟨D, 4, none⟩ (.int .i64 0)).setCell ⟨D, 5, none⟩ (.int .i64 0)).setCell ⟨D, 6, none⟩ (.string ⟨#[]⟩)) = W7 at *
      exact bodyPost_cell_tmp rfl rfl D _ _ _ _ rfl B7.out Try.underlying23 rfl (by kernel_rfl) ⟨rfl, GF'.out⟩

set_option maxRecDepth 20000 in
set_option maxHeartbeats 1000000 in
theorem decodeOp_at (bs : List Nat) (hb : ∀ c ∈ bs, c < 256) (hl : bs.length ≤ 1000000000000) (v : Value) (w : World) (hr : RdB w v bs) :
    Calls Try.prog 17 #[v] w fun e w' => e = .returned (.tuple #[opV (decO bs).1, .bool (decO bs).2]) ∧ Below w.heap.size w w' := by
  have BA := below_alloc w (.cells #[.int .i64 0, .int .i64 0, .int .i64 0, .int .i64 0, .int .i64 0, .int .i64 0, .string ⟨#[]⟩] 23)
  have BD0 := Blk.new 23 [.int .i64 0, .int .i64 0, .int .i64 0, .int .i64 0, .int .i64 0, .int .i64 0, .string ⟨#[]⟩] w
  have BA1 := below_alloc (w.alloc (.cells #[.int .i64 0, .int .i64 0, .int .i64 0, .int .i64 0, .int .i64 0, .int .i64 0, .string ⟨#[]⟩] 23)) (.cells #[.slice none 0 0, .int .i64 0, .bool false] 92)
  have BR1 := Blk.new 92 [.slice none 0 0, .int .i64 0, .bool false] (w.alloc (.cells #[.int .i64 0, .int .i64 0, .int .i64 0, .int .i64 0, .int .i64 0, .int .i64 0, .string ⟨#[]⟩] 23))
  have BD1 := BD0.below BA1
  have BB := below_trans BA BA1
  have hr1 := Rd.later hr BB
  obtain ⟨D, hDe⟩ : ∃ D, w.heap.size = D := ⟨_, rfl⟩
  obtain ⟨R, hRe⟩ : ∃ R, (w.alloc (.cells #[.int .i64 0, .int .i64 0, .int .i64 0, .int .i64 0, .int .i64 0, .int .i64 0, .string ⟨#[]⟩] 23)).heap.size = R := ⟨_, rfl⟩
  have hRe2 : D + 1 = R := by rw [← hRe, ← hDe]; simp
  have hV : 0 < bs.length → v.ownBlock ≠ some R := fun h0 e => by
    have := Rd.block hr (by rw [List.length_map]; exact h0) e
    omega
  have WH : Hid (∀ w, Blk R 92 [.slice none 0 0, .int .i64 0, .bool false] w → RdB w v bs → Calls Try.prog 44 #[v, .func (.func 45) #[.pointer (some ⟨R, 0, none⟩)] #[]] w fun e w' => e = .returned (.tuple #[opV (decO bs).1, .bool (decO bs).2]) ∧ w.grownBy w' (some R)) := fun w h hr => wholeOp_at bs hb hl R v _ _ w 92 h hr hV
  rw [hRe] at BR1
  rw [hDe] at BD1
  generalize (decO bs).2 = kk at *
  generalize (decO bs).1 = o at *
  obtain ⟨f0, f1, f2, f3, f4, f5, f6⟩ := o
  unfold opV at *
  simp only at *
  have hDe' : Hid (w.heap.size = D) := hDe
  clear BD0 BA BA1 hr hb hl hV
  go_enter Try.func17, Try.ntmps17
  go_wp2_with fail
  clear hRe hDe
  generalize (w.alloc (.cells #[.int .i64 0, .int .i64 0, .int .i64 0, .int .i64 0, .int .i64 0, .int .i64 0, .string ⟨#[]⟩] 23)).alloc (.cells #[.slice none 0 0, .int .i64 0, .bool false] 92) = W0 at *
  refine (WH.out _ BR1 hr1).mono ?_
  rintro e w2 ⟨rfl, g2⟩
  have BD3 : Blk D 23 [.int .i64 0, .int .i64 0, .int .i64 0, .int .i64 0, .int .i64 0, .int .i64 0, .string ⟨#[]⟩] w2 := Blk.grown BD1 g2 (by omega)
  have GW : Below w.heap.size w w2 := ⟨g2.os.trans BB.os, g2.tape.trans BB.tape, g2.output.trans BB.output, Nat.le_trans BB.size g2.size, fun k hk => (g2.block k (Nat.lt_of_lt_of_le hk BB.size) (fun e => by injection e with e; have := hDe'.out; omega)).trans (BB.block k hk)⟩
  obtain ⟨b7, g7⟩ := Blk.seven BD3 (.int .i64 f0) (.int .i64 f1) (.int .i64 f2) (.int .i64 f3) (.int .i64 f4) (.int .i64 f5) (.string f6)
  have lz0 := BD3.cell 0 _ rfl
  have lf0 := BD3.fz 0
  have lz1 := BD3.cell 1 _ rfl
  have lf1 := BD3.fz 1
  have lz2 := BD3.cell 2 _ rfl
  have lf2 := BD3.fz 2
  have lz3 := BD3.cell 3 _ rfl
  have lf3 := BD3.fz 3
  have lz4 := BD3.cell 4 _ rfl
  have lf4 := BD3.fz 4
  have lz5 := BD3.cell 5 _ rfl
  have lf5 := BD3.fz 5
  have lz6 := BD3.cell 6 _ rfl
  have lf6 := BD3.fz 6
  have GF : Hid (Below w.heap.size w (((((((w2.setCell ⟨D, 0, none⟩ (.int .i64 f0)).setCell ⟨D, 1, none⟩ (.int .i64 f1)).setCell ⟨D, 2, none⟩ (.int .i64 f2)).setCell ⟨D, 3, none⟩ (.int .i64 f3)).setCell ⟨D, 4, none⟩ (.int .i64 f4)).setCell ⟨D, 5, none⟩ (.int .i64 f5)).setCell ⟨D, 6, none⟩ (.string f6))) := ⟨g7.os.trans GW.os, g7.tape.trans GW.tape, g7.output.trans GW.output, Nat.le_trans GW.size g7.size, fun k hk => (g7.block k (Nat.lt_of_lt_of_le hk GW.size) (fun e => by injection e with e; have := hDe'.out; omega)).trans (GW.block k hk)⟩
  have B7 : Hid (Blk D 23 [.int .i64 f0, .int .i64 f1, .int .i64 f2, .int .i64 f3, .int .i64 f4, .int .i64 f5, .string f6] (((((((w2.setCell ⟨D, 0, none⟩ (.int .i64 f0)).setCell ⟨D, 1, none⟩ (.int .i64 f1)).setCell ⟨D, 2, none⟩ (.int .i64 f2)).setCell ⟨D, 3, none⟩ (.int .i64 f3)).setCell ⟨D, 4, none⟩ (.int .i64 f4)).setCell ⟨D, 5, none⟩ (.int .i64 f5)).setCell ⟨D, 6, none⟩ (.string f6))) := b7
  clear b7 g7 GW BD3 BD1 BR1 hr1 BB g2 WH
  go_wp2_with fail
  generalize (((((((w2.setCell ⟨D, 0, none⟩ (.int .i64 f0)).setCell ⟨D, 1, none⟩ (.int .i64 f1)).setCell ⟨D, 2, none⟩ (.int .i64 f2)).setCell ⟨D, 3, none⟩ (.int .i64 f3)).setCell ⟨D, 4, none⟩ (.int .i64 f4)).setCell ⟨D, 5, none⟩ (.int .i64 f5)).setCell ⟨D, 6, none⟩ (.string f6)) = W7 at *
  exact bodyPost_cell_tmp rfl rfl D _ _ _ _ rfl B7.out Try.underlying23 rfl (by kernel_rfl) ⟨rfl, GF.out⟩
end Go.Proofs.Ytdbjjeaflfoppaa
