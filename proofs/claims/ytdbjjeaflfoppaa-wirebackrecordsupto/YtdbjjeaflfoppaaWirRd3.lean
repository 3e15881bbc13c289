/-
  Ours: the reader's sent, owed and instalment (gen_wrd3.py: THE SEAT's OWN NUMBERS).
-/
import Derived.Test.YtdbjjeaflfoppaaWirRd2
import Derived.Test.YtdbjjeaflfoppaaWirKD
namespace Go.Proofs.Ytdbjjeaflfoppaa
open Go.RowKit WsM

/-- A struct stored over a whole block, in a drawn region. -/
theorem op_putS {ops : Array Oper} {op : Oper} {a : Act} {wr : World} {K : Act → World → Prop} {Q : Exit → Act → World → Prop} {E : Prop} {T : TypeId} {zs : List Value} (vs : List Value) (hl : vs.length = zs.length) (hi : (Try.prog.info? T).map (·.size) = some vs.length) (h1 : ∀ v ∈ vs, v.oneCell' = true) (hgd : op.guard = Option.none) (x y : Operand) (ho : op.op = .store T x y)
    (G : Nat) (hx : a.eval x = .pointer (some ⟨G, 0, Option.none⟩)) (hy : a.eval y = .agg vs.toArray) (hb : Blk G T zs wr)
    (h : ∀ w', Blk G T vs w' → wr.grownBy w' (some G) → K (a.put op.dst undef) w') : if Region.wanted op (yielded ops a.tmps) = true then Oper.wp Try.prog op a wr K Q else E := by
  have hwd : Region.wanted op (yielded ops a.tmps) = true := by simp [Region.wanted, hgd]
  rw [if_pos hwd]
  unfold Oper.wp execOp
  simp only [ho, hx, hy, Instr.storeAt, Instr.sureAddr, Sem.run_bind, Sem.run_pure, Result.andThen_ok, run_storeVar_blk wr G 0 T T zs vs hb (by omega) hi h1]
  have nb := setRow_heap wr G _ (zs.take 0 ++ vs ++ zs.drop (0 + vs.length)).toArray T _ hb
  have g := setRow_grown wr G (zs.take 0 ++ vs ++ zs.drop (0 + vs.length)).toArray
  have e : zs.take 0 ++ vs ++ zs.drop (0 + vs.length) = vs := by rw [Nat.zero_add, hl, List.drop_length]; simp
  rw [e] at nb g ⊢
  exact h _ nb g
/-- A reader of one element answers so. -/
def ElAns {α : Type} (cells : α → List Value) (f : α → List Nat) (Ok : α → Prop) (bs : List Nat) (R : Nat) (v : Value) (p : Nat) (w : World) (e : Ending) (w' : World) : Prop :=
  ∃ (x : α) (y : Int) (st' : Option Nat), e = .returned (.tuple #[.agg (cells x).toArray, .int .i64 y, .bool st'.isSome]) ∧ (∀ q, st' = some q → y = (q : Int)) ∧ RS bs R v st' w' ∧ w.grownBy w' (some R) ∧ Got f Ok bs p st' x
/-- The reader can be set to the place p. -/
def Seeks (bs : List Nat) (R : Nat) (v : Value) (p : Nat) (w : World) : Prop := R < w.heap.size ∧ (0 < bs.length → ∀ g, v.ownBlock = some g → g < w.heap.size) ∧ ∀ W, Below w.heap.size w W → Calls Try.prog 68 #[.pointer (some ⟨R, 0, none⟩), v, .int .i64 (p : Int)] W fun e w' => e = .returned (.tuple #[]) ∧ RS bs R v (some p) w' ∧ W.grownBy w' (some R)
theorem Seeks.of_rs {bs : List Nat} {R q0 : Nat} {v : Value} {p : Nat} {w : World} (h : RS bs R v (some q0) w) (hp : p ≤ bs.length) : Seeks bs R v p w := ⟨h.lt, fun h0 g e => Rd.block h.rd (by rw [List.length_map]; exact h0) e, fun W hb => seekS_at bs R q0 v p W (h.below hb) hp⟩
theorem Seeks.of_blk {bs : List Nat} {R : Nat} {v u0 u1 : Value} {w : World} {ty : TypeId} (h : Blk R ty [u0, u1, .bool false] w) (hr : RdB w v bs) (ha : 0 < bs.length → v.ownBlock ≠ some R) : Seeks bs R v 0 w := ⟨h.lt, fun h0 g e => Rd.block hr (by rw [List.length_map]; exact h0) e, fun W hb => seek_at bs R v u0 u1 0 W ty (h.below hb) (Nat.zero_le _) (Rd.later hr hb) ha⟩
theorem insB_iso {bs : List Nat} {p : Nat} {st : Option Nat} {a b c : Int} {z : Bool} (h : Got (fun ab : List Int × Bool => putFs ab.1 ++ putB ab.2) (fun ab => (ab.1.length = 3 ∧ I64s ab.1) ∧ True) bs p st ([a, b, c], z)) : Got insB Ins.Ok bs p st ⟨a, b, c, z⟩ := by
  have := Got.iso (g := insB) (OB := Ins.Ok) (fun ab : List Int × Bool => (⟨ab.1.getD 0 0, ab.1.getD 1 0, ab.1.getD 2 0, ab.2⟩ : Ins)) (f := fun ab : List Int × Bool => if ab.1.length = 3 then putFs ab.1 ++ putB ab.2 else insB ⟨ab.1.getD 0 0, ab.1.getD 1 0, ab.1.getD 2 0, ab.2⟩) (OA := fun ab => (ab.1.length = 3 ∧ I64s ab.1) ∧ True) (fun ab => ?_) (fun b ob => ?_) (fun ab oa => ?_) (bs := bs) (p := p) (st := st) (a := ([a, b, c], z)) ⟨fun q hq => by simpa using h.yes q hq, fun hn y r oy e => h.no hn y r oy (by rw [e, if_pos oy.1.1])⟩
  · exact this
  · by_cases c3 : ab.1.length = 3
    · rw [if_pos c3]; unfold insB; rw [g3 c3]
    · rw [if_neg c3]
  · exact ⟨([b.due, b.it, b.pr], b.mr), ⟨⟨rfl, ob.f⟩, trivial⟩, rfl⟩
  · refine ⟨?_⟩
    show I64s [ab.1.getD 0 0, ab.1.getD 1 0, ab.1.getD 2 0]
    rw [g3 oa.1.1]; exact oa.1.2
theorem owB_iso {bs : List Nat} {p : Nat} {st : Option Nat} {xs : List Int} {z : Bool} (h : Got (fun ab : List Int × Bool => putFs ab.1 ++ putB ab.2) (fun ab => (ab.1.length = 5 ∧ I64s ab.1) ∧ True) bs p st (xs, z)) : Got owB Nt.Ok bs p st ⟨xs, z⟩ :=
  Got.iso (f := fun ab : List Int × Bool => putFs ab.1 ++ putB ab.2) (g := owB) (OA := fun ab : List Int × Bool => (ab.1.length = 5 ∧ I64s ab.1) ∧ True) (OB := Nt.Ok) (a := (xs, z)) (fun ab : List Int × Bool => (⟨ab.1, ab.2⟩ : Nt)) (fun _ => rfl) (fun b ob => ⟨(b.f, b.ak), ⟨⟨ob.fL, ob.f⟩, trivial⟩, rfl⟩) (fun _ oa => ⟨oa.1.1, oa.1.2⟩) h
/-- What a sent notice tells: its five numbers. -/
theorem ntB_iso {bs : List Nat} {p : Nat} {st : Option Nat} {xs : List Int} (h : Got putFs (fun xs : List Int => xs.length = 5 ∧ I64s xs) bs p st xs) : Got ntB (fun n : Nt => n.Ok ∧ n.ak = false) bs p st ⟨xs, false⟩ :=
  Got.iso (f := putFs) (g := ntB) (OA := fun xs : List Int => xs.length = 5 ∧ I64s xs) (OB := fun n : Nt => n.Ok ∧ n.ak = false) (a := xs) (fun xs : List Int => (⟨xs, false⟩ : Nt)) (fun _ => rfl) (fun b ob => ⟨b.f, ⟨ob.1.fL, ob.1.f⟩, by cases b; simp only at ob ⊢; rw [ob.2]⟩) (fun _ oa => ⟨⟨oa.1, oa.2⟩, rfl⟩) h
set_option maxRecDepth 20000 in
set_option maxHeartbeats 4000000 in
theorem sent_at (bs : List Nat) (hb : ∀ c ∈ bs, c < 256) (hl : bs.length ≤ 1000000000000) (R : Nat) (v : Value) (p : Nat) (w : World) (h : Seeks bs R v p w) :
    Calls Try.prog 52 #[.pointer (some ⟨R, 0, none⟩), v, .int .i64 (p : Int)] w (ElAns ntL ntB (fun n : Nt => n.Ok ∧ n.ak = false) bs R v p w) := by
  have NF : Hid (∀ W s, RS bs R v s W → Calls Try.prog 73 #[.pointer (some ⟨R, 0, none⟩)] W (RdAns (fun xs : List Int => ntL ⟨xs, false⟩) putFs (fun xs : List Int => xs.length = 5 ∧ I64s xs) bs R v s W)) := fun W s hs => ntFields_at bs hb hl R v s W hs
  have CI : Hid (∀ W s, RS bs R v s W → Calls Try.prog 74 #[.pointer (some ⟨R, 0, none⟩)] W fun e w' => ∃ n s', e = .returned (.int .i64 n) ∧ tkI bs s = (n, s') ∧ RS bs R v s' w' ∧ W.grownBy w' (some R)) := fun W s hs => (number_at bs hb hl R v s W hs).mono fun e w' ⟨h1, h2, h3⟩ => ⟨_, _, h1, rfl, h2, h3⟩
  have CC : Hid (∀ W s, RS bs R v s W → Calls Try.prog 80 #[.pointer (some ⟨R, 0, none⟩)] W fun e w' => ∃ n s', e = .returned (.int .i64 n) ∧ tkI bs s = (n, s') ∧ RS bs R v s' w' ∧ W.grownBy w' (some R)) := fun W s hs => (cents_at bs hb hl R v s W hs).mono fun e w' ⟨h1, h2, h3⟩ => ⟨_, _, h1, rfl, h2, h3⟩
  have CB : Hid (∀ W s, RS bs R v s W → Calls Try.prog 82 #[.pointer (some ⟨R, 0, none⟩)] W fun e w' => ∃ n s', e = .returned (.bool n) ∧ tkB bs s = (n, s') ∧ RS bs R v s' w' ∧ W.grownBy w' (some R)) := fun W s hs => (truth_at bs hb hl R v s W hs).mono fun e w' ⟨h1, h2, h3⟩ => ⟨_, _, h1, rfl, h2, h3⟩
  have HB : Hid (∀ c ∈ bs, c < 256) := hb
  obtain ⟨hR, hV, hS⟩ := h
  have SK : Hid (∀ W, Below w.heap.size w W → Calls Try.prog 68 #[.pointer (some ⟨R, 0, none⟩), v, .int .i64 (p : Int)] W fun e w' => e = .returned (.tuple #[]) ∧ RS bs R v (some p) w' ∧ W.grownBy w' (some R)) := hS
  have DV : Hid (0 < bs.length → v.ownBlock = some w.heap.size → False) := fun h0 e => by have := hV h0 _ e; omega
  have DW : Hid (∀ g, w.heap.size ≤ g → 0 < bs.length → v.ownBlock = some g → False) := fun g hg h0 e => by have := hV h0 _ e; omega
  have B0 : Hid (Blk w.heap.size 28 [.int .i64 0, .int .i64 0, .int .i64 0, .int .i64 0, .int .i64 0, .bool false] (w.alloc (.cells #[.int .i64 0, .int .i64 0, .int .i64 0, .int .i64 0, .int .i64 0, .bool false] 28))) := Blk.new _ _ _
  have BW : Hid (Below w.heap.size w (w.alloc (.cells #[.int .i64 0, .int .i64 0, .int .i64 0, .int .i64 0, .int .i64 0, .bool false] 28))) := below_alloc _ _
  have huT := Try.underlying28
  clear hb hl hV hS
  go_enter Try.func52, Try.ntmps52
  go_upto_region 1 with fail
  generalize w.alloc (.cells #[.int .i64 0, .int .i64 0, .int .i64 0, .int .i64 0, .int .i64 0, .bool false] 28) = W0 at *
  obtain ⟨D, hD⟩ : ∃ D, w.heap.size = D := ⟨_, rfl⟩
  have HD : Hid (w.heap.size = D) := hD
  rw [hD] at B0 DV ⊢
  have RD : Hid (R ≠ D) := by show _ ≠ _; omega
  have LD : Hid (R < D) := by show _ < _; omega
  clear hD hR
  go_wp2_with fail
  refine (SK.out _ BW.out).mono ?_
  rintro e w1 ⟨rfl, k, g⟩
  have K1 : Hid (RS bs R v (some p) w1) := k
  have D1 : Hid (Blk D 28 [.int .i64 0, .int .i64 0, .int .i64 0, .int .i64 0, .int .i64 0, .bool false] w1) := B0.out.grown g RD.out
  have G1 : Hid (w.grownBy w1 (some R)) := grownBy_trans (grownBy_below BW.out _) g
  clear k g B0 BW SK
  go_wp2_with fail
  refine (NF.out _ _ K1.out).mono ?_
  rintro e w2 ⟨xs, s9, rfl, k, g, -, gt⟩
  have GT : Hid (Got putFs (fun xs : List Int => xs.length = 5 ∧ I64s xs) bs p s9 xs) := gt p rfl
  have K2 : Hid (RS bs R v s9 w2) := k
  have D2 : Hid (Blk D 28 [.int .i64 0, .int .i64 0, .int .i64 0, .int .i64 0, .int .i64 0, .bool false] w2) := D1.out.grown g RD.out
  have G2 : Hid (w.grownBy w2 (some R)) := grownBy_trans G1.out g
  clear k g gt K1 D1 G1 NF CI CC CB
  obtain ⟨E, hE⟩ : ∃ E, w2.heap.size = E := ⟨_, rfl⟩
  have EG : Hid (D < E) := by show _ < _; rw [← hE]; exact D2.out.lt
  have DE : Hid (¬ D = E) := by show ¬ _; have := EG.out; omega
  have EN : Hid (Blk E 28 [.int .i64 0, .int .i64 0, .int .i64 0, .int .i64 0, .int .i64 0, .bool false] (w2.alloc (.cells #[.int .i64 0, .int .i64 0, .int .i64 0, .int .i64 0, .int .i64 0, .bool false] 28))) := by rw [← hE]; exact Blk.new _ _ _
  have DN : Hid (Blk D 28 [.int .i64 0, .int .i64 0, .int .i64 0, .int .i64 0, .int .i64 0, .bool false] (w2.alloc (.cells #[.int .i64 0, .int .i64 0, .int .i64 0, .int .i64 0, .int .i64 0, .bool false] 28))) := D2.out.below (below_alloc _ _)
  have KN : Hid (RS bs R v s9 (w2.alloc (.cells #[.int .i64 0, .int .i64 0, .int .i64 0, .int .i64 0, .int .i64 0, .bool false] 28))) := K2.out.below (below_alloc _ _)
  have GN : Hid (w.grownBy (w2.alloc (.cells #[.int .i64 0, .int .i64 0, .int .i64 0, .int .i64 0, .int .i64 0, .bool false] 28)) (some R)) := grownBy_trans G2.out (grownBy_below (below_alloc _ _) _)
  clear D2 K2 G2
  go_upto_region 3 with ((with_reducible refine at_store ?_); (try rw [hE]); refine step_store rfl 28 _ _ rfl E 0 28 [.int .i64 0, .int .i64 0, .int .i64 0, .int .i64 0, .int .i64 0, .bool false] (ntL ⟨xs, false⟩) rfl rfl EN.out (by show 0 + 6 ≤ 6; omega) (by show _ = some 6; kernel_rfl) (ntL_one _).2 ?_; intro w9 nb gb; rw [store_all (by rfl)] at nb)
  have B9 : Hid (Blk E 28 (ntL ⟨xs, false⟩) w9) := nb
  have D9 : Hid (Blk D 28 [.int .i64 0, .int .i64 0, .int .i64 0, .int .i64 0, .int .i64 0, .bool false] w9) := DN.out.grown gb (fun e => DE.out e.symm)
  have K9 : Hid (RS bs R v s9 w9) := KN.out.other gb (fun e => by have := EG.out; have := LD.out; omega) (fun h0 e => DW.out _ (by have := EG.out; have := HD.out; omega) h0 e)
  have G9 : Hid (w.grownBy w9 (some R)) := grown_more GN.out gb (by have := EG.out; have := HD.out; omega)
  clear nb gb EN DN KN GN
  obtain ⟨y, y1, hy⟩ := K9.out.c1
  have Y1 : Hid (∀ w', RS bs R v s9 w' → w'.cell? ⟨R, 1, none⟩ = some (.int .i64 y) → w'.cell? ⟨R, 2, none⟩ = some (.bool s9.isNone)) := fun w' h _ => h.c2
  have HY : Hid (∀ q, s9 = some q → y = (q : Int)) := hy
  obtain ⟨nb, hnb⟩ : ∃ b, s9.isNone = b := ⟨_, rfl⟩
  have NB : Hid (s9.isSome = !nb) := by show _ = _; rw [← hnb]; cases s9 <;> rfl
  have y2 : w9.cell? ⟨R, 2, none⟩ = some (.bool nb) := by rw [← hnb]; exact K9.out.c2
  clear hnb hy Y1
  refine wp_region_held_drew (S := fun w' => w'.cell? ⟨R, 1, none⟩ = some (.int .i64 y) ∧ w'.cell? ⟨R, 2, none⟩ = some (.bool nb) ∧ Blk E 28 (ntL ⟨xs, false⟩) w') (by kernel_rfl) ⟨y1, y2, B9.out.drewN 1⟩ (fun hH => ?_)
  refine wpAnyH_take (i := 0) (oi := { dst := some 16, op := Op.load 28 (Operand.tmp 9), type := 28, pos := "reader.go:73", after := #[], guard := none }) (v := .agg (ntL ⟨xs, false⟩).toArray) rfl (by kernel_rfl) (by kernel_rfl) (by kernel_rfl) (fun _ _ _ h => h) (yieldsIf_load_mid (by rfl) _ _ rfl E 0 rfl (ntL ⟨xs, false⟩) _ (fun w' h => Blk.all h.2.2) huT rfl (by show _ = some 6; kernel_rfl)) hH ?_
  try simp only [Act.put, List.setIfInBounds_toArray, List.set_cons_zero, List.set_cons_succ]
  refine wpAnyH_take (i := 1) (oi := { dst := some 17, op := Op.move (Operand.tmp 0), type := 129, pos := "reader.go:73", after := #[{ on := 10, ground := Ground.gcOnly Departure.lateStores }], guard := none }) (v := .pointer (some ⟨R, 0, none⟩)) rfl (by kernel_rfl) (by kernel_rfl) (by kernel_rfl) (fun _ _ _ h => h) (Or.inl ⟨by rfl, fun w' h => by go_simp⟩) hH ?_
  try simp only [Act.put, List.setIfInBounds_toArray, List.set_cons_zero, List.set_cons_succ]
  refine wpAnyH_take (i := 2) (oi := { dst := some 18, op := Op.nilCheck (Operand.tmp 17), type := 0, pos := "reader.go:73", after := #[{ on := 1, ground := Ground.data }, { on := 10, ground := Ground.gcOnly Departure.lateStores }], guard := none }) (v := .pointer (some ⟨R, 0, none⟩)) rfl (by kernel_rfl) (by kernel_rfl) (by kernel_rfl) (fun _ _ _ h => h) (Or.inl ⟨by rfl, fun w' h => by go_simp⟩) hH ?_
  try simp only [Act.put, List.setIfInBounds_toArray, List.set_cons_zero, List.set_cons_succ]
  refine wpAnyH_take (i := 3) (oi := { dst := some 19, op := Op.fieldAddr 92 (Operand.tmp 18) 1, type := 0, pos := "reader.go:73", after := #[{ on := 2, ground := Ground.data }, { on := 10, ground := Ground.gcOnly Departure.lateStores }], guard := none }) (v := .pointer (some ⟨R, 1, none⟩)) rfl (by kernel_rfl) (by kernel_rfl) (by kernel_rfl) (fun _ _ _ h => h) (Or.inl ⟨by rfl, fun w' h => by go_simp⟩) hH ?_
  try simp only [Act.put, List.setIfInBounds_toArray, List.set_cons_zero, List.set_cons_succ]
  refine wpAnyH_take (i := 4) (oi := { dst := some 20, op := Op.load 3 (Operand.tmp 19), type := 3, pos := "reader.go:73", after := #[{ on := 3, ground := Ground.data }, { on := 10, ground := Ground.gcOnly Departure.lateStores }], guard := none }) (v := .int .i64 y) rfl (by kernel_rfl) (by kernel_rfl) (by kernel_rfl) (fun _ _ _ h => h) (Or.inl ⟨by rfl, fun w' h => by have q := h.1; go_simp⟩) hH ?_
  try simp only [Act.put, List.setIfInBounds_toArray, List.set_cons_zero, List.set_cons_succ]
  refine wpAnyH_take (i := 5) (oi := { dst := some 21, op := Op.move (Operand.tmp 0), type := 129, pos := "reader.go:73", after := #[{ on := 11, ground := Ground.gcOnly Departure.lateStores }], guard := none }) (v := .pointer (some ⟨R, 0, none⟩)) rfl (by kernel_rfl) (by kernel_rfl) (by kernel_rfl) (fun _ _ _ h => h) (Or.inl ⟨by rfl, fun w' h => by go_simp⟩) hH ?_
  try simp only [Act.put, List.setIfInBounds_toArray, List.set_cons_zero, List.set_cons_succ]
  refine wpAnyH_take (i := 6) (oi := { dst := some 22, op := Op.nilCheck (Operand.tmp 21), type := 0, pos := "reader.go:73", after := #[{ on := 5, ground := Ground.data }, { on := 11, ground := Ground.gcOnly Departure.lateStores }], guard := none }) (v := .pointer (some ⟨R, 0, none⟩)) rfl (by kernel_rfl) (by kernel_rfl) (by kernel_rfl) (fun _ _ _ h => h) (Or.inl ⟨by rfl, fun w' h => by go_simp⟩) hH ?_
  try simp only [Act.put, List.setIfInBounds_toArray, List.set_cons_zero, List.set_cons_succ]
  refine wpAnyH_take (i := 7) (oi := { dst := some 23, op := Op.fieldAddr 92 (Operand.tmp 22) 2, type := 0, pos := "reader.go:73", after := #[{ on := 6, ground := Ground.data }, { on := 11, ground := Ground.gcOnly Departure.lateStores }], guard := none }) (v := .pointer (some ⟨R, 2, none⟩)) rfl (by kernel_rfl) (by kernel_rfl) (by kernel_rfl) (fun _ _ _ h => h) (Or.inl ⟨by rfl, fun w' h => by go_simp⟩) hH ?_
  try simp only [Act.put, List.setIfInBounds_toArray, List.set_cons_zero, List.set_cons_succ]
  refine wpAnyH_take (i := 8) (oi := { dst := some 24, op := Op.load 4 (Operand.tmp 23), type := 4, pos := "reader.go:73", after := #[{ on := 7, ground := Ground.data }, { on := 11, ground := Ground.gcOnly Departure.lateStores }], guard := none }) (v := .bool nb) rfl (by kernel_rfl) (by kernel_rfl) (by kernel_rfl) (fun _ _ _ h => h) (Or.inl ⟨by rfl, fun w' h => by have q := h.2.1; go_simp⟩) hH ?_
  try simp only [Act.put, List.setIfInBounds_toArray, List.set_cons_zero, List.set_cons_succ]
  refine wpAnyH_take (i := 9) (oi := { dst := some 25, op := Op.unOp UnOp.not 4 (Operand.tmp 24), type := 4, pos := "reader.go:73", after := #[{ on := 8, ground := Ground.data }, { on := 11, ground := Ground.gcOnly Departure.lateStores }], guard := none }) (v := .bool (!nb)) rfl (by kernel_rfl) (by kernel_rfl) (by kernel_rfl) (fun _ _ _ h => h) (Or.inl ⟨by rfl, fun w' h => by go_simp⟩) hH ?_
  try simp only [Act.put, List.setIfInBounds_toArray, List.set_cons_zero, List.set_cons_succ]
  refine wpAnyH_ready (rs := [10]) (by kernel_rfl) (by simp) ?_
  refine AllReadyH.cons (o := { dst := none, op := Op.store 28 (Operand.tmp 6) (Operand.tmp 16), type := 0, pos := "reader.go:73", after := #[{ on := 0, ground := Ground.data }, { on := 0, ground := Ground.phase }, { on := 1, ground := Ground.textOnly Departure.lateStores }, { on := 2, ground := Ground.textOnly Departure.lateStores }, { on := 3, ground := Ground.textOnly Departure.lateStores }, { on := 4, ground := Ground.textOnly Departure.lateStores }, { on := 5, ground := Ground.textOnly Departure.lateStores }, { on := 6, ground := Ground.textOnly Departure.lateStores }, { on := 7, ground := Ground.textOnly Departure.lateStores }, { on := 8, ground := Ground.textOnly Departure.lateStores }, { on := 9, ground := Ground.textOnly Departure.lateStores }], guard := none }) rfl (fun Kx hK => ?_) AllReadyH.nil
  refine op_putS (zs := [.int .i64 0, .int .i64 0, .int .i64 0, .int .i64 0, .int .i64 0, .bool false]) (ntL ⟨xs, false⟩) rfl (by show _ = some 6; kernel_rfl) (ntL_one _).2 rfl _ _ rfl D rfl rfl (D9.out.drewN 1) ?_
  intro w10 b10 g10
  have K10 : Hid (RS bs R v s9 w10) := (K9.out.drewN 1).other g10 (fun e => RD.out e.symm) (fun h0 e => DV.out h0 e)
  have B10 : Hid (Blk E 28 (ntL ⟨xs, false⟩) w10) := (B9.out.drewN 1).grown g10 (fun e => DE.out e)
  have G10 : Hid (w.grownBy w10 (some R)) := grown_more (grownBy_drewN G9.out 1) g10 (by rw [HD.out]; exact Nat.le_refl _)
  have N10 : Hid (Blk D 28 (ntL ⟨xs, false⟩) w10) := b10
  have q1 : w10.cell? ⟨R, 1, none⟩ = some (.int .i64 y) := (World.cell?_of_block (a := ⟨R, 1, none⟩) (g10.block R (K9.out.lt) (fun e => RD.out (by injection e)))).trans y1
  have q2 : w10.cell? ⟨R, 2, none⟩ = some (.bool nb) := (World.cell?_of_block (a := ⟨R, 2, none⟩) (g10.block R (K9.out.lt) (fun e => RD.out (by injection e)))).trans y2
  refine hK.out _ _ ⟨q1, q2, B10.out⟩ (fun hH => ?_)
  try simp only [Act.put]
  refine wpAnyH_take (i := 11) (oi := { dst := some 7, op := Op.assign (Operand.tmp 20), type := 3, pos := "reader.go:73", after := #[{ on := 4, ground := Ground.data }, { on := 10, ground := Ground.chain }, { on := 0, ground := Ground.phase }, { on := 1, ground := Ground.phase }, { on := 2, ground := Ground.phase }, { on := 3, ground := Ground.phase }, { on := 4, ground := Ground.phase }, { on := 5, ground := Ground.textOnly Departure.lateStores }, { on := 6, ground := Ground.textOnly Departure.lateStores }, { on := 7, ground := Ground.textOnly Departure.lateStores }, { on := 8, ground := Ground.textOnly Departure.lateStores }, { on := 9, ground := Ground.textOnly Departure.lateStores }, { on := 10, ground := Ground.phase }], guard := none }) (v := .int .i64 y) rfl (by kernel_rfl) (by kernel_rfl) (by kernel_rfl) (fun _ _ _ h => h) (Or.inl ⟨by rfl, fun w' h => by go_simp⟩) hH ?_
  try simp only [Act.put, List.setIfInBounds_toArray, List.set_cons_zero, List.set_cons_succ]
  refine wpAnyH_take (i := 12) (oi := { dst := some 8, op := Op.assign (Operand.tmp 25), type := 4, pos := "reader.go:73", after := #[{ on := 9, ground := Ground.data }, { on := 11, ground := Ground.chain }, { on := 0, ground := Ground.phase }, { on := 1, ground := Ground.phase }, { on := 2, ground := Ground.phase }, { on := 3, ground := Ground.phase }, { on := 4, ground := Ground.phase }, { on := 5, ground := Ground.phase }, { on := 6, ground := Ground.phase }, { on := 7, ground := Ground.phase }, { on := 8, ground := Ground.phase }, { on := 9, ground := Ground.phase }, { on := 10, ground := Ground.phase }, { on := 11, ground := Ground.phase }], guard := none }) (v := .bool (!nb)) rfl (by kernel_rfl) (by kernel_rfl) (by kernel_rfl) (fun _ _ _ h => h) (Or.inl ⟨by rfl, fun w' h => by go_simp⟩) hH ?_
  try simp only [Act.put, List.setIfInBounds_toArray, List.set_cons_zero, List.set_cons_succ]
  refine wpAnyH_done (by kernel_rfl) ?_ _
  clear hH hK b10 g10 q1 q2 y1 y2 B9 D9
  go_wp2_with fail
  refine bodyPost_cell_tmp2 rfl rfl D 28 (ntL ⟨xs, false⟩).toArray (0, 0) _ rfl N10.out Try.underlying28 rfl (by show _ = some 6; kernel_rfl) ⟨⟨xs, false⟩, y, s9, ?_, HY.out, K10.out, G10.out, ntB_iso GT.out⟩
  rw [NB.out]; rfl
set_option maxRecDepth 20000 in
set_option maxHeartbeats 4000000 in
theorem instalment_at (bs : List Nat) (hb : ∀ c ∈ bs, c < 256) (hl : bs.length ≤ 1000000000000) (R : Nat) (v : Value) (p : Nat) (w : World) (h : Seeks bs R v p w) :
    Calls Try.prog 77 #[.pointer (some ⟨R, 0, none⟩), v, .int .i64 (p : Int)] w (ElAns insL insB Ins.Ok bs R v p w) := by
  have NF : Hid (∀ W s, RS bs R v s W → Calls Try.prog 73 #[.pointer (some ⟨R, 0, none⟩)] W (RdAns (fun xs : List Int => ntL ⟨xs, false⟩) putFs (fun xs : List Int => xs.length = 5 ∧ I64s xs) bs R v s W)) := fun W s hs => ntFields_at bs hb hl R v s W hs
  have CI : Hid (∀ W s, RS bs R v s W → Calls Try.prog 74 #[.pointer (some ⟨R, 0, none⟩)] W fun e w' => ∃ n s', e = .returned (.int .i64 n) ∧ tkI bs s = (n, s') ∧ RS bs R v s' w' ∧ W.grownBy w' (some R)) := fun W s hs => (number_at bs hb hl R v s W hs).mono fun e w' ⟨h1, h2, h3⟩ => ⟨_, _, h1, rfl, h2, h3⟩
  have CC : Hid (∀ W s, RS bs R v s W → Calls Try.prog 80 #[.pointer (some ⟨R, 0, none⟩)] W fun e w' => ∃ n s', e = .returned (.int .i64 n) ∧ tkI bs s = (n, s') ∧ RS bs R v s' w' ∧ W.grownBy w' (some R)) := fun W s hs => (cents_at bs hb hl R v s W hs).mono fun e w' ⟨h1, h2, h3⟩ => ⟨_, _, h1, rfl, h2, h3⟩
  have CB : Hid (∀ W s, RS bs R v s W → Calls Try.prog 82 #[.pointer (some ⟨R, 0, none⟩)] W fun e w' => ∃ n s', e = .returned (.bool n) ∧ tkB bs s = (n, s') ∧ RS bs R v s' w' ∧ W.grownBy w' (some R)) := fun W s hs => (truth_at bs hb hl R v s W hs).mono fun e w' ⟨h1, h2, h3⟩ => ⟨_, _, h1, rfl, h2, h3⟩
  have HB : Hid (∀ c ∈ bs, c < 256) := hb
  obtain ⟨hR, hV, hS⟩ := h
  have SK : Hid (∀ W, Below w.heap.size w W → Calls Try.prog 68 #[.pointer (some ⟨R, 0, none⟩), v, .int .i64 (p : Int)] W fun e w' => e = .returned (.tuple #[]) ∧ RS bs R v (some p) w' ∧ W.grownBy w' (some R)) := hS
  have DV : Hid (0 < bs.length → v.ownBlock = some w.heap.size → False) := fun h0 e => by have := hV h0 _ e; omega
  have DW : Hid (∀ g, w.heap.size ≤ g → 0 < bs.length → v.ownBlock = some g → False) := fun g hg h0 e => by have := hV h0 _ e; omega
  have B0 : Hid (Blk w.heap.size 108 [.int .i64 0, .int .i64 0, .int .i64 0, .bool false] (w.alloc (.cells #[.int .i64 0, .int .i64 0, .int .i64 0, .bool false] 108))) := Blk.new _ _ _
  have BW : Hid (Below w.heap.size w (w.alloc (.cells #[.int .i64 0, .int .i64 0, .int .i64 0, .bool false] 108))) := below_alloc _ _
  have huT := Try.underlying108
  clear hb hl hV hS
  go_enter Try.func77, Try.ntmps77
  go_upto_region 1 with fail
  generalize w.alloc (.cells #[.int .i64 0, .int .i64 0, .int .i64 0, .bool false] 108) = W0 at *
  obtain ⟨D, hD⟩ : ∃ D, w.heap.size = D := ⟨_, rfl⟩
  have HD : Hid (w.heap.size = D) := hD
  rw [hD] at B0 DV ⊢
  have RD : Hid (R ≠ D) := by show _ ≠ _; omega
  have LD : Hid (R < D) := by show _ < _; omega
  clear hD hR
  go_wp2_with fail
  refine (SK.out _ BW.out).mono ?_
  rintro e w1 ⟨rfl, k, g⟩
  have K1 : Hid (RS bs R v (some p) w1) := k
  have D1 : Hid (Blk D 108 [.int .i64 0, .int .i64 0, .int .i64 0, .bool false] w1) := B0.out.grown g RD.out
  have G1 : Hid (w.grownBy w1 (some R)) := grownBy_trans (grownBy_below BW.out _) g
  clear k g B0 BW SK
  have HPP : Hid (p ≤ bs.length) := K1.out.le p rfl
  go_wp2_with fail
  refine (CI.out _ _ K1.out).mono ?_
  rintro e w2 ⟨n0, t1, rfl, e1, k, g⟩
  have E0 : Hid (tkI bs (some p) = (n0, t1)) := e1
  have K2 : Hid (RS bs R v t1 w2) := k
  have D2 : Hid (Blk D 108 [.int .i64 0, .int .i64 0, .int .i64 0, .bool false] w2) := D1.out.grown g RD.out
  have G2 : Hid (w.grownBy w2 (some R)) := grownBy_trans G1.out g
  clear k g e1 K1 D1 G1
  go_wp2_with fail
  refine (CC.out _ _ K2.out).mono ?_
  rintro e w3 ⟨n1, t2, rfl, e1, k, g⟩
  have E1 : Hid (tkI bs t1 = (n1, t2)) := e1
  have K3 : Hid (RS bs R v t2 w3) := k
  have D3 : Hid (Blk D 108 [.int .i64 0, .int .i64 0, .int .i64 0, .bool false] w3) := D2.out.grown g RD.out
  have G3 : Hid (w.grownBy w3 (some R)) := grownBy_trans G2.out g
  clear k g e1 K2 D2 G2
  go_wp2_with fail
  refine (CC.out _ _ K3.out).mono ?_
  rintro e w4 ⟨n2, t3, rfl, e1, k, g⟩
  have E2 : Hid (tkI bs t2 = (n2, t3)) := e1
  have K4 : Hid (RS bs R v t3 w4) := k
  have D4 : Hid (Blk D 108 [.int .i64 0, .int .i64 0, .int .i64 0, .bool false] w4) := D3.out.grown g RD.out
  have G4 : Hid (w.grownBy w4 (some R)) := grownBy_trans G3.out g
  clear k g e1 K3 D3 G3
  go_wp2_with fail
  refine (CB.out _ _ K4.out).mono ?_
  rintro e w5 ⟨n3, s9, rfl, e1, k, g⟩
  have E3 : Hid (tkB bs t3 = (n3, s9)) := e1
  have K5 : Hid (RS bs R v s9 w5) := k
  have D5 : Hid (Blk D 108 [.int .i64 0, .int .i64 0, .int .i64 0, .bool false] w5) := D4.out.grown g RD.out
  have G5 : Hid (w.grownBy w5 (some R)) := grownBy_trans G4.out g
  clear k g e1 K4 D4 G4
  have GT : Hid (Got insB Ins.Ok bs p s9 ⟨n0, n1, n2, n3⟩) := by
    refine insB_iso ?_
    have TN : tkN bs 3 (some p) = ([n0, n1, n2], t3) := by simp only [tkN, E0.out, E1.out, E2.out]
    have g1 := nums_got HB.out TN (fun q e => by injection e with e; subst e; exact HPP.out)
    refine Got.seq (g := putB) (OB := fun _ => True) (putFs_pinP 3) (g1.2 p rfl) (fun q hq => ?_) (fun e => ?_)
    · subst hq
      have := tkB_got (bs := bs) (p := q)
      rw [E3.out] at this
      exact this
    · subst e
      have := E3.out
      injection this with _ h
      exact h.symm
  clear NF CI CC CB E0 E1 E2 E3
  obtain ⟨E, hE⟩ : ∃ E, w5.heap.size = E := ⟨_, rfl⟩
  have EG : Hid (D < E) := by show _ < _; rw [← hE]; exact D5.out.lt
  have DE : Hid (¬ D = E) := by show ¬ _; have := EG.out; omega
  have EN : Hid (Blk E 108 [.int .i64 0, .int .i64 0, .int .i64 0, .bool false] (w5.alloc (.cells #[.int .i64 0, .int .i64 0, .int .i64 0, .bool false] 108))) := by rw [← hE]; exact Blk.new _ _ _
  have DN : Hid (Blk D 108 [.int .i64 0, .int .i64 0, .int .i64 0, .bool false] (w5.alloc (.cells #[.int .i64 0, .int .i64 0, .int .i64 0, .bool false] 108))) := D5.out.below (below_alloc _ _)
  have KN : Hid (RS bs R v s9 (w5.alloc (.cells #[.int .i64 0, .int .i64 0, .int .i64 0, .bool false] 108))) := K5.out.below (below_alloc _ _)
  have GN : Hid (w.grownBy (w5.alloc (.cells #[.int .i64 0, .int .i64 0, .int .i64 0, .bool false] 108)) (some R)) := grownBy_trans G5.out (grownBy_below (below_alloc _ _) _)
  clear D5 K5 G5
  go_upto_region 3 with ((with_reducible refine at_store ?_); (try rw [hE]); refine step_store rfl 108 _ _ rfl E 0 108 [.int .i64 0, .int .i64 0, .int .i64 0, .bool false] (insL ⟨n0, n1, n2, n3⟩) rfl rfl EN.out (by show 0 + 4 ≤ 4; omega) (by show _ = some 4; kernel_rfl) (insL_one _).2 ?_; intro w9 nb gb; rw [store_all (by rfl)] at nb)
  have B9 : Hid (Blk E 108 (insL ⟨n0, n1, n2, n3⟩) w9) := nb
  have D9 : Hid (Blk D 108 [.int .i64 0, .int .i64 0, .int .i64 0, .bool false] w9) := DN.out.grown gb (fun e => DE.out e.symm)
  have K9 : Hid (RS bs R v s9 w9) := KN.out.other gb (fun e => by have := EG.out; have := LD.out; omega) (fun h0 e => DW.out _ (by have := EG.out; have := HD.out; omega) h0 e)
  have G9 : Hid (w.grownBy w9 (some R)) := grown_more GN.out gb (by have := EG.out; have := HD.out; omega)
  clear nb gb EN DN KN GN
  obtain ⟨y, y1, hy⟩ := K9.out.c1
  have Y1 : Hid (∀ w', RS bs R v s9 w' → w'.cell? ⟨R, 1, none⟩ = some (.int .i64 y) → w'.cell? ⟨R, 2, none⟩ = some (.bool s9.isNone)) := fun w' h _ => h.c2
  have HY : Hid (∀ q, s9 = some q → y = (q : Int)) := hy
  obtain ⟨nb, hnb⟩ : ∃ b, s9.isNone = b := ⟨_, rfl⟩
  have NB : Hid (s9.isSome = !nb) := by show _ = _; rw [← hnb]; cases s9 <;> rfl
  have y2 : w9.cell? ⟨R, 2, none⟩ = some (.bool nb) := by rw [← hnb]; exact K9.out.c2
  clear hnb hy Y1
  refine wp_region_held_drew (S := fun w' => w'.cell? ⟨R, 1, none⟩ = some (.int .i64 y) ∧ w'.cell? ⟨R, 2, none⟩ = some (.bool nb) ∧ Blk E 108 (insL ⟨n0, n1, n2, n3⟩) w') (by kernel_rfl) ⟨y1, y2, B9.out.drewN 1⟩ (fun hH => ?_)
  refine wpAnyH_take (i := 0) (oi := { dst := some 23, op := Op.load 108 (Operand.tmp 9), type := 108, pos := "reader.go:120", after := #[], guard := none }) (v := .agg (insL ⟨n0, n1, n2, n3⟩).toArray) rfl (by kernel_rfl) (by kernel_rfl) (by kernel_rfl) (fun _ _ _ h => h) (yieldsIf_load_mid (by rfl) _ _ rfl E 0 rfl (insL ⟨n0, n1, n2, n3⟩) _ (fun w' h => Blk.all h.2.2) huT rfl (by show _ = some 4; kernel_rfl)) hH ?_
  try simp only [Act.put, List.setIfInBounds_toArray, List.set_cons_zero, List.set_cons_succ]
  refine wpAnyH_take (i := 1) (oi := { dst := some 24, op := Op.move (Operand.tmp 0), type := 129, pos := "reader.go:120", after := #[{ on := 10, ground := Ground.gcOnly Departure.lateStores }], guard := none }) (v := .pointer (some ⟨R, 0, none⟩)) rfl (by kernel_rfl) (by kernel_rfl) (by kernel_rfl) (fun _ _ _ h => h) (Or.inl ⟨by rfl, fun w' h => by go_simp⟩) hH ?_
  try simp only [Act.put, List.setIfInBounds_toArray, List.set_cons_zero, List.set_cons_succ]
  refine wpAnyH_take (i := 2) (oi := { dst := some 25, op := Op.nilCheck (Operand.tmp 24), type := 0, pos := "reader.go:120", after := #[{ on := 1, ground := Ground.data }, { on := 10, ground := Ground.gcOnly Departure.lateStores }], guard := none }) (v := .pointer (some ⟨R, 0, none⟩)) rfl (by kernel_rfl) (by kernel_rfl) (by kernel_rfl) (fun _ _ _ h => h) (Or.inl ⟨by rfl, fun w' h => by go_simp⟩) hH ?_
  try simp only [Act.put, List.setIfInBounds_toArray, List.set_cons_zero, List.set_cons_succ]
  refine wpAnyH_take (i := 3) (oi := { dst := some 26, op := Op.fieldAddr 92 (Operand.tmp 25) 1, type := 0, pos := "reader.go:120", after := #[{ on := 2, ground := Ground.data }, { on := 10, ground := Ground.gcOnly Departure.lateStores }], guard := none }) (v := .pointer (some ⟨R, 1, none⟩)) rfl (by kernel_rfl) (by kernel_rfl) (by kernel_rfl) (fun _ _ _ h => h) (Or.inl ⟨by rfl, fun w' h => by go_simp⟩) hH ?_
  try simp only [Act.put, List.setIfInBounds_toArray, List.set_cons_zero, List.set_cons_succ]
  refine wpAnyH_take (i := 4) (oi := { dst := some 27, op := Op.load 3 (Operand.tmp 26), type := 3, pos := "reader.go:120", after := #[{ on := 3, ground := Ground.data }, { on := 10, ground := Ground.gcOnly Departure.lateStores }], guard := none }) (v := .int .i64 y) rfl (by kernel_rfl) (by kernel_rfl) (by kernel_rfl) (fun _ _ _ h => h) (Or.inl ⟨by rfl, fun w' h => by have q := h.1; go_simp⟩) hH ?_
  try simp only [Act.put, List.setIfInBounds_toArray, List.set_cons_zero, List.set_cons_succ]
  refine wpAnyH_take (i := 5) (oi := { dst := some 28, op := Op.move (Operand.tmp 0), type := 129, pos := "reader.go:120", after := #[{ on := 11, ground := Ground.gcOnly Departure.lateStores }], guard := none }) (v := .pointer (some ⟨R, 0, none⟩)) rfl (by kernel_rfl) (by kernel_rfl) (by kernel_rfl) (fun _ _ _ h => h) (Or.inl ⟨by rfl, fun w' h => by go_simp⟩) hH ?_
  try simp only [Act.put, List.setIfInBounds_toArray, List.set_cons_zero, List.set_cons_succ]
  refine wpAnyH_take (i := 6) (oi := { dst := some 29, op := Op.nilCheck (Operand.tmp 28), type := 0, pos := "reader.go:120", after := #[{ on := 5, ground := Ground.data }, { on := 11, ground := Ground.gcOnly Departure.lateStores }], guard := none }) (v := .pointer (some ⟨R, 0, none⟩)) rfl (by kernel_rfl) (by kernel_rfl) (by kernel_rfl) (fun _ _ _ h => h) (Or.inl ⟨by rfl, fun w' h => by go_simp⟩) hH ?_
  try simp only [Act.put, List.setIfInBounds_toArray, List.set_cons_zero, List.set_cons_succ]
  refine wpAnyH_take (i := 7) (oi := { dst := some 30, op := Op.fieldAddr 92 (Operand.tmp 29) 2, type := 0, pos := "reader.go:120", after := #[{ on := 6, ground := Ground.data }, { on := 11, ground := Ground.gcOnly Departure.lateStores }], guard := none }) (v := .pointer (some ⟨R, 2, none⟩)) rfl (by kernel_rfl) (by kernel_rfl) (by kernel_rfl) (fun _ _ _ h => h) (Or.inl ⟨by rfl, fun w' h => by go_simp⟩) hH ?_
  try simp only [Act.put, List.setIfInBounds_toArray, List.set_cons_zero, List.set_cons_succ]
  refine wpAnyH_take (i := 8) (oi := { dst := some 31, op := Op.load 4 (Operand.tmp 30), type := 4, pos := "reader.go:120", after := #[{ on := 7, ground := Ground.data }, { on := 11, ground := Ground.gcOnly Departure.lateStores }], guard := none }) (v := .bool nb) rfl (by kernel_rfl) (by kernel_rfl) (by kernel_rfl) (fun _ _ _ h => h) (Or.inl ⟨by rfl, fun w' h => by have q := h.2.1; go_simp⟩) hH ?_
  try simp only [Act.put, List.setIfInBounds_toArray, List.set_cons_zero, List.set_cons_succ]
  refine wpAnyH_take (i := 9) (oi := { dst := some 32, op := Op.unOp UnOp.not 4 (Operand.tmp 31), type := 4, pos := "reader.go:120", after := #[{ on := 8, ground := Ground.data }, { on := 11, ground := Ground.gcOnly Departure.lateStores }], guard := none }) (v := .bool (!nb)) rfl (by kernel_rfl) (by kernel_rfl) (by kernel_rfl) (fun _ _ _ h => h) (Or.inl ⟨by rfl, fun w' h => by go_simp⟩) hH ?_
  try simp only [Act.put, List.setIfInBounds_toArray, List.set_cons_zero, List.set_cons_succ]
  refine wpAnyH_ready (rs := [10]) (by kernel_rfl) (by simp) ?_
  refine AllReadyH.cons (o := { dst := none, op := Op.store 108 (Operand.tmp 6) (Operand.tmp 23), type := 0, pos := "reader.go:120", after := #[{ on := 0, ground := Ground.data }, { on := 0, ground := Ground.phase }, { on := 1, ground := Ground.textOnly Departure.lateStores }, { on := 2, ground := Ground.textOnly Departure.lateStores }, { on := 3, ground := Ground.textOnly Departure.lateStores }, { on := 4, ground := Ground.textOnly Departure.lateStores }, { on := 5, ground := Ground.textOnly Departure.lateStores }, { on := 6, ground := Ground.textOnly Departure.lateStores }, { on := 7, ground := Ground.textOnly Departure.lateStores }, { on := 8, ground := Ground.textOnly Departure.lateStores }, { on := 9, ground := Ground.textOnly Departure.lateStores }], guard := none }) rfl (fun Kx hK => ?_) AllReadyH.nil
  refine op_putS (zs := [.int .i64 0, .int .i64 0, .int .i64 0, .bool false]) (insL ⟨n0, n1, n2, n3⟩) rfl (by show _ = some 4; kernel_rfl) (insL_one _).2 rfl _ _ rfl D rfl rfl (D9.out.drewN 1) ?_
  intro w10 b10 g10
  have K10 : Hid (RS bs R v s9 w10) := (K9.out.drewN 1).other g10 (fun e => RD.out e.symm) (fun h0 e => DV.out h0 e)
  have B10 : Hid (Blk E 108 (insL ⟨n0, n1, n2, n3⟩) w10) := (B9.out.drewN 1).grown g10 (fun e => DE.out e)
  have G10 : Hid (w.grownBy w10 (some R)) := grown_more (grownBy_drewN G9.out 1) g10 (by rw [HD.out]; exact Nat.le_refl _)
  have N10 : Hid (Blk D 108 (insL ⟨n0, n1, n2, n3⟩) w10) := b10
  have q1 : w10.cell? ⟨R, 1, none⟩ = some (.int .i64 y) := (World.cell?_of_block (a := ⟨R, 1, none⟩) (g10.block R (K9.out.lt) (fun e => RD.out (by injection e)))).trans y1
  have q2 : w10.cell? ⟨R, 2, none⟩ = some (.bool nb) := (World.cell?_of_block (a := ⟨R, 2, none⟩) (g10.block R (K9.out.lt) (fun e => RD.out (by injection e)))).trans y2
  refine hK.out _ _ ⟨q1, q2, B10.out⟩ (fun hH => ?_)
  try simp only [Act.put]
  refine wpAnyH_take (i := 11) (oi := { dst := some 7, op := Op.assign (Operand.tmp 27), type := 3, pos := "reader.go:120", after := #[{ on := 4, ground := Ground.data }, { on := 10, ground := Ground.chain }, { on := 0, ground := Ground.phase }, { on := 1, ground := Ground.phase }, { on := 2, ground := Ground.phase }, { on := 3, ground := Ground.phase }, { on := 4, ground := Ground.phase }, { on := 5, ground := Ground.textOnly Departure.lateStores }, { on := 6, ground := Ground.textOnly Departure.lateStores }, { on := 7, ground := Ground.textOnly Departure.lateStores }, { on := 8, ground := Ground.textOnly Departure.lateStores }, { on := 9, ground := Ground.textOnly Departure.lateStores }, { on := 10, ground := Ground.phase }], guard := none }) (v := .int .i64 y) rfl (by kernel_rfl) (by kernel_rfl) (by kernel_rfl) (fun _ _ _ h => h) (Or.inl ⟨by rfl, fun w' h => by go_simp⟩) hH ?_
  try simp only [Act.put, List.setIfInBounds_toArray, List.set_cons_zero, List.set_cons_succ]
  refine wpAnyH_take (i := 12) (oi := { dst := some 8, op := Op.assign (Operand.tmp 32), type := 4, pos := "reader.go:120", after := #[{ on := 9, ground := Ground.data }, { on := 11, ground := Ground.chain }, { on := 0, ground := Ground.phase }, { on := 1, ground := Ground.phase }, { on := 2, ground := Ground.phase }, { on := 3, ground := Ground.phase }, { on := 4, ground := Ground.phase }, { on := 5, ground := Ground.phase }, { on := 6, ground := Ground.phase }, { on := 7, ground := Ground.phase }, { on := 8, ground := Ground.phase }, { on := 9, ground := Ground.phase }, { on := 10, ground := Ground.phase }, { on := 11, ground := Ground.phase }], guard := none }) (v := .bool (!nb)) rfl (by kernel_rfl) (by kernel_rfl) (by kernel_rfl) (fun _ _ _ h => h) (Or.inl ⟨by rfl, fun w' h => by go_simp⟩) hH ?_
  try simp only [Act.put, List.setIfInBounds_toArray, List.set_cons_zero, List.set_cons_succ]
  refine wpAnyH_done (by kernel_rfl) ?_ _
  clear hH hK b10 g10 q1 q2 y1 y2 B9 D9
  go_wp2_with fail
  refine bodyPost_cell_tmp2 rfl rfl D 108 (insL ⟨n0, n1, n2, n3⟩).toArray (0, 0) _ rfl N10.out Try.underlying108 rfl (by show _ = some 4; kernel_rfl) ⟨⟨n0, n1, n2, n3⟩, y, s9, ?_, HY.out, K10.out, G10.out, GT.out⟩
  rw [NB.out]; rfl
set_option maxRecDepth 20000 in
set_option maxHeartbeats 4000000 in
theorem owed_at (bs : List Nat) (hb : ∀ c ∈ bs, c < 256) (hl : bs.length ≤ 1000000000000) (R : Nat) (v : Value) (p : Nat) (w : World) (h : Seeks bs R v p w) :
    Calls Try.prog 85 #[.pointer (some ⟨R, 0, none⟩), v, .int .i64 (p : Int)] w (ElAns ntL owB Nt.Ok bs R v p w) := by
  have NF : Hid (∀ W s, RS bs R v s W → Calls Try.prog 73 #[.pointer (some ⟨R, 0, none⟩)] W (RdAns (fun xs : List Int => ntL ⟨xs, false⟩) putFs (fun xs : List Int => xs.length = 5 ∧ I64s xs) bs R v s W)) := fun W s hs => ntFields_at bs hb hl R v s W hs
  have CI : Hid (∀ W s, RS bs R v s W → Calls Try.prog 74 #[.pointer (some ⟨R, 0, none⟩)] W fun e w' => ∃ n s', e = .returned (.int .i64 n) ∧ tkI bs s = (n, s') ∧ RS bs R v s' w' ∧ W.grownBy w' (some R)) := fun W s hs => (number_at bs hb hl R v s W hs).mono fun e w' ⟨h1, h2, h3⟩ => ⟨_, _, h1, rfl, h2, h3⟩
  have CC : Hid (∀ W s, RS bs R v s W → Calls Try.prog 80 #[.pointer (some ⟨R, 0, none⟩)] W fun e w' => ∃ n s', e = .returned (.int .i64 n) ∧ tkI bs s = (n, s') ∧ RS bs R v s' w' ∧ W.grownBy w' (some R)) := fun W s hs => (cents_at bs hb hl R v s W hs).mono fun e w' ⟨h1, h2, h3⟩ => ⟨_, _, h1, rfl, h2, h3⟩
  have CB : Hid (∀ W s, RS bs R v s W → Calls Try.prog 82 #[.pointer (some ⟨R, 0, none⟩)] W fun e w' => ∃ n s', e = .returned (.bool n) ∧ tkB bs s = (n, s') ∧ RS bs R v s' w' ∧ W.grownBy w' (some R)) := fun W s hs => (truth_at bs hb hl R v s W hs).mono fun e w' ⟨h1, h2, h3⟩ => ⟨_, _, h1, rfl, h2, h3⟩
  have HB : Hid (∀ c ∈ bs, c < 256) := hb
  obtain ⟨hR, hV, hS⟩ := h
  have SK : Hid (∀ W, Below w.heap.size w W → Calls Try.prog 68 #[.pointer (some ⟨R, 0, none⟩), v, .int .i64 (p : Int)] W fun e w' => e = .returned (.tuple #[]) ∧ RS bs R v (some p) w' ∧ W.grownBy w' (some R)) := hS
  have DV : Hid (0 < bs.length → v.ownBlock = some w.heap.size → False) := fun h0 e => by have := hV h0 _ e; omega
  have DW : Hid (∀ g, w.heap.size ≤ g → 0 < bs.length → v.ownBlock = some g → False) := fun g hg h0 e => by have := hV h0 _ e; omega
  have B0 : Hid (Blk w.heap.size 28 [.int .i64 0, .int .i64 0, .int .i64 0, .int .i64 0, .int .i64 0, .bool false] (w.alloc (.cells #[.int .i64 0, .int .i64 0, .int .i64 0, .int .i64 0, .int .i64 0, .bool false] 28))) := Blk.new _ _ _
  have BW : Hid (Below w.heap.size w (w.alloc (.cells #[.int .i64 0, .int .i64 0, .int .i64 0, .int .i64 0, .int .i64 0, .bool false] 28))) := below_alloc _ _
  have huT := Try.underlying28
  clear hb hl hV hS
  go_enter Try.func85, Try.ntmps85
  go_upto_region 1 with fail
  generalize w.alloc (.cells #[.int .i64 0, .int .i64 0, .int .i64 0, .int .i64 0, .int .i64 0, .bool false] 28) = W0 at *
  obtain ⟨D, hD⟩ : ∃ D, w.heap.size = D := ⟨_, rfl⟩
  have HD : Hid (w.heap.size = D) := hD
  rw [hD] at B0 DV ⊢
  have RD : Hid (R ≠ D) := by show _ ≠ _; omega
  have LD : Hid (R < D) := by show _ < _; omega
  clear hD hR
  go_wp2_with fail
  refine (SK.out _ BW.out).mono ?_
  rintro e w1 ⟨rfl, k, g⟩
  have K1 : Hid (RS bs R v (some p) w1) := k
  have D1 : Hid (Blk D 28 [.int .i64 0, .int .i64 0, .int .i64 0, .int .i64 0, .int .i64 0, .bool false] w1) := B0.out.grown g RD.out
  have G1 : Hid (w.grownBy w1 (some R)) := grownBy_trans (grownBy_below BW.out _) g
  clear k g B0 BW SK
  go_wp2_with fail
  refine (NF.out _ _ K1.out).mono ?_
  rintro e w2 ⟨xs, s9, rfl, k, g, gn, gt⟩
  have GT0 : Hid (Got putFs (fun xs : List Int => xs.length = 5 ∧ I64s xs) bs p s9 xs) := gt p rfl
  have K2 : Hid (RS bs R v s9 w2) := k
  have D2 : Hid (Blk D 28 [.int .i64 0, .int .i64 0, .int .i64 0, .int .i64 0, .int .i64 0, .bool false] w2) := D1.out.grown g RD.out
  have G2 : Hid (w.grownBy w2 (some R)) := grownBy_trans G1.out g
  clear k g gt gn K1 D1 G1 NF CI CC
  obtain ⟨E, hE⟩ : ∃ E, w2.heap.size = E := ⟨_, rfl⟩
  have EG : Hid (D < E) := by show _ < _; rw [← hE]; exact D2.out.lt
  have DE : Hid (¬ D = E) := by show ¬ _; have := EG.out; omega
  have EN : Hid (Blk E 28 [.int .i64 0, .int .i64 0, .int .i64 0, .int .i64 0, .int .i64 0, .bool false] (w2.alloc (.cells #[.int .i64 0, .int .i64 0, .int .i64 0, .int .i64 0, .int .i64 0, .bool false] 28))) := by rw [← hE]; exact Blk.new _ _ _
  have DN : Hid (Blk D 28 [.int .i64 0, .int .i64 0, .int .i64 0, .int .i64 0, .int .i64 0, .bool false] (w2.alloc (.cells #[.int .i64 0, .int .i64 0, .int .i64 0, .int .i64 0, .int .i64 0, .bool false] 28))) := D2.out.below (below_alloc _ _)
  have KN : Hid (RS bs R v s9 (w2.alloc (.cells #[.int .i64 0, .int .i64 0, .int .i64 0, .int .i64 0, .int .i64 0, .bool false] 28))) := K2.out.below (below_alloc _ _)
  have GN : Hid (w.grownBy (w2.alloc (.cells #[.int .i64 0, .int .i64 0, .int .i64 0, .int .i64 0, .int .i64 0, .bool false] 28)) (some R)) := grownBy_trans G2.out (grownBy_below (below_alloc _ _) _)
  clear D2 K2 G2
  go_upto_region 3 with ((with_reducible refine at_store ?_); (try rw [hE]); refine step_store rfl 28 _ _ rfl E 0 28 [.int .i64 0, .int .i64 0, .int .i64 0, .int .i64 0, .int .i64 0, .bool false] (ntL ⟨xs, false⟩) rfl rfl EN.out (by show 0 + 6 ≤ 6; omega) (by show _ = some 6; kernel_rfl) (ntL_one _).2 ?_; intro w3 nb gb; rw [store_all (by rfl)] at nb)
  have B3 : Hid (Blk E 28 (ntL ⟨xs, false⟩) w3) := nb
  have D3 : Hid (Blk D 28 [.int .i64 0, .int .i64 0, .int .i64 0, .int .i64 0, .int .i64 0, .bool false] w3) := DN.out.grown gb (fun e => DE.out e.symm)
  have K3 : Hid (RS bs R v s9 w3) := KN.out.other gb (fun e => by have := EG.out; have := LD.out; omega) (fun h0 e => DW.out _ (by have := EG.out; have := HD.out; omega) h0 e)
  have G3 : Hid (w.grownBy w3 (some R)) := grown_more GN.out gb (by have := EG.out; have := HD.out; omega)
  clear nb gb EN DN KN GN
  go_wp2_with fail
  refine (CB.out _ _ K3.out).mono ?_
  rintro e w4 ⟨z, t9, rfl, e1, k, g⟩
  have E4 : Hid (tkB bs s9 = (z, t9)) := e1
  have K4 : Hid (RS bs R v t9 w4) := k
  have D4 : Hid (Blk D 28 [.int .i64 0, .int .i64 0, .int .i64 0, .int .i64 0, .int .i64 0, .bool false] w4) := D3.out.grown g RD.out
  have B4 : Hid (Blk E 28 (ntL ⟨xs, false⟩) w4) := B3.out.grown g (fun e => by have := EG.out; have := LD.out; omega)
  have G4 : Hid (w.grownBy w4 (some R)) := grownBy_trans G3.out g
  have GT : Hid (Got owB Nt.Ok bs p t9 ⟨xs, z⟩) := owB_iso (Got.seq (g := putB) (OB := fun _ => True) (putFs_pinP 5) GT0.out (fun q hq => by subst hq; have := tkB_got (bs := bs) (p := q); rw [E4.out] at this; exact this) (fun e => by subst e; have := E4.out; injection this with _ h; exact h.symm))
  clear k g e1 K3 D3 G3 B3 CB E4 GT0
  have c5 : w4.cell? ⟨E, 5, none⟩ = some (.bool false) := B4.out.cell 5 _ rfl
  have z5 : w4.frozen? ⟨E, 5, none⟩ = false := B4.out.fz 5
  have l5 := B4.out.lt
  go_upto_region 4 with fail
  have gs := setCell_grown w4 E 5 (.bool z)
  have K9 : Hid (RS bs R v t9 (w4.setCell ⟨E, 5, none⟩ (.bool z))) := K4.out.other gs (fun e => by have := EG.out; have := LD.out; omega) (fun h0 e => DW.out _ (by have := EG.out; have := HD.out; omega) h0 e)
  have D9 : Hid (Blk D 28 [.int .i64 0, .int .i64 0, .int .i64 0, .int .i64 0, .int .i64 0, .bool false] (w4.setCell ⟨E, 5, none⟩ (.bool z))) := D4.out.grown gs (fun e => DE.out e.symm)
  have B9 : Hid (Blk E 28 (ntL ⟨xs, z⟩) (w4.setCell ⟨E, 5, none⟩ (.bool z))) := Blk.set (i := 5) B4.out (.bool z)
  have G9 : Hid (w.grownBy (w4.setCell ⟨E, 5, none⟩ (.bool z)) (some R)) := grown_more G4.out gs (by have := EG.out; have := HD.out; omega)
  clear gs K4 D4 B4 G4 c5 z5 l5
  generalize w4.setCell ⟨E, 5, none⟩ (.bool z) = w9 at *
  obtain ⟨y, y1, hy⟩ := K9.out.c1
  have Y1 : Hid (∀ w', RS bs R v t9 w' → w'.cell? ⟨R, 1, none⟩ = some (.int .i64 y) → w'.cell? ⟨R, 2, none⟩ = some (.bool t9.isNone)) := fun w' h _ => h.c2
  have HY : Hid (∀ q, t9 = some q → y = (q : Int)) := hy
  obtain ⟨nb, hnb⟩ : ∃ b, t9.isNone = b := ⟨_, rfl⟩
  have NB : Hid (t9.isSome = !nb) := by show _ = _; rw [← hnb]; cases t9 <;> rfl
  have y2 : w9.cell? ⟨R, 2, none⟩ = some (.bool nb) := by rw [← hnb]; exact K9.out.c2
  clear hnb hy Y1
  refine wp_region_held_drew (S := fun w' => w'.cell? ⟨R, 1, none⟩ = some (.int .i64 y) ∧ w'.cell? ⟨R, 2, none⟩ = some (.bool nb) ∧ Blk E 28 (ntL ⟨xs, z⟩) w') (by kernel_rfl) ⟨y1, y2, B9.out.drewN 1⟩ (fun hH => ?_)
  refine wpAnyH_take (i := 0) (oi := { dst := some 19, op := Op.load 28 (Operand.tmp 9), type := 28, pos := "reader.go:80", after := #[], guard := none }) (v := .agg (ntL ⟨xs, z⟩).toArray) rfl (by kernel_rfl) (by kernel_rfl) (by kernel_rfl) (fun _ _ _ h => h) (yieldsIf_load_mid (by rfl) _ _ rfl E 0 rfl (ntL ⟨xs, z⟩) _ (fun w' h => Blk.all h.2.2) huT rfl (by show _ = some 6; kernel_rfl)) hH ?_
  try simp only [Act.put, List.setIfInBounds_toArray, List.set_cons_zero, List.set_cons_succ]
  refine wpAnyH_take (i := 1) (oi := { dst := some 20, op := Op.move (Operand.tmp 0), type := 129, pos := "reader.go:80", after := #[{ on := 10, ground := Ground.gcOnly Departure.lateStores }], guard := none }) (v := .pointer (some ⟨R, 0, none⟩)) rfl (by kernel_rfl) (by kernel_rfl) (by kernel_rfl) (fun _ _ _ h => h) (Or.inl ⟨by rfl, fun w' h => by go_simp⟩) hH ?_
  try simp only [Act.put, List.setIfInBounds_toArray, List.set_cons_zero, List.set_cons_succ]
  refine wpAnyH_take (i := 2) (oi := { dst := some 21, op := Op.nilCheck (Operand.tmp 20), type := 0, pos := "reader.go:80", after := #[{ on := 1, ground := Ground.data }, { on := 10, ground := Ground.gcOnly Departure.lateStores }], guard := none }) (v := .pointer (some ⟨R, 0, none⟩)) rfl (by kernel_rfl) (by kernel_rfl) (by kernel_rfl) (fun _ _ _ h => h) (Or.inl ⟨by rfl, fun w' h => by go_simp⟩) hH ?_
  try simp only [Act.put, List.setIfInBounds_toArray, List.set_cons_zero, List.set_cons_succ]
  refine wpAnyH_take (i := 3) (oi := { dst := some 22, op := Op.fieldAddr 92 (Operand.tmp 21) 1, type := 0, pos := "reader.go:80", after := #[{ on := 2, ground := Ground.data }, { on := 10, ground := Ground.gcOnly Departure.lateStores }], guard := none }) (v := .pointer (some ⟨R, 1, none⟩)) rfl (by kernel_rfl) (by kernel_rfl) (by kernel_rfl) (fun _ _ _ h => h) (Or.inl ⟨by rfl, fun w' h => by go_simp⟩) hH ?_
  try simp only [Act.put, List.setIfInBounds_toArray, List.set_cons_zero, List.set_cons_succ]
  refine wpAnyH_take (i := 4) (oi := { dst := some 23, op := Op.load 3 (Operand.tmp 22), type := 3, pos := "reader.go:80", after := #[{ on := 3, ground := Ground.data }, { on := 10, ground := Ground.gcOnly Departure.lateStores }], guard := none }) (v := .int .i64 y) rfl (by kernel_rfl) (by kernel_rfl) (by kernel_rfl) (fun _ _ _ h => h) (Or.inl ⟨by rfl, fun w' h => by have q := h.1; go_simp⟩) hH ?_
  try simp only [Act.put, List.setIfInBounds_toArray, List.set_cons_zero, List.set_cons_succ]
  refine wpAnyH_take (i := 5) (oi := { dst := some 24, op := Op.move (Operand.tmp 0), type := 129, pos := "reader.go:80", after := #[{ on := 11, ground := Ground.gcOnly Departure.lateStores }], guard := none }) (v := .pointer (some ⟨R, 0, none⟩)) rfl (by kernel_rfl) (by kernel_rfl) (by kernel_rfl) (fun _ _ _ h => h) (Or.inl ⟨by rfl, fun w' h => by go_simp⟩) hH ?_
  try simp only [Act.put, List.setIfInBounds_toArray, List.set_cons_zero, List.set_cons_succ]
  refine wpAnyH_take (i := 6) (oi := { dst := some 25, op := Op.nilCheck (Operand.tmp 24), type := 0, pos := "reader.go:80", after := #[{ on := 5, ground := Ground.data }, { on := 11, ground := Ground.gcOnly Departure.lateStores }], guard := none }) (v := .pointer (some ⟨R, 0, none⟩)) rfl (by kernel_rfl) (by kernel_rfl) (by kernel_rfl) (fun _ _ _ h => h) (Or.inl ⟨by rfl, fun w' h => by go_simp⟩) hH ?_
  try simp only [Act.put, List.setIfInBounds_toArray, List.set_cons_zero, List.set_cons_succ]
  refine wpAnyH_take (i := 7) (oi := { dst := some 26, op := Op.fieldAddr 92 (Operand.tmp 25) 2, type := 0, pos := "reader.go:80", after := #[{ on := 6, ground := Ground.data }, { on := 11, ground := Ground.gcOnly Departure.lateStores }], guard := none }) (v := .pointer (some ⟨R, 2, none⟩)) rfl (by kernel_rfl) (by kernel_rfl) (by kernel_rfl) (fun _ _ _ h => h) (Or.inl ⟨by rfl, fun w' h => by go_simp⟩) hH ?_
  try simp only [Act.put, List.setIfInBounds_toArray, List.set_cons_zero, List.set_cons_succ]
  refine wpAnyH_take (i := 8) (oi := { dst := some 27, op := Op.load 4 (Operand.tmp 26), type := 4, pos := "reader.go:80", after := #[{ on := 7, ground := Ground.data }, { on := 11, ground := Ground.gcOnly Departure.lateStores }], guard := none }) (v := .bool nb) rfl (by kernel_rfl) (by kernel_rfl) (by kernel_rfl) (fun _ _ _ h => h) (Or.inl ⟨by rfl, fun w' h => by have q := h.2.1; go_simp⟩) hH ?_
  try simp only [Act.put, List.setIfInBounds_toArray, List.set_cons_zero, List.set_cons_succ]
  refine wpAnyH_take (i := 9) (oi := { dst := some 28, op := Op.unOp UnOp.not 4 (Operand.tmp 27), type := 4, pos := "reader.go:80", after := #[{ on := 8, ground := Ground.data }, { on := 11, ground := Ground.gcOnly Departure.lateStores }], guard := none }) (v := .bool (!nb)) rfl (by kernel_rfl) (by kernel_rfl) (by kernel_rfl) (fun _ _ _ h => h) (Or.inl ⟨by rfl, fun w' h => by go_simp⟩) hH ?_
  try simp only [Act.put, List.setIfInBounds_toArray, List.set_cons_zero, List.set_cons_succ]
  refine wpAnyH_ready (rs := [10]) (by kernel_rfl) (by simp) ?_
  refine AllReadyH.cons (o := { dst := none, op := Op.store 28 (Operand.tmp 6) (Operand.tmp 19), type := 0, pos := "reader.go:80", after := #[{ on := 0, ground := Ground.data }, { on := 0, ground := Ground.phase }, { on := 1, ground := Ground.textOnly Departure.lateStores }, { on := 2, ground := Ground.textOnly Departure.lateStores }, { on := 3, ground := Ground.textOnly Departure.lateStores }, { on := 4, ground := Ground.textOnly Departure.lateStores }, { on := 5, ground := Ground.textOnly Departure.lateStores }, { on := 6, ground := Ground.textOnly Departure.lateStores }, { on := 7, ground := Ground.textOnly Departure.lateStores }, { on := 8, ground := Ground.textOnly Departure.lateStores }, { on := 9, ground := Ground.textOnly Departure.lateStores }], guard := none }) rfl (fun Kx hK => ?_) AllReadyH.nil
  refine op_putS (zs := [.int .i64 0, .int .i64 0, .int .i64 0, .int .i64 0, .int .i64 0, .bool false]) (ntL ⟨xs, z⟩) rfl (by show _ = some 6; kernel_rfl) (ntL_one _).2 rfl _ _ rfl D rfl rfl (D9.out.drewN 1) ?_
  intro w10 b10 g10
  have K10 : Hid (RS bs R v t9 w10) := (K9.out.drewN 1).other g10 (fun e => RD.out e.symm) (fun h0 e => DV.out h0 e)
  have B10 : Hid (Blk E 28 (ntL ⟨xs, z⟩) w10) := (B9.out.drewN 1).grown g10 (fun e => DE.out e)
  have G10 : Hid (w.grownBy w10 (some R)) := grown_more (grownBy_drewN G9.out 1) g10 (by rw [HD.out]; exact Nat.le_refl _)
  have N10 : Hid (Blk D 28 (ntL ⟨xs, z⟩) w10) := b10
  have q1 : w10.cell? ⟨R, 1, none⟩ = some (.int .i64 y) := (World.cell?_of_block (a := ⟨R, 1, none⟩) (g10.block R (K9.out.lt) (fun e => RD.out (by injection e)))).trans y1
  have q2 : w10.cell? ⟨R, 2, none⟩ = some (.bool nb) := (World.cell?_of_block (a := ⟨R, 2, none⟩) (g10.block R (K9.out.lt) (fun e => RD.out (by injection e)))).trans y2
  refine hK.out _ _ ⟨q1, q2, B10.out⟩ (fun hH => ?_)
  try simp only [Act.put]
  refine wpAnyH_take (i := 11) (oi := { dst := some 7, op := Op.assign (Operand.tmp 23), type := 3, pos := "reader.go:80", after := #[{ on := 4, ground := Ground.data }, { on := 10, ground := Ground.chain }, { on := 0, ground := Ground.phase }, { on := 1, ground := Ground.phase }, { on := 2, ground := Ground.phase }, { on := 3, ground := Ground.phase }, { on := 4, ground := Ground.phase }, { on := 5, ground := Ground.textOnly Departure.lateStores }, { on := 6, ground := Ground.textOnly Departure.lateStores }, { on := 7, ground := Ground.textOnly Departure.lateStores }, { on := 8, ground := Ground.textOnly Departure.lateStores }, { on := 9, ground := Ground.textOnly Departure.lateStores }, { on := 10, ground := Ground.phase }], guard := none }) (v := .int .i64 y) rfl (by kernel_rfl) (by kernel_rfl) (by kernel_rfl) (fun _ _ _ h => h) (Or.inl ⟨by rfl, fun w' h => by go_simp⟩) hH ?_
  try simp only [Act.put, List.setIfInBounds_toArray, List.set_cons_zero, List.set_cons_succ]
  refine wpAnyH_take (i := 12) (oi := { dst := some 8, op := Op.assign (Operand.tmp 28), type := 4, pos := "reader.go:80", after := #[{ on := 9, ground := Ground.data }, { on := 11, ground := Ground.chain }, { on := 0, ground := Ground.phase }, { on := 1, ground := Ground.phase }, { on := 2, ground := Ground.phase }, { on := 3, ground := Ground.phase }, { on := 4, ground := Ground.phase }, { on := 5, ground := Ground.phase }, { on := 6, ground := Ground.phase }, { on := 7, ground := Ground.phase }, { on := 8, ground := Ground.phase }, { on := 9, ground := Ground.phase }, { on := 10, ground := Ground.phase }, { on := 11, ground := Ground.phase }], guard := none }) (v := .bool (!nb)) rfl (by kernel_rfl) (by kernel_rfl) (by kernel_rfl) (fun _ _ _ h => h) (Or.inl ⟨by rfl, fun w' h => by go_simp⟩) hH ?_
  try simp only [Act.put, List.setIfInBounds_toArray, List.set_cons_zero, List.set_cons_succ]
  refine wpAnyH_done (by kernel_rfl) ?_ _
  clear hH hK b10 g10 q1 q2 y1 y2 B9 D9
  go_wp2_with fail
  refine bodyPost_cell_tmp2 rfl rfl D 28 (ntL ⟨xs, z⟩).toArray (0, 0) _ rfl N10.out Try.underlying28 rfl (by show _ = some 6; kernel_rfl) ⟨⟨xs, z⟩, y, t9, ?_, HY.out, K10.out, G10.out, GT.out⟩
  rw [NB.out]; rfl
end Go.Proofs.Ytdbjjeaflfoppaa
