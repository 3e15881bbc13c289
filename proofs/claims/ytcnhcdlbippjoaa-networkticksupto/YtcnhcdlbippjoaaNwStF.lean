/-
  Ours: the statement's step, kind by kind (gen_nwstp.py: THE SEAT's OWN NUMBERS).
-/
import Derived.Test.YtcnhcdlbippjoaaNwSt0
import Derived.Test.YtcnhcdlbippjoaaNwIds
import Derived.Test.YtcnhcdlbippjoaaNwAcd
import Derived.Deep.CutRange
import Derived.Deep.RegionHeld
namespace Go.Proofs.Ytcnhcdlbippjoaa
open Go.RowKit NwM
set_option linter.unusedSimpArgs false
set_option maxRecDepth 40000 in
set_option maxHeartbeats 8000000 in
theorem step_fate {R Q n N : Nat} {S B C W M : Nat → Prop} {t : Nt} {r : RNt} {aa : Option Addr} {an ac : Nat} {fa : Option Addr} {fn fc : Nat} {ma : Option Addr} {mn mc : Nat} (o : OpN) (w : World) (h : PrA R S B C t r aa an ac fa fn fc ma mn mc w) (hb : BkA Q N W M w) (hd : ∀ g, S g ∨ B g ∨ C g → ¬ (W g ∨ M g)) (ok : Okp n t r) (hn : n ≤ 149797) (hN : N ≤ 900000000000) :
    Calls Try.prog 11 #[.agg #[.pointer (some ⟨R, 0, none⟩), .int .i64 ((r.now : Nat) : Int), .slice aa an ac, .slice fa fn fc, .slice ma mn mc], .agg #[.int .i64 1, .bool o.other, .string o.lt, .int .i64 o.id, .bool o.ack, .slice o.xa o.xn o.xc], .pointer (some ⟨Q, 0, none⟩)] w (SA R Q n N S B C W M w) := by
  have HF : Hid (Rel t r ∧ Okp n t r ∧ n ≤ 149797 ∧ N ≤ 900000000000) := ⟨h.rel, ok, hn, hN⟩
  have S1 : Hid (ST w.heap.size R Q w S B C W M S B C W M t r aa an ac fa fn fc ma mn mc N [.pointer (some ⟨R, 0, none⟩), .int .i64 ((r.now : Nat) : Int), .slice aa an ac, .slice fa fn fc, .slice ma mn mc] [.int .i64 1, .bool o.other, .string o.lt, .int .i64 o.id, .bool o.ack, .slice o.xa o.xn o.xc] (((w.alloc (.cells #[.pointer (some ⟨R, 0, none⟩), .int .i64 ((r.now : Nat) : Int), .slice aa an ac, .slice fa fn fc, .slice ma mn mc] 37)).alloc (.cells #[.int .i64 1, .bool o.other, .string o.lt, .int .i64 o.id, .bool o.ack, .slice o.xa o.xn o.xc] 45)).alloc (.cells #[.pointer none, .int .i64 0, .slice none 0 0, .slice none 0 0, .slice none 0 0] 37))) := ST.start h hb hd _
  have FX := ok.facts h.rel
  have FXH : Hid (sz t ≤ 6 * n ∧ t.now ≤ n ∧ r.now ≤ n ∧ r.ms.length ≤ 6 * n ∧ r.ac.length ≤ 6 * n ∧ t.ac.length ≤ 6 * n ∧ t.fs.length ≤ 4096 ∧ r.fs.length ≤ 4096 ∧ (∀ f ∈ r.fs, isF f) ∧ (∀ a ∈ t.ac, a.bs.length ≤ 1048576) ∧ ∀ a ∈ r.ac, a.bs.length ≤ 1048576) := FX
  clear FX
  clear h hb hd ok hn hN
  go_enter Try.func11, Try.ntmps11
  go_upto_region 1 with fail
  obtain ⟨Z, hZ⟩ : ∃ Z, w.heap.size = Z := ⟨_, rfl⟩
  rw [hZ] at S1 ⊢
  clear hZ
  generalize ((w.alloc (.cells #[.pointer (some ⟨R, 0, none⟩), .int .i64 ((r.now : Nat) : Int), .slice aa an ac, .slice fa fn fc, .slice ma mn mc] 37)).alloc (.cells #[.int .i64 1, .bool o.other, .string o.lt, .int .i64 o.id, .bool o.ack, .slice o.xa o.xn o.xc] 45)).alloc (.cells #[.pointer none, .int .i64 0, .slice none 0 0, .slice none 0 0, .slice none 0 0] 37) = w1 at *
  have o0 := S1.out.bo.cell 0 _ rfl
  have lO := S1.out.bo.lt
  have RT : Hid (Calls Try.prog 15 #[.agg #[.int .i64 ((r.now : Nat) : Int), .slice aa an ac, .slice fa fn fc, .slice ma mn mc], .string o.lt] w1 (fun e w' => ∃ v', e = .returned (.tuple #[v', .int .i64 ((rfateC r o.lt : Nat) : Int)]) ∧ RfPost C w1 (rfateT r o.lt) v' w')) := rFate_at C r w1 _ o.lt ⟨_, _, _, _, _, _, _, _, _, rfl, S1.out.rv⟩ FXH.out.2.2.2.2.2.2.2.1
  have p1 := S1.out.bp.cell 1 _ rfl
  have p2 := S1.out.bp.cell 2 _ rfl
  have p3 := S1.out.bp.cell 3 _ rfl
  have p4 := S1.out.bp.cell 4 _ rfl
  have pL := S1.out.bp.lt
  have q2 := S1.out.bo.cell 2 _ rfl
  have qL := S1.out.bo.lt
  go_wp2_with fail
  refine RT.out.mono ?_
  rintro e w2 ⟨v2, rfl, ⟨C2, ⟨ab, bn, bc, fb, gn, gc, mb, nn, nc, rfl, rv2⟩, hc2⟩, b2⟩
  have S2 : Hid (ST Z R Q w S B C W M S B C2 W M t (rfateT r o.lt) ab bn bc fb gn gc mb nn nc N [.pointer (some ⟨R, 0, none⟩), .int .i64 ((r.now : Nat) : Int), .slice aa an ac, .slice fa fn fc, .slice ma mn mc] [.int .i64 1, .bool o.other, .string o.lt, .int .i64 o.id, .bool o.ack, .slice o.xa o.xn o.xc] w2) := S1.out.refP hc2 b2 rv2
  clear RT rv2 hc2 b2 S1 p1 p2 p3 p4 pL q2 qL o0 lO
  have HE := (show Hid _ from HF.out.1.fate o.lt)
  obtain ⟨fc0, hfc⟩ : ∃ x, rfateC r o.lt = x := ⟨_, rfl⟩
  have HFC : Hid (rfateC r o.lt = fc0) := hfc
  rw [hfc]
  clear hfc
  go_upto_region 4 with fail
  have S3 : Hid (ST Z R Q w S B C W M S B C2 W M t (rfateT r o.lt) ab bn bc fb gn gc mb nn nc N [.pointer (some ⟨R, 0, none⟩), .int .i64 ((r.now : Nat) : Int), .slice aa an ac, .slice fa fn fc, .slice ma mn mc] [.int .i64 1, .bool o.other, .string o.lt, .int .i64 o.id, .bool o.ack, .slice o.xa o.xn o.xc] (w2.alloc (.cells #[.int .i64 (((rfateT r o.lt).now : Nat) : Int), .slice ab bn bc, .slice fb gn gc, .slice mb nn nc] 34))) := S2.out.below (below_alloc _ _)
  have BG : Hid (Blk w2.heap.size 34 [.int .i64 (((rfateT r o.lt).now : Nat) : Int), .slice ab bn bc, .slice fb gn gc, .slice mb nn nc] (w2.alloc (.cells #[.int .i64 (((rfateT r o.lt).now : Nat) : Int), .slice ab bn bc, .slice fb gn gc, .slice mb nn nc] 34)) ∧ Z + 1 + 1 < w2.heap.size) := ⟨Blk.new _ _ _, S2.out.bz.lt⟩
  clear S2
  generalize w2.alloc (.cells #[.int .i64 (((rfateT r o.lt).now : Nat) : Int), .slice ab bn bc, .slice fb gn gc, .slice mb nn nc] 34) = w3 at *
  obtain ⟨G, hG⟩ : ∃ G, w2.heap.size = G := ⟨_, rfl⟩
  rw [hG] at BG ⊢
  clear hG
  have S4 : Hid (ST Z R Q w S B C W M S B C2 W M t (rfateT r o.lt) ab bn bc fb gn gc mb nn nc N [.pointer (some ⟨R, 0, none⟩), .int .i64 (((rfateT r o.lt).now : Nat) : Int), .slice ab bn bc, .slice fb gn gc, .slice mb nn nc] [.int .i64 1, .bool o.other, .string o.lt, .int .i64 o.id, .bool o.ack, .slice o.xa o.xn o.xc] ((((w3.setCell ⟨Z, 1, none⟩ (.int .i64 (((rfateT r o.lt).now : Nat) : Int))).setCell ⟨Z, 2, none⟩ (.slice ab bn bc)).setCell ⟨Z, 3, none⟩ (.slice fb gn gc)).setCell ⟨Z, 4, none⟩ (.slice mb nn nc))) := S3.out.putR _ _ _ _
  have p1 := S3.out.bp.cell 1 _ rfl
  have p2 := S3.out.bp.cell 2 _ rfl
  have p3 := S3.out.bp.cell 3 _ rfl
  have p4 := S3.out.bp.cell 4 _ rfl
  have pL := S3.out.bp.lt
  have pF := S3.out.bp.fz
  have g0 := BG.out.1.cell 0 _ rfl
  have g1 := BG.out.1.cell 1 _ rfl
  have g2 := BG.out.1.cell 2 _ rfl
  have g3 := BG.out.1.cell 3 _ rfl
  have gL := BG.out.1.lt
  have gz : G ≠ Z := by have := BG.out.2; omega
  have gz2 : Z ≠ G := fun e => gz e.symm
  clear S3
  go_upto_region 5 with fail
  clear p1 p2 p3 p4 pL pF g0 g1 g2 g3 gL gz gz2 BG
  generalize ((((w3.setCell ⟨Z, 1, none⟩ (.int .i64 (((rfateT r o.lt).now : Nat) : Int))).setCell ⟨Z, 2, none⟩ (.slice ab bn bc)).setCell ⟨Z, 3, none⟩ (.slice fb gn gc)).setCell ⟨Z, 4, none⟩ (.slice mb nn nc)) = w4 at *
  have S5 : Hid (ST Z R Q w S B C W M S B C2 W M t (rfateT r o.lt) ab bn bc fb gn gc mb nn nc N [.pointer (some ⟨R, 0, none⟩), .int .i64 (((rfateT r o.lt).now : Nat) : Int), .slice ab bn bc, .slice fb gn gc, .slice mb nn nc] [.int .i64 1, .bool o.other, .string o.lt, .int .i64 o.id, .bool o.ack, .slice o.xa o.xn o.xc] w4.drew) := S4.out.below (Below.drew (Below.refl _ _))
  clear S4
  have hH0 : Hid ((fun w' => w'.rangeAt Z 0 [.pointer (some ⟨R, 0, none⟩), .int .i64 (((rfateT r o.lt).now : Nat) : Int), .slice ab bn bc, .slice fb gn gc, .slice mb nn nc] ∧ w'.rangeAt (Z + 1) 0 [.int .i64 1, .bool o.other, .string o.lt, .int .i64 o.id, .bool o.ack, .slice o.xa o.xn o.xc]) w4.drew) := ⟨S5.out.bp.all, S5.out.bo.all⟩
  refine wp_region_held_drew (S := fun w' => w'.rangeAt Z 0 [.pointer (some ⟨R, 0, none⟩), .int .i64 (((rfateT r o.lt).now : Nat) : Int), .slice ab bn bc, .slice fb gn gc, .slice mb nn nc] ∧ w'.rangeAt (Z + 1) 0 [.int .i64 1, .bool o.other, .string o.lt, .int .i64 o.id, .bool o.ack, .slice o.xa o.xn o.xc]) (by kernel_rfl) (hH0.out) (fun hH => ?_)
  generalize w4.drew = w5 at *
  refine wpAnyH_take (i := 0) (oi := { dst := some 31, op := Op.load 37 (Operand.tmp 3), type := 37, pos := "law.go:166", after := #[], guard := none }) (v := .agg ([.pointer (some ⟨R, 0, none⟩), .int .i64 (((rfateT r o.lt).now : Nat) : Int), .slice ab bn bc, .slice fb gn gc, .slice mb nn nc] : List Value).toArray) rfl (by kernel_rfl) (by kernel_rfl) (by kernel_rfl) (fun _ _ _ h => h) (yieldsIf_load_mid (by rfl) _ _ rfl _ 0 rfl ([.pointer (some ⟨R, 0, none⟩), .int .i64 (((rfateT r o.lt).now : Nat) : Int), .slice ab bn bc, .slice fb gn gc, .slice mb nn nc]) _ (fun w' h => h.1) Try.underlying37 rfl sizePa) hH ?_
  try simp only [Act.put, List.setIfInBounds_toArray, List.set_cons_zero, List.set_cons_succ]
  refine wpAnyH_take (i := 1) (oi := { dst := some 32, op := Op.fieldAddr 37 (Operand.tmp 3) 0, type := 0, pos := "law.go:166", after := #[], guard := none }) (v := .pointer (some ⟨Z, 0, none⟩)) rfl (by kernel_rfl) (by kernel_rfl) (by kernel_rfl) (fun _ _ _ h => h) (Or.inl ⟨by rfl, fun w' hs => by go_simp⟩) hH ?_
  try simp only [Act.put, List.setIfInBounds_toArray, List.set_cons_zero, List.set_cons_succ]
  refine wpAnyH_take (i := 2) (oi := { dst := some 33, op := Op.load 26 (Operand.tmp 32), type := 26, pos := "law.go:166", after := #[{ on := 1, ground := Ground.data }], guard := none }) (v := .pointer (some ⟨R, 0, none⟩)) rfl (by kernel_rfl) (by kernel_rfl) (by kernel_rfl) (fun _ _ _ h => h) (Or.inl ⟨by rfl, fun w' hs => by have cc := hs.1 0 _ rfl; simp only [Nat.zero_add] at cc; go_simp⟩) hH ?_
  try simp only [Act.put, List.setIfInBounds_toArray, List.set_cons_zero, List.set_cons_succ]
  refine wpAnyH_take (i := 3) (oi := { dst := some 34, op := Op.fieldAddr 45 (Operand.tmp 4) 2, type := 0, pos := "law.go:166", after := #[], guard := none }) (v := .pointer (some ⟨Z + 1, 2, none⟩)) rfl (by kernel_rfl) (by kernel_rfl) (by kernel_rfl) (fun _ _ _ h => h) (Or.inl ⟨by rfl, fun w' hs => by go_simp⟩) hH ?_
  try simp only [Act.put, List.setIfInBounds_toArray, List.set_cons_zero, List.set_cons_succ]
  refine wpAnyH_take (i := 4) (oi := { dst := some 35, op := Op.load 9 (Operand.tmp 34), type := 9, pos := "law.go:166", after := #[{ on := 3, ground := Ground.data }], guard := none }) (v := .string o.lt) rfl (by kernel_rfl) (by kernel_rfl) (by kernel_rfl) (fun _ _ _ h => h) (Or.inl ⟨by rfl, fun w' hs => by have cc := hs.2 2 _ rfl; simp only [Nat.zero_add] at cc; go_simp⟩) hH ?_
  try simp only [Act.put, List.setIfInBounds_toArray, List.set_cons_zero, List.set_cons_succ]
  refine wpAnyH_take (i := 6) (oi := { dst := some 37, op := Op.move (Operand.tmp 9), type := 3, pos := "law.go:166", after := #[{ on := 8, ground := Ground.gcOnly Departure.lateStores }], guard := none }) (v := .int .i64 ((fc0 : Nat) : Int)) rfl (by kernel_rfl) (by kernel_rfl) (by kernel_rfl) (fun _ _ _ h => h) (Or.inl ⟨by rfl, fun w' hs => by go_simp⟩) hH ?_
  try simp only [Act.put, List.setIfInBounds_toArray, List.set_cons_zero, List.set_cons_succ]
  have FT : Hid (Calls Try.prog 9 #[.pointer (some ⟨R, 0, none⟩), .string o.lt] w5 fun e w' => e = .returned (.int .i64 ((fc0 : Nat) : Int)) ∧ ∃ S', NPost R S B w5 (fateT t o.lt) S' B w') := by
    have := fate_at R S B t o.lt w5 S5.out.net FXH.out.2.2.2.2.2.2.1
    rw [HE.out.1, HFC.out] at this
    exact this
  refine wpAnyH_ready (rs := [5]) (by kernel_rfl) (by simp) ?_
  refine AllReadyH.cons (o := { dst := some 36, op := Op.call { callee := Callee.value (Operand.func 9), args := #[Operand.tmp 33, Operand.tmp 35], argTypes := #[26, 9] }, type := 28, pos := "law.go:166", after := #[{ on := 2, ground := Ground.data }, { on := 4, ground := Ground.data }], guard := none }) rfl (fun Kx hK => ?_) AllReadyH.nil
  go_simp
  refine FT.out.mono ?_
  rintro e w6 ⟨rfl, S6, np⟩
  have S7 : Hid (ST Z R Q w S B C W M S6 B C2 W M (fateT t o.lt) (rfateT r o.lt) ab bn bc fb gn gc mb nn nc N [.pointer (some ⟨R, 0, none⟩), .int .i64 (((rfateT r o.lt).now : Nat) : Int), .slice ab bn bc, .slice fb gn gc, .slice mb nn nc] [.int .i64 1, .bool o.other, .string o.lt, .int .i64 o.id, .bool o.ack, .slice o.xa o.xn o.xc] w6) := S5.out.netP np
  clear S5 np hH0
  have hH0 : Hid ((fun w' => w'.rangeAt Z 0 [.pointer (some ⟨R, 0, none⟩), .int .i64 (((rfateT r o.lt).now : Nat) : Int), .slice ab bn bc, .slice fb gn gc, .slice mb nn nc] ∧ w'.rangeAt (Z + 1) 0 [.int .i64 1, .bool o.other, .string o.lt, .int .i64 o.id, .bool o.ack, .slice o.xa o.xn o.xc]) w6) := ⟨S7.out.bp.all, S7.out.bo.all⟩
  refine hK.out _ _ hH0.out (fun hH => ?_)
  clear hK FT
  have eN : (((fc0 : Nat) : Int) == ((fc0 : Nat) : Int)) = true := by simp
  try simp only [Act.put, List.setIfInBounds_toArray, List.set_cons_zero, List.set_cons_succ]
  refine wpAnyH_take (i := 7) (oi := { dst := some 38, op := Op.binOp BinOp.eql 3 (Operand.tmp 36) (Operand.tmp 37) 3, type := 4, pos := "law.go:166", after := #[{ on := 5, ground := Ground.data }, { on := 6, ground := Ground.data }, { on := 8, ground := Ground.gcOnly Departure.lateStores }], guard := none }) (v := .bool true) rfl (by kernel_rfl) (by kernel_rfl) (by kernel_rfl) (fun _ _ _ h => h) (Or.inl ⟨by rfl, fun w' hs => by go_simp⟩) hH ?_
  try simp only [Act.put, List.setIfInBounds_toArray, List.set_cons_zero, List.set_cons_succ]
  refine wpAnyH_ready (rs := [8]) (by kernel_rfl) (by simp) ?_
  refine AllReadyH.cons (o := { dst := none, op := Op.store 37 (Operand.tmp 6) (Operand.tmp 31), type := 0, pos := "law.go:166", after := #[{ on := 0, ground := Ground.data }, { on := 5, ground := Ground.chain }, { on := 0, ground := Ground.phase }, { on := 1, ground := Ground.textOnly Departure.lateStores }, { on := 2, ground := Ground.textOnly Departure.lateStores }, { on := 3, ground := Ground.textOnly Departure.lateStores }, { on := 4, ground := Ground.textOnly Departure.lateStores }, { on := 5, ground := Ground.textOnly Departure.lateStoresUnsure }, { on := 6, ground := Ground.textOnly Departure.lateStores }, { on := 7, ground := Ground.textOnly Departure.lateStores }], guard := none }) rfl (fun Kx hK => ?_) AllReadyH.nil
  obtain ⟨f1, f2⟩ := S7.out.fin (n := n) (N0 := N) HE.out.2 (HF.out.2.1.fate o.lt) (by omega) (.pointer (some ⟨R, 0, none⟩)) (.int .i64 (((rfateT r o.lt).now : Nat) : Int)) (.slice ab bn bc) (.slice fb gn gc) (.slice mb nn nc)
  have FB := (show Hid _ from f2)
  have FS := (show Hid _ from f1)
  clear f1 f2
  have z0 := S7.out.bz.cell 0 _ rfl
  have z1 := S7.out.bz.cell 1 _ rfl
  have z2 := S7.out.bz.cell 2 _ rfl
  have z3 := S7.out.bz.cell 3 _ rfl
  have z4 := S7.out.bz.cell 4 _ rfl
  have zL := S7.out.bz.lt
  have zF := S7.out.bz.fz
  have RG : (fun w' => w'.rangeAt Z 0 [.pointer (some ⟨R, 0, none⟩), .int .i64 (((rfateT r o.lt).now : Nat) : Int), .slice ab bn bc, .slice fb gn gc, .slice mb nn nc] ∧ w'.rangeAt (Z + 1) 0 [.int .i64 1, .bool o.other, .string o.lt, .int .i64 o.id, .bool o.ack, .slice o.xa o.xn o.xc]) (((((w6.setCell ⟨Z + 1 + 1, 0, none⟩ (.pointer (some ⟨R, 0, none⟩))).setCell ⟨Z + 1 + 1, 1, none⟩ (.int .i64 (((rfateT r o.lt).now : Nat) : Int))).setCell ⟨Z + 1 + 1, 2, none⟩ (.slice ab bn bc)).setCell ⟨Z + 1 + 1, 3, none⟩ (.slice fb gn gc)).setCell ⟨Z + 1 + 1, 4, none⟩ (.slice mb nn nc)) := by
    have kz := (show Hid (Kp (fun q => q = Z + 1 + 1) w6 (((((w6.setCell ⟨Z + 1 + 1, 0, none⟩ (.pointer (some ⟨R, 0, none⟩))).setCell ⟨Z + 1 + 1, 1, none⟩ (.int .i64 (((rfateT r o.lt).now : Nat) : Int))).setCell ⟨Z + 1 + 1, 2, none⟩ (.slice ab bn bc)).setCell ⟨Z + 1 + 1, 3, none⟩ (.slice fb gn gc)).setCell ⟨Z + 1 + 1, 4, none⟩ (.slice mb nn nc))) from (Kp.of_grown (grownBy_trans (grownBy_trans (grownBy_trans (grownBy_trans (setCell_grown _ (Z + 1 + 1) 0 _) (setCell_grown _ (Z + 1 + 1) 1 _)) (setCell_grown _ (Z + 1 + 1) 2 _)) (setCell_grown _ (Z + 1 + 1) 3 _)) (setCell_grown _ (Z + 1 + 1) 4 _))).mono (fun q _ e => by injection e with e; exact e.symm))
    exact ⟨(S7.out.bp.kp kz.out (fun e => by omega)).all, (S7.out.bo.kp kz.out (fun e => by omega)).all⟩
  go_simp
  refine hK.out _ _ RG (fun hH => ?_)
  try simp only [Act.put, List.setIfInBounds_toArray, List.set_cons_zero, List.set_cons_succ]
  refine wpAnyH_take (i := 9) (oi := { dst := some 7, op := Op.assign (Operand.tmp 38), type := 4, pos := "law.go:166", after := #[{ on := 7, ground := Ground.data }, { on := 8, ground := Ground.chain }, { on := 0, ground := Ground.phase }, { on := 1, ground := Ground.phase }, { on := 2, ground := Ground.phase }, { on := 3, ground := Ground.phase }, { on := 4, ground := Ground.phase }, { on := 5, ground := Ground.phase }, { on := 6, ground := Ground.phase }, { on := 7, ground := Ground.phase }, { on := 8, ground := Ground.phase }], guard := none }) (v := .bool true) rfl (by kernel_rfl) (by kernel_rfl) (by kernel_rfl) (fun _ _ _ h => h) (Or.inl ⟨by rfl, fun w' hs => by go_simp⟩) hH ?_
  try simp only [Act.put, List.setIfInBounds_toArray, List.set_cons_zero, List.set_cons_succ]
  refine wpAnyH_done (by kernel_rfl) ?_ _
  clear hH hK RG S7 z0 z1 z2 z3 z4 zL zF
  go_wp2_with fail
  exact ret_blk_tmp rfl rfl (Z + 1 + 1) _ [.pointer (some ⟨R, 0, none⟩), .int .i64 (((rfateT r o.lt).now : Nat) : Int), .slice ab bn bc, .slice fb gn gc, .slice mb nn nc] _ rfl FB.out Try.underlying37 rfl (by kernel_rfl) ⟨_, _, _, _, _, _, _, _, _, _, _, _, _, _, _, _, rfl, FS.out⟩
end Go.Proofs.Ytcnhcdlbippjoaa
