/-
  Ours: the statement's step, kind by kind (gen_nwstp.py: THE SEAT's OWN NUMBERS).
-/
import Derived.Test.YtcnhcdlbippjoaaNwSt0
import Derived.Test.YtcnhcdlbippjoaaNwIds
import Derived.Test.YtcnhcdlbippjoaaNwAcd
import Derived.Deep.CutRange
import Derived.Deep.RegionHeld
namespace Go.Proofs.Ytcnhcdlbippjoaa
open Go.RowKit NwM
set_option linter.unusedSimpArgs false
set_option maxRecDepth 40000 in
set_option maxHeartbeats 8000000 in
theorem step_now {R Q n N : Nat} {S B C W M : Nat → Prop} {t : Nt} {r : RNt} {aa : Option Addr} {an ac : Nat} {fa : Option Addr} {fn fc : Nat} {ma : Option Addr} {mn mc : Nat} (o : OpN) (w : World) (h : PrA R S B C t r aa an ac fa fn fc ma mn mc w) (hb : BkA Q N W M w) (hd : ∀ g, S g ∨ B g ∨ C g → ¬ (W g ∨ M g)) (ok : Okp n t r) (hn : n ≤ 149797) (hN : N ≤ 900000000000) :
    Calls Try.prog 11 #[.agg #[.pointer (some ⟨R, 0, none⟩), .int .i64 ((r.now : Nat) : Int), .slice aa an ac, .slice fa fn fc, .slice ma mn mc], .agg #[.int .i64 5, .bool o.other, .string o.lt, .int .i64 o.id, .bool o.ack, .slice o.xa o.xn o.xc], .pointer (some ⟨Q, 0, none⟩)] w (SA R Q n N S B C W M w) := by
  have HF : Hid (Rel t r ∧ Okp n t r ∧ n ≤ 149797 ∧ N ≤ 900000000000) := ⟨h.rel, ok, hn, hN⟩
  have S1 : Hid (ST w.heap.size R Q w S B C W M S B C W M t r aa an ac fa fn fc ma mn mc N [.pointer (some ⟨R, 0, none⟩), .int .i64 ((r.now : Nat) : Int), .slice aa an ac, .slice fa fn fc, .slice ma mn mc] [.int .i64 5, .bool o.other, .string o.lt, .int .i64 o.id, .bool o.ack, .slice o.xa o.xn o.xc] (((w.alloc (.cells #[.pointer (some ⟨R, 0, none⟩), .int .i64 ((r.now : Nat) : Int), .slice aa an ac, .slice fa fn fc, .slice ma mn mc] 37)).alloc (.cells #[.int .i64 5, .bool o.other, .string o.lt, .int .i64 o.id, .bool o.ack, .slice o.xa o.xn o.xc] 45)).alloc (.cells #[.pointer none, .int .i64 0, .slice none 0 0, .slice none 0 0, .slice none 0 0] 37))) := ST.start h hb hd _
  clear h hb hd ok hn hN
  go_enter Try.func11, Try.ntmps11
  go_upto_region 1 with fail
  obtain ⟨Z, hZ⟩ : ∃ Z, w.heap.size = Z := ⟨_, rfl⟩
  rw [hZ] at S1 ⊢
  clear hZ
  generalize ((w.alloc (.cells #[.pointer (some ⟨R, 0, none⟩), .int .i64 ((r.now : Nat) : Int), .slice aa an ac, .slice fa fn fc, .slice ma mn mc] 37)).alloc (.cells #[.int .i64 5, .bool o.other, .string o.lt, .int .i64 o.id, .bool o.ack, .slice o.xa o.xn o.xc] 45)).alloc (.cells #[.pointer none, .int .i64 0, .slice none 0 0, .slice none 0 0, .slice none 0 0] 37) = w1 at *
  have o0 := S1.out.bo.cell 0 _ rfl
  have lO := S1.out.bo.lt
  go_upto_region 19 with fail
  have S2 : Hid (ST Z R Q w S B C W M S B C W M t r aa an ac fa fn fc ma mn mc N [.pointer (some ⟨R, 0, none⟩), .int .i64 ((r.now : Nat) : Int), .slice aa an ac, .slice fa fn fc, .slice ma mn mc] [.int .i64 5, .bool o.other, .string o.lt, .int .i64 o.id, .bool o.ack, .slice o.xa o.xn o.xc] w1.drew) := S1.out.below (Below.drew (Below.refl _ _))
  clear S1 o0 lO
  have hH0 : Hid ((fun w' => w'.rangeAt Z 0 [.pointer (some ⟨R, 0, none⟩), .int .i64 ((r.now : Nat) : Int), .slice aa an ac, .slice fa fn fc, .slice ma mn mc] ∧ w'.rangeAt (Z + 1) 0 [.int .i64 5, .bool o.other, .string o.lt, .int .i64 o.id, .bool o.ack, .slice o.xa o.xn o.xc]) w1.drew) := ⟨S2.out.bp.all, S2.out.bo.all⟩
  refine wp_region_held_drew (S := fun w' => w'.rangeAt Z 0 [.pointer (some ⟨R, 0, none⟩), .int .i64 ((r.now : Nat) : Int), .slice aa an ac, .slice fa fn fc, .slice ma mn mc] ∧ w'.rangeAt (Z + 1) 0 [.int .i64 5, .bool o.other, .string o.lt, .int .i64 o.id, .bool o.ack, .slice o.xa o.xn o.xc]) (by kernel_rfl) (hH0.out) (fun hH => ?_)
  generalize w1.drew = w2 at *
  refine wpAnyH_take (i := 0) (oi := { dst := some 78, op := Op.load 37 (Operand.tmp 3), type := 37, pos := "law.go:180", after := #[], guard := none }) (v := .agg ([.pointer (some ⟨R, 0, none⟩), .int .i64 ((r.now : Nat) : Int), .slice aa an ac, .slice fa fn fc, .slice ma mn mc] : List Value).toArray) rfl (by kernel_rfl) (by kernel_rfl) (by kernel_rfl) (fun _ _ _ h => h) (yieldsIf_load_mid (by rfl) _ _ rfl _ 0 rfl ([.pointer (some ⟨R, 0, none⟩), .int .i64 ((r.now : Nat) : Int), .slice aa an ac, .slice fa fn fc, .slice ma mn mc]) _ (fun w' h => h.1) Try.underlying37 rfl sizePa) hH ?_
  try simp only [Act.put, List.setIfInBounds_toArray, List.set_cons_zero, List.set_cons_succ]
  refine wpAnyH_take (i := 1) (oi := { dst := some 79, op := Op.fieldAddr 37 (Operand.tmp 3) 0, type := 0, pos := "law.go:180", after := #[], guard := none }) (v := .pointer (some ⟨Z, 0, none⟩)) rfl (by kernel_rfl) (by kernel_rfl) (by kernel_rfl) (fun _ _ _ h => h) (Or.inl ⟨by rfl, fun w' hs => by go_simp⟩) hH ?_
  try simp only [Act.put, List.setIfInBounds_toArray, List.set_cons_zero, List.set_cons_succ]
  refine wpAnyH_take (i := 2) (oi := { dst := some 80, op := Op.load 26 (Operand.tmp 79), type := 26, pos := "law.go:180", after := #[{ on := 1, ground := Ground.data }], guard := none }) (v := .pointer (some ⟨R, 0, none⟩)) rfl (by kernel_rfl) (by kernel_rfl) (by kernel_rfl) (fun _ _ _ h => h) (Or.inl ⟨by rfl, fun w' hs => by have cc := hs.1 0 _ rfl; simp only [Nat.zero_add] at cc; go_simp⟩) hH ?_
  try simp only [Act.put, List.setIfInBounds_toArray, List.set_cons_zero, List.set_cons_succ]
  refine wpAnyH_take (i := 4) (oi := { dst := some 82, op := Op.fieldAddr 37 (Operand.tmp 3) 1, type := 0, pos := "law.go:180", after := #[{ on := 8, ground := Ground.gcOnly Departure.lateStores }], guard := none }) (v := .pointer (some ⟨Z, 1, none⟩)) rfl (by kernel_rfl) (by kernel_rfl) (by kernel_rfl) (fun _ _ _ h => h) (Or.inl ⟨by rfl, fun w' hs => by go_simp⟩) hH ?_
  try simp only [Act.put, List.setIfInBounds_toArray, List.set_cons_zero, List.set_cons_succ]
  refine wpAnyH_take (i := 5) (oi := { dst := some 83, op := Op.fieldAddr 34 (Operand.tmp 82) 0, type := 0, pos := "law.go:180", after := #[{ on := 4, ground := Ground.data }, { on := 8, ground := Ground.gcOnly Departure.lateStores }], guard := none }) (v := .pointer (some ⟨Z, 1, none⟩)) rfl (by kernel_rfl) (by kernel_rfl) (by kernel_rfl) (fun _ _ _ h => h) (Or.inl ⟨by rfl, fun w' hs => by go_simp⟩) hH ?_
  try simp only [Act.put, List.setIfInBounds_toArray, List.set_cons_zero, List.set_cons_succ]
  refine wpAnyH_take (i := 6) (oi := { dst := some 84, op := Op.load 3 (Operand.tmp 83), type := 3, pos := "law.go:180", after := #[{ on := 5, ground := Ground.data }, { on := 8, ground := Ground.gcOnly Departure.lateStores }], guard := none }) (v := .int .i64 ((r.now : Nat) : Int)) rfl (by kernel_rfl) (by kernel_rfl) (by kernel_rfl) (fun _ _ _ h => h) (Or.inl ⟨by rfl, fun w' hs => by have cc := hs.1 1 _ rfl; simp only [Nat.zero_add] at cc; go_simp⟩) hH ?_
  try simp only [Act.put, List.setIfInBounds_toArray, List.set_cons_zero, List.set_cons_succ]
  have NW : Hid (Calls Try.prog 23 #[.pointer (some ⟨R, 0, none⟩)] w2 fun e w' => e = .returned (.int .i64 ((r.now : Nat) : Int)) ∧ w2 = w') := by
    have := now_at R S B t w2 S2.out.net
    rw [HF.out.1.now] at this
    exact this
  refine wpAnyH_ready (rs := [3]) (by kernel_rfl) (by simp) ?_
  refine AllReadyH.cons (o := { dst := some 81, op := Op.call { callee := Callee.value (Operand.func 23), args := #[Operand.tmp 80], argTypes := #[26] }, type := 3, pos := "law.go:180", after := #[{ on := 2, ground := Ground.data }], guard := none }) rfl (fun Kx hK => ?_) AllReadyH.nil
  go_simp
  refine NW.out.mono ?_
  rintro e w3 ⟨rfl, rfl⟩
  refine hK.out _ _ hH0.out (fun hH => ?_)
  clear hK NW
  have eN : (((r.now : Nat) : Int) == ((r.now : Nat) : Int)) = true := by simp
  try simp only [Act.put, List.setIfInBounds_toArray, List.set_cons_zero, List.set_cons_succ]
  refine wpAnyH_take (i := 7) (oi := { dst := some 85, op := Op.binOp BinOp.eql 3 (Operand.tmp 81) (Operand.tmp 84) 3, type := 4, pos := "law.go:180", after := #[{ on := 3, ground := Ground.data }, { on := 6, ground := Ground.data }, { on := 8, ground := Ground.gcOnly Departure.lateStores }], guard := none }) (v := .bool true) rfl (by kernel_rfl) (by kernel_rfl) (by kernel_rfl) (fun _ _ _ h => h) (Or.inl ⟨by rfl, fun w' hs => by go_simp⟩) hH ?_
  try simp only [Act.put, List.setIfInBounds_toArray, List.set_cons_zero, List.set_cons_succ]
  refine wpAnyH_ready (rs := [8]) (by kernel_rfl) (by simp) ?_
  refine AllReadyH.cons (o := { dst := none, op := Op.store 37 (Operand.tmp 6) (Operand.tmp 78), type := 0, pos := "law.go:180", after := #[{ on := 0, ground := Ground.data }, { on := 3, ground := Ground.chain }, { on := 0, ground := Ground.phase }, { on := 1, ground := Ground.textOnly Departure.lateStores }, { on := 2, ground := Ground.textOnly Departure.lateStores }, { on := 3, ground := Ground.textOnly Departure.lateStoresUnsure }, { on := 4, ground := Ground.textOnly Departure.lateStores }, { on := 5, ground := Ground.textOnly Departure.lateStores }, { on := 6, ground := Ground.textOnly Departure.lateStores }, { on := 7, ground := Ground.textOnly Departure.lateStores }], guard := none }) rfl (fun Kx hK => ?_) AllReadyH.nil
  obtain ⟨f1, f2⟩ := S2.out.fin (n := n) (N0 := N) HF.out.1 (HF.out.2.1.mono (by omega)) (by omega) (.pointer (some ⟨R, 0, none⟩)) (.int .i64 ((r.now : Nat) : Int)) (.slice aa an ac) (.slice fa fn fc) (.slice ma mn mc)
  have FB := (show Hid _ from f2)
  have FS := (show Hid _ from f1)
  clear f1 f2
  have z0 := S2.out.bz.cell 0 _ rfl
  have z1 := S2.out.bz.cell 1 _ rfl
  have z2 := S2.out.bz.cell 2 _ rfl
  have z3 := S2.out.bz.cell 3 _ rfl
  have z4 := S2.out.bz.cell 4 _ rfl
  have zL := S2.out.bz.lt
  have zF := S2.out.bz.fz
  have RG : (fun w' => w'.rangeAt Z 0 [.pointer (some ⟨R, 0, none⟩), .int .i64 ((r.now : Nat) : Int), .slice aa an ac, .slice fa fn fc, .slice ma mn mc] ∧ w'.rangeAt (Z + 1) 0 [.int .i64 5, .bool o.other, .string o.lt, .int .i64 o.id, .bool o.ack, .slice o.xa o.xn o.xc]) (((((w2.setCell ⟨Z + 1 + 1, 0, none⟩ (.pointer (some ⟨R, 0, none⟩))).setCell ⟨Z + 1 + 1, 1, none⟩ (.int .i64 ((r.now : Nat) : Int))).setCell ⟨Z + 1 + 1, 2, none⟩ (.slice aa an ac)).setCell ⟨Z + 1 + 1, 3, none⟩ (.slice fa fn fc)).setCell ⟨Z + 1 + 1, 4, none⟩ (.slice ma mn mc)) := by
    have kz := (show Hid (Kp (fun q => q = Z + 1 + 1) w2 (((((w2.setCell ⟨Z + 1 + 1, 0, none⟩ (.pointer (some ⟨R, 0, none⟩))).setCell ⟨Z + 1 + 1, 1, none⟩ (.int .i64 ((r.now : Nat) : Int))).setCell ⟨Z + 1 + 1, 2, none⟩ (.slice aa an ac)).setCell ⟨Z + 1 + 1, 3, none⟩ (.slice fa fn fc)).setCell ⟨Z + 1 + 1, 4, none⟩ (.slice ma mn mc))) from (Kp.of_grown (grownBy_trans (grownBy_trans (grownBy_trans (grownBy_trans (setCell_grown _ (Z + 1 + 1) 0 _) (setCell_grown _ (Z + 1 + 1) 1 _)) (setCell_grown _ (Z + 1 + 1) 2 _)) (setCell_grown _ (Z + 1 + 1) 3 _)) (setCell_grown _ (Z + 1 + 1) 4 _))).mono (fun q _ e => by injection e with e; exact e.symm))
    exact ⟨(S2.out.bp.kp kz.out (fun e => by omega)).all, (S2.out.bo.kp kz.out (fun e => by omega)).all⟩
  go_simp
  refine hK.out _ _ RG (fun hH => ?_)
  try simp only [Act.put, List.setIfInBounds_toArray, List.set_cons_zero, List.set_cons_succ]
  refine wpAnyH_take (i := 9) (oi := { dst := some 7, op := Op.assign (Operand.tmp 85), type := 4, pos := "law.go:180", after := #[{ on := 7, ground := Ground.data }, { on := 8, ground := Ground.chain }, { on := 0, ground := Ground.phase }, { on := 1, ground := Ground.phase }, { on := 2, ground := Ground.phase }, { on := 3, ground := Ground.phase }, { on := 4, ground := Ground.phase }, { on := 5, ground := Ground.phase }, { on := 6, ground := Ground.phase }, { on := 7, ground := Ground.phase }, { on := 8, ground := Ground.phase }], guard := none }) (v := .bool true) rfl (by kernel_rfl) (by kernel_rfl) (by kernel_rfl) (fun _ _ _ h => h) (Or.inl ⟨by rfl, fun w' hs => by go_simp⟩) hH ?_
  try simp only [Act.put, List.setIfInBounds_toArray, List.set_cons_zero, List.set_cons_succ]
  refine wpAnyH_done (by kernel_rfl) ?_ _
  clear hH hK RG S2 z0 z1 z2 z3 z4 zL zF
  go_wp2_with fail
  exact ret_blk_tmp rfl rfl (Z + 1 + 1) _ [.pointer (some ⟨R, 0, none⟩), .int .i64 ((r.now : Nat) : Int), .slice aa an ac, .slice fa fn fc, .slice ma mn mc] _ rfl FB.out Try.underlying37 rfl (by kernel_rfl) ⟨_, _, _, _, _, _, _, _, _, _, _, _, _, _, _, _, rfl, FS.out⟩
set_option maxRecDepth 40000 in
set_option maxHeartbeats 8000000 in
theorem step_fly {R Q n N : Nat} {S B C W M : Nat → Prop} {t : Nt} {r : RNt} {aa : Option Addr} {an ac : Nat} {fa : Option Addr} {fn fc : Nat} {ma : Option Addr} {mn mc : Nat} (o : OpN) (w : World) (h : PrA R S B C t r aa an ac fa fn fc ma mn mc w) (hb : BkA Q N W M w) (hd : ∀ g, S g ∨ B g ∨ C g → ¬ (W g ∨ M g)) (ok : Okp n t r) (hn : n ≤ 149797) (hN : N ≤ 900000000000) :
    Calls Try.prog 11 #[.agg #[.pointer (some ⟨R, 0, none⟩), .int .i64 ((r.now : Nat) : Int), .slice aa an ac, .slice fa fn fc, .slice ma mn mc], .agg #[.int .i64 7, .bool o.other, .string o.lt, .int .i64 o.id, .bool o.ack, .slice o.xa o.xn o.xc], .pointer (some ⟨Q, 0, none⟩)] w (SA R Q n N S B C W M w) := by
  have HF : Hid (Rel t r ∧ Okp n t r ∧ n ≤ 149797 ∧ N ≤ 900000000000) := ⟨h.rel, ok, hn, hN⟩
  have S1 : Hid (ST w.heap.size R Q w S B C W M S B C W M t r aa an ac fa fn fc ma mn mc N [.pointer (some ⟨R, 0, none⟩), .int .i64 ((r.now : Nat) : Int), .slice aa an ac, .slice fa fn fc, .slice ma mn mc] [.int .i64 7, .bool o.other, .string o.lt, .int .i64 o.id, .bool o.ack, .slice o.xa o.xn o.xc] (((w.alloc (.cells #[.pointer (some ⟨R, 0, none⟩), .int .i64 ((r.now : Nat) : Int), .slice aa an ac, .slice fa fn fc, .slice ma mn mc] 37)).alloc (.cells #[.int .i64 7, .bool o.other, .string o.lt, .int .i64 o.id, .bool o.ack, .slice o.xa o.xn o.xc] 45)).alloc (.cells #[.pointer none, .int .i64 0, .slice none 0 0, .slice none 0 0, .slice none 0 0] 37))) := ST.start h hb hd _
  have FX := ok.facts h.rel
  have FXH : Hid (sz t ≤ 6 * n ∧ t.now ≤ n ∧ r.now ≤ n ∧ r.ms.length ≤ 6 * n ∧ r.ac.length ≤ 6 * n ∧ t.ac.length ≤ 6 * n ∧ t.fs.length ≤ 4096 ∧ r.fs.length ≤ 4096 ∧ (∀ f ∈ r.fs, isF f) ∧ (∀ a ∈ t.ac, a.bs.length ≤ 1048576) ∧ ∀ a ∈ r.ac, a.bs.length ≤ 1048576) := FX
  clear FX
  clear h hb hd ok hn hN
  go_enter Try.func11, Try.ntmps11
  go_upto_region 1 with fail
  obtain ⟨Z, hZ⟩ : ∃ Z, w.heap.size = Z := ⟨_, rfl⟩
  rw [hZ] at S1 ⊢
  clear hZ
  generalize ((w.alloc (.cells #[.pointer (some ⟨R, 0, none⟩), .int .i64 ((r.now : Nat) : Int), .slice aa an ac, .slice fa fn fc, .slice ma mn mc] 37)).alloc (.cells #[.int .i64 7, .bool o.other, .string o.lt, .int .i64 o.id, .bool o.ack, .slice o.xa o.xn o.xc] 45)).alloc (.cells #[.pointer none, .int .i64 0, .slice none 0 0, .slice none 0 0, .slice none 0 0] 37) = w1 at *
  have o0 := S1.out.bo.cell 0 _ rfl
  have lO := S1.out.bo.lt
  go_upto_region 29 with fail
  have S2 : Hid (ST Z R Q w S B C W M S B C W M t r aa an ac fa fn fc ma mn mc N [.pointer (some ⟨R, 0, none⟩), .int .i64 ((r.now : Nat) : Int), .slice aa an ac, .slice fa fn fc, .slice ma mn mc] [.int .i64 7, .bool o.other, .string o.lt, .int .i64 o.id, .bool o.ack, .slice o.xa o.xn o.xc] w1.drew) := S1.out.below (Below.drew (Below.refl _ _))
  clear S1 o0 lO
  have hH0 : Hid ((fun w' => w'.rangeAt Z 0 [.pointer (some ⟨R, 0, none⟩), .int .i64 ((r.now : Nat) : Int), .slice aa an ac, .slice fa fn fc, .slice ma mn mc] ∧ w'.rangeAt (Z + 1) 0 [.int .i64 7, .bool o.other, .string o.lt, .int .i64 o.id, .bool o.ack, .slice o.xa o.xn o.xc]) w1.drew) := ⟨S2.out.bp.all, S2.out.bo.all⟩
  refine wp_region_held_drew (S := fun w' => w'.rangeAt Z 0 [.pointer (some ⟨R, 0, none⟩), .int .i64 ((r.now : Nat) : Int), .slice aa an ac, .slice fa fn fc, .slice ma mn mc] ∧ w'.rangeAt (Z + 1) 0 [.int .i64 7, .bool o.other, .string o.lt, .int .i64 o.id, .bool o.ack, .slice o.xa o.xn o.xc]) (by kernel_rfl) (hH0.out) (fun hH => ?_)
  generalize w1.drew = w2 at *
  refine wpAnyH_take (i := 0) (oi := { dst := some 117, op := Op.load 37 (Operand.tmp 3), type := 37, pos := "law.go:190", after := #[], guard := none }) (v := .agg ([.pointer (some ⟨R, 0, none⟩), .int .i64 ((r.now : Nat) : Int), .slice aa an ac, .slice fa fn fc, .slice ma mn mc] : List Value).toArray) rfl (by kernel_rfl) (by kernel_rfl) (by kernel_rfl) (fun _ _ _ h => h) (yieldsIf_load_mid (by rfl) _ _ rfl _ 0 rfl ([.pointer (some ⟨R, 0, none⟩), .int .i64 ((r.now : Nat) : Int), .slice aa an ac, .slice fa fn fc, .slice ma mn mc]) _ (fun w' h => h.1) Try.underlying37 rfl sizePa) hH ?_
  try simp only [Act.put, List.setIfInBounds_toArray, List.set_cons_zero, List.set_cons_succ]
  refine wpAnyH_take (i := 1) (oi := { dst := some 118, op := Op.fieldAddr 37 (Operand.tmp 3) 0, type := 0, pos := "law.go:190", after := #[], guard := none }) (v := .pointer (some ⟨Z, 0, none⟩)) rfl (by kernel_rfl) (by kernel_rfl) (by kernel_rfl) (fun _ _ _ h => h) (Or.inl ⟨by rfl, fun w' hs => by go_simp⟩) hH ?_
  try simp only [Act.put, List.setIfInBounds_toArray, List.set_cons_zero, List.set_cons_succ]
  refine wpAnyH_take (i := 2) (oi := { dst := some 119, op := Op.load 26 (Operand.tmp 118), type := 26, pos := "law.go:190", after := #[{ on := 1, ground := Ground.data }], guard := none }) (v := .pointer (some ⟨R, 0, none⟩)) rfl (by kernel_rfl) (by kernel_rfl) (by kernel_rfl) (fun _ _ _ h => h) (Or.inl ⟨by rfl, fun w' hs => by have cc := hs.1 0 _ rfl; simp only [Nat.zero_add] at cc; go_simp⟩) hH ?_
  try simp only [Act.put, List.setIfInBounds_toArray, List.set_cons_zero, List.set_cons_succ]
  refine wpAnyH_take (i := 4) (oi := { dst := some 121, op := Op.fieldAddr 37 (Operand.tmp 3) 1, type := 0, pos := "law.go:190", after := #[], guard := none }) (v := .pointer (some ⟨Z, 1, none⟩)) rfl (by kernel_rfl) (by kernel_rfl) (by kernel_rfl) (fun _ _ _ h => h) (Or.inl ⟨by rfl, fun w' hs => by go_simp⟩) hH ?_
  try simp only [Act.put, List.setIfInBounds_toArray, List.set_cons_zero, List.set_cons_succ]
  refine wpAnyH_take (i := 5) (oi := { dst := some 122, op := Op.load 34 (Operand.tmp 121), type := 34, pos := "law.go:190", after := #[{ on := 4, ground := Ground.data }], guard := none }) (v := .agg ([.int .i64 ((r.now : Nat) : Int), .slice aa an ac, .slice fa fn fc, .slice ma mn mc] : List Value).toArray) rfl (by kernel_rfl) (by kernel_rfl) (by kernel_rfl) (fun _ _ _ h => h) (yieldsIf_load_mid (by rfl) _ _ rfl _ 1 rfl ([.int .i64 ((r.now : Nat) : Int), .slice aa an ac, .slice fa fn fc, .slice ma mn mc]) _ (fun w' h => (fun j v hv => by have := h.1 (j + 1) v (by simpa using hv); rw [show 1 + j = 0 + (j + 1) by omega]; exact this)) Try.underlying34 rfl sizeNt) hH ?_
  try simp only [Act.put, List.setIfInBounds_toArray, List.set_cons_zero, List.set_cons_succ]
  have FL : Hid (Calls Try.prog 27 #[.pointer (some ⟨R, 0, none⟩)] w2 fun e w' => e = .returned (.int .i64 ((rfly r : Nat) : Int)) ∧ w2 = w') := by
    have := flying_at R S B t w2 S2.out.net (by have := FXH.out; have := HF.out.2.2; omega)
    rw [HF.out.1.fly] at this
    exact this
  have RF : Hid (Calls Try.prog 28 #[.agg #[.int .i64 ((r.now : Nat) : Int), .slice aa an ac, .slice fa fn fc, .slice ma mn mc]] w2 fun e w' => e = .returned (.int .i64 ((rfly r : Nat) : Int)) ∧ Below w2.heap.size w2 w') := rFlying_at C r w2 _ ⟨_, _, _, _, _, _, _, _, _, rfl, S2.out.rv⟩ (by have := FXH.out; have := HF.out.2.2; omega)
  refine wpAnyH_ready (rs := [3]) (by kernel_rfl) (by simp) ?_
  refine AllReadyH.cons (o := { dst := some 120, op := Op.call { callee := Callee.value (Operand.func 27), args := #[Operand.tmp 119], argTypes := #[26] }, type := 3, pos := "law.go:190", after := #[{ on := 2, ground := Ground.data }], guard := none }) rfl (fun Kx hK => ?_) AllReadyH.nil
  go_simp
  refine FL.out.mono ?_
  rintro e w3 ⟨rfl, rfl⟩
  refine hK.out _ _ hH0.out (fun hH => ?_)
  clear hK FL
  try simp only [Act.put, List.setIfInBounds_toArray, List.set_cons_zero, List.set_cons_succ]
  refine wpAnyH_ready (rs := [6]) (by kernel_rfl) (by simp) ?_
  refine AllReadyH.cons (o := { dst := some 123, op := Op.call { callee := Callee.value (Operand.func 28), args := #[Operand.tmp 122], argTypes := #[34] }, type := 3, pos := "law.go:190", after := #[{ on := 5, ground := Ground.data }, { on := 3, ground := Ground.chain }], guard := none }) rfl (fun Kx hK => ?_) AllReadyH.nil
  go_simp
  refine RF.out.mono ?_
  rintro e w3 ⟨rfl, b3⟩
  have S3 : Hid (ST Z R Q w S B C W M S B C W M t r aa an ac fa fn fc ma mn mc N [.pointer (some ⟨R, 0, none⟩), .int .i64 ((r.now : Nat) : Int), .slice aa an ac, .slice fa fn fc, .slice ma mn mc] [.int .i64 7, .bool o.other, .string o.lt, .int .i64 o.id, .bool o.ack, .slice o.xa o.xn o.xc] w3) := S2.out.below b3
  clear S2 b3 hH0
  have hH0 : Hid ((fun w' => w'.rangeAt Z 0 [.pointer (some ⟨R, 0, none⟩), .int .i64 ((r.now : Nat) : Int), .slice aa an ac, .slice fa fn fc, .slice ma mn mc] ∧ w'.rangeAt (Z + 1) 0 [.int .i64 7, .bool o.other, .string o.lt, .int .i64 o.id, .bool o.ack, .slice o.xa o.xn o.xc]) w3) := ⟨S3.out.bp.all, S3.out.bo.all⟩
  refine hK.out _ _ hH0.out (fun hH => ?_)
  clear hK RF
  have eN : (((rfly r : Nat) : Int) == ((rfly r : Nat) : Int)) = true := by simp
  try simp only [Act.put, List.setIfInBounds_toArray, List.set_cons_zero, List.set_cons_succ]
  refine wpAnyH_take (i := 7) (oi := { dst := some 124, op := Op.binOp BinOp.eql 3 (Operand.tmp 120) (Operand.tmp 123) 3, type := 4, pos := "law.go:190", after := #[{ on := 3, ground := Ground.data }, { on := 6, ground := Ground.data }, { on := 8, ground := Ground.gcOnly Departure.lateStores }], guard := none }) (v := .bool true) rfl (by kernel_rfl) (by kernel_rfl) (by kernel_rfl) (fun _ _ _ h => h) (Or.inl ⟨by rfl, fun w' hs => by go_simp⟩) hH ?_
  try simp only [Act.put, List.setIfInBounds_toArray, List.set_cons_zero, List.set_cons_succ]
  refine wpAnyH_ready (rs := [8]) (by kernel_rfl) (by simp) ?_
  refine AllReadyH.cons (o := { dst := none, op := Op.store 37 (Operand.tmp 6) (Operand.tmp 117), type := 0, pos := "law.go:190", after := #[{ on := 0, ground := Ground.data }, { on := 6, ground := Ground.chain }, { on := 0, ground := Ground.phase }, { on := 1, ground := Ground.textOnly Departure.lateStores }, { on := 2, ground := Ground.textOnly Departure.lateStores }, { on := 3, ground := Ground.textOnly Departure.lateStoresUnsure }, { on := 4, ground := Ground.textOnly Departure.lateStores }, { on := 5, ground := Ground.textOnly Departure.lateStores }, { on := 6, ground := Ground.textOnly Departure.lateStoresUnsure }, { on := 7, ground := Ground.textOnly Departure.lateStores }], guard := none }) rfl (fun Kx hK => ?_) AllReadyH.nil
  obtain ⟨f1, f2⟩ := S3.out.fin (n := n) (N0 := N) HF.out.1 (HF.out.2.1.mono (by omega)) (by omega) (.pointer (some ⟨R, 0, none⟩)) (.int .i64 ((r.now : Nat) : Int)) (.slice aa an ac) (.slice fa fn fc) (.slice ma mn mc)
  have FB := (show Hid _ from f2)
  have FS := (show Hid _ from f1)
  clear f1 f2
  have z0 := S3.out.bz.cell 0 _ rfl
  have z1 := S3.out.bz.cell 1 _ rfl
  have z2 := S3.out.bz.cell 2 _ rfl
  have z3 := S3.out.bz.cell 3 _ rfl
  have z4 := S3.out.bz.cell 4 _ rfl
  have zL := S3.out.bz.lt
  have zF := S3.out.bz.fz
  have RG : (fun w' => w'.rangeAt Z 0 [.pointer (some ⟨R, 0, none⟩), .int .i64 ((r.now : Nat) : Int), .slice aa an ac, .slice fa fn fc, .slice ma mn mc] ∧ w'.rangeAt (Z + 1) 0 [.int .i64 7, .bool o.other, .string o.lt, .int .i64 o.id, .bool o.ack, .slice o.xa o.xn o.xc]) (((((w3.setCell ⟨Z + 1 + 1, 0, none⟩ (.pointer (some ⟨R, 0, none⟩))).setCell ⟨Z + 1 + 1, 1, none⟩ (.int .i64 ((r.now : Nat) : Int))).setCell ⟨Z + 1 + 1, 2, none⟩ (.slice aa an ac)).setCell ⟨Z + 1 + 1, 3, none⟩ (.slice fa fn fc)).setCell ⟨Z + 1 + 1, 4, none⟩ (.slice ma mn mc)) := by
    have kz := (show Hid (Kp (fun q => q = Z + 1 + 1) w3 (((((w3.setCell ⟨Z + 1 + 1, 0, none⟩ (.pointer (some ⟨R, 0, none⟩))).setCell ⟨Z + 1 + 1, 1, none⟩ (.int .i64 ((r.now : Nat) : Int))).setCell ⟨Z + 1 + 1, 2, none⟩ (.slice aa an ac)).setCell ⟨Z + 1 + 1, 3, none⟩ (.slice fa fn fc)).setCell ⟨Z + 1 + 1, 4, none⟩ (.slice ma mn mc))) from (Kp.of_grown (grownBy_trans (grownBy_trans (grownBy_trans (grownBy_trans (setCell_grown _ (Z + 1 + 1) 0 _) (setCell_grown _ (Z + 1 + 1) 1 _)) (setCell_grown _ (Z + 1 + 1) 2 _)) (setCell_grown _ (Z + 1 + 1) 3 _)) (setCell_grown _ (Z + 1 + 1) 4 _))).mono (fun q _ e => by injection e with e; exact e.symm))
    exact ⟨(S3.out.bp.kp kz.out (fun e => by omega)).all, (S3.out.bo.kp kz.out (fun e => by omega)).all⟩
  go_simp
  refine hK.out _ _ RG (fun hH => ?_)
  try simp only [Act.put, List.setIfInBounds_toArray, List.set_cons_zero, List.set_cons_succ]
  refine wpAnyH_take (i := 9) (oi := { dst := some 7, op := Op.assign (Operand.tmp 124), type := 4, pos := "law.go:190", after := #[{ on := 7, ground := Ground.data }, { on := 8, ground := Ground.chain }, { on := 0, ground := Ground.phase }, { on := 1, ground := Ground.phase }, { on := 2, ground := Ground.phase }, { on := 3, ground := Ground.phase }, { on := 4, ground := Ground.phase }, { on := 5, ground := Ground.phase }, { on := 6, ground := Ground.phase }, { on := 7, ground := Ground.phase }, { on := 8, ground := Ground.phase }], guard := none }) (v := .bool true) rfl (by kernel_rfl) (by kernel_rfl) (by kernel_rfl) (fun _ _ _ h => h) (Or.inl ⟨by rfl, fun w' hs => by go_simp⟩) hH ?_
  try simp only [Act.put, List.setIfInBounds_toArray, List.set_cons_zero, List.set_cons_succ]
  refine wpAnyH_done (by kernel_rfl) ?_ _
  clear hH hK RG S3 z0 z1 z2 z3 z4 zL zF
  go_wp2_with fail
  exact ret_blk_tmp rfl rfl (Z + 1 + 1) _ [.pointer (some ⟨R, 0, none⟩), .int .i64 ((r.now : Nat) : Int), .slice aa an ac, .slice fa fn fc, .slice ma mn mc] _ rfl FB.out Try.underlying37 rfl (by kernel_rfl) ⟨_, _, _, _, _, _, _, _, _, _, _, _, _, _, _, _, rfl, FS.out⟩
end Go.Proofs.Ytcnhcdlbippjoaa
