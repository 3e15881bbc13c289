/-
  Ours: the reader's terms, parts, noticeFields, caseFields and book (gen_wrd2.py).
-/
import Derived.Test.YtdbjjeaflfoppaaWirRd1
import Derived.Test.YtdbjjeaflfoppaaWirStS
namespace Go.Proofs.Ytdbjjeaflfoppaa
open Go.RowKit WsM

/-- What a reader of structs answers. -/
def RdAns {α : Type} (cells : α → List Value) (f : α → List Nat) (Ok : α → Prop) (bs : List Nat) (R : Nat) (v : Value) (st : Option Nat) (w : World) (e : Ending) (w' : World) : Prop :=
  ∃ x st', e = .returned (.agg (cells x).toArray) ∧ RS bs R v st' w' ∧ w.grownBy w' (some R) ∧ (st = none → st' = none) ∧ ∀ p, st = some p → Got f Ok bs p st' x
theorem RS.pl {bs : List Nat} {R : Nat} {v : Value} {p : Nat} {w : World} (h : RS bs R v (some p) w) : p ≤ bs.length := h.le p rfl
theorem nums_got {bs : List Nat} (hb : ∀ c ∈ bs, c < 256) {n : Nat} {st st' : Option Nat} {xs : List Int} (h : tkN bs n st = (xs, st')) (hp : ∀ p, st = some p → p ≤ bs.length) : (st = none → st' = none) ∧ ∀ p, st = some p → Got putFs (fun xs : List Int => xs.length = n ∧ I64s xs) bs p st' xs := by
  have e1 : (tkN bs n st).1 = xs := by rw [h]
  have e2 : (tkN bs n st).2 = st' := by rw [h]
  refine ⟨fun e => by subst e; rw [← e2]; exact tkN_none bs n, fun p e => ?_⟩
  subst e
  rw [← e1, ← e2]
  exact tkN_got hb n p (hp p rfl)
set_option maxRecDepth 20000 in
set_option maxHeartbeats 2000000 in
theorem terms_at (bs : List Nat) (hb : ∀ c ∈ bs, c < 256) (hl : bs.length ≤ 1000000000000) (R : Nat) (v : Value) (st : Option Nat) (w : World) (h : RS bs R v st w) :
    Calls Try.prog 75 #[.pointer (some ⟨R, 0, none⟩)] w (RdAns i6 putFs (fun xs : List Int => xs.length = 6 ∧ I64s xs) bs R v st w) := by
  have CI : Hid (∀ W s, RS bs R v s W → Calls Try.prog 74 #[.pointer (some ⟨R, 0, none⟩)] W fun e w' => ∃ n s', e = .returned (.int .i64 n) ∧ tkI bs s = (n, s') ∧ RS bs R v s' w' ∧ W.grownBy w' (some R)) := fun W s hs => (number_at bs hb hl R v s W hs).mono fun e w' ⟨h1, h2, h3⟩ => ⟨_, _, h1, rfl, h2, h3⟩
  have CC : Hid (∀ W s, RS bs R v s W → Calls Try.prog 80 #[.pointer (some ⟨R, 0, none⟩)] W fun e w' => ∃ n s', e = .returned (.int .i64 n) ∧ tkI bs s = (n, s') ∧ RS bs R v s' w' ∧ W.grownBy w' (some R)) := fun W s hs => (cents_at bs hb hl R v s W hs).mono fun e w' ⟨h1, h2, h3⟩ => ⟨_, _, h1, rfl, h2, h3⟩
  have CB : Hid (∀ W s, RS bs R v s W → Calls Try.prog 82 #[.pointer (some ⟨R, 0, none⟩)] W fun e w' => ∃ n s', e = .returned (.bool n) ∧ tkB bs s = (n, s') ∧ RS bs R v s' w' ∧ W.grownBy w' (some R)) := fun W s hs => (truth_at bs hb hl R v s W hs).mono fun e w' ⟨h1, h2, h3⟩ => ⟨_, _, h1, rfl, h2, h3⟩
  have HP : Hid (∀ p, st = some p → p ≤ bs.length) := fun p e => h.le p e
  have HB : Hid (∀ c ∈ bs, c < 256) := hb
  have hR := h.lt
  have DV : Hid (0 < bs.length → v.ownBlock = some w.heap.size → False) := fun h0 e => by have := Rd.block h.rd (by rw [List.length_map]; exact h0) e; omega
  have K0 : Hid (RS bs R v st (w.alloc (.cells #[.int .i64 0, .int .i64 0, .int .i64 0, .int .i64 0, .int .i64 0, .int .i64 0] 55))) := h.below (below_alloc _ _)
  have B0 : Hid (Blk w.heap.size 55 [.int .i64 0, .int .i64 0, .int .i64 0, .int .i64 0, .int .i64 0, .int .i64 0] (w.alloc (.cells #[.int .i64 0, .int .i64 0, .int .i64 0, .int .i64 0, .int .i64 0, .int .i64 0] 55))) := Blk.new _ _ _
  have G0 : Hid (w.grownBy (w.alloc (.cells #[.int .i64 0, .int .i64 0, .int .i64 0, .int .i64 0, .int .i64 0, .int .i64 0] 55)) (some R)) := grownBy_below (below_alloc _ _) _
  clear h hb hl
  go_enter Try.func75, Try.ntmps75
  go_upto_region 1 with fail
  generalize w.alloc (.cells #[.int .i64 0, .int .i64 0, .int .i64 0, .int .i64 0, .int .i64 0, .int .i64 0] 55) = W0 at *
  obtain ⟨D, hD⟩ : ∃ D, w.heap.size = D := ⟨_, rfl⟩
  have HD : Hid (w.heap.size = D) := hD
  rw [hD] at B0 DV ⊢
  have RD : Hid (R ≠ D) := by show _ ≠ _; omega
  clear hD hR
  go_wp2_with fail
  refine (CI.out _ _ K0.out).mono ?_
  rintro e w1 ⟨n0, s1, rfl, e1, k, g⟩
  have K1 : Hid (RS bs R v s1 w1) := k
  have B1 : Hid (Blk D 55 [.int .i64 0, .int .i64 0, .int .i64 0, .int .i64 0, .int .i64 0, .int .i64 0] w1) := B0.out.grown g RD.out
  have G1 : Hid (w.grownBy w1 (some R)) := grownBy_trans G0.out g
  have E1 : Hid (tkI bs st = (n0, s1)) := e1
  clear K0 B0 G0 k g e1
  go_wp2_with fail
  refine (CC.out _ _ K1.out).mono ?_
  rintro e w2 ⟨n1, s2, rfl, e2, k, g⟩
  have K2 : Hid (RS bs R v s2 w2) := k
  have B2 : Hid (Blk D 55 [.int .i64 0, .int .i64 0, .int .i64 0, .int .i64 0, .int .i64 0, .int .i64 0] w2) := B1.out.grown g RD.out
  have G2 : Hid (w.grownBy w2 (some R)) := grownBy_trans G1.out g
  have E2 : Hid (tkI bs s1 = (n1, s2)) := e2
  clear K1 B1 G1 k g e2
  go_wp2_with fail
  refine (CC.out _ _ K2.out).mono ?_
  rintro e w3 ⟨n2, s3, rfl, e3, k, g⟩
  have K3 : Hid (RS bs R v s3 w3) := k
  have B3 : Hid (Blk D 55 [.int .i64 0, .int .i64 0, .int .i64 0, .int .i64 0, .int .i64 0, .int .i64 0] w3) := B2.out.grown g RD.out
  have G3 : Hid (w.grownBy w3 (some R)) := grownBy_trans G2.out g
  have E3 : Hid (tkI bs s2 = (n2, s3)) := e3
  clear K2 B2 G2 k g e3
  go_wp2_with fail
  refine (CI.out _ _ K3.out).mono ?_
  rintro e w4 ⟨n3, s4, rfl, e4, k, g⟩
  have K4 : Hid (RS bs R v s4 w4) := k
  have B4 : Hid (Blk D 55 [.int .i64 0, .int .i64 0, .int .i64 0, .int .i64 0, .int .i64 0, .int .i64 0] w4) := B3.out.grown g RD.out
  have G4 : Hid (w.grownBy w4 (some R)) := grownBy_trans G3.out g
  have E4 : Hid (tkI bs s3 = (n3, s4)) := e4
  clear K3 B3 G3 k g e4
  go_wp2_with fail
  refine (CI.out _ _ K4.out).mono ?_
  rintro e w5 ⟨n4, s5, rfl, e5, k, g⟩
  have K5 : Hid (RS bs R v s5 w5) := k
  have B5 : Hid (Blk D 55 [.int .i64 0, .int .i64 0, .int .i64 0, .int .i64 0, .int .i64 0, .int .i64 0] w5) := B4.out.grown g RD.out
  have G5 : Hid (w.grownBy w5 (some R)) := grownBy_trans G4.out g
  have E5 : Hid (tkI bs s4 = (n4, s5)) := e5
  clear K4 B4 G4 k g e5
  go_wp2_with fail
  refine (CI.out _ _ K5.out).mono ?_
  rintro e w6 ⟨n5, s6, rfl, e6, k, g⟩
  have K6 : Hid (RS bs R v s6 w6) := k
  have B6 : Hid (Blk D 55 [.int .i64 0, .int .i64 0, .int .i64 0, .int .i64 0, .int .i64 0, .int .i64 0] w6) := B5.out.grown g RD.out
  have G6 : Hid (w.grownBy w6 (some R)) := grownBy_trans G5.out g
  have E6 : Hid (tkI bs s5 = (n5, s6)) := e6
  clear K5 B5 G5 k g e6
  go_wp2_with ((with_reducible refine at_store ?_); refine step_store rfl 55 _ _ rfl D 0 55 [.int .i64 0, .int .i64 0, .int .i64 0, .int .i64 0, .int .i64 0, .int .i64 0] [.int .i64 n0, .int .i64 n1, .int .i64 n2, .int .i64 n3, .int .i64 n4, .int .i64 n5] rfl rfl B6.out (by simp) (by show _ = some 6; kernel_rfl) (fun u hu => by simp at hu; rcases hu with rfl | rfl | rfl | rfl | rfl | rfl <;> rfl) ?_; intro w9 nb9 g9; rw [store_all (by simp)] at nb9)
  have G9 : w.grownBy w9 (some R) := grown_more G6.out g9 (by rw [HD.out]; exact Nat.le_refl _)
  have K9 : RS bs R v s6 w9 := K6.out.other g9 (fun e => RD.out e.symm) (fun h0 e => DV.out h0 e)
  have TN : tkN bs 6 st = ([n0, n1, n2, n3, n4, n5], s6) := by simp only [tkN, E1.out, E2.out, E3.out, E4.out, E5.out, E6.out]
  have GT := nums_got HB.out TN HP.out
  exact ret_blk rfl rfl D 55 _ _ rfl nb9 Try.underlying55 rfl (by show _ = some 6; kernel_rfl) ⟨[n0, n1, n2, n3, n4, n5], s6, rfl, K9, G9, GT.1, GT.2⟩
set_option maxRecDepth 20000 in
set_option maxHeartbeats 2000000 in
theorem parts_at (bs : List Nat) (hb : ∀ c ∈ bs, c < 256) (hl : bs.length ≤ 1000000000000) (R : Nat) (v : Value) (st : Option Nat) (w : World) (h : RS bs R v st w) :
    Calls Try.prog 81 #[.pointer (some ⟨R, 0, none⟩)] w (RdAns i5 putFs (fun xs : List Int => xs.length = 5 ∧ I64s xs) bs R v st w) := by
  have CI : Hid (∀ W s, RS bs R v s W → Calls Try.prog 74 #[.pointer (some ⟨R, 0, none⟩)] W fun e w' => ∃ n s', e = .returned (.int .i64 n) ∧ tkI bs s = (n, s') ∧ RS bs R v s' w' ∧ W.grownBy w' (some R)) := fun W s hs => (number_at bs hb hl R v s W hs).mono fun e w' ⟨h1, h2, h3⟩ => ⟨_, _, h1, rfl, h2, h3⟩
  have CC : Hid (∀ W s, RS bs R v s W → Calls Try.prog 80 #[.pointer (some ⟨R, 0, none⟩)] W fun e w' => ∃ n s', e = .returned (.int .i64 n) ∧ tkI bs s = (n, s') ∧ RS bs R v s' w' ∧ W.grownBy w' (some R)) := fun W s hs => (cents_at bs hb hl R v s W hs).mono fun e w' ⟨h1, h2, h3⟩ => ⟨_, _, h1, rfl, h2, h3⟩
  have CB : Hid (∀ W s, RS bs R v s W → Calls Try.prog 82 #[.pointer (some ⟨R, 0, none⟩)] W fun e w' => ∃ n s', e = .returned (.bool n) ∧ tkB bs s = (n, s') ∧ RS bs R v s' w' ∧ W.grownBy w' (some R)) := fun W s hs => (truth_at bs hb hl R v s W hs).mono fun e w' ⟨h1, h2, h3⟩ => ⟨_, _, h1, rfl, h2, h3⟩
  have HP : Hid (∀ p, st = some p → p ≤ bs.length) := fun p e => h.le p e
  have HB : Hid (∀ c ∈ bs, c < 256) := hb
  have hR := h.lt
  have DV : Hid (0 < bs.length → v.ownBlock = some w.heap.size → False) := fun h0 e => by have := Rd.block h.rd (by rw [List.length_map]; exact h0) e; omega
  have K0 : Hid (RS bs R v st (w.alloc (.cells #[.int .i64 0, .int .i64 0, .int .i64 0, .int .i64 0, .int .i64 0] 63))) := h.below (below_alloc _ _)
  have B0 : Hid (Blk w.heap.size 63 [.int .i64 0, .int .i64 0, .int .i64 0, .int .i64 0, .int .i64 0] (w.alloc (.cells #[.int .i64 0, .int .i64 0, .int .i64 0, .int .i64 0, .int .i64 0] 63))) := Blk.new _ _ _
  have G0 : Hid (w.grownBy (w.alloc (.cells #[.int .i64 0, .int .i64 0, .int .i64 0, .int .i64 0, .int .i64 0] 63)) (some R)) := grownBy_below (below_alloc _ _) _
  clear h hb hl
  go_enter Try.func81, Try.ntmps81
  go_upto_region 1 with fail
  generalize w.alloc (.cells #[.int .i64 0, .int .i64 0, .int .i64 0, .int .i64 0, .int .i64 0] 63) = W0 at *
  obtain ⟨D, hD⟩ : ∃ D, w.heap.size = D := ⟨_, rfl⟩
  have HD : Hid (w.heap.size = D) := hD
  rw [hD] at B0 DV ⊢
  have RD : Hid (R ≠ D) := by show _ ≠ _; omega
  clear hD hR
  go_wp2_with fail
  refine (CC.out _ _ K0.out).mono ?_
  rintro e w1 ⟨n0, s1, rfl, e1, k, g⟩
  have K1 : Hid (RS bs R v s1 w1) := k
  have B1 : Hid (Blk D 63 [.int .i64 0, .int .i64 0, .int .i64 0, .int .i64 0, .int .i64 0] w1) := B0.out.grown g RD.out
  have G1 : Hid (w.grownBy w1 (some R)) := grownBy_trans G0.out g
  have E1 : Hid (tkI bs st = (n0, s1)) := e1
  clear K0 B0 G0 k g e1
  go_wp2_with fail
  refine (CC.out _ _ K1.out).mono ?_
  rintro e w2 ⟨n1, s2, rfl, e2, k, g⟩
  have K2 : Hid (RS bs R v s2 w2) := k
  have B2 : Hid (Blk D 63 [.int .i64 0, .int .i64 0, .int .i64 0, .int .i64 0, .int .i64 0] w2) := B1.out.grown g RD.out
  have G2 : Hid (w.grownBy w2 (some R)) := grownBy_trans G1.out g
  have E2 : Hid (tkI bs s1 = (n1, s2)) := e2
  clear K1 B1 G1 k g e2
  go_wp2_with fail
  refine (CC.out _ _ K2.out).mono ?_
  rintro e w3 ⟨n2, s3, rfl, e3, k, g⟩
  have K3 : Hid (RS bs R v s3 w3) := k
  have B3 : Hid (Blk D 63 [.int .i64 0, .int .i64 0, .int .i64 0, .int .i64 0, .int .i64 0] w3) := B2.out.grown g RD.out
  have G3 : Hid (w.grownBy w3 (some R)) := grownBy_trans G2.out g
  have E3 : Hid (tkI bs s2 = (n2, s3)) := e3
  clear K2 B2 G2 k g e3
  go_wp2_with fail
  refine (CC.out _ _ K3.out).mono ?_
  rintro e w4 ⟨n3, s4, rfl, e4, k, g⟩
  have K4 : Hid (RS bs R v s4 w4) := k
  have B4 : Hid (Blk D 63 [.int .i64 0, .int .i64 0, .int .i64 0, .int .i64 0, .int .i64 0] w4) := B3.out.grown g RD.out
  have G4 : Hid (w.grownBy w4 (some R)) := grownBy_trans G3.out g
  have E4 : Hid (tkI bs s3 = (n3, s4)) := e4
  clear K3 B3 G3 k g e4
  go_wp2_with fail
  refine (CC.out _ _ K4.out).mono ?_
  rintro e w5 ⟨n4, s5, rfl, e5, k, g⟩
  have K5 : Hid (RS bs R v s5 w5) := k
  have B5 : Hid (Blk D 63 [.int .i64 0, .int .i64 0, .int .i64 0, .int .i64 0, .int .i64 0] w5) := B4.out.grown g RD.out
  have G5 : Hid (w.grownBy w5 (some R)) := grownBy_trans G4.out g
  have E5 : Hid (tkI bs s4 = (n4, s5)) := e5
  clear K4 B4 G4 k g e5
  go_wp2_with ((with_reducible refine at_store ?_); refine step_store rfl 63 _ _ rfl D 0 63 [.int .i64 0, .int .i64 0, .int .i64 0, .int .i64 0, .int .i64 0] [.int .i64 n0, .int .i64 n1, .int .i64 n2, .int .i64 n3, .int .i64 n4] rfl rfl B5.out (by simp) (by show _ = some 5; kernel_rfl) (fun u hu => by simp at hu; rcases hu with rfl | rfl | rfl | rfl | rfl <;> rfl) ?_; intro w9 nb9 g9; rw [store_all (by simp)] at nb9)
  have G9 : w.grownBy w9 (some R) := grown_more G5.out g9 (by rw [HD.out]; exact Nat.le_refl _)
  have K9 : RS bs R v s5 w9 := K5.out.other g9 (fun e => RD.out e.symm) (fun h0 e => DV.out h0 e)
  have TN : tkN bs 5 st = ([n0, n1, n2, n3, n4], s5) := by simp only [tkN, E1.out, E2.out, E3.out, E4.out, E5.out]
  have GT := nums_got HB.out TN HP.out
  exact ret_blk rfl rfl D 63 _ _ rfl nb9 Try.underlying63 rfl (by show _ = some 5; kernel_rfl) ⟨[n0, n1, n2, n3, n4], s5, rfl, K9, G9, GT.1, GT.2⟩
set_option maxRecDepth 20000 in
set_option maxHeartbeats 2000000 in
theorem ntFields_at (bs : List Nat) (hb : ∀ c ∈ bs, c < 256) (hl : bs.length ≤ 1000000000000) (R : Nat) (v : Value) (st : Option Nat) (w : World) (h : RS bs R v st w) :
    Calls Try.prog 73 #[.pointer (some ⟨R, 0, none⟩)] w (RdAns (fun xs : List Int => ntL ⟨xs, false⟩) putFs (fun xs : List Int => xs.length = 5 ∧ I64s xs) bs R v st w) := by
  have CI : Hid (∀ W s, RS bs R v s W → Calls Try.prog 74 #[.pointer (some ⟨R, 0, none⟩)] W fun e w' => ∃ n s', e = .returned (.int .i64 n) ∧ tkI bs s = (n, s') ∧ RS bs R v s' w' ∧ W.grownBy w' (some R)) := fun W s hs => (number_at bs hb hl R v s W hs).mono fun e w' ⟨h1, h2, h3⟩ => ⟨_, _, h1, rfl, h2, h3⟩
  have CC : Hid (∀ W s, RS bs R v s W → Calls Try.prog 80 #[.pointer (some ⟨R, 0, none⟩)] W fun e w' => ∃ n s', e = .returned (.int .i64 n) ∧ tkI bs s = (n, s') ∧ RS bs R v s' w' ∧ W.grownBy w' (some R)) := fun W s hs => (cents_at bs hb hl R v s W hs).mono fun e w' ⟨h1, h2, h3⟩ => ⟨_, _, h1, rfl, h2, h3⟩
  have CB : Hid (∀ W s, RS bs R v s W → Calls Try.prog 82 #[.pointer (some ⟨R, 0, none⟩)] W fun e w' => ∃ n s', e = .returned (.bool n) ∧ tkB bs s = (n, s') ∧ RS bs R v s' w' ∧ W.grownBy w' (some R)) := fun W s hs => (truth_at bs hb hl R v s W hs).mono fun e w' ⟨h1, h2, h3⟩ => ⟨_, _, h1, rfl, h2, h3⟩
  have HP : Hid (∀ p, st = some p → p ≤ bs.length) := fun p e => h.le p e
  have HB : Hid (∀ c ∈ bs, c < 256) := hb
  have hR := h.lt
  have DV : Hid (0 < bs.length → v.ownBlock = some w.heap.size → False) := fun h0 e => by have := Rd.block h.rd (by rw [List.length_map]; exact h0) e; omega
  have K0 : Hid (RS bs R v st (w.alloc (.cells #[.int .i64 0, .int .i64 0, .int .i64 0, .int .i64 0, .int .i64 0, .bool false] 28))) := h.below (below_alloc _ _)
  have B0 : Hid (Blk w.heap.size 28 [.int .i64 0, .int .i64 0, .int .i64 0, .int .i64 0, .int .i64 0, .bool false] (w.alloc (.cells #[.int .i64 0, .int .i64 0, .int .i64 0, .int .i64 0, .int .i64 0, .bool false] 28))) := Blk.new _ _ _
  have G0 : Hid (w.grownBy (w.alloc (.cells #[.int .i64 0, .int .i64 0, .int .i64 0, .int .i64 0, .int .i64 0, .bool false] 28)) (some R)) := grownBy_below (below_alloc _ _) _
  clear h hb hl
  go_enter Try.func73, Try.ntmps73
  go_upto_region 1 with fail
  generalize w.alloc (.cells #[.int .i64 0, .int .i64 0, .int .i64 0, .int .i64 0, .int .i64 0, .bool false] 28) = W0 at *
  obtain ⟨D, hD⟩ : ∃ D, w.heap.size = D := ⟨_, rfl⟩
  have HD : Hid (w.heap.size = D) := hD
  rw [hD] at B0 DV ⊢
  have RD : Hid (R ≠ D) := by show _ ≠ _; omega
  clear hD hR
  go_wp2_with fail
  refine (CI.out _ _ K0.out).mono ?_
  rintro e w1 ⟨n0, s1, rfl, e1, k, g⟩
  have K1 : Hid (RS bs R v s1 w1) := k
  have B1 : Hid (Blk D 28 [.int .i64 0, .int .i64 0, .int .i64 0, .int .i64 0, .int .i64 0, .bool false] w1) := B0.out.grown g RD.out
  have G1 : Hid (w.grownBy w1 (some R)) := grownBy_trans G0.out g
  have E1 : Hid (tkI bs st = (n0, s1)) := e1
  clear K0 B0 G0 k g e1
  go_wp2_with fail
  refine (CI.out _ _ K1.out).mono ?_
  rintro e w2 ⟨n1, s2, rfl, e2, k, g⟩
  have K2 : Hid (RS bs R v s2 w2) := k
  have B2 : Hid (Blk D 28 [.int .i64 0, .int .i64 0, .int .i64 0, .int .i64 0, .int .i64 0, .bool false] w2) := B1.out.grown g RD.out
  have G2 : Hid (w.grownBy w2 (some R)) := grownBy_trans G1.out g
  have E2 : Hid (tkI bs s1 = (n1, s2)) := e2
  clear K1 B1 G1 k g e2
  go_wp2_with fail
  refine (CI.out _ _ K2.out).mono ?_
  rintro e w3 ⟨n2, s3, rfl, e3, k, g⟩
  have K3 : Hid (RS bs R v s3 w3) := k
  have B3 : Hid (Blk D 28 [.int .i64 0, .int .i64 0, .int .i64 0, .int .i64 0, .int .i64 0, .bool false] w3) := B2.out.grown g RD.out
  have G3 : Hid (w.grownBy w3 (some R)) := grownBy_trans G2.out g
  have E3 : Hid (tkI bs s2 = (n2, s3)) := e3
  clear K2 B2 G2 k g e3
  go_wp2_with fail
  refine (CI.out _ _ K3.out).mono ?_
  rintro e w4 ⟨n3, s4, rfl, e4, k, g⟩
  have K4 : Hid (RS bs R v s4 w4) := k
  have B4 : Hid (Blk D 28 [.int .i64 0, .int .i64 0, .int .i64 0, .int .i64 0, .int .i64 0, .bool false] w4) := B3.out.grown g RD.out
  have G4 : Hid (w.grownBy w4 (some R)) := grownBy_trans G3.out g
  have E4 : Hid (tkI bs s3 = (n3, s4)) := e4
  clear K3 B3 G3 k g e4
  go_wp2_with fail
  refine (CC.out _ _ K4.out).mono ?_
  rintro e w5 ⟨n4, s5, rfl, e5, k, g⟩
  have K5 : Hid (RS bs R v s5 w5) := k
  have B5 : Hid (Blk D 28 [.int .i64 0, .int .i64 0, .int .i64 0, .int .i64 0, .int .i64 0, .bool false] w5) := B4.out.grown g RD.out
  have G5 : Hid (w.grownBy w5 (some R)) := grownBy_trans G4.out g
  have E5 : Hid (tkI bs s4 = (n4, s5)) := e5
  clear K4 B4 G4 k g e5
  go_wp2_with ((with_reducible refine at_store ?_); refine step_store rfl 28 _ _ rfl D 0 28 [.int .i64 0, .int .i64 0, .int .i64 0, .int .i64 0, .int .i64 0, .bool false] [.int .i64 n0, .int .i64 n1, .int .i64 n2, .int .i64 n3, .int .i64 n4, .bool false] rfl rfl B5.out (by simp) (by show _ = some 6; kernel_rfl) (fun u hu => by simp at hu; rcases hu with rfl | rfl | rfl | rfl | rfl | rfl <;> rfl) ?_; intro w9 nb9 g9; rw [store_all (by simp)] at nb9)
  have G9 : w.grownBy w9 (some R) := grown_more G5.out g9 (by rw [HD.out]; exact Nat.le_refl _)
  have K9 : RS bs R v s5 w9 := K5.out.other g9 (fun e => RD.out e.symm) (fun h0 e => DV.out h0 e)
  have TN : tkN bs 5 st = ([n0, n1, n2, n3, n4], s5) := by simp only [tkN, E1.out, E2.out, E3.out, E4.out, E5.out]
  have GT := nums_got HB.out TN HP.out
  exact ret_blk rfl rfl D 28 _ _ rfl nb9 Try.underlying28 rfl (by show _ = some 6; kernel_rfl) ⟨[n0, n1, n2, n3, n4], s5, rfl, K9, G9, GT.1, GT.2⟩
/-- A case's data: its status, whether it is in suspense, its thirteen numbers. -/
abbrev CsD := Int × (Bool × List Int)
def csD (c : CsD) : List Nat := putI c.1 ++ (putB c.2.1 ++ putFs c.2.2)
def CsOk (c : CsD) : Prop := I64 c.1 ∧ (True ∧ (c.2.2.length = 13 ∧ I64s c.2.2))
theorem case_got {bs : List Nat} (hb : ∀ c ∈ bs, c < 256) {st s1 s2 s3 : Option Nat} {a : Int} {z : Bool} {xs : List Int} (h1 : tkI bs st = (a, s1)) (h2 : tkB bs s1 = (z, s2)) (h3 : tkN bs 13 s2 = (xs, s3)) (hp : ∀ p, st = some p → p ≤ bs.length) : (st = none → s3 = none) ∧ ∀ p, st = some p → Got csD CsOk bs p s3 (a, (z, xs)) := by
  have n1 : st = none → s1 = none := fun e => by subst e; rw [tkI_none] at h1; injection h1 with _ h; exact h.symm
  have n2 : s1 = none → s2 = none := fun e => by subst e; injection h2 with _ h; exact h.symm
  have n3 : s2 = none → s3 = none := fun e => by subst e; have := tkN_none bs 13; rw [h3] at this; exact this
  refine ⟨fun e => n3 (n2 (n1 e)), fun p e => ?_⟩
  subst e
  have g1 : Got putI I64 bs p s1 a := by have := tkI_got hb (hp p rfl); rw [h1] at this; exact this
  refine Got.seq (g := fun bc : Bool × List Int => putB bc.1 ++ putFs bc.2) (OB := fun bc : Bool × List Int => True ∧ (bc.2.length = 13 ∧ I64s bc.2)) putI_pinP g1 (fun q hq => ?_) (fun e => n3 (n2 e))
  subst hq
  have g2 : Got putB (fun _ => True) bs q s2 z := by have := tkB_got (bs := bs) (p := q); rw [h2] at this; exact this
  refine Got.seq (g := putFs) (OB := fun xs : List Int => xs.length = 13 ∧ I64s xs) putB_pinP g2 (fun q2 hq2 => ?_) n3
  subst hq2
  exact (nums_got hb h3 (fun p2 e => by injection e with e; subst e; exact (g2.yes q2 rfl).2.2.2)).2 q2 rfl
set_option maxRecDepth 20000 in
set_option maxHeartbeats 2000000 in
theorem case_at (bs : List Nat) (hb : ∀ c ∈ bs, c < 256) (hl : bs.length ≤ 1000000000000) (R : Nat) (v : Value) (st : Option Nat) (w : World) (h : RS bs R v st w) :
    Calls Try.prog 79 #[.pointer (some ⟨R, 0, none⟩)] w (RdAns (fun c : CsD => cs15 c.1 c.2.1 c.2.2) csD CsOk bs R v st w) := by
  have CI : Hid (∀ W s, RS bs R v s W → Calls Try.prog 74 #[.pointer (some ⟨R, 0, none⟩)] W fun e w' => ∃ n s', e = .returned (.int .i64 n) ∧ tkI bs s = (n, s') ∧ RS bs R v s' w' ∧ W.grownBy w' (some R)) := fun W s hs => (number_at bs hb hl R v s W hs).mono fun e w' ⟨h1, h2, h3⟩ => ⟨_, _, h1, rfl, h2, h3⟩
  have CC : Hid (∀ W s, RS bs R v s W → Calls Try.prog 80 #[.pointer (some ⟨R, 0, none⟩)] W fun e w' => ∃ n s', e = .returned (.int .i64 n) ∧ tkI bs s = (n, s') ∧ RS bs R v s' w' ∧ W.grownBy w' (some R)) := fun W s hs => (cents_at bs hb hl R v s W hs).mono fun e w' ⟨h1, h2, h3⟩ => ⟨_, _, h1, rfl, h2, h3⟩
  have CB : Hid (∀ W s, RS bs R v s W → Calls Try.prog 82 #[.pointer (some ⟨R, 0, none⟩)] W fun e w' => ∃ n s', e = .returned (.bool n) ∧ tkB bs s = (n, s') ∧ RS bs R v s' w' ∧ W.grownBy w' (some R)) := fun W s hs => (truth_at bs hb hl R v s W hs).mono fun e w' ⟨h1, h2, h3⟩ => ⟨_, _, h1, rfl, h2, h3⟩
  have HP : Hid (∀ p, st = some p → p ≤ bs.length) := fun p e => h.le p e
  have HB : Hid (∀ c ∈ bs, c < 256) := hb
  have hR := h.lt
  have DV : Hid (0 < bs.length → v.ownBlock = some w.heap.size → False) := fun h0 e => by have := Rd.block h.rd (by rw [List.length_map]; exact h0) e; omega
  have K0 : Hid (RS bs R v st (w.alloc (.cells #[.int .i64 0, .bool false, .int .i64 0, .int .i64 0, .int .i64 0, .int .i64 0, .int .i64 0, .int .i64 0, .int .i64 0, .int .i64 0, .int .i64 0, .int .i64 0, .int .i64 0, .int .i64 0, .int .i64 0] 61))) := h.below (below_alloc _ _)
  have B0 : Hid (Blk w.heap.size 61 [.int .i64 0, .bool false, .int .i64 0, .int .i64 0, .int .i64 0, .int .i64 0, .int .i64 0, .int .i64 0, .int .i64 0, .int .i64 0, .int .i64 0, .int .i64 0, .int .i64 0, .int .i64 0, .int .i64 0] (w.alloc (.cells #[.int .i64 0, .bool false, .int .i64 0, .int .i64 0, .int .i64 0, .int .i64 0, .int .i64 0, .int .i64 0, .int .i64 0, .int .i64 0, .int .i64 0, .int .i64 0, .int .i64 0, .int .i64 0, .int .i64 0] 61))) := Blk.new _ _ _
  have G0 : Hid (w.grownBy (w.alloc (.cells #[.int .i64 0, .bool false, .int .i64 0, .int .i64 0, .int .i64 0, .int .i64 0, .int .i64 0, .int .i64 0, .int .i64 0, .int .i64 0, .int .i64 0, .int .i64 0, .int .i64 0, .int .i64 0, .int .i64 0] 61)) (some R)) := grownBy_below (below_alloc _ _) _
  clear h hb hl
  go_enter Try.func79, Try.ntmps79
  go_upto_region 1 with fail
  generalize w.alloc (.cells #[.int .i64 0, .bool false, .int .i64 0, .int .i64 0, .int .i64 0, .int .i64 0, .int .i64 0, .int .i64 0, .int .i64 0, .int .i64 0, .int .i64 0, .int .i64 0, .int .i64 0, .int .i64 0, .int .i64 0] 61) = W0 at *
  obtain ⟨D, hD⟩ : ∃ D, w.heap.size = D := ⟨_, rfl⟩
  have HD : Hid (w.heap.size = D) := hD
  rw [hD] at B0 DV ⊢
  have RD : Hid (R ≠ D) := by show _ ≠ _; omega
  clear hD hR
  go_wp2_with fail
  refine (CI.out _ _ K0.out).mono ?_
  rintro e w1 ⟨n0, s1, rfl, e1, k, g⟩
  have K1 : Hid (RS bs R v s1 w1) := k
  have B1 : Hid (Blk D 61 [.int .i64 0, .bool false, .int .i64 0, .int .i64 0, .int .i64 0, .int .i64 0, .int .i64 0, .int .i64 0, .int .i64 0, .int .i64 0, .int .i64 0, .int .i64 0, .int .i64 0, .int .i64 0, .int .i64 0] w1) := B0.out.grown g RD.out
  have G1 : Hid (w.grownBy w1 (some R)) := grownBy_trans G0.out g
  have E1 : Hid (tkI bs st = (n0, s1)) := e1
  clear K0 B0 G0 k g e1
  go_wp2_with fail
  refine (CB.out _ _ K1.out).mono ?_
  rintro e w2 ⟨n1, s2, rfl, e2, k, g⟩
  have K2 : Hid (RS bs R v s2 w2) := k
  have B2 : Hid (Blk D 61 [.int .i64 0, .bool false, .int .i64 0, .int .i64 0, .int .i64 0, .int .i64 0, .int .i64 0, .int .i64 0, .int .i64 0, .int .i64 0, .int .i64 0, .int .i64 0, .int .i64 0, .int .i64 0, .int .i64 0] w2) := B1.out.grown g RD.out
  have G2 : Hid (w.grownBy w2 (some R)) := grownBy_trans G1.out g
  have E2 : Hid (tkB bs s1 = (n1, s2)) := e2
  clear K1 B1 G1 k g e2
  go_wp2_with fail
  refine (CI.out _ _ K2.out).mono ?_
  rintro e w3 ⟨n2, s3, rfl, e3, k, g⟩
  have K3 : Hid (RS bs R v s3 w3) := k
  have B3 : Hid (Blk D 61 [.int .i64 0, .bool false, .int .i64 0, .int .i64 0, .int .i64 0, .int .i64 0, .int .i64 0, .int .i64 0, .int .i64 0, .int .i64 0, .int .i64 0, .int .i64 0, .int .i64 0, .int .i64 0, .int .i64 0] w3) := B2.out.grown g RD.out
  have G3 : Hid (w.grownBy w3 (some R)) := grownBy_trans G2.out g
  have E3 : Hid (tkI bs s2 = (n2, s3)) := e3
  clear K2 B2 G2 k g e3
  go_wp2_with fail
  refine (CI.out _ _ K3.out).mono ?_
  rintro e w4 ⟨n3, s4, rfl, e4, k, g⟩
  have K4 : Hid (RS bs R v s4 w4) := k
  have B4 : Hid (Blk D 61 [.int .i64 0, .bool false, .int .i64 0, .int .i64 0, .int .i64 0, .int .i64 0, .int .i64 0, .int .i64 0, .int .i64 0, .int .i64 0, .int .i64 0, .int .i64 0, .int .i64 0, .int .i64 0, .int .i64 0] w4) := B3.out.grown g RD.out
  have G4 : Hid (w.grownBy w4 (some R)) := grownBy_trans G3.out g
  have E4 : Hid (tkI bs s3 = (n3, s4)) := e4
  clear K3 B3 G3 k g e4
  go_wp2_with fail
  refine (CI.out _ _ K4.out).mono ?_
  rintro e w5 ⟨n4, s5, rfl, e5, k, g⟩
  have K5 : Hid (RS bs R v s5 w5) := k
  have B5 : Hid (Blk D 61 [.int .i64 0, .bool false, .int .i64 0, .int .i64 0, .int .i64 0, .int .i64 0, .int .i64 0, .int .i64 0, .int .i64 0, .int .i64 0, .int .i64 0, .int .i64 0, .int .i64 0, .int .i64 0, .int .i64 0] w5) := B4.out.grown g RD.out
  have G5 : Hid (w.grownBy w5 (some R)) := grownBy_trans G4.out g
  have E5 : Hid (tkI bs s4 = (n4, s5)) := e5
  clear K4 B4 G4 k g e5
  go_wp2_with fail
  refine (CI.out _ _ K5.out).mono ?_
  rintro e w6 ⟨n5, s6, rfl, e6, k, g⟩
  have K6 : Hid (RS bs R v s6 w6) := k
  have B6 : Hid (Blk D 61 [.int .i64 0, .bool false, .int .i64 0, .int .i64 0, .int .i64 0, .int .i64 0, .int .i64 0, .int .i64 0, .int .i64 0, .int .i64 0, .int .i64 0, .int .i64 0, .int .i64 0, .int .i64 0, .int .i64 0] w6) := B5.out.grown g RD.out
  have G6 : Hid (w.grownBy w6 (some R)) := grownBy_trans G5.out g
  have E6 : Hid (tkI bs s5 = (n5, s6)) := e6
  clear K5 B5 G5 k g e6
  go_wp2_with fail
  refine (CI.out _ _ K6.out).mono ?_
  rintro e w7 ⟨n6, s7, rfl, e7, k, g⟩
  have K7 : Hid (RS bs R v s7 w7) := k
  have B7 : Hid (Blk D 61 [.int .i64 0, .bool false, .int .i64 0, .int .i64 0, .int .i64 0, .int .i64 0, .int .i64 0, .int .i64 0, .int .i64 0, .int .i64 0, .int .i64 0, .int .i64 0, .int .i64 0, .int .i64 0, .int .i64 0] w7) := B6.out.grown g RD.out
  have G7 : Hid (w.grownBy w7 (some R)) := grownBy_trans G6.out g
  have E7 : Hid (tkI bs s6 = (n6, s7)) := e7
  clear K6 B6 G6 k g e7
  go_wp2_with fail
  refine (CC.out _ _ K7.out).mono ?_
  rintro e w8 ⟨n7, s8, rfl, e8, k, g⟩
  have K8 : Hid (RS bs R v s8 w8) := k
  have B8 : Hid (Blk D 61 [.int .i64 0, .bool false, .int .i64 0, .int .i64 0, .int .i64 0, .int .i64 0, .int .i64 0, .int .i64 0, .int .i64 0, .int .i64 0, .int .i64 0, .int .i64 0, .int .i64 0, .int .i64 0, .int .i64 0] w8) := B7.out.grown g RD.out
  have G8 : Hid (w.grownBy w8 (some R)) := grownBy_trans G7.out g
  have E8 : Hid (tkI bs s7 = (n7, s8)) := e8
  clear K7 B7 G7 k g e8
  go_wp2_with fail
  refine (CC.out _ _ K8.out).mono ?_
  rintro e w9 ⟨n8, s9, rfl, e9, k, g⟩
  have K9 : Hid (RS bs R v s9 w9) := k
  have B9 : Hid (Blk D 61 [.int .i64 0, .bool false, .int .i64 0, .int .i64 0, .int .i64 0, .int .i64 0, .int .i64 0, .int .i64 0, .int .i64 0, .int .i64 0, .int .i64 0, .int .i64 0, .int .i64 0, .int .i64 0, .int .i64 0] w9) := B8.out.grown g RD.out
  have G9 : Hid (w.grownBy w9 (some R)) := grownBy_trans G8.out g
  have E9 : Hid (tkI bs s8 = (n8, s9)) := e9
  clear K8 B8 G8 k g e9
  go_wp2_with fail
  refine (CI.out _ _ K9.out).mono ?_
  rintro e w10 ⟨n9, s10, rfl, e10, k, g⟩
  have K10 : Hid (RS bs R v s10 w10) := k
  have B10 : Hid (Blk D 61 [.int .i64 0, .bool false, .int .i64 0, .int .i64 0, .int .i64 0, .int .i64 0, .int .i64 0, .int .i64 0, .int .i64 0, .int .i64 0, .int .i64 0, .int .i64 0, .int .i64 0, .int .i64 0, .int .i64 0] w10) := B9.out.grown g RD.out
  have G10 : Hid (w.grownBy w10 (some R)) := grownBy_trans G9.out g
  have E10 : Hid (tkI bs s9 = (n9, s10)) := e10
  clear K9 B9 G9 k g e10
  go_wp2_with fail
  refine (CI.out _ _ K10.out).mono ?_
  rintro e w11 ⟨n10, s11, rfl, e11, k, g⟩
  have K11 : Hid (RS bs R v s11 w11) := k
  have B11 : Hid (Blk D 61 [.int .i64 0, .bool false, .int .i64 0, .int .i64 0, .int .i64 0, .int .i64 0, .int .i64 0, .int .i64 0, .int .i64 0, .int .i64 0, .int .i64 0, .int .i64 0, .int .i64 0, .int .i64 0, .int .i64 0] w11) := B10.out.grown g RD.out
  have G11 : Hid (w.grownBy w11 (some R)) := grownBy_trans G10.out g
  have E11 : Hid (tkI bs s10 = (n10, s11)) := e11
  clear K10 B10 G10 k g e11
  go_wp2_with fail
  refine (CI.out _ _ K11.out).mono ?_
  rintro e w12 ⟨n11, s12, rfl, e12, k, g⟩
  have K12 : Hid (RS bs R v s12 w12) := k
  have B12 : Hid (Blk D 61 [.int .i64 0, .bool false, .int .i64 0, .int .i64 0, .int .i64 0, .int .i64 0, .int .i64 0, .int .i64 0, .int .i64 0, .int .i64 0, .int .i64 0, .int .i64 0, .int .i64 0, .int .i64 0, .int .i64 0] w12) := B11.out.grown g RD.out
  have G12 : Hid (w.grownBy w12 (some R)) := grownBy_trans G11.out g
  have E12 : Hid (tkI bs s11 = (n11, s12)) := e12
  clear K11 B11 G11 k g e12
  go_wp2_with fail
  refine (CI.out _ _ K12.out).mono ?_
  rintro e w13 ⟨n12, s13, rfl, e13, k, g⟩
  have K13 : Hid (RS bs R v s13 w13) := k
  have B13 : Hid (Blk D 61 [.int .i64 0, .bool false, .int .i64 0, .int .i64 0, .int .i64 0, .int .i64 0, .int .i64 0, .int .i64 0, .int .i64 0, .int .i64 0, .int .i64 0, .int .i64 0, .int .i64 0, .int .i64 0, .int .i64 0] w13) := B12.out.grown g RD.out
  have G13 : Hid (w.grownBy w13 (some R)) := grownBy_trans G12.out g
  have E13 : Hid (tkI bs s12 = (n12, s13)) := e13
  clear K12 B12 G12 k g e13
  go_wp2_with fail
  refine (CC.out _ _ K13.out).mono ?_
  rintro e w14 ⟨n13, s14, rfl, e14, k, g⟩
  have K14 : Hid (RS bs R v s14 w14) := k
  have B14 : Hid (Blk D 61 [.int .i64 0, .bool false, .int .i64 0, .int .i64 0, .int .i64 0, .int .i64 0, .int .i64 0, .int .i64 0, .int .i64 0, .int .i64 0, .int .i64 0, .int .i64 0, .int .i64 0, .int .i64 0, .int .i64 0] w14) := B13.out.grown g RD.out
  have G14 : Hid (w.grownBy w14 (some R)) := grownBy_trans G13.out g
  have E14 : Hid (tkI bs s13 = (n13, s14)) := e14
  clear K13 B13 G13 k g e14
  go_wp2_with fail
  refine (CC.out _ _ K14.out).mono ?_
  rintro e w15 ⟨n14, s15, rfl, e15, k, g⟩
  have K15 : Hid (RS bs R v s15 w15) := k
  have B15 : Hid (Blk D 61 [.int .i64 0, .bool false, .int .i64 0, .int .i64 0, .int .i64 0, .int .i64 0, .int .i64 0, .int .i64 0, .int .i64 0, .int .i64 0, .int .i64 0, .int .i64 0, .int .i64 0, .int .i64 0, .int .i64 0] w15) := B14.out.grown g RD.out
  have G15 : Hid (w.grownBy w15 (some R)) := grownBy_trans G14.out g
  have E15 : Hid (tkI bs s14 = (n14, s15)) := e15
  clear K14 B14 G14 k g e15
  go_wp2_with ((with_reducible refine at_store ?_); refine step_store rfl 61 _ _ rfl D 0 61 [.int .i64 0, .bool false, .int .i64 0, .int .i64 0, .int .i64 0, .int .i64 0, .int .i64 0, .int .i64 0, .int .i64 0, .int .i64 0, .int .i64 0, .int .i64 0, .int .i64 0, .int .i64 0, .int .i64 0] [.int .i64 n0, .bool n1, .int .i64 n2, .int .i64 n3, .int .i64 n4, .int .i64 n5, .int .i64 n6, .int .i64 n7, .int .i64 n8, .int .i64 n9, .int .i64 n10, .int .i64 n11, .int .i64 n12, .int .i64 n13, .int .i64 n14] rfl rfl B15.out (by simp) (by show _ = some 15; kernel_rfl) (fun u hu => by simp at hu; rcases hu with rfl | rfl | rfl | rfl | rfl | rfl | rfl | rfl | rfl | rfl | rfl | rfl | rfl | rfl | rfl <;> rfl) ?_; intro w9 nb9 g9; rw [store_all (by simp)] at nb9)
  have G9 : w.grownBy w9 (some R) := grown_more G15.out g9 (by rw [HD.out]; exact Nat.le_refl _)
  have K9 : RS bs R v s15 w9 := K15.out.other g9 (fun e => RD.out e.symm) (fun h0 e => DV.out h0 e)
  have TN : tkN bs 13 s2 = ([n2, n3, n4, n5, n6, n7, n8, n9, n10, n11, n12, n13, n14], s15) := by simp only [tkN, E3.out, E4.out, E5.out, E6.out, E7.out, E8.out, E9.out, E10.out, E11.out, E12.out, E13.out, E14.out, E15.out]
  have GT := case_got HB.out E1.out E2.out TN HP.out
  exact ret_blk rfl rfl D 61 _ _ rfl nb9 Try.underlying61 rfl (by show _ = some 15; kernel_rfl) ⟨(n0, (n1, [n2, n3, n4, n5, n6, n7, n8, n9, n10, n11, n12, n13, n14])), s15, rfl, K9, G9, GT.1, GT.2⟩
theorem tkN_snoc (bs : List Nat) : ∀ (k : Nat) (st : Option Nat), tkN bs (k + 1) st = ((tkN bs k st).1 ++ [(tkI bs (tkN bs k st).2).1], (tkI bs (tkN bs k st).2).2)
  | 0, st => rfl
  | k + 1, st => by
    have h := tkN_snoc bs k (tkI bs st).2
    show ((tkI bs st).1 :: (tkN bs (k + 1) (tkI bs st).2).1, (tkN bs (k + 1) (tkI bs st).2).2) = _
    rw [h]
    rfl
/-- Twelve numbers, of which the first are read. -/
def bk12 (xs : List Int) : List Value := (xs ++ List.replicate (12 - xs.length) 0).map (Value.int .i64)
theorem bk12_len {xs : List Int} (h : xs.length ≤ 12) : (bk12 xs).length = 12 := by unfold bk12; simp; omega
theorem bk12_full {xs : List Int} (h : xs.length = 12) : bk12 xs = i12 xs := by
  match xs, h with
  | [a0, a1, a2, a3, a4, a5, a6, a7, a8, a9, a10, a11], _ => rfl
theorem bk12_at {xs : List Int} (h : xs.length < 12) : (bk12 xs)[xs.length]? = some (.int .i64 0) := by
  unfold bk12
  rw [List.getElem?_map, List.getElem?_append_right (Nat.le_refl _), Nat.sub_self, List.getElem?_replicate, if_pos (by omega)]
  rfl
theorem bk12_set {xs : List Int} (h : xs.length < 12) (n : Int) : (bk12 xs).set xs.length (.int .i64 n) = bk12 (xs ++ [n]) := by
  unfold bk12
  have e : List.replicate (12 - xs.length) (0 : Int) = 0 :: List.replicate (12 - (xs ++ [n]).length) 0 := by
    rw [show 12 - xs.length = (12 - (xs ++ [n]).length) + 1 from by simp; omega]; rfl
  rw [e, List.map_append, List.map_cons, List.set_append_right _ _ (by simp)]
  simp
theorem tkN_len (bs : List Nat) : ∀ (k : Nat) (st : Option Nat), (tkN bs k st).1.length = k
  | 0, _ => rfl
  | k + 1, st => by show ((tkI bs st).1 :: (tkN bs k _).1).length = k + 1; rw [List.length_cons, tkN_len bs k]
set_option maxRecDepth 20000 in
set_option maxHeartbeats 2000000 in
theorem book_at (bs : List Nat) (hb : ∀ c ∈ bs, c < 256) (hl : bs.length ≤ 1000000000000) (R : Nat) (v : Value) (st : Option Nat) (w : World) (h : RS bs R v st w) :
    Calls Try.prog 78 #[.pointer (some ⟨R, 0, none⟩)] w (RdAns i12 putFs (fun xs : List Int => xs.length = 12 ∧ I64s xs) bs R v st w) := by
  have CC : Hid (∀ W s, RS bs R v s W → Calls Try.prog 80 #[.pointer (some ⟨R, 0, none⟩)] W fun e w' => e = .returned (.int .i64 (tkI bs s).1) ∧ RS bs R v (tkI bs s).2 w' ∧ W.grownBy w' (some R)) := fun W s hs => cents_at bs hb hl R v s W hs
  have HP : Hid (∀ p, st = some p → p ≤ bs.length) := fun p e => h.le p e
  have HB : Hid (∀ c ∈ bs, c < 256) := hb
  have hR := h.lt
  have DV : Hid (∀ g, w.heap.size ≤ g → 0 < bs.length → v.ownBlock = some g → False) := fun g hg h0 e => by have := Rd.block h.rd (by rw [List.length_map]; exact h0) e; omega
  have BB : Below w.heap.size w ((w.alloc (.cells #[.int .i64 0, .int .i64 0, .int .i64 0, .int .i64 0, .int .i64 0, .int .i64 0, .int .i64 0, .int .i64 0, .int .i64 0, .int .i64 0, .int .i64 0, .int .i64 0] 59)).alloc (.cells #[.int .i64 0, .int .i64 0, .int .i64 0, .int .i64 0, .int .i64 0, .int .i64 0, .int .i64 0, .int .i64 0, .int .i64 0, .int .i64 0, .int .i64 0, .int .i64 0] 59)) := below_trans (below_alloc _ _) (below_alloc _ _)
  have K0 : Hid (RS bs R v st ((w.alloc (.cells #[.int .i64 0, .int .i64 0, .int .i64 0, .int .i64 0, .int .i64 0, .int .i64 0, .int .i64 0, .int .i64 0, .int .i64 0, .int .i64 0, .int .i64 0, .int .i64 0] 59)).alloc (.cells #[.int .i64 0, .int .i64 0, .int .i64 0, .int .i64 0, .int .i64 0, .int .i64 0, .int .i64 0, .int .i64 0, .int .i64 0, .int .i64 0, .int .i64 0, .int .i64 0] 59))) := h.below BB
  have D0 : Hid (Blk w.heap.size 59 (bk12 []) ((w.alloc (.cells #[.int .i64 0, .int .i64 0, .int .i64 0, .int .i64 0, .int .i64 0, .int .i64 0, .int .i64 0, .int .i64 0, .int .i64 0, .int .i64 0, .int .i64 0, .int .i64 0] 59)).alloc (.cells #[.int .i64 0, .int .i64 0, .int .i64 0, .int .i64 0, .int .i64 0, .int .i64 0, .int .i64 0, .int .i64 0, .int .i64 0, .int .i64 0, .int .i64 0, .int .i64 0] 59))) := (Blk.new 59 (bk12 []) w).old _
  have E0 : Hid (Blk (w.heap.size + 1) 59 (bk12 []) ((w.alloc (.cells #[.int .i64 0, .int .i64 0, .int .i64 0, .int .i64 0, .int .i64 0, .int .i64 0, .int .i64 0, .int .i64 0, .int .i64 0, .int .i64 0, .int .i64 0, .int .i64 0] 59)).alloc (.cells #[.int .i64 0, .int .i64 0, .int .i64 0, .int .i64 0, .int .i64 0, .int .i64 0, .int .i64 0, .int .i64 0, .int .i64 0, .int .i64 0, .int .i64 0, .int .i64 0] 59))) := Blk.new2 59 (bk12 []) w _
  have G0 : Hid (w.grownBy ((w.alloc (.cells #[.int .i64 0, .int .i64 0, .int .i64 0, .int .i64 0, .int .i64 0, .int .i64 0, .int .i64 0, .int .i64 0, .int .i64 0, .int .i64 0, .int .i64 0, .int .i64 0] 59)).alloc (.cells #[.int .i64 0, .int .i64 0, .int .i64 0, .int .i64 0, .int .i64 0, .int .i64 0, .int .i64 0, .int .i64 0, .int .i64 0, .int .i64 0, .int .i64 0, .int .i64 0] 59)) (some R)) := grownBy_below BB _
  clear h hb hl BB
  go_enter Try.func78, Try.ntmps78
  go_upto_region 2 with fail
  generalize ((w.alloc (.cells #[.int .i64 0, .int .i64 0, .int .i64 0, .int .i64 0, .int .i64 0, .int .i64 0, .int .i64 0, .int .i64 0, .int .i64 0, .int .i64 0, .int .i64 0, .int .i64 0] 59)).alloc (.cells #[.int .i64 0, .int .i64 0, .int .i64 0, .int .i64 0, .int .i64 0, .int .i64 0, .int .i64 0, .int .i64 0, .int .i64 0, .int .i64 0, .int .i64 0, .int .i64 0] 59)) = W0 at *
  obtain ⟨D, hD⟩ : ∃ D, w.heap.size = D := ⟨_, rfl⟩
  have HD : Hid (w.heap.size = D) := hD
  rw [hD] at D0 E0 DV ⊢
  have RD : Hid (R < D) := by show _ < _; omega
  clear hD hR
  go_wp2_with fail
  go_loopw [5] (fun vk wr => ∃ (k : Nat) (xs : List Int) (s : Option Nat), vk = .int .i64 (k : Int) ∧ k ≤ 12 ∧ Hid (tkN bs k st = (xs, s)) ∧ Hid (RS bs R v s wr) ∧ Hid (Blk D 59 (bk12 []) wr) ∧ Hid (Blk (D + 1) 59 (bk12 xs) wr) ∧ Hid (w.grownBy wr (some R))) (fun vk _ => 12 - (intOf vk).toNat)
  case atStart => exact ⟨0, [], st, rfl, by omega, rfl, K0.out, D0.out, E0.out, G0.out⟩
  case round =>
    clear K0 D0 E0 G0
    obtain ⟨k, xs, s, rfl, hk, TN, K, DD, EE, G⟩ := hrel
    have lx : xs.length = k := by have := tkN_len bs k st; rw [TN.out] at this; exact this
    have LX : Hid (xs.length = k) := lx
    clear lx
    by_cases hlt : (k : Int) < 12
    · go_wp2_with fail
      refine (CC.out _ _ K.out).mono ?_
      rintro e w2 ⟨rfl, k2, g2⟩
      have K2 : Hid (RS bs R v (tkI bs s).2 w2) := k2
      have D2 : Hid (Blk D 59 (bk12 []) w2) := DD.out.grown g2 (by have := RD.out; omega)
      have E2 : Hid (Blk (D + 1) 59 (bk12 xs) w2) := EE.out.grown g2 (by have := RD.out; omega)
      have G2 : Hid (w.grownBy w2 (some R)) := grownBy_trans G.out g2
      have T2 : Hid (tkN bs (k + 1) st = (xs ++ [(tkI bs s).1], (tkI bs s).2)) := by show _ = _; rw [tkN_snoc, TN.out]
      have ck : w2.cell? ⟨D + 1, k, none⟩ = some (.int .i64 0) := E2.out.cell k _ (by have := bk12_at (xs := xs) (by have := LX.out; omega); rwa [LX.out] at this)
      have zk : w2.frozen? ⟨D + 1, k, none⟩ = false := E2.out.fz k
      have lk := E2.out.lt
      generalize (tkI bs s).1 = n at *
      generalize (tkI bs s).2 = s2 at *
      clear k2 g2 K DD EE G TN
      go_wp2_with fail
      have g3 := setCell_grown w2 (D + 1) k (.int .i64 n)
      have K3 : RS bs R v s2 (w2.setCell ⟨D + 1, k, none⟩ (.int .i64 n)) := K2.out.other g3 (by have := RD.out; omega) (fun h0 e => DV.out _ (by omega) h0 e)
      have E3 : Blk (D + 1) 59 (bk12 (xs ++ [n])) (w2.setCell ⟨D + 1, k, none⟩ (.int .i64 n)) := by
        have h := Blk.set (i := k) E2.out (.int .i64 n)
        have e := bk12_set (xs := xs) (by have := LX.out; omega) n
        rw [LX.out] at e
        rwa [e] at h
      have D3 : Blk D 59 (bk12 []) (w2.setCell ⟨D + 1, k, none⟩ (.int .i64 n)) := D2.out.grown g3 (by omega)
      have G3 : w.grownBy (w2.setCell ⟨D + 1, k, none⟩ (.int .i64 n)) (some R) := grown_more G2.out g3 (by rw [HD.out]; omega)
      go_roundw
      case rel => exact ⟨k + 1, xs ++ [n], s2, by go_num, by omega, T2.out, K3, D3, E3, G3⟩
      case measure => simp [intOf]; omega
    · obtain rfl : k = 12 := by omega
      have EF : Hid (Blk (D + 1) 59 (i12 xs) wr) := by have := EE.out; rwa [bk12_full LX.out] at this
      have ss : (Try.prog.info? 59).map (·.size) = some (i12 xs).length := by show _ = some 12; kernel_rfl
      have SS : Hid ((Try.prog.info? 59).map (·.size) = some (i12 xs).length) := ss
      have o12 : Hid (∀ u ∈ i12 xs, u.oneCell' = true) := fun u hu => by
        simp only [i12, List.mem_cons, List.not_mem_nil, or_false] at hu
        rcases hu with rfl | rfl | rfl | rfl | rfl | rfl | rfl | rfl | rfl | rfl | rfl | rfl <;> rfl
      clear ss EE
      go_wp2_with (first
        | ((with_reducible refine at_loadT 59 ?_); refine step_load rfl 59 _ rfl (D + 1) 0 rfl (i12 xs) _ EF.out.all Try.underlying59 rfl SS.out ?_)
        | ((with_reducible refine at_store ?_); refine step_store rfl 59 _ _ rfl D 0 59 (bk12 []) (i12 xs) rfl rfl DD.out (by show 0 + 12 ≤ 12; omega) SS.out o12.out ?_; intro w9 nb9 g9; rw [store_all (by rfl)] at nb9))
      have G9 : w.grownBy w9 (some R) := grown_more G.out g9 (by rw [HD.out]; exact Nat.le_refl _)
      have K9 : RS bs R v s w9 := K.out.other g9 (by have := RD.out; omega) (fun h0 e => DV.out _ (Nat.le_refl _) h0 e)
      have GT := nums_got HB.out TN.out HP.out
      exact ret_blk rfl rfl D 59 _ _ rfl nb9 Try.underlying59 rfl SS.out ⟨xs, s, rfl, K9, G9, GT.1, GT.2⟩
end Go.Proofs.Ytdbjjeaflfoppaa
