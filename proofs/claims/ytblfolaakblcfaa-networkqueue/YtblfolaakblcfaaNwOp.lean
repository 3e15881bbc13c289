/-
  Ours: scripts; what a step makes of a network.
-/
import Derived.Test.YtblfolaakblcfaaNwM2
namespace Go.Proofs.Ytblfolaakblcfaa
open Go.RowKit NwM

structure OpN where
  kind : Int
  other : Bool
  lt : ByteArray
  id : Int
  ack : Bool
  xa : Option Addr
  xn : Nat
  xc : Nat
  bs : List Nat
def opL (o : OpN) : List Value := [.int .i64 o.kind, .bool o.other, .string o.lt, .int .i64 o.id, .bool o.ack, .slice o.xa o.xn o.xc]
/-- A script that came in. -/
def RdO (w : World) (v : Value) (os : List OpN) : Prop :=
  ∃ ao cap, v = .slice ao os.length cap ∧ ∀ i o, os[i]? = some o → ∃ g off, ao = some ⟨g, off, none⟩ ∧ g < w.heap.size ∧ (∀ j u, (opL o)[j]? = some u → w.cell? ⟨g, off + i * 6 + j, none⟩ = some u) ∧ RdB w (.slice o.xa o.xn o.xc) o.bs
theorem RdO.len {w : World} {v : Value} {os : List OpN} (h : RdO w v os) : ∃ a c, v = .slice a os.length c := by
  obtain ⟨a, c, e, _⟩ := h
  exact ⟨a, c, e⟩
theorem RdO.at {w w' : World} {a : Option Addr} {n c : Nat} {os : List OpN} (h : RdO w (.slice a n c) os) (b : Below w.heap.size w w') {i : Nat} {o : OpN} (hi : os[i]? = some o) :
    ∃ g off, a = some ⟨g, off, none⟩ ∧ g < w'.heap.size ∧ w'.cell? ⟨g, off + i * 6, none⟩ = some (.int .i64 o.kind) ∧ w'.cell? ⟨g, off + i * 6 + 1, none⟩ = some (.bool o.other) ∧ w'.cell? ⟨g, off + i * 6 + 2, none⟩ = some (.string o.lt) ∧ w'.cell? ⟨g, off + i * 6 + 3, none⟩ = some (.int .i64 o.id) ∧ w'.cell? ⟨g, off + i * 6 + 4, none⟩ = some (.bool o.ack) ∧ w'.cell? ⟨g, off + i * 6 + 5, none⟩ = some (.slice o.xa o.xn o.xc) ∧ RdB w' (.slice o.xa o.xn o.xc) o.bs := by
  obtain ⟨ao, cap, e, H⟩ := h
  injection e with e _ _
  subst e
  obtain ⟨g, off, e1, lt, hc, rd⟩ := H i o hi
  have key : ∀ j u, (opL o)[j]? = some u → w'.cell? ⟨g, off + i * 6 + j, none⟩ = some u := fun j u hu => (b.cell (p := ⟨g, off + i * 6 + j, none⟩) lt).trans (hc j u hu)
  exact ⟨g, off, e1, Nat.lt_of_lt_of_le lt b.size, key 0 _ rfl, key 1 _ rfl, key 2 _ rfl, key 3 _ rfl, key 4 _ rfl, key 5 _ rfl, Rd.later rd b⟩

namespace NwM
/-- What a step makes of a network; the numbers that it tells. -/
inductive Play (t : Nt) (o : OpN) : Nt → List Int → Prop
  | fate (h : o.kind = 1) : Play t o (fateT t o.lt) []
  | calm (h : o.kind = 2) : Play t o (NwM.calm t) []
  | send (h : o.kind = 3) (p : Pk) (ha : p.ack = false) (hi : p.id = o.id) (hb : p.bs = o.bs) : Play t o (hand t p) []
  | tick (h : o.kind = 4) : Play t o (NwM.tick t).1 (NwM.tick t).2
  | none (h1 : o.kind ≠ 1) (h2 : o.kind ≠ 2) (h3 : o.kind ≠ 3) (h4 : o.kind ≠ 4) : Play t o t []
/-- A network after n steps. -/
structure Sm (n : Nat) (t : Nt) : Prop where
  fl : t.fl.length = 10
  sz : sz t ≤ 6 * n
  now : t.now ≤ n
  fs : t.fs.length ≤ 4096
theorem Sm.nt0 : Sm 0 NwM.nt0 := ⟨rfl, Nat.le_refl _, Nat.le_refl _, by decide⟩
theorem Sm.mono {n m : Nat} {t : Nt} (h : Sm n t) (hm : n ≤ m) : Sm m t := ⟨h.fl, Nat.le_trans h.sz (by omega), Nat.le_trans h.now hm, h.fs⟩
theorem hand_fsl (t : Nt) (p : Pk) : (hand t p).fs.length ≤ t.fs.length := by rw [hand_fs]; simp
theorem arr1_fsl (s : Nt × List Int) (p : Pk) : (arr1 s p).1.fs.length ≤ s.1.fs.length := by
  unfold arr1
  split
  · exact Nat.le_refl _
  · have := hand_fsl (taken s.1 (accA p s.1.now)) (ackP p.id)
    rwa [taken_fs] at this
theorem fold_fsl : ∀ (ps : List Pk) (s : Nt × List Int), (ps.foldl arr1 s).1.fs.length ≤ s.1.fs.length
  | [], _ => Nat.le_refl _
  | p :: ps, s => Nat.le_trans (fold_fsl ps (arr1 s p)) (arr1_fsl s p)
theorem tick_fsl (t : Nt) : (tick t).1.fs.length ≤ t.fs.length := fold_fsl _ (beg t, [])
theorem Sm.tick {n : Nat} {t : Nt} (h : Sm n t) : Sm (n + 1) (NwM.tick t).1 := ⟨by rw [tick_len]; exact h.fl, Nat.le_trans (tick_sz t h.fl) (Nat.le_trans h.sz (by omega)), by rw [tick_now]; have := h.now; omega, Nat.le_trans (tick_fsl t) h.fs⟩
theorem Sm.hand {n : Nat} {t : Nt} (h : Sm n t) (p : Pk) (ha : p.ack = false) : Sm (n + 1) (NwM.hand t p) := by
  refine ⟨by rw [hand_len]; exact h.fl, ?_, by rw [hand_now]; have := h.now; omega, Nat.le_trans (hand_fsl t p) h.fs⟩
  have h1 := hand_sz t p h.fl
  have h2 : wp p = 3 := by unfold wp; rw [ha]; rfl
  have := h.sz
  omega
theorem Sm.calm {n : Nat} {t : Nt} (h : Sm n t) : Sm (n + 1) (NwM.calm t) := ⟨h.fl, Nat.le_trans h.sz (by omega), Nat.le_trans h.now (by omega), Nat.zero_le _⟩
theorem Sm.fate {n : Nat} {t : Nt} (h : Sm n t) (s : ByteArray) : Sm (n + 1) (fateT t s) := by
  unfold fateT
  split
  · rename_i hc
    refine ⟨h.fl, Nat.le_trans h.sz (by omega), Nat.le_trans h.now (by omega), ?_⟩
    show (t.fs ++ bytesOf s).length ≤ 4096
    rw [List.length_append, bytesOf_len]
    unfold fateC at hc
    split at hc
    · cases hc
    · split at hc
      · cases hc
      · split at hc
        · cases hc
        · omega
  · exact h.mono (by omega)
theorem Sm.play {n : Nat} {t t' : Nt} {o : OpN} {ids : List Int} (h : Sm n t) (p : Play t o t' ids) : Sm (n + 1) t' := by
  cases p with
  | fate => exact h.fate _
  | calm => exact h.calm
  | send _ p ha _ _ => exact h.hand p ha
  | tick => exact h.tick
  | none => exact h.mono (by omega)
theorem fateT_fl (t : Nt) (s : ByteArray) : (fateT t s).fl = t.fl ∧ (fateT t s).ac = t.ac ∧ (fateT t s).now = t.now := by
  unfold fateT
  split <;> exact ⟨rfl, rfl, rfl⟩
theorem AllN.play {Q : Int → List Nat → Prop} {t t' : Nt} {o : OpN} {ids : List Int} (h : AllN Q t) (p : Play t o t' ids) (hq : o.kind = 3 → Q o.id o.bs) : AllN Q t' := by
  cases p with
  | fate => exact ⟨by rw [(fateT_fl t o.lt).1]; exact h.fl, by rw [(fateT_fl t o.lt).2.1]; exact h.ac⟩
  | calm => exact ⟨h.fl, h.ac⟩
  | send hk p ha hi hb => exact h.hand (fun _ => by rw [hi, hb]; exact hq hk)
  | tick => exact h.tick
  | none => exact h
end NwM

/-- What 'play' leaves. -/
def PlayAns (R : Nat) (S B : Nat → Prop) (t : Nt) (o : OpN) (w : World) (e : Ending) (w' : World) : Prop :=
  ∃ a n c S' B' t' ids, e = .returned (.slice a n c) ∧ RowV 3 w.heap.size w' (.slice a n c) (ids.map iv) ∧ NPost R S B w t' S' B' w' ∧ (∀ g, (Value.slice a n c).ownBlock = some g → ¬ S' g) ∧ Play t o t' ids
theorem play_quiet {R : Nat} {S B S' B' : Nat → Prop} {t t' : Nt} {o : OpN} {w w' : World} (h : NPost R S B w t' S' B' w') (p : Play t o t' []) : PlayAns R S B t o w (.returned (.slice none 0 0)) w' :=
  ⟨none, 0, 0, S', B', t', [], rfl, RowV.nil _ _ _, h, fun g e => (by cases e), p⟩
set_option maxRecDepth 40000 in
set_option maxHeartbeats 4000000 in
theorem play_at (R : Nat) (S B : Nat → Prop) (t : Nt) (o : OpN) (N : Nat) (w : World) (h : NetAt R S B t w) (hm : Sm N t) (hN : N ≤ 1000000000) (hr : RdB w (.slice o.xa o.xn o.xc) o.bs) (hl : o.bs.length ≤ 1000000000000) :
    Calls Try.prog 20 #[.pointer (some ⟨R, 0, none⟩), .agg #[.int .i64 o.kind, .bool o.other, .string o.lt, .int .i64 o.id, .bool o.ack, .slice o.xa o.xn o.xc]] w (PlayAns R S B t o w) := by
  have BA := below_alloc w (.cells #[.int .i64 o.kind, .bool o.other, .string o.lt, .int .i64 o.id, .bool o.ack, .slice o.xa o.xn o.xc] 45)
  have B1 := Blk.new 45 (opL o) w
  have hS : Hid (∀ g, S g → g < w.heap.size) := fun g hg => h.s hg
  have D0 : Hid (NPost R S B w t S B (w.alloc (.cells #[.int .i64 o.kind, .bool o.other, .string o.lt, .int .i64 o.id, .bool o.ack, .slice o.xa o.xn o.xc] 45)) ∧ Blk w.heap.size 45 (opL o) (w.alloc (.cells #[.int .i64 o.kind, .bool o.other, .string o.lt, .int .i64 o.id, .bool o.ack, .slice o.xa o.xn o.xc] 45)) ∧ RdB (w.alloc (.cells #[.int .i64 o.kind, .bool o.other, .string o.lt, .int .i64 o.id, .bool o.ack, .slice o.xa o.xn o.xc] 45)) (.slice o.xa o.xn o.xc) o.bs ∧ Below w.heap.size w (w.alloc (.cells #[.int .i64 o.kind, .bool o.other, .string o.lt, .int .i64 o.id, .bool o.ack, .slice o.xa o.xn o.xc] 45))) := ⟨NPost.refl h BA, B1, Rd.later hr BA, BA⟩
  have bnd : Hid (sz t ≤ 999999999000 ∧ t.now ≤ 999999999000 ∧ t.fs.length ≤ 4096) := ⟨by have := hm.sz; omega, by have := hm.now; omega, hm.fs⟩
  clear h hm BA B1 hr hN
  obtain ⟨Q, hQ⟩ : ∃ Q, w.heap.size = Q := ⟨_, rfl⟩
  rw [hQ] at D0
  have HQ : Hid (w.heap.size = Q) := hQ
  obtain ⟨kd, hkd⟩ : ∃ kd, o.kind = kd := ⟨_, rfl⟩
  have HK : Hid (o.kind = kd) := hkd
  rw [hkd] at D0 ⊢
  go_enter Try.func20, Try.ntmps20
  go_upto_region 1 with fail
  clear hQ hkd
  generalize w.alloc (.cells #[.int .i64 kd, .bool o.other, .string o.lt, .int .i64 o.id, .bool o.ack, .slice o.xa o.xn o.xc] 45) = w0 at *
  have e0 : (opL o)[0]? = some (.int .i64 kd) := by rw [← HK.out]; rfl
  have q0 := D0.out.2.1.cell 0 _ e0
  have q2 := D0.out.2.1.cell 2 _ rfl
  have ltQ := D0.out.2.1.lt
  clear e0
  by_cases k1 : kd = 1
  · have g1 : (kd == 1) = true := by simp [k1]
    have K1 : Hid (o.kind = 1) := HK.out.trans k1
    have FA : Hid (Calls Try.prog 10 #[.pointer (some ⟨R, 0, none⟩), .string o.lt] w0 fun e w' => e = .returned (.int .i64 ((fateC t o.lt : Nat) : Int)) ∧ ∃ S', NPost R S B w0 (fateT t o.lt) S' B w') := fate_at R S B t o.lt w0 D0.out.1.net bnd.out.2.2
    clear k1
    go_wp2_with fail
    refine FA.out.mono ?_
    rintro e w1 ⟨rfl, S1, p1⟩
    have F1 : Hid (PlayAns R S B t o w (.returned (.slice none 0 0)) w1) := play_quiet (D0.out.1.trans p1) (.fate K1.out)
    clear FA p1
    go_wp2_with fail
    go_ret
    exact F1.out
  · have g1 : (kd == 1) = false := by simp [k1]
    by_cases k2 : kd = 2
    · have g2 : (kd == 2) = true := by simp [k2]
      have K2 : Hid (o.kind = 2) := HK.out.trans k2
      have CA : Hid (Calls Try.prog 23 #[.pointer (some ⟨R, 0, none⟩)] w0 fun e w' => e = .returned (.tuple #[]) ∧ NPost R S B w0 (calm t) S B w') := calm_at R S B t w0 D0.out.1.net
      clear k1 k2
      go_wp2_with fail
      refine CA.out.mono ?_
      rintro e w1 ⟨rfl, p1⟩
      have F1 : Hid (PlayAns R S B t o w (.returned (.slice none 0 0)) w1) := play_quiet (D0.out.1.trans p1) (.calm K2.out)
      clear CA p1
      go_wp2_with fail
      go_ret
      exact F1.out
    · have g2 : (kd == 2) = false := by simp [k2]
      by_cases k3 : kd = 3
      · have g3 : (kd == 3) = true := by simp [k3]
        have K3 : Hid (o.kind = 3) := HK.out.trans k3
        clear k1 k2 k3
        go_upto_region 7 with fail
        have CP : Hid (Calls Try.prog 12 #[.slice o.xa o.xn o.xc] w0.drew (NewS w0.drew o.bs)) := copied_at o.bs _ _ (by omega) (Rd.drewN D0.out.2.2.1 1)
        have lwQ : Hid (¬ S Q) := fun q => by have := hS.out _ q; have := HQ.out; omega
        have SN : Hid (∀ w1 a' n' c', RowB 5 w0.drew.heap.size w1 (.slice a' n' c') o.bs → Below w0.drew.heap.size w0.drew w1 → Calls Try.prog 11 #[.pointer (some ⟨R, 0, none⟩), .agg #[.bool o.ack, .int .i64 o.id, .slice a' n' c']] w1 fun e w2 => (SendAns R S B t o.id o.bs w0 e w2) ∧ Kp S w1 w2) := fun w1 a' n' c' r1 b1 => by
          have b1' : Below w0.heap.size w0 w1 := ⟨b1.os, b1.tape, b1.output, b1.size, b1.block⟩
          refine (send_at R S B t o.ack o.id a' n' c' o.bs w1 (D0.out.1.net.below b1') (RowV.rd r1) (by omega) bnd.out.1 bnd.out.2.1).mono ?_
          rintro e w2 ⟨rfl, S', B', p, p2, pa, pi, pb⟩
          exact ⟨⟨rfl, S', B', p, (NPost.refl D0.out.1.net b1').trans p2, pa, pi, pb⟩, p2.k⟩
        have SS : Hid (w0.drew.cell? ⟨Q, 3, none⟩ = some (.int .i64 o.id) ∧ w0.drew.cell? ⟨Q, 4, none⟩ = some (.bool o.ack) ∧ w0.drew.cell? ⟨Q, 5, none⟩ = some (.slice o.xa o.xn o.xc)) := ⟨D0.out.2.1.cell 3 _ rfl, D0.out.2.1.cell 4 _ rfl, D0.out.2.1.cell 5 _ rfl⟩
        have KB : Hid (∀ w', Below w0.drew.heap.size w0.drew w' → w'.cell? ⟨Q, 3, none⟩ = some (.int .i64 o.id) ∧ w'.cell? ⟨Q, 4, none⟩ = some (.bool o.ack) ∧ w'.cell? ⟨Q, 5, none⟩ = some (.slice o.xa o.xn o.xc)) := fun w' b => ⟨(b.cell (p := ⟨Q, 3, none⟩) ltQ).trans SS.out.1, (b.cell (p := ⟨Q, 4, none⟩) ltQ).trans SS.out.2.1, (b.cell (p := ⟨Q, 5, none⟩) ltQ).trans SS.out.2.2⟩
        have KN : Hid (∀ w1 w', Below w0.drew.heap.size w0.drew w1 → Kp S w1 w' → w'.cell? ⟨Q, 3, none⟩ = some (.int .i64 o.id) ∧ w'.cell? ⟨Q, 4, none⟩ = some (.bool o.ack) ∧ w'.cell? ⟨Q, 5, none⟩ = some (.slice o.xa o.xn o.xc)) := fun w1 w' b k => ⟨cell_kp k lwQ.out (KB.out w1 b).1, cell_kp k lwQ.out (KB.out w1 b).2.1, cell_kp k lwQ.out (KB.out w1 b).2.2⟩
        clear q0 q2
        go_region_held3 (fun w' => w'.cell? ⟨Q, 3, none⟩ = some (.int .i64 o.id) ∧ w'.cell? ⟨Q, 4, none⟩ = some (.bool o.ack) ∧ w'.cell? ⟨Q, 5, none⟩ = some (.slice o.xa o.xn o.xc)) (first | assumption | exact SS.out | exact KB.out _ b1 | exact KN.out _ _ b1 k2) (first
          | (go_at_call 12; refine CP.out.mono ?_; rintro e w1 ⟨a1, n1, c1, rfl, r1, b1⟩)
          | (go_at_call 11; refine (SN.out _ a1 n1 c1 r1 b1).mono ?_; rintro e w2 ⟨⟨rfl, p2⟩, k2⟩))
        have F1 : Hid (PlayAns R S B t o w (.returned (.slice none 0 0)) w2) := by
          obtain ⟨S', B', p, p2, pa, pi, pb⟩ := p2
          exact play_quiet (D0.out.1.trans p2) (.send K3.out p pa pi pb)
        clear CP SN SS KB KN r1 b1 k2 p2
        go_wp2_with fail
        go_ret
        exact F1.out
      · have g3 : (kd == 3) = false := by simp [k3]
        by_cases k4 : kd = 4
        · have g4 : (kd == 4) = true := by simp [k4]
          have K4 : Hid (o.kind = 4) := HK.out.trans k4
          have TK : Hid (Calls Try.prog 14 #[.pointer (some ⟨R, 0, none⟩)] w0 (TickAns R S B t w0)) := tick_at R S B t w0 D0.out.1.net bnd.out.1 bnd.out.2.1
          clear k1 k2 k3 k4
          go_wp2_with fail
          refine TK.out.mono ?_
          rintro e w1 ⟨a1, n1, c1, S1, rfl, r1, p1, x1⟩
          have F1 : Hid (PlayAns R S B t o w (.returned (.slice a1 n1 c1)) w1) := ⟨a1, n1, c1, S1, B, _, _, rfl, RowV.mono r1 (by rw [HQ.out]; have := D0.out.2.2.2.size; have := HQ.out; omega), D0.out.1.trans p1, x1, .tick K4.out⟩
          clear TK r1 p1 x1
          go_wp2_with fail
          go_ret
          exact F1.out
        · have g4 : (kd == 4) = false := by simp [k4]
          have F1 : Hid (PlayAns R S B t o w (.returned (.slice none 0 0)) w0) := play_quiet D0.out.1 (.none (by rw [HK.out]; exact k1) (by rw [HK.out]; exact k2) (by rw [HK.out]; exact k3) (by rw [HK.out]; exact k4))
          clear k1 k2 k3 k4
          go_wp2_with fail
          go_ret
          exact F1.out
end Go.Proofs.Ytblfolaakblcfaa
