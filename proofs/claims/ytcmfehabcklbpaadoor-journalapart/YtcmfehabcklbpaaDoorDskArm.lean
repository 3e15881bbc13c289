/-
  Ours: Read, Durable, Arm, Disarm, Restart, Down, Writes.
-/
import Derived.Test.YtcmfehabcklbpaaDoorDskSync
namespace Go.Proofs.YtcmfehabcklbpaaDoor
open Go.RowKit

def Dk.read (t : Dk) (n : Int) : List Nat × Int := if t.no n ≠ 0 then ([], t.no n) else (t.fb n, 0)
def Dk.durable (t : Dk) (n : Int) : List Nat × Int := if n = 0 ∨ n = 1 then ((t.fb n).take (t.fd n), 0) else ([], 50)
def Dk.arm (t : Dk) (a k : Int) : Dk × Int := if a < 1 ∨ 1000000 < a ∨ k < 0 ∨ 16777216 < k then (t, 2) else if t.q.length = 64 then (t, 1) else ({ t with q := t.q ++ [(a, k)] }, 0)
def Dk.restart (t : Dk) : Dk × Int := if t.dn then ({ t with dn := false }, 0) else (t, 53)
/-- Bytes and an error, the bytes in new memory. -/
def NewE (w : World) (r : List Nat × Int) (e : Ending) (w' : World) : Prop := ∃ a c, e = .returned (.tuple #[.slice a r.1.length c, .int .i64 r.2]) ∧ RowB 5 w.heap.size w' (.slice a r.1.length c) r.1 ∧ Below w.heap.size w w'
theorem NewE.nil (w : World) (e : Int) : NewE w ([], e) (.returned (.tuple #[.slice none 0 0, .int .i64 e])) w := ⟨none, 0, rfl, RowV.nil _ _ _, Below.refl _ _⟩

set_option maxRecDepth 20000 in
set_option maxHeartbeats 1000000 in
theorem read_at (R : Nat) (S : Nat → Prop) (t : Dk) (w : World) (n : Int) (h : DkAt R S t w) : Calls Tryd.prog 78 #[.pointer (some ⟨R, 0, none⟩), .int .i64 n] w (NewE w (t.read n)) := by
  obtain ⟨ok, v0, v1, vq, h⟩ := h
  have c6 := h.blk.cell 6 _ rfl
  have PK : Hid (∀ w, w.cell? ⟨R, 6, none⟩ = some (.bool t.dn) → Calls Tryd.prog 81 #[.pointer (some ⟨R, 0, none⟩), .int .i64 n] w fun e w' => e = .returned (.tuple #[(pickV R n t.dn).1, .int .i64 (pickV R n t.dn).2]) ∧ w' = w) := fun w h => pick_at R n t.dn w h
  rw [pickV_no] at PK
  unfold Dk.read
  rcases t.no_cases n with hno | hno
  · have e0 : (t.no n != 0) = true := by simpa using hno
    rw [if_neg hno] at PK
    rw [if_pos hno]
    clear h ok
    generalize t.no n = e at *
    go_enter Tryd.func78, Tryd.ntmps78
    go_wp2_with fail
    refine (PK.out _ c6).mono ?_
    rintro e w2 ⟨rfl, rfl⟩
    go_wp2_with fail
    go_ret2
    exact NewE.nil _ _
  · have hn0 : t.no n = 0 := by unfold Dk.no; rcases hno with ⟨rfl, hd⟩ | ⟨rfl, hd⟩ <;> simp [hd]
    rw [if_neg (by rw [hn0]; simp)]
    rw [if_pos hn0, hn0] at PK
    have en0 : ((0 : Int) != 0) = false := rfl
    clear hn0
    rcases hno with ⟨rfl, hdn⟩ | ⟨rfl, hdn⟩
    · rw [show 2 * (0 : Int).toNat = 0 from rfl] at PK
      rw [show t.fb 0 = t.b0 from rfl]
      obtain ⟨a, c, e, hc⟩ := row_shape h.r0
      rw [List.length_map] at e hc
      subst e
      have CP : Hid (∀ w, RdB w (.slice a t.b0.length c) t.b0 → Calls Tryd.prog 41 #[.slice a t.b0.length c] w (NewB w t.b0)) := fun w h => dcopied_at _ _ w (by have := ok.l0; omega) h
      have cb := h.blk.cell 0 _ rfl
      have r0 := h.r0.rd
      clear h ok
      go_enter Tryd.func78, Tryd.ntmps78
      go_wp2_with fail
      refine (PK.out _ c6).mono ?_
      rintro e w2 ⟨rfl, rfl⟩
      go_wp2_with fail
      refine (CP.out _ r0).mono ?_
      rintro e w3 ⟨v3, rfl, r3, b3⟩
      obtain ⟨a3, c3, e3, _⟩ := row_shape r3
      rw [List.length_map] at e3
      subst e3
      have FIN : Hid (NewE _ (t.b0, 0) (.returned (.tuple #[.slice a3 t.b0.length c3, .int .i64 0])) w3) := ⟨a3, c3, rfl, r3, b3⟩
      clear r3 b3 r0 CP
      go_wp2_with fail
      go_ret2
      exact FIN.out
    · rw [show 2 * (1 : Int).toNat = 2 from rfl] at PK
      rw [show t.fb 1 = t.b1 from rfl]
      obtain ⟨a, c, e, hc⟩ := row_shape h.r1
      rw [List.length_map] at e hc
      subst e
      have CP : Hid (∀ w, RdB w (.slice a t.b1.length c) t.b1 → Calls Tryd.prog 41 #[.slice a t.b1.length c] w (NewB w t.b1)) := fun w h => dcopied_at _ _ w (by have := ok.l1; omega) h
      have cb := h.blk.cell 2 _ rfl
      have r0 := h.r1.rd
      clear h ok
      go_enter Tryd.func78, Tryd.ntmps78
      go_wp2_with fail
      refine (PK.out _ c6).mono ?_
      rintro e w2 ⟨rfl, rfl⟩
      go_wp2_with fail
      refine (CP.out _ r0).mono ?_
      rintro e w3 ⟨v3, rfl, r3, b3⟩
      obtain ⟨a3, c3, e3, _⟩ := row_shape r3
      rw [List.length_map] at e3
      subst e3
      have FIN : Hid (NewE _ (t.b1, 0) (.returned (.tuple #[.slice a3 t.b1.length c3, .int .i64 0])) w3) := ⟨a3, c3, rfl, r3, b3⟩
      clear r3 b3 r0 CP
      go_wp2_with fail
      go_ret2
      exact FIN.out

set_option maxRecDepth 20000 in
set_option maxHeartbeats 1000000 in
theorem durable_at (R : Nat) (S : Nat → Prop) (t : Dk) (w : World) (n : Int) (h : DkAt R S t w) : Calls Tryd.prog 19 #[.pointer (some ⟨R, 0, none⟩), .int .i64 n] w (NewE w (t.durable n)) := by
  obtain ⟨ok, v0, v1, vq, h⟩ := h
  have HA : Hid (∀ w, Calls Tryd.prog 40 #[.pointer (some ⟨R, 0, none⟩), .int .i64 n] w fun e w' => e = .returned (.bool (decide (0 ≤ n ∧ n < 2))) ∧ w' = w) := fun w => has_at _ n w
  unfold Dk.durable
  by_cases hn : n = 0 ∨ n = 1
  · rw [decide_eq_true (by omega)] at HA
    rw [if_pos hn]
    rcases hn with rfl | rfl
    · rw [show t.fb 0 = t.b0 from rfl, show t.fd 0 = t.d0 from rfl]
      obtain ⟨a, c, e, hc⟩ := row_shape h.r0
      rw [List.length_map] at e hc
      subst e
      have hd := ok.d0
      have cb := h.blk.cell 0 _ rfl
      have cd := h.blk.cell 1 _ rfl
      have hlt := h.blk.lt
      have CP : Hid (∀ w, RdB w (.slice a t.d0 c) (t.b0.take t.d0) → Calls Tryd.prog 41 #[.slice a t.d0 c] w (NewB w (t.b0.take t.d0))) := fun w h => dcopied_at _ _ w (by have := ok.l0; rw [List.length_take]; omega) h
      have BA := below_alloc w (.cells #[.slice a t.b0.length c, .int .i64 (t.d0 : Int)] 63)
      have r0 : RdB (w.alloc (.cells #[.slice a t.b0.length c, .int .i64 (t.d0 : Int)] 63)) (.slice a t.d0 c) (t.b0.take t.d0) := by
        have := Rd.cut (Rd.later h.r0.rd BA) (k := t.d0) hd
        rw [← List.map_take] at this; exact this
      have hdc : t.d0 ≤ c := by omega
      clear h ok
      generalize t.b0.take t.d0 = bt at *
      go_enter Tryd.func19, Tryd.ntmps19
      go_wp2_with fail
      refine (HA.out _).mono ?_
      rintro e w2 ⟨rfl, rfl⟩
      go_wp2_with fail
      refine (CP.out _ r0).mono ?_
      rintro e w3 ⟨v3, rfl, r3, b3⟩
      obtain ⟨a3, c3, e3, _⟩ := row_shape r3
      rw [List.length_map] at e3
      subst e3
      have FIN : Hid (NewE _ (bt, 0) (.returned (.tuple #[.slice a3 bt.length c3, .int .i64 0])) w3) := ⟨a3, c3, rfl, r3.mono BA.size, below_trans BA b3⟩
      clear r3 b3 r0 CP BA
      go_wp2_with fail
      go_ret2
      exact FIN.out
    · rw [show t.fb 1 = t.b1 from rfl, show t.fd 1 = t.d1 from rfl]
      obtain ⟨a, c, e, hc⟩ := row_shape h.r1
      rw [List.length_map] at e hc
      subst e
      have hd := ok.d1
      have cb := h.blk.cell 2 _ rfl
      have cd := h.blk.cell 3 _ rfl
      have hlt := h.blk.lt
      have CP : Hid (∀ w, RdB w (.slice a t.d1 c) (t.b1.take t.d1) → Calls Tryd.prog 41 #[.slice a t.d1 c] w (NewB w (t.b1.take t.d1))) := fun w h => dcopied_at _ _ w (by have := ok.l1; rw [List.length_take]; omega) h
      have BA := below_alloc w (.cells #[.slice a t.b1.length c, .int .i64 (t.d1 : Int)] 63)
      have r0 : RdB (w.alloc (.cells #[.slice a t.b1.length c, .int .i64 (t.d1 : Int)] 63)) (.slice a t.d1 c) (t.b1.take t.d1) := by
        have := Rd.cut (Rd.later h.r1.rd BA) (k := t.d1) hd
        rw [← List.map_take] at this; exact this
      have hdc : t.d1 ≤ c := by omega
      clear h ok
      generalize t.b1.take t.d1 = bt at *
      go_enter Tryd.func19, Tryd.ntmps19
      go_wp2_with fail
      refine (HA.out _).mono ?_
      rintro e w2 ⟨rfl, rfl⟩
      go_wp2_with fail
      refine (CP.out _ r0).mono ?_
      rintro e w3 ⟨v3, rfl, r3, b3⟩
      obtain ⟨a3, c3, e3, _⟩ := row_shape r3
      rw [List.length_map] at e3
      subst e3
      have FIN : Hid (NewE _ (bt, 0) (.returned (.tuple #[.slice a3 bt.length c3, .int .i64 0])) w3) := ⟨a3, c3, rfl, r3.mono BA.size, below_trans BA b3⟩
      clear r3 b3 r0 CP BA
      go_wp2_with fail
      go_ret2
      exact FIN.out
  · rw [decide_eq_false (by omega)] at HA
    rw [if_neg hn]
    clear h ok
    go_enter Tryd.func19, Tryd.ntmps19
    go_wp2_with fail
    refine (HA.out _).mono ?_
    rintro e w2 ⟨rfl, rfl⟩
    go_wp2_with fail
    go_ret2
    exact NewE.nil _ _

theorem wpList_pushQ {P : Program} {wr : World} {ops : Array Oper} {rest : List Oper} {o : Oper} {a : Act} {Q : Exit → Act → World → Prop} (hgd : o.guard = none) (s x : Operand) (t : TypeId)
    (ho : o.op = .call { callee := .builtin .append, args := #[s, x], argTypes := #[t, t] })
    (i : TypeInfo) (ht : P.underlying t = some (.slice 82)) (hi : P.info? 82 = some i) (hz : i.zero = some (.agg #[.int .i64 0, .int .i64 0])) (hsize : i.size = 2) (hby : i.bytes = 16)
    (v : Value) (q : List (Int × Int)) (A K : Int) (hs : a.eval s = v) (hown : RowQ wr v q) (hx : a.eval x = .slice (some ⟨wr.heap.size, 0, none⟩) 1 1) (hl : q.length ≤ 64)
    (h : ∀ v' w', RowQ w' v' (q ++ [(A, K)]) → wr.grownBy w' v.ownBlock → (∀ g, v'.ownBlock = some g → v.ownBlock = some g ∨ wr.heap.size ≤ g) → wpList P ops Q rest (a.put o.dst v') w') :
    wpList P ops Q (o :: rest) a (wr.alloc (.cells #[.int .i64 A, .int .i64 K] 82)) := by
  have BA := below_alloc wr (.cells #[.int .i64 A, .int .i64 K] 82)
  have hc : ∀ j u, [Value.int .i64 A, Value.int .i64 K][j]? = some u → (wr.alloc (.cells #[.int .i64 A, .int .i64 K] 82)).cell? ((⟨wr.heap.size, 0, none⟩ : Addr).add j) = some u := fun j u hj => by
    have hb := Blk.new 82 [.int .i64 A, .int .i64 K] wr
    rw [Addr.add_lit, Nat.zero_add]
    exact hb.cell j u hj
  have h1c : ∀ u ∈ [Value.int .i64 A, Value.int .i64 K], u.oneCell' = true := fun u hu => by simp at hu; rcases hu with rfl | rfl <;> rfl
  have qa : qv (q ++ [(A, K)]) = qv q ++ [.int .i64 A, .int .i64 K] := by simp [qv]
  have own2 : RowQ (wr.alloc (.cells #[.int .i64 A, .int .i64 K] 82)) v q := RowQ.kp hown (Kp.of_below BA (fun _ => False)) (fun _ _ h => h)
  have gro : ∀ {w' : World} {row : Option Nat}, (wr.alloc (.cells #[.int .i64 A, .int .i64 K] 82)).grownBy w' row → wr.grownBy w' row := fun gr => grownBy_trans (grownBy_below BA _) gr
  have fresh : ∀ v' w', w'.ownsRow (wr.alloc (.cells #[.int .i64 A, .int .i64 K] 82)).heap.size 82 2 v' (q.length + 1) (qv q ++ [.int .i64 A, .int .i64 K]) → (wr.alloc (.cells #[.int .i64 A, .int .i64 K] 82)).grownBy w' none → wpList P ops Q rest (a.put o.dst v') w' := by
    intro v' w' r1 gr
    have r2 : RowQ w' v' (q ++ [(A, K)]) := by
      refine ⟨by rw [qv_len], ?_⟩
      rw [qa, List.length_append]
      rcases r1.2 with hn | ⟨g, cap, cur, hv, hg, rest⟩
      · exact .inl hn
      · exact .inr ⟨g, cap, cur, hv, Nat.zero_le _, rest⟩
    exact h v' w' r2 (grownBy_none (gro gr) _) fun g hg => .inr (by have := (World.ownsRow.lt r1 g hg).1; have := BA.size; omega)
  rcases own2.2 with ⟨rfl, h0⟩ | ⟨g, cap, cur, rfl, hb, hg, hn, hm, hcs, htk⟩
  · have x0 : q = [] := List.eq_nil_of_length_eq_zero h0
    subst x0
    exact wpList_append_grows _ hgd s x t ho 82 i _ 2 16 ht hi hz hsize hby rfl (by decide) none 0 0 [] hs (fun _ => ⟨rfl, rfl⟩) rfl (fun b hb => by cases hb) ⟨wr.heap.size, 0, none⟩ 1 1 _ hx (by rfl) hc h1c (by omega) (by decide) (by decide) fresh
  · by_cases hr : q.length + 1 ≤ cap
    · refine wpList_append_fits _ hgd s x t ho 0 82 i 2 ht hi hsize g q.length cap (qv q) hs own2 ⟨wr.heap.size, 0, none⟩ 1 1 _ hx rfl hc h1c hr fun w' r1 gr => ?_
      refine h _ w' ?_ (gro gr) fun g' h1 => .inl h1
      unfold RowQ
      rw [qa, List.length_append]
      exact r1
    · refine wpList_append_grows _ hgd s x t ho 82 i _ 2 16 ht hi hz hsize hby rfl (by decide) (some ⟨g, 0, none⟩) q.length cap (qv q) hs (fun h => by cases h) (qv_len q) (fun b hb => ?_) ⟨wr.heap.size, 0, none⟩ 1 1 _ hx rfl hc h1c (by omega) (by unfold maxLen; omega) (by omega) fresh
      cases hb
      exact fun j u hj => World.ownsRow.cells own2 rfl j u hj

set_option maxRecDepth 20000 in
set_option maxHeartbeats 1000000 in
theorem arm_at (R : Nat) (S : Nat → Prop) (t : Dk) (w : World) (a k : Int) (h : DkAt R S t w) : Calls Tryd.prog 25 #[.pointer (some ⟨R, 0, none⟩), .int .i64 a, .int .i64 k] w fun e w' => e = .returned (.int .i64 (t.arm a k).2) ∧ DkPost R S w (t.arm a k).1 w' := by
  have SM : Hid (DkPost R S w t w) := DkPost.same h
  unfold Dk.arm
  by_cases hb : a < 1 ∨ 1000000 < a ∨ k < 0 ∨ 16777216 < k
  · rw [if_pos hb]
    clear h
    by_cases h1 : a < 1
    · have d1 : decide (a < 1) = true := decide_eq_true h1
      go_enter Tryd.func25, Tryd.ntmps25
      go_wp2_with fail
      go_ret
      exact ⟨rfl, SM.out⟩
    · have d1 : decide (a < 1) = false := decide_eq_false h1
      by_cases h2 : 1000000 < a
      · have d2 : decide (1000000 < a) = true := decide_eq_true h2
        go_enter Tryd.func25, Tryd.ntmps25
        go_wp2_with fail
        go_ret
        exact ⟨rfl, SM.out⟩
      · have d2 : decide (1000000 < a) = false := decide_eq_false h2
        by_cases h3 : k < 0
        · have d3 : decide (k < 0) = true := decide_eq_true h3
          go_enter Tryd.func25, Tryd.ntmps25
          go_wp2_with fail
          go_ret
          exact ⟨rfl, SM.out⟩
        · have d3 : decide (k < 0) = false := decide_eq_false h3
          have d4 : decide (16777216 < k) = true := decide_eq_true (by omega)
          go_enter Tryd.func25, Tryd.ntmps25
          go_wp2_with fail
          go_ret
          exact ⟨rfl, SM.out⟩
  · rw [if_neg hb]
    have d1 : decide (a < 1) = false := decide_eq_false (by omega)
    have d2 : decide (1000000 < a) = false := decide_eq_false (by omega)
    have d3 : decide (k < 0) = false := decide_eq_false (by omega)
    have d4 : decide (16777216 < k) = false := decide_eq_false (by omega)
    obtain ⟨ok, v0, v1, vq, h⟩ := h
    obtain ⟨aq, cq, rfl⟩ : ∃ a c, vq = .slice a t.q.length c := by
      rcases h.rq.2 with ⟨e, e0⟩ | ⟨g, cap, cur, e, _⟩
      · rw [e0]; exact ⟨_, _, e⟩
      · exact ⟨_, _, e⟩
    have c4 := h.blk.cell 4 _ rfl
    by_cases hq : t.q.length = 64
    · rw [if_pos hq]
      have e1 : ((t.q.length : Int) == 64) = true := by simp; omega
      clear h ok hb
      go_enter Tryd.func25, Tryd.ntmps25
      go_wp2_with fail
      go_ret
      exact ⟨rfl, SM.out⟩
    · rw [if_neg hq]
      have e1 : ((t.q.length : Int) == 64) = false := by simp; omega
      obtain ⟨i0, hi, hz0, hz1, hz2⟩ := info_parts infoC
      have rq := h.rq
      have okq := ok.q
      have OK2 : Hid (({ t with q := t.q ++ [(a, k)] } : Dk).Ok) := ⟨ok.d0, ok.l0, ok.d1, ok.l1, by show (t.q ++ [(a, k)]).length ≤ 64; rw [List.length_append]; simp; omega, fun c hc => by
        rcases List.mem_append.1 hc with hc | hc
        · exact ok.qe c hc
        · simp at hc; subst hc; exact ⟨by show 1 ≤ a; omega, by show a ≤ _; omega, by show 0 ≤ k; omega, by show k ≤ _; omega⟩⟩
      have H : Hid (DkV R S t v0 v1 (.slice aq t.q.length cq) w) := h
      have fr4 := h.blk.fz 4
      have bR := h.blk
      have HS : Hid (∀ g, (Value.slice aq t.q.length cq).ownBlock = some g → g ≠ R) := fun g hg => (h.sq g hg).2.1
      clear h ok hb
      go_enter Tryd.func25, Tryd.ntmps25
      go_wp2_with (
        at_builtin
        refine wpList_pushQ rfl (.tmp 31) (.tmp 35) 65 rfl i0 underC hi hz0 hz1 hz2 _ t.q a k rfl rq rfl okq ?_
        intro v' w3 r3 g3 n3
        obtain ⟨a', m', c', rfl⟩ : ∃ a' m' c', v' = .slice a' m' c' := by
          rcases r3.2 with ⟨e, _⟩ | ⟨g, cap, cur, e, _⟩
          · exact ⟨_, _, _, e⟩
          · exact ⟨_, _, _, e⟩
        have k3 := Kp.of_grown g3
        have b3 := bR.kp k3 (fun e => HS.out R e rfl)
        have l4 := b3.cell 4 _ rfl
        have f4 := b3.fz 4)
      go_ret
      have k4 := setCell_kp w3 R 4 (.slice a' m' c')
      have h := H.out
      have kk : Kp S w w3 := k3.mono (fun g _ e => (h.sq g e).1)
      have b4 : Blk R 67 _ _ := Blk.set (i := 4) b3 (.slice a' m' c')
      have nR : ∀ g, (Value.slice a' m' c').ownBlock = some g → g ≠ R := fun g hg e => by
        rcases n3 g hg with h1 | h1
        · exact HS.out g h1 e
        · have := h.blk.lt; omega
      refine ⟨rfl, fun g => S g ∨ (w.heap.size ≤ g ∧ g < w3.heap.size), ⟨OK2.out, v0, v1, .slice a' m' c', b4, (h.r0.kp k3 (fun g hg e => (h.sq g e).2.2.1 hg)).kp k4 (fun g hg => (h.s0 g hg).2), (h.r1.kp k3 (fun g hg e => (h.sq g e).2.2.2 hg)).kp k4 (fun g hg => (h.s1 g hg).2.1), RowQ.kp r3 k4 nR, fun g hg => ?_, .inl h.sR, fun g hg => ⟨.inl (h.s0 g hg).1, (h.s0 g hg).2⟩, fun g hg => ⟨.inl (h.s1 g hg).1, (h.s1 g hg).2⟩, fun g hg => ⟨?_, nR g hg, fun e => ?_, fun e => ?_⟩⟩, fun g hg => hg.imp id (fun h => h.1), kk.trans k4 (fun g _ e => e ▸ h.sR)⟩
      · refine Nat.lt_of_lt_of_le ?_ k4.size
        rcases hg with hg | hg
        · exact Nat.lt_of_lt_of_le (h.s g hg) k3.size
        · exact hg.2
      · rcases n3 g hg with h1 | h1
        · exact .inl (h.sq g h1).1
        · exact .inr ⟨h1, (World.ownsRow.lt r3 g hg).2⟩
      · rcases n3 g hg with h1 | h1
        · exact (h.sq g h1).2.2.1 e
        · have := h.s g (h.s0 g e).1; omega
      · rcases n3 g hg with h1 | h1
        · exact (h.sq g h1).2.2.2 e
        · have := h.s g (h.s1 g e).1; omega

set_option maxRecDepth 20000 in
theorem disarm_at (R : Nat) (S : Nat → Prop) (t : Dk) (w : World) (h : DkAt R S t w) : Calls Tryd.prog 26 #[.pointer (some ⟨R, 0, none⟩)] w fun e w' => e = .returned (.tuple #[]) ∧ DkPost R S w { t with q := [] } w' := by
  obtain ⟨ok, v0, v1, vq, h⟩ := h
  have c4 := h.blk.cell 4 _ rfl
  have f4 := h.blk.fz 4
  have H : Hid (t.Ok ∧ DkV R S t v0 v1 vq w) := ⟨ok, h⟩
  clear h ok
  go_enter Tryd.func26, Tryd.ntmps26
  go_wp2_with fail
  go_end0
  obtain ⟨ok, h⟩ := H.out
  obtain ⟨x0, x1, x2, x3⟩ := h.store 4 (.slice none 0 0)
  exact ⟨rfl, S, ⟨⟨ok.d0, ok.l0, ok.d1, ok.l1, by simp, fun c hc => by simp at hc⟩, v0, v1, .slice none 0 0, Blk.set (i := 4) h.blk (.slice none 0 0), x0, x1, ⟨rfl, .inl ⟨rfl, rfl⟩⟩, x3, h.sR, h.s0, h.s1, fun g hg => by cases hg⟩, fun g hg => .inl hg, (setCell_kp w R 4 _).mono (fun g _ e => e ▸ h.sR)⟩

set_option maxRecDepth 20000 in
theorem restart_at (R : Nat) (S : Nat → Prop) (t : Dk) (w : World) (h : DkAt R S t w) : Calls Tryd.prog 28 #[.pointer (some ⟨R, 0, none⟩)] w fun e w' => e = .returned (.int .i64 t.restart.2) ∧ DkPost R S w t.restart.1 w' := by
  have SM : Hid (DkPost R S w t w) := DkPost.same h
  obtain ⟨ok, v0, v1, vq, h⟩ := h
  have c6 := h.blk.cell 6 _ rfl
  have f6 := h.blk.fz 6
  have H : Hid (t.Ok ∧ DkV R S t v0 v1 vq w) := ⟨ok, h⟩
  clear h ok
  unfold Dk.restart
  cases hd : t.dn with
  | true =>
    rw [hd] at c6
    rw [if_pos rfl]
    clear hd SM
    go_enter Tryd.func28, Tryd.ntmps28
    go_wp2_with fail
    go_ret
    obtain ⟨ok, h⟩ := H.out
    obtain ⟨x0, x1, x2, x3⟩ := h.store 6 (.bool false)
    exact ⟨rfl, S, ⟨⟨ok.d0, ok.l0, ok.d1, ok.l1, ok.q, ok.qe⟩, v0, v1, vq, Blk.set (i := 6) h.blk (.bool false), x0, x1, x2, x3, h.sR, h.s0, h.s1, h.sq⟩, fun g hg => .inl hg, (setCell_kp w R 6 _).mono (fun g _ e => e ▸ h.sR)⟩
  | false =>
    rw [hd] at c6
    rw [if_neg (by simp)]
    clear hd H
    go_enter Tryd.func28, Tryd.ntmps28
    go_wp2_with fail
    go_ret
    exact ⟨rfl, SM.out⟩

set_option maxRecDepth 20000 in
theorem down_at (R : Nat) (S : Nat → Prop) (t : Dk) (w : World) (h : DkAt R S t w) : Calls Tryd.prog 27 #[.pointer (some ⟨R, 0, none⟩)] w fun e w' => e = .returned (.bool t.dn) ∧ w' = w := by
  obtain ⟨ok, v0, v1, vq, h⟩ := h
  have c6 := h.blk.cell 6 _ rfl
  clear h ok
  go_enter Tryd.func27, Tryd.ntmps27
  go_wp2_with fail
  go_ret
  exact ⟨rfl, rfl⟩

set_option maxRecDepth 20000 in
theorem writes_at (R : Nat) (S : Nat → Prop) (t : Dk) (w : World) (h : DkAt R S t w) : Calls Tryd.prog 11 #[.pointer (some ⟨R, 0, none⟩)] w fun e w' => e = .returned (.int .i64 t.wr) ∧ w' = w := by
  obtain ⟨ok, v0, v1, vq, h⟩ := h
  have c5 := h.blk.cell 5 _ rfl
  clear h ok
  go_enter Tryd.func11, Tryd.ntmps11
  go_wp2_with fail
  go_ret
  exact ⟨rfl, rfl⟩
end Go.Proofs.YtcmfehabcklbpaaDoor
