/-
  Ours: the reference's disk: what its writes leave, as data; counted.
-/
import Derived.Test.YtiefnomldfhhnaaDskRf4
namespace Go.Proofs.Ytiefnomldfhhnaa
open Go.RowKit

theorem RfV.cast {T : Nat → Prop} {t t' : Dk} {x0 x1 p0 p1 xa : Sl} {cn : Int} {w : World} (h : RfV T t x0 x1 p0 p1 xa cn w) (e0 : t'.b0 = t.b0) (e1 : t'.d0 = t.d0) (e2 : t'.b1 = t.b1) (e3 : t'.d1 = t.d1) (e4 : t'.q = t.q) : RfV T t' x0 x1 p0 p1 xa cn w := by
  refine ⟨?_, ?_, ?_, ?_, ?_, h.s, h.t0, h.t1, h.t2, h.t3, h.t4⟩
  · rw [e0, e1]; exact h.d0
  · rw [e2, e3]; exact h.d1
  · rw [e0, e1]; exact h.q0
  · rw [e2, e3]; exact h.q1
  · rw [e4]; exact h.ar
theorem RfNew.cast {T : Nat → Prop} {w w' : World} {t t' : Dk} {x0 x1 p0 p1 xa : Sl} {cn : Int} (h : RfNew T w t x0 x1 p0 p1 xa cn w') (e0 : t'.b0 = t.b0) (e1 : t'.d0 = t.d0) (e2 : t'.b1 = t.b1) (e3 : t'.d1 = t.d1) (e4 : t'.q = t.q) : RfNew T w t' x0 x1 p0 p1 xa cn w' := by
  obtain ⟨T', h1, h2, h3⟩ := h
  exact ⟨T', h1.cast e0 e1 e2 e3 e4, h2, h3⟩
theorem RfNew.pre {T T' : Nat → Prop} {w w1 w' : World} {t : Dk} {x0 x1 p0 p1 xa : Sl} {cn : Int} (h : RfNew T' w1 t x0 x1 p0 p1 xa cn w') (hb : Below w.heap.size w w1) (hT : ∀ g, T' g → T g ∨ w.heap.size ≤ g) : RfNew T w t x0 x1 p0 p1 xa cn w' := by
  obtain ⟨T2, h1, h2, h3⟩ := h
  exact ⟨T2, h1, fun g hg => (h2 g hg).elim (hT g) (fun h => .inr (Nat.le_trans hb.size h)), below_trans hb h3⟩
theorem RfNew.below {T : Nat → Prop} {w w' w'' : World} {t : Dk} {x0 x1 p0 p1 xa : Sl} {cn : Int} (h : RfNew T w t x0 x1 p0 p1 xa cn w') (hb : Below w'.heap.size w' w'') : RfNew T w t x0 x1 p0 p1 xa cn w'' := by
  obtain ⟨T2, h1, h2, h3⟩ := h
  exact ⟨T2, h1.below hb, h2, below_trans h3 hb⟩
theorem RfV.new {T : Nat → Prop} {t : Dk} {x0 x1 p0 p1 xa : Sl} {cn : Int} {w w' : World} (h : RfV T t x0 x1 p0 p1 xa cn w) (hb : Below w.heap.size w w') : RfNew T w t x0 x1 p0 p1 xa cn w' := ⟨T, h.below hb, fun _ h => .inl h, hb⟩
/-- A block that is none of the disk's may change. -/
theorem RfNew.grown {T : Nat → Prop} {w w' w'' : World} {t : Dk} {x0 x1 p0 p1 xa : Sl} {cn : Int} {G : Nat} (h : ∃ T', RfV T' t x0 x1 p0 p1 xa cn w' ∧ (∀ g, T' g → T g ∨ w.heap.size ≤ g) ∧ Below w.heap.size w w' ∧ ¬ T' G) (hg : w'.grownBy w'' (some G)) (hG : w.heap.size ≤ G) : RfNew T w t x0 x1 p0 p1 xa cn w'' := by
  obtain ⟨T2, h1, h2, h3, h4⟩ := h
  exact ⟨T2, h1.kp (Kp.of_grown hg) (fun g hg e => by injection e with e; subst e; exact h4 hg), h2, grownBy_to_below h3 hg hG⟩

theorem fb_row {T : Nat → Prop} {t : Dk} {x0 x1 p0 p1 xa : Sl} {cn : Int} {w : World} (h : RfV T t x0 x1 p0 p1 xa cn w) {n : Int} (hn : n = 0 ∨ n = 1) : RowB 5 0 w (if n = 0 then x0 else x1).v ((t.fb n).take (t.fd n)) ∧ RowB 5 0 w (if n = 0 then p0 else p1).v ((t.fb n).drop (t.fd n)) := by
  unfold Dk.fb Dk.fd
  rcases hn with rfl | rfl
  · exact ⟨h.d0, h.q0⟩
  · exact ⟨h.d1, h.q1⟩
/-- A file laid anew: its durable bytes in the row s, its pending ones in the row o. -/
theorem RfV.put {T : Nat → Prop} {t : Dk} {x0 x1 p0 p1 xa s o : Sl} {cn : Int} {w w' : World} {n : Int} (hn : n = 0 ∨ n = 1) (h : RfV T t x0 x1 p0 p1 xa cn w) (hb : Below w.heap.size w w') {b : List Nat} {d : Nat} (hs : RowB 5 0 w' s.v (b.take d)) (ho : RowB 5 0 w' o.v (b.drop d))
    (bs : ∀ g, s.v.ownBlock = some g → T g ∨ (w.heap.size ≤ g ∧ g < w'.heap.size)) (bo : ∀ g, o.v.ownBlock = some g → T g ∨ (w.heap.size ≤ g ∧ g < w'.heap.size)) :
    RfNew T w (t.put n b d) (if n = 0 then s else x0) (if n = 0 then x1 else s) (if n = 0 then o else p0) (if n = 0 then p1 else o) xa cn w' := by
  have k := h.below hb
  rcases hn with rfl | rfl
  · exact RfNew.mk (t := t.put 0 b d) h.s hb hs k.d1 ho k.q1 k.ar bs (fun g hg => .inl (h.t1 g hg)) bo (fun g hg => .inl (h.t3 g hg)) (fun g hg => .inl (h.t4 g hg))
  · exact RfNew.mk (t := t.put 1 b d) h.s hb k.d0 hs k.q0 ho k.ar (fun g hg => .inl (h.t0 g hg)) bs (fun g hg => .inl (h.t2 g hg)) bo (fun g hg => .inl (h.t4 g hg))

theorem rf_app {T : Nat → Prop} {t : Dk} {x0 x1 p0 p1 xa du o X0 X1 P0 P1 : Sl} {cn : Int} {w w' : World} {n : Int} {B : Nat} {ds : List Nat} (hn : n = 0 ∨ n = 1) (h : RfV T t x0 x1 p0 p1 xa cn w) (hb : Below w.heap.size w w') (hB : w.heap.size ≤ B) (ho : RowB 5 B w' o.v ((t.fb n).drop (t.fd n) ++ ds)) (ok : t.Ok)
    (hdu : (if n = 0 then x0 else x1) = du) (e : (if n = 0 then du else x0) = X0 ∧ (if n = 0 then x1 else du) = X1 ∧ (if n = 0 then o else p0) = P0 ∧ (if n = 0 then p1 else o) = P1) : RfNew T w (t.put n (t.fb n ++ ds) (t.fd n)) X0 X1 P0 P1 xa cn w' := by
  have k := h.below hb
  have h0 := ok.d0
  have h1 := ok.d1
  rcases hn with rfl | rfl
  · simp only [if_true] at hdu e
    obtain ⟨rfl, rfl, rfl, rfl⟩ := e
    subst hdu
    refine RfNew.mk (t := t.put 0 (t.b0 ++ ds) t.d0) h.s hb ?_ k.d1 ?_ k.q1 k.ar (fun g hg => .inl (h.t0 g hg)) (fun g hg => .inl (h.t1 g hg)) (new_block ho hB) (fun g hg => .inl (h.t3 g hg)) (fun g hg => .inl (h.t4 g hg))
    · show RowB _ 0 w' x0.v ((t.b0 ++ ds).take t.d0)
      rw [List.take_append_of_le_length h0]; exact k.d0
    · show RowB _ 0 w' o.v ((t.b0 ++ ds).drop t.d0)
      rw [List.drop_append_of_le_length h0]; exact ho.mono (Nat.zero_le _)
  · simp only [show ¬ ((1 : Int) = 0) by decide, if_false] at hdu e
    obtain ⟨rfl, rfl, rfl, rfl⟩ := e
    subst hdu
    refine RfNew.mk (t := t.put 1 (t.b1 ++ ds) t.d1) h.s hb k.d0 ?_ k.q0 ?_ k.ar (fun g hg => .inl (h.t0 g hg)) (fun g hg => .inl (h.t1 g hg)) (fun g hg => .inl (h.t2 g hg)) (new_block ho hB) (fun g hg => .inl (h.t4 g hg))
    · show RowB _ 0 w' x1.v ((t.b1 ++ ds).take t.d1)
      rw [List.take_append_of_le_length h1]; exact k.d1
    · show RowB _ 0 w' o.v ((t.b1 ++ ds).drop t.d1)
      rw [List.drop_append_of_le_length h1]; exact ho.mono (Nat.zero_le _)
theorem wrap_id (x : Int) (h1 : -9223372036854775808 ≤ x) (h2 : x < 9223372036854775808) : IntKind.i64.wrap x = x := by
  simp [IntKind.wrap, IntKind.bits, IntKind.signed]
  omega
theorem put_ok {t : Dk} (ok : t.Ok) {n : Int} (hn : n = 0 ∨ n = 1) {b : List Nat} {d : Nat} (hd : d ≤ b.length) (hl : b.length ≤ 16777216) : (t.put n b d).Ok := by
  unfold Dk.put
  rcases hn with rfl | rfl
  · exact ⟨hd, hl, ok.d1, ok.l1, ok.q, ok.qe⟩
  · exact ⟨ok.d0, ok.l0, hd, hl, ok.q, ok.qe⟩

/-- counted, at a disk: it stays up, or goes down. -/
theorem rcounted_at {T : Nat → Prop} {t : Dk} {x0 x1 p0 p1 xa : Sl} {cn : Int} {w : World} (h : RfV T t x0 x1 p0 p1 xa cn w) (ok : t.Ok) (hw : 0 ≤ t.wr ∧ t.wr < 4611686018427387904) :
    ∃ cm fl, (Calls Try.prog 50 #[.agg (RV x0 x1 p0 p1 xa cn t.dn t.wr).toArray] w fun e w' => e = .returned (.tuple #[.agg (RV x0 x1 p0 p1 xa cm t.dn (t.wr + 1)).toArray, .bool fl]) ∧ Below w.heap.size w w') ∧
      ((fl = false ∧ t.write.2 = 0 ∧ (∀ T' w', RfV T' t x0 x1 p0 p1 xa cn w' → RfV T' t.write.1 x0 x1 p0 p1 xa cm w') ∧ t.write.1.dn = t.dn ∧ t.write.1.wr = t.wr + 1 ∧ t.write.1.b0 = t.b0 ∧ t.write.1.d0 = t.d0 ∧ t.write.1.b1 = t.b1 ∧ t.write.1.d1 = t.d1) ∨
       (fl = true ∧ t.write.2 = 51 ∧ t.write.1.dn = true ∧ t.write.1.wr = t.wr + 1 ∧ ∃ (k : Nat), (∃ c r, c.2 = (k : Int) ∧ k ≤ 16777216 ∧ t.q = c :: r ∧ (∀ x ∈ r, 1 ≤ x.1 ∧ x.1 ≤ 1000000)) ∧ (t.write.1.b0 = (t.down k).b0 ∧ t.write.1.d0 = (t.down k).d0 ∧ t.write.1.b1 = (t.down k).b1 ∧ t.write.1.d1 = (t.down k).d1 ∧ t.write.1.q = (t.down k).q))) := by
  obtain ⟨ar, ra, ca⟩ := h.ar
  cases ar with
  | nil =>
    have hq : t.q = [] := ca.1
    refine ⟨cn, false, rcounted_nil x0 x1 p0 p1 xa cn t.dn t.wr w (rowA_n ra) hw, .inl ?_⟩
    rw [Dk.write_nil hq]
    exact ⟨rfl, rfl, fun T' w' h' => h'.cast rfl rfl rfl rfl rfl, rfl, rfl, rfl, rfl, rfl, rfl⟩
  | cons c r =>
    obtain ⟨hq, hc0, hc1, hc2⟩ := ca
    obtain ⟨g, cp, hxa, _⟩ := rowA_at ra (by simp)
    subst hxa
    have hcell := (rowA_cell ra 0 c rfl).1
    have hlen : (c :: r).length ≤ 64 := by have := ok.q; rw [hq] at this; simpa using this
    have hqe := ok.qe (c.1 - cn, c.2) (by rw [hq]; simp)
    have hre : ∀ x ∈ r, 1 ≤ x.1 ∧ x.1 ≤ 1000000 := fun x hx => by have := ok.qe x (by rw [hq]; simp [hx]); omega
    refine ⟨cn + 1, (cn + 1 == c.1), rcounted_cons x0 x1 p0 p1 g _ cp cn t.dn t.wr c.1 w (by simp) hlen hcell hw ⟨hc0, by omega⟩, ?_⟩
    rw [Dk.write_cons hq]
    by_cases hf : cn + 1 = c.1
    · right
      rw [if_neg (by show ¬ 0 < c.1 - cn - 1; omega)]
      refine ⟨by simpa using hf, rfl, rfl, rfl, c.2.toNat, ⟨(c.1 - cn, c.2), r, by simp only; omega, by simp only at hqe; omega, hq, hre⟩, rfl, rfl, rfl, rfl, ?_⟩
      show r = t.q.tail
      rw [hq]; rfl
    · left
      rw [if_pos (by show 0 < c.1 - cn - 1; omega)]
      refine ⟨by simpa using hf, rfl, fun T' w' h' => ?_, rfl, rfl, rfl, rfl, rfl, rfl⟩
      have k : RfV T' { t.tick (c.1 - cn, c.2) r with q := t.q } x0 x1 p0 p1 ⟨some ⟨g, 0, none⟩, (c :: r).length, cp⟩ cn w' := h'.cast rfl rfl rfl rfl rfl
      refine ⟨k.d0, k.d1, k.q0, k.q1, ?_, k.s, k.t0, k.t1, k.t2, k.t3, k.t4⟩
      obtain ⟨ar2, ra2, ca2⟩ := h'.ar
      have n2 := rowA_n ra2
      cases ar2 with
      | nil => simp at n2
      | cons c2 r2 =>
        obtain ⟨hq2, z0, z1, z2⟩ := ca2
        rw [hq] at hq2
        injection hq2 with e1 e2
        injection e1 with e3 e4
        refine ⟨c2 :: r2, ra2, ?_, by omega, by omega, z2⟩
        show (c.1 - cn - 1, c.2) :: r = (c2.1 - (cn + 1), c2.2) :: r2
        rw [e2, e4, show c.1 - cn - 1 = c2.1 - (cn + 1) by omega]
end Go.Proofs.Ytiefnomldfhhnaa
