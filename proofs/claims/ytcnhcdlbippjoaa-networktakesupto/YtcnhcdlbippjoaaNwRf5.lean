/-
  Ours: the reference's handed, whole; its has.
-/
import Derived.Test.YtcnhcdlbippjoaaNwRf2
import Derived.Test.YtcnhcdlbippjoaaNwRf3
import Derived.Test.YtcnhcdlbippjoaaNwRf4
namespace Go.Proofs.Ytcnhcdlbippjoaa
open Go.RowKit NwM

theorem handed_at (C : Nat → Prop) (r : RNt) (p : Pk) (w : World) (v : Value) (h : RefAt C w r v) (hp : Bd C w p.ba p.bn p.bc p.bs) (hnow : r.now ≤ 1000000000) (hms : r.ms.length ≤ 1000000000) (hfs : ∀ f ∈ r.fs, isF f) :
    Calls Try.prog 41 #[v, .agg #[.bool p.ack, .int .i64 p.id, .slice p.ba p.bn p.bc, .int .i64 0, .int .i64 0]] w (HdAns C r p w) := by
  obtain ⟨aa, an, ac, fa, fn, fc, ma, mn, mc, rfl, h⟩ := h
  cases hf : r.fs with
  | nil => exact handed_nil C r p w aa an ac fa fn fc ma mn mc h hp hnow hms hf
  | cons f fs =>
    have hF : isF f := hfs f (by rw [hf]; exact List.mem_cons_self)
    by_cases h1 : fc = 1
    · rcases hF with hx | hx | ⟨ha, hb⟩
      · exact handed_x1 C r p w aa an ac fa fn fc ma mn mc h hp hnow hms f fs hx hf h1
      · exact handed_d1 C r p w aa an ac fa fn fc ma mn mc h hp hnow hms f fs hx hf h1
      · exact handed_n1 C r p w aa an ac fa fn fc ma mn mc h hp hnow hms f (f - 48) fs (by omega) (by omega) (by omega) hf h1
    · rcases hF with hx | hx | ⟨ha, hb⟩
      · exact handed_x2 C r p w aa an ac fa fn fc ma mn mc h hp hnow hms f fs hx hf h1
      · exact handed_d2 C r p w aa an ac fa fn fc ma mn mc h hp hnow hms f fs hx hf h1
      · exact handed_n2 C r p w aa an ac fa fn fc ma mn mc h hp hnow hms f (f - 48) fs (by omega) (by omega) (by omega) hf h1
namespace NwM
def rknown (r : RNt) (i : Int) : Bool := r.ac.any (fun a => a.id == i)
end NwM
set_option maxRecDepth 20000 in
set_option maxHeartbeats 2000000 in
theorem rhas_at (C : Nat → Prop) (r : RNt) (id : Int) (w : World) (v : Value) (h : RefAt C w r v) (hac : r.ac.length ≤ 1000000000) :
    Calls Try.prog 42 #[v, .int .i64 id] w fun e w' => e = .returned (.bool (rknown r id)) ∧ Below w.heap.size w w' := by
  obtain ⟨aa, an, ac, fa, fn, fc, ma, mn, mc, rfl, h⟩ := h
  obtain ⟨N, hN⟩ : ∃ N, r.ac.length = N := ⟨_, rfl⟩
  have HN : Hid (r.ac.length = N) := hN
  obtain rfl : an = N := by
    obtain ⟨_, _, ev, -⟩ := h.acc.len
    injection ev with _ ev _
    rw [ev, hN]
  have RA : Hid (RowA 0 w (.slice aa an ac) r.ac) := h.acc
  rw [hN] at hac
  clear hN h
  go_enter Try.func42, Try.ntmps42
  go_upto_region 1 with fail
  have D0 : Hid (Blk w.heap.size 34 [.int .i64 ((r.now : Nat) : Int), .slice aa an ac, .slice fa fn fc, .slice ma mn mc] (w.alloc (.cells #[.int .i64 ((r.now : Nat) : Int), .slice aa an ac, .slice fa fn fc, .slice ma mn mc] 34)) ∧ Below w.heap.size w (w.alloc (.cells #[.int .i64 ((r.now : Nat) : Int), .slice aa an ac, .slice fa fn fc, .slice ma mn mc] 34))) := ⟨Blk.new _ _ _, below_alloc _ _⟩
  have RB : Hid (RowA 0 (w.alloc (.cells #[.int .i64 ((r.now : Nat) : Int), .slice aa an ac, .slice fa fn fc, .slice ma mn mc] 34)) (.slice aa an ac) r.ac) := own_grown RA.out (grownBy_below D0.out.2 none) (fun _ _ => by simp)
  have KB : Hid (Below w.heap.size w (w.alloc (.cells #[.int .i64 ((r.now : Nat) : Int), .slice aa an ac, .slice fa fn fc, .slice ma mn mc] 34))) := D0.out.2
  obtain ⟨Q, hQ⟩ : ∃ Q, w.heap.size = Q := ⟨_, rfl⟩
  rw [hQ] at D0 ⊢
  clear hQ RA
  generalize w.alloc (.cells #[.int .i64 ((r.now : Nat) : Int), .slice aa an ac, .slice fa fn fc, .slice ma mn mc] 34) = w1 at *
  have q1 := D0.out.1.cell 1 _ rfl
  have lQ := D0.out.1.lt
  go_wp2_with fail
  go_loopw [5] (fun vk wr => ∃ k : Nat, vk = .int .i64 (k : Int) ∧ k ≤ an ∧ w1 = wr ∧ Hid (∀ j x, j < k → r.ac[j]? = some x → x.id ≠ id)) (fun vk _ => an - (intOf vk).toNat)
  case atStart => exact ⟨0, rfl, by omega, rfl, fun j x hj => by omega⟩
  case round =>
    obtain ⟨k, rfl, hk, rfl, NO⟩ := hrel
    by_cases hlt : (k : Int) < (an : Int)
    · obtain ⟨x, hx⟩ : ∃ x, r.ac[k]? = some x := ⟨r.ac[k]'(by rw [HN.out]; omega), List.getElem?_eq_getElem _⟩
      obtain ⟨g, cp, e, -, lg, -⟩ := RB.out.some (by rw [HN.out]; omega)
      rw [HN.out] at e
      injection e with e1 e2 e3
      subst e1 e3
      have y0 : w1.cell? ⟨g, k * 3, none⟩ = some (.int .i64 x.id) := by
        have := Row3.cell acL3 RB.out hx 0 _ rfl
        simpa using this
      have HX : Hid (r.ac[k]? = some x) := hx
      have hkN : k < an := by omega
      clear hx
      by_cases hid : x.id = id
      · have ea : Hid (rknown r id = true) := List.any_eq_true.2 ⟨x, List.mem_of_getElem? HX.out, by simp [hid]⟩
        have e1 : (x.id == id) = true := by simp [hid]
        clear hid
        go_wp2_with fail
        go_ret
        exact ⟨by rw [ea.out]; rfl, KB.out⟩
      · have e1 : (x.id == id) = false := by simp [hid]
        have HI : Hid (¬ x.id = id) := hid
        clear hid
        go_wp2_with fail
        go_roundw
        case rel =>
          refine ⟨k + 1, by go_num, by omega, trivial, fun j y hj hy => ?_⟩
          by_cases ej : j = k
          · subst ej
            rw [HX.out] at hy
            cases hy
            exact HI.out
          · exact NO.out j y (by omega) hy
        case measure => simp [intOf]; omega
    · have ea : Hid (rknown r id = false) := by
        show _ = _
        unfold rknown
        rw [List.any_eq_false]
        intro x hx
        obtain ⟨j, hj, rfl⟩ := List.getElem_of_mem hx
        have := NO.out j _ (by have := HN.out; omega) (List.getElem?_eq_getElem hj)
        simpa using this
      go_wp2_with fail
      go_ret
      exact ⟨by rw [ea.out]; rfl, KB.out⟩
end Go.Proofs.Ytcnhcdlbippjoaa
