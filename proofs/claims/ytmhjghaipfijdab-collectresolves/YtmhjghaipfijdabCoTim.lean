/-
  Ours: the statement's timed (gen_cotim.py).
-/
import Derived.Test.YtmhjghaipfijdabCoRow
namespace Go.Proofs.Ytmhjghaipfijdab
open Go.RowKit LedM PolM CoM

theorem evok_app {ls : List Ev} {e : Ev} (h : ∀ i, EvOk (eN ls i)) (he : EvOk e) (hz : EvOk ez) : ∀ i, EvOk (eN (ls ++ [e]) i) := fun i => by
  by_cases h1 : i < ls.length
  · have := h i
    simpa [eN, List.getD_eq_getElem?_getD, List.getElem?_append_left h1] using this
  · by_cases h2 : i = ls.length
    · subst h2; simpa [eN, List.getD_eq_getElem?_getD] using he
    · have : eN (ls ++ [e]) i = ez := by simp [eN, List.getD_eq_getElem?_getD, List.getElem?_append_right (show ls.length ≤ i by omega)]; rw [List.getElem?_eq_none (by simp; omega)]; rfl
      rw [this]; exact hz
theorem ez_okC : EvOk ez := ⟨⟨by decide, by decide⟩, ⟨by decide, by decide⟩, ⟨by decide, by decide⟩, ⟨by decide, by decide⟩⟩

/-- What timed answers. -/
def TimAns (N : Nat) (w : World) (e : Ending) (w' : World) : Prop := ∃ ao n cap ls, e = .returned (.slice ao n cap) ∧ RowE w.heap.size w' (.slice ao n cap) ls ∧ (∀ i, EvOk (eN ls i)) ∧ ls.length ≤ N ∧ Below w.heap.size w w'
set_option maxRecDepth 20000 in
set_option maxHeartbeats 4000000 in
theorem timed_at (first : Int) (v : Value) (es : List Ev) (w : World) (hf : 0 ≤ first ∧ first < 3652059) (er : RdV w v es) (hE : es.length ≤ 4398046511104) (okE : ∀ i, EvOk (eN es i)) :
    Calls Try.prog 9 #[.int .i64 first, v] w (TimAns es.length w) := by
  obtain ⟨ao, cap, rfl, hcap, hno, er'⟩ := er
  have EC : Hid (∀ k, k < es.length → ∃ g o, ao = some ⟨g, o, none⟩ ∧ g < w.heap.size ∧ w.rangeAt g (o + k * 4) (evL (eN es k))) := er'
  have OK : Hid (∀ k, EvOk (eN es k)) := okE
  clear er' okE hno
  generalize es.length = N at *
  go_enter Try.func9, Try.ntmps9
  go_wp2_with fail
  go_loopw [5, 6, 7, 8] (fun v5 v6 v7 _ wr => ∃ (k : Nat) (day : Int) (a5 : Option Addr) (n5 c5 : Nat) (ls : List Ev), v7 = .int .i64 (k : Int) ∧ k ≤ N ∧ v6 = .int .i64 day ∧ (0 ≤ day ∧ day ≤ 3652059) ∧ v5 = .slice a5 n5 c5 ∧ ls.length ≤ k ∧ Hid (∀ i, EvOk (eN ls i)) ∧ Hid (RowE w.heap.size wr (.slice a5 n5 c5) ls) ∧ Hid (Below w.heap.size w wr)) (fun _ _ v7 _ _ => N - (intOf v7).toNat)
  case atStart => exact ⟨0, first, none, 0, 0, [], rfl, by omega, rfl, ⟨by omega, by omega⟩, rfl, Nat.le_refl _, fun i => by simpa [eN] using ez_okC, RowE.nil _ _, Below.refl _ _⟩
  case round =>
    obtain ⟨k, day, a5, n5, c5, ls, rfl, hk, rfl, hday, rfl, hls, LO, RW, BW⟩ := hrel
    by_cases hlt : (k : Int) < (N : Int)
    · obtain ⟨g, o, rfl, lt, rg⟩ := EC.out k (by omega)
      have RG : Hid (wr.rangeAt g (o + k * 4) [.int .i64 (eN es k).k, .int .i64 (eN es k).t, .int .i64 (eN es k).d, .int .i64 (eN es k).a]) := range_laterC rg lt BW.out
      have EK : Hid (EvOk (eN es k)) := OK.out k
      clear rg lt EC
      generalize eN es k = ev at *
      obtain ⟨ek, et, ed, ea⟩ := ev
      simp only at RG
      have hs0 := BW.out.size
      by_cases h1 : ek = 1
      · subst h1
        by_cases hd : day < 3652059
        · have ON : Hid (RdV ((wr.alloc (.cells #[.int .i64 1, .int .i64 (day + 1), .int .i64 ed, .int .i64 ea] 36)).alloc (.cells #[.int .i64 1, .int .i64 (day + 1), .int .i64 ed, .int .i64 ea] 36)) (.slice (some ⟨wr.heap.size + 1, 0, none⟩) 1 1) [⟨1, (day + 1), ed, ea⟩]) := by
            have := RdV.one (wr.alloc (.cells #[.int .i64 1, .int .i64 (day + 1), .int .i64 ed, .int .i64 ea] 36)) ⟨1, (day + 1), ed, ea⟩
            rwa [show (wr.alloc (.cells #[.int .i64 1, .int .i64 (day + 1), .int .i64 ed, .int .i64 ea] 36)).heap.size = wr.heap.size + 1 from by simp] at this
          have RR : Hid (RowE w.heap.size ((wr.alloc (.cells #[.int .i64 1, .int .i64 (day + 1), .int .i64 ed, .int .i64 ea] 36)).alloc (.cells #[.int .i64 1, .int .i64 (day + 1), .int .i64 ed, .int .i64 ea] 36)) (.slice a5 n5 c5) ls) := (RW.out.later (below_alloc _ _)).later (below_alloc _ _)
          have BY : Hid (Below w.heap.size w ((wr.alloc (.cells #[.int .i64 1, .int .i64 (day + 1), .int .i64 ed, .int .i64 ea] 36)).alloc (.cells #[.int .i64 1, .int .i64 (day + 1), .int .i64 ed, .int .i64 ea] 36))) := below_trans (below_trans BW.out (below_alloc _ _)) (below_alloc _ _)
          have sz2 : w.heap.size ≤ ((wr.alloc (.cells #[.int .i64 1, .int .i64 (day + 1), .int .i64 ed, .int .i64 ea] 36)).alloc (.cells #[.int .i64 1, .int .i64 (day + 1), .int .i64 ed, .int .i64 ea] 36)).heap.size := BY.out.size
          have lim : (ls.length + [(⟨1, (day + 1), ed, ea⟩ : Ev)].length) * 32 ≤ 140737488355328 := by simp only [List.length_singleton]; omega
          have EB : Hid (Blk wr.heap.size 36 [.int .i64 1, .int .i64 (day + 1), .int .i64 ed, .int .i64 ea] ((wr.alloc (.cells #[.int .i64 1, .int .i64 (day + 1), .int .i64 ed, .int .i64 ea] 36)).alloc (.cells #[.int .i64 1, .int .i64 (day + 1), .int .i64 ed, .int .i64 ea] 36))) := (Blk.new _ _ _).below (below_alloc _ _)
          have NE : Hid (∀ q, (Value.slice a5 n5 c5).ownBlock = some q → q < wr.heap.size) := fun q hq => RW.out.lt hq
          have EO : Hid (EvOk ⟨1, (day + 1), ed, ea⟩) := ⟨⟨by show (-9223372036854775808 : Int) ≤ 1; decide, by show (1 : Int) ≤ 9223372036854775807; decide⟩, ⟨by show (-9223372036854775808 : Int) ≤ day + 1; omega, by show day + 1 ≤ (9223372036854775807 : Int); omega⟩, EK.out.d, EK.out.a⟩
          have LN : Hid (∀ i, EvOk (eN (ls ++ [(⟨1, (day + 1), ed, ea⟩ : Ev)]) i)) := evok_app LO.out EO.out ez_okC
          go_wp2_with (first
          | ((with_reducible refine at_loadT 36 ?_); refine step_load rfl 36 _ rfl g (o + k * 4) rfl [.int .i64 1, .int .i64 et, .int .i64 ed, .int .i64 ea] _ RG.out Try.underlying36 rfl sizeEv ?_)
          | (at_builtin; refine wpList_pushE rfl (.tmp 31) (.tmp 33) rfl w.heap.size _ _ ls [⟨1, (day + 1), ed, ea⟩] rfl RR.out sz2 rfl ON.out lim ?_; intro a6 n6 c6 w6 r6 g6; have E6 := EB.out.grown g6 (fun e => by have := NE.out _ e; omega); have k6 := E6.cell 0 _ rfl))
          have B6 : Hid (Below w.heap.size w w6) := BY.out.grown g6 sz2 (fun q hq => (World.ownsRow.lt RR.out q hq).1)
          have R6 : Hid (RowE w.heap.size w6 (.slice a6 n6 c6) (ls ++ [⟨1, (day + 1), ed, ea⟩])) := r6
          go_roundw
          case rel => exact ⟨k + 1, day + 1, a6, n6, c6, ls ++ [⟨1, (day + 1), ed, ea⟩], by go_num, by omega, rfl, ⟨by omega, by omega⟩, rfl, by simp; omega, LN, R6, B6⟩
          case measure => simp [intOf]; omega
        · go_wp2_with ((with_reducible refine at_loadT 36 ?_); refine step_load rfl 36 _ rfl g (o + k * 4) rfl [.int .i64 1, .int .i64 et, .int .i64 ed, .int .i64 ea] _ RG.out Try.underlying36 rfl sizeEv ?_)
          have BY : Hid (Below w.heap.size w (wr.alloc (.cells #[.int .i64 1, .int .i64 et, .int .i64 ed, .int .i64 ea] 36))) := below_trans BW.out (below_alloc _ _)
          have RR : Hid (RowE w.heap.size (wr.alloc (.cells #[.int .i64 1, .int .i64 et, .int .i64 ed, .int .i64 ea] 36)) (.slice a5 n5 c5) ls) := RW.out.later (below_alloc _ _)
          go_roundw
          case rel => exact ⟨k + 1, day, a5, n5, c5, ls, by go_num, by omega, rfl, hday, rfl, by omega, LO, RR, BY⟩
          case measure => simp [intOf]; omega
      · have e1 : (ek == 1) = false := by simpa using h1
        by_cases h4 : ek = 4
        · subst h4
          clear e1 h1
          have ON : Hid (RdV ((wr.alloc (.cells #[.int .i64 4, .int .i64 day, .int .i64 ed, .int .i64 ea] 36)).alloc (.cells #[.int .i64 4, .int .i64 day, .int .i64 ed, .int .i64 ea] 36)) (.slice (some ⟨wr.heap.size + 1, 0, none⟩) 1 1) [⟨4, day, ed, ea⟩]) := by
            have := RdV.one (wr.alloc (.cells #[.int .i64 4, .int .i64 day, .int .i64 ed, .int .i64 ea] 36)) ⟨4, day, ed, ea⟩
            rwa [show (wr.alloc (.cells #[.int .i64 4, .int .i64 day, .int .i64 ed, .int .i64 ea] 36)).heap.size = wr.heap.size + 1 from by simp] at this
          have RR : Hid (RowE w.heap.size ((wr.alloc (.cells #[.int .i64 4, .int .i64 day, .int .i64 ed, .int .i64 ea] 36)).alloc (.cells #[.int .i64 4, .int .i64 day, .int .i64 ed, .int .i64 ea] 36)) (.slice a5 n5 c5) ls) := (RW.out.later (below_alloc _ _)).later (below_alloc _ _)
          have BY : Hid (Below w.heap.size w ((wr.alloc (.cells #[.int .i64 4, .int .i64 day, .int .i64 ed, .int .i64 ea] 36)).alloc (.cells #[.int .i64 4, .int .i64 day, .int .i64 ed, .int .i64 ea] 36))) := below_trans (below_trans BW.out (below_alloc _ _)) (below_alloc _ _)
          have sz2 : w.heap.size ≤ ((wr.alloc (.cells #[.int .i64 4, .int .i64 day, .int .i64 ed, .int .i64 ea] 36)).alloc (.cells #[.int .i64 4, .int .i64 day, .int .i64 ed, .int .i64 ea] 36)).heap.size := BY.out.size
          have lim : (ls.length + [(⟨4, day, ed, ea⟩ : Ev)].length) * 32 ≤ 140737488355328 := by simp only [List.length_singleton]; omega
          have EB : Hid (Blk wr.heap.size 36 [.int .i64 4, .int .i64 day, .int .i64 ed, .int .i64 ea] ((wr.alloc (.cells #[.int .i64 4, .int .i64 day, .int .i64 ed, .int .i64 ea] 36)).alloc (.cells #[.int .i64 4, .int .i64 day, .int .i64 ed, .int .i64 ea] 36))) := (Blk.new _ _ _).below (below_alloc _ _)
          have NE : Hid (∀ q, (Value.slice a5 n5 c5).ownBlock = some q → q < wr.heap.size) := fun q hq => RW.out.lt hq
          have EO : Hid (EvOk ⟨4, day, ed, ea⟩) := ⟨⟨by show (-9223372036854775808 : Int) ≤ 4; decide, by show (4 : Int) ≤ 9223372036854775807; decide⟩, ⟨by show (-9223372036854775808 : Int) ≤ day; omega, by show day ≤ (9223372036854775807 : Int); omega⟩, EK.out.d, EK.out.a⟩
          have LN : Hid (∀ i, EvOk (eN (ls ++ [(⟨4, day, ed, ea⟩ : Ev)]) i)) := evok_app LO.out EO.out ez_okC
          go_wp2_with (first
          | ((with_reducible refine at_loadT 36 ?_); refine step_load rfl 36 _ rfl g (o + k * 4) rfl [.int .i64 4, .int .i64 et, .int .i64 ed, .int .i64 ea] _ RG.out Try.underlying36 rfl sizeEv ?_)
          | (at_builtin; refine wpList_pushE rfl (.tmp 43) (.tmp 45) rfl w.heap.size _ _ ls [⟨4, day, ed, ea⟩] rfl RR.out sz2 rfl ON.out lim ?_; intro a6 n6 c6 w6 r6 g6; have E6 := EB.out.grown g6 (fun e => by have := NE.out _ e; omega); have k6 := E6.cell 0 _ rfl))
          have B6 : Hid (Below w.heap.size w w6) := BY.out.grown g6 sz2 (fun q hq => (World.ownsRow.lt RR.out q hq).1)
          have R6 : Hid (RowE w.heap.size w6 (.slice a6 n6 c6) (ls ++ [⟨4, day, ed, ea⟩])) := r6
          go_roundw
          case rel => exact ⟨k + 1, day, a6, n6, c6, ls ++ [⟨4, day, ed, ea⟩], by go_num, by omega, rfl, ⟨by omega, by omega⟩, rfl, by simp; omega, LN, R6, B6⟩
          case measure => simp [intOf]; omega
        · have e4 : (ek == 4) = false := by simpa using h4
          clear h1 h4
          have ON : Hid (RdV ((wr.alloc (.cells #[.int .i64 ek, .int .i64 et, .int .i64 ed, .int .i64 ea] 36)).alloc (.cells #[.int .i64 ek, .int .i64 et, .int .i64 ed, .int .i64 ea] 36)) (.slice (some ⟨wr.heap.size + 1, 0, none⟩) 1 1) [⟨ek, et, ed, ea⟩]) := by
            have := RdV.one (wr.alloc (.cells #[.int .i64 ek, .int .i64 et, .int .i64 ed, .int .i64 ea] 36)) ⟨ek, et, ed, ea⟩
            rwa [show (wr.alloc (.cells #[.int .i64 ek, .int .i64 et, .int .i64 ed, .int .i64 ea] 36)).heap.size = wr.heap.size + 1 from by simp] at this
          have RR : Hid (RowE w.heap.size ((wr.alloc (.cells #[.int .i64 ek, .int .i64 et, .int .i64 ed, .int .i64 ea] 36)).alloc (.cells #[.int .i64 ek, .int .i64 et, .int .i64 ed, .int .i64 ea] 36)) (.slice a5 n5 c5) ls) := (RW.out.later (below_alloc _ _)).later (below_alloc _ _)
          have BY : Hid (Below w.heap.size w ((wr.alloc (.cells #[.int .i64 ek, .int .i64 et, .int .i64 ed, .int .i64 ea] 36)).alloc (.cells #[.int .i64 ek, .int .i64 et, .int .i64 ed, .int .i64 ea] 36))) := below_trans (below_trans BW.out (below_alloc _ _)) (below_alloc _ _)
          have sz2 : w.heap.size ≤ ((wr.alloc (.cells #[.int .i64 ek, .int .i64 et, .int .i64 ed, .int .i64 ea] 36)).alloc (.cells #[.int .i64 ek, .int .i64 et, .int .i64 ed, .int .i64 ea] 36)).heap.size := BY.out.size
          have lim : (ls.length + [(⟨ek, et, ed, ea⟩ : Ev)].length) * 32 ≤ 140737488355328 := by simp only [List.length_singleton]; omega
          have EB : Hid (Blk wr.heap.size 36 [.int .i64 ek, .int .i64 et, .int .i64 ed, .int .i64 ea] ((wr.alloc (.cells #[.int .i64 ek, .int .i64 et, .int .i64 ed, .int .i64 ea] 36)).alloc (.cells #[.int .i64 ek, .int .i64 et, .int .i64 ed, .int .i64 ea] 36))) := (Blk.new _ _ _).below (below_alloc _ _)
          have NE : Hid (∀ q, (Value.slice a5 n5 c5).ownBlock = some q → q < wr.heap.size) := fun q hq => RW.out.lt hq
          have EO : Hid (EvOk ⟨ek, et, ed, ea⟩) := EK.out
          have LN : Hid (∀ i, EvOk (eN (ls ++ [(⟨ek, et, ed, ea⟩ : Ev)]) i)) := evok_app LO.out EO.out ez_okC
          go_wp2_with (first
          | ((with_reducible refine at_loadT 36 ?_); refine step_load rfl 36 _ rfl g (o + k * 4) rfl [.int .i64 ek, .int .i64 et, .int .i64 ed, .int .i64 ea] _ RG.out Try.underlying36 rfl sizeEv ?_)
          | (at_builtin; refine wpList_pushE rfl (.tmp 43) (.tmp 45) rfl w.heap.size _ _ ls [⟨ek, et, ed, ea⟩] rfl RR.out sz2 rfl ON.out lim ?_; intro a6 n6 c6 w6 r6 g6; have E6 := EB.out.grown g6 (fun e => by have := NE.out _ e; omega); have k6 := E6.cell 0 _ rfl))
          have B6 : Hid (Below w.heap.size w w6) := BY.out.grown g6 sz2 (fun q hq => (World.ownsRow.lt RR.out q hq).1)
          have R6 : Hid (RowE w.heap.size w6 (.slice a6 n6 c6) (ls ++ [⟨ek, et, ed, ea⟩])) := r6
          go_roundw
          case rel => exact ⟨k + 1, day, a6, n6, c6, ls ++ [⟨ek, et, ed, ea⟩], by go_num, by omega, rfl, ⟨by omega, by omega⟩, rfl, by simp; omega, LN, R6, B6⟩
          case measure => simp [intOf]; omega
    · obtain rfl : k = N := by omega
      go_wp2_with fail
      go_ret
      exact ⟨_, _, _, ls, rfl, RW.out, LO.out, hls, BW.out⟩
end Go.Proofs.Ytmhjghaipfijdab
