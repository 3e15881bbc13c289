/-
  Ours: beyond (gen_polbey.py).
-/
import Derived.Test.YtcjmjbhbdojeiaaPolMen
namespace Go.Proofs.Ytcjmjbhbdojeiaa
open Go.RowKit LedM PolM

namespace PolM
def upL : List Int := [3652060, 31, 366, 366, 10001, 1000000001, 1000000001, 1000000001, 1000000001, 9, 61, 5, 6, 4, 65, 65, 1001]
def dnL (l : List Int) : List Int := [0, -1, l.getD 1 0, 0, -1, -1, l.getD 5 0 - 1, -1, -1, -1, 0, -1, -1, -1, 0, l.getD 14 0 - 1, -1]
def mdS (s s' : Value) (k : Nat) : Value := if k = 17 then s' else s
end PolM
theorem mended_at (l l' : List Int) (a a' : Option Addr) (n n' c c' : Nat) (hl : l.length = 17) (hl' : l'.length = 17) (w : World) (k : Nat) (hk : k < 18) :
    Calls Try.prog 12 #[PV l (.slice a n c), PV l' (.slice a' n' c'), .int .i64 ((k : Int) + 1)] w fun e w' => e = .returned (PV (l.set k (l'.getD k 0)) (mdS (.slice a n c) (.slice a' n' c') k)) ∧ Below w.heap.size w w' := by
  match k, hk with
  | 0, _ => exact mended0_at l l' a a' n n' c c' hl hl' w
  | 1, _ => exact mended1_at l l' a a' n n' c c' hl hl' w
  | 2, _ => exact mended2_at l l' a a' n n' c c' hl hl' w
  | 3, _ => exact mended3_at l l' a a' n n' c c' hl hl' w
  | 4, _ => exact mended4_at l l' a a' n n' c c' hl hl' w
  | 5, _ => exact mended5_at l l' a a' n n' c c' hl hl' w
  | 6, _ => exact mended6_at l l' a a' n n' c c' hl hl' w
  | 7, _ => exact mended7_at l l' a a' n n' c c' hl hl' w
  | 8, _ => exact mended8_at l l' a a' n n' c c' hl hl' w
  | 9, _ => exact mended9_at l l' a a' n n' c c' hl hl' w
  | 10, _ => exact mended10_at l l' a a' n n' c c' hl hl' w
  | 11, _ => exact mended11_at l l' a a' n n' c c' hl hl' w
  | 12, _ => exact mended12_at l l' a a' n n' c c' hl hl' w
  | 13, _ => exact mended13_at l l' a a' n n' c c' hl hl' w
  | 14, _ => exact mended14_at l l' a a' n n' c c' hl hl' w
  | 15, _ => exact mended15_at l l' a a' n n' c c' hl hl' w
  | 16, _ => exact mended16_at l l' a a' n n' c c' hl hl' w
  | 17, _ =>
    have e : l.set 17 (l'.getD 17 0) = l := List.set_eq_of_length_le (by omega)
    rw [e]
    exact mended17_at l l' a a' n n' c c' hl hl' w
  | k + 18, h => omega

set_option maxRecDepth 20000 in
set_option maxHeartbeats 2000000 in
theorem beyond_up (l hs : List Int) (s : Value) (w : World) (hl : l.length = 17) (hr : Rd w s (bkL hs)) (k : Nat) (hk : k < 18) :
    Calls Try.prog 11 #[PV l s, .int .i64 ((k : Int) + 1), .bool true] w fun e w' => ∃ v, e = .returned (PV (l.set k (upL.getD k 0)) v) ∧ Rd w' v (bkL (if k = 17 then [3652060] else hs)) ∧ Below w.heap.size w w' := by
  have RS : Hid (∀ w', Below w.heap.size w w' → Rd w' s (bkL hs)) := fun w' h => hr.later h
  obtain ⟨HL, hHL⟩ : ∃ HL, (if k = 17 then [3652060] else hs) = HL := ⟨_, rfl⟩
  have HH : Hid ((if k = 17 then [3652060] else hs) = HL) := hHL
  rw [hHL]
  clear hHL
  obtain ⟨a, c, hsv, -, -, -⟩ := hr
  obtain ⟨n, hn⟩ : ∃ n, s = .slice a n c := ⟨_, hsv⟩
  have ME : Hid (∀ (q : Option Addr) (w' : World), Calls Try.prog 12 #[PV l s, PV upL (.slice q 1 1), .int .i64 ((k : Int) + 1)] w' fun e w'' => e = .returned (PV (l.set k (upL.getD k 0)) (mdS s (.slice q 1 1) k)) ∧ Below w'.heap.size w' w'') := fun q w' => by rw [hn]; exact mended_at l upL a q n 1 c 1 hl rfl w' k hk
  have LS' : Hid ((l.set k (upL.getD k 0)).length = 17) := by show _ = _; rw [List.length_set]; exact hl
  have OS : Hid (∀ q : Option Addr, ∃ a2 n2 c2, mdS s (.slice q 1 1) k = .slice a2 n2 c2) := fun q => by
    unfold mdS
    split
    · exact ⟨_, _, _, rfl⟩
    · exact ⟨_, _, _, hn⟩
  show Calls _ _ #[.agg (polL l s).toArray, _, _] _ _
  have B0 : Hid (Below w.heap.size w (((w.alloc (.cells (polL l s).toArray 24)).alloc (.cells #[.int .i64 0, .int .i64 0, .int .i64 0, .int .i64 0, .int .i64 0, .int .i64 0, .int .i64 0, .int .i64 0, .int .i64 0, .int .i64 0, .int .i64 0, .int .i64 0, .int .i64 0, .int .i64 0, .int .i64 0, .int .i64 0, .int .i64 0, .slice none 0 0] 24)).alloc (.cells #[.int .i64 0, .int .i64 0, .int .i64 0, .int .i64 0, .int .i64 0, .int .i64 0, .int .i64 0, .int .i64 0, .int .i64 0, .int .i64 0, .int .i64 0, .int .i64 0, .int .i64 0, .int .i64 0, .int .i64 0, .int .i64 0, .int .i64 0, .slice none 0 0] 24))) := below_trans (below_trans (below_alloc _ _) (below_alloc _ _)) (below_alloc _ _)
  have Q0 : Hid (Blk w.heap.size 24 (polL l s) (((w.alloc (.cells (polL l s).toArray 24)).alloc (.cells #[.int .i64 0, .int .i64 0, .int .i64 0, .int .i64 0, .int .i64 0, .int .i64 0, .int .i64 0, .int .i64 0, .int .i64 0, .int .i64 0, .int .i64 0, .int .i64 0, .int .i64 0, .int .i64 0, .int .i64 0, .int .i64 0, .int .i64 0, .slice none 0 0] 24)).alloc (.cells #[.int .i64 0, .int .i64 0, .int .i64 0, .int .i64 0, .int .i64 0, .int .i64 0, .int .i64 0, .int .i64 0, .int .i64 0, .int .i64 0, .int .i64 0, .int .i64 0, .int .i64 0, .int .i64 0, .int .i64 0, .int .i64 0, .int .i64 0, .slice none 0 0] 24))) := ((Blk.new _ _ _).below (below_alloc _ _)).below (below_alloc _ _)
  have Z1 : Hid (Blk (w.heap.size + 1) 24 polZ (((w.alloc (.cells (polL l s).toArray 24)).alloc (.cells #[.int .i64 0, .int .i64 0, .int .i64 0, .int .i64 0, .int .i64 0, .int .i64 0, .int .i64 0, .int .i64 0, .int .i64 0, .int .i64 0, .int .i64 0, .int .i64 0, .int .i64 0, .int .i64 0, .int .i64 0, .int .i64 0, .int .i64 0, .slice none 0 0] 24)).alloc (.cells #[.int .i64 0, .int .i64 0, .int .i64 0, .int .i64 0, .int .i64 0, .int .i64 0, .int .i64 0, .int .i64 0, .int .i64 0, .int .i64 0, .int .i64 0, .int .i64 0, .int .i64 0, .int .i64 0, .int .i64 0, .int .i64 0, .int .i64 0, .slice none 0 0] 24))) := (Blk.new2 _ _ _ _).below (below_alloc _ _)
  have Z2 : Hid (Blk (w.heap.size + 1 + 1) 24 polZ (((w.alloc (.cells (polL l s).toArray 24)).alloc (.cells #[.int .i64 0, .int .i64 0, .int .i64 0, .int .i64 0, .int .i64 0, .int .i64 0, .int .i64 0, .int .i64 0, .int .i64 0, .int .i64 0, .int .i64 0, .int .i64 0, .int .i64 0, .int .i64 0, .int .i64 0, .int .i64 0, .int .i64 0, .slice none 0 0] 24)).alloc (.cells #[.int .i64 0, .int .i64 0, .int .i64 0, .int .i64 0, .int .i64 0, .int .i64 0, .int .i64 0, .int .i64 0, .int .i64 0, .int .i64 0, .int .i64 0, .int .i64 0, .int .i64 0, .int .i64 0, .int .i64 0, .int .i64 0, .int .i64 0, .slice none 0 0] 24))) := Blk.new3 _ _ _ _ _
  have SZ : Hid ((Try.prog.info? 24).map (·.size) = some (polL l s).length) := by show _ = _; rw [polL_len hl]; exact sizeP
  have SZ2 : Hid (∀ t : Value, (Try.prog.info? 24).map (·.size) = some (polL (l.set k (upL.getD k 0)) t).length) := fun t => by rw [polL_len LS'.out]; exact sizeP
  have FT : Hid (∀ t : Value, 0 + (polL (l.set k (upL.getD k 0)) t).length ≤ polZ.length ∧ polZ.length ≤ 0 + (polL (l.set k (upL.getD k 0)) t).length) := fun t => by rw [polL_len LS'.out]; exact ⟨Nat.le_refl 18, Nat.le_refl 18⟩
  have QE : Hid (∀ q : Value, polL upL q = polL upL q) := fun _ => rfl
  clear hl hsv hn
  obtain ⟨RL, hRL⟩ : ∃ RL, l.set k (upL.getD k 0) = RL := ⟨_, rfl⟩
  rw [hRL] at ME SZ2 FT
  rw [hRL]
  clear LS' QE hRL
  have ME2 : Hid (∀ (q : Option Addr) (w' : World), Calls Try.prog 12 #[.agg (polL l s).toArray, .agg #[.int .i64 3652060, .int .i64 31, .int .i64 366, .int .i64 366, .int .i64 10001, .int .i64 1000000001, .int .i64 1000000001, .int .i64 1000000001, .int .i64 1000000001, .int .i64 9, .int .i64 61, .int .i64 5, .int .i64 6, .int .i64 4, .int .i64 65, .int .i64 65, .int .i64 1001, .slice q 1 1], .int .i64 ((k : Int) + 1)] w' fun e w'' => e = .returned (PV RL (mdS s (.slice q 1 1) k)) ∧ Below w'.heap.size w' w'') := ME.out
  clear ME
  generalize polL l s = C0 at *
  go_enter Try.func11, Try.ntmps11
  go_upto_region 3 with fail
  generalize ((w.alloc (.cells C0.toArray 24)).alloc (.cells #[.int .i64 0, .int .i64 0, .int .i64 0, .int .i64 0, .int .i64 0, .int .i64 0, .int .i64 0, .int .i64 0, .int .i64 0, .int .i64 0, .int .i64 0, .int .i64 0, .int .i64 0, .int .i64 0, .int .i64 0, .int .i64 0, .int .i64 0, .slice none 0 0] 24)).alloc (.cells #[.int .i64 0, .int .i64 0, .int .i64 0, .int .i64 0, .int .i64 0, .int .i64 0, .int .i64 0, .int .i64 0, .int .i64 0, .int .i64 0, .int .i64 0, .int .i64 0, .int .i64 0, .int .i64 0, .int .i64 0, .int .i64 0, .int .i64 0, .slice none 0 0] 24) = w0 at *
  have Z2' : Hid (Blk (w.heap.size + 1 + 1) 24 polZ (w0.alloc (.cells #[.int .i64 3652060] 3))) := Z2.out.old _
  have GN : Hid (w.heap.size + 1 + 1 < w0.heap.size) := Z2.out.lt
  go_upto_region 5 with (first
  | ((with_reducible refine at_store ?_); refine step_store rfl 24 (.tmp 7) (.tmp 10) rfl (w.heap.size + 1 + 1) 0 24 polZ [.int .i64 3652060, .int .i64 31, .int .i64 366, .int .i64 366, .int .i64 10001, .int .i64 1000000001, .int .i64 1000000001, .int .i64 1000000001, .int .i64 1000000001, .int .i64 9, .int .i64 61, .int .i64 5, .int .i64 6, .int .i64 4, .int .i64 65, .int .i64 65, .int .i64 1001, .slice (some ⟨w0.heap.size, 0, none⟩) 1 1] rfl rfl Z2'.out (Nat.le_refl 18) sizeP (polL_one (l := upL)) ?_; intro w2 nb2 g2))
  have D2 : Hid (Below w0.heap.size w0 (w0.alloc (.cells #[.int .i64 3652060] 3))) := below_alloc _ _
  have N2 : Hid (Blk (w.heap.size + 1 + 1) 24 [.int .i64 3652060, .int .i64 31, .int .i64 366, .int .i64 366, .int .i64 10001, .int .i64 1000000001, .int .i64 1000000001, .int .i64 1000000001, .int .i64 1000000001, .int .i64 9, .int .i64 61, .int .i64 5, .int .i64 6, .int .i64 4, .int .i64 65, .int .i64 65, .int .i64 1001, .slice (some ⟨w0.heap.size, 0, none⟩) 1 1] w2) := nb2
  have P2 : Hid (Blk w.heap.size 24 C0 w2) := (Q0.out.old _).grown g2 (fun e => by injection e with e; omega)
  have Y1 : Hid (Blk (w.heap.size + 1) 24 polZ w2) := (Z1.out.old _).grown g2 (fun e => by injection e with e; omega)
  have B2 : Hid (Below w.heap.size w w2) := below_row (below_trans B0.out D2.out) g2 (by omega)
  have RN : Hid (Rd w2 (.slice (some ⟨w0.heap.size, 0, none⟩) 1 1) (bkL [3652060])) := (rd_new 3 (bkL [3652060]) w0).grown g2 (fun g e h => by
    have e : some w0.heap.size = some g := e
    injection e with e
    injection h with h
    have := GN.out
    omega)
  clear nb2 g2 Z2' Z2 Z1 Q0 B0 D2
  obtain ⟨G, hG⟩ : ∃ G, w0.heap.size = G := ⟨_, rfl⟩
  rw [hG] at N2 RN
  try rw [hG]
  go_wp2_with (first
  | (refine step_load rfl 24 (.tmp 3) rfl w.heap.size 0 rfl C0 _ (Blk.all P2.out) Try.underlying24 rfl SZ.out ?_)
  | (refine step_load rfl 24 (.tmp 7) rfl (w.heap.size + 1 + 1) 0 rfl [.int .i64 3652060, .int .i64 31, .int .i64 366, .int .i64 366, .int .i64 10001, .int .i64 1000000001, .int .i64 1000000001, .int .i64 1000000001, .int .i64 1000000001, .int .i64 9, .int .i64 61, .int .i64 5, .int .i64 6, .int .i64 4, .int .i64 65, .int .i64 65, .int .i64 1001, .slice (some ⟨G, 0, none⟩) 1 1] _ (Blk.all N2.out) Try.underlying24 rfl sizeP ?_))
  refine (ME2.out _ _).mono ?_
  rintro e w3 ⟨rfl, b3⟩
  obtain ⟨a2, n2, c2, hm⟩ := OS.out (some ⟨G, 0, none⟩)
  have HM : Hid (mdS s (.slice (some ⟨G, 0, none⟩) 1 1) k = .slice a2 n2 c2) := hm
  have Y3 : Hid (Blk (w.heap.size + 1) 24 polZ w3) := Y1.out.below b3
  have B3 : Hid (Below w.heap.size w w3) := below_trans B2.out b3
  have LT : Hid (w.heap.size + 1 < w2.heap.size) := Y1.out.lt
  have R3 : Hid (Rd w3 (.slice (some ⟨G, 0, none⟩) 1 1) (bkL [3652060])) := RN.out.later b3
  have GG : Hid (w.heap.size + 1 + 1 < G) := by have := GN.out; show _ < _; omega
  rw [hm]
  clear hm b3 OS Y1 RN
  go_wp2_with (first
  | ((with_reducible refine at_store ?_); refine step_store rfl 24 (.tmp 6) (.tmp 24) rfl (w.heap.size + 1) 0 24 polZ (polL RL (.slice a2 n2 c2)) rfl rfl Y3.out (FT.out _).1 (SZ2.out _) polL_one ?_; intro w4 nb4 g4))
  refine ret_blk rfl rfl (w.heap.size + 1) 24 (polL RL (.slice a2 n2 c2)) _ rfl (blk_put (FT.out _).2 nb4) Try.underlying24 rfl (SZ2.out _) ?_
  have B4 : Below w.heap.size w w4 := below_row B3.out g4 (by omega)
  refine ⟨_, rfl, ?_, B4⟩
  have hm := HM.out
  unfold mdS at hm
  rw [← HH.out]
  by_cases h17 : k = 17
  · rw [if_pos h17] at hm ⊢
    rw [← hm]
    exact R3.out.grown g4 (fun g e h => by
      have e : some G = some g := e
      injection e with e
      injection h with h
      have := GG.out
      omega)
  · rw [if_neg h17] at hm ⊢
    rw [← hm]
    exact RS.out w4 B4

set_option maxRecDepth 20000 in
set_option maxHeartbeats 2000000 in
theorem beyond_dn (l hs : List Int) (s : Value) (w : World) (hl : l.length = 17) (hr : Rd w s (bkL hs)) (k : Nat) (hk : k < 18) (g5 : 0 ≤ l.getD 5 0 ∧ l.getD 5 0 ≤ 1000000000) (g14 : 1 ≤ l.getD 14 0 ∧ l.getD 14 0 ≤ 64) :
    Calls Try.prog 11 #[PV l s, .int .i64 ((k : Int) + 1), .bool false] w fun e w' => ∃ v, e = .returned (PV (l.set k ((dnL l).getD k 0)) v) ∧ Rd w' v (bkL (if k = 17 then [5, 5] else hs)) ∧ Below w.heap.size w w' := by
  have RS : Hid (∀ w', Below w.heap.size w w' → Rd w' s (bkL hs)) := fun w' h => hr.later h
  obtain ⟨HL, hHL⟩ : ∃ HL, (if k = 17 then [5, 5] else hs) = HL := ⟨_, rfl⟩
  have HH : Hid ((if k = 17 then [5, 5] else hs) = HL) := hHL
  rw [hHL]
  clear hHL
  obtain ⟨a, c, hsv, -, -, -⟩ := hr
  obtain ⟨n, hn⟩ : ∃ n, s = .slice a n c := ⟨_, hsv⟩
  have ME : Hid (∀ (q : Option Addr) (w' : World), Calls Try.prog 12 #[PV l s, PV (dnL l) (.slice q 2 2), .int .i64 ((k : Int) + 1)] w' fun e w'' => e = .returned (PV (l.set k ((dnL l).getD k 0)) (mdS s (.slice q 2 2) k)) ∧ Below w'.heap.size w' w'') := fun q w' => by rw [hn]; exact mended_at l (dnL l) a q n 2 c 2 hl rfl w' k hk
  have LS' : Hid ((l.set k ((dnL l).getD k 0)).length = 17) := by show _ = _; rw [List.length_set]; exact hl
  have OS : Hid (∀ q : Option Addr, ∃ a2 n2 c2, mdS s (.slice q 2 2) k = .slice a2 n2 c2) := fun q => by
    unfold mdS
    split
    · exact ⟨_, _, _, rfl⟩
    · exact ⟨_, _, _, hn⟩
  show Calls _ _ #[.agg (polL l s).toArray, _, _] _ _
  have B0 : Hid (Below w.heap.size w (((w.alloc (.cells (polL l s).toArray 24)).alloc (.cells #[.int .i64 0, .int .i64 0, .int .i64 0, .int .i64 0, .int .i64 0, .int .i64 0, .int .i64 0, .int .i64 0, .int .i64 0, .int .i64 0, .int .i64 0, .int .i64 0, .int .i64 0, .int .i64 0, .int .i64 0, .int .i64 0, .int .i64 0, .slice none 0 0] 24)).alloc (.cells #[.int .i64 0, .int .i64 0, .int .i64 0, .int .i64 0, .int .i64 0, .int .i64 0, .int .i64 0, .int .i64 0, .int .i64 0, .int .i64 0, .int .i64 0, .int .i64 0, .int .i64 0, .int .i64 0, .int .i64 0, .int .i64 0, .int .i64 0, .slice none 0 0] 24))) := below_trans (below_trans (below_alloc _ _) (below_alloc _ _)) (below_alloc _ _)
  have Q0 : Hid (Blk w.heap.size 24 (polL l s) (((w.alloc (.cells (polL l s).toArray 24)).alloc (.cells #[.int .i64 0, .int .i64 0, .int .i64 0, .int .i64 0, .int .i64 0, .int .i64 0, .int .i64 0, .int .i64 0, .int .i64 0, .int .i64 0, .int .i64 0, .int .i64 0, .int .i64 0, .int .i64 0, .int .i64 0, .int .i64 0, .int .i64 0, .slice none 0 0] 24)).alloc (.cells #[.int .i64 0, .int .i64 0, .int .i64 0, .int .i64 0, .int .i64 0, .int .i64 0, .int .i64 0, .int .i64 0, .int .i64 0, .int .i64 0, .int .i64 0, .int .i64 0, .int .i64 0, .int .i64 0, .int .i64 0, .int .i64 0, .int .i64 0, .slice none 0 0] 24))) := ((Blk.new _ _ _).below (below_alloc _ _)).below (below_alloc _ _)
  have Z1 : Hid (Blk (w.heap.size + 1) 24 polZ (((w.alloc (.cells (polL l s).toArray 24)).alloc (.cells #[.int .i64 0, .int .i64 0, .int .i64 0, .int .i64 0, .int .i64 0, .int .i64 0, .int .i64 0, .int .i64 0, .int .i64 0, .int .i64 0, .int .i64 0, .int .i64 0, .int .i64 0, .int .i64 0, .int .i64 0, .int .i64 0, .int .i64 0, .slice none 0 0] 24)).alloc (.cells #[.int .i64 0, .int .i64 0, .int .i64 0, .int .i64 0, .int .i64 0, .int .i64 0, .int .i64 0, .int .i64 0, .int .i64 0, .int .i64 0, .int .i64 0, .int .i64 0, .int .i64 0, .int .i64 0, .int .i64 0, .int .i64 0, .int .i64 0, .slice none 0 0] 24))) := (Blk.new2 _ _ _ _).below (below_alloc _ _)
  have Z2 : Hid (Blk (w.heap.size + 1 + 1) 24 polZ (((w.alloc (.cells (polL l s).toArray 24)).alloc (.cells #[.int .i64 0, .int .i64 0, .int .i64 0, .int .i64 0, .int .i64 0, .int .i64 0, .int .i64 0, .int .i64 0, .int .i64 0, .int .i64 0, .int .i64 0, .int .i64 0, .int .i64 0, .int .i64 0, .int .i64 0, .int .i64 0, .int .i64 0, .slice none 0 0] 24)).alloc (.cells #[.int .i64 0, .int .i64 0, .int .i64 0, .int .i64 0, .int .i64 0, .int .i64 0, .int .i64 0, .int .i64 0, .int .i64 0, .int .i64 0, .int .i64 0, .int .i64 0, .int .i64 0, .int .i64 0, .int .i64 0, .int .i64 0, .int .i64 0, .slice none 0 0] 24))) := Blk.new3 _ _ _ _ _
  have SZ : Hid ((Try.prog.info? 24).map (·.size) = some (polL l s).length) := by show _ = _; rw [polL_len hl]; exact sizeP
  have SZ2 : Hid (∀ t : Value, (Try.prog.info? 24).map (·.size) = some (polL (l.set k ((dnL l).getD k 0)) t).length) := fun t => by rw [polL_len LS'.out]; exact sizeP
  have FT : Hid (∀ t : Value, 0 + (polL (l.set k ((dnL l).getD k 0)) t).length ≤ polZ.length ∧ polZ.length ≤ 0 + (polL (l.set k ((dnL l).getD k 0)) t).length) := fun t => by rw [polL_len LS'.out]; exact ⟨Nat.le_refl 18, Nat.le_refl 18⟩
  have A1 : Hid ((polL l s)[1]? = some (.int .i64 (l.getD 1 0))) := polL_at hl 1 (by omega)
  have A5 : Hid ((polL l s)[5]? = some (.int .i64 (l.getD 5 0))) := polL_at hl 5 (by omega)
  have A14 : Hid ((polL l s)[14]? = some (.int .i64 (l.getD 14 0))) := polL_at hl 14 (by omega)
  obtain ⟨j1, j2⟩ := g5
  obtain ⟨j3, j4⟩ := g14
  have QE : Hid (∀ q : Value, polL (dnL l) q = polL (dnL l) q) := fun _ => rfl
  clear hl hsv hn
  obtain ⟨RL, hRL⟩ : ∃ RL, l.set k ((dnL l).getD k 0) = RL := ⟨_, rfl⟩
  rw [hRL] at ME SZ2 FT
  rw [hRL]
  clear LS' QE hRL
  have ME2 : Hid (∀ (q : Option Addr) (w' : World), Calls Try.prog 12 #[.agg (polL l s).toArray, .agg #[.int .i64 0, .int .i64 (-1), .int .i64 (l.getD 1 0), .int .i64 0, .int .i64 (-1), .int .i64 (-1), .int .i64 (l.getD 5 0 - 1), .int .i64 (-1), .int .i64 (-1), .int .i64 (-1), .int .i64 0, .int .i64 (-1), .int .i64 (-1), .int .i64 (-1), .int .i64 0, .int .i64 (l.getD 14 0 - 1), .int .i64 (-1), .slice q 2 2], .int .i64 ((k : Int) + 1)] w' fun e w'' => e = .returned (PV RL (mdS s (.slice q 2 2) k)) ∧ Below w'.heap.size w' w'') := ME.out
  clear ME
  generalize l.getD 1 0 = x1 at *
  generalize l.getD 5 0 = x5 at *
  generalize l.getD 14 0 = x14 at *
  generalize polL l s = C0 at *
  go_enter Try.func11, Try.ntmps11
  go_upto_region 4 with fail
  generalize ((w.alloc (.cells C0.toArray 24)).alloc (.cells #[.int .i64 0, .int .i64 0, .int .i64 0, .int .i64 0, .int .i64 0, .int .i64 0, .int .i64 0, .int .i64 0, .int .i64 0, .int .i64 0, .int .i64 0, .int .i64 0, .int .i64 0, .int .i64 0, .int .i64 0, .int .i64 0, .int .i64 0, .slice none 0 0] 24)).alloc (.cells #[.int .i64 0, .int .i64 0, .int .i64 0, .int .i64 0, .int .i64 0, .int .i64 0, .int .i64 0, .int .i64 0, .int .i64 0, .int .i64 0, .int .i64 0, .int .i64 0, .int .i64 0, .int .i64 0, .int .i64 0, .int .i64 0, .int .i64 0, .slice none 0 0] 24) = w0 at *
  have Z2' : Hid (Blk (w.heap.size + 1 + 1) 24 polZ (w0.alloc (.cells #[.int .i64 5, .int .i64 5] 3))) := Z2.out.old _
  have GN : Hid (w.heap.size + 1 + 1 < w0.heap.size) := Z2.out.lt
  have c1 := Q0.out.cell 1 _ A1.out
  have c5 := Q0.out.cell 5 _ A5.out
  have c14 := Q0.out.cell 14 _ A14.out
  go_upto_region 5 with (first
  | ((with_reducible refine at_store ?_); refine step_store rfl 24 (.tmp 7) (.tmp 20) rfl (w.heap.size + 1 + 1) 0 24 polZ [.int .i64 0, .int .i64 (-1), .int .i64 x1, .int .i64 0, .int .i64 (-1), .int .i64 (-1), .int .i64 (x5 - 1), .int .i64 (-1), .int .i64 (-1), .int .i64 (-1), .int .i64 0, .int .i64 (-1), .int .i64 (-1), .int .i64 (-1), .int .i64 0, .int .i64 (x14 - 1), .int .i64 (-1), .slice (some ⟨w0.heap.size, 0, none⟩) 2 2] rfl rfl Z2'.out (Nat.le_refl 18) sizeP (polL_one (l := [0, -1, x1, 0, -1, -1, x5 - 1, -1, -1, -1, 0, -1, -1, -1, 0, x14 - 1, -1])) ?_; intro w2 nb2 g2))
  have D2 : Hid (Below w0.heap.size w0 (w0.alloc (.cells #[.int .i64 5, .int .i64 5] 3))) := below_alloc _ _
  have N2 : Hid (Blk (w.heap.size + 1 + 1) 24 [.int .i64 0, .int .i64 (-1), .int .i64 x1, .int .i64 0, .int .i64 (-1), .int .i64 (-1), .int .i64 (x5 - 1), .int .i64 (-1), .int .i64 (-1), .int .i64 (-1), .int .i64 0, .int .i64 (-1), .int .i64 (-1), .int .i64 (-1), .int .i64 0, .int .i64 (x14 - 1), .int .i64 (-1), .slice (some ⟨w0.heap.size, 0, none⟩) 2 2] w2) := nb2
  have P2 : Hid (Blk w.heap.size 24 C0 w2) := (Q0.out.old _).grown g2 (fun e => by injection e with e; omega)
  have Y1 : Hid (Blk (w.heap.size + 1) 24 polZ w2) := (Z1.out.old _).grown g2 (fun e => by injection e with e; omega)
  have B2 : Hid (Below w.heap.size w w2) := below_row (below_trans B0.out D2.out) g2 (by omega)
  have RN : Hid (Rd w2 (.slice (some ⟨w0.heap.size, 0, none⟩) 2 2) (bkL [5, 5])) := (rd_new 3 (bkL [5, 5]) w0).grown g2 (fun g e h => by
    have e : some w0.heap.size = some g := e
    injection e with e
    injection h with h
    have := GN.out
    omega)
  clear nb2 g2 Z2' Z2 Z1 Q0 B0 D2 c1 c5 c14
  obtain ⟨G, hG⟩ : ∃ G, w0.heap.size = G := ⟨_, rfl⟩
  rw [hG] at N2 RN
  try rw [hG]
  go_wp2_with (first
  | (refine step_load rfl 24 (.tmp 3) rfl w.heap.size 0 rfl C0 _ (Blk.all P2.out) Try.underlying24 rfl SZ.out ?_)
  | (refine step_load rfl 24 (.tmp 7) rfl (w.heap.size + 1 + 1) 0 rfl [.int .i64 0, .int .i64 (-1), .int .i64 x1, .int .i64 0, .int .i64 (-1), .int .i64 (-1), .int .i64 (x5 - 1), .int .i64 (-1), .int .i64 (-1), .int .i64 (-1), .int .i64 0, .int .i64 (-1), .int .i64 (-1), .int .i64 (-1), .int .i64 0, .int .i64 (x14 - 1), .int .i64 (-1), .slice (some ⟨G, 0, none⟩) 2 2] _ (Blk.all N2.out) Try.underlying24 rfl sizeP ?_))
  refine (ME2.out _ _).mono ?_
  rintro e w3 ⟨rfl, b3⟩
  obtain ⟨a2, n2, c2, hm⟩ := OS.out (some ⟨G, 0, none⟩)
  have HM : Hid (mdS s (.slice (some ⟨G, 0, none⟩) 2 2) k = .slice a2 n2 c2) := hm
  have Y3 : Hid (Blk (w.heap.size + 1) 24 polZ w3) := Y1.out.below b3
  have B3 : Hid (Below w.heap.size w w3) := below_trans B2.out b3
  have LT : Hid (w.heap.size + 1 < w2.heap.size) := Y1.out.lt
  have R3 : Hid (Rd w3 (.slice (some ⟨G, 0, none⟩) 2 2) (bkL [5, 5])) := RN.out.later b3
  have GG : Hid (w.heap.size + 1 + 1 < G) := by have := GN.out; show _ < _; omega
  rw [hm]
  clear hm b3 OS Y1 RN
  go_wp2_with (first
  | ((with_reducible refine at_store ?_); refine step_store rfl 24 (.tmp 6) (.tmp 24) rfl (w.heap.size + 1) 0 24 polZ (polL RL (.slice a2 n2 c2)) rfl rfl Y3.out (FT.out _).1 (SZ2.out _) polL_one ?_; intro w4 nb4 g4))
  refine ret_blk rfl rfl (w.heap.size + 1) 24 (polL RL (.slice a2 n2 c2)) _ rfl (blk_put (FT.out _).2 nb4) Try.underlying24 rfl (SZ2.out _) ?_
  have B4 : Below w.heap.size w w4 := below_row B3.out g4 (by omega)
  refine ⟨_, rfl, ?_, B4⟩
  have hm := HM.out
  unfold mdS at hm
  rw [← HH.out]
  by_cases h17 : k = 17
  · rw [if_pos h17] at hm ⊢
    rw [← hm]
    exact R3.out.grown g4 (fun g e h => by
      have e : some G = some g := e
      injection e with e
      injection h with h
      have := GG.out
      omega)
  · rw [if_neg h17] at hm ⊢
    rw [← hm]
    exact RS.out w4 B4
end Go.Proofs.Ytcjmjbhbdojeiaa
