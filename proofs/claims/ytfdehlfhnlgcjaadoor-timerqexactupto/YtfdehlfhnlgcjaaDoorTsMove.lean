/-
  Ours: rename, Cancel, Move.
-/
import Derived.Test.YtfdehlfhnlgcjaaDoorTsCall
namespace Go.Proofs.YtfdehlfhnlgcjaaDoor
open Go.RowKit TqM

namespace TS
set_option maxRecDepth 20000 in
set_option maxHeartbeats 2000000 in
theorem rename_at (R bm g n cap : Nat) (S : Nat → Prop) (hp : List (Ky × ByteArray)) (f : Ky → Option Nat) (w : World) (t : Ky × ByteArray) (i : Nat) (k : Ky) (L : List (Ky × ByteArray)) (hn : n ≤ 1000000000000) (h : QG R bm g n cap S hp f w) (hs : HS hp f L) (hi : hp[i]? = some t) (hf : f k = none) :
    Calls Tryd.prog 37 #[.pointer (some ⟨R, 0, none⟩), .int .i64 (i : Int), kyV k] w fun e w' => e = .returned (.tuple #[]) ∧ ∃ L', L.Perm (t :: L') ∧ QAt R S ((k, t.2) :: L') w' ∧ Kp S w w' := by
  have hin : i < n := by have := (List.getElem?_eq_some_iff.1 hi).1; have := h.2; omega
  have ie : (i : Int) < (n : Int) := by omega
  obtain ⟨L', hL, GG⟩ := hs.rename (k := t.1) (v := t.2) hi hf
  have SE : Hid (∀ w, QG R bm g n cap S hp (upd f t.1 none) w → Calls Tryd.prog 52 #[.pointer (some ⟨R, 0, none⟩), .agg #[.int .i64 k.d, .int .i64 k.l, .int .i64 k.n, .string t.2], .int .i64 (i : Int)] w fun e' w' => e' = .returned (.tuple #[]) ∧ ∃ hp' f', QG R bm g n cap S hp' f' w' ∧ HS hp' f' ((k, t.2) :: L') ∧ Kp S w w') := fun w h => settle_at R bm g n cap S hp _ w (k, t.2) i L' hn h GG
  have PL : Hid (L.Perm (t :: L')) := hL
  have D0 : Hid (QG R bm g n cap S hp f (w.alloc (.cells #[.int .i64 k.d, .int .i64 k.l, .int .i64 k.n] 24)) ∧ Blk w.heap.size 24 (kyL k) (w.alloc (.cells #[.int .i64 k.d, .int .i64 k.l, .int .i64 k.n] 24)) ∧ Kp S w (w.alloc (.cells #[.int .i64 k.d, .int .i64 k.l, .int .i64 k.n] 24)) ∧ (∀ g, S g → g < w.heap.size)) := ⟨⟨h.1.below (below_alloc _ _), h.2⟩, Blk.new 24 (kyL k) w, Kp.of_below (below_alloc _ _) _, h.1.s⟩
  have HI : Hid (hp[i]? = some t) := hi
  clear h hs hi hf hL GG
  go_enter Tryd.func37, Tryd.ntmps37
  go_upto_region 1 with fail
  obtain ⟨A, hA⟩ : ∃ A, w.heap.size = A := ⟨_, rfl⟩
  have HA : Hid (w.heap.size = A) := hA
  rw [hA] at D0 ⊢
  clear hA
  generalize w.alloc (.cells #[.int .i64 k.d, .int .i64 k.l, .int .i64 k.n] 24) = W at *
  have c0 := D0.out.1.1.blk.cell 0 _ rfl
  obtain ⟨y0, y1, y2, y3⟩ := QG.cells D0.out.1 HI.out
  go_upto_region 2 with fail
  have D1 : Hid (QG R bm g n cap S hp f (W.alloc (.cells #[.int .i64 t.1.d, .int .i64 t.1.l, .int .i64 t.1.n, .string t.2] 66)) ∧ Blk A 24 (kyL k) (W.alloc (.cells #[.int .i64 t.1.d, .int .i64 t.1.l, .int .i64 t.1.n, .string t.2] 66)) ∧ Blk W.heap.size 66 (tmL t) (W.alloc (.cells #[.int .i64 t.1.d, .int .i64 t.1.l, .int .i64 t.1.n, .string t.2] 66)) ∧ Kp S w (W.alloc (.cells #[.int .i64 t.1.d, .int .i64 t.1.l, .int .i64 t.1.n, .string t.2] 66)) ∧ (∀ g, S g → g < A) ∧ A < W.heap.size) := by
    have b := below_alloc W (.cells #[.int .i64 t.1.d, .int .i64 t.1.l, .int .i64 t.1.n, .string t.2] 66)
    exact ⟨⟨D0.out.1.1.below b, D0.out.1.2⟩, D0.out.2.1.below b, Blk.new 66 (tmL t) W, D0.out.2.2.1.trans (Kp.of_below b S) (fun _ _ h => h), D0.out.2.2.2, D0.out.2.1.lt⟩
  clear D0 c0 y0 y1 y2 y3
  generalize W.alloc (.cells #[.int .i64 t.1.d, .int .i64 t.1.l, .int .i64 t.1.n, .string t.2] 66) = W3 at *
  generalize W.heap.size = G at *
  clear W
  have D3' : Hid (QG R bm g n cap S hp f W3.drew ∧ Kp S W3 W3.drew) := ⟨⟨D1.out.1.1.below (Below.drew (Below.refl _ _)), D1.out.1.2⟩, Kp.of_below (Below.drew (Below.refl _ _)) _⟩
  have l1 : W3.drew.cell? ⟨R, 1, none⟩ = some (.map (some bm)) := D1.out.1.1.blk.cell 1 _ rfl
  have y0 : W3.drew.cell? ⟨G, 0, none⟩ = some (.int .i64 t.1.d) := D1.out.2.2.1.cell 0 _ rfl
  have y1 : W3.drew.cell? ⟨G, 1, none⟩ = some (.int .i64 t.1.l) := D1.out.2.2.1.cell 1 _ rfl
  have y2 : W3.drew.cell? ⟨G, 2, none⟩ = some (.int .i64 t.1.n) := D1.out.2.2.1.cell 2 _ rfl
  obtain ⟨w4, r1, m4, g4⟩ := MapAt.del (w := W3.drew) D3'.out.1.1.mp t.1 0
  have D4 : Hid (QG R bm g n cap S hp (upd f t.1 none) w4 ∧ Blk A 24 (kyL k) w4 ∧ Blk G 66 (tmL t) w4 ∧ Kp S w w4 ∧ (∀ g, S g → g < A) ∧ A < G) := by
    obtain ⟨q4, k4⟩ := QG.del D3'.out.1 m4 g4
    have k5 : Kp S W3 w4 := D3'.out.2.trans k4 (fun _ _ h => h)
    have d := D1.out
    exact ⟨q4, d.2.1.kp k5 (fun h => by have := d.2.2.2.2.1 _ h; omega), d.2.2.1.kp k5 (fun h => by have := d.2.2.2.2.1 _ h; omega), d.2.2.2.1.trans k5 (fun _ _ h => h), d.2.2.2.2⟩
  have r2 : (Builtin.delete_ #[51, 24] 0 #[.map (some bm), .agg #[.int .i64 t.1.d, .int .i64 t.1.l, .int .i64 t.1.n]]).run Tryd.prog W3.drew = .ok (.tuple #[]) w4 := r1
  clear D1 D3' m4 g4 r1
  go_region
  clear l1 y0 y1 y2 r2
  have x0 := D4.out.2.1.cell 0 _ rfl
  have x1 := D4.out.2.1.cell 1 _ rfl
  have x2 := D4.out.2.1.cell 2 _ rfl
  have y0 := D4.out.2.2.1.cell 0 _ rfl
  have y1 := D4.out.2.2.1.cell 1 _ rfl
  have y2 := D4.out.2.2.1.cell 2 _ rfl
  have f0 := D4.out.2.2.1.fz 0
  have f1 := D4.out.2.2.1.fz 1
  have f2 := D4.out.2.2.1.fz 2
  have D5 : Hid (QG R bm g n cap S hp (upd f t.1 none) (((w4.setCell ⟨G, 0, none⟩ (.int .i64 k.d)).setCell ⟨G, 1, none⟩ (.int .i64 k.l)).setCell ⟨G, 2, none⟩ (.int .i64 k.n)) ∧ Blk G 66 (tmL (k, t.2)) (((w4.setCell ⟨G, 0, none⟩ (.int .i64 k.d)).setCell ⟨G, 1, none⟩ (.int .i64 k.l)).setCell ⟨G, 2, none⟩ (.int .i64 k.n)) ∧ Kp S w (((w4.setCell ⟨G, 0, none⟩ (.int .i64 k.d)).setCell ⟨G, 1, none⟩ (.int .i64 k.l)).setCell ⟨G, 2, none⟩ (.int .i64 k.n))) := by
    have d := D4.out
    have b3 : Blk G 66 (tmL (k, t.2)) (((w4.setCell ⟨G, 0, none⟩ (.int .i64 k.d)).setCell ⟨G, 1, none⟩ (.int .i64 k.l)).setCell ⟨G, 2, none⟩ (.int .i64 k.n)) := ((d.2.2.1.set (i := 0) (.int .i64 k.d)).set (i := 1) (.int .i64 k.l)).set (i := 2) (.int .i64 k.n)
    have g3 := grownBy_trans (grownBy_trans (setCell_grown w4 G 0 (.int .i64 k.d)) (setCell_grown _ G 1 (.int .i64 k.l))) (setCell_grown _ G 2 (.int .i64 k.n))
    have k3 := Kp.of_grown g3
    exact ⟨⟨d.1.1.kp k3 (fun x hx e => by injection e with e; have := d.2.2.2.2.1 x hx; have := d.2.2.2.2.2; omega), d.1.2⟩, b3, d.2.2.2.1.trans k3 (fun x hx e => by injection e with e; have := d.2.2.2.2.2; have := HA.out; omega)⟩
  clear D4
  go_upto_region 4 with fail
  clear x0 x1 x2 y0 y1 y2 f0 f1 f2
  generalize ((w4.setCell ⟨G, 0, none⟩ (.int .i64 k.d)).setCell ⟨G, 1, none⟩ (.int .i64 k.l)).setCell ⟨G, 2, none⟩ (.int .i64 k.n) = w5 at *
  have y0 := D5.out.2.1.cell 0 _ rfl
  have y1 := D5.out.2.1.cell 1 _ rfl
  have y2 := D5.out.2.1.cell 2 _ rfl
  have y3 := D5.out.2.1.cell 3 _ rfl
  go_wp2_with fail
  refine (SE.out w5 D5.out.1).mono ?_
  rintro e' w6 ⟨rfl, hp', f', q6, h6, k6⟩
  have FN : Hid (∃ L', L.Perm (t :: L') ∧ QAt R S ((k, t.2) :: L') w6 ∧ Kp S w w6) := ⟨L', PL.out, ⟨bm, _, hp', f', q6.1, h6⟩, D5.out.2.2.trans k6 (fun _ _ h => h)⟩
  clear D5 SE PL q6 h6 k6 y0 y1 y2 y3
  go_wp2_with fail
  go_end0
  exact ⟨rfl, FN.out⟩

set_option maxRecDepth 20000 in
set_option maxHeartbeats 2000000 in
theorem cancel_no (R : Nat) (S : Nat → Prop) (L : List (Ky × ByteArray)) (w : World) (k : Ky) (h : QAt R S L w) (hk : k ∉ L.map (·.1)) :
    Calls Tryd.prog 19 #[.pointer (some ⟨R, 0, none⟩), kyV k] w fun e w' => e = .returned (.bool false) ∧ Below w.heap.size w w' := by
  obtain ⟨bm, vh, hp, f, q, hs⟩ := h
  have hf := (hs.absent k).2 hk
  have q1 := q.below (Below.drew (below_alloc w (.cells #[.int .i64 k.d, .int .i64 k.l, .int .i64 k.n] 24)))
  have r1 : (Instr.lookup 51 (.map (some bm)) (.agg #[.int .i64 k.d, .int .i64 k.l, .int .i64 k.n]) true).run Tryd.prog (w.alloc (.cells #[.int .i64 k.d, .int .i64 k.l, .int .i64 k.n] 24)).drew = .ok (.tuple #[.int .i64 0, .bool false]) (w.alloc (.cells #[.int .i64 k.d, .int .i64 k.l, .int .i64 k.n] 24)).drew := by
    have := q1.mp.look k
    rw [hf] at this
    exact this
  have c1 := q.blk.cell 1 _ rfl
  have ltR := q.blk.lt
  have F0 : Hid (Below w.heap.size w (w.alloc (.cells #[.int .i64 k.d, .int .i64 k.l, .int .i64 k.n] 24)).drew) := Below.drew (below_alloc _ _)
  clear q hs q1 hk hf
  go_enter Tryd.func19, Tryd.ntmps19
  go_upto_region 1 with fail
  go_region
  go_wp2_with fail
  go_ret
  exact ⟨rfl, F0.out⟩

/-- A key that is there, in the heap. -/
theorem QAt.find {R : Nat} {S : Nat → Prop} {L : List (Ky × ByteArray)} {w : World} (h : QAt R S L w) {k : Ky} {v : ByteArray} (hk : (k, v) ∈ L) : ∃ bm g n cap hp f i, QG R bm g n cap S hp f w ∧ HS hp f L ∧ hp[i]? = some (k, v) ∧ f k = some i := by
  obtain ⟨bm, vh, hp, f, q, hs⟩ := h
  obtain ⟨i, hi, hiv⟩ := List.getElem_of_mem (hs.perm.mem_iff.2 hk)
  have hi' : hp[i]? = some (k, v) := by rw [List.getElem?_eq_getElem hi, hiv]
  rcases q.row.open with ⟨rfl, rfl⟩ | ⟨g, n, cap, cur, rfl, r⟩
  · simp at hi
  · exact ⟨bm, g, n, cap, hp, f, i, ⟨q, r.len⟩, hs, hi', (hs.pls k i).2 ⟨v, hi'⟩⟩

set_option maxRecDepth 20000 in
set_option maxHeartbeats 2000000 in
theorem cancel_yes (R : Nat) (S : Nat → Prop) (L : List (Ky × ByteArray)) (w : World) (k : Ky) (v : ByteArray) (h : QAt R S L w) (hl : L.length ≤ 1000000000000) (hk : (k, v) ∈ L) :
    Calls Tryd.prog 19 #[.pointer (some ⟨R, 0, none⟩), kyV k] w fun e w' => e = .returned (.bool true) ∧ ∃ L', L.Perm ((k, v) :: L') ∧ QAt R S L' w' ∧ Kp S w w' := by
  obtain ⟨bm, g, n, cap, hp, f, i, q, hs, hi, hf⟩ := h.find hk
  have hlp := hs.perm.length_eq
  have q1 := q.1.below (Below.drew (below_alloc w (.cells #[.int .i64 k.d, .int .i64 k.l, .int .i64 k.n] 24)))
  have TK : Hid (Calls Tryd.prog 35 #[.pointer (some ⟨R, 0, none⟩), .int .i64 (i : Int)] (w.alloc (.cells #[.int .i64 k.d, .int .i64 k.l, .int .i64 k.n] 24)).drew fun e w' => e = .returned (tmV (k, v)) ∧ ∃ L', L.Perm ((k, v) :: L') ∧ QAt R S L' w' ∧ Kp S w w') := (takeOut_at R bm g n cap S hp f _ (k, v) i L (by have := q.2; omega) ⟨q1, q.2⟩ hs hi).mono (by rintro e w' ⟨rfl, L', h1, h2, h3⟩; exact ⟨rfl, L', h1, h2, (Kp.of_below (Below.drew (below_alloc _ _)) S).trans h3 (fun _ _ h => h)⟩)
  have r1 : (Instr.lookup 51 (.map (some bm)) (.agg #[.int .i64 k.d, .int .i64 k.l, .int .i64 k.n]) true).run Tryd.prog (w.alloc (.cells #[.int .i64 k.d, .int .i64 k.l, .int .i64 k.n] 24)).drew = .ok (.tuple #[.int .i64 (i : Int), .bool true]) (w.alloc (.cells #[.int .i64 k.d, .int .i64 k.l, .int .i64 k.n] 24)).drew := by
    have := q1.mp.look k
    rw [hf] at this
    exact this
  have c1 := q.1.blk.cell 1 _ rfl
  have ltR := q.1.blk.lt
  clear q hs q1 hk hf hi h hlp
  go_enter Tryd.func19, Tryd.ntmps19
  go_upto_region 1 with fail
  go_region
  go_wp2_with fail
  refine TK.out.mono ?_
  rintro e w2 ⟨rfl, h2⟩
  have H2 : Hid (∃ L', L.Perm ((k, v) :: L') ∧ QAt R S L' w2 ∧ Kp S w w2) := h2
  clear h2 TK
  go_wp2_with fail
  go_ret
  exact ⟨rfl, H2.out⟩

set_option maxRecDepth 20000 in
set_option maxHeartbeats 2000000 in
theorem move_no (R : Nat) (S : Nat → Prop) (L : List (Ky × ByteArray)) (w : World) (k : Ky) (day : Int) (h : QAt R S L w) (hk : k ∉ L.map (·.1)) :
    Calls Tryd.prog 22 #[.pointer (some ⟨R, 0, none⟩), kyV k, .int .i64 day] w fun e w' => e = .returned (.int .i64 110) ∧ Below w.heap.size w w' := by
  obtain ⟨bm, vh, hp, f, q, hs⟩ := h
  have hf := (hs.absent k).2 hk
  have q1 := q.below (Below.drew (below_alloc w (.cells #[.int .i64 k.d, .int .i64 k.l, .int .i64 k.n] 24)))
  have r1 : (Instr.lookup 51 (.map (some bm)) (.agg #[.int .i64 k.d, .int .i64 k.l, .int .i64 k.n]) true).run Tryd.prog (w.alloc (.cells #[.int .i64 k.d, .int .i64 k.l, .int .i64 k.n] 24)).drew = .ok (.tuple #[.int .i64 0, .bool false]) (w.alloc (.cells #[.int .i64 k.d, .int .i64 k.l, .int .i64 k.n] 24)).drew := by
    have := q1.mp.look k
    rw [hf] at this
    exact this
  have c1 := q.blk.cell 1 _ rfl
  have ltR := q.blk.lt
  have F0 : Hid (Below w.heap.size w (w.alloc (.cells #[.int .i64 k.d, .int .i64 k.l, .int .i64 k.n] 24)).drew) := Below.drew (below_alloc _ _)
  clear q hs q1 hk hf
  go_enter Tryd.func22, Tryd.ntmps22
  go_upto_region 1 with fail
  go_region
  go_wp2_with fail
  go_ret
  exact ⟨rfl, F0.out⟩

set_option maxRecDepth 20000 in
set_option maxHeartbeats 2000000 in
theorem move_same (R : Nat) (S : Nat → Prop) (L : List (Ky × ByteArray)) (w : World) (k : Ky) (v : ByteArray) (h : QAt R S L w) (hk : (k, v) ∈ L) :
    Calls Tryd.prog 22 #[.pointer (some ⟨R, 0, none⟩), kyV k, .int .i64 k.d] w fun e w' => e = .returned (.int .i64 0) ∧ Below w.heap.size w w' := by
  obtain ⟨bm, g, n, cap, hp, f, i, q, hs, hi, hf⟩ := h.find hk
  have q1 := q.1.below (Below.drew (below_alloc w (.cells #[.int .i64 k.d, .int .i64 k.l, .int .i64 k.n] 24)))
  have r1 : (Instr.lookup 51 (.map (some bm)) (.agg #[.int .i64 k.d, .int .i64 k.l, .int .i64 k.n]) true).run Tryd.prog (w.alloc (.cells #[.int .i64 k.d, .int .i64 k.l, .int .i64 k.n] 24)).drew = .ok (.tuple #[.int .i64 (i : Int), .bool true]) (w.alloc (.cells #[.int .i64 k.d, .int .i64 k.l, .int .i64 k.n] 24)).drew := by
    have := q1.mp.look k
    rw [hf] at this
    exact this
  have c1 := q.1.blk.cell 1 _ rfl
  have ltR := q.1.blk.lt
  have F0 : Hid (Below w.heap.size w ((w.alloc (.cells #[.int .i64 k.d, .int .i64 k.l, .int .i64 k.n] 24)).alloc (.cells #[.int .i64 k.d, .int .i64 k.l, .int .i64 k.n] 24)).drew) := Below.drew (below_trans (below_alloc _ _) (below_alloc _ _))
  have EQ := fun w => eqK k k w
  simp only [decide_true] at EQ
  clear q hs q1 hk hf hi h
  go_enter Tryd.func22, Tryd.ntmps22
  go_upto_region 1 with fail
  go_region
  go_wp2_with fail
  go_ret
  exact ⟨rfl, F0.out⟩

set_option maxRecDepth 20000 in
set_option maxHeartbeats 2000000 in
theorem move_taken (R : Nat) (S : Nat → Prop) (L : List (Ky × ByteArray)) (w : World) (k : Ky) (v : ByteArray) (day : Int) (h : QAt R S L w) (hk : (k, v) ∈ L) (hd : day ≠ k.d) (ht : ⟨day, k.l, k.n⟩ ∈ L.map (·.1)) :
    Calls Tryd.prog 22 #[.pointer (some ⟨R, 0, none⟩), kyV k, .int .i64 day] w fun e w' => e = .returned (.int .i64 110) ∧ Below w.heap.size w w' := by
  obtain ⟨bm, g, n, cap, hp, f, i, q, hs, hi, hf⟩ := h.find hk
  have hlp := hs.perm.length_eq
  have q1 := q.1.below (Below.drew (below_alloc w (.cells #[.int .i64 k.d, .int .i64 k.l, .int .i64 k.n] 24)))
  have r1 : (Instr.lookup 51 (.map (some bm)) (.agg #[.int .i64 k.d, .int .i64 k.l, .int .i64 k.n]) true).run Tryd.prog (w.alloc (.cells #[.int .i64 k.d, .int .i64 k.l, .int .i64 k.n] 24)).drew = .ok (.tuple #[.int .i64 (i : Int), .bool true]) (w.alloc (.cells #[.int .i64 k.d, .int .i64 k.l, .int .i64 k.n] 24)).drew := by
    have := q1.mp.look k
    rw [hf] at this
    exact this
  have c1 := q.1.blk.cell 1 _ rfl
  have ltR := q.1.blk.lt
  have EQ : ∀ w, (Op.equal 24 (.agg #[.int .i64 day, .int .i64 k.l, .int .i64 k.n]) (.agg #[.int .i64 k.d, .int .i64 k.l, .int .i64 k.n])).run Tryd.prog w = .ok false w := fun w => by
    have := eqK ⟨day, k.l, k.n⟩ k w
    rw [decide_eq_false (fun e => hd (by rw [← e]))] at this
    exact this
  have D2 : Hid (QG R bm g n cap S hp f (((w.alloc (.cells #[.int .i64 k.d, .int .i64 k.l, .int .i64 k.n] 24)).alloc (.cells #[.int .i64 day, .int .i64 k.l, .int .i64 k.n] 24)).drew) ∧ Below w.heap.size w (((w.alloc (.cells #[.int .i64 k.d, .int .i64 k.l, .int .i64 k.n] 24)).alloc (.cells #[.int .i64 day, .int .i64 k.l, .int .i64 k.n] 24)).drew) ∧ Blk (w.heap.size + 1) 24 (kyL ⟨day, k.l, k.n⟩) (((w.alloc (.cells #[.int .i64 k.d, .int .i64 k.l, .int .i64 k.n] 24)).alloc (.cells #[.int .i64 day, .int .i64 k.l, .int .i64 k.n] 24)).drew)) := by
    have b := Below.drew (below_trans (below_alloc w (.cells #[.int .i64 k.d, .int .i64 k.l, .int .i64 k.n] 24)) (below_alloc _ (.cells #[.int .i64 day, .int .i64 k.l, .int .i64 k.n] 24)))
    exact ⟨⟨q.1.below b, q.2⟩, b, Blk.new2 24 (kyL ⟨day, k.l, k.n⟩) w _⟩
  obtain ⟨i2, hf2⟩ : ∃ i2, f ⟨day, k.l, k.n⟩ = some i2 := by
    cases hf2 : f ⟨day, k.l, k.n⟩ with
    | none => exact absurd ht ((hs.absent _).1 hf2)
    | some i2 => exact ⟨i2, rfl⟩
  clear q hs q1 hk hf hi h hlp
  go_enter Tryd.func22, Tryd.ntmps22
  go_upto_region 1 with fail
  go_region
  go_upto_region 7 with fail
  clear r1 EQ c1
  generalize ((w.alloc (.cells #[.int .i64 k.d, .int .i64 k.l, .int .i64 k.n] 24)).alloc (.cells #[.int .i64 day, .int .i64 k.l, .int .i64 k.n] 24)).drew = W2 at *
  generalize w.heap.size + 1 = Q at *
  have c1 : W2.drew.cell? ⟨R, 1, none⟩ = some (.map (some bm)) := D2.out.1.1.blk.cell 1 _ rfl
  have x0 : W2.drew.cell? ⟨Q, 0, none⟩ = some (.int .i64 day) := D2.out.2.2.cell 0 _ rfl
  have x1 : W2.drew.cell? ⟨Q, 1, none⟩ = some (.int .i64 k.l) := D2.out.2.2.cell 1 _ rfl
  have x2 : W2.drew.cell? ⟨Q, 2, none⟩ = some (.int .i64 k.n) := D2.out.2.2.cell 2 _ rfl
  have r2 : (Instr.lookup 51 (.map (some bm)) (.agg #[.int .i64 day, .int .i64 k.l, .int .i64 k.n]) true).run Tryd.prog W2.drew = .ok (.tuple #[.int .i64 (i2 : Int), .bool true]) W2.drew := by
    have := MapAt.look (w := W2.drew) D2.out.1.1.mp ⟨day, k.l, k.n⟩
    rw [hf2] at this
    exact this
  have F0 : Hid (Below w.heap.size w W2.drew) := Below.drew D2.out.2.1
  clear D2 hf2 ht hd
  go_region
  go_wp2_with fail
  go_ret
  exact ⟨rfl, F0.out⟩

set_option maxRecDepth 20000 in
set_option maxHeartbeats 2000000 in
theorem move_yes (R : Nat) (S : Nat → Prop) (L : List (Ky × ByteArray)) (w : World) (k : Ky) (v : ByteArray) (day : Int) (h : QAt R S L w) (hk : (k, v) ∈ L) (hd : day ≠ k.d) (hl : L.length ≤ 1000000000000) (ht : ⟨day, k.l, k.n⟩ ∉ L.map (·.1)) :
    Calls Tryd.prog 22 #[.pointer (some ⟨R, 0, none⟩), kyV k, .int .i64 day] w fun e w' => e = .returned (.int .i64 0) ∧ ∃ L', L.Perm ((k, v) :: L') ∧ QAt R S ((⟨day, k.l, k.n⟩, v) :: L') w' ∧ Kp S w w' := by
  obtain ⟨bm, g, n, cap, hp, f, i, q, hs, hi, hf⟩ := h.find hk
  have hlp := hs.perm.length_eq
  have q1 := q.1.below (Below.drew (below_alloc w (.cells #[.int .i64 k.d, .int .i64 k.l, .int .i64 k.n] 24)))
  have r1 : (Instr.lookup 51 (.map (some bm)) (.agg #[.int .i64 k.d, .int .i64 k.l, .int .i64 k.n]) true).run Tryd.prog (w.alloc (.cells #[.int .i64 k.d, .int .i64 k.l, .int .i64 k.n] 24)).drew = .ok (.tuple #[.int .i64 (i : Int), .bool true]) (w.alloc (.cells #[.int .i64 k.d, .int .i64 k.l, .int .i64 k.n] 24)).drew := by
    have := q1.mp.look k
    rw [hf] at this
    exact this
  have c1 := q.1.blk.cell 1 _ rfl
  have ltR := q.1.blk.lt
  have EQ : ∀ w, (Op.equal 24 (.agg #[.int .i64 day, .int .i64 k.l, .int .i64 k.n]) (.agg #[.int .i64 k.d, .int .i64 k.l, .int .i64 k.n])).run Tryd.prog w = .ok false w := fun w => by
    have := eqK ⟨day, k.l, k.n⟩ k w
    rw [decide_eq_false (fun e => hd (by rw [← e]))] at this
    exact this
  have D2 : Hid (QG R bm g n cap S hp f (((w.alloc (.cells #[.int .i64 k.d, .int .i64 k.l, .int .i64 k.n] 24)).alloc (.cells #[.int .i64 day, .int .i64 k.l, .int .i64 k.n] 24)).drew) ∧ Below w.heap.size w (((w.alloc (.cells #[.int .i64 k.d, .int .i64 k.l, .int .i64 k.n] 24)).alloc (.cells #[.int .i64 day, .int .i64 k.l, .int .i64 k.n] 24)).drew) ∧ Blk (w.heap.size + 1) 24 (kyL ⟨day, k.l, k.n⟩) (((w.alloc (.cells #[.int .i64 k.d, .int .i64 k.l, .int .i64 k.n] 24)).alloc (.cells #[.int .i64 day, .int .i64 k.l, .int .i64 k.n] 24)).drew)) := by
    have b := Below.drew (below_trans (below_alloc w (.cells #[.int .i64 k.d, .int .i64 k.l, .int .i64 k.n] 24)) (below_alloc _ (.cells #[.int .i64 day, .int .i64 k.l, .int .i64 k.n] 24)))
    exact ⟨⟨q.1.below b, q.2⟩, b, Blk.new2 24 (kyL ⟨day, k.l, k.n⟩) w _⟩
  have hf2 := (hs.absent ⟨day, k.l, k.n⟩).2 ht
  have RN : Hid (∀ w, QG R bm g n cap S hp f w → Calls Tryd.prog 37 #[.pointer (some ⟨R, 0, none⟩), .int .i64 (i : Int), .agg #[.int .i64 day, .int .i64 k.l, .int .i64 k.n]] w fun e w' => e = .returned (.tuple #[]) ∧ ∃ L', L.Perm ((k, v) :: L') ∧ QAt R S ((⟨day, k.l, k.n⟩, v) :: L') w' ∧ Kp S w w') := fun w h => rename_at R bm g n cap S hp f w (k, v) i ⟨day, k.l, k.n⟩ L (by have := q.2; omega) h hs hi hf2
  clear q hs q1 hk hf hi h hlp
  go_enter Tryd.func22, Tryd.ntmps22
  go_upto_region 1 with fail
  go_region
  go_upto_region 7 with fail
  clear r1 EQ c1
  generalize ((w.alloc (.cells #[.int .i64 k.d, .int .i64 k.l, .int .i64 k.n] 24)).alloc (.cells #[.int .i64 day, .int .i64 k.l, .int .i64 k.n] 24)).drew = W2 at *
  generalize w.heap.size + 1 = Q at *
  have c1 : W2.drew.cell? ⟨R, 1, none⟩ = some (.map (some bm)) := D2.out.1.1.blk.cell 1 _ rfl
  have x0 : W2.drew.cell? ⟨Q, 0, none⟩ = some (.int .i64 day) := D2.out.2.2.cell 0 _ rfl
  have x1 : W2.drew.cell? ⟨Q, 1, none⟩ = some (.int .i64 k.l) := D2.out.2.2.cell 1 _ rfl
  have x2 : W2.drew.cell? ⟨Q, 2, none⟩ = some (.int .i64 k.n) := D2.out.2.2.cell 2 _ rfl
  have r2 : (Instr.lookup 51 (.map (some bm)) (.agg #[.int .i64 day, .int .i64 k.l, .int .i64 k.n]) true).run Tryd.prog W2.drew = .ok (.tuple #[.int .i64 0, .bool false]) W2.drew := by
    have := MapAt.look (w := W2.drew) D2.out.1.1.mp ⟨day, k.l, k.n⟩
    rw [hf2] at this
    exact this
  have D3 : Hid (QG R bm g n cap S hp f W2.drew ∧ Kp S w W2.drew) := ⟨⟨D2.out.1.1.below (Below.drew (Below.refl _ _)), D2.out.1.2⟩, Kp.of_below (Below.drew D2.out.2.1) S⟩
  clear D2 hf2 ht hd
  go_region
  go_wp2_with fail
  refine (RN.out _ D3.out.1).mono ?_
  rintro e w3 ⟨rfl, L', h1, h2, h3⟩
  have FN : Hid (∃ L', L.Perm ((k, v) :: L') ∧ QAt R S ((⟨day, k.l, k.n⟩, v) :: L') w3 ∧ Kp S w w3) := ⟨L', h1, h2, D3.out.2.trans h3 (fun _ _ h => h)⟩
  clear h1 h2 h3 D3 RN x0 x1 x2 c1
  go_wp2_with fail
  go_ret
  exact ⟨rfl, FN.out⟩
end TS
end Go.Proofs.YtfdehlfhnlgcjaaDoor
