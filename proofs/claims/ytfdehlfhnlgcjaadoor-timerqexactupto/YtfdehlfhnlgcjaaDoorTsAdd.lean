/-
  Ours: add.
-/
import Derived.Test.YtfdehlfhnlgcjaaDoorTsDn
import Derived.Deep.AppendLies
import Derived.Deep.RegionLaw
namespace Go.Proofs.YtfdehlfhnlgcjaaDoor
open Go.RowKit TqM

namespace TS
/-- A queue at R that holds L; S holds its blocks. -/
def QAt (R : Nat) (S : Nat → Prop) (L : List (Ky × ByteArray)) (w : World) : Prop := ∃ bm vh hp f, QV R bm S hp f vh w ∧ HS hp f L
/-- What a call leaves of a queue. -/
def QPost (R : Nat) (S : Nat → Prop) (w : World) (L : List (Ky × ByteArray)) (w' : World) : Prop := ∃ S', QAt R S' L w' ∧ (∀ g, S' g → S g ∨ w.heap.size ≤ g) ∧ Kp S w w'
theorem QAt.kp {R : Nat} {S M : Nat → Prop} {L : List (Ky × ByteArray)} {w w' : World} (h : QAt R S L w) (k : Kp M w w') (hm : ∀ g, S g → ¬ M g) : QAt R S L w' := by
  obtain ⟨bm, vh, hp, f, q, h⟩ := h
  exact ⟨bm, vh, hp, f, q.kp k hm, h⟩
theorem QAt.below {R : Nat} {S : Nat → Prop} {L : List (Ky × ByteArray)} {w w' : World} (h : QAt R S L w) (hb : Below w.heap.size w w') : QAt R S L w' := h.kp (Kp.of_below hb (fun _ => False)) (fun _ _ h => h)
theorem QAt.perm {R : Nat} {S : Nat → Prop} {L L' : List (Ky × ByteArray)} {w : World} (h : QAt R S L w) (p : L.Perm L') : QAt R S L' w := by
  obtain ⟨bm, vh, hp, f, q, h⟩ := h
  exact ⟨bm, vh, hp, f, q, h.ord, h.pls, h.perm.trans p⟩
theorem QAt.s {R : Nat} {S : Nat → Prop} {L : List (Ky × ByteArray)} {w : World} (h : QAt R S L w) : ∀ g, S g → g < w.heap.size := by
  obtain ⟨bm, vh, hp, f, q, h⟩ := h
  exact q.s
theorem QPost.refl {R : Nat} {S : Nat → Prop} {L : List (Ky × ByteArray)} {w w' : World} (h : QAt R S L w) (hb : Below w.heap.size w w') : QPost R S w L w' := ⟨S, h.below hb, fun _ h => .inl h, Kp.of_below hb _⟩

theorem cell_kp {w w' : World} {M : Nat → Prop} {x : Addr} {v : Value} (k : Kp M w w') (hm : ¬ M x.block) (h : w.cell? x = some v) : w'.cell? x = some v := by
  have hl := World.block_lt_of_cell? _ _ h
  rw [← h]
  simp only [World.cell?, k.block x.block hl hm]
theorem infoTm3 : (Tryd.prog.info? 66).map (fun i => (i.zero, i.size, i.bytes)) = some (some (.agg #[.int .i64 0, .int .i64 0, .int .i64 0, .string ⟨#[]⟩]), 4, 40) := by kernel_rfl

/-- A queue whose row has grown by one. -/
theorem QV.pushed {R bm : Nat} {S : Nat → Prop} {hp : List (Ky × ByteArray)} {f : Ky → Option Nat} {vh : Value} {w1 w2 : World} {g n cap : Nat} {t : Ky × ByteArray} (h : QV R bm S hp f vh w1) (hn : hp.length = n)
    (own : w2.ownsRow 0 66 4 (.slice (some ⟨g, 0, none⟩) (n + 1) cap) (n + 1) (hpL hp ++ tmL t)) (gr : w1.grownBy w2 vh.ownBlock) (at' : vh.ownBlock = some g ∨ w1.heap.size ≤ g) (hlt : g < w2.heap.size) :
    QG R bm g (n + 1) cap (fun x => S x ∨ x = g) (hp ++ [t]) f (w2.setCell ⟨R, 0, none⟩ (.slice (some ⟨g, 0, none⟩) (n + 1) cap)) ∧ Kp S w1 (w2.setCell ⟨R, 0, none⟩ (.slice (some ⟨g, 0, none⟩) (n + 1) cap)) ∧
    w2.cell? ⟨R, 0, none⟩ = some vh ∧ w2.frozen? ⟨R, 0, none⟩ = false ∧ (S g ∨ w1.heap.size ≤ g) := by
  have hR1 : R < w1.heap.size := h.blk.lt
  have hgR : g ≠ R := by
    rcases at' with h1 | h1
    · exact (h.sv g h1).2
    · omega
  have hgm : g ≠ bm := by
    rcases at' with h1 | h1
    · exact h.mv h1
    · have := h.mp.lt; omega
  have hSg : S g ∨ w1.heap.size ≤ g := by
    rcases at' with h1 | h1
    · exact .inl (h.sv g h1).1
    · exact .inr h1
  have nR : vh.ownBlock ≠ some R := fun e => (h.sv R e).2 rfl
  have nm : vh.ownBlock ≠ some bm := fun e => h.mv e rfl
  have B2 : Blk R 57 [vh, .map (some bm)] w2 := h.blk.grown gr nR
  have B3 := B2.set (i := 0) (.slice (some ⟨g, 0, none⟩) (n + 1) cap)
  have sg := setCell_grown w2 R 0 (.slice (some ⟨g, 0, none⟩) (n + 1) cap)
  have k2 : Kp S w1 w2 := (Kp.of_grown gr).mono (fun x _ e => (h.sv x e).1)
  have k3 : Kp S w1 (w2.setCell ⟨R, 0, none⟩ (.slice (some ⟨g, 0, none⟩) (n + 1) cap)) := k2.trans (Kp.of_grown sg) (fun x _ e => by injection e with e; subst e; exact h.sR)
  refine ⟨⟨⟨B3, ?_, ?_, ?_, .inl h.sR, .inl h.sm, ?_⟩, by simp [hn]⟩, k3, B2.cell 0 _ rfl, B2.fz 0, hSg⟩
  · have r : RowT w2 (.slice (some ⟨g, 0, none⟩) (n + 1) cap) (hp ++ [t]) := by
      unfold RowT
      rw [hpL_append, List.length_append, hn, show hpL [t] = tmL t from by simp [hpL]]
      exact own
    exact r.same (fun x hx => by
      have : x = g := by simpa [Value.ownBlock] using hx.symm
      subst this
      exact sg.block x hlt (fun e => hgR (by injection e)))
  · refine (h.mp.same (gr.block bm h.mp.lt (fun e => nm e.symm))).same (sg.block bm ?_ (fun e => h.mR (by injection e)))
    exact Nat.lt_of_lt_of_le h.mp.lt gr.size
  · rintro x (hx | rfl)
    · exact Nat.lt_of_lt_of_le (h.s x hx) k3.size
    · exact Nat.lt_of_lt_of_le hlt sg.size
  · intro x hx
    have : x = g := by simpa [Value.ownBlock] using hx.symm
    exact ⟨.inr this, by rw [this]; exact hgR⟩

set_option maxRecDepth 20000 in
set_option maxHeartbeats 2000000 in
theorem add_at (R bm : Nat) (S : Nat → Prop) (hp : List (Ky × ByteArray)) (f : Ky → Option Nat) (vh : Value) (w : World) (t : Ky × ByteArray) (L : List (Ky × ByteArray)) (hn : hp.length < 1000000000000) (h : QV R bm S hp f vh w) (hs : HS hp f L) (hf : f t.1 = none) :
    Calls Tryd.prog 29 #[.pointer (some ⟨R, 0, none⟩), tmV t] w fun e w' => e = .returned (.tuple #[]) ∧ QPost R S w (t :: L) w' := by
  obtain ⟨i0, hi, hz0, hz1, hz2⟩ := info_parts infoTm3
  have SE : Hid (∀ (R bm g n cap : Nat) (S : Nat → Prop) w (I : Int), I = (hp.length : Int) → n ≤ 1000000000000 → QG R bm g n cap S (hp ++ [t]) f w → GS (hp ++ [t]) f hp.length t.1 L → Calls Tryd.prog 52 #[.pointer (some ⟨R, 0, none⟩), .agg #[.int .i64 t.1.d, .int .i64 t.1.l, .int .i64 t.1.n, .string t.2], .int .i64 I] w fun e w' => e = .returned (.tuple #[]) ∧ ∃ hp' f', QG R bm g n cap S hp' f' w' ∧ HS hp' f' (t :: L) ∧ Kp S w w') := fun R bm g n cap S w I eI hn h hg => by rw [eI]; exact settle_at R bm g n cap S _ f w t _ L hn h hg
  have GG : Hid (GS (hp ++ [t]) f hp.length t.1 L) := hs.add hf
  have BA := below_alloc w (.cells #[.int .i64 t.1.d, .int .i64 t.1.l, .int .i64 t.1.n, .string t.2] 66)
  have h1 := h.below BA
  have B1 := Blk.new 66 (tmL t) w
  have D1 : Hid (QV R bm S hp f vh (w.alloc (.cells #[.int .i64 t.1.d, .int .i64 t.1.l, .int .i64 t.1.n, .string t.2] 66)) ∧ Blk w.heap.size 66 (tmL t) (w.alloc (.cells #[.int .i64 t.1.d, .int .i64 t.1.l, .int .i64 t.1.n, .string t.2] 66)) ∧ Kp S w (w.alloc (.cells #[.int .i64 t.1.d, .int .i64 t.1.l, .int .i64 t.1.n, .string t.2] 66)) ∧ (∀ g, S g → g < w.heap.size)) := ⟨h1, B1, Kp.of_below BA _, h.s⟩
  obtain ⟨n, hN⟩ : ∃ n, hp.length = n := ⟨_, rfl⟩
  have HN : Hid (hp.length = n) := hN
  rw [hN] at SE GG
  rw [hN] at hn
  have l1 : n + 1 ≤ maxLen := by unfold maxLen; omega
  have l2 : (n + 1) * 40 ≤ 140737488355328 := by omega
  have ltR : R < w.heap.size := h.s R h.sR
  clear h hs hf h1 B1 BA hN
  go_enter Tryd.func29, Tryd.ntmps29
  go_upto_region 1 with fail
  obtain ⟨Q, hQ⟩ : ∃ Q, w.heap.size = Q := ⟨_, rfl⟩
  rw [hQ] at D1 ltR ⊢
  have HQ : Hid (w.heap.size = Q) := hQ
  have W1 : Hid (Q < (w.alloc (.cells #[.int .i64 t.1.d, .int .i64 t.1.l, .int .i64 t.1.n, .string t.2] 66)).heap.size) := by show _ < _; rw [← hQ]; simp
  clear hQ
  generalize w.alloc (.cells #[.int .i64 t.1.d, .int .i64 t.1.l, .int .i64 t.1.n, .string t.2] 66) = W at *
  have c0 := D1.out.1.blk.cell 0 _ rfl
  have y0 := D1.out.2.1.cell 0 _ rfl
  have y1 := D1.out.2.1.cell 1 _ rfl
  have y2 := D1.out.2.1.cell 2 _ rfl
  have y3 := D1.out.2.1.cell 3 _ rfl
  have ltW : R < W.heap.size := D1.out.1.blk.lt
  have RW : Hid ((W.alloc (.cells #[.int .i64 t.1.d, .int .i64 t.1.l, .int .i64 t.1.n, .string t.2] 66)).drew.ownsRow 0 66 4 vh n (hpL hp)) := by
    have := D1.out.1.row
    unfold RowT at this
    rw [HN.out] at this
    exact World.ownsRow.alloc this _
  have NW : Hid (∀ j u, (tmL t)[j]? = some u → (W.alloc (.cells #[.int .i64 t.1.d, .int .i64 t.1.l, .int .i64 t.1.n, .string t.2] 66)).drew.cell? ((⟨W.heap.size, 0, none⟩ : Addr).add j) = some u) := World.news_of_block (cs := #[.int .i64 t.1.d, .int .i64 t.1.l, .int .i64 t.1.n, .string t.2]) (t := 66) (fr := (0, 0)) (MapKept.heap_alloc W _).1
  have Q2 : Hid (QV R bm S hp f vh (W.alloc (.cells #[.int .i64 t.1.d, .int .i64 t.1.l, .int .i64 t.1.n, .string t.2] 66)).drew) := D1.out.1.below (Below.drew (below_alloc _ _))
  have Z2 : Hid ((W.alloc (.cells #[.int .i64 t.1.d, .int .i64 t.1.l, .int .i64 t.1.n, .string t.2] 66)).drew.heap.size = W.heap.size + 1) := by show _ = _; simp
  have K2 : Hid (Kp S W (W.alloc (.cells #[.int .i64 t.1.d, .int .i64 t.1.l, .int .i64 t.1.n, .string t.2] 66)).drew) := Kp.of_below (Below.drew (below_alloc _ _)) _
  go_region_law (refine step_append_lies _ rfl (.tmp 8) (.tmp 10) 55 rfl 0 66 i0 (.agg #[.int .i64 0, .int .i64 0, .int .i64 0, .string ⟨#[]⟩]) 4 40 Tryd.underlying55 hi hz0 hz1 hz2 rfl (by decide) vh n (hpL hp) (by simp [Act.eval]) RW.out ⟨W.heap.size, 0, none⟩ 1 1 (tmL t) (by simp [Act.eval]) rfl NW.out (tmL_one t) (by decide) l1 l2 (Nat.zero_le _) (W.heap.size + 1) Z2.out ?_; intro g cp w2 hown hgrow hat hlt2; have PP := QV.pushed Q2.out HN.out hown hgrow (hat.imp id (fun e => by rw [Z2.out]; omega)) hlt2; obtain ⟨p1, p2, c2, f2, p3⟩ := PP; have P1 : Hid (QG R bm g (n + 1) cp (fun x => S x ∨ x = g) (hp ++ [t]) f (w2.setCell ⟨R, 0, none⟩ (.slice (some ⟨g, 0, none⟩) (n + 1) cp))) := p1; have P2 : Hid (Kp S W (w2.setCell ⟨R, 0, none⟩ (.slice (some ⟨g, 0, none⟩) (n + 1) cp)) ∧ (S g ∨ W.heap.size ≤ g)) := ⟨K2.out.trans p2 (fun _ _ h => h), by rw [Z2.out] at p3; exact p3.imp id (fun e => by omega)⟩; clear p1 p2 p3 hown hgrow hat)
  all_goals
    go_upto_region 2 with fail
    have D3 : Hid (Blk Q 66 (tmL t) (w2.setCell ⟨R, 0, none⟩ (.slice (some ⟨g, 0, none⟩) (n + 1) cp)) ∧ (S g ∨ W.heap.size ≤ g) ∧ Kp S w (w2.setCell ⟨R, 0, none⟩ (.slice (some ⟨g, 0, none⟩) (n + 1) cp)) ∧ ¬ (S Q ∨ Q = g) ∧ w.heap.size ≤ W.heap.size) := by
      refine ⟨D1.out.2.1.kp P2.out.1 (fun h => by have := D1.out.2.2.2 _ h; omega), P2.out.2, D1.out.2.2.1.trans P2.out.1 (fun _ _ h => h), ?_, D1.out.2.2.1.size⟩
      rintro (h | h)
      · have := D1.out.2.2.2 _ h; omega
      · rcases P2.out.2 with h1 | h1
        · have := D1.out.2.2.2 _ h1; omega
        · have := W1.out; omega
    clear P2 D1 c0 y0 y1 y2 y3 c2 f2 RW NW Q2 Z2 K2 hlt2 ltR ltW
    generalize w2.setCell ⟨R, 0, none⟩ (.slice (some ⟨g, 0, none⟩) (n + 1) cp) = W3 at *
    have S0 : Hid (W3.drew.cell? ⟨R, 0, none⟩ = some (.slice (some ⟨g, 0, none⟩) (n + 1) cp) ∧ W3.drew.cell? ⟨Q, 0, none⟩ = some (.int .i64 t.1.d) ∧ W3.drew.cell? ⟨Q, 1, none⟩ = some (.int .i64 t.1.l) ∧ W3.drew.cell? ⟨Q, 2, none⟩ = some (.int .i64 t.1.n) ∧ W3.drew.cell? ⟨Q, 3, none⟩ = some (.string t.2)) := ⟨P1.out.1.blk.cell 0 _ rfl, D3.out.1.cell 0 _ rfl, D3.out.1.cell 1 _ rfl, D3.out.1.cell 2 _ rfl, D3.out.1.cell 3 _ rfl⟩
    have P3 : Hid (QG R bm g (n + 1) cp (fun x => S x ∨ x = g) (hp ++ [t]) f W3.drew) := ⟨P1.out.1.below (Below.drew (Below.refl _ _)), P1.out.2⟩
    have n1 : n + 1 ≤ 1000000000000 := hn
    have wrn : IntKind.i64.wrap (n : Int) = (n : Int) := by simp [IntKind.wrap, IntKind.bits, IntKind.signed]; omega
    have KK : Hid (∀ w5 hp' f', QG R bm g (n + 1) cp (fun x => S x ∨ x = g) hp' f' w5 → Kp (fun x => S x ∨ x = g) W3.drew w5 → w5.cell? ⟨R, 0, none⟩ = some (.slice (some ⟨g, 0, none⟩) (n + 1) cp) ∧ w5.cell? ⟨Q, 0, none⟩ = some (.int .i64 t.1.d) ∧ w5.cell? ⟨Q, 1, none⟩ = some (.int .i64 t.1.l) ∧ w5.cell? ⟨Q, 2, none⟩ = some (.int .i64 t.1.n) ∧ w5.cell? ⟨Q, 3, none⟩ = some (.string t.2)) := fun w5 hp' f' q k => ⟨q.1.blk.cell 0 _ rfl, cell_kp k D3.out.2.2.2.1 S0.out.2.1, cell_kp k D3.out.2.2.2.1 S0.out.2.2.1, cell_kp k D3.out.2.2.2.1 S0.out.2.2.2.1, cell_kp k D3.out.2.2.2.1 S0.out.2.2.2.2⟩
    go_region_held3 (fun w' => w'.cell? ⟨R, 0, none⟩ = some (.slice (some ⟨g, 0, none⟩) (n + 1) cp) ∧ w'.cell? ⟨Q, 0, none⟩ = some (.int .i64 t.1.d) ∧ w'.cell? ⟨Q, 1, none⟩ = some (.int .i64 t.1.l) ∧ w'.cell? ⟨Q, 2, none⟩ = some (.int .i64 t.1.n) ∧ w'.cell? ⟨Q, 3, none⟩ = some (.string t.2)) (first | assumption | exact S0.out | exact KK.out _ _ _ q5 k5) (first
      | (go_at_call 52; refine (SE.out R bm g (n + 1) cp _ _ _ (by first | with_reducible rfl | with_reducible exact wrn) n1 P3.out GG.out).mono ?_; rintro e w5 ⟨rfl, hp', f', q5, h5, k5⟩))
    have FN : Hid (QPost R S w (t :: L) w5) := by
      refine ⟨fun x => S x ∨ x = g, ⟨bm, _, hp', f', q5.1, h5⟩, ?_, ?_⟩
      · rintro x (hx | rfl)
        · exact .inl hx
        · exact D3.out.2.1.imp id (fun h => Nat.le_trans D3.out.2.2.2.2 h)
      · have k4 : Kp (fun x => S x ∨ x = g) W3 w5 := ⟨k5.os, k5.tape, k5.output, k5.size, k5.block⟩
        refine D3.out.2.2.1.trans k4 ?_
        rintro x hx (h | rfl)
        · exact h
        · rcases D3.out.2.1 with h | h
          · exact h
          · have := D3.out.2.2.2.2; omega
    clear SE GG S0 P1 P3 KK D3
    go_wp2_with fail
    go_end0
    exact ⟨rfl, FN.out⟩
end TS
end Go.Proofs.YtfdehlfhnlgcjaaDoor
