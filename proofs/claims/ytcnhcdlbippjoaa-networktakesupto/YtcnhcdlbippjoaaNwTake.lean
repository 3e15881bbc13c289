/-
  Ours: what the receiver takes.
-/
import Derived.Test.YtcnhcdlbippjoaaNwHo
namespace Go.Proofs.Ytcnhcdlbippjoaa
open Go.RowKit NwM

theorem infoAc : (Try.prog.info? 74).map (fun i => (i.zero, i.size, i.bytes)) = some (some (.agg #[.int .i64 0, .int .i64 0, .slice none 0 0]), 3, 40) := by kernel_rfl
/-- One more that was accepted. -/
theorem NetV.took1 {R bm : Nat} {S B : Nat → Prop} {t : Nt} {fv av : Value} {vs : List Value} {w w2 : World} {g n cp : Nat} {a : Ac} (h : NetV R bm S B (t.ac.map (·.id) ++ [a.id]) t fv av vs w) (hn : t.ac.length = n) (hk : known t a.id = false) (hb : Bd B w a.ba a.bn a.bc a.bs)
    (own : w2.ownsRow 0 74 3 (.slice (some ⟨g, 0, none⟩) (n + 1) cp) (n + 1) (t.ac.flatMap acL ++ acL a)) (gr : w.grownBy w2 av.ownBlock) (at' : av.ownBlock = some g ∨ w.heap.size ≤ g) :
    (∃ S', NPost R S B w (taken t a) S' B (w2.setCell ⟨R, 13, none⟩ (.slice (some ⟨g, 0, none⟩) (n + 1) cp))) ∧ w2.cell? ⟨R, 13, none⟩ = some av ∧ w2.frozen? ⟨R, 13, none⟩ = false := by
  have hg : ∀ x, (Value.slice (some ⟨g, 0, none⟩) (n + 1) cp).ownBlock = some x → av.ownBlock = some x ∨ w.heap.size ≤ x := fun x e => by
    have : g = x := by simpa [Value.ownBlock] using e
    rw [← this]; exact at'
  have hbd : ∀ q ∈ t.ac ++ [a], Bd B w q.ba q.bn q.bc q.bs := fun q hq => by
    rcases List.mem_append.1 hq with hq | hq
    · exact h.bq q hq
    · rw [List.mem_singleton.1 hq]; exact hb
  obtain ⟨h1, h2, h3, h4⟩ := h.took (av' := .slice (some ⟨g, 0, none⟩) (n + 1) cp) (xs := t.ac ++ [a]) (Kp.of_grown gr) (row3_push hn own) hg hbd
  refine ⟨⟨fun x => S x ∨ (Value.slice (some ⟨g, 0, none⟩) (n + 1) cp).ownBlock = some x, ⟨bm, fv, .slice (some ⟨g, 0, none⟩) (n + 1) cp, vs, ?_⟩, fun x hx => hx.elim .inl (fun e => ?_), fun _ h => .inl h, fun _ h => h, h2⟩, h3, h4⟩
  · have e : taken t a = { t with ac := t.ac ++ [a] } := by unfold taken; rw [hk]; rfl
    rw [e]
    show NetV R bm _ B ((t.ac ++ [a]).map (·.id)) _ _ _ _ _
    rw [List.map_append]
    exact h1
  · exact (hg x e).imp (h.sa x) id

set_option maxRecDepth 40000 in
set_option maxHeartbeats 4000000 in
theorem take_yes (R : Nat) (S B : Nat → Prop) (t : Nt) (w : World) (a : Ac) (h : NetAt R S B t w) (hk : known t a.id = true) :
    Calls Try.prog 37 #[.pointer (some ⟨R, 12, none⟩), .agg #[.int .i64 a.id, .int .i64 a.tk, .slice a.ba a.bn a.bc]] w fun e w' => e = .returned (.tuple #[]) ∧ ∃ S', NPost R S B w (taken t a) S' B w' := by
  have et : taken t a = t := by unfold taken; rw [hk]; rfl
  rw [et]
  have BA := below_alloc w (.cells #[.int .i64 a.id, .int .i64 a.tk, .slice a.ba a.bn a.bc] 74)
  have B1 := Blk.new 74 (acL a) w
  have D0 : Hid (NPost R S B w t S B (w.alloc (.cells #[.int .i64 a.id, .int .i64 a.tk, .slice a.ba a.bn a.bc] 74)) ∧ Blk w.heap.size 74 (acL a) (w.alloc (.cells #[.int .i64 a.id, .int .i64 a.tk, .slice a.ba a.bn a.bc] 74))) := ⟨NPost.refl h BA, B1⟩
  clear h BA B1
  obtain ⟨Q, hQ⟩ : ∃ Q, w.heap.size = Q := ⟨_, rfl⟩
  have HQ : Hid (w.heap.size = Q) := hQ
  rw [hQ] at D0
  go_enter Try.func37, Try.ntmps37
  go_upto_region 1 with fail
  clear hQ
  generalize w.alloc (.cells #[.int .i64 a.id, .int .i64 a.tk, .slice a.ba a.bn a.bc] 74) = w0 at *
  obtain ⟨bm, fv, av, vs, nv⟩ := D0.out.1.net
  have cm := nv.cm
  have ltR := nv.lt
  have ltQ := D0.out.2.lt
  have y0 := D0.out.2.cell 0 _ rfl
  have r0 : (Instr.lookup 48 (.map (some bm)) (.int .i64 a.id) true).run Try.prog w0.drew = .ok (.tuple #[.agg #[], .bool true]) w0.drew := by
    have := (nv.drewN 1).mp.look a.id
    rw [(decide_eq_true ((known_iff t a.id).1 hk))] at this
    exact this
  have r1 : (Instr.lookup 48 (.map (some bm)) (.int .i64 a.id) true).run Try.prog (w0.alloc (.cells #[] 90)).drew = .ok (.tuple #[.agg #[], .bool true]) (w0.alloc (.cells #[] 90)).drew := by
    have := (nv.below (Below.drew (below_alloc w0 (.cells #[] 90)))).mp.look a.id
    rw [decide_eq_true ((known_iff t a.id).1 hk)] at this
    exact this
  have F0 : Hid (∃ S', NPost R S B w t S' B (w0.alloc (.cells #[] 90)).drew) := ⟨S, D0.out.1.trans (NPost.refl D0.out.1.net (Below.drew (below_alloc _ _)))⟩
  clear nv D0
  go_region
  all_goals
    go_wp2_with fail
    refine bodyPost_ret_by (results_none rfl _ _ _) rfl ?_
    exact ⟨rfl, F0.out⟩

set_option maxRecDepth 40000 in
set_option maxHeartbeats 4000000 in
theorem take_no (R : Nat) (S B : Nat → Prop) (t : Nt) (w : World) (a : Ac) (h : NetAt R S B t w) (hk : known t a.id = false) (hb : Bd B w a.ba a.bn a.bc a.bs) (hsz : t.ac.length ≤ 1000000000000) :
    Calls Try.prog 37 #[.pointer (some ⟨R, 12, none⟩), .agg #[.int .i64 a.id, .int .i64 a.tk, .slice a.ba a.bn a.bc]] w fun e w' => e = .returned (.tuple #[]) ∧ ∃ S', NPost R S B w (taken t a) S' B w' := by
  obtain ⟨i0, hi0, hz0, hz1, hz2⟩ := info_parts infoAc
  have hS : Hid (∀ g, S g → g < w.heap.size) := fun g hg => h.s hg
  have BA := below_alloc w (.cells #[.int .i64 a.id, .int .i64 a.tk, .slice a.ba a.bn a.bc] 74)
  have B1 := Blk.new 74 (acL a) w
  have D0 : Hid (NPost R S B w t S B (w.alloc (.cells #[.int .i64 a.id, .int .i64 a.tk, .slice a.ba a.bn a.bc] 74)) ∧ Blk w.heap.size 74 (acL a) (w.alloc (.cells #[.int .i64 a.id, .int .i64 a.tk, .slice a.ba a.bn a.bc] 74)) ∧ Bd B (w.alloc (.cells #[.int .i64 a.id, .int .i64 a.tk, .slice a.ba a.bn a.bc] 74)) a.ba a.bn a.bc a.bs) := ⟨NPost.refl h BA, B1, hb.kp (Kp.of_below BA (fun _ => False)) (fun _ _ h => h)⟩
  clear h BA B1 hb
  obtain ⟨Q, hQ⟩ : ∃ Q, w.heap.size = Q := ⟨_, rfl⟩
  have HQ : Hid (w.heap.size = Q) := hQ
  rw [hQ] at D0
  obtain ⟨n, hn⟩ : ∃ n, t.ac.length = n := ⟨_, rfl⟩
  have HN : Hid (t.ac.length = n) := hn
  rw [hn] at hsz
  clear hn
  go_enter Try.func37, Try.ntmps37
  go_upto_region 1 with fail
  clear hQ
  generalize w.alloc (.cells #[.int .i64 a.id, .int .i64 a.tk, .slice a.ba a.bn a.bc] 74) = w0 at *
  obtain ⟨bm, fv, av, vs, nv⟩ := D0.out.1.net
  have NV : Hid (NetV R bm S B (t.ac.map (·.id)) t fv av vs w0) := nv
  have cm := nv.cm
  have ltR := nv.lt
  have ltQ := D0.out.2.1.lt
  have y0 := D0.out.2.1.cell 0 _ rfl
  have nk : a.id ∉ t.ac.map (·.id) := fun q => by rw [(known_iff t a.id).2 q] at hk; cases hk
  have r0 : (Instr.lookup 48 (.map (some bm)) (.int .i64 a.id) true).run Try.prog w0.drew = .ok (.tuple #[.agg #[], .bool false]) w0.drew := by
    have := (nv.drewN 1).mp.look a.id
    rw [(decide_eq_false nk)] at this
    exact this
  have r1 : (Instr.lookup 48 (.map (some bm)) (.int .i64 a.id) true).run Try.prog (w0.alloc (.cells #[] 90)).drew = .ok (.tuple #[.agg #[], .bool false]) (w0.alloc (.cells #[] 90)).drew := by
    have := (nv.below (Below.drew (below_alloc w0 (.cells #[] 90)))).mp.look a.id
    rw [decide_eq_false nk] at this
    exact this
  have D1 : Hid (NPost R S B w t S B (w0.alloc (.cells #[] 90)).drew ∧ Blk Q 74 (acL a) (w0.alloc (.cells #[] 90)).drew ∧ Bd B (w0.alloc (.cells #[] 90)).drew a.ba a.bn a.bc a.bs ∧ NetV R bm S B (t.ac.map (·.id)) t fv av vs (w0.alloc (.cells #[] 90)).drew) := by
    have b := Below.drew (below_alloc w0 (.cells #[] 90))
    exact ⟨D0.out.1.trans (NPost.refl D0.out.1.net b), D0.out.2.1.below b, D0.out.2.2.kp (Kp.of_below b (fun _ => False)) (fun _ _ h => h), nv.below b⟩
  clear nv D0
  go_region
  all_goals
    go_upto_region 3 with fail
    clear r0 r1 cm ltR ltQ y0 NV
    generalize (w0.alloc (.cells #[] 90)).drew = w1 at *
    have cm := D1.out.2.2.2.cm
    have ltR := D1.out.2.2.2.lt
    have ltQ := D1.out.2.1.lt
    have y0 := D1.out.2.1.cell 0 _ rfl
    obtain ⟨w2, r2, s2, g2⟩ := (D1.out.2.2.2.drewN 1).mp.put a.id nk
    have r2' : (Instr.mapUpdate 48 (.map (some bm)) (.int .i64 a.id) (.agg #[])).run Try.prog w1.drew = .ok () w2 := r2
    have D2 : Hid (Kp S w w2 ∧ Blk Q 74 (acL a) w2 ∧ Bd B w2 a.ba a.bn a.bc a.bs ∧ NetV R bm S B (t.ac.map (·.id) ++ [a.id]) t fv av vs w2) := by
      obtain ⟨n2, k2⟩ := (D1.out.2.2.2.drewN 1).key g2 s2
      have k2' : Kp S w1 w2 := k2.from_drewN
      refine ⟨D1.out.1.k.trans k2' (fun _ _ h => h), D1.out.2.1.kp k2' (fun hq => by have := hS.out _ hq; have := HQ.out; omega), D1.out.2.2.1.kp k2' (fun g hg => (D1.out.2.2.2.b g hg).2), n2⟩
    clear r2 s2 g2 D1
    go_region
    go_upto_region 4 with fail
    clear r2' cm ltR ltQ y0
    have ca := D2.out.2.2.2.ca
    have fa := D2.out.2.2.2.fz 13
    have ltR := D2.out.2.2.2.lt
    have ltQ := D2.out.2.1.lt
    have y0 := D2.out.2.1.cell 0 _ rfl
    have y1 := D2.out.2.1.cell 1 _ rfl
    have y2 := D2.out.2.1.cell 2 _ rfl
    have l1 : n + 1 ≤ maxLen := by unfold maxLen; omega
    have l2 : (n + 1) * 40 ≤ 140737488355328 := by omega
    have RW : Hid ((w2.alloc (.cells #[.int .i64 a.id, .int .i64 a.tk, .slice a.ba a.bn a.bc] 74)).drew.ownsRow 0 74 3 av n (t.ac.flatMap acL)) := by
      have := D2.out.2.2.2.acc
      unfold RowA Row3 at this
      rw [HN.out] at this
      exact World.ownsRow.alloc this _
    have NB : Hid (∀ j u, (acL a)[j]? = some u → (w2.alloc (.cells #[.int .i64 a.id, .int .i64 a.tk, .slice a.ba a.bn a.bc] 74)).drew.cell? ((⟨w2.heap.size, 0, none⟩ : Addr).add j) = some u) := World.news_of_block (cs := #[.int .i64 a.id, .int .i64 a.tk, .slice a.ba a.bn a.bc]) (t := 74) (fr := (0, 0)) (MapKept.heap_alloc w2 _).1
    have BD : Hid (Below w2.heap.size w2 (w2.alloc (.cells #[.int .i64 a.id, .int .i64 a.tk, .slice a.ba a.bn a.bc] 74)).drew) := Below.drew (below_alloc _ _)
    have N2 : Hid (NetV R bm S B (t.ac.map (·.id) ++ [a.id]) t fv av vs (w2.alloc (.cells #[.int .i64 a.id, .int .i64 a.tk, .slice a.ba a.bn a.bc] 74)).drew) := D2.out.2.2.2.below BD.out
    have Z2 : Hid ((w2.alloc (.cells #[.int .i64 a.id, .int .i64 a.tk, .slice a.ba a.bn a.bc] 74)).drew.heap.size = w2.heap.size + 1) := by show _ = _; simp
    go_region_law (refine step_append_lies _ rfl (.tmp 28) (.tmp 30) 30 rfl 0 74 i0 (.agg #[.int .i64 0, .int .i64 0, .slice none 0 0]) 3 40 Try.underlying30 hi0 hz0 hz1 hz2 rfl (by decide) av n (t.ac.flatMap acL) (by simp [Act.eval]) RW.out ⟨w2.heap.size, 0, none⟩ 1 1 (acL a) (by simp [Act.eval]) rfl NB.out (acL_one a) (by decide) l1 l2 (Nat.zero_le _) (w2.heap.size + 1) Z2.out ?_; intro g cp w3 hown hgrow hat hlt2; have PP := NetV.took1 (a := a) N2.out HN.out hk (D2.out.2.2.1.kp (Kp.of_below BD.out (fun _ => False)) (fun _ _ h => h)) hown hgrow (hat.imp id (fun e => by rw [Z2.out]; omega)); obtain ⟨p1, c2, f2⟩ := PP; have P1 : Hid (∃ S', NPost R S B w (taken t a) S' B (w3.setCell ⟨R, 13, none⟩ (.slice (some ⟨g, 0, none⟩) (n + 1) cp))) := (by obtain ⟨S', p1⟩ := p1; have k0 := D2.out.1.trans (Kp.of_below BD.out S) (fun _ _ h => h); exact ⟨S', p1.net, fun x hx => (p1.s x hx).imp id (fun q => Nat.le_trans k0.size q), fun x hx => (p1.b x hx).imp id (fun q => Nat.le_trans k0.size q), p1.bb, k0.trans p1.k (fun _ _ h => h)⟩); clear p1 hown hgrow hat)
    all_goals
      go_wp2_with fail
      go_end0
      exact ⟨rfl, P1.out⟩
theorem take_at (R : Nat) (S B : Nat → Prop) (t : Nt) (w : World) (a : Ac) (h : NetAt R S B t w) (hb : Bd B w a.ba a.bn a.bc a.bs) (hsz : t.ac.length ≤ 1000000000000) :
    Calls Try.prog 37 #[.pointer (some ⟨R, 12, none⟩), .agg #[.int .i64 a.id, .int .i64 a.tk, .slice a.ba a.bn a.bc]] w fun e w' => e = .returned (.tuple #[]) ∧ ∃ S', NPost R S B w (taken t a) S' B w' := by
  cases hk : known t a.id with
  | true => exact take_yes R S B t w a h hk
  | false => exact take_no R S B t w a h hk hb hsz
end Go.Proofs.Ytcnhcdlbippjoaa
