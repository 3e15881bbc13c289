/-
  Ours: a message that is handed over.
-/
import Derived.Test.YtcnhcdlbippjoaaNwHand
import Derived.Test.YtcnhcdlbippjoaaAgCat
import Derived.Deep.Cut
namespace Go.Proofs.Ytcnhcdlbippjoaa
open Go.RowKit NwM

theorem infoPk : (Try.prog.info? 80).map (fun i => (i.zero, i.size, i.bytes)) = some (some (.agg #[.bool false, .int .i64 0, .slice none 0 0]), 3, 40) := by kernel_rfl
theorem flat_push {α : Type} (f : α → List Value) (xs : List α) (x : α) : (xs ++ [x]).flatMap f = xs.flatMap f ++ f x := by simp
theorem row3_push {α : Type} {e : TypeId} {f : α → List Value} {base n : Nat} {w : World} {v : Value} {xs : List α} {x : α} (hn : xs.length = n) (h : w.ownsRow base e 3 v (n + 1) (xs.flatMap f ++ f x)) : Row3 e f base w v (xs ++ [x]) := by
  unfold Row3
  rw [flat_push, List.length_append, hn]
  exact h
/-- One more message in a row. -/
theorem NetV.laid {R bm : Nat} {S B : Nat → Prop} {t : Nt} {fv av : Value} {vs : List Value} {w w2 : World} {g n cp d i : Nat} {p : Pk} {r : List Pk} (h : NetV R bm S B (t.ac.map (·.id)) t fv av vs w) (hi : i = (t.now + d) % 10) (hr : t.fl.getD i [] = r) (hn : r.length = n) (hb : Bd B w p.ba p.bn p.bc p.bs)
    (own : w2.ownsRow 0 80 3 (.slice (some ⟨g, 0, none⟩) (n + 1) cp) (n + 1) (r.flatMap pkL ++ pkL p)) (gr : w.grownBy w2 (vs.getD i undef).ownBlock) (at' : (vs.getD i undef).ownBlock = some g ∨ w.heap.size ≤ g) :
    (∃ S', NPost R S B w (lay1 p t d) S' B (w2.setCell ⟨R, 2 + i, none⟩ (.slice (some ⟨g, 0, none⟩) (n + 1) cp))) ∧ w2.cell? ⟨R, 2 + i, none⟩ = some (vs.getD i undef) ∧ w2.frozen? ⟨R, 2 + i, none⟩ = false := by
  have hi10 : i < 10 := by omega
  have hg : ∀ x, (Value.slice (some ⟨g, 0, none⟩) (n + 1) cp).ownBlock = some x → (vs.getD i undef).ownBlock = some x ∨ w.heap.size ≤ x := fun x e => by
    have : g = x := by simpa [Value.ownBlock] using e
    rw [← this]; exact at'
  have hbd : ∀ q ∈ r ++ [p], Bd B w q.ba q.bn q.bc q.bs := fun q hq => by
    rcases List.mem_append.1 hq with hq | hq
    · have hm : t.fl.getD i [] ∈ t.fl := by
        rw [List.getD_eq_getElem?_getD, List.getElem?_eq_getElem (by rw [h.lf]; exact hi10)]
        exact List.getElem_mem _
      rw [hr] at hm
      exact h.bp r hm q hq
    · rw [List.mem_singleton.1 hq]; exact hb
  obtain ⟨h1, h2, h3, h4⟩ := h.row (v' := .slice (some ⟨g, 0, none⟩) (n + 1) cp) (r := r ++ [p]) hi10 (Kp.of_grown gr) (row3_push hn own) hg hbd
  refine ⟨⟨fun x => S x ∨ (Value.slice (some ⟨g, 0, none⟩) (n + 1) cp).ownBlock = some x, ⟨bm, fv, av, vs.set i (.slice (some ⟨g, 0, none⟩) (n + 1) cp), ?_⟩, fun x hx => hx.elim .inl (fun e => ?_), fun _ h => .inl h, fun _ h => h, h2⟩, h3, h4⟩
  · have e : lay1 p t d = { t with fl := t.fl.set i (r ++ [p]) } := by unfold lay1; rw [← hi, hr]
    rw [e]
    exact h1
  · exact (hg x e).imp (h.sv i hi10 x) id

theorem foldl_snoc {α β : Type} (f : β → α → β) (b : β) (xs : List α) (k : Nat) (x : α) (h : xs[k]? = some x) : (xs.take (k + 1)).foldl f b = f ((xs.take k).foldl f b) x := by
  rw [List.take_add_one, h, List.foldl_append]
  rfl
theorem rd_at {w : World} {ao : Option Addr} {n c : Nat} {vs : List Value} (h : Rd w (.slice ao n c) vs) {i : Nat} {u : Value} (hu : vs[i]? = some u) : ∃ g o, ao = some ⟨g, o, none⟩ ∧ g < w.heap.size ∧ w.cell? ⟨g, o + i, none⟩ = some u := by
  obtain ⟨ao', c', e, h1, h2, h3⟩ := h
  obtain ⟨hi, rfl⟩ := List.getElem?_eq_some_iff.1 hu
  injection e with e _ _
  subst e
  exact h3 i hi

set_option maxRecDepth 40000 in
set_option maxHeartbeats 4000000 in
theorem handOver_at (R : Nat) (S B : Nat → Prop) (t : Nt) (w : World) (p : Pk) (h : NetAt R S B t w) (hb : Bd B w p.ba p.bn p.bc p.bs) (hsz : sz t ≤ 1000000000000) (hnow : t.now ≤ 1000000000000) :
    Calls Try.prog 38 #[.pointer (some ⟨R, 0, none⟩), .agg #[.bool p.ack, .int .i64 p.id, .slice p.ba p.bn p.bc]] w fun e w' => e = .returned (.tuple #[]) ∧ ∃ S', NPost R S B w (hand t p) S' B w' := by
  obtain ⟨i0, hi0, hz0, hz1, hz2⟩ := info_parts infoPk
  have hS : Hid (∀ g, S g → g < w.heap.size) := fun g hg => h.s hg
  have BA := below_alloc w (.cells #[.bool p.ack, .int .i64 p.id, .slice p.ba p.bn p.bc] 80)
  have B1 := Blk.new 80 (pkL p) w
  have NX : Hid (Calls Try.prog 44 #[.pointer (some ⟨R, 0, none⟩)] (w.alloc (.cells #[.bool p.ack, .int .i64 p.id, .slice p.ba p.bn p.bc] 80)) fun e w' => e = .returned (.int .i32 ((t.fs.headD 49 : Nat) : Int)) ∧ NPost R S B (w.alloc (.cells #[.bool p.ack, .int .i64 p.id, .slice p.ba p.bn p.bc] 80)) (fate1 t) S B w') := nextFate_at R S B t _ (h.below BA)
  have hF : isF (t.fs.headD 49) := by
    cases hfs : t.fs with
    | nil => exact .inr (.inr ⟨by decide, by decide⟩)
    | cons f fs => exact h.fok f (by rw [hfs]; simp)
  have eh : hand t p = (dl (t.fs.headD 49)).foldl (lay1 p) (fate1 t) := rfl
  have D0 : Hid (NPost R S B w t S B (w.alloc (.cells #[.bool p.ack, .int .i64 p.id, .slice p.ba p.bn p.bc] 80)) ∧ Blk w.heap.size 80 (pkL p) (w.alloc (.cells #[.bool p.ack, .int .i64 p.id, .slice p.ba p.bn p.bc] 80)) ∧ Bd B (w.alloc (.cells #[.bool p.ack, .int .i64 p.id, .slice p.ba p.bn p.bc] 80)) p.ba p.bn p.bc p.bs) := ⟨NPost.refl h BA, B1, hb.kp (Kp.of_below BA (fun _ => False)) (fun _ _ h => h)⟩
  have DL : Hid (∀ w', Calls Try.prog 43 #[.int .i32 ((t.fs.headD 49 : Nat) : Int)] w' (NewI w' (dl (t.fs.headD 49)))) := fun w' => delays_at _ w' hF
  have dok : Hid (∀ d ∈ dl (t.fs.headD 49), 1 ≤ d ∧ d ≤ 9) := fun d hd => dl_ok hF hd
  have dle : (dl (t.fs.headD 49)).length ≤ 2 := dl_len _
  rw [eh]
  have w1 : Hid (sz (fate1 t) ≤ 1000000000000 ∧ (fate1 t).now ≤ 1000000000000 ∧ wt (fate1 t) ≤ sz (fate1 t)) := ⟨hsz, hnow, by unfold sz; omega⟩
  generalize t.fs.headD 49 = f at *
  generalize dl f = ds at *
  generalize fate1 t = t1 at *
  clear h hb BA B1 hF eh hsz hnow
  obtain ⟨Q, hQ⟩ : ∃ Q, w.heap.size = Q := ⟨_, rfl⟩
  have HQ : Hid (w.heap.size = Q) := hQ
  rw [hQ] at D0
  go_enter Try.func38, Try.ntmps38
  go_upto_region 1 with fail
  clear hQ
  generalize w.alloc (.cells #[.bool p.ack, .int .i64 p.id, .slice p.ba p.bn p.bc] 80) = w0 at *
  go_wp2_with fail
  refine NX.out.mono ?_
  rintro e w3 ⟨rfl, n3⟩
  have N3 : Hid (NPost R S B w t1 S B w3 ∧ Blk Q 80 (pkL p) w3 ∧ Bd B w3 p.ba p.bn p.bc p.bs) := by
    refine ⟨D0.out.1.trans n3, D0.out.2.1.kp n3.k (fun hq => by have := hS.out _ hq; have := HQ.out; omega), D0.out.2.2.kp n3.k (fun g hg => (D0.out.1.net.b hg).2)⟩
  clear NX D0 n3
  go_wp2_with fail
  refine (DL.out w3).mono ?_
  rintro e W ⟨dv, rfl, rv, bv3⟩
  obtain ⟨ao, cap, rfl, -, -⟩ := (RowV.rd rv).len
  rw [List.length_map] at rv ⊢
  have NW : Hid (NPost R S B w t1 S B W ∧ Blk Q 80 (pkL p) W ∧ Bd B W p.ba p.bn p.bc p.bs ∧ Rd W (.slice ao ds.length cap) (ds.map (fun x => iv ((x : Nat) : Int))) ∧ (∀ g, (Value.slice ao ds.length cap).ownBlock = some g → ¬ S g)) := by
    refine ⟨N3.out.1.trans (NPost.refl N3.out.1.net bv3), N3.out.2.1.below bv3, N3.out.2.2.kp (Kp.of_below bv3 (fun _ => False)) (fun _ _ h => h), RowV.rd rv, fun g hg hs => ?_⟩
    have := RowV.block_ge rv hg
    have := hS.out g hs
    have := N3.out.1.k.size
    omega
  clear N3 DL rv bv3
  obtain ⟨L, hL⟩ : ∃ L, ds.length = L := ⟨_, rfl⟩
  have HL : Hid (ds.length = L) := hL
  rw [hL] at NW dle ⊢
  clear hL
  go_wp2_with fail
  go_loopw [11] (fun vk wr => ∃ k : Nat, ∃ Sk, vk = .int .i64 (k : Int) ∧ k ≤ L ∧ NPost R S B W ((ds.take k).foldl (lay1 p) t1) Sk B wr) (fun vk _ => L - (intOf vk).toNat)
  case atStart => exact ⟨0, S, rfl, by omega, NPost.refl NW.out.1.net (Below.refl _ _)⟩
  case round =>
    obtain ⟨k, Sk, rfl, hk, hp⟩ := hrel
    by_cases hlt : (k : Int) < (L : Int)
    · obtain ⟨d, hd⟩ : ∃ d, ds[k]? = some d := ⟨ds[k]'(by rw [HL.out]; omega), List.getElem?_eq_getElem _⟩
      have hdo := dok.out d (List.mem_of_getElem? hd)
      have FS : Hid ((ds.take (k + 1)).foldl (lay1 p) t1 = lay1 p ((ds.take k).foldl (lay1 p) t1) d) := foldl_snoc _ _ _ _ _ hd
      obtain ⟨ga, oa, rfl, lga, ca⟩ := rd_at (NW.out.2.2.2.1.kp hp.k NW.out.2.2.2.2) (i := k) (u := iv (d : Int)) (by rw [List.getElem?_map, hd]; rfl)
      unfold iv at ca
      have bq := NW.out.2.1.kp hp.k (fun hq => by have := hS.out _ hq; have := HQ.out; omega)
      have bb : Bd B wr p.ba p.bn p.bc p.bs := NW.out.2.2.1.kp hp.k (fun g hg => (NW.out.1.net.b hg).2)
      have y0 := bq.cell 0 _ rfl
      have y1 := bq.cell 1 _ rfl
      have y2 := bq.cell 2 _ rfl
      have ltQ := bq.lt
      have hnw : ((ds.take k).foldl (lay1 p) t1).now = t1.now := fold_now _ _ _
      have hwt := fold_wt p (ds.take k) t1 NW.out.1.net.lf
      have hkl : (ds.take k).length = k := by rw [List.length_take, HL.out]; omega
      have hwp : wp p ≤ 3 := by unfold wp; split <;> omega
      have hkw : k * wp p ≤ 2 * 3 := Nat.mul_le_mul (by omega) hwp
      have hwk : wt ((ds.take k).foldl (lay1 p) t1) ≤ 1000000000006 := by
        have := w1.out
        rw [hkl] at hwt
        omega
      have hn2 : ((ds.take k).foldl (lay1 p) t1).now ≤ 1000000000000 := by rw [hnw]; exact w1.out.2.1
      clear hwt hkl hwp hkw hnw
      generalize (ds.take k).foldl (lay1 p) t1 = tk at *
      obtain ⟨bm, fv, av, vs, nv⟩ := hp.net
      obtain ⟨i, hi⟩ : ∃ i, (tk.now + d) % 10 = i := ⟨_, rfl⟩
      have hi10 : i < 10 := by omega
      have cv := nv.cv hi10
      have c0 := nv.c0
      have fzR := nv.fz (2 + i)
      have ltR := nv.lt
      have rw0 := nv.rows i hi10
      obtain ⟨r, hr⟩ : ∃ r, tk.fl.getD i [] = r := ⟨_, rfl⟩
      obtain ⟨n, hn⟩ : ∃ n, r.length = n := ⟨_, rfl⟩
      have hn12 : n ≤ 1000000000006 := by have := row_len tk i; rw [hr, hn] at this; omega
      rw [hr] at rw0
      have HI : Hid (i = (tk.now + d) % 10 ∧ tk.fl.getD i [] = r ∧ r.length = n ∧ Bd B wr p.ba p.bn p.bc p.bs) := ⟨hi.symm, hr, hn, bb⟩
      have NV : Hid (NetV R bm Sk B (tk.ac.map (·.id)) tk fv av vs wr) := nv
      have HP : Hid (NPost R S B W tk Sk B wr) := hp
      have eT : Int.tmod ((tk.now : Int) + (d : Int)) 10 = ((i : Nat) : Int) := by rw [Int.tmod_eq_emod_of_nonneg (by omega)]; omega
      obtain ⟨m, hm⟩ : ∃ m : Nat, tk.now = m := ⟨_, rfl⟩
      rw [hm] at c0 hn2 eT
      have hd9 : d ≤ 9 := hdo.2
      have hi9 : i ≤ 9 := by omega
      have hii : ((i : Nat) : Int) < 10 := by omega
      clear nv hp hd hi hdo hr hn bb hwk bq hm
      obtain ⟨v, hv⟩ : ∃ v, vs.getD i undef = v := ⟨_, rfl⟩
      have HV : Hid (vs.getD i undef = v) := hv
      rw [hv] at cv rw0
      clear hv
      have l1 : n + 1 ≤ maxLen := by unfold maxLen; omega
      have l2 : (n + 1) * 40 ≤ 140737488355328 := by omega
      have RW : Hid ((wr.alloc (.cells #[.bool p.ack, .int .i64 p.id, .slice p.ba p.bn p.bc] 80)).drew.ownsRow 0 80 3 v n (r.flatMap pkL)) := by
        have := rw0
        unfold RowP Row3 at this
        rw [HI.out.2.2.1] at this
        exact World.ownsRow.alloc this _
      have NB : Hid (∀ j u, (pkL p)[j]? = some u → (wr.alloc (.cells #[.bool p.ack, .int .i64 p.id, .slice p.ba p.bn p.bc] 80)).drew.cell? ((⟨wr.heap.size, 0, none⟩ : Addr).add j) = some u) := World.news_of_block (cs := #[.bool p.ack, .int .i64 p.id, .slice p.ba p.bn p.bc]) (t := 80) (fr := (0, 0)) (MapKept.heap_alloc wr _).1
      have N2 : Hid (NetV R bm Sk B (tk.ac.map (·.id)) tk fv av vs (wr.alloc (.cells #[.bool p.ack, .int .i64 p.id, .slice p.ba p.bn p.bc] 80)).drew) := NV.out.below (Below.drew (below_alloc _ _))
      have Z2 : Hid ((wr.alloc (.cells #[.bool p.ack, .int .i64 p.id, .slice p.ba p.bn p.bc] 80)).drew.heap.size = wr.heap.size + 1) := by show _ = _; simp
      have BD : Hid (Below wr.heap.size wr (wr.alloc (.cells #[.bool p.ack, .int .i64 p.id, .slice p.ba p.bn p.bc] 80)).drew) := Below.drew (below_alloc _ _)
      clear rw0
      go_upto_region 5 with fail
      go_region_law (refine step_append_lies _ rfl (.tmp 29) (.tmp 31) 53 rfl 0 80 i0 (.agg #[.bool false, .int .i64 0, .slice none 0 0]) 3 40 Try.underlying53 hi0 hz0 hz1 hz2 rfl (by decide) v n (r.flatMap pkL) (by simp [Act.eval]) RW.out ⟨wr.heap.size, 0, none⟩ 1 1 (pkL p) (by simp [Act.eval]) rfl NB.out (pkL_one p) (by decide) l1 l2 (Nat.zero_le _) (wr.heap.size + 1) Z2.out ?_; intro g cp w2 hown hgrow hat hlt2; have PP := NetV.laid (p := p) N2.out HI.out.1 HI.out.2.1 HI.out.2.2.1 (HI.out.2.2.2.kp (Kp.of_below BD.out (fun _ => False)) (fun _ _ h => h)) hown (by rw [HV.out]; exact hgrow) (by rw [HV.out]; exact hat.imp id (fun e => by rw [Z2.out]; omega)); obtain ⟨p1, c2, f2⟩ := PP; rw [HV.out] at c2; have P1 : Hid (∃ S', NPost R S B W (lay1 p tk d) S' B (w2.setCell ⟨R, 2 + i, none⟩ (.slice (some ⟨g, 0, none⟩) (n + 1) cp))) := (by obtain ⟨S', p1⟩ := p1; exact ⟨S', HP.out.trans ((NPost.refl HP.out.net BD.out).trans p1)⟩); clear p1 hown hgrow hat)
      all_goals
        go_wp2_with fail
        go_roundw
        case rel =>
          obtain ⟨S', p1⟩ := P1.out
          refine ⟨k + 1, S', by go_num, by omega, ?_⟩
          rw [FS.out]; exact p1
        case measure => simp [intOf]; omega
    · obtain rfl : k = L := by omega
      have e1 : (ds.take k) = ds := List.take_of_length_le (by rw [HL.out]; exact Nat.le_refl _)
      rw [e1] at hp
      have FN : Hid (∃ S', NPost R S B w (ds.foldl (lay1 p) t1) S' B wr) := ⟨Sk, NW.out.1.trans hp⟩
      clear hp
      go_wp2_with fail
      go_end0
      exact ⟨rfl, FN.out⟩
end Go.Proofs.Ytcnhcdlbippjoaa
