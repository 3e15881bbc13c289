/-
  Ours: the book within a draft's cells; a new loan built.
-/
import Derived.Test.YtgdmkcbbomfmdaaGreatDoorLoCat
import Derived.Deep.CutRange
import Derived.Test.YtgdmkcbbomfmdaaGreatDoorLedPost
import Derived.Test.YtgdmkcbbomfmdaaGreatDoorLedCat
import Derived.Test.YtgdmkcbbomfmdaaGreatDoorLoAtt
namespace Go.Proofs.YtgdmkcbbomfmdaaGreatDoor
open Go.RowKit LedM LoM
theorem sizeBk (l : List Int) : (Tryz.prog.info? 31).map (·.size) = some (i12 l).length := by show _ = some 12; kernel_rfl
theorem i12_one (l : List Int) : ∀ v ∈ i12 l, v.oneCell' = true := ints_one (n := 12) (f := fun i => l.getD i 0) rfl
abbrev bkZ : List Value := [.int .i64 0, .int .i64 0, .int .i64 0, .int .i64 0, .int .i64 0, .int .i64 0, .int .i64 0, .int .i64 0, .int .i64 0, .int .i64 0, .int .i64 0, .int .i64 0]
set_option maxHeartbeats 4000000 in
theorem granted_ok (l : List Int) (w : World) : Calls Tryz.prog 47 #[.agg (i12 l).toArray, .int .i64 0] w fun e w' => e = .returned (.agg (i12 l).toArray) ∧ Below w.heap.size w w' := by
  have S1 : Hid (KD w [(w.heap.size, 31, i12 l), (w.heap.size + 1, 31, bkZ)] ((w.alloc (.cells (i12 l).toArray 31)).alloc (.cells #[.int .i64 0, .int .i64 0, .int .i64 0, .int .i64 0, .int .i64 0, .int .i64 0, .int .i64 0, .int .i64 0, .int .i64 0, .int .i64 0, .int .i64 0, .int .i64 0] 31))) := KD.two w _ _ _ bkZ
  go_enter Tryz.func47, Tryz.ntmps47
  go_upto_region 1 with fail
  generalize (w.alloc (.cells (i12 l).toArray 31)).alloc (.cells #[.int .i64 0, .int .i64 0, .int .i64 0, .int .i64 0, .int .i64 0, .int .i64 0, .int .i64 0, .int .i64 0, .int .i64 0, .int .i64 0, .int .i64 0, .int .i64 0] 31) = w1 at *
  go_wp2_with fail
  refine (insist_ok _).mono ?_
  rintro e w2 ⟨rfl, hw⟩
  subst hw
  go_wp2_with (first
    | ((with_reducible refine LoK.at_loadT 31 ?_); refine step_load rfl 31 _ rfl w.heap.size 0 rfl (i12 l) _ (Blk.all (S1.out.at 0 rfl)) Tryz.underlying31 rfl (sizeBk _) ?_)
    | ((with_reducible refine LoK.at_store ?_); refine step_store rfl 31 _ _ rfl (w.heap.size + 1) 0 31 bkZ (i12 l) rfl rfl (S1.out.at 1 rfl) (Nat.le_refl 12) (sizeBk _) (i12_one _) ?_; intro w3 nb gb))
  have S3 := S1.out.store 1 rfl (blk_over (n := 12) rfl rfl nb) gb
  refine ret_blk rfl rfl (w.heap.size + 1) 31 (i12 l) _ rfl (S3.at 1 rfl) Tryz.underlying31 rfl (sizeBk _) ?_
  exact ⟨rfl, S3.bb⟩
theorem granted_no (l : List Int) (k : Int) (hk : ¬ k = 0) (w : World) : Calls Tryz.prog 47 #[.agg (i12 l).toArray, .int .i64 k] w fun e w' => e = gaveUp k ∧ Below w.heap.size w w' := by
  go_enter Tryz.func47, Tryz.ntmps47
  go_wp2_with fail
  refine (insist_no k hk _).mono ?_
  rintro e w2 ⟨rfl, hw⟩
  subst hw
  go_wp2_with fail
  refine ⟨rfl, rfl, ?_⟩
  exact below_trans (below_alloc w _) (below_alloc _ _)
end Go.Proofs.YtgdmkcbbomfmdaaGreatDoor

namespace Go.Proofs.YtgdmkcbbomfmdaaGreatDoor
open Go.RowKit LedM LoM
namespace LedM
def nzE (es : List Ent) : List Ent := es.filter fun e => e.a != 0
theorem nzE_len (es : List Ent) : (nzE es).length ≤ es.length := List.length_filter_le _ _
theorem nzE_ok {es : List Ent} (h : ∀ e ∈ es, EntOk e) : ∀ e ∈ nzE es, EntOk e := fun e he => h e (List.mem_filter.1 he).1
theorem nzE_take {es : List Ent} {k : Nat} (h : k < es.length) : nzE (es.take (k + 1)) = nzE (es.take k) ++ (if ((eN es k).a != 0) = true then [eN es k] else []) := by
  rw [take_eN h]
  unfold nzE
  rw [List.filter_append, List.filter_cons, List.filter_nil]
theorem nzE_tlen (es : List Ent) (k : Nat) : (nzE (es.take k)).length ≤ k := Nat.le_trans (nzE_len _) (by rw [List.length_take]; omega)
end LedM
theorem bk_i12 : ∀ {l : List Int}, l.length = 12 → i12 l = bkL l
  | [_, _, _, _, _, _, _, _, _, _, _, _], _ => rfl
theorem grown_of {w w1 w2 : World} {G : Nat} (h : Below w.heap.size w w1) (g : w1.grownBy w2 (some G)) : w.grownBy w2 (some G) :=
  grownBy_trans ⟨h.os, h.tape, h.output, h.size, fun k hk _ => h.block k hk⟩ g
theorem rd_one {w : World} (x : Ent) : RdE (w.alloc (.cells (entL x).toArray 79)) (.slice (some ⟨w.heap.size, 0, none⟩) 1 1) [x] :=
  ⟨some ⟨w.heap.size, 0, none⟩, 1, rfl, Nat.le_refl _, (fun h => by cases h), fun i hi => ⟨w.heap.size, 0, rfl, by simp, by
    obtain rfl : i = 0 := by simpa using hi
    exact (Blk.new 79 (entL x) w).all⟩⟩
set_option maxRecDepth 20000 in
set_option maxHeartbeats 800000 in
theorem dpost_at (DB : Nat) (cs : List Value) (l : List Int) (es : List Ent) (v : Value) (w : World) (hl : BkOk l) (h70 : cs.length = 70) (hcs : (cs.drop 26).take 12 = bkL l) (hes : ∀ e ∈ es, EntOk e) (hn : es.length ≤ 1000000) (h : RdE w v es) (hT : TabD w) (hD : Blk DB 73 cs w) :
    Calls Tryz.prog 31 #[.pointer (some ⟨DB, 0, none⟩), v] w fun e w' =>
      (postE l (nzE es) = 0 ∧ e = .returned (.tuple #[]) ∧ Blk DB 73 (cs.take 26 ++ bkL (postB l (nzE es)) ++ cs.drop 38) w' ∧ w.grownBy w' (some DB)) ∨
      (¬ postE l (nzE es) = 0 ∧ e = gaveUp (postE l (nzE es)) ∧ Below w.heap.size w w') := by
  have PA : Hid (∀ w' v', Below w.heap.size w w' → RdE w' v' (nzE es) → Calls Tryz.prog 48 #[.agg (bkL l).toArray, v'] w' fun e w2 => e = .returned (.tuple #[.agg (bkL (postB l (nzE es))).toArray, .int .i64 (postE l (nzE es))]) ∧ Below w'.heap.size w' w2) := fun w' v' hb hr => post_at l _ v' w' hl (nzE_ok hes) (Nat.le_trans (nzE_len _) (by omega)) hr (hT.later hb)
  have ok' : BkOk (postB l (nzE es)) := postB_ok hl
  have GY : Hid (∀ w', Calls Tryz.prog 47 #[.agg (bkL (postB l (nzE es))).toArray, .int .i64 0] w' fun e w2 => e = .returned (.agg (bkL (postB l (nzE es))).toArray) ∧ Below w'.heap.size w' w2) := fun w' => by
    rw [← bk_i12 ok'.1]; exact granted_ok _ w'
  have GN : Hid (∀ w', ¬ postE l (nzE es) = 0 → Calls Tryz.prog 47 #[.agg (bkL (postB l (nzE es))).toArray, .int .i64 (postE l (nzE es))] w' fun e w2 => e = gaveUp (postE l (nzE es)) ∧ Below w'.heap.size w' w2) := fun w' hk => by
    rw [← bk_i12 ok'.1]; exact granted_no _ _ hk w'
  have BD : Hid (∀ w', Below w.heap.size w w' → Blk DB 73 cs w') := fun w' hb => hD.below hb
  have RG : Hid (∀ w', Below w.heap.size w w' → w'.rangeAt DB 26 (bkL l)) := fun w' hb => by
    have := (hD.below hb).range 26 12
    rwa [hcs] at this
  have RD : Hid (∀ w', Below w.heap.size w w' → RdE w' v es) := fun w' hb => h.later hb
  have OL : Hid ((bkL (postB l (nzE es))).length = 12) := by show _ = _; rw [bkL_len]; exact ok'.1
  obtain ⟨ao, cap, rfl, hcap, hno, _⟩ := h
  have CE : Hid (∀ w', Below w.heap.size w w' → ∀ i, i < es.length → ∃ g o, ao = some ⟨g, o, none⟩ ∧ w'.rangeAt g (o + i * 3) (entL (eN es i))) := fun w' hb i hi => by
    obtain ⟨ao', cap', e, _, _, H⟩ := RD.out w' hb
    injection e with e1 e2 e3
    subst e1
    obtain ⟨g, o, e, _, r⟩ := H i hi
    exact ⟨g, o, e, r⟩
  have NT : Hid (∀ k, k < es.length → nzE (es.take (k + 1)) = nzE (es.take k) ++ (if ((eN es k).a != 0) = true then [eN es k] else [])) := fun k hk => nzE_take hk
  have NE : Hid (nzE (es.take es.length) = nzE es) := by show _ = _; rw [List.take_length]
  have IB : Hid ((Tryz.prog.info? 31).map (·.size) = some (bkL l).length) := infoBl hl.1
  have IB' : Hid ((Tryz.prog.info? 31).map (·.size) = some (bkL (postB l (nzE es))).length) := infoBl ok'.1
  have H70 : Hid (cs.length = 70) := h70
  obtain ⟨L, hL⟩ : ∃ L, es.length = L := ⟨_, rfl⟩
  rw [hL] at hcap hn CE NT NE ⊢
  generalize postE l (nzE es) = K at *
  generalize postB l (nzE es) = l' at *
  clear RD hL hD hcs h70 hes hT hl ok'
  go_enter Tryz.func31, Tryz.ntmps31
  go_wp2_with fail
  go_loopw [4, 9] (fun ve vk wr => ∃ k : Nat, vk = .int .i64 (k : Int) ∧ k ≤ L ∧ RowE w.heap.size wr ve (nzE (es.take k)) ∧ Below w.heap.size w wr) (fun _ vk _ => L - (intOf vk).toNat)
  case atStart => exact ⟨0, rfl, by omega, RowE.nil _ _, Below.refl _ _⟩
  case round =>
    obtain ⟨k, rfl, hk, row, bb⟩ := hrel
    have BB : Hid (Below w.heap.size w wr) := bb
    have RW : Hid (RowE w.heap.size wr u4 (nzE (es.take k))) := row
    by_cases hlt : (k : Int) < (L : Int)
    · obtain ⟨g, o, rfl, rg⟩ := CE.out wr bb k (by omega)
      have nk := NT.out k (by omega)
      have NB : Hid (Blk wr.heap.size 79 [.int .i64 0, .int .i64 0, .int .i64 0] (wr.alloc (.cells #[.int .i64 0, .int .i64 0, .int .i64 0] 79))) := Blk.new 79 [.int .i64 0, .int .i64 0, .int .i64 0] wr
      have BA : Hid (Below w.heap.size w (wr.alloc (.cells #[.int .i64 0, .int .i64 0, .int .i64 0] 79)) ∧ w.heap.size ≤ wr.heap.size) := ⟨bb.alloc bb.size _, bb.size⟩
      have RA : Hid (wr.rangeAt g (o + k * 3) (entL (eN es k))) := rg
      have R2 : Hid (RowE w.heap.size (wr.alloc (.cells #[.int .i64 0, .int .i64 0, .int .i64 0] 79)) u4 (nzE (es.take k))) := row.later (below_alloc _ _)
      have hr : (k : Int) < (L : Int) := hlt
      have TL : Hid ((nzE (es.take k)).length ≤ k ∧ k ≤ 1000000) := ⟨nzE_tlen _ _, by omega⟩
      have NK : Hid (nzE (es.take (k + 1)) = nzE (es.take k) ++ (if ((eN es k).a != 0) = true then [eN es k] else [])) := nk
      clear rg bb row nk CE PA GY GN BD RG OL NT NE IB IB' H70
      generalize eN es k = x at *
      generalize nzE (es.take k) = ns at *
      obtain ⟨xd, xc, xa⟩ := x
      obtain ⟨q, hq⟩ : ∃ q, (xa != 0) = q := ⟨_, rfl⟩
      have NQ : Hid (nzE (es.take (k + 1)) = ns ++ (if q = true then [⟨xd, xc, xa⟩] else [])) := by rw [← hq]; exact NK.out
      clear NK
      cases q
      all_goals go_wp2_with (first
        | (refine step_load rfl 79 _ rfl g (o + k * 3) rfl (entL ⟨xd, xc, xa⟩) _ RA.out Tryz.underlying79 rfl (infoE _) ?_)
        | (refine step_load rfl 79 _ rfl wr.heap.size 0 rfl (entL ⟨xd, xc, xa⟩) _ N2.out.all Tryz.underlying79 rfl (infoE _) ?_)
        | (refine step_store rfl 79 _ _ rfl wr.heap.size 0 79 [.int .i64 0, .int .i64 0, .int .i64 0] (entL ⟨xd, xc, xa⟩) rfl rfl NB.out (Nat.le_refl _) (infoE _) (oneE _) ?_; intro w2 nb2 g2; have B2 : Hid (Below w.heap.size w w2) := below_row BA.out.1 g2 BA.out.2; have N2 : Hid (Blk wr.heap.size 79 (entL ⟨xd, xc, xa⟩) w2) := nb2; have R3 : Hid (RowE w.heap.size w2 u4 ns) := R2.out.kept g2 (fun g hv e => by have := RW.out.lt hv; injection e with e; omega); have c0 := N2.out.cell 0 _ rfl; have c1 := N2.out.cell 1 _ rfl; have c2 := N2.out.cell 2 _ rfl; clear nb2 g2 NB BA RA R2)
        | (at_builtin; refine wpList_catE rfl (.tmp 16) (.tmp 18) rfl w.heap.size u4 (.slice (some ⟨w2.heap.size, 0, none⟩) 1 1) ns [⟨xd, xc, xa⟩] rfl (R3.out.later (below_alloc _ _)) (Nat.le_trans B2.out.size (by simp)) rfl (rd_one _) (by have := TL.out; simp; omega) ?_; intro v' w3 r3 g3; have R4 : Hid (RowE w.heap.size w3 v' (ns ++ [⟨xd, xc, xa⟩])) := r3; have B3 : Hid (Below w.heap.size w w3) := (B2.out.alloc B2.out.size _).grown g3 (Nat.le_trans B2.out.size (by simp)) (fun j hj => R3.out.ge hj); clear r3 g3))
      · refine ⟨⟨k + 1, by go_num, by omega, ?_, B2.out⟩, by simp [intOf]; omega⟩
        have e := NQ.out
        simp at e
        rw [e]
        exact R3.out
      · exact absurd h (by simp [entL])
      · refine ⟨⟨k + 1, by go_num, by omega, ?_, B3.out⟩, by simp [intOf]; omega⟩
        have e := NQ.out
        simp at e
        rw [e]
        exact R4.out
    · obtain rfl : k = L := by omega
      have rd : RdE wr u4 (nzE es) := by have := row.rd; rwa [NE.out] at this
      clear row RW CE NT NE
      go_wp2_with (first
        | ((with_reducible refine LoK.at_loadT 31 ?_); refine step_load rfl 31 _ rfl DB 26 rfl (bkL l) _ (RG.out _ BB.out) Tryz.underlying31 rfl IB.out ?_))
      refine (PA.out _ _ BB.out rd).mono ?_
      rintro e w1 ⟨rfl, B1⟩
      have hb1 : Below w.heap.size w w1 := below_trans BB.out B1
      by_cases hK : K = 0
      · subst hK
        go_wp2_with fail
        refine (GY.out _).mono ?_
        rintro e w2 ⟨rfl, B2⟩
        have HB2 : Hid (Below w.heap.size w w2) := below_trans hb1 B2
        go_wp2_with (first
          | ((with_reducible refine LoK.at_store ?_); refine step_store rfl 31 _ _ rfl DB 26 73 cs (bkL l') rfl rfl (BD.out _ HB2.out) (by rw [OL.out, H70.out]; omega) IB'.out (bkL_one _) ?_; intro w3 nb g3))
        first | go_end0 | refine bodyPost_ret (results_none rfl _ _ _) rfl ?_
        rw [OL.out] at nb
        rw [List.append_assoc] at nb
        exact ⟨rfl, nb, grown_of HB2.out g3⟩
      · go_wp2_with fail
        refine (GN.out _ hK).mono ?_
        rintro e w2 ⟨rfl, B2⟩
        go_wp2_with fail
        exact ⟨rfl, .inr ⟨hK, rfl, below_trans hb1 B2⟩⟩
end Go.Proofs.YtgdmkcbbomfmdaaGreatDoor

namespace Go.Proofs.YtgdmkcbbomfmdaaGreatDoor
open Go.RowKit LedM CoM LoM
/-- A draft's cells by the policy, the loan and the rest: post's own form. -/
theorem dr_app {X : List Value} (L : Lo) (pa : List Int) (nt : Value) : drL X L pa nt = X ++ (lnL L ++ (i5 pa ++ [nt])) := rfl
theorem dr_len {X : List Value} (hX : X.length = 18) (L : Lo) (pa : List Int) (nt : Value) : (drL X L pa nt).length = 70 := by
  rw [dr_app, List.length_append, hX]; rfl
theorem dr_book {X : List Value} (hX : X.length = 18) (L : Lo) (pa : List Int) (nt : Value) : ((drL X L pa nt).drop 26).take 12 = i12 L.bk := by
  rw [dr_app, show 26 = X.length + 8 from by rw [hX], List.drop_length_add_append]
  rfl
theorem dr_set {X : List Value} (hX : X.length = 18) (L : Lo) (pa : List Int) (nt : Value) (b : List Int) : (drL X L pa nt).take 26 ++ i12 b ++ (drL X L pa nt).drop 38 = drL X { L with bk := b } pa nt := by
  rw [dr_app, dr_app, show 26 = X.length + 8 from by rw [hX], show 38 = X.length + 20 from by rw [hX], List.drop_length_add_append, List.take_length_add_append, List.append_assoc, List.append_assoc]
  rfl
theorem dr_pol {X : List Value} (hX : X.length = 18) (L : Lo) (pa : List Int) (nt : Value) {i : Nat} (hi : i < 18) : (drL X L pa nt)[i]? = X[i]? := by
  rw [dr_app, List.getElem?_append_left (by omega)]
/-- post at a draft: its book, or the whole given up. -/
theorem post_dr {X : List Value} (hX : X.length = 18) (DB : Nat) (L : Lo) (pa : List Int) (nt : Value) (es : List Ent) (v : Value) (w : World) (hl : BkOk L.bk) (hes : ∀ e ∈ es, EntOk e) (hn : es.length ≤ 1000000) (h : RdE w v es) (hT : TabD w) (hD : Blk DB 73 (drL X L pa nt) w) :
    Calls Tryz.prog 31 #[.pointer (some ⟨DB, 0, none⟩), v] w fun e w' =>
      (postE L.bk (nzE es) = 0 ∧ e = .returned (.tuple #[]) ∧ Blk DB 73 (drL X { L with bk := postB L.bk (nzE es) } pa nt) w' ∧ w.grownBy w' (some DB)) ∨
      (¬ postE L.bk (nzE es) = 0 ∧ e = gaveUp (postE L.bk (nzE es)) ∧ Below w.heap.size w w') := by
  refine (dpost_at DB (drL X L pa nt) L.bk es v w hl (dr_len hX L pa nt) ((dr_book hX L pa nt).trans (bk_i12 hl.1)) hes hn h hT hD).mono ?_
  rintro e w' (⟨h1, h2, h3, h4⟩ | h)
  · refine .inl ⟨h1, h2, ?_, h4⟩
    rw [← bk_i12 (postB_ok hl).1, dr_set hX] at h3
    exact h3
  · exact .inr h
/-- A loan that begins: its book, its time and its counters are zero. -/
def newL (id : Int) (tm : List Int) (pl : Value) (c : Cs) (s : Int) : Lo := ⟨id, tm, pl, [0, 0, 0, 0, 0, 0, 0, 0, 0, 0, 0, 0], c, s, 0, 0, [], false, 0, 0⟩
theorem built_new (id : Int) (tm : List Int) (a : Option Addr) (n m : Nat) (c : Cs) (s : Int) : Tryz.prog.built 37 [(0, .int .i64 id), (1, .agg (i6 tm).toArray), (2, .slice a n m), (4, .agg (csL c).toArray), (5, .int .i64 s)] = some (lnL (newL id tm (.slice a n m) c s)).toArray := by kernel_rfl
theorem build_new (id : Int) (tm : List Int) (a : Option Addr) (n m : Nat) (c : Cs) (s : Int) (w : World) : (Instr.build 37 #[(0, .int .i64 id), (1, .agg (i6 tm).toArray), (2, .slice a n m), (4, .agg (csL c).toArray), (5, .int .i64 s)]).run Tryz.prog w = .ok (.agg (lnL (newL id tm (.slice a n m) c s)).toArray) w := run_build w _ _ _ (built_new id tm a n m c s)
end Go.Proofs.YtgdmkcbbomfmdaaGreatDoor
