/-
  Ours: the document's wrong, move, posted (gen_lorw3.py).
-/
import Derived.Test.YtgdmkcbbomfmdaaGreatDoorLoRw2
namespace Go.Proofs.YtgdmkcbbomfmdaaGreatDoor
open Go.RowKit LedM CoM LoM PolM

set_option maxRecDepth 20000 in
set_option maxHeartbeats 4000000 in
theorem rwrong_at (k P r n s u : Int) (w : World) : Calls Tryz.prog 15 #[.agg #[.int .i64 k, .int .i64 P, .int .i64 r, .int .i64 n, .int .i64 s, .int .i64 u]] w fun e w' => e = .returned (.bool (!tmOk k P r n s u)) ∧ Below w.heap.size w w' := by
  have TB : Blk w.heap.size 26 [.int .i64 k, .int .i64 P, .int .i64 r, .int .i64 n, .int .i64 s, .int .i64 u] (w.alloc (.cells #[.int .i64 k, .int .i64 P, .int .i64 r, .int .i64 n, .int .i64 s, .int .i64 u] 26)) := Blk.new 26 [.int .i64 k, .int .i64 P, .int .i64 r, .int .i64 n, .int .i64 s, .int .i64 u] w
  have FIN : Hid (Below w.heap.size w (w.alloc (.cells #[.int .i64 k, .int .i64 P, .int .i64 r, .int .i64 n, .int .i64 s, .int .i64 u] 26))) := below_alloc _ _
  have c0 := TB.cell 0 _ rfl
  have c1 := TB.cell 1 _ rfl
  have c2 := TB.cell 2 _ rfl
  have c3 := TB.cell 3 _ rfl
  have c4 := TB.cell 4 _ rfl
  have c5 := TB.cell 5 _ rfl
  clear TB
  obtain ⟨K, hK⟩ : ∃ K, (!tmOk k P r n s u) = K := ⟨_, rfl⟩
  rw [hK]
  have HK : Hid ((!tmOk k P r n s u) = K) := hK
  clear hK
  by_cases h0 : k < 0
  · obtain rfl : K = true := by rw [← HK.out]; simp [tmOk]; omega
    clear HK
    go_enter Tryz.func15, Tryz.ntmps15
    go_wp2_with fail
    go_ret
    exact ⟨rfl, FIN.out⟩
  have d0 : decide (k < 0) = false := decide_eq_false h0
  by_cases h1 : 2 < k
  · obtain rfl : K = true := by rw [← HK.out]; simp [tmOk]; omega
    clear HK
    go_enter Tryz.func15, Tryz.ntmps15
    go_wp2_with fail
    go_ret
    exact ⟨rfl, FIN.out⟩
  have d1 : decide (2 < k) = false := decide_eq_false h1
  by_cases h2 : P < 1
  · obtain rfl : K = true := by rw [← HK.out]; simp [tmOk]; omega
    clear HK
    go_enter Tryz.func15, Tryz.ntmps15
    go_wp2_with fail
    go_ret
    exact ⟨rfl, FIN.out⟩
  have d2 : decide (P < 1) = false := decide_eq_false h2
  by_cases h3 : 10000000000000 < P
  · obtain rfl : K = true := by rw [← HK.out]; simp [tmOk]; omega
    clear HK
    go_enter Tryz.func15, Tryz.ntmps15
    go_wp2_with fail
    go_ret
    exact ⟨rfl, FIN.out⟩
  have d3 : decide (10000000000000 < P) = false := decide_eq_false h3
  by_cases h4 : r < 0
  · obtain rfl : K = true := by rw [← HK.out]; simp [tmOk]; omega
    clear HK
    go_enter Tryz.func15, Tryz.ntmps15
    go_wp2_with fail
    go_ret
    exact ⟨rfl, FIN.out⟩
  have d4 : decide (r < 0) = false := decide_eq_false h4
  by_cases h5 : 100000 < r
  · obtain rfl : K = true := by rw [← HK.out]; simp [tmOk]; omega
    clear HK
    go_enter Tryz.func15, Tryz.ntmps15
    go_wp2_with fail
    go_ret
    exact ⟨rfl, FIN.out⟩
  have d5 : decide (100000 < r) = false := decide_eq_false h5
  by_cases h6 : n < 1
  · obtain rfl : K = true := by rw [← HK.out]; simp [tmOk]; omega
    clear HK
    go_enter Tryz.func15, Tryz.ntmps15
    go_wp2_with fail
    go_ret
    exact ⟨rfl, FIN.out⟩
  have d6 : decide (n < 1) = false := decide_eq_false h6
  by_cases h7 : 120 < n
  · obtain rfl : K = true := by rw [← HK.out]; simp [tmOk]; omega
    clear HK
    go_enter Tryz.func15, Tryz.ntmps15
    go_wp2_with fail
    go_ret
    exact ⟨rfl, FIN.out⟩
  have d7 : decide (120 < n) = false := decide_eq_false h7
  by_cases h8 : s < 1
  · obtain rfl : K = true := by rw [← HK.out]; simp [tmOk]; omega
    clear HK
    go_enter Tryz.func15, Tryz.ntmps15
    go_wp2_with fail
    go_ret
    exact ⟨rfl, FIN.out⟩
  have d8 : decide (s < 1) = false := decide_eq_false h8
  by_cases h9 : 3652059 < s
  · obtain rfl : K = true := by rw [← HK.out]; simp [tmOk]; omega
    clear HK
    go_enter Tryz.func15, Tryz.ntmps15
    go_wp2_with fail
    go_ret
    exact ⟨rfl, FIN.out⟩
  have d9 : decide (3652059 < s) = false := decide_eq_false h9
  by_cases h10 : u < 0
  · obtain rfl : K = true := by rw [← HK.out]; simp [tmOk]; omega
    clear HK
    go_enter Tryz.func15, Tryz.ntmps15
    go_wp2_with fail
    go_ret
    exact ⟨rfl, FIN.out⟩
  have d10 : decide (u < 0) = false := decide_eq_false h10
  by_cases h11 : 3 < u
  · obtain rfl : K = true := by rw [← HK.out]; simp [tmOk]; omega
    clear HK
    go_enter Tryz.func15, Tryz.ntmps15
    go_wp2_with fail
    go_ret
    exact ⟨rfl, FIN.out⟩
  have d11 : decide (3 < u) = false := decide_eq_false h11
  obtain rfl : K = false := by rw [← HK.out]; simp [tmOk]; omega
  clear HK
  go_enter Tryz.func15, Tryz.ntmps15
  go_wp2_with fail
  go_ret
  exact ⟨rfl, FIN.out⟩
set_option maxRecDepth 20000 in
set_option maxHeartbeats 4000000 in
theorem rmove_nil (d c P : Int) (w : World) : Calls Tryz.prog 19 #[.slice none 0 0, .int .i64 d, .int .i64 c, .int .i64 P] w fun e w' => ∃ v, e = .returned v ∧ RowE w.heap.size w' v (nzE [⟨d, c, P⟩]) ∧ Below w.heap.size w w' := by
  by_cases h : P = 0
  · subst h
    have E0 : Hid (nzE [(⟨d, c, 0⟩ : LedM.Ent)] = []) := rfl
    go_enter Tryz.func19, Tryz.ntmps19
    go_wp2_with fail
    go_ret
    exact ⟨_, rfl, by rw [E0.out]; exact RowE.nil _ _, Below.refl _ _⟩
  · have hp : (P == 0) = false := by simp; exact h
    have E1 : Hid (nzE [(⟨d, c, P⟩ : LedM.Ent)] = [⟨d, c, P⟩]) := by show _ = _; unfold nzE; rw [List.filter_cons_of_pos (by simp; exact h)]; rfl
    have AL : Hid (Below w.heap.size w (w.alloc (.cells #[.int .i64 d, .int .i64 c, .int .i64 P] 79))) := below_alloc w _
    have ON : Hid (RdE (w.alloc (.cells #[.int .i64 d, .int .i64 c, .int .i64 P] 79)) (.slice (some ⟨w.heap.size, 0, none⟩) 1 1) [⟨d, c, P⟩]) := rd_one (w := w) ⟨d, c, P⟩
    go_enter Tryz.func19, Tryz.ntmps19
    go_wp2_with (at_builtin; refine wpList_catE rfl (.tmp 12) (.tmp 17) rfl w.heap.size (.slice none 0 0) (.slice (some ⟨w.heap.size, 0, none⟩) 1 1) [] [⟨d, c, P⟩] rfl (RowE.nil _ _) AL.out.size rfl ON.out (by simp) ?_; intro v5 w5 r5 g5; have R5 : Hid (RowE w.heap.size w5 v5 [⟨d, c, P⟩] ∧ Below w.heap.size w w5) := ⟨r5, AL.out.grown g5 AL.out.size (fun q hq => by cases hq)⟩; clear r5 g5)
    go_ret
    exact ⟨_, rfl, by rw [E1.out]; exact R5.out.1, R5.out.2⟩
theorem wk_book {X : List Value} (hX : X.length = 18) (L : Lo) (pa : List Int) (nt : Value) (er : Int) : ((wkL X L pa nt er).drop 26).take 12 = i12 L.bk := by
  unfold wkL
  rw [show 26 = X.length + 8 from by rw [hX], List.drop_length_add_append]
  rfl
theorem wk_putB {X : List Value} (hX : X.length = 18) (L : Lo) (pa : List Int) (nt : Value) (er : Int) (b : List Int) : (wkL X L pa nt er).take 26 ++ i12 b ++ (wkL X L pa nt er).drop 38 = wkL X { L with bk := b } pa nt er := by
  unfold wkL
  rw [show 26 = X.length + 8 from by rw [hX], show 38 = X.length + 20 from by rw [hX], List.drop_length_add_append, List.take_length_add_append, List.append_assoc, List.append_assoc]
  rfl
/-- A sheet behind a posting. -/
def pstL (L : Lo) (es : List LedM.Ent) (er : Int) : Lo := if er = 0 then { L with bk := postB L.bk es } else L
def pstE (L : Lo) (es : List LedM.Ent) (er : Int) : Int := if er = 0 then postE L.bk es else er
set_option maxRecDepth 20000 in
set_option maxHeartbeats 4000000 in
theorem rposted_at {X : List Value} (hX : X.length = 18) (hXo : ∀ v ∈ X, v.oneCell' = true) (L : Lo) (pa : List Int) (nt : Value) (er : Int) (es : List LedM.Ent) (v : Value) (w : World) (hp : L.pl.oneCell' = true) (hn : nt.oneCell' = true) (hl : BkOk L.bk) (hes : ∀ e ∈ es, EntOk e) (hlen : es.length ≤ 1048576) (h : RdE w v es) :
    Calls Tryz.prog 18 #[.agg (wkL X L pa nt er).toArray, v] w fun e w' => e = .returned (.agg (wkL X (pstL L es er) pa nt (pstE L es er)).toArray) ∧ Below w.heap.size w w' := by
  have S : Hid (KD w [(w.heap.size, 54, wkL X L pa nt er), (w.heap.size + 1, 54, zW)] ((w.alloc (.cells (wkL X L pa nt er).toArray 54)).alloc (.cells Tryz.zeroCells54 54))) := KD.two w _ _ (wkL X L pa nt er) zW
  have c70 := S.out.cell 0 70 rfl (.int .i64 er) (wk_err hX L pa nt er)
  have PO : Hid (∀ w', Below w.heap.size w w' → Calls Tryz.prog 40 #[.agg (i12 L.bk).toArray, v] w' fun e w2 => e = .returned (.tuple #[.agg (bkL (postB L.bk es)).toArray, .int .i64 (postE L.bk es)]) ∧ Below w'.heap.size w' w2) := fun w' b => by
    rw [bk_i12 hl.1]
    exact rpost_at L.bk es v w' hl hes hlen (h.later b)
  have OW : Hid (∀ b er', ∀ v ∈ wkL X { L with bk := b } pa nt er', v.oneCell' = true) := fun b er' => wk_one hXo hp hn
  have HX : Hid (X.length = 18) := hX
  have PB : Hid ((postB L.bk es).length = 12) := (postB_ok hl).1
  clear hXo hp hn h hl
  unfold pstL pstE
  by_cases h0 : er = 0
  · subst h0
    rw [if_pos rfl, if_pos rfl]
    obtain ⟨B, hB⟩ : ∃ B, postB L.bk es = B := ⟨_, rfl⟩
    obtain ⟨E, hE⟩ : ∃ E, postE L.bk es = E := ⟨_, rfl⟩
    rw [hB, hE] at PO
    rw [hB] at PB
    rw [hB, hE]
    clear hB hE
    go_enter Tryz.func18, Tryz.ntmps18
    go_upto_region 1 with fail
    generalize ((w.alloc (.cells (wkL X L pa nt 0).toArray 54)).alloc (.cells Tryz.zeroCells54 54)) = w0 at *
    have RB : Hid (w0.rangeAt w.heap.size 26 (i12 L.bk)) := by
      have := (S.out.at 0 rfl).range 26 12
      rw [wk_book HX.out] at this
      exact this
    have S12 : Hid ((Tryz.prog.info? 31).map (·.size) = some (i12 L.bk).length) := by show _ = some 12; kernel_rfl
    go_wp2_with (refine step_load rfl 31 _ rfl w.heap.size 26 rfl (i12 L.bk) _ RB.out Tryz.underlying31 rfl S12.out ?_)
    refine (PO.out w0 S.out.bb).mono ?_
    rintro e w1 ⟨rfl, b1⟩
    have S1 : Hid (KD w [(w.heap.size, 54, wkL X L pa nt 0), (w.heap.size + 1, 54, zW)] w1) := S.out.call b1
    clear PO RB S b1 c70
    have SB : Hid ((Tryz.prog.info? 31).map (·.size) = some (bkL B).length) := by show _ = _; rw [bkL_len, PB.out]; kernel_rfl
    have LB : Hid ((bkL B).length = 12) := by show _ = _; rw [bkL_len, PB.out]
    go_upto_region 4 with (refine step_store rfl 31 _ _ rfl w1.heap.size 0 31 (bkL zeroL) (bkL B) rfl rfl (Blk.new _ (bkL zeroL) w1) (by rw [LB.out]; exact Nat.le_refl 12) SB.out (bkL_one _) ?_; intro w2 nb2 g2; rw [store_all (by rw [LB.out]; rfl)] at nb2; have N2 : Hid (Blk w1.heap.size 31 (bkL B) w2 ∧ Below w1.heap.size w1 w2) := ⟨nb2, ((Below.refl _ _).alloc (Nat.le_refl _) _).grown g2 (by simp) (fun q e => by have e := Option.some.inj e; omega)⟩; clear nb2 g2)
    have S2 : Hid (KD w [(w.heap.size, 54, wkL X L pa nt 0), (w.heap.size + 1, 54, zW)] w2) := S1.out.call N2.out.2
    generalize w1.heap.size = GB at *
    clear S1
    go_upto_region 5 with (first
      | (refine step_load rfl 31 _ rfl GB 0 rfl (bkL B) _ N2.out.1.all Tryz.underlying31 rfl SB.out ?_)
      | (refine step_store rfl 31 _ _ rfl w.heap.size 26 54 (wkL X L pa nt 0) (bkL B) rfl rfl (S2.out.at 0 rfl) (by rw [wk_len HX.out, LB.out]; decide) SB.out (bkL_one _) ?_; intro w3 nb3 g3; rw [LB.out, ← bk_i12 PB.out, wk_putB HX.out] at nb3; have S3 : Hid (KD w [(w.heap.size, 54, wkL X { L with bk := B } pa nt 0), (w.heap.size + 1, 54, zW)] w3) := S2.out.store 0 rfl nb3 g3; clear nb3 g3))
    have c70 := S3.out.cell 0 70 rfl (.int .i64 0) (wk_err HX.out _ pa nt 0)
    have f70 := S3.out.fz 0 70 rfl
    have S4 : Hid (KD w [(w.heap.size, 54, wkL X { L with bk := B } pa nt E), (w.heap.size + 1, 54, zW)] (w3.setCell ⟨w.heap.size, 70, none⟩ (.int .i64 E))) := by
      have := S3.out.set 0 70 rfl (.int .i64 E)
      rw [wk_set HX.out] at this
      exact this
    clear S3 S2 N2
    have OE : Hid (∀ v ∈ wkL X { L with bk := B } pa nt E, v.oneCell' = true) := OW.out B E
    go_wp2_with (first
      | (refine step_load rfl 54 _ rfl w.heap.size 0 rfl (wkL X { L with bk := B } pa nt E) _ (S4.out.at 0 rfl).all Tryz.underlying54 rfl (wk_size HX.out _ _ _ _) ?_)
      | (refine step_store rfl 54 _ _ rfl (w.heap.size + 1) 0 54 zW (wkL X { L with bk := B } pa nt E) rfl rfl (S4.out.at 1 rfl) (by rw [wk_len HX.out]; exact Nat.le_refl 71) (wk_size HX.out _ _ _ _) OE.out ?_; intro w5 nb5 g5; rw [store_all (by rw [wk_len HX.out]; rfl)] at nb5; have N5 : Hid (Blk (w.heap.size + 1) 54 (wkL X { L with bk := B } pa nt E) w5 ∧ Below w.heap.size w w5) := ⟨nb5, S4.out.bb.grown g5 S4.out.bb.size (fun q e => by have e := Option.some.inj e; omega)⟩; clear nb5 g5))
    refine ret_blk rfl rfl (w.heap.size + 1) 54 (wkL X { L with bk := B } pa nt E) _ rfl N5.out.1 Tryz.underlying54 rfl (wk_size HX.out _ _ _ _) ?_
    exact ⟨rfl, N5.out.2⟩
  · rw [if_neg h0, if_neg h0]
    have h1 : (er != 0) = true := by simp; exact h0
    have OE : Hid (∀ v ∈ wkL X L pa nt er, v.oneCell' = true) := OW.out L.bk er
    clear PO
    go_enter Tryz.func18, Tryz.ntmps18
    go_upto_region 1 with fail
    generalize ((w.alloc (.cells (wkL X L pa nt er).toArray 54)).alloc (.cells Tryz.zeroCells54 54)) = w0 at *
    go_wp2_with (first
      | (refine step_load rfl 54 _ rfl w.heap.size 0 rfl (wkL X L pa nt er) _ (S.out.at 0 rfl).all Tryz.underlying54 rfl (wk_size HX.out _ _ _ _) ?_)
      | (refine step_store rfl 54 _ _ rfl (w.heap.size + 1) 0 54 zW (wkL X L pa nt er) rfl rfl (S.out.at 1 rfl) (by rw [wk_len HX.out]; exact Nat.le_refl 71) (wk_size HX.out _ _ _ _) OE.out ?_; intro w2 nb2 g2; rw [store_all (by rw [wk_len HX.out]; rfl)] at nb2; have N2 : Hid (Blk (w.heap.size + 1) 54 (wkL X L pa nt er) w2 ∧ Below w.heap.size w w2) := ⟨nb2, S.out.bb.grown g2 S.out.bb.size (fun q e => by have e := Option.some.inj e; omega)⟩; clear nb2 g2))
    refine ret_blk rfl rfl (w.heap.size + 1) 54 (wkL X L pa nt er) _ rfl N2.out.1 Tryz.underlying54 rfl (wk_size HX.out _ _ _ _) ?_
    exact ⟨rfl, N2.out.2⟩
end Go.Proofs.YtgdmkcbbomfmdaaGreatDoor
