/-
  Ours: the document's Open (gen_lorop.py).
-/
import Derived.Test.YtgdmkcbbomfmdaaGreatDoorLoRw3
namespace Go.Proofs.YtgdmkcbbomfmdaaGreatDoor
open Go.RowKit LedM CoM LoM PolM
set_option linter.unusedSimpArgs false

theorem rfresh14_at (w : World) : Calls Tryz.prog 17 #[] w fun e w' => e = .returned (.agg (csL fresh).toArray) ∧ Below w.heap.size w w' := by
  go_enter Tryz.func17, Tryz.ntmps17
  go_wp2_with fail
  refine ret_blk rfl rfl w.heap.size 33 (csL fresh) _ rfl (Blk.new _ _ _) Tryz.underlying33 rfl (by show _ = some 15; kernel_rfl) ?_
  exact ⟨rfl, below_alloc _ _⟩
theorem op_loadR {P : Program} {ops : Array Oper} {op : Oper} {a : Act} {wr : World} {K : Act → World → Prop} {Q : Exit → Act → World → Prop} {E : Prop} (hgd : op.guard = none) (ty : TypeId) (x : Operand) (ho : op.op = .load ty x)
    (G o : Nat) (hx : a.eval x = .pointer (some ⟨G, o, none⟩)) (cs : List Value) (d : TypeDesc) (hc : wr.rangeAt G o cs)
    (hu : P.underlying ty = some d) (hd : d.isRow = true) (hi : (P.info? ty).map (·.size) = some cs.length)
    (h : K (a.put op.dst (.agg cs.toArray)) wr) : if Region.wanted op (yielded ops a.tmps) = true then Oper.wp P op a wr K Q else E := by
  have hwd : Region.wanted op (yielded ops a.tmps) = true := by simp [Region.wanted, hgd]
  rw [if_pos hwd]
  exact wp_load_mid ty x ho G o hx cs d hc hu hd hi h
/-- A plan, or none, that lies in at most one block. -/
def PlO (o : Option (List (Int × Int × Int))) (ex : List (Nat × TypeId × List Value)) (v : Value) : Prop := (∃ rs, o = some rs ∧ PlX rs ex v) ∨ (o = none ∧ v = .slice none 0 0 ∧ ex = [])
theorem PlO.form {o : Option (List (Int × Int × Int))} {ex : List (Nat × TypeId × List Value)} {v : Value} (h : PlO o ex v) : ∃ a n c, v = .slice a n c := by
  rcases h with ⟨rs, _, ⟨rfl, _, _⟩ | ⟨g, cap, cs, rfl, _⟩⟩ | ⟨_, rfl, _⟩ <;> exact ⟨_, _, _, rfl⟩
theorem plO_px {base : Nat} {w w1 : World} {bs : List (Nat × TypeId × List Value)} {v : Value} {o : Option (List (Int × Int × Int))} (h : KD w bs w1) (r : PlanAns base w1 v o) (hb : w.heap.size ≤ base) (hn : ∀ q ∈ bs, q.1 < base) : ∃ ex, PlO o ex v ∧ Hid (KD w (bs ++ ex) w1) := by
  cases o with
  | none => exact ⟨[], .inr ⟨rfl, r, rfl⟩, by rw [List.append_nil]; exact h⟩
  | some rs =>
    obtain ⟨ex, p, k⟩ := rowI_px h r hb hn
    exact ⟨ex, .inl ⟨rs, rfl, p⟩, k⟩
def er1 (ge : Int) (b : Bool) (k : Int) : Int := if ge = 0 ∧ b = true then k else ge
theorem opn_fin {id k P r n s u : Int} {l hs : List Int} {w w' : World} {ge e2 e3 e4 : Int} {ib tb pb : Bool} {o : Option (List (Int × Int × Int))} {vo : Option Addr} {vn vc : Nat} {ex : List (Nat × TypeId × List Value)} {es : List LedM.Ent}
    (hge : ev (chk l hs) = ge) (hib : ib = !(decide (1 ≤ id) && decide (id ≤ 999999))) (htb : (!tmOk k P r n s u) = tb) (he2 : er1 ge ib 2 = e2) (he3 : er1 e2 tb 140 = e3) (ho : planO k P r n s u hs = o) (hpb : o.isSome = pb) (he4 : er1 e3 (!pb) 141 = e4) (hes : nzE [(⟨1, 6, P⟩ : LedM.Ent)] = es)
    (px : PlO o ex (.slice vo vn vc)) (b : Below w.heap.size w w') (hx : ∀ q ∈ ex, w.heap.size ≤ q.1 ∧ Blk q.1 q.2.1 q.2.2 w') :
    OpAns id k P r n s u l hs w (.returned (.agg (if pstE (newL id [k, P, r, n, s, u] (.slice vo vn vc) fresh s) es e4 = 0 then ouL (pstL (newL id [k, P, r, n, s, u] (.slice vo vn vc) fresh s) es e4) [] (.slice none 0 0) 0 else ouL lo0 [] (.slice none 0 0) (pstE (newL id [k, P, r, n, s, u] (.slice vo vn vc) fresh s) es e4)).toArray)) w' := by
  subst hes
  have key : (e4 = 0 ∧ ge = 0 ∧ opV id k P r n s u hs = 0 ∧ tmOk k P r n s u = true ∧ pb = true) ∨ (¬ e4 = 0 ∧ e4 = if ge = 0 then opV id k P r n s u hs else ge) := by
    have hO : opO k P r n s u hs = pb := by unfold opO; rw [ho, hpb]
    unfold opV
    rw [hO, ← he4, ← he3, ← he2, ← htb, hib]
    generalize (decide (1 ≤ id) && decide (id ≤ 999999)) = i
    generalize tmOk k P r n s u = t
    unfold er1 opK
    clear hge he2 he3 he4 hpb hO px hx b ho
    by_cases h : ge = 0
    · subst h; cases i <;> cases t <;> cases pb <;> simp
    · simp [h]
  rcases key with ⟨h4, hg, hv, ht, hp⟩ | ⟨h4, h5⟩
  · have E : pstE (newL id [k, P, r, n, s, u] (.slice vo vn vc) fresh s) (nzE [(⟨1, 6, P⟩ : LedM.Ent)]) e4 = 0 := by unfold pstE; rw [if_pos h4]; exact post_open ht
    have Lq : pstL (newL id [k, P, r, n, s, u] (.slice vo vn vc) fresh s) (nzE [(⟨1, 6, P⟩ : LedM.Ent)]) e4 = opnL id k P r n s u (.slice vo vn vc) := by
      unfold pstL opnL
      rw [if_pos h4]
      show ({ (newL id [k, P, r, n, s, u] (.slice vo vn vc) fresh s) with bk := postB [0, 0, 0, 0, 0, 0, 0, 0, 0, 0, 0, 0] (nzE [(⟨1, 6, P⟩ : LedM.Ent)]) } : Lo) = _
      rw [postB_open ht]
    rw [E, Lq, if_pos rfl]
    rcases px with ⟨rs, e1, p⟩ | ⟨e1, _⟩
    · exact ⟨_, 0, ex, rfl, b, .inl ⟨rfl, hge.trans hg, hv, rs, _, ho.trans e1, rfl, p, hx⟩⟩
    · rw [e1, hp] at hpb
      simp at hpb
  · have E : pstE (newL id [k, P, r, n, s, u] (.slice vo vn vc) fresh s) (nzE [(⟨1, 6, P⟩ : LedM.Ent)]) e4 = e4 := if_neg h4
    rw [E, if_neg h4]
    exact ⟨lo0, e4, [], rfl, b, .inr ⟨h4, rfl, by rw [hge]; exact h5⟩⟩
theorem wk_putL {X : List Value} (hX : X.length = 18) (L L' : Lo) (pa : List Int) (nt : Value) (er : Int) : (wkL X L pa nt er).take 18 ++ lnL L' ++ (wkL X L pa nt er).drop (18 + (lnL L').length) = wkL X L' pa nt er := by
  unfold wkL
  rw [show 18 + (lnL L').length = X.length + 46 from by rw [hX]; rfl, List.drop_length_add_append, show 18 = X.length + 0 from by rw [hX], List.take_length_add_append, List.take_zero, List.append_nil, List.append_assoc]
  rfl
set_option maxRecDepth 20000 in
set_option maxHeartbeats 8000000 in
/-- The sheet behind the document's three looks: its error, the plan. -/
theorem ropen_at {l hs : List Int} {a : Option Addr} {n0 c : Nat} (hl : l.length = 17) (id k P r n s u : Int) (w : World) (hP : i64 P) (hb : hs.length ≤ 1152921504606846976) (hr : Rd w (.slice a n0 c) (bkL hs)) :
    Calls Tryz.prog 7 #[.agg (polL l (.slice a n0 c)).toArray, .int .i64 id, .agg #[.int .i64 k, .int .i64 P, .int .i64 r, .int .i64 n, .int .i64 s, .int .i64 u]] w (OpAns id k P r n s u l hs w) := by
  have hX : (polL l (.slice a n0 c)).length = 18 := polL_len hl
  have OX : ∀ v ∈ polL l (.slice a n0 c), v.oneCell' = true := fun v hv => by
    rcases List.mem_append.1 hv with h | h
    · exact bkL_one _ v h
    · rw [List.mem_singleton.1 h]; rfl
  obtain ⟨sl, hn0⟩ := sl_of_rd hr (by omega)
  subst hn0
  have SL : Hid (∀ w', Below w.heap.size w w' → SlOk w' a hs) := fun w' b => sl.up b
  have BG : Hid (∀ w', Below w.heap.size w w' → Calls Tryz.prog 13 #[.agg (polL l (.slice a hs.length c)).toArray, .agg (lnL lo0).toArray] w' fun e w2 => e = .returned (.agg (wkL (polL l (.slice a hs.length c)) lo0 [] (.slice none 0 0) (ev (chk l hs))).toArray) ∧ Below w'.heap.size w' w2) := fun w' b => rbegin_nil hl lo0 w' (hr.later b) hb rfl
  have HOL : Hid ((polL l (.slice a hs.length c))[17]? = some (.slice a hs.length c)) := polL_hol hl
  have HX : Hid ((polL l (.slice a hs.length c)).length = 18) := hX
  have FA : Hid (∀ (L : Lo) (er q : Int) (b : Bool) (w' : World), L.pl.oneCell' = true → Calls Tryz.prog 14 #[.agg (wkL (polL l (.slice a hs.length c)) L [] (.slice none 0 0) er).toArray, .bool b, .int .i64 q] w' fun e w2 => e = .returned (.agg (wkL (polL l (.slice a hs.length c)) L [] (.slice none 0 0) (er1 er b q)).toArray) ∧ Below w'.heap.size w' w2) := fun L er q b w' hp => rfail_at hX OX L [] _ er q b w' hp rfl
  have OW : Hid (∀ (L : Lo) (er : Int), L.pl.oneCell' = true → ∀ v ∈ wkL (polL l (.slice a hs.length c)) L [] (.slice none 0 0) er, v.oneCell' = true) := fun L er hp => wk_one OX hp rfl
  have PSX : Hid (∀ (L : Lo) (er : Int) (es : List LedM.Ent) (v : Value) (w' : World), L.pl.oneCell' = true → BkOk L.bk → (∀ e ∈ es, EntOk e) → es.length ≤ 1048576 → RdE w' v es → Calls Tryz.prog 18 #[.agg (wkL (polL l (.slice a hs.length c)) L [] (.slice none 0 0) er).toArray, v] w' fun e w2 => e = .returned (.agg (wkL (polL l (.slice a hs.length c)) (pstL L es er) [] (.slice none 0 0) (pstE L es er)).toArray) ∧ Below w'.heap.size w' w2) := fun L er es v w' hp hl' he hn h => rposted_at hX OX L [] _ er es v w' hp rfl hl' he hn h
  have DN : Hid (∀ (L : Lo) (er : Int) (w' : World), L.pl.oneCell' = true → Calls Tryz.prog 20 #[.agg (wkL (polL l (.slice a hs.length c)) L [] (.slice none 0 0) er).toArray, .agg (lnL lo0).toArray] w' fun e w2 => e = .returned (.agg (if er = 0 then ouL L [] (.slice none 0 0) 0 else ouL lo0 [] (.slice none 0 0) er).toArray) ∧ Below w'.heap.size w' w2) := fun L er w' hp => rdone_nil hX L lo0 [] none 0 0 er w' hp rfl
  have SX : Hid ((Tryz.prog.info? 24).map (·.size) = some (polL l (.slice a hs.length c)).length) := by show _ = _; rw [hX]; kernel_rfl
  have siT : (Tryz.prog.info? 26).map (·.size) = some ([.int .i64 k, .int .i64 P, .int .i64 r, .int .i64 n, .int .i64 s, .int .i64 u] : List Value).length := by show _ = some 6; kernel_rfl
  have huT := Tryz.underlying26
  have S : Hid (KD w [(w.heap.size, 24, polL l (.slice a hs.length c)), (w.heap.size + 1, 26, [.int .i64 k, .int .i64 P, .int .i64 r, .int .i64 n, .int .i64 s, .int .i64 u]), (w.heap.size + 1 + 1, 41, zO)] (((w.alloc (.cells (polL l (.slice a hs.length c)).toArray 24)).alloc (.cells #[.int .i64 k, .int .i64 P, .int .i64 r, .int .i64 n, .int .i64 s, .int .i64 u] 26)).alloc (.cells #[.int .i64 0, .int .i64 0, .int .i64 0, .int .i64 0, .int .i64 0, .int .i64 0, .int .i64 0, .slice none 0 0, .int .i64 0, .int .i64 0, .int .i64 0, .int .i64 0, .int .i64 0, .int .i64 0, .int .i64 0, .int .i64 0, .int .i64 0, .int .i64 0, .int .i64 0, .int .i64 0, .int .i64 0, .bool false, .int .i64 0, .int .i64 0, .int .i64 0, .int .i64 0, .int .i64 0, .int .i64 0, .int .i64 0, .int .i64 0, .int .i64 0, .int .i64 0, .int .i64 0, .int .i64 0, .int .i64 0, .int .i64 0, .int .i64 0, .int .i64 0, .int .i64 0, .int .i64 0, .int .i64 0, .int .i64 0, .int .i64 0, .bool false, .int .i64 0, .int .i64 0, .int .i64 0, .int .i64 0, .int .i64 0, .int .i64 0, .int .i64 0, .slice none 0 0, .int .i64 0] 41))) := KD.three w _ _ _ (polL l (.slice a hs.length c)) [.int .i64 k, .int .i64 P, .int .i64 r, .int .i64 n, .int .i64 s, .int .i64 u] zO
  clear hr hX OX sl
  obtain ⟨ge, hge⟩ : ∃ ge, ev (chk l hs) = ge := ⟨_, rfl⟩
  rw [hge] at BG
  obtain ⟨X, hXX⟩ : ∃ X, polL l (.slice a hs.length c) = X := ⟨_, rfl⟩
  rw [hXX] at BG HOL HX FA OW PSX DN SX S
  rw [hXX]
  clear hXX
  have lob := lo0_build
  go_enter Tryz.func7, Tryz.ntmps7
  go_upto_region 1 with fail
  generalize (((w.alloc (.cells X.toArray 24)).alloc (.cells #[.int .i64 k, .int .i64 P, .int .i64 r, .int .i64 n, .int .i64 s, .int .i64 u] 26)).alloc (.cells #[.int .i64 0, .int .i64 0, .int .i64 0, .int .i64 0, .int .i64 0, .int .i64 0, .int .i64 0, .slice none 0 0, .int .i64 0, .int .i64 0, .int .i64 0, .int .i64 0, .int .i64 0, .int .i64 0, .int .i64 0, .int .i64 0, .int .i64 0, .int .i64 0, .int .i64 0, .int .i64 0, .int .i64 0, .bool false, .int .i64 0, .int .i64 0, .int .i64 0, .int .i64 0, .int .i64 0, .int .i64 0, .int .i64 0, .int .i64 0, .int .i64 0, .int .i64 0, .int .i64 0, .int .i64 0, .int .i64 0, .int .i64 0, .int .i64 0, .int .i64 0, .int .i64 0, .int .i64 0, .int .i64 0, .int .i64 0, .int .i64 0, .bool false, .int .i64 0, .int .i64 0, .int .i64 0, .int .i64 0, .int .i64 0, .int .i64 0, .int .i64 0, .slice none 0 0, .int .i64 0] 41)) = w0 at *
  have RP : Hid (w0.rangeAt w.heap.size 0 X) := (S.out.at 0 rfl).all
  go_wp2_with (refine step_load rfl 24 _ rfl w.heap.size 0 rfl X _ RP.out Tryz.underlying24 rfl SX.out ?_)
  refine (BG.out _ S.out.bb).mono ?_
  rintro e w1 ⟨rfl, b1⟩
  have S1 : Hid (KD w [(w.heap.size, 24, X), (w.heap.size + 1, 26, [.int .i64 k, .int .i64 P, .int .i64 r, .int .i64 n, .int .i64 s, .int .i64 u]), (w.heap.size + 1 + 1, 41, zO)] w1) := S.out.call b1
  clear S RP BG b1
  have S2 : Hid (KD w [(w.heap.size, 24, X), (w.heap.size + 1, 26, [.int .i64 k, .int .i64 P, .int .i64 r, .int .i64 n, .int .i64 s, .int .i64 u]), (w.heap.size + 1 + 1, 41, zO), (w1.heap.size, 54, zW)] (w1.alloc (.cells Tryz.zeroCells54 54))) := S1.out.new 54 zW
  go_upto_region 2 with (refine step_store rfl 54 _ _ rfl w1.heap.size 0 54 zW (wkL X lo0 [] (.slice none 0 0) ge) rfl rfl (S2.out.at 3 rfl) (by rw [wk_len HX.out]; exact Nat.le_refl 71) (wk_size HX.out _ _ _ _) (OW.out _ _ rfl) ?_; intro w2 nb2 g2; rw [store_all (by rw [wk_len HX.out]; rfl)] at nb2; have S3 : Hid (KD w [(w.heap.size, 24, X), (w.heap.size + 1, 26, [.int .i64 k, .int .i64 P, .int .i64 r, .int .i64 n, .int .i64 s, .int .i64 u]), (w.heap.size + 1 + 1, 41, zO), (w1.heap.size, 54, wkL X lo0 [] (.slice none 0 0) ge)] w2) := S2.out.store 3 rfl nb2 g2; clear nb2 g2)
  clear S1 S2
  generalize w1.heap.size = GW at *
  simp only [Act.put]
  have IDB : Hid ((decide (id < 1) || decide (999999 < id)) = !(decide (1 ≤ id) && decide (id ≤ 999999))) := by
    show _ = _
    by_cases h1 : 1 ≤ id <;> by_cases h2 : id ≤ 999999 <;> simp [h1, h2] <;> omega
  obtain ⟨ib, hib⟩ : ∃ ib, (decide (id < 1) || decide (999999 < id)) = ib := ⟨_, rfl⟩
  rw [hib] at IDB
  have FC : Hid (∀ w', Calls Tryz.prog 14 #[.agg (wkL X lo0 [] (.slice none 0 0) ge).toArray, .bool ib, .int .i64 2] w' fun e w2 => e = .returned (.agg (wkL X lo0 [] (.slice none 0 0) (er1 ge ib 2)).toArray) ∧ Below w'.heap.size w' w2) := fun w' => FA.out lo0 ge 2 ib w' rfl
  have KS : Hid (∀ w' er, KD w [(w.heap.size, 24, X), (w.heap.size + 1, 26, [.int .i64 k, .int .i64 P, .int .i64 r, .int .i64 n, .int .i64 s, .int .i64 u]), (w.heap.size + 1 + 1, 41, zO), (GW, 54, wkL X lo0 [] (.slice none 0 0) ge)] w' → ∀ w4, Blk GW 54 (wkL X lo0 [] (.slice none 0 0) er) w4 → w'.grownBy w4 (some GW) → KD w [(w.heap.size, 24, X), (w.heap.size + 1, 26, [.int .i64 k, .int .i64 P, .int .i64 r, .int .i64 n, .int .i64 s, .int .i64 u]), (w.heap.size + 1 + 1, 41, zO), (GW, 54, wkL X lo0 [] (.slice none 0 0) er)] w4) := fun w' er h w4 nb g => h.store 3 rfl nb g
  have REG : Hid (∀ w', w' = w2 → w'.rangeAt GW 0 (wkL X lo0 [] (.slice none 0 0) ge)) := fun w' e => by rw [e]; exact (S3.out.at 3 rfl).all
  go_cut [7] from 13 to 20 (fun v7 wx => v7 = .pointer (some ⟨GW, 0, none⟩) ∧ Hid (KD w [(w.heap.size, 24, X), (w.heap.size + 1, 26, [.int .i64 k, .int .i64 P, .int .i64 r, .int .i64 n, .int .i64 s, .int .i64 u]), (w.heap.size + 1 + 1, 41, zO), (GW, 54, wkL X lo0 [] (.slice none 0 0) (er1 ge ib 2))] wx))
  case first =>
    have RW3 : Hid (w2.rangeAt GW 0 (wkL X lo0 [] (.slice none 0 0) ge)) := (S3.out.at 3 rfl).all
    have FCC : Hid (Calls _ _ _ _ _) := FC.out w2
    have SW : Hid (∀ w3, Below w2.heap.size w2 w3 → KD w [(w.heap.size, 24, X), (w.heap.size + 1, 26, [.int .i64 k, .int .i64 P, .int .i64 r, .int .i64 n, .int .i64 s, .int .i64 u]), (w.heap.size + 1 + 1, 41, zO), (GW, 54, wkL X lo0 [] (.slice none 0 0) ge)] w3) := fun w3 b => S3.out.call b
    clear FC FA PSX DN SL KS REG
    by_cases h1 : id < 1
    · obtain rfl : ib = true := by rw [← hib]; simp; exact .inl h1
      clear hib IDB S3
      go_wp2_with (refine step_load rfl 54 _ rfl GW 0 rfl (wkL X lo0 [] (.slice none 0 0) ge) _ RW3.out Tryz.underlying54 rfl (wk_size HX.out _ _ _ _) ?_)
      refine FCC.out.mono ?_
      rintro e w3 ⟨rfl, b3⟩
      have S4 : Hid (KD w [(w.heap.size, 24, X), (w.heap.size + 1, 26, [.int .i64 k, .int .i64 P, .int .i64 r, .int .i64 n, .int .i64 s, .int .i64 u]), (w.heap.size + 1 + 1, 41, zO), (GW, 54, wkL X lo0 [] (.slice none 0 0) ge)] w3) := SW.out w3 b3
      clear b3 FCC SW RW3
      go_wp2_with (refine step_store rfl 54 _ _ rfl GW 0 54 (wkL X lo0 [] (.slice none 0 0) ge) (wkL X lo0 [] (.slice none 0 0) (er1 ge true 2)) rfl rfl (S4.out.at 3 rfl) (by rw [wk_len HX.out, wk_len HX.out]; exact Nat.le_refl 71) (wk_size HX.out _ _ _ _) (OW.out _ _ rfl) ?_; intro w4 nb4 g4; rw [store_all (by rw [wk_len HX.out, wk_len HX.out])] at nb4; have S5 : Hid (KD w [(w.heap.size, 24, X), (w.heap.size + 1, 26, [.int .i64 k, .int .i64 P, .int .i64 r, .int .i64 n, .int .i64 s, .int .i64 u]), (w.heap.size + 1 + 1, 41, zO), (GW, 54, wkL X lo0 [] (.slice none 0 0) (er1 ge true 2))] w4) := S4.out.store 3 rfl nb4 g4; clear nb4 g4 S4)
      go_meet
      exact ⟨rfl, S5⟩
    · by_cases h2 : 999999 < id
      · obtain rfl : ib = true := by rw [← hib]; simp; exact .inr h2
        clear hib IDB S3
        go_wp2_with (refine step_load rfl 54 _ rfl GW 0 rfl (wkL X lo0 [] (.slice none 0 0) ge) _ RW3.out Tryz.underlying54 rfl (wk_size HX.out _ _ _ _) ?_)
        refine FCC.out.mono ?_
        rintro e w3 ⟨rfl, b3⟩
        have S4 : Hid (KD w [(w.heap.size, 24, X), (w.heap.size + 1, 26, [.int .i64 k, .int .i64 P, .int .i64 r, .int .i64 n, .int .i64 s, .int .i64 u]), (w.heap.size + 1 + 1, 41, zO), (GW, 54, wkL X lo0 [] (.slice none 0 0) ge)] w3) := SW.out w3 b3
        clear b3 FCC SW RW3
        go_wp2_with (refine step_store rfl 54 _ _ rfl GW 0 54 (wkL X lo0 [] (.slice none 0 0) ge) (wkL X lo0 [] (.slice none 0 0) (er1 ge true 2)) rfl rfl (S4.out.at 3 rfl) (by rw [wk_len HX.out, wk_len HX.out]; exact Nat.le_refl 71) (wk_size HX.out _ _ _ _) (OW.out _ _ rfl) ?_; intro w4 nb4 g4; rw [store_all (by rw [wk_len HX.out, wk_len HX.out])] at nb4; have S5 : Hid (KD w [(w.heap.size, 24, X), (w.heap.size + 1, 26, [.int .i64 k, .int .i64 P, .int .i64 r, .int .i64 n, .int .i64 s, .int .i64 u]), (w.heap.size + 1 + 1, 41, zO), (GW, 54, wkL X lo0 [] (.slice none 0 0) (er1 ge true 2))] w4) := S4.out.store 3 rfl nb4 g4; clear nb4 g4 S4)
        go_meet
        exact ⟨rfl, S5⟩
      · obtain rfl : ib = false := by rw [← hib]; simp; omega
        have d1 : decide (id < 1) = false := decide_eq_false h1
        have d2 : decide (999999 < id) = false := decide_eq_false h2
        clear hib IDB S3
        go_wp2_with (refine step_load rfl 54 _ rfl GW 0 rfl (wkL X lo0 [] (.slice none 0 0) ge) _ RW3.out Tryz.underlying54 rfl (wk_size HX.out _ _ _ _) ?_)
        refine FCC.out.mono ?_
        rintro e w3 ⟨rfl, b3⟩
        have S4 : Hid (KD w [(w.heap.size, 24, X), (w.heap.size + 1, 26, [.int .i64 k, .int .i64 P, .int .i64 r, .int .i64 n, .int .i64 s, .int .i64 u]), (w.heap.size + 1 + 1, 41, zO), (GW, 54, wkL X lo0 [] (.slice none 0 0) ge)] w3) := SW.out w3 b3
        clear b3 FCC SW RW3
        go_wp2_with (refine step_store rfl 54 _ _ rfl GW 0 54 (wkL X lo0 [] (.slice none 0 0) ge) (wkL X lo0 [] (.slice none 0 0) (er1 ge false 2)) rfl rfl (S4.out.at 3 rfl) (by rw [wk_len HX.out, wk_len HX.out]; exact Nat.le_refl 71) (wk_size HX.out _ _ _ _) (OW.out _ _ rfl) ?_; intro w4 nb4 g4; rw [store_all (by rw [wk_len HX.out, wk_len HX.out])] at nb4; have S5 : Hid (KD w [(w.heap.size, 24, X), (w.heap.size + 1, 26, [.int .i64 k, .int .i64 P, .int .i64 r, .int .i64 n, .int .i64 s, .int .i64 u]), (w.heap.size + 1 + 1, 41, zO), (GW, 54, wkL X lo0 [] (.slice none 0 0) (er1 ge false 2))] w4) := S4.out.store 3 rfl nb4 g4; clear nb4 g4 S4)
        go_meet
        exact ⟨rfl, S5⟩
  case rest =>
  obtain ⟨rfl, S6⟩ := hcut
  clear FC REG S3 KS
  have WR : Hid (∀ w', Calls Tryz.prog 15 #[.agg ([.int .i64 k, .int .i64 P, .int .i64 r, .int .i64 n, .int .i64 s, .int .i64 u] : List Value).toArray] w' fun e w2 => e = .returned (.bool (!tmOk k P r n s u)) ∧ Below w'.heap.size w' w2) := fun w' => rwrong_at k P r n s u w'
  obtain ⟨tb, htb⟩ : ∃ tb, (!tmOk k P r n s u) = tb := ⟨_, rfl⟩
  rw [htb] at WR
  obtain ⟨e2, he2⟩ : ∃ e2, er1 ge ib 2 = e2 := ⟨_, rfl⟩
  rw [he2] at S6
  have FC : Hid (∀ w', Calls Tryz.prog 14 #[.agg (wkL X lo0 [] (.slice none 0 0) e2).toArray, .bool tb, .int .i64 140] w' fun e w2 => e = .returned (.agg (wkL X lo0 [] (.slice none 0 0) (er1 e2 tb 140)).toArray) ∧ Below w'.heap.size w' w2) := fun w' => FA.out lo0 e2 140 tb w' rfl
  go_upto_region 3 with fail
  go_cut [7] from 21 to 24 (fun v7 wx => v7 = .pointer (some ⟨GW, 0, none⟩) ∧ Hid (KD w [(w.heap.size, 24, X), (w.heap.size + 1, 26, [.int .i64 k, .int .i64 P, .int .i64 r, .int .i64 n, .int .i64 s, .int .i64 u]), (w.heap.size + 1 + 1, 41, zO), (GW, 54, wkL X lo0 [] (.slice none 0 0) (er1 e2 tb 140))] wx))
  case first =>
    clear FA PSX DN SL HOL
    have SD : KD w [(w.heap.size, 24, X), (w.heap.size + 1, 26, [.int .i64 k, .int .i64 P, .int .i64 r, .int .i64 n, .int .i64 s, .int .i64 u]), (w.heap.size + 1 + 1, 41, zO), (GW, 54, wkL X lo0 [] (.slice none 0 0) e2)] wc.drew := S6.out.drew
    refine wp_region_held_drew (S := fun w' => Blk (w.heap.size + 1) 26 [.int .i64 k, .int .i64 P, .int .i64 r, .int .i64 n, .int .i64 s, .int .i64 u] w') (by kernel_rfl) (SD.at 1 rfl) (fun hH => ?_)
    refine wpAnyH_take (i := 1) (v := .agg ([.int .i64 k, .int .i64 P, .int .i64 r, .int .i64 n, .int .i64 s, .int .i64 u] : List Value).toArray) rfl (by kernel_rfl) (by kernel_rfl) (by kernel_rfl) (fun _ _ _ h => h) (yieldsIf_load_mid (by rfl) _ _ rfl (w.heap.size + 1) 0 rfl [.int .i64 k, .int .i64 P, .int .i64 r, .int .i64 n, .int .i64 s, .int .i64 u] _ (fun w' h => Blk.all h) huT rfl siT) hH ?_
    try simp only [Act.put, List.getElem_toArray, List.getElem_cons_succ, List.getElem_cons_zero, List.setIfInBounds_toArray, List.set_cons_zero, List.set_cons_succ]
    refine wpAnyH_ready (rs := [0, 2]) (by kernel_rfl) (by simp) ?_
    refine AllReadyH.cons rfl (fun K hK => ?_) (AllReadyH.cons rfl (fun K hK => ?_) AllReadyH.nil)
    · refine op_loadR rfl 54 _ rfl GW 0 rfl (wkL X lo0 [] (.slice none 0 0) e2) _ (SD.at 3 rfl).all Tryz.underlying54 rfl (wk_size HX.out _ _ _ _) ?_
      refine hK.out _ _ (SD.at 1 rfl) (fun hH => ?_)
      try simp only [Act.put, List.getElem_toArray, List.getElem_cons_succ, List.getElem_cons_zero, List.setIfInBounds_toArray, List.set_cons_zero, List.set_cons_succ]
      refine wpAnyH_ready (rs := [2]) (by kernel_rfl) (by simp) ?_
      refine AllReadyH.cons rfl (fun K hK => ?_) AllReadyH.nil
      go_simp
      refine (WR.out _).mono ?_
      rintro e w3 ⟨rfl, b3⟩
      have S7 := SD.call b3
      refine hK.out _ _ (S7.at 1 rfl) (fun hH => ?_)
      try simp only [Act.put, List.getElem_toArray, List.getElem_cons_succ, List.getElem_cons_zero, List.setIfInBounds_toArray, List.set_cons_zero, List.set_cons_succ]
      refine wpAnyH_ready (rs := [3]) (by kernel_rfl) (by simp) ?_
      refine AllReadyH.cons rfl (fun K hK => ?_) AllReadyH.nil
      go_simp
      refine (FC.out _).mono ?_
      rintro e w4 ⟨rfl, b4⟩
      have S8 := S7.call b4
      refine hK.out _ _ (S8.at 1 rfl) (fun hH => ?_)
      try simp only [Act.put, List.getElem_toArray, List.getElem_cons_succ, List.getElem_cons_zero, List.setIfInBounds_toArray, List.set_cons_zero, List.set_cons_succ]
      refine wpAnyH_ready (rs := [4]) (by kernel_rfl) (by simp) ?_
      refine AllReadyH.cons rfl (fun K hK => ?_) AllReadyH.nil
      refine LoK.op_putC (zs := wkL X lo0 [] (.slice none 0 0) e2) (wkL X lo0 [] (.slice none 0 0) (er1 e2 tb 140)) (by rw [wk_len HX.out, wk_len HX.out]) (wk_size HX.out _ _ _ _) (OW.out _ _ rfl) rfl _ _ rfl GW rfl rfl (S8.at 3 rfl) ?_
      intro w5 nb g5
      have S9 : Hid (KD w [(w.heap.size, 24, X), (w.heap.size + 1, 26, [.int .i64 k, .int .i64 P, .int .i64 r, .int .i64 n, .int .i64 s, .int .i64 u]), (w.heap.size + 1 + 1, 41, zO), (GW, 54, wkL X lo0 [] (.slice none 0 0) (er1 e2 tb 140))] w5) := S8.store 3 rfl nb g5
      refine hK.out _ _ (S9.out.at 1 rfl) (fun hH => ?_)
      simp only [Act.put]
      refine wpAnyH_done (by kernel_rfl) ?_ _
      try simp only [Act.put, List.getElem_toArray, List.getElem_cons_succ, List.getElem_cons_zero, List.setIfInBounds_toArray, List.set_cons_zero, List.set_cons_succ]
      clear hH hK nb g5 S7 S8 b3 b4 SD FC WR
      go_wp2_with fail
      go_meet
      exact ⟨rfl, S9⟩
    · go_simp
      refine (WR.out _).mono ?_
      rintro e w3 ⟨rfl, b3⟩
      have S7 := SD.call b3
      refine hK.out _ _ (S7.at 1 rfl) (fun hH => ?_)
      try simp only [Act.put, List.getElem_toArray, List.getElem_cons_succ, List.getElem_cons_zero, List.setIfInBounds_toArray, List.set_cons_zero, List.set_cons_succ]
      refine wpAnyH_ready (rs := [0]) (by kernel_rfl) (by simp) ?_
      refine AllReadyH.cons rfl (fun K hK => ?_) AllReadyH.nil
      refine op_loadR rfl 54 _ rfl GW 0 rfl (wkL X lo0 [] (.slice none 0 0) e2) _ (S7.at 3 rfl).all Tryz.underlying54 rfl (wk_size HX.out _ _ _ _) ?_
      refine hK.out _ _ (S7.at 1 rfl) (fun hH => ?_)
      try simp only [Act.put, List.getElem_toArray, List.getElem_cons_succ, List.getElem_cons_zero, List.setIfInBounds_toArray, List.set_cons_zero, List.set_cons_succ]
      refine wpAnyH_ready (rs := [3]) (by kernel_rfl) (by simp) ?_
      refine AllReadyH.cons rfl (fun K hK => ?_) AllReadyH.nil
      go_simp
      refine (FC.out _).mono ?_
      rintro e w4 ⟨rfl, b4⟩
      have S8 := S7.call b4
      refine hK.out _ _ (S8.at 1 rfl) (fun hH => ?_)
      try simp only [Act.put, List.getElem_toArray, List.getElem_cons_succ, List.getElem_cons_zero, List.setIfInBounds_toArray, List.set_cons_zero, List.set_cons_succ]
      refine wpAnyH_ready (rs := [4]) (by kernel_rfl) (by simp) ?_
      refine AllReadyH.cons rfl (fun K hK => ?_) AllReadyH.nil
      refine LoK.op_putC (zs := wkL X lo0 [] (.slice none 0 0) e2) (wkL X lo0 [] (.slice none 0 0) (er1 e2 tb 140)) (by rw [wk_len HX.out, wk_len HX.out]) (wk_size HX.out _ _ _ _) (OW.out _ _ rfl) rfl _ _ rfl GW rfl rfl (S8.at 3 rfl) ?_
      intro w5 nb g5
      have S9 : Hid (KD w [(w.heap.size, 24, X), (w.heap.size + 1, 26, [.int .i64 k, .int .i64 P, .int .i64 r, .int .i64 n, .int .i64 s, .int .i64 u]), (w.heap.size + 1 + 1, 41, zO), (GW, 54, wkL X lo0 [] (.slice none 0 0) (er1 e2 tb 140))] w5) := S8.store 3 rfl nb g5
      refine hK.out _ _ (S9.out.at 1 rfl) (fun hH => ?_)
      simp only [Act.put]
      refine wpAnyH_done (by kernel_rfl) ?_ _
      try simp only [Act.put, List.getElem_toArray, List.getElem_cons_succ, List.getElem_cons_zero, List.setIfInBounds_toArray, List.set_cons_zero, List.set_cons_succ]
      clear hH hK nb g5 S7 S8 b3 b4 SD FC WR
      go_wp2_with fail
      go_meet
      exact ⟨rfl, S9⟩
  case rest =>
  obtain ⟨rfl, S7⟩ := hcut
  clear FC S6 WR
  obtain ⟨e3, he3⟩ : ∃ e3, er1 e2 tb 140 = e3 := ⟨_, rfl⟩
  rw [he3] at S7
  obtain ⟨o, ho⟩ : ∃ o, planO k P r n s u hs = o := ⟨_, rfl⟩
  obtain ⟨pb, hpb⟩ : ∃ pb, o.isSome = pb := ⟨_, rfl⟩
  have PL : Hid (∀ w', Below w.heap.size w w' → Calls Tryz.prog 16 #[.agg ([.int .i64 k, .int .i64 P, .int .i64 r, .int .i64 n, .int .i64 s, .int .i64 u] : List Value).toArray, .slice a hs.length c] w' fun e w2 => Below w'.heap.size w' w2 ∧ ∃ v, e = .returned (.tuple #[v, .bool pb]) ∧ PlanAns w'.heap.size w2 v o) := fun w' b => (refPlan_at k P r n s u hs a c w' (SL.out w' b)).mono fun e w2 h => by
    rw [ho] at h; rw [← hpb]; exact ⟨h.1, h.2⟩
  have c17 : wc.cell? ⟨w.heap.size, 17, none⟩ = some (.slice a hs.length c) := S7.out.cell 0 17 rfl _ HOL.out
  have RT : Hid (wc.rangeAt (w.heap.size + 1) 0 [.int .i64 k, .int .i64 P, .int .i64 r, .int .i64 n, .int .i64 s, .int .i64 u]) := (S7.out.at 1 rfl).all
  have FC : Hid (∀ w', Calls Tryz.prog 14 #[.agg (wkL X lo0 [] (.slice none 0 0) e3).toArray, .bool (!pb), .int .i64 141] w' fun e w2 => e = .returned (.agg (wkL X lo0 [] (.slice none 0 0) (er1 e3 (!pb) 141)).toArray) ∧ Below w'.heap.size w' w2) := fun w' => FA.out lo0 e3 141 (!pb) w' rfl
  clear SL HOL FA
  go_upto_region 4 with fail
  go_wp2_with (refine step_load rfl 26 _ rfl (w.heap.size + 1) 0 rfl [.int .i64 k, .int .i64 P, .int .i64 r, .int .i64 n, .int .i64 s, .int .i64 u] _ RT.out huT rfl siT ?_)
  refine (PL.out _ S7.out.bb).mono ?_
  rintro e w3 ⟨b3, v, rfl, A3⟩
  have PX : ∃ ex, PlO o ex v ∧ Hid (KD w ([(w.heap.size, 24, X), (w.heap.size + 1, 26, [.int .i64 k, .int .i64 P, .int .i64 r, .int .i64 n, .int .i64 s, .int .i64 u]), (w.heap.size + 1 + 1, 41, zO), (GW, 54, wkL X lo0 [] (.slice none 0 0) e3)] ++ ex) w3) :=
    plO_px (S7.out.call b3) A3 S7.out.bb.size (fun q hq => by obtain ⟨j, hj⟩ := List.getElem?_of_mem hq; exact S7.out.lt j hj)
  obtain ⟨ex, PX, S8⟩ := PX
  have RW8 : Hid (w3.rangeAt GW 0 (wkL X lo0 [] (.slice none 0 0) e3)) := (S8.out.at 3 rfl).all
  obtain ⟨vo, vn, vc, rfl⟩ := PX.form
  clear A3 b3 RT c17 PL S7
  go_wp2_with (refine step_load rfl 54 _ rfl GW 0 rfl (wkL X lo0 [] (.slice none 0 0) e3) _ RW8.out Tryz.underlying54 rfl (wk_size HX.out _ _ _ _) ?_)
  refine (FC.out _).mono ?_
  rintro e w4 ⟨rfl, b4⟩
  have S9 := S8.out.call b4
  clear S8 b4 FC RW8
  obtain ⟨e4, he4⟩ : ∃ e4, er1 e3 (!pb) 141 = e4 := ⟨_, rfl⟩
  rw [he4]
  have S9 : Hid (KD w _ w4) := S9
  go_upto_region 6 with (refine step_store rfl 54 _ _ rfl GW 0 54 (wkL X lo0 [] (.slice none 0 0) e3) (wkL X lo0 [] (.slice none 0 0) e4) rfl rfl (S9.out.at 3 rfl) (by rw [wk_len HX.out, wk_len HX.out]; exact Nat.le_refl 71) (wk_size HX.out _ _ _ _) (OW.out _ _ rfl) ?_; intro w5 nb5 g5; rw [store_all (by rw [wk_len HX.out, wk_len HX.out])] at nb5; have SA : Hid (KD w ([(w.heap.size, 24, X), (w.heap.size + 1, 26, [.int .i64 k, .int .i64 P, .int .i64 r, .int .i64 n, .int .i64 s, .int .i64 u]), (w.heap.size + 1 + 1, 41, zO), (GW, 54, wkL X lo0 [] (.slice none 0 0) e4)] ++ ex) w5) := S9.out.store 3 rfl nb5 g5; clear nb5 g5)
  clear S9
  simp only [Act.put]
  have FR : Hid (∀ w', Calls Tryz.prog 17 #[] w' fun e w2 => e = .returned (.agg (csL fresh).toArray) ∧ Below w'.heap.size w' w2) := fun w' => rfresh14_at w'
  have BL : Hid (∀ w, (Instr.build 37 #[(0, .int .i64 id), (1, .agg ([.int .i64 k, .int .i64 P, .int .i64 r, .int .i64 n, .int .i64 s, .int .i64 u] : List Value).toArray), (2, .slice vo vn vc), (4, .agg (csL fresh).toArray), (5, .int .i64 s)]).run Tryz.prog w = .ok (.agg (lnL (newL id [k, P, r, n, s, u] (.slice vo vn vc) fresh s)).toArray) w) := fun w => build_lit id k P r n s u vo vn vc w
  have SA1 : KD w ([(w.heap.size, 24, X), (w.heap.size + 1, 26, [.int .i64 k, .int .i64 P, .int .i64 r, .int .i64 n, .int .i64 s, .int .i64 u]), (w.heap.size + 1 + 1, 41, zO), (GW, 54, wkL X lo0 [] (.slice none 0 0) e4)] ++ ex) w5.drew := SA.out.drew
  refine wp_region_held_drew (S := fun w' => Blk (w.heap.size + 1) 26 [.int .i64 k, .int .i64 P, .int .i64 r, .int .i64 n, .int .i64 s, .int .i64 u] w') (by kernel_rfl) (SA1.at 1 rfl) (fun hH => ?_)
  refine wpAnyH_take (i := 0) (v := .int .i64 id) rfl (by kernel_rfl) (by kernel_rfl) (by kernel_rfl) (fun _ _ _ h => h) (Or.inl ⟨by rfl, fun w' h => by go_simp⟩) hH ?_
  try simp only [Act.put, List.getElem_toArray, List.getElem_cons_succ, List.getElem_cons_zero, List.setIfInBounds_toArray, List.set_cons_zero, List.set_cons_succ]
  refine wpAnyH_take (i := 1) (v := .agg ([.int .i64 k, .int .i64 P, .int .i64 r, .int .i64 n, .int .i64 s, .int .i64 u] : List Value).toArray) rfl (by kernel_rfl) (by kernel_rfl) (by kernel_rfl) (fun _ _ _ h => h) (yieldsIf_load_mid (by rfl) _ _ rfl (w.heap.size + 1) 0 rfl [.int .i64 k, .int .i64 P, .int .i64 r, .int .i64 n, .int .i64 s, .int .i64 u] _ (fun w' h => Blk.all h) huT rfl siT) hH ?_
  try simp only [Act.put, List.getElem_toArray, List.getElem_cons_succ, List.getElem_cons_zero, List.setIfInBounds_toArray, List.set_cons_zero, List.set_cons_succ]
  refine wpAnyH_take (i := 2) (v := .slice vo vn vc) rfl (by kernel_rfl) (by kernel_rfl) (by kernel_rfl) (fun _ _ _ h => h) (Or.inl ⟨by rfl, fun w' h => by go_simp⟩) hH ?_
  try simp only [Act.put, List.getElem_toArray, List.getElem_cons_succ, List.getElem_cons_zero, List.setIfInBounds_toArray, List.set_cons_zero, List.set_cons_succ]
  refine wpAnyH_take (i := 4) (v := .pointer (some ⟨w.heap.size + 1, 4, none⟩)) rfl (by kernel_rfl) (by kernel_rfl) (by kernel_rfl) (fun _ _ _ h => h) (Or.inl ⟨by rfl, fun w' h => by go_simp⟩) hH ?_
  try simp only [Act.put, List.getElem_toArray, List.getElem_cons_succ, List.getElem_cons_zero, List.setIfInBounds_toArray, List.set_cons_zero, List.set_cons_succ]
  refine wpAnyH_take (i := 5) (v := .int .i64 s) rfl (by kernel_rfl) (by kernel_rfl) (by kernel_rfl) (fun _ _ _ h => h) (Or.inl ⟨by rfl, fun w' h => by have c4 := Blk.cell h 4 _ rfl; go_simp⟩) hH ?_
  try simp only [Act.put, List.getElem_toArray, List.getElem_cons_succ, List.getElem_cons_zero, List.setIfInBounds_toArray, List.set_cons_zero, List.set_cons_succ]
  refine wpAnyH_ready (rs := [3]) (by kernel_rfl) (by simp) ?_
  refine AllReadyH.cons rfl (fun K hK => ?_) AllReadyH.nil
  go_simp
  refine (FR.out _).mono ?_
  rintro e w6 ⟨rfl, b6⟩
  have SA2 := SA1.call b6
  refine hK.out _ _ (SA2.at 1 rfl) (fun hH => ?_)
  try simp only [Act.put, List.getElem_toArray, List.getElem_cons_succ, List.getElem_cons_zero, List.setIfInBounds_toArray, List.set_cons_zero, List.set_cons_succ]
  refine wpAnyH_take (i := 6) (v := .agg (lnL (newL id [k, P, r, n, s, u] (.slice vo vn vc) fresh s)).toArray) rfl (by kernel_rfl) (by kernel_rfl) (by kernel_rfl) (fun _ _ _ h => h) (yieldsIf_build5 (by rfl) 37 0 1 2 4 5 (.tmp 36) (.tmp 37) (.tmp 38) (.tmp 39) (.tmp 41) rfl (.int .i64 id) (.agg ([.int .i64 k, .int .i64 P, .int .i64 r, .int .i64 n, .int .i64 s, .int .i64 u] : List Value).toArray) (.slice vo vn vc) (.agg (csL fresh).toArray) (.int .i64 s) _ rfl rfl rfl rfl rfl BL.out) hH ?_
  try simp only [Act.put, List.getElem_toArray, List.getElem_cons_succ, List.getElem_cons_zero, List.setIfInBounds_toArray, List.set_cons_zero, List.set_cons_succ]
  refine wpAnyH_take (i := 7) (v := .pointer (some ⟨GW, 18, none⟩)) rfl (by kernel_rfl) (by kernel_rfl) (by kernel_rfl) (fun _ _ _ h => h) (Or.inl ⟨by rfl, fun w' h => by go_simp⟩) hH ?_
  try simp only [Act.put, List.getElem_toArray, List.getElem_cons_succ, List.getElem_cons_zero, List.setIfInBounds_toArray, List.set_cons_zero, List.set_cons_succ]
  refine wpAnyH_ready (rs := [8]) (by kernel_rfl) (by simp) ?_
  refine AllReadyH.cons rfl (fun K hK => ?_) AllReadyH.nil
  refine op_putM (lnL (newL id [k, P, r, n, s, u] (.slice vo vn vc) fresh s)) GW 18 (by rw [wk_len HX.out, lnL_len]; omega) (sizeLn _) (lnL_one rfl) rfl _ _ rfl rfl rfl (SA2.at 3 rfl) ?_
  intro w7 nb g7
  rw [wk_putL HX.out] at nb
  have SB : Hid (KD w ([(w.heap.size, 24, X), (w.heap.size + 1, 26, [.int .i64 k, .int .i64 P, .int .i64 r, .int .i64 n, .int .i64 s, .int .i64 u]), (w.heap.size + 1 + 1, 41, zO), (GW, 54, wkL X (newL id [k, P, r, n, s, u] (.slice vo vn vc) fresh s) [] (.slice none 0 0) e4)] ++ ex) w7) := SA2.store 3 rfl nb g7
  refine hK.out _ _ (SB.out.at 1 rfl) (fun hH => ?_)
  simp only [Act.put]
  refine wpAnyH_done (by kernel_rfl) ?_ _
  try simp only [Act.put, List.getElem_toArray, List.getElem_cons_succ, List.getElem_cons_zero, List.setIfInBounds_toArray, List.set_cons_zero, List.set_cons_succ]
  clear hH hK nb g7 SA2 SA1 SA b6 FR BL
  obtain ⟨es, hes⟩ : ∃ es, nzE [(⟨1, 6, P⟩ : LedM.Ent)] = es := ⟨_, rfl⟩
  have MV : Hid (∀ w', Calls Tryz.prog 19 #[.slice none 0 0, .int .i64 1, .int .i64 6, .int .i64 P] w' fun e w2 => ∃ v, e = .returned v ∧ RdE w2 v es ∧ Below w'.heap.size w' w2) := fun w' => (rmove_nil 1 6 P w').mono fun e w2 h => by
    obtain ⟨v, h1, h2, h3⟩ := h
    rw [hes] at h2
    exact ⟨v, h1, h2.rd, h3⟩
  have heN : ∀ e ∈ es, EntOk e := by
    rw [← hes]
    exact nzE_ok (fun e he => by simp at he; subst he; exact ⟨(⟨by decide, by decide⟩ : i64 1), (⟨by decide, by decide⟩ : i64 6), hP⟩)
  have hlN : es.length ≤ 1048576 := by rw [← hes]; exact Nat.le_trans (nzE_len _) (by simp)
  obtain ⟨NL, hNL⟩ : ∃ NL, (newL id [k, P, r, n, s, u] (.slice vo vn vc) fresh s) = NL := ⟨_, rfl⟩
  have hpN : NL.pl.oneCell' = true := by rw [← hNL]; rfl
  have hbN : BkOk NL.bk := by
    rw [← hNL]
    refine ⟨rfl, fun j => ?_⟩
    show i64 ((List.replicate 12 (0 : Int)).getD j 0)
    rw [show (List.replicate 12 (0 : Int)).getD j 0 = 0 from by simp only [List.getD_eq_getElem?_getD, List.getElem?_replicate]; split <;> rfl]
    exact ⟨by decide, by decide⟩
  rw [hNL] at SB
  obtain ⟨L9, hL9⟩ : ∃ x, pstL NL es e4 = x := ⟨_, rfl⟩
  obtain ⟨e9, he9⟩ : ∃ x, pstE NL es e4 = x := ⟨_, rfl⟩
  have hp9 : Hid (L9.pl.oneCell' = true) := by
    show _ = _
    rw [← hL9]; unfold pstL; split <;> exact hpN
  have PS : Hid (∀ v w', RdE w' v es → Calls Tryz.prog 18 #[.agg (wkL X NL [] (.slice none 0 0) e4).toArray, v] w' fun e w2 => e = .returned (.agg (wkL X L9 [] (.slice none 0 0) e9).toArray) ∧ Below w'.heap.size w' w2) := fun v w' h => by
    have := PSX.out NL e4 es v w' hpN hbN heN hlN h
    rw [hL9, he9] at this
    exact this
  obtain ⟨OU, hOU⟩ : ∃ OU, (if e9 = 0 then ouL L9 [] (.slice none 0 0) 0 else ouL lo0 [] (.slice none 0 0) e9) = OU := ⟨_, rfl⟩
  have DC : Hid (∀ w', Calls Tryz.prog 20 #[.agg (wkL X L9 [] (.slice none 0 0) e9).toArray, .agg (lnL lo0).toArray] w' fun e w2 => e = .returned (.agg OU.toArray) ∧ Below w'.heap.size w' w2) := fun w' => by
    have := DN.out L9 e9 w' hp9.out
    rw [hOU] at this
    exact this
  have lOU : Hid (OU.length = 53) := by show _ = _; rw [← hOU]; split <;> exact ouL_len ..
  have oOU : Hid (∀ v ∈ OU, v.oneCell' = true) := by
    rw [← hOU]; split
    · exact ouL_one hp9.out rfl
    · exact ouL_one rfl rfl
  have FIN : Hid (∀ w', Below w.heap.size w w' → (∀ q ∈ ex, w.heap.size ≤ q.1 ∧ Blk q.1 q.2.1 q.2.2 w') → OpAns id k P r n s u l hs w (.returned (.agg OU.toArray)) w') := fun w' b hx => by
    rw [← hOU, ← he9, ← hL9, ← hNL]
    exact opn_fin hge IDB.out htb he2 he3 ho hpb he4 hes PX b hx
  clear DN PSX hOU he9 hL9 hNL hpN hbN heN hlN hes hge IDB htb he2 he3 ho hpb he4 PX
  go_upto_region 7 with fail
  go_cut [7] from 44 to 48 (fun v7 wx => v7 = .pointer (some ⟨GW, 0, none⟩) ∧ Hid (KD w ([(w.heap.size, 24, X), (w.heap.size + 1, 26, [.int .i64 k, .int .i64 P, .int .i64 r, .int .i64 n, .int .i64 s, .int .i64 u]), (w.heap.size + 1 + 1, 41, zO), (GW, 54, wkL X L9 [] (.slice none 0 0) e9)] ++ ex) wx))
  case first =>
    clear FIN DC lOU oOU
    have SB1 : KD w ([(w.heap.size, 24, X), (w.heap.size + 1, 26, [.int .i64 k, .int .i64 P, .int .i64 r, .int .i64 n, .int .i64 s, .int .i64 u]), (w.heap.size + 1 + 1, 41, zO), (GW, 54, wkL X NL [] (.slice none 0 0) e4)] ++ ex) w7.drew := SB.out.drew
    refine wp_region_held_drew (S := fun w' => Blk (w.heap.size + 1) 26 [.int .i64 k, .int .i64 P, .int .i64 r, .int .i64 n, .int .i64 s, .int .i64 u] w') (by kernel_rfl) (SB1.at 1 rfl) (fun hH => ?_)
    refine wpAnyH_take (i := 1) (v := .pointer (some ⟨w.heap.size + 1, 1, none⟩)) rfl (by kernel_rfl) (by kernel_rfl) (by kernel_rfl) (fun _ _ _ h => h) (Or.inl ⟨by rfl, fun w' h => by go_simp⟩) hH ?_
    try simp only [Act.put, List.getElem_toArray, List.getElem_cons_succ, List.getElem_cons_zero, List.setIfInBounds_toArray, List.set_cons_zero, List.set_cons_succ]
    refine wpAnyH_take (i := 2) (v := .int .i64 P) rfl (by kernel_rfl) (by kernel_rfl) (by kernel_rfl) (fun _ _ _ h => h) (Or.inl ⟨by rfl, fun w' h => by have c4 := Blk.cell h 1 _ rfl; go_simp⟩) hH ?_
    try simp only [Act.put, List.getElem_toArray, List.getElem_cons_succ, List.getElem_cons_zero, List.setIfInBounds_toArray, List.set_cons_zero, List.set_cons_succ]
    refine wpAnyH_ready (rs := [0, 3]) (by kernel_rfl) (by simp) ?_
    refine AllReadyH.cons rfl (fun K hK => ?_) (AllReadyH.cons rfl (fun K hK => ?_) AllReadyH.nil)
    · refine op_loadR rfl 54 _ rfl GW 0 rfl (wkL X NL [] (.slice none 0 0) e4) _ (SB1.at 3 rfl).all Tryz.underlying54 rfl (wk_size HX.out _ _ _ _) ?_
      refine hK.out _ _ (SB1.at 1 rfl) (fun hH => ?_)
      try simp only [Act.put, List.getElem_toArray, List.getElem_cons_succ, List.getElem_cons_zero, List.setIfInBounds_toArray, List.set_cons_zero, List.set_cons_succ]
      refine wpAnyH_ready (rs := [3]) (by kernel_rfl) (by simp) ?_
      refine AllReadyH.cons rfl (fun K hK => ?_) AllReadyH.nil
      go_simp
      refine (MV.out _).mono ?_
      rintro e w3 ⟨v, rfl, rd, b3⟩
      have RD : Hid (RdE w3 v es) := rd
      clear rd
      have S7 := SB1.call b3
      refine hK.out _ _ (S7.at 1 rfl) (fun hH => ?_)
      try simp only [Act.put, List.getElem_toArray, List.getElem_cons_succ, List.getElem_cons_zero, List.setIfInBounds_toArray, List.set_cons_zero, List.set_cons_succ]
      refine wpAnyH_ready (rs := [4]) (by kernel_rfl) (by simp) ?_
      refine AllReadyH.cons rfl (fun K hK => ?_) AllReadyH.nil
      go_simp
      refine (PS.out _ _ RD.out).mono ?_
      rintro e wB ⟨rfl, bB⟩
      have S8 := S7.call bB
      refine hK.out _ _ (S8.at 1 rfl) (fun hH => ?_)
      try simp only [Act.put, List.getElem_toArray, List.getElem_cons_succ, List.getElem_cons_zero, List.setIfInBounds_toArray, List.set_cons_zero, List.set_cons_succ]
      refine wpAnyH_ready (rs := [5]) (by kernel_rfl) (by simp) ?_
      refine AllReadyH.cons rfl (fun K hK => ?_) AllReadyH.nil
      refine LoK.op_putC (zs := wkL X NL [] (.slice none 0 0) e4) (wkL X L9 [] (.slice none 0 0) e9) (by rw [wk_len HX.out, wk_len HX.out]) (wk_size HX.out _ _ _ _) (OW.out _ _ hp9.out) rfl _ _ rfl GW rfl rfl (S8.at 3 rfl) ?_
      intro wC nb g5
      have S9 : Hid (KD w ([(w.heap.size, 24, X), (w.heap.size + 1, 26, [.int .i64 k, .int .i64 P, .int .i64 r, .int .i64 n, .int .i64 s, .int .i64 u]), (w.heap.size + 1 + 1, 41, zO), (GW, 54, wkL X L9 [] (.slice none 0 0) e9)] ++ ex) wC) := S8.store 3 rfl nb g5
      refine hK.out _ _ (S9.out.at 1 rfl) (fun hH => ?_)
      simp only [Act.put]
      refine wpAnyH_done (by kernel_rfl) ?_ _
      try simp only [Act.put, List.getElem_toArray, List.getElem_cons_succ, List.getElem_cons_zero, List.setIfInBounds_toArray, List.set_cons_zero, List.set_cons_succ]
      clear hH hK nb g5 S7 S8 bB b3 SB1 PS MV RD
      go_wp2_with fail
      go_meet
      exact ⟨rfl, S9⟩
    · go_simp
      refine (MV.out _).mono ?_
      rintro e w3 ⟨v, rfl, rd, b3⟩
      have RD : Hid (RdE w3 v es) := rd
      clear rd
      have S7 := SB1.call b3
      refine hK.out _ _ (S7.at 1 rfl) (fun hH => ?_)
      try simp only [Act.put, List.getElem_toArray, List.getElem_cons_succ, List.getElem_cons_zero, List.setIfInBounds_toArray, List.set_cons_zero, List.set_cons_succ]
      refine wpAnyH_ready (rs := [0]) (by kernel_rfl) (by simp) ?_
      refine AllReadyH.cons rfl (fun K hK => ?_) AllReadyH.nil
      refine op_loadR rfl 54 _ rfl GW 0 rfl (wkL X NL [] (.slice none 0 0) e4) _ (S7.at 3 rfl).all Tryz.underlying54 rfl (wk_size HX.out _ _ _ _) ?_
      refine hK.out _ _ (S7.at 1 rfl) (fun hH => ?_)
      try simp only [Act.put, List.getElem_toArray, List.getElem_cons_succ, List.getElem_cons_zero, List.setIfInBounds_toArray, List.set_cons_zero, List.set_cons_succ]
      refine wpAnyH_ready (rs := [4]) (by kernel_rfl) (by simp) ?_
      refine AllReadyH.cons rfl (fun K hK => ?_) AllReadyH.nil
      go_simp
      refine (PS.out _ _ RD.out).mono ?_
      rintro e wB ⟨rfl, bB⟩
      have S8 := S7.call bB
      refine hK.out _ _ (S8.at 1 rfl) (fun hH => ?_)
      try simp only [Act.put, List.getElem_toArray, List.getElem_cons_succ, List.getElem_cons_zero, List.setIfInBounds_toArray, List.set_cons_zero, List.set_cons_succ]
      refine wpAnyH_ready (rs := [5]) (by kernel_rfl) (by simp) ?_
      refine AllReadyH.cons rfl (fun K hK => ?_) AllReadyH.nil
      refine LoK.op_putC (zs := wkL X NL [] (.slice none 0 0) e4) (wkL X L9 [] (.slice none 0 0) e9) (by rw [wk_len HX.out, wk_len HX.out]) (wk_size HX.out _ _ _ _) (OW.out _ _ hp9.out) rfl _ _ rfl GW rfl rfl (S8.at 3 rfl) ?_
      intro wC nb g5
      have S9 : Hid (KD w ([(w.heap.size, 24, X), (w.heap.size + 1, 26, [.int .i64 k, .int .i64 P, .int .i64 r, .int .i64 n, .int .i64 s, .int .i64 u]), (w.heap.size + 1 + 1, 41, zO), (GW, 54, wkL X L9 [] (.slice none 0 0) e9)] ++ ex) wC) := S8.store 3 rfl nb g5
      refine hK.out _ _ (S9.out.at 1 rfl) (fun hH => ?_)
      simp only [Act.put]
      refine wpAnyH_done (by kernel_rfl) ?_ _
      try simp only [Act.put, List.getElem_toArray, List.getElem_cons_succ, List.getElem_cons_zero, List.setIfInBounds_toArray, List.set_cons_zero, List.set_cons_succ]
      clear hH hK nb g5 S7 S8 bB b3 SB1 PS MV RD
      go_wp2_with fail
      go_meet
      exact ⟨rfl, S9⟩
  case rest =>
  obtain ⟨rfl, SE⟩ := hcut
  clear PS MV SB
  have RE : Hid (wc.rangeAt GW 0 (wkL X L9 [] (.slice none 0 0) e9)) := (SE.out.at 3 rfl).all
  go_wp2_with (refine step_load rfl 54 _ rfl GW 0 rfl (wkL X L9 [] (.slice none 0 0) e9) _ RE.out Tryz.underlying54 rfl (wk_size HX.out _ _ _ _) ?_)
  refine (DC.out _).mono ?_
  rintro e wD ⟨rfl, bD⟩
  have SF : Hid (KD w ([(w.heap.size, 24, X), (w.heap.size + 1, 26, [.int .i64 k, .int .i64 P, .int .i64 r, .int .i64 n, .int .i64 s, .int .i64 u]), (w.heap.size + 1 + 1, 41, zO), (GW, 54, wkL X L9 [] (.slice none 0 0) e9)] ++ ex) wD) := SE.out.call bD
  have SO : (Tryz.prog.info? 41).map (·.size) = some OU.length := by rw [lOU.out]; kernel_rfl
  clear SE bD DC RE
  go_wp2_with (refine step_store rfl 41 _ _ rfl (w.heap.size + 1 + 1) 0 41 zO OU rfl rfl (SF.out.at 2 rfl) (by rw [lOU.out]; exact Nat.le_refl 53) SO oOU.out ?_; intro wE nbE gE; rw [store_all (by rw [lOU.out]; rfl)] at nbE; have SG : Hid (KD w _ wE) := SF.out.store 2 rfl nbE gE; have NE : Hid (Blk _ _ _ _) := nbE; clear gE nbE SF)
  refine ret_blk rfl rfl (w.heap.size + 1 + 1) 41 OU _ rfl NE.out Tryz.underlying41 rfl SO ?_
  refine FIN.out _ SG.out.bb (fun q hq => ?_)
  obtain ⟨j, hj⟩ := List.getElem?_of_mem hq
  exact SG.out.bk (j + 4) q hj
end Go.Proofs.YtgdmkcbbomfmdaaGreatDoor
