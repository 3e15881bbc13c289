/-
  Ours: script.readLine, script.Parse.
-/
import Derived.Test.YtkjnklagjhhhkaaGreatDoorScRfs
import Derived.Test.YtkjnklagjhhhkaaGreatDoorScAs
namespace Go.Proofs.YtkjnklagjhhhkaaGreatDoor
open Go.RowKit Go.Lib ScF

theorem ret_blk_tmp2 {P : Program} {fn : Func} {R : Ending → World → Prop} {a : Act} {w : World} {p u s : Tmp} {ty : TypeId} (h : fn.results = #[.cell p ty, .tmp u, .tmp s]) (hdf : a.defers = [])
    (g : Nat) (t : TypeId) (cs : List Value) (d : TypeDesc) (hp : a.tmps.getD p undef = .pointer (some ⟨g, 0, none⟩)) (hg : Blk g t cs w)
    (hu : P.underlying ty = some d) (hd : (match d with | .struct _ | .array _ _ => true | _ => false) = true) (hi : (P.info? ty).map (·.size) = some cs.length)
    (hR : R (.returned (.tuple #[.agg cs.toArray, a.tmps.getD u undef, a.tmps.getD s undef])) w) : bodyPost P fn R .ret a w := by
  refine bodyPost_ret_by ?_ hdf hR
  simp only [results, h]
  have hp' : a.tmps[p]?.getD undef = .pointer (some ⟨g, 0, none⟩) := by simpa using hp
  simp [hp', asAddr, Result.andThen, run_loadVar_row w g t ty cs.toArray (0, 0) d hg hu hd (by simpa using hi)]
/-- All that stands while a line is read. -/
structure PWs (w : World) : Prop where
  tab : TabW w
  err : ErrW w
  cmd : CmdW w
  pln : PlnW w
  mx : MxW w
  et : w.cell? ⟨1, 0, none⟩ = some (tyV 44)
theorem PWs.later {w w' : World} (h : PWs w) (b : Below w.heap.size w w') : PWs w' :=
  ⟨tab_below h.tab b, h.err.below b, h.cmd.later b, h.pln.later b, h.mx.later b, (b.cell (p := ⟨1, 0, none⟩) (World.block_lt_of_cell? w _ h.et)).trans h.et⟩
theorem conv_nil (w : World) : (convert 22 9 (.slice none 0 0)).run Tryz.prog w = .ok (.string ⟨#[]⟩) w := by kernel_rfl
set_option maxRecDepth 40000 in
theorem conv_rd {w : World} {a : Option Addr} {n c : Nat} {l : List UInt8} (h : Rd w (.slice a n c) (byteCells l)) : n = l.length ∧ (convert 22 9 (.slice a n c)).run Tryz.prog w = .ok (.string ⟨l.toArray⟩) w := by
  obtain ⟨ao, cap, e, hcap, hnil, H⟩ := h
  injection e with e1 e2 e3
  subst e1 e3
  rw [byteCells_length] at e2 hcap
  refine ⟨e2, ?_⟩
  subst e2
  cases a with
  | none =>
    have h0 := hnil rfl
    have : l = [] := List.eq_nil_of_length_eq_zero (by omega)
    subst this
    obtain rfl : c = 0 := by simpa using h0
    exact conv_nil w
  | some ad =>
    obtain ⟨g, o, sp⟩ := ad
    by_cases h0 : l.length = 0
    · have : l = [] := List.eq_nil_of_length_eq_zero h0
      subst this
      exact run_convert_bytes_back (P := Tryz.prog) w 22 9 5 ⟨g, o, sp⟩ c [] (by kernel_rfl) (by kernel_rfl) (by kernel_rfl) (fun j hj => by simp at hj)
    · obtain ⟨g', o', e1, _, _⟩ := H 0 (by rw [byteCells_length]; omega)
      injection e1 with e1
      injection e1 with e2 e3 e4
      subst e2 e3 e4
      refine run_convert_bytes_back (P := Tryz.prog) w 22 9 5 ⟨g, o, none⟩ c l (by kernel_rfl) (by kernel_rfl) (by kernel_rfl) (fun j hj => ?_)
      obtain ⟨g', o', e1, _, hc⟩ := H j (by rw [byteCells_length]; exact hj)
      injection e1 with e1
      injection e1 with e2 e3
      subst e2 e3
      rw [Addr.add_mid, hc]
      simp [byteCells]
def RlAns (r : PR) (e : Ending) : Prop := match r with
  | .ok o => e = .returned (.tuple #[opV o, .nilIface])
  | .bad x p => e = .returned (.tuple #[opV cm0, fltV (x : Int) (p : Int)]) ∨ ∃ wd, e = .returned (.tuple #[opV cm0, .iface 73 (.agg #[.string wd, fltV (x : Int) (p : Int)])])
theorem plc_drop (fs : List (List UInt8)) : ∀ i, (fs.getD 0 []).length + 1 + plc (fs.drop 1) i = plc fs (i + 1)
  | 0 => by simp [plc]
  | i + 1 => by
    have h := plc_drop fs i
    have e : (fs.drop 1).getD i [] = fs.getD (i + 1) [] := by simp only [List.getD_eq_getElem?_getD, List.getElem?_drop]; rw [Nat.add_comm]
    rw [plc, plc, e]; omega

set_option maxRecDepth 40000 in
theorem slice_one (g N fc : Nat) (h1 : 0 < N) (h2 : N ≤ fc) : ∃ AD : Option Addr, (1 < N → AD = some ⟨g, 2, none⟩) ∧ (∀ W, (Instr.slice 66 (.slice (some ⟨g, 0, none⟩) N fc) (some (.int .i64 1)) none none).run Tryz.prog W = .ok (.slice AD (N - 1) (fc - 1)) W) ∧ ∀ W, (Instr.sliceAt 66 (.slice (some ⟨g, 0, none⟩) N fc) (some (.int .i64 1)) none none).run Tryz.prog W = .ok (.slice AD (N - 1) (fc - 1)) W := by
  refine ⟨if fc = 1 then some ⟨g, 0, none⟩ else some ⟨g, 2, none⟩, fun h => if_neg (by omega), fun W => ?_, fun W => ?_⟩
  · go_simp
    intro h
    omega
  · go_simp
    intro h
    omega
set_option maxRecDepth 40000 in
set_option maxHeartbeats 2000000 in
theorem readLine_at (l : List UInt8) (a : Option Addr) (n c : Nat) (w : World) (hR : Rd w (.slice a n c) (byteCells l)) (hmax : l.length ≤ maxLen) (hW : PWs w) : Calls Tryz.prog 16 #[.slice a n c] w fun e w' => RlAns (readL l) e ∧ Below w.heap.size w w' := by
  have b0 := below_alloc w (.cells (opL cm0).toArray 24)
  have NB := Blk.new 24 (opL cm0) w
  obtain ⟨rfl, -⟩ := conv_rd hR
  unfold maxLen at hmax
  by_cases hl : (100 : Int) < (l.length : Int)
  · have E : Hid (readL l = .bad 1 0) := if_pos (by omega)
    rw [E.out]
    clear E hR hW
    go_enter Tryz.func16, Tryz.ntmps16
    go_wp2_with fail
    refine ret_blk_tmp rfl rfl w.heap.size 24 (opL cm0) _ rfl NB Tryz.underlying24 rfl infoO0 ?_
    exact ⟨.inl rfl, b0⟩
  have hl' : l.length ≤ 100 := by omega
  have E0 : readL l = match kindW ((spl l).getD 0 []) with
    | none => .bad 180 0
    | some k => if (spl l).length - 1 ≠ (slotN k).length then .bad 181 l.length else readF (slotN k) ((spl l).drop 1) (((spl l).getD 0 []).length + 1) ⟨(k : Int), 0, 0, 0, 0, 0, []⟩ := if_neg (by omega)
  have CV : Hid (∀ w1, Below w.heap.size w w1 → (convert 22 9 (.slice a l.length c)).run Tryz.prog w1 = .ok (.string ⟨l.toArray⟩) w1) := fun w1 hb => (conv_rd (Rd.later hR hb)).2
  have FO : Hid (∀ w1, Below w.heap.size w w1 → Calls Tryz.prog 30 #[.string ⟨l.toArray⟩] w1 fun e w' => ∃ g c, e = .returned (.slice (some ⟨g, 0, none⟩) (spl l).length c) ∧ (spl l).length ≤ c ∧ RdF g (spl l) w' ∧ Below w1.heap.size w1 w') := fun w1 hb => fieldsOf_at l (by omega) w1 (hW.later hb).mx
  have KO : Hid (∀ w1, Below w.heap.size w w1 → Calls Tryz.prog 31 #[.string ⟨((spl l).getD 0 []).toArray⟩] w1 fun e w' => OptI ((kindW ((spl l).getD 0 [])).map Int.ofNat) e ∧ w' = w1) := fun w1 hb => kindOf_at _ w1 (hW.later hb).cmd
  have HW : Hid (PWs w) := hW
  have cv := CV.out _ b0
  have N1 : 0 < (spl l).length := List.length_pos_iff.2 (spl_ne l)
  have NN : (spl l).length ≤ 101 := by
    have h1 := spl_count l.length l (Nat.le_refl _)
    rw [Lib.count_one] at h1
    have := List.count_le_length (a := (32 : UInt8)) (l := l)
    omega
  have FO1 := FO.out _ b0
  have FO2 : Hid (Calls Tryz.prog 30 #[.string ⟨l.toArray⟩] (w.alloc (.cells (opL cm0).toArray 24)) fun e w' => ∃ g c, e = .returned (.slice (some ⟨g, 0, none⟩) (spl l).length c) ∧ (spl l).length ≤ c ∧ RdF g (spl l) w' ∧ Below (w.alloc (.cells (opL cm0).toArray 24)).heap.size (w.alloc (.cells (opL cm0).toArray 24)) w') := FO1
  have HE : Hid (readL l = match kindW ((spl l).getD 0 []) with
    | none => .bad 180 0
    | some k => if (spl l).length - 1 ≠ (slotN k).length then .bad 181 l.length else readF (slotN k) ((spl l).drop 1) (((spl l).getD 0 []).length + 1) ⟨(k : Int), 0, 0, 0, 0, 0, []⟩) := E0
  have SP : Hid (∀ k, ((spl l).getD k []).length ≤ l.length) := spl_part l
  clear E0 FO1 FO hR hW
  obtain ⟨N, hN⟩ : ∃ N, (spl l).length = N := ⟨_, rfl⟩
  have HN : Hid ((spl l).length = N) := hN
  rw [hN] at FO2 N1 NN HE
  clear hN
  generalize ({ data := l.toArray } : ByteArray) = TX at *
  generalize hfs : spl l = fs at *
  clear hfs
  obtain ⟨LL, hLL⟩ : ∃ LL, l.length = LL := ⟨_, rfl⟩
  rw [hLL] at hl hl' hmax cv CV HE SP ⊢
  clear hLL
  go_enter Tryz.func16, Tryz.ntmps16
  go_wp2_with fail
  refine FO2.out.mono ?_
  rintro e w2 ⟨g, fc, rfl, hfc, rd, b2⟩
  have B2 := below_trans b0 b2
  have NB2 : Hid (Blk w.heap.size 24 (opL cm0) w2) := NB.below b2
  have RDF : Hid (RdF g fs w2) := rd
  have c1 := (rd.at' 0 (by rw [HN.out]; omega)).2
  have glt := rd.lt
  have KO2 : Hid (Calls Tryz.prog 31 #[.string ⟨(fs.getD 0 []).toArray⟩] w2 fun e w' => OptI ((kindW (fs.getD 0 [])).map Int.ofNat) e ∧ w' = w2) := KO.out w2 B2
  clear FO2 CV cv b0 b2 NB KO rd
  simp only [Nat.zero_mul, Nat.zero_add] at c1
  generalize hwx : ({ data := (fs.getD 0 []).toArray } : ByteArray) = WX at *
  clear hwx
  go_wp2_with fail
  refine KO2.out.mono ?_
  rintro e w3 ⟨ha, hw⟩
  rw [hw]
  clear hw w3 KO2
  cases hkw : kindW (fs.getD 0 []) with
  | none =>
    rw [hkw] at ha HE
    have ha' : e = .returned (.tuple #[.int .i64 0, .bool false]) := ha
    subst ha'
    have E : Hid (readL l = .bad 180 0) := HE.out
    clear HE SP HW RDF ha
    go_wp2_with (refine step_store rfl 24 _ _ rfl w.heap.size 0 24 (opL cm0) (opL cm0) rfl rfl NB2.out (Nat.le_refl _) infoO0 (opV_one cm0) ?_; intro w4 nb4 g4; have N4 : Hid (Blk w.heap.size 24 (opL cm0) w4) := nb4; have B4 : Hid (Below w.heap.size w w4) := below_row B2 g4 (Nat.le_refl _); clear nb4 g4 NB2)
    refine ret_blk_tmp rfl rfl w.heap.size 24 (opL cm0) _ rfl N4.out Tryz.underlying24 rfl infoO0 ?_
    exact ⟨by rw [E.out]; exact .inl rfl, B4.out⟩
  | some k =>
    rw [hkw] at ha HE
    have ha' : e = .returned (.tuple #[.int .i64 (k : Int), .bool true]) := ha
    subst ha'
    obtain ⟨k1, k22, -⟩ := kindW_some hkw
    obtain ⟨sa, sc, hsl, hscap, -⟩ := (HW.out.later B2).cmd.sl k k22
    have gcl := (HW.out.later B2).cmd.lt
    have E1 : readL l = if N - 1 ≠ (slotN k).length then .bad 181 LL else readF (slotN k) (fs.drop 1) ((fs.getD 0 []).length + 1) ⟨(k : Int), 0, 0, 0, 0, 0, []⟩ := HE.out
    have HE1 : Hid (readL l = if N - 1 ≠ (slotN k).length then .bad 181 LL else readF (slotN k) (fs.drop 1) ((fs.getD 0 []).length + 1) ⟨(k : Int), 0, 0, 0, 0, 0, []⟩) := E1
    have SN := slot_len k k22
    clear E1 HE ha hkw
    by_cases hn : N - 1 = (slotN k).length
    · have dn : (((N : Int) - 1) != ((slotN k).length : Int)) = false := by rw [bne_eq_false_iff_eq]; omega
      have E : Hid (readL l = readF (slotN k) (fs.drop 1) ((fs.getD 0 []).length + 1) (cmK k)) := by show _ = _; rw [HE1.out, if_neg (fun h => h hn)]
      have hdl : (fs.drop 1).length = (slotN k).length := by rw [List.length_drop, HN.out]; exact hn
      have HL : ∀ i, ((fs.drop 1).getD i []).length ≤ 1000 := fun i => by
        have e : (fs.drop 1).getD i [] = fs.getD (i + 1) [] := by simp only [List.getD_eq_getElem?_getD, List.getElem?_drop]; rw [Nat.add_comm]
        rw [e]
        have := SP.out (i + 1)
        omega
      have RF : Hid (∀ ad : Option Addr, (1 < N → ad = some ⟨g, 2, none⟩) → Calls Tryz.prog 32 #[.int .i64 (k : Int), .slice ad (N - 1) (fc - 1)] w2 fun e w' => RfAns (readF (slotN k) (fs.drop 1) ((fs.getD 0 []).length + 1) (cmK k)) e ∧ Below w2.heap.size w2 w') := fun ad had => by
        have := readFields_at k k22 (fs.drop 1) hdl HL ((fs.getD 0 []).length + 1) ad (fc - 1) (by rw [hdl]; omega) w2 (fun i hi => by
          rw [hdl] at hi
          obtain ⟨a1, a2⟩ := RDF.out.at' (i + 1) (by rw [HN.out]; omega)
          have e : (fs.drop 1).getD i [] = fs.getD (i + 1) [] := by simp only [List.getD_eq_getElem?_getD, List.getElem?_drop]; rw [Nat.add_comm]
          refine ⟨g, 2, had (by omega), RDF.out.lt, ?_, ?_⟩
          · rw [show 2 + i * 2 = (i + 1) * 2 by omega, plc_drop]; exact a1
          · rw [show 2 + i * 2 + 1 = (i + 1) * 2 + 1 by omega, e]; exact a2) (HW.out.later B2).tab (HW.out.later B2).err (HW.out.later B2).pln (HW.out.later B2).cmd
        rw [hdl, ← hn] at this
        exact this
      generalize hR : readF (slotN k) (fs.drop 1) ((fs.getD 0 []).length + 1) (cmK k) = R at *
      clear hR HE1 hdl HL SP RDF HW
      generalize (slotN k).length = M at *
      obtain ⟨AD, had, sl1, sl2⟩ := slice_one g N fc N1 hfc
      have RF1 : Hid (Calls Tryz.prog 32 #[.int .i64 (k : Int), .slice AD M (fc - 1)] w2 fun e w' => RfAns R e ∧ Below w2.heap.size w2 w') := by
        have := RF.out AD had
        rw [hn] at this
        exact this
      clear RF had
      go_wp2_with fail
      refine RF1.out.mono ?_
      rintro e w3 ⟨ha, b3⟩
      have B3 := below_trans B2 b3
      have NB3 : Hid (Blk w.heap.size 24 (opL cm0) w3) := NB2.out.below b3
      clear RF1 NB2 B2 b3 sl1 sl2 c1 glt gcl hsl
      have b4 := below_alloc w3 (.cells (opL cm0).toArray 24)
      have NB4 : Hid (Blk w.heap.size 24 (opL cm0) (w3.alloc (.cells (opL cm0).toArray 24))) := NB3.out.below b4
      have B4 := below_trans B3 b4
      have HNZ : Hid (Blk w3.heap.size 24 (opL cm0) (w3.alloc (.cells (opL cm0).toArray 24))) := Blk.new 24 (opL cm0) w3
      have ltG : w.heap.size < w3.heap.size := NB3.out.lt
      clear b4 NB3 B3
      cases R with
      | ok o =>
        have ha' : e = .returned (.tuple #[.agg (opL o).toArray, .nilIface]) := ha
        subst ha'
        clear ha
        have IO := infoO o
        have ON := opV_one o
        go_wp2_with (first
          | (refine step_store rfl 24 _ _ rfl w3.heap.size 0 24 (opL cm0) (opL o) rfl rfl HNZ.out (Nat.le_refl _) IO ON ?_; intro w4 nb4 g4; have N4 : Hid (Blk w3.heap.size 24 (opL o) w4) := nb4; have M4 : Hid (Blk w.heap.size 24 (opL cm0) w4) := NB4.out.grown g4 (by simp; omega); have B5 : Hid (Below w.heap.size w w4) := below_row B4 g4 (Nat.le_of_lt ltG); clear nb4 g4 HNZ NB4 B4)
          | (refine step_load rfl 24 _ rfl w3.heap.size 0 rfl (opL o) _ N4.out.all Tryz.underlying24 rfl IO ?_)
          | (refine step_store rfl 24 _ _ rfl w.heap.size 0 24 (opL cm0) (opL o) rfl rfl M4.out (Nat.le_refl _) IO ON ?_; intro w5 nb5 g5; have N5 : Hid (Blk w.heap.size 24 (opL o) w5) := nb5; have B6 : Hid (Below w.heap.size w w5) := below_row B5.out g5 (Nat.le_refl _); clear nb5 g5 M4 N4 B5))
        refine ret_blk_tmp rfl rfl w.heap.size 24 (opL o) _ rfl N5.out Tryz.underlying24 rfl IO ?_
        exact ⟨by rw [E.out]; rfl, B6.out⟩
      | bad x p =>
        have ha' : e = .returned (.tuple #[.agg (opL cm0).toArray, fltV (x : Int) (p : Int)]) := ha
        subst ha'
        clear ha
        go_wp2_with (first
          | (refine step_store rfl 24 _ _ rfl w3.heap.size 0 24 (opL cm0) (opL cm0) rfl rfl HNZ.out (Nat.le_refl _) infoO0 (opV_one cm0) ?_; intro w4 nb4 g4; have M4 : Hid (Blk w.heap.size 24 (opL cm0) w4) := NB4.out.grown g4 (by simp; omega); have B5 : Hid (Below w.heap.size w w4) := below_row B4 g4 (Nat.le_of_lt ltG); clear nb4 g4 HNZ NB4 B4)
          | (refine step_store rfl 24 _ _ rfl w.heap.size 0 24 (opL cm0) (opL cm0) rfl rfl M4.out (Nat.le_refl _) infoO0 (opV_one cm0) ?_; intro w5 nb5 g5; have N5 : Hid (Blk w.heap.size 24 (opL cm0) w5) := nb5; have B6 : Hid (Below w.heap.size w w5) := below_row B5.out g5 (Nat.le_refl _); clear nb5 g5 M4 B5))
        refine ret_blk_tmp rfl rfl w.heap.size 24 (opL cm0) _ rfl N5.out Tryz.underlying24 rfl infoO0 ?_
        exact ⟨by rw [E.out]; exact .inr ⟨_, rfl⟩, B6.out⟩
    · have dn : (((N : Int) - 1) != ((slotN k).length : Int)) = true := bne_iff_ne.2 (by omega)
      have E : Hid (readL l = .bad 181 LL) := by show _ = _; rw [HE1.out, if_pos hn]
      clear HE1 SP HW RDF
      generalize (slotN k).length = M at *
      go_wp2_with (refine step_store rfl 24 _ _ rfl w.heap.size 0 24 (opL cm0) (opL cm0) rfl rfl NB2.out (Nat.le_refl _) infoO0 (opV_one cm0) ?_; intro w4 nb4 g4; have N4 : Hid (Blk w.heap.size 24 (opL cm0) w4) := nb4; have B4 : Hid (Below w.heap.size w w4) := below_row B2 g4 (Nat.le_refl _); clear nb4 g4 NB2)
      refine ret_blk_tmp rfl rfl w.heap.size 24 (opL cm0) _ rfl N4.out Tryz.underlying24 rfl infoO0 ?_
      exact ⟨by rw [E.out]; exact .inr ⟨_, rfl⟩, B4.out⟩
end Go.Proofs.YtkjnklagjhhhkaaGreatDoor
