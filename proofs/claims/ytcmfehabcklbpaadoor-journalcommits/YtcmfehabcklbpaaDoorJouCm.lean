/-
  Ours: JournalCommits' walk (gen_joucm.py: THE SEAT's OWN NUMBERS).
-/
import Derived.Test.YtcmfehabcklbpaaDoorJouBk
import Derived.Test.YtcmfehabcklbpaaDoorJouBs
namespace Go.Proofs.YtcmfehabcklbpaaDoor
open Go.RowKit JM

theorem more_two (o : List Nat) : 0 ≤ more o ∧ more o ≤ 1 := by unfold more; split <;> omega
theorem more_nil : more [] = 0 := rfl
theorem more_jf (ep : Nat) (sn : List Nat) (rs : List (List Nat)) : more (jf ep sn rs) = 1 := by
  unfold more; rw [if_neg]
  rw [jf_len, CrcM.enc_len]; omega
theorem ojL_one (o : OpJ) (x : Option Addr) (c : Nat) : ∀ v ∈ ojL o x c, v.oneCell' = true := by
  intro v hv
  simp [ojL] at hv
  rcases hv with rfl | rfl | rfl | rfl | rfl <;> rfl
def ojZ : List Value := [.int .i64 0, .int .i64 0, .int .i64 0, .int .i64 0, .slice none 0 0]
/-- What the loop carries. -/
structure CI (w : World) (R : Nat) (bs : List Nat) (os : List OpJ) (J : Nat) (S : Nat → Prop) (f ep : Nat) (sn : List Nat) (rs : List (List Nat)) (o : List Nat) (i : Nat) (n st : Int) (wr : World) : Prop where
  l : JL w R J S f ep sn rs o n wr
  hst : st = more o
  hn : n ≤ 2 + 3 * i
  hep : ep ≤ 1 + i
  hrs : rs.length ≤ i
  hx : (jf ep sn rs).length ≤ 28 + bs.length + 9 * i + lenJ os i

set_option maxRecDepth 100000 in
set_option maxHeartbeats 4000000 in
theorem costs_any (bs : List Nat) (os : List OpJ) (va vb : Value) (w : World) (h : RdB w va bs) (h' : RdJ w vb os) (hb : bs.length ≤ 140737488355328) (ho : os.length ≤ 140737488355328) (hd : ∀ o ∈ os, o.data.length ≤ 140737488355328) (hbb : ∀ b ∈ bs, b < 256) (hob : ∀ o ∈ os, ∀ b ∈ o.data, b < 256) (hT : TabS w) :
    Calls Tryd.prog 3 #[va, vb] w fun e w' => e = .returned (.bool true) ∧ Below w.heap.size w w' := by
  have FT := fits_at bs os va vb w h h' hb ho hd
  by_cases hf : fitsJ bs os
  · have FT' : Hid (Calls Tryd.prog 7 #[va, vb] w fun e w' => e = .returned (.bool true) ∧ w = w') := FT.mono fun e w' ⟨h1, h2⟩ => ⟨by rw [h1, decide_eq_true hf], h2.symm⟩
    have FF : Hid (bs.length + os.length + lenJ os os.length ≤ 4096) := hf
    have hb4 : bs.length ≤ 4096 := by have := FF.out; omega
    have hL4 : os.length ≤ 4096 := by have := FF.out; omega
    have NW : Hid (Calls Tryd.prog 8 #[] w (NewD w (Dk.load [] []))) := new_at w
    have CP : Hid (∀ (xs : List Nat) v w', xs.length ≤ 4096 → RdB w' v xs → Calls Tryd.prog 10 #[v] w' (NewB w' xs)) := fun xs v w' h1 h2 => jcopied_at xs v w' (by omega) h2
    have TT : Hid (∀ w', Below w.heap.size w w' → TabS w') := fun w' hb => hT.below hb
    have RA : Hid (∀ w', Below w.heap.size w w' → RdB w' va bs) := fun w' hb => Rd.later h hb
    have BB : Hid (∀ b ∈ bs, b < 256) := hbb
    obtain ⟨ao', cap', rfl, H⟩ := h'
    have HH : Hid (∀ i, i < os.length → ∃ o g off x c, ao' = some ⟨g, off, none⟩ ∧ (∀ b ∈ o.data, b < 256) ∧ o.data.length ≤ 4096 ∧ lenJ os (i + 1) = lenJ os i + o.data.length ∧ lenJ os (i + 1) ≤ 4096 ∧ ∀ w', Below w.heap.size w w' → w'.rangeAt g (off + i * 5) (ojL o x c) ∧ RdB w' (.slice x o.data.length c) o.data) := fun i hi => by
      have e := List.getElem?_eq_getElem hi
      obtain ⟨g, off, x, c, e1, lt, r, d⟩ := H i _ e
      have h1 := lenJ_succ e
      have h2 := lenJ_mono os (j := i + 1) (k := os.length) hi
      have h3 := FF.out
      exact ⟨_, g, off, x, c, e1, hob _ (List.getElem_mem _), by omega, h1, by omega, fun w' hb => ⟨rangeAt_below r hb lt, Rd.later d hb⟩⟩
    have Z0 : Hid (lenJ os 0 = 0) := rfl
    obtain ⟨av, cv, rfl, -, -⟩ := h.len
    clear FT hf h H hb ho hd hbb hob hT
    generalize os.length = L at *
    rw [List.length_map] at *
    go_enter Tryd.func3, Tryd.ntmps3
    go_wp2_with fail
    refine FT'.out.mono ?_
    rintro e w' ⟨rfl, rfl⟩
    go_wp2_with fail
    refine NW.out.mono ?_
    rintro e w1 ⟨R, S1, rfl, d1, s1, b1⟩
    have D1 : Hid (DkAt R S1 (Dk.load [] []) w1 ∧ (∀ g, S1 g → w.heap.size ≤ g) ∧ Below w.heap.size w w1) := ⟨d1, s1, b1⟩
    have C1 : Hid (Calls Tryd.prog 10 #[.slice av bs.length cv] w1 (NewB w1 bs)) := CP.out bs _ w1 hb4 (RA.out w1 b1)
    clear d1 s1 b1 NW FT'
    go_wp2_with fail
    refine C1.out.mono ?_
    rintro e w2 ⟨v2, rfl, r2, b2⟩
    obtain ⟨a2, c2, rfl, -, -⟩ := (RowV.rd r2).len
    rw [List.length_map] at r2
    have F2 : Hid (Calls Tryd.prog 9 #[.pointer (some ⟨R, 0, none⟩), .slice a2 bs.length c2] w2 fun e w' => e = .returned (.int .i64 0) ∧ ∃ S', DkAt R S' (D2 0 (jf 1 bs []) [] 2) w' ∧ (∀ g, S' g → w.heap.size ≤ g) ∧ Below w.heap.size w w') := jl_format bs a2 _ c2 (D1.out.1.below b2) D1.out.2.1 (below_trans D1.out.2.2 b2) BB.out hb4 (RowV.rd r2) (TT.out w2 (below_trans D1.out.2.2 b2))
    clear r2 b2 C1 D1
    rw [List.length_map]
    go_wp2_with fail
    refine F2.out.mono ?_
    rintro e w3 ⟨rfl, S3, d3, s3, b3⟩
    have W3 : Hid (Calls Tryd.prog 11 #[.pointer (some ⟨R, 0, none⟩)] w3 fun e w' => e = .returned (.int .i64 2) ∧ w3 = w') := (writes_at R S3 _ w3 d3).mono fun e w' ⟨h1, h2⟩ => ⟨by rw [h1, D2_wr], h2.symm⟩
    have O3 : Hid (Calls Tryd.prog 12 #[.pointer (some ⟨R, 0, none⟩)] w3 fun e w' => ∃ G a1 n1 c1 a2 n2 c2 S', e = .returned (.tuple #[.pointer (some ⟨G, 0, none⟩), .agg #[.int .i64 1, .slice a1 n1 c1, .slice a2 n2 c2, .int .i64 0], .int .i64 0]) ∧ JL w R G S' 0 1 bs [] [] 2 w') := (jl_first bs d3 s3 b3 BB.out hb4 (TT.out w3 b3)).mono fun e w' ⟨G, sv, rv, S', h1, h2, h3, h4, _⟩ => by
      obtain ⟨g, o, c, rfl, _⟩ := h3.len
      obtain ⟨a, c', rfl, _⟩ := h4.len
      exact ⟨G, _, _, _, _, _, _, S', h1, h2⟩
    clear d3 s3 b3 F2
    go_wp2_with fail
    refine W3.out.mono ?_
    rintro e w' ⟨rfl, rfl⟩
    go_wp2_with fail
    refine O3.out.mono ?_
    rintro e w4 ⟨J, a1, n1, c1, a2, n2, c2, S4, rfl, j4⟩
    have J4 : Hid (JL w R J S4 0 1 bs [] [] 2 w4) := j4
    clear j4 O3 W3
    go_upto_region 7 with ((with_reducible refine at_store ?_); refine step_store rfl 34 _ _ rfl w4.heap.size 0 34 rcZ [.int .i64 1, .slice a1 n1 c1, .slice a2 n2 c2, .int .i64 0] rfl rfl (Blk.new 34 rcZ w4) (Nat.le_refl _) rfl (rcL_one _ _ _ _ _ _ _ _) ?_; intro w5 nb g5; have J5 : Hid (JL w R J S4 0 1 bs [] [] 2 w5) := J4.out.later (below_row (below_alloc _ _) g5 (Nat.le_refl _)); clear nb g5 J4)
    have W5 : Hid (Calls Tryd.prog 11 #[.pointer (some ⟨R, 0, none⟩)] w5 fun e w' => e = .returned (.int .i64 2) ∧ w5 = w') := (writes_at R S4 _ w5 J5.out.d).mono fun e w' ⟨h1, h2⟩ => ⟨by rw [h1, D2_wr], h2.symm⟩
    go_wp2_with fail
    refine W5.out.mono ?_
    rintro e w' ⟨rfl, rfl⟩
    clear W5
    generalize w4.heap.size = P7 at *
    go_wp2_with fail
    go_loopw [6, 8, 9, 10, 11] (fun vj ve vn vs vi wr => ∃ (J : Nat) (S : Nat → Prop) (f ep : Nat) (sn : List Nat) (rs : List (List Nat)) (o : List Nat) (i : Nat) (n st : Int), vj = .pointer (some ⟨J, 0, none⟩) ∧ ve = .int .i64 0 ∧ vn = .int .i64 n ∧ vs = .int .i64 st ∧ vi = .int .i64 (i : Int) ∧ i ≤ L ∧ (0 ≤ n ∧ n ≤ 100000) ∧ (0 ≤ st ∧ st ≤ 1) ∧ Hid (CI w R bs os J S f ep sn rs o i n st wr)) (fun _ _ _ _ vi _ => L - (intOf vi).toNat)
    case atStart =>
      refine ⟨J, S4, 0, 1, bs, [], [], 0, 2, 0, rfl, rfl, rfl, rfl, rfl, by omega, by omega, by omega, ⟨J5.out, more_nil.symm, by omega, by omega, by simp, ?_⟩⟩
      have := jf_len1 1 bs (by omega)
      omega
    case round =>
      clear J5
      obtain ⟨J, S, f, ep, sn, rs, o, i, n, st, rfl, rfl, rfl, rfl, rfl, hi, hn, hst, CI0⟩ := hrel
      by_cases hlt : (i : Int) < (L : Int)
      · obtain ⟨⟨k, a, b, z, ds⟩, g, off, x, c, rfl, ob, ol, ls, l4, RR⟩ := HH.out i (by omega)
        have BW := CI0.out.l.b
        have RG : Hid (wr.rangeAt g (off + i * 5) [.int .i64 k, .int .i64 a, .int .i64 b, .int .i64 z, .slice x ds.length c]) := (RR wr BW).1
        have RD : Hid (RdB wr (.slice x ds.length c) ds) := (RR wr BW).2
        have OB : Hid (∀ b ∈ ds, b < 256) := ob
        have LS : Hid (lenJ os (i + 1) = lenJ os i + ds.length ∧ lenJ os (i + 1) ≤ 4096 ∧ ds.length ≤ 4096) := ⟨ls, l4, ol⟩
        clear ob ol ls l4 RR BW
        go_upto_region 15 with (first
          | (refine step_load rfl 38 _ rfl g (off + i * 5) rfl [.int .i64 k, .int .i64 a, .int .i64 b, .int .i64 z, .slice x ds.length c] _ RG.out Tryd.underlying38 rfl rfl ?_)
          | ((with_reducible refine at_store ?_); refine step_store rfl 38 _ _ rfl wr.heap.size 0 38 ojZ [.int .i64 k, .int .i64 a, .int .i64 b, .int .i64 z, .slice x ds.length c] rfl rfl (Blk.new 38 ojZ wr) (Nat.le_refl _) rfl (ojL_one ⟨k, a, b, z, ds⟩ x c) ?_; intro w1 nb g1; have B1 : Hid (Blk wr.heap.size 38 [.int .i64 k, .int .i64 a, .int .i64 b, .int .i64 z, .slice x ds.length c] w1 ∧ Below wr.heap.size wr w1) := ⟨blk_put (Nat.le_refl _) nb, below_row (below_alloc _ _) g1 (Nat.le_refl _)⟩; clear nb g1))
        have L1 : Hid (JL w R J S f ep sn rs o n w1) := CI0.out.l.later B1.out.2
        have R1 : Hid (RdB w1 (.slice x ds.length c) ds) := Rd.later RD.out B1.out.2
        have T1 : Hid (TabS w1) := TT.out w1 L1.out.b
        have c0 := B1.out.1.cell 0 _ rfl
        have c4 := B1.out.1.cell 4 _ rfl
        have CF : Hid (st = more o ∧ n ≤ 2 + 3 * i ∧ ep ≤ 1 + i ∧ rs.length ≤ i ∧ (jf ep sn rs).length ≤ 28 + bs.length + 9 * i + lenJ os i) := ⟨CI0.out.hst, CI0.out.hn, CI0.out.hep, CI0.out.hrs, CI0.out.hx⟩
        have WRS : Hid (∀ J' S' f' ep' sn' rs' o' n' w', JL w R J' S' f' ep' sn' rs' o' n' w' → Calls Tryd.prog 11 #[.pointer (some ⟨R, 0, none⟩)] w' fun e w'' => e = .returned (.int .i64 n') ∧ w' = w'') := fun J' S' f' ep' sn' rs' o' n' w' hj => (writes_at R S' _ w' hj.d).mono fun e w'' ⟨h1, h2⟩ => ⟨by rw [h1, D2_wr], h2.symm⟩
        obtain ⟨P, hP⟩ : ∃ P, wr.heap.size = P := ⟨_, rfl⟩
        rw [hP] at c0 c4 ⊢
        clear hP CI0 RG RD B1 HH
        by_cases k1 : k = 1
        · have d1 : (k == 1) = true := by rw [k1]; rfl
          clear k1
          have C1 : Hid (Calls Tryd.prog 10 #[.slice x ds.length c] w1 (NewB w1 ds)) := CP.out ds _ w1 LS.out.2.2 R1.out
          go_wp2_with fail
          refine C1.out.mono ?_
          rintro e w2 ⟨v2, rfl, r2, b2⟩
          obtain ⟨a2, c2, rfl, -, -⟩ := (RowV.rd r2).len
          rw [List.length_map] at r2
          have A2 : Hid (Calls Tryd.prog 13 #[.pointer (some ⟨J, 0, none⟩), .slice a2 ds.length c2] w2 fun e w' => e = .returned (.int .i64 0) ∧ ∃ S', JL w R J S' f ep sn (rs ++ [ds]) o (n + 2) w') := jl_append (L1.out.later b2) ⟨by omega, by omega⟩ (by have := CF.out; omega) ds a2 _ c2 OB.out LS.out.2.2 (by have := CF.out; have := LS.out; omega) (RowV.rd r2) (TT.out w2 (below_trans L1.out.b b2))
          clear r2 b2 C1 L1 R1 T1 c0 c4
          rw [List.length_map]
          go_wp2_with fail
          refine A2.out.mono ?_
          rintro e w3 ⟨rfl, S3, j3⟩
          have J3 : Hid (JL w R J S3 f ep sn (rs ++ [ds]) o (n + 2) w3) := j3
          have W3 : Hid (Calls Tryd.prog 11 #[.pointer (some ⟨R, 0, none⟩)] w3 fun e w'' => e = .returned (.int .i64 (n + 2)) ∧ w3 = w'') := WRS.out _ _ _ _ _ _ _ _ w3 j3
          clear j3 A2 WRS
          go_wp2_with fail
          refine W3.out.mono ?_
          rintro e w' ⟨rfl, rfl⟩
          go_wp2_with fail
          go_roundw
          case rel =>
            have h1 := CF.out
            have h2 := LS.out
            exact ⟨J, S3, f, ep, sn, rs ++ [ds], o, i + 1, n + 2, st, rfl, rfl, by go_num, rfl, by go_num, by omega, by omega, hst, ⟨J3.out, h1.1, by omega, by omega, by rw [List.length_append]; simp; omega, by rw [jf_len_push]; omega⟩⟩
          case measure => simp [intOf]; omega
        · have d1 : (k == 1) = false := beq_eq_false_iff_ne.2 k1
          clear k1
          by_cases k2 : k = 2
          · have d2 : (k == 2) = true := by rw [k2]; rfl
            clear k2
            have C1 : Hid (Calls Tryd.prog 10 #[.slice x ds.length c] w1 (NewB w1 ds)) := CP.out ds _ w1 LS.out.2.2 R1.out
            go_wp2_with fail
            refine C1.out.mono ?_
            rintro e w2 ⟨v2, rfl, r2, b2⟩
            obtain ⟨a2, c2, rfl, -, -⟩ := (RowV.rd r2).len
            rw [List.length_map] at r2
            have A2 : Hid (Calls Tryd.prog 14 #[.pointer (some ⟨J, 0, none⟩), .slice a2 ds.length c2] w2 fun e w' => e = .returned (.int .i64 0) ∧ ∃ S', JL w R J S' (1 - f) (ep + 1) ds [] (jf ep sn rs) (n + 2 + st) w') := by
              have := jl_compact (L1.out.later b2) ⟨by omega, by omega⟩ ds a2 _ c2 OB.out LS.out.2.2 (by have := CF.out; omega) (RowV.rd r2) (TT.out w2 (below_trans L1.out.b b2))
              rw [CF.out.1]; exact this
            clear r2 b2 C1 L1 R1 T1 c0 c4
            rw [List.length_map]
            go_wp2_with fail
            refine A2.out.mono ?_
            rintro e w3 ⟨rfl, S3, j3⟩
            have J3 : Hid (JL w R J S3 (1 - f) (ep + 1) ds [] (jf ep sn rs) (n + 2 + st) w3) := j3
            have W3 : Hid (Calls Tryd.prog 11 #[.pointer (some ⟨R, 0, none⟩)] w3 fun e w'' => e = .returned (.int .i64 (n + 2 + st)) ∧ w3 = w'') := WRS.out _ _ _ _ _ _ _ _ w3 j3
            clear j3 A2 WRS
            go_wp2_with fail
            refine W3.out.mono ?_
            rintro e w' ⟨rfl, rfl⟩
            go_wp2_with fail
            go_roundw
            case rel =>
              have h1 := CF.out
              have h2 := LS.out
              have h3 := jf_len1 (ep + 1) ds (by omega)
              exact ⟨J, S3, 1 - f, ep + 1, ds, [], jf ep sn rs, i + 1, n + 2 + st, 1, rfl, rfl, by go_num, rfl, by go_num, by omega, by omega, by omega, ⟨J3.out, (more_jf ep sn rs).symm, by omega, by omega, by simp, by omega⟩⟩
            case measure => simp [intOf]; omega
          · have d2 : (k == 2) = false := beq_eq_false_iff_ne.2 k2
            clear k2
            by_cases k3 : k = 3
            · have d3 : (k == 3) = true := by rw [k3]; rfl
              clear k3
              have A2 : Hid (Calls Tryd.prog 12 #[.pointer (some ⟨R, 0, none⟩)] w1 fun e w' => ∃ G v1 v2, ∃ (S' : Nat → Prop), e = .returned (.tuple #[.pointer (some ⟨G, 0, none⟩), .agg #[.int .i64 ep, v1, v2, .int .i64 0], .int .i64 0]) ∧ JL w R G S' f ep sn rs [] (n + st) w') := (jl_open L1.out ⟨by omega, by omega⟩ T1.out).mono fun e w' ⟨G, sv, rv, S', h1, h2, _⟩ => ⟨G, sv, rv, S', h1, by rw [CF.out.1]; exact h2⟩
              clear L1 R1 T1 c4
              go_wp2_with fail
              refine A2.out.mono ?_
              rintro e w3 ⟨G, v1, v2, S3, rfl, j3⟩
              have J3 : Hid (JL w R G S3 f ep sn rs [] (n + st) w3) := j3
              have W3 : Hid (Calls Tryd.prog 11 #[.pointer (some ⟨R, 0, none⟩)] w3 fun e w'' => e = .returned (.int .i64 (n + st)) ∧ w3 = w'') := WRS.out _ _ _ _ _ _ _ _ w3 j3
              clear j3 A2 WRS c0
              go_wp2_with fail
              refine W3.out.mono ?_
              rintro e w' ⟨rfl, rfl⟩
              go_wp2_with fail
              go_roundw
              case rel =>
                have h1 := CF.out
                have h2 := LS.out
                exact ⟨G, S3, f, ep, sn, rs, [], i + 1, n + st, 0, rfl, rfl, by go_num, rfl, by go_num, by omega, by omega, by omega, ⟨J3.out, more_nil.symm, by omega, by omega, by omega, by omega⟩⟩
              case measure => simp [intOf]; omega
            · have d3 : (k == 3) = false := beq_eq_false_iff_ne.2 k3
              clear k3
              have W3 : Hid (Calls Tryd.prog 11 #[.pointer (some ⟨R, 0, none⟩)] w1 fun e w'' => e = .returned (.int .i64 n) ∧ w1 = w'') := WRS.out _ _ _ _ _ _ _ _ w1 L1.out
              clear WRS c4
              go_wp2_with fail
              refine W3.out.mono ?_
              rintro e w' ⟨rfl, rfl⟩
              go_wp2_with fail
              go_roundw
              case rel =>
                have h1 := CF.out
                have h2 := LS.out
                exact ⟨J, S, f, ep, sn, rs, o, i + 1, n, st, rfl, rfl, rfl, rfl, by go_num, by omega, by omega, hst, ⟨L1.out, h1.1, by omega, by omega, by omega, by omega⟩⟩
              case measure => simp [intOf]; omega
      · have BW : Hid (Below w.heap.size w wr) := CI0.out.l.b
        clear CI0
        go_wp2_with fail
        go_ret
        exact ⟨rfl, BW.out⟩
  · have FT' : Hid (Calls Tryd.prog 7 #[va, vb] w fun e w' => e = .returned (.bool false) ∧ w = w') := FT.mono fun e w' ⟨h1, h2⟩ => ⟨by rw [h1, decide_eq_false hf], h2.symm⟩
    clear FT hf h h' hb ho hd hbb hob hT
    go_enter Tryd.func3, Tryd.ntmps3
    go_wp2_with fail
    refine FT'.out.mono ?_
    rintro e w' ⟨rfl, rfl⟩
    go_wp2_with fail
    go_ret
    exact ⟨rfl, Below.refl _ _⟩
end Go.Proofs.YtcmfehabcklbpaaDoor

namespace Go.Proofs.YtcmfehabcklbpaaDoor
open Go.RowKit JM

/-- The disk's blocks lie below a place, or the book's own are the only ones that are written. -/
theorem BS.dkB {w0 : World} {R B i M : Nat} {W : Int} {w w1 : World} (h : BS w0 R B i M W w) (hb : Below w.heap.size w w1) : ∃ S t, DkAt R S t w1 ∧ (∀ g, S g → g < w.heap.size) ∧ (∀ (F : Nat) (args : Array Value) (Qe : Ending → Prop) (q' : List (Int × Int)), (Calls Tryd.prog F args w1 fun e w' => Qe e ∧ DkPost R S w1 { t with q := q' } w') → Calls Tryd.prog F args w1 fun e w' => Qe e ∧ BS w0 R B i M W w' ∧ Kp S w1 w') := by
  rcases h with ⟨o, q, wr, ⟨S, J, f, s, s', v, h1, h2, h3, h4⟩, b1, b2⟩ | ⟨t, ⟨S, jv, mb, s, s', v, h1, hh, h3, h4, h5⟩, b1, b2⟩
  · have g1 := h1.later hb
    refine ⟨S, _, g1.d, dkAt_size h1.d, fun F args Qe q' hc => hc.mono fun e w' ⟨x1, x2⟩ => ?_⟩
    rw [D3_setq] at x2
    obtain ⟨S', d, gg, k⟩ := x2
    have j1 := h2.j.below hb
    exact ⟨x1, .inl ⟨o, q', wr, ⟨S', J, f, s, s', v, g1.disk d gg k (fun g hg => .inl hg), ⟨d, j1.kp k h2.n, fun hs => (gg J hs).elim h2.n (fun h => by have := j1.lt; omega), h2.x⟩, h3, h4⟩, b1, b2⟩, k⟩
  · have g1 := h1.later hb
    refine ⟨S, t, g1.d, dkAt_size h1.d, fun F args Qe q' hc => hc.mono fun e w' ⟨x1, S', d, gg, k⟩ => ?_⟩
    exact ⟨x1, .inr ⟨_, ⟨S', jv, mb, s, s', v, g1.disk d gg k (fun g hg => .inl hg), hh.imp (fun x => x.setq q') (fun x => ⟨x.1, x.2.setq q'⟩), h3, h4, h5.imp id (fun ⟨J, f, ep, ct, e, b, n, x⟩ => ⟨J, f, ep, ct, e, (b.below hb).kp k n, fun hs => (gg J hs).elim n (fun h => by have := (b.below hb).lt; omega), x⟩)⟩, b1, b2⟩, k⟩
theorem bs_armP {w0 : World} {R B i M : Nat} {W : Int} {w w1 : World} (h : BS w0 R B i M W w) (hb : Below w.heap.size w w1) (a k : Int) (P : Nat) (ty : TypeId) (cs : List Value) (hp : Blk P ty cs w1) (hn : w.heap.size ≤ P) : Calls Tryd.prog 25 #[.pointer (some ⟨R, 0, none⟩), .int .i64 a, .int .i64 k] w1 fun e w' => (∃ k, e = .returned (.int .i64 k)) ∧ BS w0 R B i M W w' ∧ Blk P ty cs w' := by
  obtain ⟨S, t, d, hS, F⟩ := h.dkB hb
  obtain ⟨q', hq⟩ := arm_two t a k
  exact (F _ _ (fun e => ∃ k, e = .returned (.int .i64 k)) q' ((arm_at R S t w1 a k d).mono fun e w' ⟨x1, x2⟩ => ⟨⟨_, x1⟩, by rw [hq] at x2; exact x2⟩)).mono fun e w' ⟨x1, x2, x3⟩ => ⟨x1, x2, hp.kp x3 (fun hs => by have := hS P hs; omega)⟩
theorem lenJ_mono2 (bs : List Nat) (os : List OpJ) (i : Nat) : bs.length + lenJ os i ≤ bs.length + lenJ os (i + 1) := by have := lenJ_mono os (Nat.le_add_right i 1); omega
/-- The book and its new disk. -/
structure BK2S (w : World) (R K : Nat) (S : Nat → Prop) (bs : List Nat) (av : Option Addr) (cv : Nat) (w2 : World) : Prop where
  d : DkAt R S (Dk.load [] []) w2
  s : ∀ g, S g → w.heap.size ≤ g
  b : Blk K 56 (#[.pointer (some ⟨R, 0, none⟩), .pointer none, .bool false, .int .i64 1, .slice av bs.length cv, .slice none 0 0, .bool false, .int .i64 0, .slice none 0 0, .slice none 0 0]).toList w2
  n : ¬ S K
  k : w.heap.size ≤ K
  bl : Below w.heap.size w w2
/-- The book at its beginning: behind Format. -/
theorem bs_begin (w w2 w3 : World) (R K : Nat) (S : Nat → Prop) (bs : List Nat) (av : Option Addr) (cv : Nat) (a3 : Option Addr) (c3 : Nat) (h : DkAt R S (Dk.load [] []) w2) (hS : ∀ g, S g → w.heap.size ≤ g) (hb : Blk K 56 (#[.pointer (some ⟨R, 0, none⟩), .pointer none, .bool false, .int .i64 1, .slice av bs.length cv, .slice none 0 0, .bool false, .int .i64 0, .slice none 0 0, .slice none 0 0]).toList w2) (nK : ¬ S K) (sK : w.heap.size ≤ K) (b2 : Below w.heap.size w w2) (b3 : Below w2.heap.size w2 w3) (hr : ∀ b ∈ bs, b < 256) (hl : bs.length ≤ 4096) (hi : Inp w (.slice av bs.length cv) bs) (hd : RdB w3 (.slice a3 bs.length c3) bs) (hT : TabS w3) :
    Calls Tryd.prog 9 #[.pointer (some ⟨R, 0, none⟩), .slice a3 bs.length c3] w3 fun e w' => e = .returned (.int .i64 0) ∧ BS w R K 0 bs.length 2 w' := by
  have hpl := put_len10 1 (by omega)
  have e := D2_fmt (CrcM.enc (hp 1 bs)) (by rw [CrcM.enc_len]; simp [hp]; omega)
  have e2 : jf 1 bs [] = CrcM.enc (hp 1 bs) := by unfold jf; rw [List.map_nil, join_nil, List.append_nil]
  have d3 := h.below b3
  refine (formatD_up R S _ bs a3 _ c3 w3 ⟨by show (0 : Int) ≤ 0; omega, by show (0 : Int) < _; omega⟩ rfl d3 (dkAt_size d3) hr (by omega) hd hT).mono ?_
  rw [e]
  rintro x w' ⟨rfl, S', d, g1, k⟩
  have kb := (hb.below b3).kp k nK
  have lt := (hb.below b3).lt
  have sz := Nat.le_trans b2.size b3.size
  rw [D2_D3, ← e2] at d
  have so : SOk ⟨1, bs, []⟩ 0 bs.length := ⟨by show 1 ≤ 1; omega, by show 1 ≤ _; omega, hr, hl, (fun x hx => nomatch hx), (fun x hx => nomatch hx), Nat.zero_le _, by have := jf_len1 1 bs (by omega); show (jf 1 bs []).length ≤ _; omega⟩
  refine ⟨rfl, .inr ⟨_, ⟨S', .pointer none, false, ⟨1, bs, []⟩, ⟨1, bs, []⟩, ⟨av, bs.length, cv, none, 0, 0, 0, none, 0, 0, none, 0, 0⟩, ⟨d, kb, fun hs => (g1 K hs).elim nK (fun h => by omega), fun g hg => (g1 g hg).elim (hS g) (fun h => by omega), sK, Kp.over (below_trans b2 b3) k hS, hi, LstV.nil _ _ _, fun g hg => (by simp [Value.ownBlock] at hg), fun e => by cases e⟩, .inl ⟨0, [], [], [], 2, false, by rw [List.append_nil]; rfl, .inl rfl, Mute.nil, Old.nil _, (fun _ hb => nomatch hb), (fun _ hb => nomatch hb)⟩, so, (fun e => by cases e), .inl rfl⟩, by rw [D3_wr]; omega, by rw [D3_wr]; omega⟩⟩

set_option maxRecDepth 100000 in
set_option maxHeartbeats 4000000 in
theorem commits_any (bs : List Nat) (os : List OpJ) (va vb : Value) (w : World) (h : RdB w va bs) (h' : RdJ w vb os) (hb : bs.length ≤ 140737488355328) (ho : os.length ≤ 140737488355328) (hd : ∀ o ∈ os, o.data.length ≤ 140737488355328) (hbb : ∀ b ∈ bs, b < 256) (hob : ∀ o ∈ os, ∀ b ∈ o.data, b < 256) (hT : TabS w) :
    Calls Tryd.prog 6 #[va, vb] w fun e w' => e = .returned (.bool true) ∧ Below w.heap.size w w' := by
  have FT := fits_at bs os va vb w h h' hb ho hd
  by_cases hf : fitsJ bs os
  · have FT' : Hid (Calls Tryd.prog 7 #[va, vb] w fun e w' => e = .returned (.bool true) ∧ w = w') := FT.mono fun e w' ⟨h1, h2⟩ => ⟨by rw [h1, decide_eq_true hf], h2.symm⟩
    have FF : Hid (bs.length + os.length + lenJ os os.length ≤ 4096) := hf
    have hb4 : bs.length ≤ 4096 := by have := FF.out; omega
    have hL4 : os.length ≤ 4096 := by have := FF.out; omega
    have NW : Hid (Calls Tryd.prog 8 #[] w (NewD w (Dk.load [] []))) := new_at w
    have CP : Hid (∀ (xs : List Nat) v w', xs.length ≤ 4096 → RdB w' v xs → Calls Tryd.prog 10 #[v] w' (NewB w' xs)) := fun xs v w' h1 h2 => jcopied_at xs v w' (by omega) h2
    have TT : Hid (∀ w', Below w.heap.size w w' → TabS w') := fun w' hb => hT.below hb
    have RA : Hid (∀ w', Below w.heap.size w w' → RdB w' va bs) := fun w' hb => Rd.later h hb
    have BB : Hid (∀ b ∈ bs, b < 256) := hbb
    obtain ⟨ao', cap', rfl, H⟩ := h'
    have HH : Hid (∀ i, i < os.length → ∃ o g off x c, ao' = some ⟨g, off, none⟩ ∧ (∀ b ∈ o.data, b < 256) ∧ o.data.length ≤ 4096 ∧ lenJ os (i + 1) = lenJ os i + o.data.length ∧ bs.length + lenJ os (i + 1) ≤ 4096 ∧ (∀ w', Below w.heap.size w w' → w'.rangeAt g (off + i * 5) (ojL o x c)) ∧ Inp w (.slice x o.data.length c) o.data) := fun i hi => by
      have e := List.getElem?_eq_getElem hi
      obtain ⟨g, off, x, c, e1, lt, r, d⟩ := H i _ e
      have h1 := lenJ_succ e
      have h2 := lenJ_mono os (j := i + 1) (k := os.length) hi
      have h3 := FF.out
      exact ⟨_, g, off, x, c, e1, hob _ (List.getElem_mem _), by omega, h1, by omega, fun w' hb => rangeAt_below r hb lt, ⟨x, c, rfl⟩, fun w' hb => Rd.later d hb⟩
    have Z0 : Hid (lenJ os 0 = 0) := rfl
    have EE : Hid (bs.length + lenJ os os.length ≤ 4096) := by have := FF.out; show _ ≤ _; omega
    obtain ⟨av, cv, rfl, -, -⟩ := h.len
    clear FT hf h H hb ho hd hbb hob hT
    generalize os.length = L at *
    rw [List.length_map] at *
    go_enter Tryd.func6, Tryd.ntmps6
    go_wp2_with fail
    refine FT'.out.mono ?_
    rintro e w' ⟨rfl, rfl⟩
    go_wp2_with fail
    refine NW.out.mono ?_
    rintro e w1 ⟨R, S1, rfl, d1, s1, b1⟩
    have D1 : Hid (DkAt R S1 (Dk.load [] []) w1 ∧ (∀ g, S1 g → w.heap.size ≤ g) ∧ Below w.heap.size w w1) := ⟨d1, s1, b1⟩
    clear d1 s1 b1 NW FT'
    have b2 : Below w1.heap.size w1 (w1.alloc (.cells #[.pointer (some ⟨R, 0, none⟩), .pointer none, .bool false, .int .i64 1, .slice av bs.length cv, .slice none 0 0, .bool false, .int .i64 0, .slice none 0 0, .slice none 0 0] 56)) := below_alloc _ _
    have BK2 : Hid (BK2S w R w1.heap.size S1 bs av cv (w1.alloc (.cells #[.pointer (some ⟨R, 0, none⟩), .pointer none, .bool false, .int .i64 1, .slice av bs.length cv, .slice none 0 0, .bool false, .int .i64 0, .slice none 0 0, .slice none 0 0] 56))) := ⟨D1.out.1.below b2, D1.out.2.1, Blk.new 56 (#[.pointer (some ⟨R, 0, none⟩), .pointer none, .bool false, .int .i64 1, .slice av bs.length cv, .slice none 0 0, .bool false, .int .i64 0, .slice none 0 0, .slice none 0 0]).toList w1, fun hs => by have := dkAt_size D1.out.1 _ hs; omega, D1.out.2.2.size, below_trans D1.out.2.2 b2⟩
    clear b2
    go_upto_region 4 with fail
    generalize w1.alloc (.cells #[.pointer (some ⟨R, 0, none⟩), .pointer none, .bool false, .int .i64 1, .slice av bs.length cv, .slice none 0 0, .bool false, .int .i64 0, .slice none 0 0, .slice none 0 0] 56) = w2 at *
    obtain ⟨K, hK⟩ : ∃ K, w1.heap.size = K := ⟨_, rfl⟩
    rw [hK] at BK2 ⊢
    clear hK D1
    have FM : Hid (∀ w3 a3 c3, Below w2.heap.size w2 w3 → RdB w3 (.slice a3 bs.length c3) bs → Calls Tryd.prog 9 #[.pointer (some ⟨R, 0, none⟩), .slice a3 bs.length c3] w3 fun e w' => e = .returned (.int .i64 0) ∧ BS w R K 0 bs.length 2 w') := fun w3 a3 c3 b3 r3 => bs_begin w w2 w3 R K S1 bs av cv a3 c3 BK2.out.d BK2.out.s BK2.out.b BK2.out.n BK2.out.k BK2.out.bl b3 BB.out hb4 ⟨⟨av, cv, rfl⟩, RA.out⟩ r3 (TT.out w3 (below_trans BK2.out.bl b3))
    refine wp_region_held_drew (S := fun w' => w'.cell? ⟨K, 0, none⟩ = some (.pointer (some ⟨R, 0, none⟩))) (by kernel_rfl) ((BK2.out.b.below (Below.drew (Below.refl _ _))).cell 0 _ rfl) (fun hH => ?_)
    refine wpAnyH_take (i := 0) (oi := { dst := some 18, op := Op.move (Operand.tmp 5), type := 54, pos := "outright.go:130", after := #[], guard := none }) (v := .pointer (some ⟨K, 0, none⟩)) rfl (by kernel_rfl) (by kernel_rfl) (by kernel_rfl) (fun _ _ _ h => h) (Or.inl ⟨by rfl, fun w' hs => by go_simp⟩) hH ?_
    try simp only [Act.put, List.setIfInBounds_toArray, List.set_cons_zero, List.set_cons_succ]
    refine wpAnyH_take (i := 1) (oi := { dst := some 19, op := Op.nilCheck (Operand.tmp 18), type := 0, pos := "outright.go:130", after := #[{ on := 0, ground := Ground.data }], guard := none }) (v := .pointer (some ⟨K, 0, none⟩)) rfl (by kernel_rfl) (by kernel_rfl) (by kernel_rfl) (fun _ _ _ h => h) (Or.inl ⟨by rfl, fun w' hs => by go_simp⟩) hH ?_
    try simp only [Act.put, List.setIfInBounds_toArray, List.set_cons_zero, List.set_cons_succ]
    refine wpAnyH_take (i := 2) (oi := { dst := some 20, op := Op.fieldAddr 56 (Operand.tmp 19) 0, type := 0, pos := "outright.go:130", after := #[{ on := 1, ground := Ground.data }], guard := none }) (v := .pointer (some ⟨K, 0, none⟩)) rfl (by kernel_rfl) (by kernel_rfl) (by kernel_rfl) (fun _ _ _ h => h) (Or.inl ⟨by rfl, fun w' hs => by go_simp⟩) hH ?_
    try simp only [Act.put, List.setIfInBounds_toArray, List.set_cons_zero, List.set_cons_succ]
    refine wpAnyH_take (i := 3) (oi := { dst := some 21, op := Op.load 25 (Operand.tmp 20), type := 25, pos := "outright.go:130", after := #[{ on := 2, ground := Ground.data }], guard := none }) (v := .pointer (some ⟨R, 0, none⟩)) rfl (by kernel_rfl) (by kernel_rfl) (by kernel_rfl) (fun _ _ _ h => h) (Or.inl ⟨by rfl, fun w' hs => by have c := hs; go_simp⟩) hH ?_
    try simp only [Act.put, List.setIfInBounds_toArray, List.set_cons_zero, List.set_cons_succ]
    refine wpAnyH_take (i := 4) (oi := { dst := some 22, op := Op.binOp BinOp.eql 25 (Operand.tmp 21) (Operand.const (Value.pointer none)) 25, type := 4, pos := "outright.go:130", after := #[{ on := 3, ground := Ground.data }], guard := none }) (v := .bool false) rfl (by kernel_rfl) (by kernel_rfl) (by kernel_rfl) (fun _ _ _ h => h) (Or.inl ⟨by rfl, fun w' hs => by go_simp⟩) hH ?_
    try simp only [Act.put, List.setIfInBounds_toArray, List.set_cons_zero, List.set_cons_succ]
    refine wpAnyH_take (i := 5) (oi := { dst := some 23, op := Op.move (Operand.tmp 22), type := 4, pos := "outright.go:130", after := #[{ on := 4, ground := Ground.data }], guard := none }) (v := .bool false) rfl (by kernel_rfl) (by kernel_rfl) (by kernel_rfl) (fun _ _ _ h => h) (Or.inl ⟨by rfl, fun w' hs => by go_simp⟩) hH ?_
    try simp only [Act.put, List.setIfInBounds_toArray, List.set_cons_zero, List.set_cons_succ]
    refine wpAnyH_take (i := 6) (oi := { dst := some 24, op := Op.move (Operand.tmp 5), type := 54, pos := "outright.go:130", after := #[{ on := 5, ground := Ground.guard }], guard := some (5, false) }) (v := .pointer (some ⟨K, 0, none⟩)) rfl (by kernel_rfl) (by kernel_rfl) (by kernel_rfl) (fun _ _ _ h => h) (Or.inl ⟨by rfl, fun w' hs => by go_simp⟩) hH ?_
    try simp only [Act.put, List.setIfInBounds_toArray, List.set_cons_zero, List.set_cons_succ]
    refine wpAnyH_take (i := 7) (oi := { dst := some 25, op := Op.nilCheck (Operand.tmp 24), type := 0, pos := "outright.go:130", after := #[{ on := 6, ground := Ground.data }, { on := 5, ground := Ground.guard }], guard := some (5, false) }) (v := .pointer (some ⟨K, 0, none⟩)) rfl (by kernel_rfl) (by kernel_rfl) (by kernel_rfl) (fun _ _ _ h => h) (Or.inl ⟨by rfl, fun w' hs => by go_simp⟩) hH ?_
    try simp only [Act.put, List.setIfInBounds_toArray, List.set_cons_zero, List.set_cons_succ]
    refine wpAnyH_take (i := 8) (oi := { dst := some 26, op := Op.fieldAddr 56 (Operand.tmp 25) 0, type := 0, pos := "outright.go:130", after := #[{ on := 7, ground := Ground.data }, { on := 5, ground := Ground.guard }], guard := some (5, false) }) (v := .pointer (some ⟨K, 0, none⟩)) rfl (by kernel_rfl) (by kernel_rfl) (by kernel_rfl) (fun _ _ _ h => h) (Or.inl ⟨by rfl, fun w' hs => by go_simp⟩) hH ?_
    try simp only [Act.put, List.setIfInBounds_toArray, List.set_cons_zero, List.set_cons_succ]
    refine wpAnyH_take (i := 9) (oi := { dst := some 27, op := Op.load 25 (Operand.tmp 26), type := 25, pos := "outright.go:130", after := #[{ on := 8, ground := Ground.data }, { on := 5, ground := Ground.guard }], guard := some (5, false) }) (v := .pointer (some ⟨R, 0, none⟩)) rfl (by kernel_rfl) (by kernel_rfl) (by kernel_rfl) (fun _ _ _ h => h) (Or.inl ⟨by rfl, fun w' hs => by have c := hs; go_simp⟩) hH ?_
    try simp only [Act.put, List.setIfInBounds_toArray, List.set_cons_zero, List.set_cons_succ]
    refine wpAnyH_take (i := 10) (oi := { dst := some 28, op := Op.move (Operand.tmp 0), type := 22, pos := "outright.go:130", after := #[{ on := 5, ground := Ground.guard }], guard := some (5, false) }) (v := .slice av bs.length cv) rfl (by kernel_rfl) (by kernel_rfl) (by kernel_rfl) (fun _ _ _ h => h) (Or.inl ⟨by rfl, fun w' hs => by go_simp⟩) hH ?_
    try simp only [Act.put, List.setIfInBounds_toArray, List.set_cons_zero, List.set_cons_succ]
    refine wpAnyH_ready (rs := [11]) (by kernel_rfl) (by simp) ?_
    refine AllReadyH.cons (o := { dst := some 29, op := Op.call { callee := Callee.value (Operand.func 10), args := #[Operand.tmp 28], argTypes := #[22] }, type := 22, pos := "outright.go:130", after := #[{ on := 10, ground := Ground.data }, { on := 5, ground := Ground.chain }, { on := 5, ground := Ground.guard }], guard := some (5, false) }) rfl (fun Kx hK => ?_) AllReadyH.nil
    go_simp
    refine (CP.out bs _ _ hb4 (RA.out _ (below_trans BK2.out.bl (Below.drew (Below.refl _ _))))).mono ?_
    rintro e w3 ⟨v3, rfl, r3, b3⟩
    obtain ⟨a3, c3, rfl, -, -⟩ := (RowV.rd r3).len
    rw [List.length_map] at r3 ⊢
    have B3 : Hid (Below w2.heap.size w2 w3) := below_trans (Below.drew (Below.refl _ _)) b3
    have R3 : Hid (RdB w3 (.slice a3 bs.length c3) bs) := RowV.rd r3
    clear r3 b3
    refine hK.out _ _ ((BK2.out.b.below B3.out).cell 0 _ rfl) (fun hH => ?_)
    try simp only [Act.put, List.setIfInBounds_toArray, List.set_cons_zero, List.set_cons_succ]
    refine wpAnyH_ready (rs := [12]) (by kernel_rfl) (by simp) ?_
    refine AllReadyH.cons (o := { dst := some 30, op := Op.call { callee := Callee.value (Operand.func 9), args := #[Operand.tmp 27, Operand.tmp 29], argTypes := #[25, 22] }, type := 27, pos := "outright.go:130", after := #[{ on := 9, ground := Ground.data }, { on := 11, ground := Ground.data }, { on := 11, ground := Ground.chain }, { on := 5, ground := Ground.guard }], guard := some (5, false) }) rfl (fun Kx hK => ?_) AllReadyH.nil
    go_simp
    refine (FM.out w3 a3 c3 B3.out R3.out).mono ?_
    rintro e w4 ⟨rfl, bs4⟩
    have S4 : Hid (BS w R K 0 bs.length 2 w4) := bs4
    clear bs4
    refine hK.out _ _ S4.out.d0.1 (fun hH => ?_)
    try simp only [Act.put, List.setIfInBounds_toArray, List.set_cons_zero, List.set_cons_succ]
    refine wpAnyH_take (i := 13) (oi := { dst := some 31, op := Op.binOp BinOp.neq 27 (Operand.tmp 30) (Operand.const (Value.int IntKind.i64 0)) 27, type := 4, pos := "outright.go:130", after := #[{ on := 12, ground := Ground.data }, { on := 5, ground := Ground.guard }], guard := some (5, false) }) (v := .bool false) rfl (by kernel_rfl) (by kernel_rfl) (by kernel_rfl) (fun _ _ _ h => h) (Or.inl ⟨by rfl, fun w' hs => by go_simp⟩) hH ?_
    try simp only [Act.put, List.setIfInBounds_toArray, List.set_cons_zero, List.set_cons_succ]
    refine wpAnyH_take (i := 14) (oi := { dst := some 32, op := Op.pick (Operand.tmp 23) (Operand.const (Value.bool true)) (Operand.tmp 31), type := 4, pos := "outright.go:130", after := #[{ on := 5, ground := Ground.data }, { on := 13, ground := Ground.data }], guard := none }) (v := .bool false) rfl (by kernel_rfl) (by kernel_rfl) (by kernel_rfl) (fun _ _ _ h => h) (Or.inl ⟨by rfl, fun w' hs => by go_simp⟩) hH ?_
    try simp only [Act.put, List.setIfInBounds_toArray, List.set_cons_zero, List.set_cons_succ]
    refine wpAnyH_take (i := 15) (oi := { dst := some 33, op := Op.move (Operand.tmp 32), type := 4, pos := "outright.go:130", after := #[{ on := 14, ground := Ground.data }, { on := 12, ground := Ground.chain }], guard := none }) (v := .bool false) rfl (by kernel_rfl) (by kernel_rfl) (by kernel_rfl) (fun _ _ _ h => h) (Or.inl ⟨by rfl, fun w' hs => by go_simp⟩) hH ?_
    try simp only [Act.put, List.setIfInBounds_toArray, List.set_cons_zero, List.set_cons_succ]
    refine wpAnyH_take (i := 16) (oi := { dst := some 34, op := Op.move (Operand.tmp 5), type := 54, pos := "outright.go:130", after := #[{ on := 15, ground := Ground.guard }], guard := some (15, false) }) (v := .pointer (some ⟨K, 0, none⟩)) rfl (by kernel_rfl) (by kernel_rfl) (by kernel_rfl) (fun _ _ _ h => h) (Or.inl ⟨by rfl, fun w' hs => by go_simp⟩) hH ?_
    try simp only [Act.put, List.setIfInBounds_toArray, List.set_cons_zero, List.set_cons_succ]
    refine wpAnyH_ready (rs := [17]) (by kernel_rfl) (by simp) ?_
    refine AllReadyH.cons (o := { dst := some 35, op := Op.call { callee := Callee.value (Operand.func 23), args := #[Operand.tmp 34], argTypes := #[54] }, type := 4, pos := "outright.go:130", after := #[{ on := 16, ground := Ground.data }, { on := 15, ground := Ground.chain }, { on := 15, ground := Ground.guard }], guard := some (15, false) }) rfl (fun Kx hK => ?_) AllReadyH.nil
    go_simp
    refine (bs_opened S4.out (by omega) (by omega) TT.out).mono ?_
    rintro e w5 ⟨rfl, bs5⟩
    have S5 : Hid (BS w R K 0 bs.length 5 w5) := bs5
    clear bs5
    refine hK.out _ _ S5.out.d0.1 (fun hH => ?_)
    try simp only [Act.put, List.setIfInBounds_toArray, List.set_cons_zero, List.set_cons_succ]
    refine wpAnyH_take (i := 18) (oi := { dst := some 36, op := Op.unOp UnOp.not 4 (Operand.tmp 35), type := 4, pos := "outright.go:130", after := #[{ on := 17, ground := Ground.data }, { on := 15, ground := Ground.guard }], guard := some (15, false) }) (v := .bool false) rfl (by kernel_rfl) (by kernel_rfl) (by kernel_rfl) (fun _ _ _ h => h) (Or.inl ⟨by rfl, fun w' hs => by go_simp⟩) hH ?_
    try simp only [Act.put, List.setIfInBounds_toArray, List.set_cons_zero, List.set_cons_succ]
    refine wpAnyH_take (i := 19) (oi := { dst := some 37, op := Op.pick (Operand.tmp 33) (Operand.const (Value.bool true)) (Operand.tmp 36), type := 4, pos := "outright.go:130", after := #[{ on := 15, ground := Ground.data }, { on := 18, ground := Ground.data }], guard := none }) (v := .bool false) rfl (by kernel_rfl) (by kernel_rfl) (by kernel_rfl) (fun _ _ _ h => h) (Or.inl ⟨by rfl, fun w' hs => by go_simp⟩) hH ?_
    try simp only [Act.put, List.setIfInBounds_toArray, List.set_cons_zero, List.set_cons_succ]
    refine wpAnyH_done (by kernel_rfl) ?_ _
    clear hH hK S4 B3 R3 FM
    go_wp2_with fail
    have bdr : Below w5.heap.size w5 w5 := Below.refl _ _
    go_loopw [6] (fun vi wr => ∃ i : Nat, vi = .int .i64 (i : Int) ∧ i ≤ L ∧ Hid (BS w R K i (bs.length + lenJ os i) (5 + 3 * (i : Int)) wr)) (fun vi _ => L - (intOf vi).toNat)
    case atStart => exact ⟨0, rfl, by omega, S5.out.mono (by omega) (by have := Z0.out; omega) (by omega)⟩
    case round =>
      clear S5
      obtain ⟨i, rfl, hi, S0⟩ := hrel
      by_cases hlt : (i : Int) < (L : Int)
      · obtain ⟨⟨k, a, b, z, ds⟩, g, off, x, c, rfl, ob, ol, ls, l4, RR, IN⟩ := HH.out i (by omega)
        have RG : Hid (wr.rangeAt g (off + i * 5) [.int .i64 k, .int .i64 a, .int .i64 b, .int .i64 z, .slice x ds.length c]) := RR wr S0.out.d0.2
        have DS : Hid (Inp w (.slice x ds.length c) ds ∧ (∀ b ∈ ds, b < 256) ∧ ds.length ≤ 4096 ∧ lenJ os (i + 1) = lenJ os i + ds.length ∧ bs.length + lenJ os (i + 1) ≤ 4096) := ⟨IN, ob, ol, ls, l4⟩
        clear ob ol ls l4 RR IN
        go_upto_region 11 with (first
          | (refine step_load rfl 38 _ rfl g (off + i * 5) rfl [.int .i64 k, .int .i64 a, .int .i64 b, .int .i64 z, .slice x ds.length c] _ RG.out Tryd.underlying38 rfl rfl ?_)
          | ((with_reducible refine at_store ?_); refine step_store rfl 38 _ _ rfl wr.heap.size 0 38 ojZ [.int .i64 k, .int .i64 a, .int .i64 b, .int .i64 z, .slice x ds.length c] rfl rfl (Blk.new 38 ojZ wr) (Nat.le_refl _) rfl (ojL_one ⟨k, a, b, z, ds⟩ x c) ?_; intro w1 nb g1; have N1 : Hid (Blk wr.heap.size 38 [.int .i64 k, .int .i64 a, .int .i64 b, .int .i64 z, .slice x ds.length c] w1 ∧ Below wr.heap.size wr w1) := ⟨blk_put (Nat.le_refl _) nb, below_row (below_alloc _ _) g1 (Nat.le_refl _)⟩; clear nb g1))
        have S1 : Hid (BS w R K i (bs.length + lenJ os i) (5 + 3 * (i : Int)) w1) := S0.out.later N1.out.2
        have AR : Hid (∀ w', Below w1.heap.size w1 w' → Calls Tryd.prog 25 #[.pointer (some ⟨R, 0, none⟩), .int .i64 a, .int .i64 b] w' fun e w'' => (∃ k, e = .returned (.int .i64 k)) ∧ BS w R K i (bs.length + lenJ os i) (5 + 3 * (i : Int)) w'' ∧ Blk wr.heap.size 38 [.int .i64 k, .int .i64 a, .int .i64 b, .int .i64 z, .slice x ds.length c] w'') := fun w' hb => bs_armP S0.out (below_trans N1.out.2 hb) a b wr.heap.size 38 [.int .i64 k, .int .i64 a, .int .i64 b, .int .i64 z, .slice x ds.length c] (N1.out.1.below hb) (Nat.le_refl _)
        have B1 : Hid (Blk wr.heap.size 38 [.int .i64 k, .int .i64 a, .int .i64 b, .int .i64 z, .slice x ds.length c] w1) := N1.out.1
        have c0 := N1.out.1.cell 0 _ rfl
        have iL : i ≤ 4096 := by omega
        obtain ⟨P, hP⟩ : ∃ P, wr.heap.size = P := ⟨_, rfl⟩
        rw [hP] at B1 c0 AR ⊢
        clear hP S0 N1 RG HH
        have FIN : Hid (∀ w', BS w R K i (bs.length + lenJ os i) (5 + 3 * (i : Int)) w' → BS w R K (i + 1) (bs.length + lenJ os (i + 1)) (5 + 3 * ((i + 1 : Nat) : Int)) w') := fun w' h => h.mono (by omega) (lenJ_mono2 bs os i) (by omega)
        have FI3 : Hid (∀ w', BS w R K i (bs.length + lenJ os i) (5 + 3 * (i : Int) + 3) w' → BS w R K (i + 1) (bs.length + lenJ os (i + 1)) (5 + 3 * ((i + 1 : Nat) : Int)) w') := fun w' h => h.mono (by omega) (lenJ_mono2 bs os i) (by omega)
        by_cases k1 : k = 1
        · have d1 : (k == 1) = true := by rw [k1]; rfl
          clear k1
          have WW : Hid (Calls Tryd.prog 24 #[.pointer (some ⟨K, 0, none⟩), .agg #[.int .i64 k, .int .i64 a, .int .i64 b, .int .i64 z, .slice x ds.length c]] w1 fun e w' => e = .returned (.bool true) ∧ BS w R K (i + 1) (bs.length + lenJ os (i + 1)) (5 + 3 * ((i + 1 : Nat) : Int)) w') := (bs_wrote S1.out (by omega) (by have := DS.out; omega) (by omega) TT.out k a b z x c ds DS.out.1 DS.out.2.2.1 DS.out.2.1).mono fun e w' ⟨x1, x2⟩ => ⟨x1, x2.mono (Nat.le_refl _) (by have := DS.out; omega) (by omega)⟩
          go_wp2_with (refine step_load rfl 38 _ rfl P 0 rfl [.int .i64 k, .int .i64 a, .int .i64 b, .int .i64 z, .slice x ds.length c] _ B1.out.all Tryd.underlying38 rfl rfl ?_)
          refine WW.out.mono ?_
          rintro e w2 ⟨rfl, s2⟩
          have S2 : Hid (BS w R K (i + 1) (bs.length + lenJ os (i + 1)) (5 + 3 * ((i + 1 : Nat) : Int)) w2) := s2
          clear s2 WW c0
          go_wp2_with fail
          go_roundw
          case rel => exact ⟨i + 1, by go_num, by omega, S2⟩
          case measure => simp [intOf]; omega
        · have d1 : (k == 1) = false := beq_eq_false_iff_ne.2 k1
          clear k1
          by_cases k2 : k = 2
          · have d2 : (k == 2) = true := by rw [k2]; rfl
            clear k2
            have WW : Hid (Calls Tryd.prog 24 #[.pointer (some ⟨K, 0, none⟩), .agg #[.int .i64 k, .int .i64 a, .int .i64 b, .int .i64 z, .slice x ds.length c]] w1 fun e w' => e = .returned (.bool true) ∧ BS w R K (i + 1) (bs.length + lenJ os (i + 1)) (5 + 3 * ((i + 1 : Nat) : Int)) w') := (bs_wrote S1.out (by omega) (by have := DS.out; omega) (by omega) TT.out k a b z x c ds DS.out.1 DS.out.2.2.1 DS.out.2.1).mono fun e w' ⟨x1, x2⟩ => ⟨x1, x2.mono (Nat.le_refl _) (by have := DS.out; omega) (by omega)⟩
            go_wp2_with (refine step_load rfl 38 _ rfl P 0 rfl [.int .i64 k, .int .i64 a, .int .i64 b, .int .i64 z, .slice x ds.length c] _ B1.out.all Tryd.underlying38 rfl rfl ?_)
            refine WW.out.mono ?_
            rintro e w2 ⟨rfl, s2⟩
            have S2 : Hid (BS w R K (i + 1) (bs.length + lenJ os (i + 1)) (5 + 3 * ((i + 1 : Nat) : Int)) w2) := s2
            clear s2 WW c0
            go_wp2_with fail
            go_roundw
            case rel => exact ⟨i + 1, by go_num, by omega, S2⟩
            case measure => simp [intOf]; omega
          · have d2 : (k == 2) = false := beq_eq_false_iff_ne.2 k2
            clear k2
            by_cases k3 : k = 3
            · have d3 : (k == 3) = true := by rw [k3]; rfl
              clear k3
              have WW : Hid (Calls Tryd.prog 23 #[.pointer (some ⟨K, 0, none⟩)] w1 fun e w' => e = .returned (.bool true) ∧ BS w R K i (bs.length + lenJ os i) (5 + 3 * (i : Int) + 3) w') := bs_opened S1.out (by omega) (by omega) TT.out
              go_wp2_with fail
              refine WW.out.mono ?_
              rintro e w2 ⟨rfl, s2⟩
              have S2 : Hid (BS w R K (i + 1) (bs.length + lenJ os (i + 1)) (5 + 3 * ((i + 1 : Nat) : Int)) w2) := FI3.out w2 s2
              clear s2 WW c0
              go_wp2_with fail
              go_roundw
              case rel => exact ⟨i + 1, by go_num, by omega, S2⟩
              case measure => simp [intOf]; omega
            · have d3 : (k == 3) = false := beq_eq_false_iff_ne.2 k3
              clear k3
              by_cases k4 : k = 4
              · have d4 : (k == 4) = true := by rw [k4]; rfl
                clear k4
                go_upto_region 18 with fail
                refine wp_region_held_drew (S := fun w' => w'.cell? ⟨K, 0, none⟩ = some (.pointer (some ⟨R, 0, none⟩)) ∧ Blk P 38 [.int .i64 k, .int .i64 a, .int .i64 b, .int .i64 z, .slice x ds.length c] w') (by kernel_rfl) (⟨(S1.out.later (Below.drew (Below.refl _ _))).d0.1, B1.out.below (Below.drew (Below.refl _ _))⟩) (fun hH => ?_)
                refine wpAnyH_take (i := 0) (oi := { dst := some 62, op := Op.move (Operand.tmp 5), type := 54, pos := "outright.go:142", after := #[], guard := none }) (v := .pointer (some ⟨K, 0, none⟩)) rfl (by kernel_rfl) (by kernel_rfl) (by kernel_rfl) (fun _ _ _ h => h) (Or.inl ⟨by rfl, fun w' hs => by go_simp⟩) hH ?_
                try simp only [Act.put, List.setIfInBounds_toArray, List.set_cons_zero, List.set_cons_succ]
                refine wpAnyH_take (i := 1) (oi := { dst := some 63, op := Op.nilCheck (Operand.tmp 62), type := 0, pos := "outright.go:142", after := #[{ on := 0, ground := Ground.data }], guard := none }) (v := .pointer (some ⟨K, 0, none⟩)) rfl (by kernel_rfl) (by kernel_rfl) (by kernel_rfl) (fun _ _ _ h => h) (Or.inl ⟨by rfl, fun w' hs => by go_simp⟩) hH ?_
                try simp only [Act.put, List.setIfInBounds_toArray, List.set_cons_zero, List.set_cons_succ]
                refine wpAnyH_take (i := 2) (oi := { dst := some 64, op := Op.fieldAddr 56 (Operand.tmp 63) 0, type := 0, pos := "outright.go:142", after := #[{ on := 1, ground := Ground.data }], guard := none }) (v := .pointer (some ⟨K, 0, none⟩)) rfl (by kernel_rfl) (by kernel_rfl) (by kernel_rfl) (fun _ _ _ h => h) (Or.inl ⟨by rfl, fun w' hs => by go_simp⟩) hH ?_
                try simp only [Act.put, List.setIfInBounds_toArray, List.set_cons_zero, List.set_cons_succ]
                refine wpAnyH_take (i := 3) (oi := { dst := some 65, op := Op.load 25 (Operand.tmp 64), type := 25, pos := "outright.go:142", after := #[{ on := 2, ground := Ground.data }], guard := none }) (v := .pointer (some ⟨R, 0, none⟩)) rfl (by kernel_rfl) (by kernel_rfl) (by kernel_rfl) (fun _ _ _ h => h) (Or.inl ⟨by rfl, fun w' hs => by have c := hs.1; go_simp⟩) hH ?_
                try simp only [Act.put, List.setIfInBounds_toArray, List.set_cons_zero, List.set_cons_succ]
                refine wpAnyH_take (i := 4) (oi := { dst := some 66, op := Op.fieldAddr 38 (Operand.tmp 7) 1, type := 0, pos := "outright.go:142", after := #[], guard := none }) (v := .pointer (some ⟨P, 1, none⟩)) rfl (by kernel_rfl) (by kernel_rfl) (by kernel_rfl) (fun _ _ _ h => h) (Or.inl ⟨by rfl, fun w' hs => by go_simp⟩) hH ?_
                try simp only [Act.put, List.setIfInBounds_toArray, List.set_cons_zero, List.set_cons_succ]
                refine wpAnyH_take (i := 5) (oi := { dst := some 67, op := Op.load 3 (Operand.tmp 66), type := 3, pos := "outright.go:142", after := #[{ on := 4, ground := Ground.data }], guard := none }) (v := .int .i64 a) rfl (by kernel_rfl) (by kernel_rfl) (by kernel_rfl) (fun _ _ _ h => h) (Or.inl ⟨by rfl, fun w' hs => by have c := hs.2.cell 1 _ rfl; go_simp⟩) hH ?_
                try simp only [Act.put, List.setIfInBounds_toArray, List.set_cons_zero, List.set_cons_succ]
                refine wpAnyH_take (i := 6) (oi := { dst := some 68, op := Op.fieldAddr 38 (Operand.tmp 7) 2, type := 0, pos := "outright.go:142", after := #[], guard := none }) (v := .pointer (some ⟨P, 2, none⟩)) rfl (by kernel_rfl) (by kernel_rfl) (by kernel_rfl) (fun _ _ _ h => h) (Or.inl ⟨by rfl, fun w' hs => by go_simp⟩) hH ?_
                try simp only [Act.put, List.setIfInBounds_toArray, List.set_cons_zero, List.set_cons_succ]
                refine wpAnyH_take (i := 7) (oi := { dst := some 69, op := Op.load 3 (Operand.tmp 68), type := 3, pos := "outright.go:142", after := #[{ on := 6, ground := Ground.data }], guard := none }) (v := .int .i64 b) rfl (by kernel_rfl) (by kernel_rfl) (by kernel_rfl) (fun _ _ _ h => h) (Or.inl ⟨by rfl, fun w' hs => by have c := hs.2.cell 2 _ rfl; go_simp⟩) hH ?_
                try simp only [Act.put, List.setIfInBounds_toArray, List.set_cons_zero, List.set_cons_succ]
                refine wpAnyH_ready (rs := [8]) (by kernel_rfl) (by simp) ?_
                refine AllReadyH.cons (o := { dst := some 70, op := Op.call { callee := Callee.value (Operand.func 25), args := #[Operand.tmp 65, Operand.tmp 67, Operand.tmp 69], argTypes := #[25, 3, 3] }, type := 27, pos := "outright.go:142", after := #[{ on := 3, ground := Ground.data }, { on := 5, ground := Ground.data }, { on := 7, ground := Ground.data }], guard := none }) rfl (fun Kx hK => ?_) AllReadyH.nil
                go_simp
                refine (AR.out _ (Below.drew (Below.refl _ _))).mono ?_
                rintro e w2 ⟨⟨kx, rfl⟩, s2, p2⟩
                have S2 : Hid (BS w R K (i + 1) (bs.length + lenJ os (i + 1)) (5 + 3 * ((i + 1 : Nat) : Int)) w2) := FIN.out w2 s2
                refine hK.out _ _ ⟨s2.d0.1, p2⟩ (fun hH => ?_)
                try simp only [Act.put, List.setIfInBounds_toArray, List.set_cons_zero, List.set_cons_succ]
                refine wpAnyH_done (by kernel_rfl) ?_ _
                clear hH hK s2 p2
                go_wp2_with fail
                go_roundw
                case rel => exact ⟨i + 1, by go_num, by omega, S2⟩
                case measure => simp [intOf]; omega
              · have d4 : (k == 4) = false := beq_eq_false_iff_ne.2 k4
                clear k4
                by_cases k5 : k = 5
                · have d5 : (k == 5) = true := by rw [k5]; rfl
                  clear k5
                  have WW : Hid (Calls Tryd.prog 26 #[.pointer (some ⟨R, 0, none⟩)] w1 fun e w' => e = .returned (.tuple #[]) ∧ BS w R K i (bs.length + lenJ os i) (5 + 3 * (i : Int)) w') := (bs_disarm S1.out).mono fun e w' ⟨x1, x2, _⟩ => ⟨x1, x2⟩
                  have y0 := S1.out.d0.1
                  go_wp2_with fail
                  refine WW.out.mono ?_
                  rintro e w2 ⟨rfl, s2⟩
                  have S2 : Hid (BS w R K (i + 1) (bs.length + lenJ os (i + 1)) (5 + 3 * ((i + 1 : Nat) : Int)) w2) := FIN.out w2 s2
                  clear s2 WW c0 y0
                  go_wp2_with fail
                  go_roundw
                  case rel => exact ⟨i + 1, by go_num, by omega, S2⟩
                  case measure => simp [intOf]; omega
                · have d5 : (k == 5) = false := beq_eq_false_iff_ne.2 k5
                  clear k5
                  by_cases k8 : k = 8
                  · have d8 : (k == 8) = true := by rw [k8]; rfl
                    clear k8
                    obtain ⟨bb, x1, x2⟩ := bs_down S1.out
                    have DN : Hid (Calls Tryd.prog 27 #[.pointer (some ⟨R, 0, none⟩)] w1 fun e w' => e = .returned (.bool bb) ∧ w1 = w') := x1
                    have RS : Hid (bb = true → Calls Tryd.prog 28 #[.pointer (some ⟨R, 0, none⟩)] w1 fun e w' => (∃ k, e = .returned (.int .i64 k)) ∧ BS w R K i (bs.length + lenJ os i) (5 + 3 * (i : Int)) w') := x2
                    have y0 := S1.out.d0.1
                    clear x1 x2
                    cases bb with
                    | false =>
                      go_wp2_with fail
                      refine DN.out.mono ?_
                      rintro e w' ⟨rfl, rfl⟩
                      go_wp2_with fail
                      go_roundw
                      case rel => exact ⟨i + 1, by go_num, by omega, FIN.out w1 S1.out⟩
                      case measure => simp [intOf]; omega
                    | true =>
                      go_wp2_with fail
                      refine DN.out.mono ?_
                      rintro e w' ⟨rfl, rfl⟩
                      go_wp2_with fail
                      refine (RS.out (by first | rfl | trivial)).mono ?_
                      rintro e w2 ⟨⟨kx, rfl⟩, s2⟩
                      have S2 : Hid (BS w R K (i + 1) (bs.length + lenJ os (i + 1)) (5 + 3 * ((i + 1 : Nat) : Int)) w2) := FIN.out w2 s2
                      clear s2 RS DN c0 y0
                      go_wp2_with fail
                      go_roundw
                      case rel => exact ⟨i + 1, by go_num, by omega, S2⟩
                      case measure => simp [intOf]; omega
                  · have d8 : (k == 8) = false := beq_eq_false_iff_ne.2 k8
                    clear k8
                    by_cases k7 : k = 7
                    · have d7 : (k == 7) = true := by rw [k7]; rfl
                      clear k7
                      rcases S1.out with ⟨o, q, wq, ⟨S, J, f, s, s', v, h1, h2, h3, h4⟩, b1, b2⟩ | ⟨t, ⟨S, jv, mb, s, s', v, h1, -⟩, b1, b2⟩
                      · have H5 : Hid (Blk K 56 (bkC R (.pointer (some ⟨J, 0, none⟩)) true (s.ep : Int) false v) w1 ∧ Blk J 72 (jnL R (f : Int) (s.ep : Int) (s.rs.length : Int) false) w1) := ⟨h1.b, h2.j⟩
                        have LN : Hid (v.n2 = s.rs.length) := by
                          obtain ⟨a, c, e, -⟩ := h1.l1.len
                          injection e with _ e _
                        have EP5 : Hid (∀ w', Blk J 72 (jnL R (f : Int) (s.ep : Int) (s.rs.length : Int) false) w' → Calls Tryd.prog 29 #[.pointer (some ⟨J, 0, none⟩)] w' fun e w'' => e = .returned (.int .i64 (s.ep : Int)) ∧ w' = w'') := fun w' hb => (epoch_at R J _ _ _ _ w' hb).mono fun e w'' ⟨x1, x2⟩ => ⟨x1, x2.symm⟩
                        have CT5 : Hid (∀ w', Blk J 72 (jnL R (f : Int) (s.ep : Int) (s.rs.length : Int) false) w' → Calls Tryd.prog 30 #[.pointer (some ⟨J, 0, none⟩)] w' fun e w'' => e = .returned (.int .i64 (v.n2 : Int)) ∧ w' = w'') := fun w' hb => (count_at R J _ _ _ _ w' hb).mono fun e w'' ⟨x1, x2⟩ => ⟨by rw [x1, LN.out], x2.symm⟩
                        clear h1 h2 h3 h4 b1 b2 LN
                        go_upto_region 25 with fail
                        refine wp_region_held_drew (S := fun w' => Blk K 56 (bkC R (.pointer (some ⟨J, 0, none⟩)) true (s.ep : Int) false v) w' ∧ Blk J 72 (jnL R (f : Int) (s.ep : Int) (s.rs.length : Int) false) w') (by kernel_rfl) (⟨H5.out.1.below (Below.drew (Below.refl _ _)), H5.out.2.below (Below.drew (Below.refl _ _))⟩) (fun hH => ?_)
                        refine wpAnyH_take (i := 0) (oi := { dst := some 92, op := Op.move (Operand.tmp 5), type := 54, pos := "outright.go:150", after := #[], guard := none }) (v := .pointer (some ⟨K, 0, none⟩)) rfl (by kernel_rfl) (by kernel_rfl) (by kernel_rfl) (fun _ _ _ h => h) (Or.inl ⟨by rfl, fun w' hs => by go_simp⟩) hH ?_
                        try simp only [Act.put, List.setIfInBounds_toArray, List.set_cons_zero, List.set_cons_succ]
                        refine wpAnyH_take (i := 1) (oi := { dst := some 93, op := Op.nilCheck (Operand.tmp 92), type := 0, pos := "outright.go:150", after := #[{ on := 0, ground := Ground.data }], guard := none }) (v := .pointer (some ⟨K, 0, none⟩)) rfl (by kernel_rfl) (by kernel_rfl) (by kernel_rfl) (fun _ _ _ h => h) (Or.inl ⟨by rfl, fun w' hs => by go_simp⟩) hH ?_
                        try simp only [Act.put, List.setIfInBounds_toArray, List.set_cons_zero, List.set_cons_succ]
                        refine wpAnyH_take (i := 2) (oi := { dst := some 94, op := Op.fieldAddr 56 (Operand.tmp 93) 2, type := 0, pos := "outright.go:150", after := #[{ on := 1, ground := Ground.data }], guard := none }) (v := .pointer (some ⟨K, 2, none⟩)) rfl (by kernel_rfl) (by kernel_rfl) (by kernel_rfl) (fun _ _ _ h => h) (Or.inl ⟨by rfl, fun w' hs => by go_simp⟩) hH ?_
                        try simp only [Act.put, List.setIfInBounds_toArray, List.set_cons_zero, List.set_cons_succ]
                        refine wpAnyH_take (i := 3) (oi := { dst := some 95, op := Op.load 4 (Operand.tmp 94), type := 4, pos := "outright.go:150", after := #[{ on := 2, ground := Ground.data }], guard := none }) (v := .bool true) rfl (by kernel_rfl) (by kernel_rfl) (by kernel_rfl) (fun _ _ _ h => h) (Or.inl ⟨by rfl, fun w' hs => by have c := hs.1.cell 2 _ rfl; go_simp⟩) hH ?_
                        try simp only [Act.put, List.setIfInBounds_toArray, List.set_cons_zero, List.set_cons_succ]
                        refine wpAnyH_take (i := 4) (oi := { dst := some 96, op := Op.unOp UnOp.not 4 (Operand.tmp 95), type := 4, pos := "outright.go:150", after := #[{ on := 3, ground := Ground.data }], guard := none }) (v := .bool false) rfl (by kernel_rfl) (by kernel_rfl) (by kernel_rfl) (fun _ _ _ h => h) (Or.inl ⟨by rfl, fun w' hs => by go_simp⟩) hH ?_
                        try simp only [Act.put, List.setIfInBounds_toArray, List.set_cons_zero, List.set_cons_succ]
                        refine wpAnyH_take (i := 5) (oi := { dst := some 97, op := Op.move (Operand.tmp 96), type := 4, pos := "outright.go:150", after := #[{ on := 4, ground := Ground.data }], guard := none }) (v := .bool false) rfl (by kernel_rfl) (by kernel_rfl) (by kernel_rfl) (fun _ _ _ h => h) (Or.inl ⟨by rfl, fun w' hs => by go_simp⟩) hH ?_
                        try simp only [Act.put, List.setIfInBounds_toArray, List.set_cons_zero, List.set_cons_succ]
                        refine wpAnyH_take (i := 6) (oi := { dst := some 98, op := Op.move (Operand.tmp 5), type := 54, pos := "outright.go:150", after := #[{ on := 5, ground := Ground.guard }], guard := some (5, false) }) (v := .pointer (some ⟨K, 0, none⟩)) rfl (by kernel_rfl) (by kernel_rfl) (by kernel_rfl) (fun _ _ _ h => h) (Or.inl ⟨by rfl, fun w' hs => by go_simp⟩) hH ?_
                        try simp only [Act.put, List.setIfInBounds_toArray, List.set_cons_zero, List.set_cons_succ]
                        refine wpAnyH_take (i := 7) (oi := { dst := some 99, op := Op.nilCheck (Operand.tmp 98), type := 0, pos := "outright.go:150", after := #[{ on := 6, ground := Ground.data }, { on := 5, ground := Ground.guard }], guard := some (5, false) }) (v := .pointer (some ⟨K, 0, none⟩)) rfl (by kernel_rfl) (by kernel_rfl) (by kernel_rfl) (fun _ _ _ h => h) (Or.inl ⟨by rfl, fun w' hs => by go_simp⟩) hH ?_
                        try simp only [Act.put, List.setIfInBounds_toArray, List.set_cons_zero, List.set_cons_succ]
                        refine wpAnyH_take (i := 8) (oi := { dst := some 100, op := Op.fieldAddr 56 (Operand.tmp 99) 1, type := 0, pos := "outright.go:150", after := #[{ on := 7, ground := Ground.data }, { on := 5, ground := Ground.guard }], guard := some (5, false) }) (v := .pointer (some ⟨K, 1, none⟩)) rfl (by kernel_rfl) (by kernel_rfl) (by kernel_rfl) (fun _ _ _ h => h) (Or.inl ⟨by rfl, fun w' hs => by go_simp⟩) hH ?_
                        try simp only [Act.put, List.setIfInBounds_toArray, List.set_cons_zero, List.set_cons_succ]
                        refine wpAnyH_take (i := 9) (oi := { dst := some 101, op := Op.load 31 (Operand.tmp 100), type := 31, pos := "outright.go:150", after := #[{ on := 8, ground := Ground.data }, { on := 5, ground := Ground.guard }], guard := some (5, false) }) (v := .pointer (some ⟨J, 0, none⟩)) rfl (by kernel_rfl) (by kernel_rfl) (by kernel_rfl) (fun _ _ _ h => h) (Or.inl ⟨by rfl, fun w' hs => by have c := hs.1.cell 1 _ rfl; go_simp⟩) hH ?_
                        try simp only [Act.put, List.setIfInBounds_toArray, List.set_cons_zero, List.set_cons_succ]
                        refine wpAnyH_take (i := 11) (oi := { dst := some 103, op := Op.move (Operand.tmp 5), type := 54, pos := "outright.go:150", after := #[{ on := 5, ground := Ground.guard }], guard := some (5, false) }) (v := .pointer (some ⟨K, 0, none⟩)) rfl (by kernel_rfl) (by kernel_rfl) (by kernel_rfl) (fun _ _ _ h => h) (Or.inl ⟨by rfl, fun w' hs => by go_simp⟩) hH ?_
                        try simp only [Act.put, List.setIfInBounds_toArray, List.set_cons_zero, List.set_cons_succ]
                        refine wpAnyH_take (i := 12) (oi := { dst := some 104, op := Op.nilCheck (Operand.tmp 103), type := 0, pos := "outright.go:150", after := #[{ on := 11, ground := Ground.data }, { on := 5, ground := Ground.guard }], guard := some (5, false) }) (v := .pointer (some ⟨K, 0, none⟩)) rfl (by kernel_rfl) (by kernel_rfl) (by kernel_rfl) (fun _ _ _ h => h) (Or.inl ⟨by rfl, fun w' hs => by go_simp⟩) hH ?_
                        try simp only [Act.put, List.setIfInBounds_toArray, List.set_cons_zero, List.set_cons_succ]
                        refine wpAnyH_take (i := 13) (oi := { dst := some 105, op := Op.fieldAddr 56 (Operand.tmp 104) 3, type := 0, pos := "outright.go:150", after := #[{ on := 12, ground := Ground.data }, { on := 5, ground := Ground.guard }], guard := some (5, false) }) (v := .pointer (some ⟨K, 3, none⟩)) rfl (by kernel_rfl) (by kernel_rfl) (by kernel_rfl) (fun _ _ _ h => h) (Or.inl ⟨by rfl, fun w' hs => by go_simp⟩) hH ?_
                        try simp only [Act.put, List.setIfInBounds_toArray, List.set_cons_zero, List.set_cons_succ]
                        refine wpAnyH_take (i := 14) (oi := { dst := some 106, op := Op.fieldAddr 49 (Operand.tmp 105) 0, type := 0, pos := "outright.go:150", after := #[{ on := 13, ground := Ground.data }, { on := 5, ground := Ground.guard }], guard := some (5, false) }) (v := .pointer (some ⟨K, 3, none⟩)) rfl (by kernel_rfl) (by kernel_rfl) (by kernel_rfl) (fun _ _ _ h => h) (Or.inl ⟨by rfl, fun w' hs => by go_simp⟩) hH ?_
                        try simp only [Act.put, List.setIfInBounds_toArray, List.set_cons_zero, List.set_cons_succ]
                        refine wpAnyH_take (i := 15) (oi := { dst := some 107, op := Op.load 3 (Operand.tmp 106), type := 3, pos := "outright.go:150", after := #[{ on := 14, ground := Ground.data }, { on := 5, ground := Ground.guard }], guard := some (5, false) }) (v := .int .i64 (s.ep : Int)) rfl (by kernel_rfl) (by kernel_rfl) (by kernel_rfl) (fun _ _ _ h => h) (Or.inl ⟨by rfl, fun w' hs => by have c := hs.1.cell 3 _ rfl; go_simp⟩) hH ?_
                        try simp only [Act.put, List.setIfInBounds_toArray, List.set_cons_zero, List.set_cons_succ]
                        refine wpAnyH_ready (rs := [10]) (by kernel_rfl) (by simp) ?_
                        refine AllReadyH.cons (o := { dst := some 102, op := Op.call { callee := Callee.value (Operand.func 29), args := #[Operand.tmp 101], argTypes := #[31] }, type := 3, pos := "outright.go:150", after := #[{ on := 9, ground := Ground.data }, { on := 5, ground := Ground.chain }, { on := 5, ground := Ground.guard }], guard := some (5, false) }) rfl (fun Kx hK => ?_) AllReadyH.nil
                        go_simp
                        refine (EP5.out _ hH.2).mono ?_
                        rintro e w9 ⟨rfl, rfl⟩
                        refine hK.out _ _ hH (fun hH => ?_)
                        try simp only [Act.put, List.setIfInBounds_toArray, List.set_cons_zero, List.set_cons_succ]
                        refine wpAnyH_take (i := 16) (oi := { dst := some 108, op := Op.binOp BinOp.eql 3 (Operand.tmp 102) (Operand.tmp 107) 3, type := 4, pos := "outright.go:150", after := #[{ on := 10, ground := Ground.data }, { on := 15, ground := Ground.data }, { on := 5, ground := Ground.guard }], guard := some (5, false) }) (v := .bool true) rfl (by kernel_rfl) (by kernel_rfl) (by kernel_rfl) (fun _ _ _ h => h) (Or.inl ⟨by rfl, fun w' hs => by go_simp⟩) hH ?_
                        try simp only [Act.put, List.setIfInBounds_toArray, List.set_cons_zero, List.set_cons_succ]
                        refine wpAnyH_take (i := 17) (oi := { dst := some 109, op := Op.move (Operand.tmp 108), type := 4, pos := "outright.go:150", after := #[{ on := 16, ground := Ground.data }, { on := 10, ground := Ground.chain }, { on := 5, ground := Ground.guard }], guard := some (5, false) }) (v := .bool true) rfl (by kernel_rfl) (by kernel_rfl) (by kernel_rfl) (fun _ _ _ h => h) (Or.inl ⟨by rfl, fun w' hs => by go_simp⟩) hH ?_
                        try simp only [Act.put, List.setIfInBounds_toArray, List.set_cons_zero, List.set_cons_succ]
                        refine wpAnyH_take (i := 18) (oi := { dst := some 110, op := Op.move (Operand.tmp 5), type := 54, pos := "outright.go:150", after := #[{ on := 17, ground := Ground.guard }], guard := some (17, true) }) (v := .pointer (some ⟨K, 0, none⟩)) rfl (by kernel_rfl) (by kernel_rfl) (by kernel_rfl) (fun _ _ _ h => h) (Or.inl ⟨by rfl, fun w' hs => by go_simp⟩) hH ?_
                        try simp only [Act.put, List.setIfInBounds_toArray, List.set_cons_zero, List.set_cons_succ]
                        refine wpAnyH_take (i := 19) (oi := { dst := some 111, op := Op.nilCheck (Operand.tmp 110), type := 0, pos := "outright.go:150", after := #[{ on := 18, ground := Ground.data }, { on := 17, ground := Ground.guard }], guard := some (17, true) }) (v := .pointer (some ⟨K, 0, none⟩)) rfl (by kernel_rfl) (by kernel_rfl) (by kernel_rfl) (fun _ _ _ h => h) (Or.inl ⟨by rfl, fun w' hs => by go_simp⟩) hH ?_
                        try simp only [Act.put, List.setIfInBounds_toArray, List.set_cons_zero, List.set_cons_succ]
                        refine wpAnyH_take (i := 20) (oi := { dst := some 112, op := Op.fieldAddr 56 (Operand.tmp 111) 1, type := 0, pos := "outright.go:150", after := #[{ on := 19, ground := Ground.data }, { on := 17, ground := Ground.guard }], guard := some (17, true) }) (v := .pointer (some ⟨K, 1, none⟩)) rfl (by kernel_rfl) (by kernel_rfl) (by kernel_rfl) (fun _ _ _ h => h) (Or.inl ⟨by rfl, fun w' hs => by go_simp⟩) hH ?_
                        try simp only [Act.put, List.setIfInBounds_toArray, List.set_cons_zero, List.set_cons_succ]
                        refine wpAnyH_take (i := 21) (oi := { dst := some 113, op := Op.load 31 (Operand.tmp 112), type := 31, pos := "outright.go:150", after := #[{ on := 20, ground := Ground.data }, { on := 17, ground := Ground.guard }], guard := some (17, true) }) (v := .pointer (some ⟨J, 0, none⟩)) rfl (by kernel_rfl) (by kernel_rfl) (by kernel_rfl) (fun _ _ _ h => h) (Or.inl ⟨by rfl, fun w' hs => by have c := hs.1.cell 1 _ rfl; go_simp⟩) hH ?_
                        try simp only [Act.put, List.setIfInBounds_toArray, List.set_cons_zero, List.set_cons_succ]
                        refine wpAnyH_take (i := 23) (oi := { dst := some 115, op := Op.move (Operand.tmp 5), type := 54, pos := "outright.go:150", after := #[{ on := 17, ground := Ground.guard }], guard := some (17, true) }) (v := .pointer (some ⟨K, 0, none⟩)) rfl (by kernel_rfl) (by kernel_rfl) (by kernel_rfl) (fun _ _ _ h => h) (Or.inl ⟨by rfl, fun w' hs => by go_simp⟩) hH ?_
                        try simp only [Act.put, List.setIfInBounds_toArray, List.set_cons_zero, List.set_cons_succ]
                        refine wpAnyH_take (i := 24) (oi := { dst := some 116, op := Op.nilCheck (Operand.tmp 115), type := 0, pos := "outright.go:150", after := #[{ on := 23, ground := Ground.data }, { on := 17, ground := Ground.guard }], guard := some (17, true) }) (v := .pointer (some ⟨K, 0, none⟩)) rfl (by kernel_rfl) (by kernel_rfl) (by kernel_rfl) (fun _ _ _ h => h) (Or.inl ⟨by rfl, fun w' hs => by go_simp⟩) hH ?_
                        try simp only [Act.put, List.setIfInBounds_toArray, List.set_cons_zero, List.set_cons_succ]
                        refine wpAnyH_take (i := 25) (oi := { dst := some 117, op := Op.fieldAddr 56 (Operand.tmp 116) 3, type := 0, pos := "outright.go:150", after := #[{ on := 24, ground := Ground.data }, { on := 17, ground := Ground.guard }], guard := some (17, true) }) (v := .pointer (some ⟨K, 3, none⟩)) rfl (by kernel_rfl) (by kernel_rfl) (by kernel_rfl) (fun _ _ _ h => h) (Or.inl ⟨by rfl, fun w' hs => by go_simp⟩) hH ?_
                        try simp only [Act.put, List.setIfInBounds_toArray, List.set_cons_zero, List.set_cons_succ]
                        refine wpAnyH_take (i := 26) (oi := { dst := some 118, op := Op.fieldAddr 49 (Operand.tmp 117) 2, type := 0, pos := "outright.go:150", after := #[{ on := 25, ground := Ground.data }, { on := 17, ground := Ground.guard }], guard := some (17, true) }) (v := .pointer (some ⟨K, 5, none⟩)) rfl (by kernel_rfl) (by kernel_rfl) (by kernel_rfl) (fun _ _ _ h => h) (Or.inl ⟨by rfl, fun w' hs => by go_simp⟩) hH ?_
                        try simp only [Act.put, List.setIfInBounds_toArray, List.set_cons_zero, List.set_cons_succ]
                        refine wpAnyH_take (i := 27) (oi := { dst := some 119, op := Op.load 32 (Operand.tmp 118), type := 32, pos := "outright.go:150", after := #[{ on := 26, ground := Ground.data }, { on := 17, ground := Ground.guard }], guard := some (17, true) }) (v := .slice v.a2 v.n2 v.c2) rfl (by kernel_rfl) (by kernel_rfl) (by kernel_rfl) (fun _ _ _ h => h) (Or.inl ⟨by rfl, fun w' hs => by have c := hs.1.cell 5 _ rfl; go_simp⟩) hH ?_
                        try simp only [Act.put, List.setIfInBounds_toArray, List.set_cons_zero, List.set_cons_succ]
                        refine wpAnyH_take (i := 28) (oi := { dst := some 120, op := Op.call { callee := Callee.builtin Builtin.len, args := #[Operand.tmp 119], argTypes := #[32] }, type := 3, pos := "outright.go:150", after := #[{ on := 27, ground := Ground.data }, { on := 17, ground := Ground.guard }], guard := some (17, true) }) (v := .int .i64 (v.n2 : Int)) rfl (by kernel_rfl) (by kernel_rfl) (by kernel_rfl) (fun _ _ _ h => h) (Or.inl ⟨by rfl, fun w' hs => by go_simp⟩) hH ?_
                        try simp only [Act.put, List.setIfInBounds_toArray, List.set_cons_zero, List.set_cons_succ]
                        refine wpAnyH_ready (rs := [22]) (by kernel_rfl) (by simp) ?_
                        refine AllReadyH.cons (o := { dst := some 114, op := Op.call { callee := Callee.value (Operand.func 30), args := #[Operand.tmp 113], argTypes := #[31] }, type := 3, pos := "outright.go:150", after := #[{ on := 21, ground := Ground.data }, { on := 17, ground := Ground.chain }, { on := 17, ground := Ground.guard }], guard := some (17, true) }) rfl (fun Kx hK => ?_) AllReadyH.nil
                        go_simp
                        refine (CT5.out _ hH.2).mono ?_
                        rintro e w9 ⟨rfl, rfl⟩
                        refine hK.out _ _ hH (fun hH => ?_)
                        try simp only [Act.put, List.setIfInBounds_toArray, List.set_cons_zero, List.set_cons_succ]
                        refine wpAnyH_take (i := 29) (oi := { dst := some 121, op := Op.binOp BinOp.eql 3 (Operand.tmp 114) (Operand.tmp 120) 3, type := 4, pos := "outright.go:150", after := #[{ on := 22, ground := Ground.data }, { on := 28, ground := Ground.data }, { on := 17, ground := Ground.guard }], guard := some (17, true) }) (v := .bool true) rfl (by kernel_rfl) (by kernel_rfl) (by kernel_rfl) (fun _ _ _ h => h) (Or.inl ⟨by rfl, fun w' hs => by go_simp⟩) hH ?_
                        try simp only [Act.put, List.setIfInBounds_toArray, List.set_cons_zero, List.set_cons_succ]
                        refine wpAnyH_take (i := 30) (oi := { dst := some 122, op := Op.pick (Operand.tmp 109) (Operand.tmp 121) (Operand.const (Value.bool false)), type := 4, pos := "outright.go:150", after := #[{ on := 17, ground := Ground.data }, { on := 29, ground := Ground.data }, { on := 5, ground := Ground.guard }], guard := some (5, false) }) (v := .bool true) rfl (by kernel_rfl) (by kernel_rfl) (by kernel_rfl) (fun _ _ _ h => h) (Or.inl ⟨by rfl, fun w' hs => by go_simp⟩) hH ?_
                        try simp only [Act.put, List.setIfInBounds_toArray, List.set_cons_zero, List.set_cons_succ]
                        refine wpAnyH_take (i := 31) (oi := { dst := some 123, op := Op.pick (Operand.tmp 97) (Operand.const (Value.bool true)) (Operand.tmp 122), type := 4, pos := "outright.go:150", after := #[{ on := 5, ground := Ground.data }, { on := 30, ground := Ground.data }], guard := none }) (v := .bool true) rfl (by kernel_rfl) (by kernel_rfl) (by kernel_rfl) (fun _ _ _ h => h) (Or.inl ⟨by rfl, fun w' hs => by go_simp⟩) hH ?_
                        try simp only [Act.put, List.setIfInBounds_toArray, List.set_cons_zero, List.set_cons_succ]
                        refine wpAnyH_take (i := 32) (oi := { dst := some 8, op := Op.assign (Operand.tmp 123), type := 4, pos := "outright.go:150", after := #[{ on := 31, ground := Ground.data }, { on := 22, ground := Ground.chain }, { on := 0, ground := Ground.phase }, { on := 1, ground := Ground.phase }, { on := 2, ground := Ground.phase }, { on := 3, ground := Ground.phase }, { on := 4, ground := Ground.phase }, { on := 5, ground := Ground.phase }, { on := 6, ground := Ground.phase }, { on := 7, ground := Ground.phase }, { on := 8, ground := Ground.phase }, { on := 9, ground := Ground.phase }, { on := 10, ground := Ground.phase }, { on := 11, ground := Ground.phase }, { on := 12, ground := Ground.phase }, { on := 13, ground := Ground.phase }, { on := 14, ground := Ground.phase }, { on := 15, ground := Ground.phase }, { on := 16, ground := Ground.phase }, { on := 17, ground := Ground.phase }, { on := 18, ground := Ground.phase }, { on := 19, ground := Ground.phase }, { on := 20, ground := Ground.phase }, { on := 21, ground := Ground.phase }, { on := 22, ground := Ground.phase }, { on := 23, ground := Ground.phase }, { on := 24, ground := Ground.phase }, { on := 25, ground := Ground.phase }, { on := 26, ground := Ground.phase }, { on := 27, ground := Ground.phase }, { on := 28, ground := Ground.phase }, { on := 29, ground := Ground.phase }, { on := 30, ground := Ground.phase }, { on := 31, ground := Ground.phase }], guard := none }) (v := .bool true) rfl (by kernel_rfl) (by kernel_rfl) (by kernel_rfl) (fun _ _ _ h => h) (Or.inl ⟨by rfl, fun w' hs => by go_simp⟩) hH ?_
                        try simp only [Act.put, List.setIfInBounds_toArray, List.set_cons_zero, List.set_cons_succ]
                        refine wpAnyH_done (by kernel_rfl) ?_ _
                        clear hH hK
                        clear c0
                        go_wp2_with fail
                        go_roundw
                        case rel => exact ⟨i + 1, by go_num, by omega, FIN.out _ (S1.out.later (Below.drew (Below.refl _ _)))⟩
                        case measure => simp [intOf]; omega
                      · have y2 : w1.drew.cell? ⟨K, 2, none⟩ = some (.bool false) := (h1.b.below (Below.drew (Below.refl _ _))).cell 2 _ rfl
                        clear h1 b1 b2
                        go_upto_region 25 with fail
                        refine wp_region_held_drew (S := fun w' => w'.cell? ⟨K, 2, none⟩ = some (.bool false)) (by kernel_rfl) (y2) (fun hH => ?_)
                        refine wpAnyH_take (i := 0) (oi := { dst := some 92, op := Op.move (Operand.tmp 5), type := 54, pos := "outright.go:150", after := #[], guard := none }) (v := .pointer (some ⟨K, 0, none⟩)) rfl (by kernel_rfl) (by kernel_rfl) (by kernel_rfl) (fun _ _ _ h => h) (Or.inl ⟨by rfl, fun w' hs => by go_simp⟩) hH ?_
                        try simp only [Act.put, List.setIfInBounds_toArray, List.set_cons_zero, List.set_cons_succ]
                        refine wpAnyH_take (i := 1) (oi := { dst := some 93, op := Op.nilCheck (Operand.tmp 92), type := 0, pos := "outright.go:150", after := #[{ on := 0, ground := Ground.data }], guard := none }) (v := .pointer (some ⟨K, 0, none⟩)) rfl (by kernel_rfl) (by kernel_rfl) (by kernel_rfl) (fun _ _ _ h => h) (Or.inl ⟨by rfl, fun w' hs => by go_simp⟩) hH ?_
                        try simp only [Act.put, List.setIfInBounds_toArray, List.set_cons_zero, List.set_cons_succ]
                        refine wpAnyH_take (i := 2) (oi := { dst := some 94, op := Op.fieldAddr 56 (Operand.tmp 93) 2, type := 0, pos := "outright.go:150", after := #[{ on := 1, ground := Ground.data }], guard := none }) (v := .pointer (some ⟨K, 2, none⟩)) rfl (by kernel_rfl) (by kernel_rfl) (by kernel_rfl) (fun _ _ _ h => h) (Or.inl ⟨by rfl, fun w' hs => by go_simp⟩) hH ?_
                        try simp only [Act.put, List.setIfInBounds_toArray, List.set_cons_zero, List.set_cons_succ]
                        refine wpAnyH_take (i := 3) (oi := { dst := some 95, op := Op.load 4 (Operand.tmp 94), type := 4, pos := "outright.go:150", after := #[{ on := 2, ground := Ground.data }], guard := none }) (v := .bool false) rfl (by kernel_rfl) (by kernel_rfl) (by kernel_rfl) (fun _ _ _ h => h) (Or.inl ⟨by rfl, fun w' hs => by have c := hs; go_simp⟩) hH ?_
                        try simp only [Act.put, List.setIfInBounds_toArray, List.set_cons_zero, List.set_cons_succ]
                        refine wpAnyH_take (i := 4) (oi := { dst := some 96, op := Op.unOp UnOp.not 4 (Operand.tmp 95), type := 4, pos := "outright.go:150", after := #[{ on := 3, ground := Ground.data }], guard := none }) (v := .bool true) rfl (by kernel_rfl) (by kernel_rfl) (by kernel_rfl) (fun _ _ _ h => h) (Or.inl ⟨by rfl, fun w' hs => by go_simp⟩) hH ?_
                        try simp only [Act.put, List.setIfInBounds_toArray, List.set_cons_zero, List.set_cons_succ]
                        refine wpAnyH_take (i := 5) (oi := { dst := some 97, op := Op.move (Operand.tmp 96), type := 4, pos := "outright.go:150", after := #[{ on := 4, ground := Ground.data }], guard := none }) (v := .bool true) rfl (by kernel_rfl) (by kernel_rfl) (by kernel_rfl) (fun _ _ _ h => h) (Or.inl ⟨by rfl, fun w' hs => by go_simp⟩) hH ?_
                        try simp only [Act.put, List.setIfInBounds_toArray, List.set_cons_zero, List.set_cons_succ]
                        refine wpAnyH_take (i := 6) (oi := { dst := some 98, op := Op.move (Operand.tmp 5), type := 54, pos := "outright.go:150", after := #[{ on := 5, ground := Ground.guard }], guard := some (5, false) }) (v := undef) rfl (by kernel_rfl) (by kernel_rfl) (by kernel_rfl) (fun _ _ _ h => h) (Or.inr ⟨by rfl, rfl⟩) hH ?_
                        try simp only [Act.put, List.setIfInBounds_toArray, List.set_cons_zero, List.set_cons_succ]
                        refine wpAnyH_take (i := 7) (oi := { dst := some 99, op := Op.nilCheck (Operand.tmp 98), type := 0, pos := "outright.go:150", after := #[{ on := 6, ground := Ground.data }, { on := 5, ground := Ground.guard }], guard := some (5, false) }) (v := undef) rfl (by kernel_rfl) (by kernel_rfl) (by kernel_rfl) (fun _ _ _ h => h) (Or.inr ⟨by rfl, rfl⟩) hH ?_
                        try simp only [Act.put, List.setIfInBounds_toArray, List.set_cons_zero, List.set_cons_succ]
                        refine wpAnyH_take (i := 8) (oi := { dst := some 100, op := Op.fieldAddr 56 (Operand.tmp 99) 1, type := 0, pos := "outright.go:150", after := #[{ on := 7, ground := Ground.data }, { on := 5, ground := Ground.guard }], guard := some (5, false) }) (v := undef) rfl (by kernel_rfl) (by kernel_rfl) (by kernel_rfl) (fun _ _ _ h => h) (Or.inr ⟨by rfl, rfl⟩) hH ?_
                        try simp only [Act.put, List.setIfInBounds_toArray, List.set_cons_zero, List.set_cons_succ]
                        refine wpAnyH_take (i := 9) (oi := { dst := some 101, op := Op.load 31 (Operand.tmp 100), type := 31, pos := "outright.go:150", after := #[{ on := 8, ground := Ground.data }, { on := 5, ground := Ground.guard }], guard := some (5, false) }) (v := undef) rfl (by kernel_rfl) (by kernel_rfl) (by kernel_rfl) (fun _ _ _ h => h) (Or.inr ⟨by rfl, rfl⟩) hH ?_
                        try simp only [Act.put, List.setIfInBounds_toArray, List.set_cons_zero, List.set_cons_succ]
                        refine wpAnyH_take (i := 10) (oi := { dst := some 102, op := Op.call { callee := Callee.value (Operand.func 29), args := #[Operand.tmp 101], argTypes := #[31] }, type := 3, pos := "outright.go:150", after := #[{ on := 9, ground := Ground.data }, { on := 5, ground := Ground.chain }, { on := 5, ground := Ground.guard }], guard := some (5, false) }) (v := undef) rfl (by kernel_rfl) (by kernel_rfl) (by kernel_rfl) (fun _ _ _ h => h) (Or.inr ⟨by rfl, rfl⟩) hH ?_
                        try simp only [Act.put, List.setIfInBounds_toArray, List.set_cons_zero, List.set_cons_succ]
                        refine wpAnyH_take (i := 11) (oi := { dst := some 103, op := Op.move (Operand.tmp 5), type := 54, pos := "outright.go:150", after := #[{ on := 5, ground := Ground.guard }], guard := some (5, false) }) (v := undef) rfl (by kernel_rfl) (by kernel_rfl) (by kernel_rfl) (fun _ _ _ h => h) (Or.inr ⟨by rfl, rfl⟩) hH ?_
                        try simp only [Act.put, List.setIfInBounds_toArray, List.set_cons_zero, List.set_cons_succ]
                        refine wpAnyH_take (i := 12) (oi := { dst := some 104, op := Op.nilCheck (Operand.tmp 103), type := 0, pos := "outright.go:150", after := #[{ on := 11, ground := Ground.data }, { on := 5, ground := Ground.guard }], guard := some (5, false) }) (v := undef) rfl (by kernel_rfl) (by kernel_rfl) (by kernel_rfl) (fun _ _ _ h => h) (Or.inr ⟨by rfl, rfl⟩) hH ?_
                        try simp only [Act.put, List.setIfInBounds_toArray, List.set_cons_zero, List.set_cons_succ]
                        refine wpAnyH_take (i := 13) (oi := { dst := some 105, op := Op.fieldAddr 56 (Operand.tmp 104) 3, type := 0, pos := "outright.go:150", after := #[{ on := 12, ground := Ground.data }, { on := 5, ground := Ground.guard }], guard := some (5, false) }) (v := undef) rfl (by kernel_rfl) (by kernel_rfl) (by kernel_rfl) (fun _ _ _ h => h) (Or.inr ⟨by rfl, rfl⟩) hH ?_
                        try simp only [Act.put, List.setIfInBounds_toArray, List.set_cons_zero, List.set_cons_succ]
                        refine wpAnyH_take (i := 14) (oi := { dst := some 106, op := Op.fieldAddr 49 (Operand.tmp 105) 0, type := 0, pos := "outright.go:150", after := #[{ on := 13, ground := Ground.data }, { on := 5, ground := Ground.guard }], guard := some (5, false) }) (v := undef) rfl (by kernel_rfl) (by kernel_rfl) (by kernel_rfl) (fun _ _ _ h => h) (Or.inr ⟨by rfl, rfl⟩) hH ?_
                        try simp only [Act.put, List.setIfInBounds_toArray, List.set_cons_zero, List.set_cons_succ]
                        refine wpAnyH_take (i := 15) (oi := { dst := some 107, op := Op.load 3 (Operand.tmp 106), type := 3, pos := "outright.go:150", after := #[{ on := 14, ground := Ground.data }, { on := 5, ground := Ground.guard }], guard := some (5, false) }) (v := undef) rfl (by kernel_rfl) (by kernel_rfl) (by kernel_rfl) (fun _ _ _ h => h) (Or.inr ⟨by rfl, rfl⟩) hH ?_
                        try simp only [Act.put, List.setIfInBounds_toArray, List.set_cons_zero, List.set_cons_succ]
                        refine wpAnyH_take (i := 16) (oi := { dst := some 108, op := Op.binOp BinOp.eql 3 (Operand.tmp 102) (Operand.tmp 107) 3, type := 4, pos := "outright.go:150", after := #[{ on := 10, ground := Ground.data }, { on := 15, ground := Ground.data }, { on := 5, ground := Ground.guard }], guard := some (5, false) }) (v := undef) rfl (by kernel_rfl) (by kernel_rfl) (by kernel_rfl) (fun _ _ _ h => h) (Or.inr ⟨by rfl, rfl⟩) hH ?_
                        try simp only [Act.put, List.setIfInBounds_toArray, List.set_cons_zero, List.set_cons_succ]
                        refine wpAnyH_take (i := 17) (oi := { dst := some 109, op := Op.move (Operand.tmp 108), type := 4, pos := "outright.go:150", after := #[{ on := 16, ground := Ground.data }, { on := 10, ground := Ground.chain }, { on := 5, ground := Ground.guard }], guard := some (5, false) }) (v := undef) rfl (by kernel_rfl) (by kernel_rfl) (by kernel_rfl) (fun _ _ _ h => h) (Or.inr ⟨by rfl, rfl⟩) hH ?_
                        try simp only [Act.put, List.setIfInBounds_toArray, List.set_cons_zero, List.set_cons_succ]
                        refine wpAnyH_take (i := 18) (oi := { dst := some 110, op := Op.move (Operand.tmp 5), type := 54, pos := "outright.go:150", after := #[{ on := 17, ground := Ground.guard }], guard := some (17, true) }) (v := undef) rfl (by kernel_rfl) (by kernel_rfl) (by kernel_rfl) (fun _ _ _ h => h) (Or.inr ⟨by rfl, rfl⟩) hH ?_
                        try simp only [Act.put, List.setIfInBounds_toArray, List.set_cons_zero, List.set_cons_succ]
                        refine wpAnyH_take (i := 19) (oi := { dst := some 111, op := Op.nilCheck (Operand.tmp 110), type := 0, pos := "outright.go:150", after := #[{ on := 18, ground := Ground.data }, { on := 17, ground := Ground.guard }], guard := some (17, true) }) (v := undef) rfl (by kernel_rfl) (by kernel_rfl) (by kernel_rfl) (fun _ _ _ h => h) (Or.inr ⟨by rfl, rfl⟩) hH ?_
                        try simp only [Act.put, List.setIfInBounds_toArray, List.set_cons_zero, List.set_cons_succ]
                        refine wpAnyH_take (i := 20) (oi := { dst := some 112, op := Op.fieldAddr 56 (Operand.tmp 111) 1, type := 0, pos := "outright.go:150", after := #[{ on := 19, ground := Ground.data }, { on := 17, ground := Ground.guard }], guard := some (17, true) }) (v := undef) rfl (by kernel_rfl) (by kernel_rfl) (by kernel_rfl) (fun _ _ _ h => h) (Or.inr ⟨by rfl, rfl⟩) hH ?_
                        try simp only [Act.put, List.setIfInBounds_toArray, List.set_cons_zero, List.set_cons_succ]
                        refine wpAnyH_take (i := 21) (oi := { dst := some 113, op := Op.load 31 (Operand.tmp 112), type := 31, pos := "outright.go:150", after := #[{ on := 20, ground := Ground.data }, { on := 17, ground := Ground.guard }], guard := some (17, true) }) (v := undef) rfl (by kernel_rfl) (by kernel_rfl) (by kernel_rfl) (fun _ _ _ h => h) (Or.inr ⟨by rfl, rfl⟩) hH ?_
                        try simp only [Act.put, List.setIfInBounds_toArray, List.set_cons_zero, List.set_cons_succ]
                        refine wpAnyH_take (i := 22) (oi := { dst := some 114, op := Op.call { callee := Callee.value (Operand.func 30), args := #[Operand.tmp 113], argTypes := #[31] }, type := 3, pos := "outright.go:150", after := #[{ on := 21, ground := Ground.data }, { on := 17, ground := Ground.chain }, { on := 17, ground := Ground.guard }], guard := some (17, true) }) (v := undef) rfl (by kernel_rfl) (by kernel_rfl) (by kernel_rfl) (fun _ _ _ h => h) (Or.inr ⟨by rfl, rfl⟩) hH ?_
                        try simp only [Act.put, List.setIfInBounds_toArray, List.set_cons_zero, List.set_cons_succ]
                        refine wpAnyH_take (i := 23) (oi := { dst := some 115, op := Op.move (Operand.tmp 5), type := 54, pos := "outright.go:150", after := #[{ on := 17, ground := Ground.guard }], guard := some (17, true) }) (v := undef) rfl (by kernel_rfl) (by kernel_rfl) (by kernel_rfl) (fun _ _ _ h => h) (Or.inr ⟨by rfl, rfl⟩) hH ?_
                        try simp only [Act.put, List.setIfInBounds_toArray, List.set_cons_zero, List.set_cons_succ]
                        refine wpAnyH_take (i := 24) (oi := { dst := some 116, op := Op.nilCheck (Operand.tmp 115), type := 0, pos := "outright.go:150", after := #[{ on := 23, ground := Ground.data }, { on := 17, ground := Ground.guard }], guard := some (17, true) }) (v := undef) rfl (by kernel_rfl) (by kernel_rfl) (by kernel_rfl) (fun _ _ _ h => h) (Or.inr ⟨by rfl, rfl⟩) hH ?_
                        try simp only [Act.put, List.setIfInBounds_toArray, List.set_cons_zero, List.set_cons_succ]
                        refine wpAnyH_take (i := 25) (oi := { dst := some 117, op := Op.fieldAddr 56 (Operand.tmp 116) 3, type := 0, pos := "outright.go:150", after := #[{ on := 24, ground := Ground.data }, { on := 17, ground := Ground.guard }], guard := some (17, true) }) (v := undef) rfl (by kernel_rfl) (by kernel_rfl) (by kernel_rfl) (fun _ _ _ h => h) (Or.inr ⟨by rfl, rfl⟩) hH ?_
                        try simp only [Act.put, List.setIfInBounds_toArray, List.set_cons_zero, List.set_cons_succ]
                        refine wpAnyH_take (i := 26) (oi := { dst := some 118, op := Op.fieldAddr 49 (Operand.tmp 117) 2, type := 0, pos := "outright.go:150", after := #[{ on := 25, ground := Ground.data }, { on := 17, ground := Ground.guard }], guard := some (17, true) }) (v := undef) rfl (by kernel_rfl) (by kernel_rfl) (by kernel_rfl) (fun _ _ _ h => h) (Or.inr ⟨by rfl, rfl⟩) hH ?_
                        try simp only [Act.put, List.setIfInBounds_toArray, List.set_cons_zero, List.set_cons_succ]
                        refine wpAnyH_take (i := 27) (oi := { dst := some 119, op := Op.load 32 (Operand.tmp 118), type := 32, pos := "outright.go:150", after := #[{ on := 26, ground := Ground.data }, { on := 17, ground := Ground.guard }], guard := some (17, true) }) (v := undef) rfl (by kernel_rfl) (by kernel_rfl) (by kernel_rfl) (fun _ _ _ h => h) (Or.inr ⟨by rfl, rfl⟩) hH ?_
                        try simp only [Act.put, List.setIfInBounds_toArray, List.set_cons_zero, List.set_cons_succ]
                        refine wpAnyH_take (i := 28) (oi := { dst := some 120, op := Op.call { callee := Callee.builtin Builtin.len, args := #[Operand.tmp 119], argTypes := #[32] }, type := 3, pos := "outright.go:150", after := #[{ on := 27, ground := Ground.data }, { on := 17, ground := Ground.guard }], guard := some (17, true) }) (v := undef) rfl (by kernel_rfl) (by kernel_rfl) (by kernel_rfl) (fun _ _ _ h => h) (Or.inr ⟨by rfl, rfl⟩) hH ?_
                        try simp only [Act.put, List.setIfInBounds_toArray, List.set_cons_zero, List.set_cons_succ]
                        refine wpAnyH_take (i := 29) (oi := { dst := some 121, op := Op.binOp BinOp.eql 3 (Operand.tmp 114) (Operand.tmp 120) 3, type := 4, pos := "outright.go:150", after := #[{ on := 22, ground := Ground.data }, { on := 28, ground := Ground.data }, { on := 17, ground := Ground.guard }], guard := some (17, true) }) (v := undef) rfl (by kernel_rfl) (by kernel_rfl) (by kernel_rfl) (fun _ _ _ h => h) (Or.inr ⟨by rfl, rfl⟩) hH ?_
                        try simp only [Act.put, List.setIfInBounds_toArray, List.set_cons_zero, List.set_cons_succ]
                        refine wpAnyH_take (i := 30) (oi := { dst := some 122, op := Op.pick (Operand.tmp 109) (Operand.tmp 121) (Operand.const (Value.bool false)), type := 4, pos := "outright.go:150", after := #[{ on := 17, ground := Ground.data }, { on := 29, ground := Ground.data }, { on := 5, ground := Ground.guard }], guard := some (5, false) }) (v := undef) rfl (by kernel_rfl) (by kernel_rfl) (by kernel_rfl) (fun _ _ _ h => h) (Or.inr ⟨by rfl, rfl⟩) hH ?_
                        try simp only [Act.put, List.setIfInBounds_toArray, List.set_cons_zero, List.set_cons_succ]
                        refine wpAnyH_take (i := 31) (oi := { dst := some 123, op := Op.pick (Operand.tmp 97) (Operand.const (Value.bool true)) (Operand.tmp 122), type := 4, pos := "outright.go:150", after := #[{ on := 5, ground := Ground.data }, { on := 30, ground := Ground.data }], guard := none }) (v := .bool true) rfl (by kernel_rfl) (by kernel_rfl) (by kernel_rfl) (fun _ _ _ h => h) (Or.inl ⟨by rfl, fun w' hs => by go_simp⟩) hH ?_
                        try simp only [Act.put, List.setIfInBounds_toArray, List.set_cons_zero, List.set_cons_succ]
                        refine wpAnyH_take (i := 32) (oi := { dst := some 8, op := Op.assign (Operand.tmp 123), type := 4, pos := "outright.go:150", after := #[{ on := 31, ground := Ground.data }, { on := 22, ground := Ground.chain }, { on := 0, ground := Ground.phase }, { on := 1, ground := Ground.phase }, { on := 2, ground := Ground.phase }, { on := 3, ground := Ground.phase }, { on := 4, ground := Ground.phase }, { on := 5, ground := Ground.phase }, { on := 6, ground := Ground.phase }, { on := 7, ground := Ground.phase }, { on := 8, ground := Ground.phase }, { on := 9, ground := Ground.phase }, { on := 10, ground := Ground.phase }, { on := 11, ground := Ground.phase }, { on := 12, ground := Ground.phase }, { on := 13, ground := Ground.phase }, { on := 14, ground := Ground.phase }, { on := 15, ground := Ground.phase }, { on := 16, ground := Ground.phase }, { on := 17, ground := Ground.phase }, { on := 18, ground := Ground.phase }, { on := 19, ground := Ground.phase }, { on := 20, ground := Ground.phase }, { on := 21, ground := Ground.phase }, { on := 22, ground := Ground.phase }, { on := 23, ground := Ground.phase }, { on := 24, ground := Ground.phase }, { on := 25, ground := Ground.phase }, { on := 26, ground := Ground.phase }, { on := 27, ground := Ground.phase }, { on := 28, ground := Ground.phase }, { on := 29, ground := Ground.phase }, { on := 30, ground := Ground.phase }, { on := 31, ground := Ground.phase }], guard := none }) (v := .bool true) rfl (by kernel_rfl) (by kernel_rfl) (by kernel_rfl) (fun _ _ _ h => h) (Or.inl ⟨by rfl, fun w' hs => by go_simp⟩) hH ?_
                        try simp only [Act.put, List.setIfInBounds_toArray, List.set_cons_zero, List.set_cons_succ]
                        refine wpAnyH_done (by kernel_rfl) ?_ _
                        clear hH hK
                        clear c0 y2
                        go_wp2_with fail
                        go_roundw
                        case rel => exact ⟨i + 1, by go_num, by omega, FIN.out _ (S1.out.later (Below.drew (Below.refl _ _)))⟩
                        case measure => simp [intOf]; omega
                    · have d7 : (k == 7) = false := beq_eq_false_iff_ne.2 k7
                      clear k7
                      go_wp2_with fail
                      go_roundw
                      case rel => exact ⟨i + 1, by go_num, by omega, FIN.out w1 S1.out⟩
                      case measure => simp [intOf]; omega
      · obtain rfl : L = i := by omega
        have DA : Hid (Calls Tryd.prog 26 #[.pointer (some ⟨R, 0, none⟩)] wr fun e w' => e = .returned (.tuple #[]) ∧ ((∃ o wq, LV w R K L (bs.length + lenJ os L) o [] wq w' ∧ 0 ≤ wq ∧ wq ≤ 5 + 3 * (L : Int)) ∨ (∃ t, DD w R K L (bs.length + lenJ os L) t w' ∧ t.q = [] ∧ 0 ≤ t.wr ∧ t.wr ≤ 5 + 3 * (L : Int)))) := (bs_disarm S0.out).mono fun e w' ⟨x1, _, x2⟩ => ⟨x1, x2⟩
        have y0 := S0.out.d0.1
        clear HH CP RA
        go_wp2_with fail
        refine DA.out.mono ?_
        rintro e w2 ⟨rfl, s2⟩
        have LO : Hid (Calls Tryd.prog 23 #[.pointer (some ⟨K, 0, none⟩)] w2 fun e w' => e = .returned (.bool true) ∧ ∃ wq, LV w R K L (bs.length + lenJ os L) [] [] wq w' ∧ 0 ≤ wq ∧ wq ≤ 5 + 3 * (L : Int) + 3) := bs_last s2 (by omega) (by omega) TT.out
        clear s2 DA y0
        go_wp2_with fail
        refine LO.out.mono ?_
        rintro e w3 ⟨rfl, wq, l3, q1, q2⟩
        have AG : Hid (Calls Tryd.prog 31 #[.pointer (some ⟨K, 0, none⟩)] w3 fun e w' => e = .returned (.bool true) ∧ Below w.heap.size w w') := again_at w R K L _ wq w3 l3 (by omega) (by omega) TT.out
        clear l3 q1 q2 LO
        go_wp2_with fail
        refine AG.out.mono ?_
        rintro e w4 ⟨rfl, b4⟩
        have B4 : Hid (Below w.heap.size w w4) := b4
        clear b4
        go_wp2_with fail
        go_ret
        exact ⟨rfl, B4.out⟩
  · have FT' : Hid (Calls Tryd.prog 7 #[va, vb] w fun e w' => e = .returned (.bool false) ∧ w = w') := FT.mono fun e w' ⟨h1, h2⟩ => ⟨by rw [h1, decide_eq_false hf], h2.symm⟩
    clear FT hf h h' hb ho hd hbb hob hT
    go_enter Tryd.func6, Tryd.ntmps6
    go_wp2_with fail
    refine FT'.out.mono ?_
    rintro e w' ⟨rfl, rfl⟩
    go_wp2_with fail
    go_ret
    exact ⟨rfl, Below.refl _ _⟩
end Go.Proofs.YtcmfehabcklbpaaDoor
