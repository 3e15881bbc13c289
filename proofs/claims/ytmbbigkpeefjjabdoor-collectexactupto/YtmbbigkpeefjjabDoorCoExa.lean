/-
  Ours: the walk of CollectExact (gen_coexa.py: THE SEAT's OWN NUMBERS).
-/
import Derived.Test.YtmbbigkpeefjjabDoorCoEx0
import Derived.Test.YtmbbigkpeefjjabDoorCoRan
namespace Go.Proofs.YtmbbigkpeefjjabDoor
open Go.RowKit LedM PolM CoM
set_option maxRecDepth 40000 in
set_option maxHeartbeats 64000000 in
theorem exact_any (lp hp lq hq : List Int) (sp sq v : Value) (os : List Ox) (w : World) (hT : TabW w) (hlP : lp.length = 17) (hrP : Rd w sp (bkL hp)) (hbP : hp.length * 8 ≤ 140737488355328) (hlQ : lq.length = 17) (hrQ : Rd w sq (bkL hq)) (hbQ : hq.length * 8 ≤ 140737488355328) (er : RdO w v os) (hE : os.length ≤ 1048576) :
    Calls Tryd.prog 3 #[PV lp sp, PV lq sq, v] w fun e w' => e = .returned (.bool true) ∧ Below w.heap.size w w' := by
  show Calls _ _ #[.agg (polL lp sp).toArray, .agg (polL lq sq).toArray, _] _ _
  have SPP : Hid (∀ c ev w' SB vL vG vs us, KI c → Below w.heap.size w w' → SH w.heap.size SB w' vL vG vs us → vs.length + 2 ≤ 4194304 → Calls Tryd.prog 11 #[PV lp sp, prV c c, evV ev, .pointer (some ⟨SB, 0, none⟩)] w' (StdAns w SB vs.length (stepA lp hp c ev).2.1 w')) := fun c ev w' SB vL vG vs us k h1 h2 h3 => stepped_at lp hp sp c ev w w' SB vL vG vs us hlP hrP hbP h1 h2 h3 (fun _ hg => ki_fq k hg)
  have RNP : Hid (∀ c ea eb w' SB vL vG vs us, KI c → Below w.heap.size w w' → SH w.heap.size SB w' vL vG vs us → vs.length + 2 ≤ 4194304 → Calls Tryd.prog 10 #[PV lp sp, prV c c, evV ea, evV eb, .pointer (some ⟨SB, 0, none⟩)] w' (StdAns w SB vs.length (rk lp hp c [ea, eb] 2).1 w')) := fun c ea eb w' SB vL vG vs us k h1 h2 h3 => ran_at lp hp sp c ea eb w w' SB vL vG vs us hlP hrP hbP h1 h2 h3 (fun n _ hg => ki_fq (rk_ki k n) hg) (fun n _ hg => ki_fq (rk_ki k n) hg)
  have SZP : Hid (∀ t : Value, (Tryd.prog.info? 24).map (·.size) = some (polL lp t).length) := fun t => by rw [polL_len hlP]; exact sizeP
  have SPQ : Hid (∀ c ev w' SB vL vG vs us, KI c → Below w.heap.size w w' → SH w.heap.size SB w' vL vG vs us → vs.length + 2 ≤ 4194304 → Calls Tryd.prog 11 #[PV lq sq, prV c c, evV ev, .pointer (some ⟨SB, 0, none⟩)] w' (StdAns w SB vs.length (stepA lq hq c ev).2.1 w')) := fun c ev w' SB vL vG vs us k h1 h2 h3 => stepped_at lq hq sq c ev w w' SB vL vG vs us hlQ hrQ hbQ h1 h2 h3 (fun _ hg => ki_fq k hg)
  have RNQ : Hid (∀ c ea eb w' SB vL vG vs us, KI c → Below w.heap.size w w' → SH w.heap.size SB w' vL vG vs us → vs.length + 2 ≤ 4194304 → Calls Tryd.prog 10 #[PV lq sq, prV c c, evV ea, evV eb, .pointer (some ⟨SB, 0, none⟩)] w' (StdAns w SB vs.length (rk lq hq c [ea, eb] 2).1 w')) := fun c ea eb w' SB vL vG vs us k h1 h2 h3 => ran_at lq hq sq c ea eb w w' SB vL vG vs us hlQ hrQ hbQ h1 h2 h3 (fun n _ hg => ki_fq (rk_ki k n) hg) (fun n _ hg => ki_fq (rk_ki k n) hg)
  have SZQ : Hid (∀ t : Value, (Tryd.prog.info? 24).map (·.size) = some (polL lq t).length) := fun t => by rw [polL_len hlQ]; exact sizeP
  have FTP : Hid (∀ t : Value, 0 + (polL lp t).length ≤ polZc.length) := fun t => by rw [polL_len hlP]; exact Nat.le_refl 18
  have FZP : Hid (∀ t : Value, polZc.length ≤ 0 + (polL lp t).length) := fun t => by rw [polL_len hlP]; exact Nat.le_refl 18
  have FPQ : Hid (∀ t t' : Value, 0 + (polL lq t).length ≤ (polL lp t').length) := fun t t' => by rw [polL_len hlP, polL_len hlQ]; exact Nat.le_refl 18
  have FQP : Hid (∀ t t' : Value, (polL lp t').length ≤ 0 + (polL lq t).length) := fun t t' => by rw [polL_len hlP, polL_len hlQ]; exact Nat.le_refl 18
  have TL : Hid (∀ w', Below w.heap.size w w' → TabW w') := fun w' h => hT.later hT.lt h
  have OP1 : Hid (∀ c w', Calls Tryd.prog 5 #[csV c] w' fun e w'' => e = .returned (.bool (opn c)) ∧ Below w'.heap.size w' w'') := open_at
  have OP2 : Hid (∀ c w', Calls Tryd.prog 6 #[csV c] w' fun e w'' => e = .returned (.bool (opn c)) ∧ Below w'.heap.size w' w'') := ropen_at
  have NA : Hid (∀ x w', Below w.heap.size w w' → Calls Tryd.prog 7 #[.int .i64 x] w' fun e w'' => e = .returned (.bool true) ∧ w' = w'') := fun x w' h => (names_at x w' (TL.out w' h)).mono fun e w'' k => ⟨k.1, k.2.symm⟩
  have NM1 : Hid (∀ x w', Below w.heap.size w w' → Calls Tryd.prog 8 #[.int .i64 x] w' fun e w'' => e = .returned (.string (nmB x)) ∧ w' = w'') := fun x w' h => (name_at x w' (TL.out w' h)).mono fun e w'' k => ⟨k.1, k.2.symm⟩
  have NM2 : Hid (∀ x w', Calls Tryd.prog 9 #[.int .i64 x] w' fun e w'' => e = .returned (.string (nmB x)) ∧ w' = w'') := fun x w' => (rname_at x w').mono fun e w'' k => ⟨k.1, k.2.symm⟩
  have S1 : Hid (KD w [(w.heap.size, 24, polL lp sp), (w.heap.size + 1, 24, polL lq sq)] ((w.alloc (.cells (polL lp sp).toArray 24)).alloc (.cells (polL lq sq).toArray 24))) := KD.two w _ _ _ _
  have HNb : Hid (os.length ≤ 1048576) := hE
  obtain ⟨ao, cap, rfl, hcap, er'⟩ := er
  obtain ⟨pa, pc, rfl, -, -, -⟩ := hrP
  obtain ⟨qa, qc, rfl, -, -, -⟩ := hrQ
  have OC : Hid (∀ k, k < os.length → ∃ o g off, ao = some ⟨g, off, none⟩ ∧ g < w.heap.size ∧ w.rangeAt g (off + k * 13) (opL o)) := er'
  clear hT hlP hbP hlQ hbQ er' hcap hE TL
  generalize os.length = N at *
  generalize (bkL hp).length = pn at *
  generalize (bkL hq).length = qn at *
  go_enter Tryd.func3, Tryd.ntmps3
  go_upto_region 1 with fail
  generalize (w.alloc (.cells (polL lp (.slice pa pn pc)).toArray 24)).alloc (.cells (polL lq (.slice qa qn qc)).toArray 24) = w1 at *
  go_wp2_with fail
  refine (begun_at _).mono ?_
  rintro e w2 ⟨rfl, bX⟩
  have S2 : Hid (KD w [(w.heap.size, 24, polL lp (.slice pa pn pc)), (w.heap.size + 1, 24, polL lq (.slice qa qn qc))] w2) := S1.out.call bX
  clear bX S1
  have NZ : Hid (Blk w2.heap.size 29 (prL ⟨0, false, 0, 0, 0, 0, 0, 0, 0, 0, 0, 0, 0, 0, 0⟩ ⟨0, false, 0, 0, 0, 0, 0, 0, 0, 0, 0, 0, 0, 0, 0⟩) (w2.alloc (.cells #[.int .i64 0, .bool false, .int .i64 0, .int .i64 0, .int .i64 0, .int .i64 0, .int .i64 0, .int .i64 0, .int .i64 0, .int .i64 0, .int .i64 0, .int .i64 0, .int .i64 0, .int .i64 0, .int .i64 0, .int .i64 0, .bool false, .int .i64 0, .int .i64 0, .int .i64 0, .int .i64 0, .int .i64 0, .int .i64 0, .int .i64 0, .int .i64 0, .int .i64 0, .int .i64 0, .int .i64 0, .int .i64 0, .int .i64 0] 29))) := Blk.new _ _ _
  go_upto_region 2 with ((with_reducible refine at_store ?_); refine step_store rfl 29 _ _ rfl w2.heap.size 0 29 (prL ⟨0, false, 0, 0, 0, 0, 0, 0, 0, 0, 0, 0, 0, 0, 0⟩ ⟨0, false, 0, 0, 0, 0, 0, 0, 0, 0, 0, 0, 0, 0, 0⟩) (prL fresh fresh) rfl rfl NZ.out (Nat.le_refl 30) (sizePr _ _) (prL_one _ _) ?_; intro w3 nb gb)
  have S3 : Hid (KD w [(w.heap.size, 24, polL lp (.slice pa pn pc)), (w.heap.size + 1, 24, polL lq (.slice qa qn qc)), (w2.heap.size, 29, prL fresh fresh)] w3) := S2.out.add nb gb
  clear nb gb NZ S2
  obtain ⟨XB, hXB⟩ : ∃ B, w2.heap.size = B := ⟨_, rfl⟩
  rw [hXB] at S3
  rw [hXB]
  clear hXB
  have NZ : Hid (Blk w3.heap.size 29 (prL ⟨0, false, 0, 0, 0, 0, 0, 0, 0, 0, 0, 0, 0, 0, 0⟩ ⟨0, false, 0, 0, 0, 0, 0, 0, 0, 0, 0, 0, 0, 0, 0⟩) (w3.alloc (.cells #[.int .i64 0, .bool false, .int .i64 0, .int .i64 0, .int .i64 0, .int .i64 0, .int .i64 0, .int .i64 0, .int .i64 0, .int .i64 0, .int .i64 0, .int .i64 0, .int .i64 0, .int .i64 0, .int .i64 0, .int .i64 0, .bool false, .int .i64 0, .int .i64 0, .int .i64 0, .int .i64 0, .int .i64 0, .int .i64 0, .int .i64 0, .int .i64 0, .int .i64 0, .int .i64 0, .int .i64 0, .int .i64 0, .int .i64 0] 29))) := Blk.new _ _ _
  go_upto_region 3 with (first
  | ((with_reducible refine at_loadT 29 ?_); refine step_load rfl 29 _ rfl XB 0 rfl (prL fresh fresh) _ (Blk.all (S3.out.at 2 rfl)) Tryd.underlying29 rfl (sizePr _ _) ?_)
  | ((with_reducible refine at_store ?_); refine step_store rfl 29 _ _ rfl w3.heap.size 0 29 (prL ⟨0, false, 0, 0, 0, 0, 0, 0, 0, 0, 0, 0, 0, 0, 0⟩ ⟨0, false, 0, 0, 0, 0, 0, 0, 0, 0, 0, 0, 0, 0, 0⟩) (prL fresh fresh) rfl rfl NZ.out (Nat.le_refl 30) (sizePr _ _) (prL_one _ _) ?_; intro w4 nb gb))
  have S4 : Hid (KD w [(w.heap.size, 24, polL lp (.slice pa pn pc)), (w.heap.size + 1, 24, polL lq (.slice qa qn qc)), (XB, 29, prL fresh fresh), (w3.heap.size, 29, prL fresh fresh)] w4) := S3.out.add nb gb
  clear nb gb NZ S3
  obtain ⟨YB, hYB⟩ : ∃ B, w3.heap.size = B := ⟨_, rfl⟩
  rw [hYB] at S4
  rw [hYB]
  clear hYB
  have S5 : Hid (CE w [(w.heap.size, 24, polL lp (.slice pa pn pc)), (w.heap.size + 1, 24, polL lq (.slice qa qn qc)), (XB, 29, prL fresh fresh), (YB, 29, prL fresh fresh)] w4.heap.size 0 (w4.alloc (.cells #[.slice none 0 0, .slice none 0 0] 35))) :=
    ⟨S4.out.call (below_alloc _ _), ⟨_, _, [], [], ⟨S4.out.bb.size, Blk.new _ _ _, RowV.nil _ _ _, RowV.nil _ _ _, (fun _ h => by cases h), rfl, fun i hi => by simp at hi⟩, Nat.le_refl 0⟩⟩
  clear S4
  go_upto_region 4 with fail
  generalize w4.alloc (.cells #[.slice none 0 0, .slice none 0 0] 35) = w5 at *
  obtain ⟨SB, hSB⟩ : ∃ B, w4.heap.size = B := ⟨_, rfl⟩
  rw [hSB] at S5
  rw [hSB]
  clear hSB
  go_wp2_with fail
  go_loopw [8, 11, 12, 13, 14] (fun v8 v11 _ _ _ wr => ∃ (k : Nat) (cx cy : Cs), v11 = .int .i64 (k : Int) ∧ v8 = .bool true ∧ k ≤ N ∧ Hid (KI cx) ∧ Hid (KI cy) ∧ Hid (CE w [(w.heap.size, 24, polL lp (.slice pa pn pc)), (w.heap.size + 1, 24, polL lq (.slice qa qn qc)), (XB, 29, prL cx cx), (YB, 29, prL cy cy)] SB (2 * k) wr)) (fun _ v11 _ _ _ _ => N - (intOf v11).toNat)
  case atStart => exact ⟨0, fresh, fresh, rfl, rfl, by omega, fresh_ki, fresh_ki, S5⟩
  case round =>
    clear S5
    obtain ⟨k, cx, cy, rfl, rfl, hk, KX, KY, SR⟩ := hrel
    by_cases hlt : (k : Int) < (N : Int)
    · obtain ⟨o, g, off, rfl, lt, rg⟩ := OC.out k (by omega)
      have RG : Hid (wr.rangeAt g (off + k * 13) (opL o)) := range_laterC rg lt SR.out.kd.bb
      clear rg lt OC
      have dlt : decide ((k : Int) < (N : Int)) = true := decide_eq_true hlt
      cases hse : o.se
      · have HSE : Hid (o.se = false) := hse
        clear hse
        cases hot : o.ot
        · have HOT : Hid (o.ot = false) := hot
          clear hot
          cases hqu : o.qu
          · have HQU : Hid (o.qu = false) := hqu
            clear hqu
            cases hwh : o.wh
            · have HWH : Hid (o.wh = false) := hwh
              clear hwh
              have NZ : Hid (Blk wr.heap.size 39 (opL ⟨⟨0, 0, 0, 0⟩, false, false, false, false, 0, ⟨0, 0, 0, 0⟩⟩) (wr.alloc (.cells #[.int .i64 0, .int .i64 0, .int .i64 0, .int .i64 0, .bool false, .bool false, .bool false, .bool false, .int .i64 0, .int .i64 0, .int .i64 0, .int .i64 0, .int .i64 0] 39))) := Blk.new _ _ _
              go_upto_region 8 with (first
              | ((with_reducible refine at_loadT 39 ?_); refine step_load rfl 39 _ rfl g (off + k * 13) rfl (opL o) _ RG.out Tryd.underlying39 rfl (sizeOp _) ?_)
              | ((with_reducible refine at_store ?_); refine step_store rfl 39 _ _ rfl wr.heap.size 0 39 (opL ⟨⟨0, 0, 0, 0⟩, false, false, false, false, 0, ⟨0, 0, 0, 0⟩⟩) (opL o) rfl rfl NZ.out (Nat.le_refl 13) (sizeOp _) (opL_one _) ?_; intro w7 nb gb))
              have S7 : Hid (CE w [(w.heap.size, 24, polL lp (.slice pa pn pc)), (w.heap.size + 1, 24, polL lq (.slice qa qn qc)), (XB, 29, prL cx cx), (YB, 29, prL cy cy), (wr.heap.size, 39, opL o)] SB (2 * k) w7) := SR.out.add nb gb
              clear nb gb NZ SR
              obtain ⟨OB, hOB⟩ : ∃ B, wr.heap.size = B := ⟨_, rfl⟩
              rw [hOB] at S7
              rw [hOB]
              clear hOB
              have o4 : w7.cell? ⟨OB, 4, none⟩ = some (.bool false) := by rw [← HSE.out]; exact S7.out.kd.cell 4 4 rfl _ rfl
              have NZ : Hid (Blk w7.heap.size 24 (polZc) (w7.alloc (.cells #[.int .i64 0, .int .i64 0, .int .i64 0, .int .i64 0, .int .i64 0, .int .i64 0, .int .i64 0, .int .i64 0, .int .i64 0, .int .i64 0, .int .i64 0, .int .i64 0, .int .i64 0, .int .i64 0, .int .i64 0, .int .i64 0, .int .i64 0, .slice none 0 0] 24))) := Blk.new _ _ _
              go_upto_region 9 with (first
              | ((with_reducible refine at_loadT 24 ?_); refine step_load rfl 24 _ rfl (w.heap.size) 0 rfl (polL lp (.slice pa pn pc)) _ (Blk.all (S7.out.kd.at 0 rfl)) Tryd.underlying24 rfl (SZP.out _) ?_)
              | ((with_reducible refine at_store ?_); refine step_store rfl 24 _ _ rfl w7.heap.size 0 24 (polZc) (polL lp (.slice pa pn pc)) rfl rfl NZ.out (FTP.out _) (SZP.out _) polL_oneC ?_; intro w8 nb gb))
              have S8 : Hid (CE w [(w.heap.size, 24, polL lp (.slice pa pn pc)), (w.heap.size + 1, 24, polL lq (.slice qa qn qc)), (XB, 29, prL cx cx), (YB, 29, prL cy cy), (OB, 39, opL o), (w7.heap.size, 24, polL lp (.slice pa pn pc))] SB (2 * k) w8) := S7.out.add (blk_whole2 (FZP.out _) nb) gb
              clear nb gb NZ S7
              obtain ⟨UB, hUB⟩ : ∃ B, w7.heap.size = B := ⟨_, rfl⟩
              rw [hUB] at S8
              rw [hUB]
              clear hUB
              clear o4
              have o4 : w8.cell? ⟨OB, 4, none⟩ = some (.bool false) := by rw [← HSE.out]; exact S8.out.kd.cell 4 4 rfl _ rfl
              go_upto_region 11 with fail
              have S9 : Hid (CE w [(w.heap.size, 24, polL lp (.slice pa pn pc)), (w.heap.size + 1, 24, polL lq (.slice qa qn qc)), (XB, 29, prL cx cx), (YB, 29, prL cy cy), (OB, 39, opL o), (UB, 24, polL lp (.slice pa pn pc))] SB (2 * k) w8) := S8.out
              clear S8 o4
              obtain ⟨w9, hw9⟩ : ∃ w9, w8 = w9 := ⟨_, rfl⟩
              subst hw9
              have NZ : Hid (Blk w8.heap.size 29 (prL ⟨0, false, 0, 0, 0, 0, 0, 0, 0, 0, 0, 0, 0, 0, 0⟩ ⟨0, false, 0, 0, 0, 0, 0, 0, 0, 0, 0, 0, 0, 0, 0⟩) (w8.alloc (.cells #[.int .i64 0, .bool false, .int .i64 0, .int .i64 0, .int .i64 0, .int .i64 0, .int .i64 0, .int .i64 0, .int .i64 0, .int .i64 0, .int .i64 0, .int .i64 0, .int .i64 0, .int .i64 0, .int .i64 0, .int .i64 0, .bool false, .int .i64 0, .int .i64 0, .int .i64 0, .int .i64 0, .int .i64 0, .int .i64 0, .int .i64 0, .int .i64 0, .int .i64 0, .int .i64 0, .int .i64 0, .int .i64 0, .int .i64 0] 29))) := Blk.new _ _ _
              go_upto_region 12 with (first
              | ((with_reducible refine at_loadT 29 ?_); refine step_load rfl 29 _ rfl (XB) 0 rfl (prL cx cx) _ (Blk.all (S9.out.kd.at 2 rfl)) Tryd.underlying29 rfl (sizePr _ _) ?_)
              | ((with_reducible refine at_store ?_); refine step_store rfl 29 _ _ rfl w8.heap.size 0 29 (prL ⟨0, false, 0, 0, 0, 0, 0, 0, 0, 0, 0, 0, 0, 0, 0⟩ ⟨0, false, 0, 0, 0, 0, 0, 0, 0, 0, 0, 0, 0, 0, 0⟩) (prL cx cx) rfl rfl NZ.out (Nat.le_refl 30) (sizePr _ _) (prL_one _ _) ?_; intro w11 nb gb))
              have S11 : Hid (CE w [(w.heap.size, 24, polL lp (.slice pa pn pc)), (w.heap.size + 1, 24, polL lq (.slice qa qn qc)), (XB, 29, prL cx cx), (YB, 29, prL cy cy), (OB, 39, opL o), (UB, 24, polL lp (.slice pa pn pc)), (w8.heap.size, 29, prL cx cx)] SB (2 * k) w11) := S9.out.add nb gb
              clear nb gb NZ S9
              obtain ⟨ZB, hZB⟩ : ∃ B, w8.heap.size = B := ⟨_, rfl⟩
              rw [hZB] at S11
              rw [hZB]
              clear hZB
              have o5 : w11.cell? ⟨OB, 5, none⟩ = some (.bool false) := by rw [← HOT.out]; exact S11.out.kd.cell 4 5 rfl _ rfl
              go_upto_region 15 with fail
              have S13 : Hid (CE w [(w.heap.size, 24, polL lp (.slice pa pn pc)), (w.heap.size + 1, 24, polL lq (.slice qa qn qc)), (XB, 29, prL cx cx), (YB, 29, prL cy cy), (OB, 39, opL o), (UB, 24, polL lp (.slice pa pn pc)), (ZB, 29, prL cx cx)] SB (2 * k) w11) := S11.out
              clear S11 o5
              have o6 : w11.cell? ⟨OB, 6, none⟩ = some (.bool false) := by rw [← HQU.out]; exact S13.out.kd.cell 4 6 rfl _ rfl
              have o7 : w11.cell? ⟨OB, 7, none⟩ = some (.bool false) := by rw [← HWH.out]; exact S13.out.kd.cell 4 7 rfl _ rfl
              have KD9 : Hid (KI (stepA lp hp cx o.ev).2.1) := step_ki _ KX.out
              obtain ⟨vL, vG, vs, us, sh, hn⟩ := S13.out.sh
              have CC : Hid (∀ w', Below w.heap.size w w' → SH w.heap.size SB w' vL vG vs us → Calls Tryd.prog 11 #[PV lp (.slice pa pn pc), prV cx cx, evV o.ev, .pointer (some ⟨SB, 0, none⟩)] w' (StdAns w SB vs.length (stepA lp hp cx o.ev).2.1 w')) := fun w' h1 h2 => SPP.out cx o.ev w' SB vL vG vs us KX.out h1 h2 (by have := HNb.out; omega)
              generalize (stepA lp hp cx o.ev).2.1 = d at *
              go_wp2_with (first
              | ((with_reducible refine at_loadT 24 ?_); refine step_load rfl 24 _ rfl (UB) 0 rfl (polL lp (.slice pa pn pc)) _ (Blk.all (S13.out.kd.at 5 rfl)) Tryd.underlying24 rfl (SZP.out _) ?_)
              | ((with_reducible refine at_loadT 29 ?_); refine step_load rfl 29 _ rfl (ZB) 0 rfl (prL cx cx) _ (Blk.all (S13.out.kd.at 6 rfl)) Tryd.underlying29 rfl (sizePr _ _) ?_)
              | ((with_reducible refine at_loadT 37 ?_); refine step_load rfl 37 _ rfl OB 0 rfl (evL o.ev) _ (op_ev (S13.out.kd.at 4 rfl)) Tryd.underlying37 rfl (sizeEvL _) ?_)
              | ((with_reducible refine at_loadT 37 ?_); refine step_load rfl 37 _ rfl OB 9 rfl (evL o.nx) _ (op_nx (S13.out.kd.at 4 rfl)) Tryd.underlying37 rfl (sizeEvL _) ?_))
              refine (CC.out _ S13.out.kd.bb sh).mono ?_
              rintro e w14 hstd
              have he := hstd.1
              subst he
              have S14 : Hid (CE w [(w.heap.size, 24, polL lp (.slice pa pn pc)), (w.heap.size + 1, 24, polL lq (.slice qa qn qc)), (XB, 29, prL cx cx), (YB, 29, prL cy cy), (OB, 39, opL o), (UB, 24, polL lp (.slice pa pn pc)), (ZB, 29, prL cx cx)] SB (2 * (k + 1)) w14) := S13.out.std (fun k q hq => by rcases k with _ | k; (· cases hq; first | exact ⟨tyP.1, tyP.2.1, tyP.2.2⟩ | exact ⟨tyR.1, tyR.2.1, tyR.2.2⟩ | exact ⟨tyO.1, tyO.2.1, tyO.2.2⟩); rcases k with _ | k; (· cases hq; first | exact ⟨tyP.1, tyP.2.1, tyP.2.2⟩ | exact ⟨tyR.1, tyR.2.1, tyR.2.2⟩ | exact ⟨tyO.1, tyO.2.1, tyO.2.2⟩); rcases k with _ | k; (· cases hq; first | exact ⟨tyP.1, tyP.2.1, tyP.2.2⟩ | exact ⟨tyR.1, tyR.2.1, tyR.2.2⟩ | exact ⟨tyO.1, tyO.2.1, tyO.2.2⟩); rcases k with _ | k; (· cases hq; first | exact ⟨tyP.1, tyP.2.1, tyP.2.2⟩ | exact ⟨tyR.1, tyR.2.1, tyR.2.2⟩ | exact ⟨tyO.1, tyO.2.1, tyO.2.2⟩); rcases k with _ | k; (· cases hq; first | exact ⟨tyP.1, tyP.2.1, tyP.2.2⟩ | exact ⟨tyR.1, tyR.2.1, tyR.2.2⟩ | exact ⟨tyO.1, tyO.2.1, tyO.2.2⟩); rcases k with _ | k; (· cases hq; first | exact ⟨tyP.1, tyP.2.1, tyP.2.2⟩ | exact ⟨tyR.1, tyR.2.1, tyR.2.2⟩ | exact ⟨tyO.1, tyO.2.1, tyO.2.2⟩); rcases k with _ | k; (· cases hq; first | exact ⟨tyP.1, tyP.2.1, tyP.2.2⟩ | exact ⟨tyR.1, tyR.2.1, tyR.2.2⟩ | exact ⟨tyO.1, tyO.2.1, tyO.2.2⟩); cases hq) hstd (by omega)
              clear hstd sh hn S13 o6 o7 CC
              go_upto_region 19 with ((with_reducible refine at_store ?_); refine step_store rfl 29 _ _ rfl (ZB) 0 29 (prL cx cx) (prL d d) rfl rfl (S14.out.kd.at 6 rfl) (Nat.le_refl 30) (sizePr _ _) (prL_one _ _) ?_; intro w15 nb gb)
              have S15 : Hid (CE w [(w.heap.size, 24, polL lp (.slice pa pn pc)), (w.heap.size + 1, 24, polL lq (.slice qa qn qc)), (XB, 29, prL cx cx), (YB, 29, prL cy cy), (OB, 39, opL o), (UB, 24, polL lp (.slice pa pn pc)), (ZB, 29, prL d d)] SB (2 * (k + 1)) w15) := S14.out.set 6 rfl ⟨tyR.1.symm, tyR.2.1.symm, tyR.2.2.symm⟩ nb gb
              clear nb gb S14
              have o5 : w15.cell? ⟨OB, 5, none⟩ = some (.bool false) := by rw [← HOT.out]; exact S15.out.kd.cell 4 5 rfl _ rfl
              have hNb := HNb.out
              go_wp2_with (first
              | ((with_reducible refine at_loadT 29 ?_); refine step_load rfl 29 _ rfl (ZB) 0 rfl (prL d d) _ (Blk.all (S15.out.kd.at 6 rfl)) Tryd.underlying29 rfl (sizePr _ _) ?_)
              | ((with_reducible refine at_store ?_); refine step_store rfl 29 _ _ rfl (XB) 0 29 (prL cx cx) (prL d d) rfl rfl (S15.out.kd.at 2 rfl) (Nat.le_refl 30) (sizePr _ _) (prL_one _ _) ?_; intro w20 nb gb))
              have S20 : Hid (CE w [(w.heap.size, 24, polL lp (.slice pa pn pc)), (w.heap.size + 1, 24, polL lq (.slice qa qn qc)), (XB, 29, prL d d), (YB, 29, prL cy cy)] SB (2 * (k + 1)) w20) := (S15.out.set 2 rfl ⟨tyR.1.symm, tyR.2.1.symm, tyR.2.2.symm⟩ nb gb).four
              clear nb gb S15 o5
              go_roundw
              case rel => exact ⟨k + 1, d, cy, by go_num, rfl, by omega, KD9, KY, S20⟩
              case measure => simp [intOf]; omega
            · have HWH : Hid (o.wh = true) := hwh
              clear hwh
              have NZ : Hid (Blk wr.heap.size 39 (opL ⟨⟨0, 0, 0, 0⟩, false, false, false, false, 0, ⟨0, 0, 0, 0⟩⟩) (wr.alloc (.cells #[.int .i64 0, .int .i64 0, .int .i64 0, .int .i64 0, .bool false, .bool false, .bool false, .bool false, .int .i64 0, .int .i64 0, .int .i64 0, .int .i64 0, .int .i64 0] 39))) := Blk.new _ _ _
              go_upto_region 8 with (first
              | ((with_reducible refine at_loadT 39 ?_); refine step_load rfl 39 _ rfl g (off + k * 13) rfl (opL o) _ RG.out Tryd.underlying39 rfl (sizeOp _) ?_)
              | ((with_reducible refine at_store ?_); refine step_store rfl 39 _ _ rfl wr.heap.size 0 39 (opL ⟨⟨0, 0, 0, 0⟩, false, false, false, false, 0, ⟨0, 0, 0, 0⟩⟩) (opL o) rfl rfl NZ.out (Nat.le_refl 13) (sizeOp _) (opL_one _) ?_; intro w7 nb gb))
              have S7 : Hid (CE w [(w.heap.size, 24, polL lp (.slice pa pn pc)), (w.heap.size + 1, 24, polL lq (.slice qa qn qc)), (XB, 29, prL cx cx), (YB, 29, prL cy cy), (wr.heap.size, 39, opL o)] SB (2 * k) w7) := SR.out.add nb gb
              clear nb gb NZ SR
              obtain ⟨OB, hOB⟩ : ∃ B, wr.heap.size = B := ⟨_, rfl⟩
              rw [hOB] at S7
              rw [hOB]
              clear hOB
              have o4 : w7.cell? ⟨OB, 4, none⟩ = some (.bool false) := by rw [← HSE.out]; exact S7.out.kd.cell 4 4 rfl _ rfl
              have NZ : Hid (Blk w7.heap.size 24 (polZc) (w7.alloc (.cells #[.int .i64 0, .int .i64 0, .int .i64 0, .int .i64 0, .int .i64 0, .int .i64 0, .int .i64 0, .int .i64 0, .int .i64 0, .int .i64 0, .int .i64 0, .int .i64 0, .int .i64 0, .int .i64 0, .int .i64 0, .int .i64 0, .int .i64 0, .slice none 0 0] 24))) := Blk.new _ _ _
              go_upto_region 9 with (first
              | ((with_reducible refine at_loadT 24 ?_); refine step_load rfl 24 _ rfl (w.heap.size) 0 rfl (polL lp (.slice pa pn pc)) _ (Blk.all (S7.out.kd.at 0 rfl)) Tryd.underlying24 rfl (SZP.out _) ?_)
              | ((with_reducible refine at_store ?_); refine step_store rfl 24 _ _ rfl w7.heap.size 0 24 (polZc) (polL lp (.slice pa pn pc)) rfl rfl NZ.out (FTP.out _) (SZP.out _) polL_oneC ?_; intro w8 nb gb))
              have S8 : Hid (CE w [(w.heap.size, 24, polL lp (.slice pa pn pc)), (w.heap.size + 1, 24, polL lq (.slice qa qn qc)), (XB, 29, prL cx cx), (YB, 29, prL cy cy), (OB, 39, opL o), (w7.heap.size, 24, polL lp (.slice pa pn pc))] SB (2 * k) w8) := S7.out.add (blk_whole2 (FZP.out _) nb) gb
              clear nb gb NZ S7
              obtain ⟨UB, hUB⟩ : ∃ B, w7.heap.size = B := ⟨_, rfl⟩
              rw [hUB] at S8
              rw [hUB]
              clear hUB
              clear o4
              have o4 : w8.cell? ⟨OB, 4, none⟩ = some (.bool false) := by rw [← HSE.out]; exact S8.out.kd.cell 4 4 rfl _ rfl
              go_upto_region 11 with fail
              have S9 : Hid (CE w [(w.heap.size, 24, polL lp (.slice pa pn pc)), (w.heap.size + 1, 24, polL lq (.slice qa qn qc)), (XB, 29, prL cx cx), (YB, 29, prL cy cy), (OB, 39, opL o), (UB, 24, polL lp (.slice pa pn pc))] SB (2 * k) w8) := S8.out
              clear S8 o4
              obtain ⟨w9, hw9⟩ : ∃ w9, w8 = w9 := ⟨_, rfl⟩
              subst hw9
              have NZ : Hid (Blk w8.heap.size 29 (prL ⟨0, false, 0, 0, 0, 0, 0, 0, 0, 0, 0, 0, 0, 0, 0⟩ ⟨0, false, 0, 0, 0, 0, 0, 0, 0, 0, 0, 0, 0, 0, 0⟩) (w8.alloc (.cells #[.int .i64 0, .bool false, .int .i64 0, .int .i64 0, .int .i64 0, .int .i64 0, .int .i64 0, .int .i64 0, .int .i64 0, .int .i64 0, .int .i64 0, .int .i64 0, .int .i64 0, .int .i64 0, .int .i64 0, .int .i64 0, .bool false, .int .i64 0, .int .i64 0, .int .i64 0, .int .i64 0, .int .i64 0, .int .i64 0, .int .i64 0, .int .i64 0, .int .i64 0, .int .i64 0, .int .i64 0, .int .i64 0, .int .i64 0] 29))) := Blk.new _ _ _
              go_upto_region 12 with (first
              | ((with_reducible refine at_loadT 29 ?_); refine step_load rfl 29 _ rfl (XB) 0 rfl (prL cx cx) _ (Blk.all (S9.out.kd.at 2 rfl)) Tryd.underlying29 rfl (sizePr _ _) ?_)
              | ((with_reducible refine at_store ?_); refine step_store rfl 29 _ _ rfl w8.heap.size 0 29 (prL ⟨0, false, 0, 0, 0, 0, 0, 0, 0, 0, 0, 0, 0, 0, 0⟩ ⟨0, false, 0, 0, 0, 0, 0, 0, 0, 0, 0, 0, 0, 0, 0⟩) (prL cx cx) rfl rfl NZ.out (Nat.le_refl 30) (sizePr _ _) (prL_one _ _) ?_; intro w11 nb gb))
              have S11 : Hid (CE w [(w.heap.size, 24, polL lp (.slice pa pn pc)), (w.heap.size + 1, 24, polL lq (.slice qa qn qc)), (XB, 29, prL cx cx), (YB, 29, prL cy cy), (OB, 39, opL o), (UB, 24, polL lp (.slice pa pn pc)), (w8.heap.size, 29, prL cx cx)] SB (2 * k) w11) := S9.out.add nb gb
              clear nb gb NZ S9
              obtain ⟨ZB, hZB⟩ : ∃ B, w8.heap.size = B := ⟨_, rfl⟩
              rw [hZB] at S11
              rw [hZB]
              clear hZB
              have o5 : w11.cell? ⟨OB, 5, none⟩ = some (.bool false) := by rw [← HOT.out]; exact S11.out.kd.cell 4 5 rfl _ rfl
              go_upto_region 15 with fail
              have S13 : Hid (CE w [(w.heap.size, 24, polL lp (.slice pa pn pc)), (w.heap.size + 1, 24, polL lq (.slice qa qn qc)), (XB, 29, prL cx cx), (YB, 29, prL cy cy), (OB, 39, opL o), (UB, 24, polL lp (.slice pa pn pc)), (ZB, 29, prL cx cx)] SB (2 * k) w11) := S11.out
              clear S11 o5
              have o6 : w11.cell? ⟨OB, 6, none⟩ = some (.bool false) := by rw [← HQU.out]; exact S13.out.kd.cell 4 6 rfl _ rfl
              have o7 : w11.cell? ⟨OB, 7, none⟩ = some (.bool true) := by rw [← HWH.out]; exact S13.out.kd.cell 4 7 rfl _ rfl
              have KD9 : Hid (KI (rk lp hp cx [o.ev, o.nx] 2).1) := rk_ki KX.out 2
              obtain ⟨vL, vG, vs, us, sh, hn⟩ := S13.out.sh
              have CC : Hid (∀ w', Below w.heap.size w w' → SH w.heap.size SB w' vL vG vs us → Calls Tryd.prog 10 #[PV lp (.slice pa pn pc), prV cx cx, evV o.ev, evV o.nx, .pointer (some ⟨SB, 0, none⟩)] w' (StdAns w SB vs.length (rk lp hp cx [o.ev, o.nx] 2).1 w')) := fun w' h1 h2 => RNP.out cx o.ev o.nx w' SB vL vG vs us KX.out h1 h2 (by have := HNb.out; omega)
              generalize (rk lp hp cx [o.ev, o.nx] 2).1 = d at *
              go_wp2_with (first
              | ((with_reducible refine at_loadT 24 ?_); refine step_load rfl 24 _ rfl (UB) 0 rfl (polL lp (.slice pa pn pc)) _ (Blk.all (S13.out.kd.at 5 rfl)) Tryd.underlying24 rfl (SZP.out _) ?_)
              | ((with_reducible refine at_loadT 29 ?_); refine step_load rfl 29 _ rfl (ZB) 0 rfl (prL cx cx) _ (Blk.all (S13.out.kd.at 6 rfl)) Tryd.underlying29 rfl (sizePr _ _) ?_)
              | ((with_reducible refine at_loadT 37 ?_); refine step_load rfl 37 _ rfl OB 0 rfl (evL o.ev) _ (op_ev (S13.out.kd.at 4 rfl)) Tryd.underlying37 rfl (sizeEvL _) ?_)
              | ((with_reducible refine at_loadT 37 ?_); refine step_load rfl 37 _ rfl OB 9 rfl (evL o.nx) _ (op_nx (S13.out.kd.at 4 rfl)) Tryd.underlying37 rfl (sizeEvL _) ?_))
              refine (CC.out _ S13.out.kd.bb sh).mono ?_
              rintro e w14 hstd
              have he := hstd.1
              subst he
              have S14 : Hid (CE w [(w.heap.size, 24, polL lp (.slice pa pn pc)), (w.heap.size + 1, 24, polL lq (.slice qa qn qc)), (XB, 29, prL cx cx), (YB, 29, prL cy cy), (OB, 39, opL o), (UB, 24, polL lp (.slice pa pn pc)), (ZB, 29, prL cx cx)] SB (2 * (k + 1)) w14) := S13.out.std (fun k q hq => by rcases k with _ | k; (· cases hq; first | exact ⟨tyP.1, tyP.2.1, tyP.2.2⟩ | exact ⟨tyR.1, tyR.2.1, tyR.2.2⟩ | exact ⟨tyO.1, tyO.2.1, tyO.2.2⟩); rcases k with _ | k; (· cases hq; first | exact ⟨tyP.1, tyP.2.1, tyP.2.2⟩ | exact ⟨tyR.1, tyR.2.1, tyR.2.2⟩ | exact ⟨tyO.1, tyO.2.1, tyO.2.2⟩); rcases k with _ | k; (· cases hq; first | exact ⟨tyP.1, tyP.2.1, tyP.2.2⟩ | exact ⟨tyR.1, tyR.2.1, tyR.2.2⟩ | exact ⟨tyO.1, tyO.2.1, tyO.2.2⟩); rcases k with _ | k; (· cases hq; first | exact ⟨tyP.1, tyP.2.1, tyP.2.2⟩ | exact ⟨tyR.1, tyR.2.1, tyR.2.2⟩ | exact ⟨tyO.1, tyO.2.1, tyO.2.2⟩); rcases k with _ | k; (· cases hq; first | exact ⟨tyP.1, tyP.2.1, tyP.2.2⟩ | exact ⟨tyR.1, tyR.2.1, tyR.2.2⟩ | exact ⟨tyO.1, tyO.2.1, tyO.2.2⟩); rcases k with _ | k; (· cases hq; first | exact ⟨tyP.1, tyP.2.1, tyP.2.2⟩ | exact ⟨tyR.1, tyR.2.1, tyR.2.2⟩ | exact ⟨tyO.1, tyO.2.1, tyO.2.2⟩); rcases k with _ | k; (· cases hq; first | exact ⟨tyP.1, tyP.2.1, tyP.2.2⟩ | exact ⟨tyR.1, tyR.2.1, tyR.2.2⟩ | exact ⟨tyO.1, tyO.2.1, tyO.2.2⟩); cases hq) hstd (by omega)
              clear hstd sh hn S13 o6 o7 CC
              go_upto_region 19 with ((with_reducible refine at_store ?_); refine step_store rfl 29 _ _ rfl (ZB) 0 29 (prL cx cx) (prL d d) rfl rfl (S14.out.kd.at 6 rfl) (Nat.le_refl 30) (sizePr _ _) (prL_one _ _) ?_; intro w15 nb gb)
              have S15 : Hid (CE w [(w.heap.size, 24, polL lp (.slice pa pn pc)), (w.heap.size + 1, 24, polL lq (.slice qa qn qc)), (XB, 29, prL cx cx), (YB, 29, prL cy cy), (OB, 39, opL o), (UB, 24, polL lp (.slice pa pn pc)), (ZB, 29, prL d d)] SB (2 * (k + 1)) w15) := S14.out.set 6 rfl ⟨tyR.1.symm, tyR.2.1.symm, tyR.2.2.symm⟩ nb gb
              clear nb gb S14
              have o5 : w15.cell? ⟨OB, 5, none⟩ = some (.bool false) := by rw [← HOT.out]; exact S15.out.kd.cell 4 5 rfl _ rfl
              have hNb := HNb.out
              go_wp2_with (first
              | ((with_reducible refine at_loadT 29 ?_); refine step_load rfl 29 _ rfl (ZB) 0 rfl (prL d d) _ (Blk.all (S15.out.kd.at 6 rfl)) Tryd.underlying29 rfl (sizePr _ _) ?_)
              | ((with_reducible refine at_store ?_); refine step_store rfl 29 _ _ rfl (XB) 0 29 (prL cx cx) (prL d d) rfl rfl (S15.out.kd.at 2 rfl) (Nat.le_refl 30) (sizePr _ _) (prL_one _ _) ?_; intro w20 nb gb))
              have S20 : Hid (CE w [(w.heap.size, 24, polL lp (.slice pa pn pc)), (w.heap.size + 1, 24, polL lq (.slice qa qn qc)), (XB, 29, prL d d), (YB, 29, prL cy cy)] SB (2 * (k + 1)) w20) := (S15.out.set 2 rfl ⟨tyR.1.symm, tyR.2.1.symm, tyR.2.2.symm⟩ nb gb).four
              clear nb gb S15 o5
              go_roundw
              case rel => exact ⟨k + 1, d, cy, by go_num, rfl, by omega, KD9, KY, S20⟩
              case measure => simp [intOf]; omega
          · have HQU : Hid (o.qu = true) := hqu
            clear hqu
            have NZ : Hid (Blk wr.heap.size 39 (opL ⟨⟨0, 0, 0, 0⟩, false, false, false, false, 0, ⟨0, 0, 0, 0⟩⟩) (wr.alloc (.cells #[.int .i64 0, .int .i64 0, .int .i64 0, .int .i64 0, .bool false, .bool false, .bool false, .bool false, .int .i64 0, .int .i64 0, .int .i64 0, .int .i64 0, .int .i64 0] 39))) := Blk.new _ _ _
            go_upto_region 8 with (first
            | ((with_reducible refine at_loadT 39 ?_); refine step_load rfl 39 _ rfl g (off + k * 13) rfl (opL o) _ RG.out Tryd.underlying39 rfl (sizeOp _) ?_)
            | ((with_reducible refine at_store ?_); refine step_store rfl 39 _ _ rfl wr.heap.size 0 39 (opL ⟨⟨0, 0, 0, 0⟩, false, false, false, false, 0, ⟨0, 0, 0, 0⟩⟩) (opL o) rfl rfl NZ.out (Nat.le_refl 13) (sizeOp _) (opL_one _) ?_; intro w7 nb gb))
            have S7 : Hid (CE w [(w.heap.size, 24, polL lp (.slice pa pn pc)), (w.heap.size + 1, 24, polL lq (.slice qa qn qc)), (XB, 29, prL cx cx), (YB, 29, prL cy cy), (wr.heap.size, 39, opL o)] SB (2 * k) w7) := SR.out.add nb gb
            clear nb gb NZ SR
            obtain ⟨OB, hOB⟩ : ∃ B, wr.heap.size = B := ⟨_, rfl⟩
            rw [hOB] at S7
            rw [hOB]
            clear hOB
            have o4 : w7.cell? ⟨OB, 4, none⟩ = some (.bool false) := by rw [← HSE.out]; exact S7.out.kd.cell 4 4 rfl _ rfl
            have NZ : Hid (Blk w7.heap.size 24 (polZc) (w7.alloc (.cells #[.int .i64 0, .int .i64 0, .int .i64 0, .int .i64 0, .int .i64 0, .int .i64 0, .int .i64 0, .int .i64 0, .int .i64 0, .int .i64 0, .int .i64 0, .int .i64 0, .int .i64 0, .int .i64 0, .int .i64 0, .int .i64 0, .int .i64 0, .slice none 0 0] 24))) := Blk.new _ _ _
            go_upto_region 9 with (first
            | ((with_reducible refine at_loadT 24 ?_); refine step_load rfl 24 _ rfl (w.heap.size) 0 rfl (polL lp (.slice pa pn pc)) _ (Blk.all (S7.out.kd.at 0 rfl)) Tryd.underlying24 rfl (SZP.out _) ?_)
            | ((with_reducible refine at_store ?_); refine step_store rfl 24 _ _ rfl w7.heap.size 0 24 (polZc) (polL lp (.slice pa pn pc)) rfl rfl NZ.out (FTP.out _) (SZP.out _) polL_oneC ?_; intro w8 nb gb))
            have S8 : Hid (CE w [(w.heap.size, 24, polL lp (.slice pa pn pc)), (w.heap.size + 1, 24, polL lq (.slice qa qn qc)), (XB, 29, prL cx cx), (YB, 29, prL cy cy), (OB, 39, opL o), (w7.heap.size, 24, polL lp (.slice pa pn pc))] SB (2 * k) w8) := S7.out.add (blk_whole2 (FZP.out _) nb) gb
            clear nb gb NZ S7
            obtain ⟨UB, hUB⟩ : ∃ B, w7.heap.size = B := ⟨_, rfl⟩
            rw [hUB] at S8
            rw [hUB]
            clear hUB
            clear o4
            have o4 : w8.cell? ⟨OB, 4, none⟩ = some (.bool false) := by rw [← HSE.out]; exact S8.out.kd.cell 4 4 rfl _ rfl
            go_upto_region 11 with fail
            have S9 : Hid (CE w [(w.heap.size, 24, polL lp (.slice pa pn pc)), (w.heap.size + 1, 24, polL lq (.slice qa qn qc)), (XB, 29, prL cx cx), (YB, 29, prL cy cy), (OB, 39, opL o), (UB, 24, polL lp (.slice pa pn pc))] SB (2 * k) w8) := S8.out
            clear S8 o4
            obtain ⟨w9, hw9⟩ : ∃ w9, w8 = w9 := ⟨_, rfl⟩
            subst hw9
            have NZ : Hid (Blk w8.heap.size 29 (prL ⟨0, false, 0, 0, 0, 0, 0, 0, 0, 0, 0, 0, 0, 0, 0⟩ ⟨0, false, 0, 0, 0, 0, 0, 0, 0, 0, 0, 0, 0, 0, 0⟩) (w8.alloc (.cells #[.int .i64 0, .bool false, .int .i64 0, .int .i64 0, .int .i64 0, .int .i64 0, .int .i64 0, .int .i64 0, .int .i64 0, .int .i64 0, .int .i64 0, .int .i64 0, .int .i64 0, .int .i64 0, .int .i64 0, .int .i64 0, .bool false, .int .i64 0, .int .i64 0, .int .i64 0, .int .i64 0, .int .i64 0, .int .i64 0, .int .i64 0, .int .i64 0, .int .i64 0, .int .i64 0, .int .i64 0, .int .i64 0, .int .i64 0] 29))) := Blk.new _ _ _
            go_upto_region 12 with (first
            | ((with_reducible refine at_loadT 29 ?_); refine step_load rfl 29 _ rfl (XB) 0 rfl (prL cx cx) _ (Blk.all (S9.out.kd.at 2 rfl)) Tryd.underlying29 rfl (sizePr _ _) ?_)
            | ((with_reducible refine at_store ?_); refine step_store rfl 29 _ _ rfl w8.heap.size 0 29 (prL ⟨0, false, 0, 0, 0, 0, 0, 0, 0, 0, 0, 0, 0, 0, 0⟩ ⟨0, false, 0, 0, 0, 0, 0, 0, 0, 0, 0, 0, 0, 0, 0⟩) (prL cx cx) rfl rfl NZ.out (Nat.le_refl 30) (sizePr _ _) (prL_one _ _) ?_; intro w11 nb gb))
            have S11 : Hid (CE w [(w.heap.size, 24, polL lp (.slice pa pn pc)), (w.heap.size + 1, 24, polL lq (.slice qa qn qc)), (XB, 29, prL cx cx), (YB, 29, prL cy cy), (OB, 39, opL o), (UB, 24, polL lp (.slice pa pn pc)), (w8.heap.size, 29, prL cx cx)] SB (2 * k) w11) := S9.out.add nb gb
            clear nb gb NZ S9
            obtain ⟨ZB, hZB⟩ : ∃ B, w8.heap.size = B := ⟨_, rfl⟩
            rw [hZB] at S11
            rw [hZB]
            clear hZB
            have o5 : w11.cell? ⟨OB, 5, none⟩ = some (.bool false) := by rw [← HOT.out]; exact S11.out.kd.cell 4 5 rfl _ rfl
            go_upto_region 15 with fail
            have S13 : Hid (CE w [(w.heap.size, 24, polL lp (.slice pa pn pc)), (w.heap.size + 1, 24, polL lq (.slice qa qn qc)), (XB, 29, prL cx cx), (YB, 29, prL cy cy), (OB, 39, opL o), (UB, 24, polL lp (.slice pa pn pc)), (ZB, 29, prL cx cx)] SB (2 * k) w11) := S11.out
            clear S11 o5
            have o6 : w11.cell? ⟨OB, 6, none⟩ = some (.bool true) := by rw [← HQU.out]; exact S13.out.kd.cell 4 6 rfl _ rfl
            go_upto_region 16 with fail
            clear o6
            have hu2 := Tryd.underlying27
            have hi2 := sizeCsL cx
            refine wp_region_held_drew (S := fun w' => CE w [(w.heap.size, 24, polL lp (.slice pa pn pc)), (w.heap.size + 1, 24, polL lq (.slice qa qn qc)), (XB, 29, prL cx cx), (YB, 29, prL cy cy), (OB, 39, opL o), (UB, 24, polL lp (.slice pa pn pc)), (ZB, 29, prL cx cx)] SB (2 * k) w') (by kernel_rfl) (S13.out.drew) (fun hH => ?_)
            refine wpAnyH_take (i := 0) (oi := { dst := some 55, op := Op.fieldAddr 29 (Operand.tmp 14) 0, type := 0, pos := "law.go:168", after := #[], guard := none }) (v := .pointer (some ⟨ZB, 0, none⟩)) rfl (by kernel_rfl) (by kernel_rfl) (by kernel_rfl) (fun _ _ _ h => h) (Or.inl ⟨by rfl, fun w' h => by go_simp⟩) hH ?_
            try simp only [Act.put, List.setIfInBounds_toArray, List.set_cons_zero, List.set_cons_succ]
            refine wpAnyH_take (i := 1) (oi := { dst := some 56, op := Op.load 27 (Operand.tmp 55), type := 27, pos := "law.go:168", after := #[{ on := 0, ground := Ground.data }], guard := none }) (v := .agg (csL cx).toArray) rfl (by kernel_rfl) (by kernel_rfl) (by kernel_rfl) (fun _ _ _ h => h) (yieldsIf_load_mid (by rfl) _ _ rfl ZB 0 rfl (csL cx) _ (fun w' h => (pr_c (h.kd.at 6 rfl))) hu2 rfl hi2) hH ?_
            try simp only [Act.put, List.setIfInBounds_toArray, List.set_cons_zero, List.set_cons_succ]
            refine wpAnyH_take (i := 3) (oi := { dst := some 58, op := Op.fieldAddr 29 (Operand.tmp 14) 1, type := 0, pos := "law.go:168", after := #[], guard := none }) (v := .pointer (some ⟨ZB, 15, none⟩)) rfl (by kernel_rfl) (by kernel_rfl) (by kernel_rfl) (fun _ _ _ h => h) (Or.inl ⟨by rfl, fun w' h => by go_simp⟩) hH ?_
            try simp only [Act.put, List.setIfInBounds_toArray, List.set_cons_zero, List.set_cons_succ]
            refine wpAnyH_take (i := 4) (oi := { dst := some 59, op := Op.load 27 (Operand.tmp 58), type := 27, pos := "law.go:168", after := #[{ on := 3, ground := Ground.data }], guard := none }) (v := .agg (csL cx).toArray) rfl (by kernel_rfl) (by kernel_rfl) (by kernel_rfl) (fun _ _ _ h => h) (yieldsIf_load_mid (by rfl) _ _ rfl ZB 15 rfl (csL cx) _ (fun w' h => (pr_r (h.kd.at 6 rfl))) hu2 rfl hi2) hH ?_
            try simp only [Act.put, List.setIfInBounds_toArray, List.set_cons_zero, List.set_cons_succ]
            refine wpAnyH_ready (rs := [2]) (by kernel_rfl) (by simp) ?_
            refine AllReadyH.cons (o := { dst := some 57, op := Op.call { callee := Callee.value (Operand.func 5), args := #[Operand.tmp 56], argTypes := #[27] }, type := 4, pos := "law.go:168", after := #[{ on := 1, ground := Ground.data }], guard := none }) rfl (fun K hK => ?_) AllReadyH.nil
            go_simp
            refine (OP1.out cx _).mono ?_
            rintro e x1 ⟨rfl, bX⟩
            refine hK.out _ _ (hH.later bX) (fun hH => ?_)
            clear bX
            refine wpAnyH_ready (rs := [5]) (by kernel_rfl) (by simp) ?_
            refine AllReadyH.cons (o := { dst := some 60, op := Op.call { callee := Callee.value (Operand.func 6), args := #[Operand.tmp 59], argTypes := #[27] }, type := 4, pos := "law.go:168", after := #[{ on := 4, ground := Ground.data }, { on := 2, ground := Ground.chain }], guard := none }) rfl (fun K hK => ?_) AllReadyH.nil
            go_simp
            refine (OP2.out cx _).mono ?_
            rintro e x2 ⟨rfl, bX⟩
            refine hK.out _ _ (hH.later bX) (fun hH => ?_)
            clear bX
            refine wpAnyH_take (i := 6) (oi := { dst := some 61, op := Op.binOp BinOp.eql 4 (Operand.tmp 57) (Operand.tmp 60) 4, type := 4, pos := "law.go:168", after := #[{ on := 2, ground := Ground.data }, { on := 5, ground := Ground.data }], guard := none }) (v := .bool true) rfl (by kernel_rfl) (by kernel_rfl) (by kernel_rfl) (fun _ _ _ h => h) (Or.inl ⟨by rfl, fun w' h => by go_simp⟩) hH ?_
            try simp only [Act.put, List.setIfInBounds_toArray, List.set_cons_zero, List.set_cons_succ]
            refine wpAnyH_take (i := 7) (oi := { dst := some 62, op := Op.move (Operand.tmp 61), type := 4, pos := "law.go:168", after := #[{ on := 6, ground := Ground.data }, { on := 5, ground := Ground.chain }], guard := none }) (v := .bool true) rfl (by kernel_rfl) (by kernel_rfl) (by kernel_rfl) (fun _ _ _ h => h) (Or.inl ⟨by rfl, fun w' h => by go_simp⟩) hH ?_
            try simp only [Act.put, List.setIfInBounds_toArray, List.set_cons_zero, List.set_cons_succ]
            refine wpAnyH_take (i := 8) (oi := { dst := some 63, op := Op.fieldAddr 39 (Operand.tmp 12) 5, type := 0, pos := "law.go:168", after := #[{ on := 7, ground := Ground.guard }], guard := some (7, true) }) (v := .pointer (some ⟨OB, 8, none⟩)) rfl (by kernel_rfl) (by kernel_rfl) (by kernel_rfl) (fun _ _ _ h => h) (Or.inl ⟨by rfl, fun w' h => by go_simp⟩) hH ?_
            try simp only [Act.put, List.setIfInBounds_toArray, List.set_cons_zero, List.set_cons_succ]
            refine wpAnyH_take (i := 9) (oi := { dst := some 64, op := Op.load 3 (Operand.tmp 63), type := 3, pos := "law.go:168", after := #[{ on := 8, ground := Ground.data }, { on := 7, ground := Ground.guard }], guard := some (7, true) }) (v := .int .i64 o.nm) rfl (by kernel_rfl) (by kernel_rfl) (by kernel_rfl) (fun _ _ _ h => h) (Or.inl ⟨by rfl, fun w' h => by have q1 : w'.cell? ⟨OB, 8, none⟩ = some (.int .i64 o.nm) := h.kd.cell 4 8 rfl _ rfl; go_simp⟩) hH ?_
            try simp only [Act.put, List.setIfInBounds_toArray, List.set_cons_zero, List.set_cons_succ]
            refine wpAnyH_ready (rs := [10]) (by kernel_rfl) (by simp) ?_
            refine AllReadyH.cons (o := { dst := some 65, op := Op.call { callee := Callee.value (Operand.func 7), args := #[Operand.tmp 64], argTypes := #[3] }, type := 4, pos := "law.go:168", after := #[{ on := 9, ground := Ground.data }, { on := 7, ground := Ground.chain }, { on := 7, ground := Ground.guard }], guard := some (7, true) }) rfl (fun K hK => ?_) AllReadyH.nil
            go_simp
            refine (NA.out o.nm _ hH.kd.bb).mono ?_
            rintro e x3 ⟨rfl, hw⟩
            subst hw
            refine hK.out _ _ hH (fun hH => ?_)
            refine wpAnyH_take (i := 11) (oi := { dst := some 66, op := Op.pick (Operand.tmp 62) (Operand.tmp 65) (Operand.const (Value.bool false)), type := 4, pos := "law.go:168", after := #[{ on := 7, ground := Ground.data }, { on := 10, ground := Ground.data }], guard := none }) (v := .bool true) rfl (by kernel_rfl) (by kernel_rfl) (by kernel_rfl) (fun _ _ _ h => h) (Or.inl ⟨by rfl, fun w' h => by go_simp⟩) hH ?_
            try simp only [Act.put, List.setIfInBounds_toArray, List.set_cons_zero, List.set_cons_succ]
            refine wpAnyH_take (i := 12) (oi := { dst := some 67, op := Op.move (Operand.tmp 66), type := 4, pos := "law.go:168", after := #[{ on := 11, ground := Ground.data }, { on := 10, ground := Ground.chain }], guard := none }) (v := .bool true) rfl (by kernel_rfl) (by kernel_rfl) (by kernel_rfl) (fun _ _ _ h => h) (Or.inl ⟨by rfl, fun w' h => by go_simp⟩) hH ?_
            try simp only [Act.put, List.setIfInBounds_toArray, List.set_cons_zero, List.set_cons_succ]
            refine wpAnyH_take (i := 13) (oi := { dst := some 68, op := Op.fieldAddr 29 (Operand.tmp 14) 0, type := 0, pos := "law.go:168", after := #[{ on := 12, ground := Ground.guard }], guard := some (12, true) }) (v := .pointer (some ⟨ZB, 0, none⟩)) rfl (by kernel_rfl) (by kernel_rfl) (by kernel_rfl) (fun _ _ _ h => h) (Or.inl ⟨by rfl, fun w' h => by go_simp⟩) hH ?_
            try simp only [Act.put, List.setIfInBounds_toArray, List.set_cons_zero, List.set_cons_succ]
            refine wpAnyH_take (i := 14) (oi := { dst := some 69, op := Op.fieldAddr 27 (Operand.tmp 68) 0, type := 0, pos := "law.go:168", after := #[{ on := 13, ground := Ground.data }, { on := 12, ground := Ground.guard }], guard := some (12, true) }) (v := .pointer (some ⟨ZB, 0, none⟩)) rfl (by kernel_rfl) (by kernel_rfl) (by kernel_rfl) (fun _ _ _ h => h) (Or.inl ⟨by rfl, fun w' h => by go_simp⟩) hH ?_
            try simp only [Act.put, List.setIfInBounds_toArray, List.set_cons_zero, List.set_cons_succ]
            refine wpAnyH_take (i := 15) (oi := { dst := some 70, op := Op.load 3 (Operand.tmp 69), type := 3, pos := "law.go:168", after := #[{ on := 14, ground := Ground.data }, { on := 12, ground := Ground.guard }], guard := some (12, true) }) (v := .int .i64 cx.st) rfl (by kernel_rfl) (by kernel_rfl) (by kernel_rfl) (fun _ _ _ h => h) (Or.inl ⟨by rfl, fun w' h => by have q1 : w'.cell? ⟨ZB, 0, none⟩ = some (.int .i64 cx.st) := h.kd.cell 6 0 rfl _ rfl; go_simp⟩) hH ?_
            try simp only [Act.put, List.setIfInBounds_toArray, List.set_cons_zero, List.set_cons_succ]
            refine wpAnyH_take (i := 17) (oi := { dst := some 72, op := Op.fieldAddr 29 (Operand.tmp 14) 1, type := 0, pos := "law.go:168", after := #[{ on := 12, ground := Ground.guard }], guard := some (12, true) }) (v := .pointer (some ⟨ZB, 15, none⟩)) rfl (by kernel_rfl) (by kernel_rfl) (by kernel_rfl) (fun _ _ _ h => h) (Or.inl ⟨by rfl, fun w' h => by go_simp⟩) hH ?_
            try simp only [Act.put, List.setIfInBounds_toArray, List.set_cons_zero, List.set_cons_succ]
            refine wpAnyH_take (i := 18) (oi := { dst := some 73, op := Op.fieldAddr 27 (Operand.tmp 72) 0, type := 0, pos := "law.go:168", after := #[{ on := 17, ground := Ground.data }, { on := 12, ground := Ground.guard }], guard := some (12, true) }) (v := .pointer (some ⟨ZB, 15, none⟩)) rfl (by kernel_rfl) (by kernel_rfl) (by kernel_rfl) (fun _ _ _ h => h) (Or.inl ⟨by rfl, fun w' h => by go_simp⟩) hH ?_
            try simp only [Act.put, List.setIfInBounds_toArray, List.set_cons_zero, List.set_cons_succ]
            refine wpAnyH_take (i := 19) (oi := { dst := some 74, op := Op.load 3 (Operand.tmp 73), type := 3, pos := "law.go:168", after := #[{ on := 18, ground := Ground.data }, { on := 12, ground := Ground.guard }], guard := some (12, true) }) (v := .int .i64 cx.st) rfl (by kernel_rfl) (by kernel_rfl) (by kernel_rfl) (fun _ _ _ h => h) (Or.inl ⟨by rfl, fun w' h => by have q1 : w'.cell? ⟨ZB, 15, none⟩ = some (.int .i64 cx.st) := h.kd.cell 6 15 rfl _ rfl; go_simp⟩) hH ?_
            try simp only [Act.put, List.setIfInBounds_toArray, List.set_cons_zero, List.set_cons_succ]
            refine wpAnyH_ready (rs := [16]) (by kernel_rfl) (by simp) ?_
            refine AllReadyH.cons (o := { dst := some 71, op := Op.call { callee := Callee.value (Operand.func 8), args := #[Operand.tmp 70], argTypes := #[3] }, type := 9, pos := "law.go:168", after := #[{ on := 15, ground := Ground.data }, { on := 12, ground := Ground.chain }, { on := 12, ground := Ground.guard }], guard := some (12, true) }) rfl (fun K hK => ?_) AllReadyH.nil
            go_simp
            refine (NM1.out cx.st _ hH.kd.bb).mono ?_
            rintro e x4 ⟨rfl, hw⟩
            subst hw
            refine hK.out _ _ hH (fun hH => ?_)
            refine wpAnyH_ready (rs := [20]) (by kernel_rfl) (by simp) ?_
            refine AllReadyH.cons (o := { dst := some 75, op := Op.call { callee := Callee.value (Operand.func 9), args := #[Operand.tmp 74], argTypes := #[3] }, type := 9, pos := "law.go:168", after := #[{ on := 19, ground := Ground.data }, { on := 16, ground := Ground.chain }, { on := 12, ground := Ground.guard }], guard := some (12, true) }) rfl (fun K hK => ?_) AllReadyH.nil
            go_simp
            refine (NM2.out cx.st _).mono ?_
            rintro e x5 ⟨rfl, hw⟩
            subst hw
            refine hK.out _ _ hH (fun hH => ?_)
            refine wpAnyH_take (i := 21) (oi := { dst := some 76, op := Op.binOp BinOp.eql 9 (Operand.tmp 71) (Operand.tmp 75) 9, type := 4, pos := "law.go:168", after := #[{ on := 16, ground := Ground.data }, { on := 20, ground := Ground.data }, { on := 12, ground := Ground.guard }], guard := some (12, true) }) (v := .bool true) rfl (by kernel_rfl) (by kernel_rfl) (by kernel_rfl) (fun _ _ _ h => h) (Or.inl ⟨by rfl, fun w' h => by go_simp⟩) hH ?_
            try simp only [Act.put, List.setIfInBounds_toArray, List.set_cons_zero, List.set_cons_succ]
            refine wpAnyH_take (i := 22) (oi := { dst := some 77, op := Op.pick (Operand.tmp 67) (Operand.tmp 76) (Operand.const (Value.bool false)), type := 4, pos := "law.go:168", after := #[{ on := 12, ground := Ground.data }, { on := 21, ground := Ground.data }], guard := none }) (v := .bool true) rfl (by kernel_rfl) (by kernel_rfl) (by kernel_rfl) (fun _ _ _ h => h) (Or.inl ⟨by rfl, fun w' h => by go_simp⟩) hH ?_
            try simp only [Act.put, List.setIfInBounds_toArray, List.set_cons_zero, List.set_cons_succ]
            refine wpAnyH_take (i := 23) (oi := { dst := some 8, op := Op.assign (Operand.tmp 77), type := 4, pos := "law.go:168", after := #[{ on := 22, ground := Ground.data }, { on := 20, ground := Ground.chain }, { on := 0, ground := Ground.phase }, { on := 1, ground := Ground.phase }, { on := 2, ground := Ground.phase }, { on := 3, ground := Ground.phase }, { on := 4, ground := Ground.phase }, { on := 5, ground := Ground.phase }, { on := 6, ground := Ground.phase }, { on := 7, ground := Ground.phase }, { on := 8, ground := Ground.phase }, { on := 9, ground := Ground.phase }, { on := 10, ground := Ground.phase }, { on := 11, ground := Ground.phase }, { on := 12, ground := Ground.phase }, { on := 13, ground := Ground.phase }, { on := 14, ground := Ground.phase }, { on := 15, ground := Ground.phase }, { on := 16, ground := Ground.phase }, { on := 17, ground := Ground.phase }, { on := 18, ground := Ground.phase }, { on := 19, ground := Ground.phase }, { on := 20, ground := Ground.phase }, { on := 21, ground := Ground.phase }, { on := 22, ground := Ground.phase }], guard := none }) (v := .bool true) rfl (by kernel_rfl) (by kernel_rfl) (by kernel_rfl) (fun _ _ _ h => h) (Or.inl ⟨by rfl, fun w' h => by go_simp⟩) hH ?_
            try simp only [Act.put, List.setIfInBounds_toArray, List.set_cons_zero, List.set_cons_succ]
            refine wpAnyH_done (by kernel_rfl) ?_ _
            have S15 : Hid (CE w [(w.heap.size, 24, polL lp (.slice pa pn pc)), (w.heap.size + 1, 24, polL lq (.slice qa qn qc)), (XB, 29, prL cx cx), (YB, 29, prL cy cy), (OB, 39, opL o), (UB, 24, polL lp (.slice pa pn pc)), (ZB, 29, prL cx cx)] SB (2 * (k + 1)) x2) := hH.more (by omega)
            clear hH hK S13 hu2 hi2
            have KD9 : Hid (KI cx) := KX
            go_upto_region 19 with fail
            have o5 : x2.cell? ⟨OB, 5, none⟩ = some (.bool false) := by rw [← HOT.out]; exact S15.out.kd.cell 4 5 rfl _ rfl
            have hNb := HNb.out
            go_wp2_with (first
            | ((with_reducible refine at_loadT 29 ?_); refine step_load rfl 29 _ rfl (ZB) 0 rfl (prL cx cx) _ (Blk.all (S15.out.kd.at 6 rfl)) Tryd.underlying29 rfl (sizePr _ _) ?_)
            | ((with_reducible refine at_store ?_); refine step_store rfl 29 _ _ rfl (XB) 0 29 (prL cx cx) (prL cx cx) rfl rfl (S15.out.kd.at 2 rfl) (Nat.le_refl 30) (sizePr _ _) (prL_one _ _) ?_; intro w20 nb gb))
            have S20 : Hid (CE w [(w.heap.size, 24, polL lp (.slice pa pn pc)), (w.heap.size + 1, 24, polL lq (.slice qa qn qc)), (XB, 29, prL cx cx), (YB, 29, prL cy cy)] SB (2 * (k + 1)) w20) := (S15.out.set 2 rfl ⟨tyR.1.symm, tyR.2.1.symm, tyR.2.2.symm⟩ nb gb).four
            clear nb gb S15 o5
            go_roundw
            case rel => exact ⟨k + 1, cx, cy, by go_num, rfl, by omega, KD9, KY, S20⟩
            case measure => simp [intOf]; omega
        · have HOT : Hid (o.ot = true) := hot
          clear hot
          cases hqu : o.qu
          · have HQU : Hid (o.qu = false) := hqu
            clear hqu
            cases hwh : o.wh
            · have HWH : Hid (o.wh = false) := hwh
              clear hwh
              have NZ : Hid (Blk wr.heap.size 39 (opL ⟨⟨0, 0, 0, 0⟩, false, false, false, false, 0, ⟨0, 0, 0, 0⟩⟩) (wr.alloc (.cells #[.int .i64 0, .int .i64 0, .int .i64 0, .int .i64 0, .bool false, .bool false, .bool false, .bool false, .int .i64 0, .int .i64 0, .int .i64 0, .int .i64 0, .int .i64 0] 39))) := Blk.new _ _ _
              go_upto_region 8 with (first
              | ((with_reducible refine at_loadT 39 ?_); refine step_load rfl 39 _ rfl g (off + k * 13) rfl (opL o) _ RG.out Tryd.underlying39 rfl (sizeOp _) ?_)
              | ((with_reducible refine at_store ?_); refine step_store rfl 39 _ _ rfl wr.heap.size 0 39 (opL ⟨⟨0, 0, 0, 0⟩, false, false, false, false, 0, ⟨0, 0, 0, 0⟩⟩) (opL o) rfl rfl NZ.out (Nat.le_refl 13) (sizeOp _) (opL_one _) ?_; intro w7 nb gb))
              have S7 : Hid (CE w [(w.heap.size, 24, polL lp (.slice pa pn pc)), (w.heap.size + 1, 24, polL lq (.slice qa qn qc)), (XB, 29, prL cx cx), (YB, 29, prL cy cy), (wr.heap.size, 39, opL o)] SB (2 * k) w7) := SR.out.add nb gb
              clear nb gb NZ SR
              obtain ⟨OB, hOB⟩ : ∃ B, wr.heap.size = B := ⟨_, rfl⟩
              rw [hOB] at S7
              rw [hOB]
              clear hOB
              have o4 : w7.cell? ⟨OB, 4, none⟩ = some (.bool false) := by rw [← HSE.out]; exact S7.out.kd.cell 4 4 rfl _ rfl
              have NZ : Hid (Blk w7.heap.size 24 (polZc) (w7.alloc (.cells #[.int .i64 0, .int .i64 0, .int .i64 0, .int .i64 0, .int .i64 0, .int .i64 0, .int .i64 0, .int .i64 0, .int .i64 0, .int .i64 0, .int .i64 0, .int .i64 0, .int .i64 0, .int .i64 0, .int .i64 0, .int .i64 0, .int .i64 0, .slice none 0 0] 24))) := Blk.new _ _ _
              go_upto_region 9 with (first
              | ((with_reducible refine at_loadT 24 ?_); refine step_load rfl 24 _ rfl (w.heap.size) 0 rfl (polL lp (.slice pa pn pc)) _ (Blk.all (S7.out.kd.at 0 rfl)) Tryd.underlying24 rfl (SZP.out _) ?_)
              | ((with_reducible refine at_store ?_); refine step_store rfl 24 _ _ rfl w7.heap.size 0 24 (polZc) (polL lp (.slice pa pn pc)) rfl rfl NZ.out (FTP.out _) (SZP.out _) polL_oneC ?_; intro w8 nb gb))
              have S8 : Hid (CE w [(w.heap.size, 24, polL lp (.slice pa pn pc)), (w.heap.size + 1, 24, polL lq (.slice qa qn qc)), (XB, 29, prL cx cx), (YB, 29, prL cy cy), (OB, 39, opL o), (w7.heap.size, 24, polL lp (.slice pa pn pc))] SB (2 * k) w8) := S7.out.add (blk_whole2 (FZP.out _) nb) gb
              clear nb gb NZ S7
              obtain ⟨UB, hUB⟩ : ∃ B, w7.heap.size = B := ⟨_, rfl⟩
              rw [hUB] at S8
              rw [hUB]
              clear hUB
              clear o4
              have o4 : w8.cell? ⟨OB, 4, none⟩ = some (.bool false) := by rw [← HSE.out]; exact S8.out.kd.cell 4 4 rfl _ rfl
              go_upto_region 11 with fail
              have S9 : Hid (CE w [(w.heap.size, 24, polL lp (.slice pa pn pc)), (w.heap.size + 1, 24, polL lq (.slice qa qn qc)), (XB, 29, prL cx cx), (YB, 29, prL cy cy), (OB, 39, opL o), (UB, 24, polL lp (.slice pa pn pc))] SB (2 * k) w8) := S8.out
              clear S8 o4
              obtain ⟨w9, hw9⟩ : ∃ w9, w8 = w9 := ⟨_, rfl⟩
              subst hw9
              have NZ : Hid (Blk w8.heap.size 29 (prL ⟨0, false, 0, 0, 0, 0, 0, 0, 0, 0, 0, 0, 0, 0, 0⟩ ⟨0, false, 0, 0, 0, 0, 0, 0, 0, 0, 0, 0, 0, 0, 0⟩) (w8.alloc (.cells #[.int .i64 0, .bool false, .int .i64 0, .int .i64 0, .int .i64 0, .int .i64 0, .int .i64 0, .int .i64 0, .int .i64 0, .int .i64 0, .int .i64 0, .int .i64 0, .int .i64 0, .int .i64 0, .int .i64 0, .int .i64 0, .bool false, .int .i64 0, .int .i64 0, .int .i64 0, .int .i64 0, .int .i64 0, .int .i64 0, .int .i64 0, .int .i64 0, .int .i64 0, .int .i64 0, .int .i64 0, .int .i64 0, .int .i64 0] 29))) := Blk.new _ _ _
              go_upto_region 12 with (first
              | ((with_reducible refine at_loadT 29 ?_); refine step_load rfl 29 _ rfl (XB) 0 rfl (prL cx cx) _ (Blk.all (S9.out.kd.at 2 rfl)) Tryd.underlying29 rfl (sizePr _ _) ?_)
              | ((with_reducible refine at_store ?_); refine step_store rfl 29 _ _ rfl w8.heap.size 0 29 (prL ⟨0, false, 0, 0, 0, 0, 0, 0, 0, 0, 0, 0, 0, 0, 0⟩ ⟨0, false, 0, 0, 0, 0, 0, 0, 0, 0, 0, 0, 0, 0, 0⟩) (prL cx cx) rfl rfl NZ.out (Nat.le_refl 30) (sizePr _ _) (prL_one _ _) ?_; intro w11 nb gb))
              have S11 : Hid (CE w [(w.heap.size, 24, polL lp (.slice pa pn pc)), (w.heap.size + 1, 24, polL lq (.slice qa qn qc)), (XB, 29, prL cx cx), (YB, 29, prL cy cy), (OB, 39, opL o), (UB, 24, polL lp (.slice pa pn pc)), (w8.heap.size, 29, prL cx cx)] SB (2 * k) w11) := S9.out.add nb gb
              clear nb gb NZ S9
              obtain ⟨ZB, hZB⟩ : ∃ B, w8.heap.size = B := ⟨_, rfl⟩
              rw [hZB] at S11
              rw [hZB]
              clear hZB
              have o5 : w11.cell? ⟨OB, 5, none⟩ = some (.bool true) := by rw [← HOT.out]; exact S11.out.kd.cell 4 5 rfl _ rfl
              go_upto_region 15 with (first
              | ((with_reducible refine at_loadT 29 ?_); refine step_load rfl 29 _ rfl (YB) 0 rfl (prL cy cy) _ (Blk.all (S11.out.kd.at 3 rfl)) Tryd.underlying29 rfl (sizePr _ _) ?_)
              | ((with_reducible refine at_store ?_); refine step_store rfl 29 _ _ rfl (ZB) 0 29 (prL cx cx) (prL cy cy) rfl rfl (S11.out.kd.at 6 rfl) (Nat.le_refl 30) (sizePr _ _) (prL_one _ _) ?_; intro w13 nb gb))
              have S13 : Hid (CE w [(w.heap.size, 24, polL lp (.slice pa pn pc)), (w.heap.size + 1, 24, polL lq (.slice qa qn qc)), (XB, 29, prL cx cx), (YB, 29, prL cy cy), (OB, 39, opL o), (UB, 24, polL lp (.slice pa pn pc)), (ZB, 29, prL cy cy)] SB (2 * k) w13) := S11.out.set 6 rfl ⟨tyR.1.symm, tyR.2.1.symm, tyR.2.2.symm⟩ nb gb
              clear nb gb S11 o5
              have o6 : w13.cell? ⟨OB, 6, none⟩ = some (.bool false) := by rw [← HQU.out]; exact S13.out.kd.cell 4 6 rfl _ rfl
              have o7 : w13.cell? ⟨OB, 7, none⟩ = some (.bool false) := by rw [← HWH.out]; exact S13.out.kd.cell 4 7 rfl _ rfl
              have KD9 : Hid (KI (stepA lp hp cy o.ev).2.1) := step_ki _ KY.out
              obtain ⟨vL, vG, vs, us, sh, hn⟩ := S13.out.sh
              have CC : Hid (∀ w', Below w.heap.size w w' → SH w.heap.size SB w' vL vG vs us → Calls Tryd.prog 11 #[PV lp (.slice pa pn pc), prV cy cy, evV o.ev, .pointer (some ⟨SB, 0, none⟩)] w' (StdAns w SB vs.length (stepA lp hp cy o.ev).2.1 w')) := fun w' h1 h2 => SPP.out cy o.ev w' SB vL vG vs us KY.out h1 h2 (by have := HNb.out; omega)
              generalize (stepA lp hp cy o.ev).2.1 = d at *
              go_wp2_with (first
              | ((with_reducible refine at_loadT 24 ?_); refine step_load rfl 24 _ rfl (UB) 0 rfl (polL lp (.slice pa pn pc)) _ (Blk.all (S13.out.kd.at 5 rfl)) Tryd.underlying24 rfl (SZP.out _) ?_)
              | ((with_reducible refine at_loadT 29 ?_); refine step_load rfl 29 _ rfl (ZB) 0 rfl (prL cy cy) _ (Blk.all (S13.out.kd.at 6 rfl)) Tryd.underlying29 rfl (sizePr _ _) ?_)
              | ((with_reducible refine at_loadT 37 ?_); refine step_load rfl 37 _ rfl OB 0 rfl (evL o.ev) _ (op_ev (S13.out.kd.at 4 rfl)) Tryd.underlying37 rfl (sizeEvL _) ?_)
              | ((with_reducible refine at_loadT 37 ?_); refine step_load rfl 37 _ rfl OB 9 rfl (evL o.nx) _ (op_nx (S13.out.kd.at 4 rfl)) Tryd.underlying37 rfl (sizeEvL _) ?_))
              refine (CC.out _ S13.out.kd.bb sh).mono ?_
              rintro e w14 hstd
              have he := hstd.1
              subst he
              have S14 : Hid (CE w [(w.heap.size, 24, polL lp (.slice pa pn pc)), (w.heap.size + 1, 24, polL lq (.slice qa qn qc)), (XB, 29, prL cx cx), (YB, 29, prL cy cy), (OB, 39, opL o), (UB, 24, polL lp (.slice pa pn pc)), (ZB, 29, prL cy cy)] SB (2 * (k + 1)) w14) := S13.out.std (fun k q hq => by rcases k with _ | k; (· cases hq; first | exact ⟨tyP.1, tyP.2.1, tyP.2.2⟩ | exact ⟨tyR.1, tyR.2.1, tyR.2.2⟩ | exact ⟨tyO.1, tyO.2.1, tyO.2.2⟩); rcases k with _ | k; (· cases hq; first | exact ⟨tyP.1, tyP.2.1, tyP.2.2⟩ | exact ⟨tyR.1, tyR.2.1, tyR.2.2⟩ | exact ⟨tyO.1, tyO.2.1, tyO.2.2⟩); rcases k with _ | k; (· cases hq; first | exact ⟨tyP.1, tyP.2.1, tyP.2.2⟩ | exact ⟨tyR.1, tyR.2.1, tyR.2.2⟩ | exact ⟨tyO.1, tyO.2.1, tyO.2.2⟩); rcases k with _ | k; (· cases hq; first | exact ⟨tyP.1, tyP.2.1, tyP.2.2⟩ | exact ⟨tyR.1, tyR.2.1, tyR.2.2⟩ | exact ⟨tyO.1, tyO.2.1, tyO.2.2⟩); rcases k with _ | k; (· cases hq; first | exact ⟨tyP.1, tyP.2.1, tyP.2.2⟩ | exact ⟨tyR.1, tyR.2.1, tyR.2.2⟩ | exact ⟨tyO.1, tyO.2.1, tyO.2.2⟩); rcases k with _ | k; (· cases hq; first | exact ⟨tyP.1, tyP.2.1, tyP.2.2⟩ | exact ⟨tyR.1, tyR.2.1, tyR.2.2⟩ | exact ⟨tyO.1, tyO.2.1, tyO.2.2⟩); rcases k with _ | k; (· cases hq; first | exact ⟨tyP.1, tyP.2.1, tyP.2.2⟩ | exact ⟨tyR.1, tyR.2.1, tyR.2.2⟩ | exact ⟨tyO.1, tyO.2.1, tyO.2.2⟩); cases hq) hstd (by omega)
              clear hstd sh hn S13 o6 o7 CC
              go_upto_region 19 with ((with_reducible refine at_store ?_); refine step_store rfl 29 _ _ rfl (ZB) 0 29 (prL cy cy) (prL d d) rfl rfl (S14.out.kd.at 6 rfl) (Nat.le_refl 30) (sizePr _ _) (prL_one _ _) ?_; intro w15 nb gb)
              have S15 : Hid (CE w [(w.heap.size, 24, polL lp (.slice pa pn pc)), (w.heap.size + 1, 24, polL lq (.slice qa qn qc)), (XB, 29, prL cx cx), (YB, 29, prL cy cy), (OB, 39, opL o), (UB, 24, polL lp (.slice pa pn pc)), (ZB, 29, prL d d)] SB (2 * (k + 1)) w15) := S14.out.set 6 rfl ⟨tyR.1.symm, tyR.2.1.symm, tyR.2.2.symm⟩ nb gb
              clear nb gb S14
              have o5 : w15.cell? ⟨OB, 5, none⟩ = some (.bool true) := by rw [← HOT.out]; exact S15.out.kd.cell 4 5 rfl _ rfl
              have hNb := HNb.out
              go_wp2_with (first
              | ((with_reducible refine at_loadT 29 ?_); refine step_load rfl 29 _ rfl (ZB) 0 rfl (prL d d) _ (Blk.all (S15.out.kd.at 6 rfl)) Tryd.underlying29 rfl (sizePr _ _) ?_)
              | ((with_reducible refine at_store ?_); refine step_store rfl 29 _ _ rfl (YB) 0 29 (prL cy cy) (prL d d) rfl rfl (S15.out.kd.at 3 rfl) (Nat.le_refl 30) (sizePr _ _) (prL_one _ _) ?_; intro w20 nb gb))
              have S20 : Hid (CE w [(w.heap.size, 24, polL lp (.slice pa pn pc)), (w.heap.size + 1, 24, polL lq (.slice qa qn qc)), (XB, 29, prL cx cx), (YB, 29, prL d d)] SB (2 * (k + 1)) w20) := (S15.out.set 3 rfl ⟨tyR.1.symm, tyR.2.1.symm, tyR.2.2.symm⟩ nb gb).four
              clear nb gb S15 o5
              go_roundw
              case rel => exact ⟨k + 1, cx, d, by go_num, rfl, by omega, KX, KD9, S20⟩
              case measure => simp [intOf]; omega
            · have HWH : Hid (o.wh = true) := hwh
              clear hwh
              have NZ : Hid (Blk wr.heap.size 39 (opL ⟨⟨0, 0, 0, 0⟩, false, false, false, false, 0, ⟨0, 0, 0, 0⟩⟩) (wr.alloc (.cells #[.int .i64 0, .int .i64 0, .int .i64 0, .int .i64 0, .bool false, .bool false, .bool false, .bool false, .int .i64 0, .int .i64 0, .int .i64 0, .int .i64 0, .int .i64 0] 39))) := Blk.new _ _ _
              go_upto_region 8 with (first
              | ((with_reducible refine at_loadT 39 ?_); refine step_load rfl 39 _ rfl g (off + k * 13) rfl (opL o) _ RG.out Tryd.underlying39 rfl (sizeOp _) ?_)
              | ((with_reducible refine at_store ?_); refine step_store rfl 39 _ _ rfl wr.heap.size 0 39 (opL ⟨⟨0, 0, 0, 0⟩, false, false, false, false, 0, ⟨0, 0, 0, 0⟩⟩) (opL o) rfl rfl NZ.out (Nat.le_refl 13) (sizeOp _) (opL_one _) ?_; intro w7 nb gb))
              have S7 : Hid (CE w [(w.heap.size, 24, polL lp (.slice pa pn pc)), (w.heap.size + 1, 24, polL lq (.slice qa qn qc)), (XB, 29, prL cx cx), (YB, 29, prL cy cy), (wr.heap.size, 39, opL o)] SB (2 * k) w7) := SR.out.add nb gb
              clear nb gb NZ SR
              obtain ⟨OB, hOB⟩ : ∃ B, wr.heap.size = B := ⟨_, rfl⟩
              rw [hOB] at S7
              rw [hOB]
              clear hOB
              have o4 : w7.cell? ⟨OB, 4, none⟩ = some (.bool false) := by rw [← HSE.out]; exact S7.out.kd.cell 4 4 rfl _ rfl
              have NZ : Hid (Blk w7.heap.size 24 (polZc) (w7.alloc (.cells #[.int .i64 0, .int .i64 0, .int .i64 0, .int .i64 0, .int .i64 0, .int .i64 0, .int .i64 0, .int .i64 0, .int .i64 0, .int .i64 0, .int .i64 0, .int .i64 0, .int .i64 0, .int .i64 0, .int .i64 0, .int .i64 0, .int .i64 0, .slice none 0 0] 24))) := Blk.new _ _ _
              go_upto_region 9 with (first
              | ((with_reducible refine at_loadT 24 ?_); refine step_load rfl 24 _ rfl (w.heap.size) 0 rfl (polL lp (.slice pa pn pc)) _ (Blk.all (S7.out.kd.at 0 rfl)) Tryd.underlying24 rfl (SZP.out _) ?_)
              | ((with_reducible refine at_store ?_); refine step_store rfl 24 _ _ rfl w7.heap.size 0 24 (polZc) (polL lp (.slice pa pn pc)) rfl rfl NZ.out (FTP.out _) (SZP.out _) polL_oneC ?_; intro w8 nb gb))
              have S8 : Hid (CE w [(w.heap.size, 24, polL lp (.slice pa pn pc)), (w.heap.size + 1, 24, polL lq (.slice qa qn qc)), (XB, 29, prL cx cx), (YB, 29, prL cy cy), (OB, 39, opL o), (w7.heap.size, 24, polL lp (.slice pa pn pc))] SB (2 * k) w8) := S7.out.add (blk_whole2 (FZP.out _) nb) gb
              clear nb gb NZ S7
              obtain ⟨UB, hUB⟩ : ∃ B, w7.heap.size = B := ⟨_, rfl⟩
              rw [hUB] at S8
              rw [hUB]
              clear hUB
              clear o4
              have o4 : w8.cell? ⟨OB, 4, none⟩ = some (.bool false) := by rw [← HSE.out]; exact S8.out.kd.cell 4 4 rfl _ rfl
              go_upto_region 11 with fail
              have S9 : Hid (CE w [(w.heap.size, 24, polL lp (.slice pa pn pc)), (w.heap.size + 1, 24, polL lq (.slice qa qn qc)), (XB, 29, prL cx cx), (YB, 29, prL cy cy), (OB, 39, opL o), (UB, 24, polL lp (.slice pa pn pc))] SB (2 * k) w8) := S8.out
              clear S8 o4
              obtain ⟨w9, hw9⟩ : ∃ w9, w8 = w9 := ⟨_, rfl⟩
              subst hw9
              have NZ : Hid (Blk w8.heap.size 29 (prL ⟨0, false, 0, 0, 0, 0, 0, 0, 0, 0, 0, 0, 0, 0, 0⟩ ⟨0, false, 0, 0, 0, 0, 0, 0, 0, 0, 0, 0, 0, 0, 0⟩) (w8.alloc (.cells #[.int .i64 0, .bool false, .int .i64 0, .int .i64 0, .int .i64 0, .int .i64 0, .int .i64 0, .int .i64 0, .int .i64 0, .int .i64 0, .int .i64 0, .int .i64 0, .int .i64 0, .int .i64 0, .int .i64 0, .int .i64 0, .bool false, .int .i64 0, .int .i64 0, .int .i64 0, .int .i64 0, .int .i64 0, .int .i64 0, .int .i64 0, .int .i64 0, .int .i64 0, .int .i64 0, .int .i64 0, .int .i64 0, .int .i64 0] 29))) := Blk.new _ _ _
              go_upto_region 12 with (first
              | ((with_reducible refine at_loadT 29 ?_); refine step_load rfl 29 _ rfl (XB) 0 rfl (prL cx cx) _ (Blk.all (S9.out.kd.at 2 rfl)) Tryd.underlying29 rfl (sizePr _ _) ?_)
              | ((with_reducible refine at_store ?_); refine step_store rfl 29 _ _ rfl w8.heap.size 0 29 (prL ⟨0, false, 0, 0, 0, 0, 0, 0, 0, 0, 0, 0, 0, 0, 0⟩ ⟨0, false, 0, 0, 0, 0, 0, 0, 0, 0, 0, 0, 0, 0, 0⟩) (prL cx cx) rfl rfl NZ.out (Nat.le_refl 30) (sizePr _ _) (prL_one _ _) ?_; intro w11 nb gb))
              have S11 : Hid (CE w [(w.heap.size, 24, polL lp (.slice pa pn pc)), (w.heap.size + 1, 24, polL lq (.slice qa qn qc)), (XB, 29, prL cx cx), (YB, 29, prL cy cy), (OB, 39, opL o), (UB, 24, polL lp (.slice pa pn pc)), (w8.heap.size, 29, prL cx cx)] SB (2 * k) w11) := S9.out.add nb gb
              clear nb gb NZ S9
              obtain ⟨ZB, hZB⟩ : ∃ B, w8.heap.size = B := ⟨_, rfl⟩
              rw [hZB] at S11
              rw [hZB]
              clear hZB
              have o5 : w11.cell? ⟨OB, 5, none⟩ = some (.bool true) := by rw [← HOT.out]; exact S11.out.kd.cell 4 5 rfl _ rfl
              go_upto_region 15 with (first
              | ((with_reducible refine at_loadT 29 ?_); refine step_load rfl 29 _ rfl (YB) 0 rfl (prL cy cy) _ (Blk.all (S11.out.kd.at 3 rfl)) Tryd.underlying29 rfl (sizePr _ _) ?_)
              | ((with_reducible refine at_store ?_); refine step_store rfl 29 _ _ rfl (ZB) 0 29 (prL cx cx) (prL cy cy) rfl rfl (S11.out.kd.at 6 rfl) (Nat.le_refl 30) (sizePr _ _) (prL_one _ _) ?_; intro w13 nb gb))
              have S13 : Hid (CE w [(w.heap.size, 24, polL lp (.slice pa pn pc)), (w.heap.size + 1, 24, polL lq (.slice qa qn qc)), (XB, 29, prL cx cx), (YB, 29, prL cy cy), (OB, 39, opL o), (UB, 24, polL lp (.slice pa pn pc)), (ZB, 29, prL cy cy)] SB (2 * k) w13) := S11.out.set 6 rfl ⟨tyR.1.symm, tyR.2.1.symm, tyR.2.2.symm⟩ nb gb
              clear nb gb S11 o5
              have o6 : w13.cell? ⟨OB, 6, none⟩ = some (.bool false) := by rw [← HQU.out]; exact S13.out.kd.cell 4 6 rfl _ rfl
              have o7 : w13.cell? ⟨OB, 7, none⟩ = some (.bool true) := by rw [← HWH.out]; exact S13.out.kd.cell 4 7 rfl _ rfl
              have KD9 : Hid (KI (rk lp hp cy [o.ev, o.nx] 2).1) := rk_ki KY.out 2
              obtain ⟨vL, vG, vs, us, sh, hn⟩ := S13.out.sh
              have CC : Hid (∀ w', Below w.heap.size w w' → SH w.heap.size SB w' vL vG vs us → Calls Tryd.prog 10 #[PV lp (.slice pa pn pc), prV cy cy, evV o.ev, evV o.nx, .pointer (some ⟨SB, 0, none⟩)] w' (StdAns w SB vs.length (rk lp hp cy [o.ev, o.nx] 2).1 w')) := fun w' h1 h2 => RNP.out cy o.ev o.nx w' SB vL vG vs us KY.out h1 h2 (by have := HNb.out; omega)
              generalize (rk lp hp cy [o.ev, o.nx] 2).1 = d at *
              go_wp2_with (first
              | ((with_reducible refine at_loadT 24 ?_); refine step_load rfl 24 _ rfl (UB) 0 rfl (polL lp (.slice pa pn pc)) _ (Blk.all (S13.out.kd.at 5 rfl)) Tryd.underlying24 rfl (SZP.out _) ?_)
              | ((with_reducible refine at_loadT 29 ?_); refine step_load rfl 29 _ rfl (ZB) 0 rfl (prL cy cy) _ (Blk.all (S13.out.kd.at 6 rfl)) Tryd.underlying29 rfl (sizePr _ _) ?_)
              | ((with_reducible refine at_loadT 37 ?_); refine step_load rfl 37 _ rfl OB 0 rfl (evL o.ev) _ (op_ev (S13.out.kd.at 4 rfl)) Tryd.underlying37 rfl (sizeEvL _) ?_)
              | ((with_reducible refine at_loadT 37 ?_); refine step_load rfl 37 _ rfl OB 9 rfl (evL o.nx) _ (op_nx (S13.out.kd.at 4 rfl)) Tryd.underlying37 rfl (sizeEvL _) ?_))
              refine (CC.out _ S13.out.kd.bb sh).mono ?_
              rintro e w14 hstd
              have he := hstd.1
              subst he
              have S14 : Hid (CE w [(w.heap.size, 24, polL lp (.slice pa pn pc)), (w.heap.size + 1, 24, polL lq (.slice qa qn qc)), (XB, 29, prL cx cx), (YB, 29, prL cy cy), (OB, 39, opL o), (UB, 24, polL lp (.slice pa pn pc)), (ZB, 29, prL cy cy)] SB (2 * (k + 1)) w14) := S13.out.std (fun k q hq => by rcases k with _ | k; (· cases hq; first | exact ⟨tyP.1, tyP.2.1, tyP.2.2⟩ | exact ⟨tyR.1, tyR.2.1, tyR.2.2⟩ | exact ⟨tyO.1, tyO.2.1, tyO.2.2⟩); rcases k with _ | k; (· cases hq; first | exact ⟨tyP.1, tyP.2.1, tyP.2.2⟩ | exact ⟨tyR.1, tyR.2.1, tyR.2.2⟩ | exact ⟨tyO.1, tyO.2.1, tyO.2.2⟩); rcases k with _ | k; (· cases hq; first | exact ⟨tyP.1, tyP.2.1, tyP.2.2⟩ | exact ⟨tyR.1, tyR.2.1, tyR.2.2⟩ | exact ⟨tyO.1, tyO.2.1, tyO.2.2⟩); rcases k with _ | k; (· cases hq; first | exact ⟨tyP.1, tyP.2.1, tyP.2.2⟩ | exact ⟨tyR.1, tyR.2.1, tyR.2.2⟩ | exact ⟨tyO.1, tyO.2.1, tyO.2.2⟩); rcases k with _ | k; (· cases hq; first | exact ⟨tyP.1, tyP.2.1, tyP.2.2⟩ | exact ⟨tyR.1, tyR.2.1, tyR.2.2⟩ | exact ⟨tyO.1, tyO.2.1, tyO.2.2⟩); rcases k with _ | k; (· cases hq; first | exact ⟨tyP.1, tyP.2.1, tyP.2.2⟩ | exact ⟨tyR.1, tyR.2.1, tyR.2.2⟩ | exact ⟨tyO.1, tyO.2.1, tyO.2.2⟩); rcases k with _ | k; (· cases hq; first | exact ⟨tyP.1, tyP.2.1, tyP.2.2⟩ | exact ⟨tyR.1, tyR.2.1, tyR.2.2⟩ | exact ⟨tyO.1, tyO.2.1, tyO.2.2⟩); cases hq) hstd (by omega)
              clear hstd sh hn S13 o6 o7 CC
              go_upto_region 19 with ((with_reducible refine at_store ?_); refine step_store rfl 29 _ _ rfl (ZB) 0 29 (prL cy cy) (prL d d) rfl rfl (S14.out.kd.at 6 rfl) (Nat.le_refl 30) (sizePr _ _) (prL_one _ _) ?_; intro w15 nb gb)
              have S15 : Hid (CE w [(w.heap.size, 24, polL lp (.slice pa pn pc)), (w.heap.size + 1, 24, polL lq (.slice qa qn qc)), (XB, 29, prL cx cx), (YB, 29, prL cy cy), (OB, 39, opL o), (UB, 24, polL lp (.slice pa pn pc)), (ZB, 29, prL d d)] SB (2 * (k + 1)) w15) := S14.out.set 6 rfl ⟨tyR.1.symm, tyR.2.1.symm, tyR.2.2.symm⟩ nb gb
              clear nb gb S14
              have o5 : w15.cell? ⟨OB, 5, none⟩ = some (.bool true) := by rw [← HOT.out]; exact S15.out.kd.cell 4 5 rfl _ rfl
              have hNb := HNb.out
              go_wp2_with (first
              | ((with_reducible refine at_loadT 29 ?_); refine step_load rfl 29 _ rfl (ZB) 0 rfl (prL d d) _ (Blk.all (S15.out.kd.at 6 rfl)) Tryd.underlying29 rfl (sizePr _ _) ?_)
              | ((with_reducible refine at_store ?_); refine step_store rfl 29 _ _ rfl (YB) 0 29 (prL cy cy) (prL d d) rfl rfl (S15.out.kd.at 3 rfl) (Nat.le_refl 30) (sizePr _ _) (prL_one _ _) ?_; intro w20 nb gb))
              have S20 : Hid (CE w [(w.heap.size, 24, polL lp (.slice pa pn pc)), (w.heap.size + 1, 24, polL lq (.slice qa qn qc)), (XB, 29, prL cx cx), (YB, 29, prL d d)] SB (2 * (k + 1)) w20) := (S15.out.set 3 rfl ⟨tyR.1.symm, tyR.2.1.symm, tyR.2.2.symm⟩ nb gb).four
              clear nb gb S15 o5
              go_roundw
              case rel => exact ⟨k + 1, cx, d, by go_num, rfl, by omega, KX, KD9, S20⟩
              case measure => simp [intOf]; omega
          · have HQU : Hid (o.qu = true) := hqu
            clear hqu
            have NZ : Hid (Blk wr.heap.size 39 (opL ⟨⟨0, 0, 0, 0⟩, false, false, false, false, 0, ⟨0, 0, 0, 0⟩⟩) (wr.alloc (.cells #[.int .i64 0, .int .i64 0, .int .i64 0, .int .i64 0, .bool false, .bool false, .bool false, .bool false, .int .i64 0, .int .i64 0, .int .i64 0, .int .i64 0, .int .i64 0] 39))) := Blk.new _ _ _
            go_upto_region 8 with (first
            | ((with_reducible refine at_loadT 39 ?_); refine step_load rfl 39 _ rfl g (off + k * 13) rfl (opL o) _ RG.out Tryd.underlying39 rfl (sizeOp _) ?_)
            | ((with_reducible refine at_store ?_); refine step_store rfl 39 _ _ rfl wr.heap.size 0 39 (opL ⟨⟨0, 0, 0, 0⟩, false, false, false, false, 0, ⟨0, 0, 0, 0⟩⟩) (opL o) rfl rfl NZ.out (Nat.le_refl 13) (sizeOp _) (opL_one _) ?_; intro w7 nb gb))
            have S7 : Hid (CE w [(w.heap.size, 24, polL lp (.slice pa pn pc)), (w.heap.size + 1, 24, polL lq (.slice qa qn qc)), (XB, 29, prL cx cx), (YB, 29, prL cy cy), (wr.heap.size, 39, opL o)] SB (2 * k) w7) := SR.out.add nb gb
            clear nb gb NZ SR
            obtain ⟨OB, hOB⟩ : ∃ B, wr.heap.size = B := ⟨_, rfl⟩
            rw [hOB] at S7
            rw [hOB]
            clear hOB
            have o4 : w7.cell? ⟨OB, 4, none⟩ = some (.bool false) := by rw [← HSE.out]; exact S7.out.kd.cell 4 4 rfl _ rfl
            have NZ : Hid (Blk w7.heap.size 24 (polZc) (w7.alloc (.cells #[.int .i64 0, .int .i64 0, .int .i64 0, .int .i64 0, .int .i64 0, .int .i64 0, .int .i64 0, .int .i64 0, .int .i64 0, .int .i64 0, .int .i64 0, .int .i64 0, .int .i64 0, .int .i64 0, .int .i64 0, .int .i64 0, .int .i64 0, .slice none 0 0] 24))) := Blk.new _ _ _
            go_upto_region 9 with (first
            | ((with_reducible refine at_loadT 24 ?_); refine step_load rfl 24 _ rfl (w.heap.size) 0 rfl (polL lp (.slice pa pn pc)) _ (Blk.all (S7.out.kd.at 0 rfl)) Tryd.underlying24 rfl (SZP.out _) ?_)
            | ((with_reducible refine at_store ?_); refine step_store rfl 24 _ _ rfl w7.heap.size 0 24 (polZc) (polL lp (.slice pa pn pc)) rfl rfl NZ.out (FTP.out _) (SZP.out _) polL_oneC ?_; intro w8 nb gb))
            have S8 : Hid (CE w [(w.heap.size, 24, polL lp (.slice pa pn pc)), (w.heap.size + 1, 24, polL lq (.slice qa qn qc)), (XB, 29, prL cx cx), (YB, 29, prL cy cy), (OB, 39, opL o), (w7.heap.size, 24, polL lp (.slice pa pn pc))] SB (2 * k) w8) := S7.out.add (blk_whole2 (FZP.out _) nb) gb
            clear nb gb NZ S7
            obtain ⟨UB, hUB⟩ : ∃ B, w7.heap.size = B := ⟨_, rfl⟩
            rw [hUB] at S8
            rw [hUB]
            clear hUB
            clear o4
            have o4 : w8.cell? ⟨OB, 4, none⟩ = some (.bool false) := by rw [← HSE.out]; exact S8.out.kd.cell 4 4 rfl _ rfl
            go_upto_region 11 with fail
            have S9 : Hid (CE w [(w.heap.size, 24, polL lp (.slice pa pn pc)), (w.heap.size + 1, 24, polL lq (.slice qa qn qc)), (XB, 29, prL cx cx), (YB, 29, prL cy cy), (OB, 39, opL o), (UB, 24, polL lp (.slice pa pn pc))] SB (2 * k) w8) := S8.out
            clear S8 o4
            obtain ⟨w9, hw9⟩ : ∃ w9, w8 = w9 := ⟨_, rfl⟩
            subst hw9
            have NZ : Hid (Blk w8.heap.size 29 (prL ⟨0, false, 0, 0, 0, 0, 0, 0, 0, 0, 0, 0, 0, 0, 0⟩ ⟨0, false, 0, 0, 0, 0, 0, 0, 0, 0, 0, 0, 0, 0, 0⟩) (w8.alloc (.cells #[.int .i64 0, .bool false, .int .i64 0, .int .i64 0, .int .i64 0, .int .i64 0, .int .i64 0, .int .i64 0, .int .i64 0, .int .i64 0, .int .i64 0, .int .i64 0, .int .i64 0, .int .i64 0, .int .i64 0, .int .i64 0, .bool false, .int .i64 0, .int .i64 0, .int .i64 0, .int .i64 0, .int .i64 0, .int .i64 0, .int .i64 0, .int .i64 0, .int .i64 0, .int .i64 0, .int .i64 0, .int .i64 0, .int .i64 0] 29))) := Blk.new _ _ _
            go_upto_region 12 with (first
            | ((with_reducible refine at_loadT 29 ?_); refine step_load rfl 29 _ rfl (XB) 0 rfl (prL cx cx) _ (Blk.all (S9.out.kd.at 2 rfl)) Tryd.underlying29 rfl (sizePr _ _) ?_)
            | ((with_reducible refine at_store ?_); refine step_store rfl 29 _ _ rfl w8.heap.size 0 29 (prL ⟨0, false, 0, 0, 0, 0, 0, 0, 0, 0, 0, 0, 0, 0, 0⟩ ⟨0, false, 0, 0, 0, 0, 0, 0, 0, 0, 0, 0, 0, 0, 0⟩) (prL cx cx) rfl rfl NZ.out (Nat.le_refl 30) (sizePr _ _) (prL_one _ _) ?_; intro w11 nb gb))
            have S11 : Hid (CE w [(w.heap.size, 24, polL lp (.slice pa pn pc)), (w.heap.size + 1, 24, polL lq (.slice qa qn qc)), (XB, 29, prL cx cx), (YB, 29, prL cy cy), (OB, 39, opL o), (UB, 24, polL lp (.slice pa pn pc)), (w8.heap.size, 29, prL cx cx)] SB (2 * k) w11) := S9.out.add nb gb
            clear nb gb NZ S9
            obtain ⟨ZB, hZB⟩ : ∃ B, w8.heap.size = B := ⟨_, rfl⟩
            rw [hZB] at S11
            rw [hZB]
            clear hZB
            have o5 : w11.cell? ⟨OB, 5, none⟩ = some (.bool true) := by rw [← HOT.out]; exact S11.out.kd.cell 4 5 rfl _ rfl
            go_upto_region 15 with (first
            | ((with_reducible refine at_loadT 29 ?_); refine step_load rfl 29 _ rfl (YB) 0 rfl (prL cy cy) _ (Blk.all (S11.out.kd.at 3 rfl)) Tryd.underlying29 rfl (sizePr _ _) ?_)
            | ((with_reducible refine at_store ?_); refine step_store rfl 29 _ _ rfl (ZB) 0 29 (prL cx cx) (prL cy cy) rfl rfl (S11.out.kd.at 6 rfl) (Nat.le_refl 30) (sizePr _ _) (prL_one _ _) ?_; intro w13 nb gb))
            have S13 : Hid (CE w [(w.heap.size, 24, polL lp (.slice pa pn pc)), (w.heap.size + 1, 24, polL lq (.slice qa qn qc)), (XB, 29, prL cx cx), (YB, 29, prL cy cy), (OB, 39, opL o), (UB, 24, polL lp (.slice pa pn pc)), (ZB, 29, prL cy cy)] SB (2 * k) w13) := S11.out.set 6 rfl ⟨tyR.1.symm, tyR.2.1.symm, tyR.2.2.symm⟩ nb gb
            clear nb gb S11 o5
            have o6 : w13.cell? ⟨OB, 6, none⟩ = some (.bool true) := by rw [← HQU.out]; exact S13.out.kd.cell 4 6 rfl _ rfl
            go_upto_region 16 with fail
            clear o6
            have hu2 := Tryd.underlying27
            have hi2 := sizeCsL cy
            refine wp_region_held_drew (S := fun w' => CE w [(w.heap.size, 24, polL lp (.slice pa pn pc)), (w.heap.size + 1, 24, polL lq (.slice qa qn qc)), (XB, 29, prL cx cx), (YB, 29, prL cy cy), (OB, 39, opL o), (UB, 24, polL lp (.slice pa pn pc)), (ZB, 29, prL cy cy)] SB (2 * k) w') (by kernel_rfl) (S13.out.drew) (fun hH => ?_)
            refine wpAnyH_take (i := 0) (oi := { dst := some 55, op := Op.fieldAddr 29 (Operand.tmp 14) 0, type := 0, pos := "law.go:168", after := #[], guard := none }) (v := .pointer (some ⟨ZB, 0, none⟩)) rfl (by kernel_rfl) (by kernel_rfl) (by kernel_rfl) (fun _ _ _ h => h) (Or.inl ⟨by rfl, fun w' h => by go_simp⟩) hH ?_
            try simp only [Act.put, List.setIfInBounds_toArray, List.set_cons_zero, List.set_cons_succ]
            refine wpAnyH_take (i := 1) (oi := { dst := some 56, op := Op.load 27 (Operand.tmp 55), type := 27, pos := "law.go:168", after := #[{ on := 0, ground := Ground.data }], guard := none }) (v := .agg (csL cy).toArray) rfl (by kernel_rfl) (by kernel_rfl) (by kernel_rfl) (fun _ _ _ h => h) (yieldsIf_load_mid (by rfl) _ _ rfl ZB 0 rfl (csL cy) _ (fun w' h => (pr_c (h.kd.at 6 rfl))) hu2 rfl hi2) hH ?_
            try simp only [Act.put, List.setIfInBounds_toArray, List.set_cons_zero, List.set_cons_succ]
            refine wpAnyH_take (i := 3) (oi := { dst := some 58, op := Op.fieldAddr 29 (Operand.tmp 14) 1, type := 0, pos := "law.go:168", after := #[], guard := none }) (v := .pointer (some ⟨ZB, 15, none⟩)) rfl (by kernel_rfl) (by kernel_rfl) (by kernel_rfl) (fun _ _ _ h => h) (Or.inl ⟨by rfl, fun w' h => by go_simp⟩) hH ?_
            try simp only [Act.put, List.setIfInBounds_toArray, List.set_cons_zero, List.set_cons_succ]
            refine wpAnyH_take (i := 4) (oi := { dst := some 59, op := Op.load 27 (Operand.tmp 58), type := 27, pos := "law.go:168", after := #[{ on := 3, ground := Ground.data }], guard := none }) (v := .agg (csL cy).toArray) rfl (by kernel_rfl) (by kernel_rfl) (by kernel_rfl) (fun _ _ _ h => h) (yieldsIf_load_mid (by rfl) _ _ rfl ZB 15 rfl (csL cy) _ (fun w' h => (pr_r (h.kd.at 6 rfl))) hu2 rfl hi2) hH ?_
            try simp only [Act.put, List.setIfInBounds_toArray, List.set_cons_zero, List.set_cons_succ]
            refine wpAnyH_ready (rs := [2]) (by kernel_rfl) (by simp) ?_
            refine AllReadyH.cons (o := { dst := some 57, op := Op.call { callee := Callee.value (Operand.func 5), args := #[Operand.tmp 56], argTypes := #[27] }, type := 4, pos := "law.go:168", after := #[{ on := 1, ground := Ground.data }], guard := none }) rfl (fun K hK => ?_) AllReadyH.nil
            go_simp
            refine (OP1.out cy _).mono ?_
            rintro e x1 ⟨rfl, bX⟩
            refine hK.out _ _ (hH.later bX) (fun hH => ?_)
            clear bX
            refine wpAnyH_ready (rs := [5]) (by kernel_rfl) (by simp) ?_
            refine AllReadyH.cons (o := { dst := some 60, op := Op.call { callee := Callee.value (Operand.func 6), args := #[Operand.tmp 59], argTypes := #[27] }, type := 4, pos := "law.go:168", after := #[{ on := 4, ground := Ground.data }, { on := 2, ground := Ground.chain }], guard := none }) rfl (fun K hK => ?_) AllReadyH.nil
            go_simp
            refine (OP2.out cy _).mono ?_
            rintro e x2 ⟨rfl, bX⟩
            refine hK.out _ _ (hH.later bX) (fun hH => ?_)
            clear bX
            refine wpAnyH_take (i := 6) (oi := { dst := some 61, op := Op.binOp BinOp.eql 4 (Operand.tmp 57) (Operand.tmp 60) 4, type := 4, pos := "law.go:168", after := #[{ on := 2, ground := Ground.data }, { on := 5, ground := Ground.data }], guard := none }) (v := .bool true) rfl (by kernel_rfl) (by kernel_rfl) (by kernel_rfl) (fun _ _ _ h => h) (Or.inl ⟨by rfl, fun w' h => by go_simp⟩) hH ?_
            try simp only [Act.put, List.setIfInBounds_toArray, List.set_cons_zero, List.set_cons_succ]
            refine wpAnyH_take (i := 7) (oi := { dst := some 62, op := Op.move (Operand.tmp 61), type := 4, pos := "law.go:168", after := #[{ on := 6, ground := Ground.data }, { on := 5, ground := Ground.chain }], guard := none }) (v := .bool true) rfl (by kernel_rfl) (by kernel_rfl) (by kernel_rfl) (fun _ _ _ h => h) (Or.inl ⟨by rfl, fun w' h => by go_simp⟩) hH ?_
            try simp only [Act.put, List.setIfInBounds_toArray, List.set_cons_zero, List.set_cons_succ]
            refine wpAnyH_take (i := 8) (oi := { dst := some 63, op := Op.fieldAddr 39 (Operand.tmp 12) 5, type := 0, pos := "law.go:168", after := #[{ on := 7, ground := Ground.guard }], guard := some (7, true) }) (v := .pointer (some ⟨OB, 8, none⟩)) rfl (by kernel_rfl) (by kernel_rfl) (by kernel_rfl) (fun _ _ _ h => h) (Or.inl ⟨by rfl, fun w' h => by go_simp⟩) hH ?_
            try simp only [Act.put, List.setIfInBounds_toArray, List.set_cons_zero, List.set_cons_succ]
            refine wpAnyH_take (i := 9) (oi := { dst := some 64, op := Op.load 3 (Operand.tmp 63), type := 3, pos := "law.go:168", after := #[{ on := 8, ground := Ground.data }, { on := 7, ground := Ground.guard }], guard := some (7, true) }) (v := .int .i64 o.nm) rfl (by kernel_rfl) (by kernel_rfl) (by kernel_rfl) (fun _ _ _ h => h) (Or.inl ⟨by rfl, fun w' h => by have q1 : w'.cell? ⟨OB, 8, none⟩ = some (.int .i64 o.nm) := h.kd.cell 4 8 rfl _ rfl; go_simp⟩) hH ?_
            try simp only [Act.put, List.setIfInBounds_toArray, List.set_cons_zero, List.set_cons_succ]
            refine wpAnyH_ready (rs := [10]) (by kernel_rfl) (by simp) ?_
            refine AllReadyH.cons (o := { dst := some 65, op := Op.call { callee := Callee.value (Operand.func 7), args := #[Operand.tmp 64], argTypes := #[3] }, type := 4, pos := "law.go:168", after := #[{ on := 9, ground := Ground.data }, { on := 7, ground := Ground.chain }, { on := 7, ground := Ground.guard }], guard := some (7, true) }) rfl (fun K hK => ?_) AllReadyH.nil
            go_simp
            refine (NA.out o.nm _ hH.kd.bb).mono ?_
            rintro e x3 ⟨rfl, hw⟩
            subst hw
            refine hK.out _ _ hH (fun hH => ?_)
            refine wpAnyH_take (i := 11) (oi := { dst := some 66, op := Op.pick (Operand.tmp 62) (Operand.tmp 65) (Operand.const (Value.bool false)), type := 4, pos := "law.go:168", after := #[{ on := 7, ground := Ground.data }, { on := 10, ground := Ground.data }], guard := none }) (v := .bool true) rfl (by kernel_rfl) (by kernel_rfl) (by kernel_rfl) (fun _ _ _ h => h) (Or.inl ⟨by rfl, fun w' h => by go_simp⟩) hH ?_
            try simp only [Act.put, List.setIfInBounds_toArray, List.set_cons_zero, List.set_cons_succ]
            refine wpAnyH_take (i := 12) (oi := { dst := some 67, op := Op.move (Operand.tmp 66), type := 4, pos := "law.go:168", after := #[{ on := 11, ground := Ground.data }, { on := 10, ground := Ground.chain }], guard := none }) (v := .bool true) rfl (by kernel_rfl) (by kernel_rfl) (by kernel_rfl) (fun _ _ _ h => h) (Or.inl ⟨by rfl, fun w' h => by go_simp⟩) hH ?_
            try simp only [Act.put, List.setIfInBounds_toArray, List.set_cons_zero, List.set_cons_succ]
            refine wpAnyH_take (i := 13) (oi := { dst := some 68, op := Op.fieldAddr 29 (Operand.tmp 14) 0, type := 0, pos := "law.go:168", after := #[{ on := 12, ground := Ground.guard }], guard := some (12, true) }) (v := .pointer (some ⟨ZB, 0, none⟩)) rfl (by kernel_rfl) (by kernel_rfl) (by kernel_rfl) (fun _ _ _ h => h) (Or.inl ⟨by rfl, fun w' h => by go_simp⟩) hH ?_
            try simp only [Act.put, List.setIfInBounds_toArray, List.set_cons_zero, List.set_cons_succ]
            refine wpAnyH_take (i := 14) (oi := { dst := some 69, op := Op.fieldAddr 27 (Operand.tmp 68) 0, type := 0, pos := "law.go:168", after := #[{ on := 13, ground := Ground.data }, { on := 12, ground := Ground.guard }], guard := some (12, true) }) (v := .pointer (some ⟨ZB, 0, none⟩)) rfl (by kernel_rfl) (by kernel_rfl) (by kernel_rfl) (fun _ _ _ h => h) (Or.inl ⟨by rfl, fun w' h => by go_simp⟩) hH ?_
            try simp only [Act.put, List.setIfInBounds_toArray, List.set_cons_zero, List.set_cons_succ]
            refine wpAnyH_take (i := 15) (oi := { dst := some 70, op := Op.load 3 (Operand.tmp 69), type := 3, pos := "law.go:168", after := #[{ on := 14, ground := Ground.data }, { on := 12, ground := Ground.guard }], guard := some (12, true) }) (v := .int .i64 cy.st) rfl (by kernel_rfl) (by kernel_rfl) (by kernel_rfl) (fun _ _ _ h => h) (Or.inl ⟨by rfl, fun w' h => by have q1 : w'.cell? ⟨ZB, 0, none⟩ = some (.int .i64 cy.st) := h.kd.cell 6 0 rfl _ rfl; go_simp⟩) hH ?_
            try simp only [Act.put, List.setIfInBounds_toArray, List.set_cons_zero, List.set_cons_succ]
            refine wpAnyH_take (i := 17) (oi := { dst := some 72, op := Op.fieldAddr 29 (Operand.tmp 14) 1, type := 0, pos := "law.go:168", after := #[{ on := 12, ground := Ground.guard }], guard := some (12, true) }) (v := .pointer (some ⟨ZB, 15, none⟩)) rfl (by kernel_rfl) (by kernel_rfl) (by kernel_rfl) (fun _ _ _ h => h) (Or.inl ⟨by rfl, fun w' h => by go_simp⟩) hH ?_
            try simp only [Act.put, List.setIfInBounds_toArray, List.set_cons_zero, List.set_cons_succ]
            refine wpAnyH_take (i := 18) (oi := { dst := some 73, op := Op.fieldAddr 27 (Operand.tmp 72) 0, type := 0, pos := "law.go:168", after := #[{ on := 17, ground := Ground.data }, { on := 12, ground := Ground.guard }], guard := some (12, true) }) (v := .pointer (some ⟨ZB, 15, none⟩)) rfl (by kernel_rfl) (by kernel_rfl) (by kernel_rfl) (fun _ _ _ h => h) (Or.inl ⟨by rfl, fun w' h => by go_simp⟩) hH ?_
            try simp only [Act.put, List.setIfInBounds_toArray, List.set_cons_zero, List.set_cons_succ]
            refine wpAnyH_take (i := 19) (oi := { dst := some 74, op := Op.load 3 (Operand.tmp 73), type := 3, pos := "law.go:168", after := #[{ on := 18, ground := Ground.data }, { on := 12, ground := Ground.guard }], guard := some (12, true) }) (v := .int .i64 cy.st) rfl (by kernel_rfl) (by kernel_rfl) (by kernel_rfl) (fun _ _ _ h => h) (Or.inl ⟨by rfl, fun w' h => by have q1 : w'.cell? ⟨ZB, 15, none⟩ = some (.int .i64 cy.st) := h.kd.cell 6 15 rfl _ rfl; go_simp⟩) hH ?_
            try simp only [Act.put, List.setIfInBounds_toArray, List.set_cons_zero, List.set_cons_succ]
            refine wpAnyH_ready (rs := [16]) (by kernel_rfl) (by simp) ?_
            refine AllReadyH.cons (o := { dst := some 71, op := Op.call { callee := Callee.value (Operand.func 8), args := #[Operand.tmp 70], argTypes := #[3] }, type := 9, pos := "law.go:168", after := #[{ on := 15, ground := Ground.data }, { on := 12, ground := Ground.chain }, { on := 12, ground := Ground.guard }], guard := some (12, true) }) rfl (fun K hK => ?_) AllReadyH.nil
            go_simp
            refine (NM1.out cy.st _ hH.kd.bb).mono ?_
            rintro e x4 ⟨rfl, hw⟩
            subst hw
            refine hK.out _ _ hH (fun hH => ?_)
            refine wpAnyH_ready (rs := [20]) (by kernel_rfl) (by simp) ?_
            refine AllReadyH.cons (o := { dst := some 75, op := Op.call { callee := Callee.value (Operand.func 9), args := #[Operand.tmp 74], argTypes := #[3] }, type := 9, pos := "law.go:168", after := #[{ on := 19, ground := Ground.data }, { on := 16, ground := Ground.chain }, { on := 12, ground := Ground.guard }], guard := some (12, true) }) rfl (fun K hK => ?_) AllReadyH.nil
            go_simp
            refine (NM2.out cy.st _).mono ?_
            rintro e x5 ⟨rfl, hw⟩
            subst hw
            refine hK.out _ _ hH (fun hH => ?_)
            refine wpAnyH_take (i := 21) (oi := { dst := some 76, op := Op.binOp BinOp.eql 9 (Operand.tmp 71) (Operand.tmp 75) 9, type := 4, pos := "law.go:168", after := #[{ on := 16, ground := Ground.data }, { on := 20, ground := Ground.data }, { on := 12, ground := Ground.guard }], guard := some (12, true) }) (v := .bool true) rfl (by kernel_rfl) (by kernel_rfl) (by kernel_rfl) (fun _ _ _ h => h) (Or.inl ⟨by rfl, fun w' h => by go_simp⟩) hH ?_
            try simp only [Act.put, List.setIfInBounds_toArray, List.set_cons_zero, List.set_cons_succ]
            refine wpAnyH_take (i := 22) (oi := { dst := some 77, op := Op.pick (Operand.tmp 67) (Operand.tmp 76) (Operand.const (Value.bool false)), type := 4, pos := "law.go:168", after := #[{ on := 12, ground := Ground.data }, { on := 21, ground := Ground.data }], guard := none }) (v := .bool true) rfl (by kernel_rfl) (by kernel_rfl) (by kernel_rfl) (fun _ _ _ h => h) (Or.inl ⟨by rfl, fun w' h => by go_simp⟩) hH ?_
            try simp only [Act.put, List.setIfInBounds_toArray, List.set_cons_zero, List.set_cons_succ]
            refine wpAnyH_take (i := 23) (oi := { dst := some 8, op := Op.assign (Operand.tmp 77), type := 4, pos := "law.go:168", after := #[{ on := 22, ground := Ground.data }, { on := 20, ground := Ground.chain }, { on := 0, ground := Ground.phase }, { on := 1, ground := Ground.phase }, { on := 2, ground := Ground.phase }, { on := 3, ground := Ground.phase }, { on := 4, ground := Ground.phase }, { on := 5, ground := Ground.phase }, { on := 6, ground := Ground.phase }, { on := 7, ground := Ground.phase }, { on := 8, ground := Ground.phase }, { on := 9, ground := Ground.phase }, { on := 10, ground := Ground.phase }, { on := 11, ground := Ground.phase }, { on := 12, ground := Ground.phase }, { on := 13, ground := Ground.phase }, { on := 14, ground := Ground.phase }, { on := 15, ground := Ground.phase }, { on := 16, ground := Ground.phase }, { on := 17, ground := Ground.phase }, { on := 18, ground := Ground.phase }, { on := 19, ground := Ground.phase }, { on := 20, ground := Ground.phase }, { on := 21, ground := Ground.phase }, { on := 22, ground := Ground.phase }], guard := none }) (v := .bool true) rfl (by kernel_rfl) (by kernel_rfl) (by kernel_rfl) (fun _ _ _ h => h) (Or.inl ⟨by rfl, fun w' h => by go_simp⟩) hH ?_
            try simp only [Act.put, List.setIfInBounds_toArray, List.set_cons_zero, List.set_cons_succ]
            refine wpAnyH_done (by kernel_rfl) ?_ _
            have S15 : Hid (CE w [(w.heap.size, 24, polL lp (.slice pa pn pc)), (w.heap.size + 1, 24, polL lq (.slice qa qn qc)), (XB, 29, prL cx cx), (YB, 29, prL cy cy), (OB, 39, opL o), (UB, 24, polL lp (.slice pa pn pc)), (ZB, 29, prL cy cy)] SB (2 * (k + 1)) x2) := hH.more (by omega)
            clear hH hK S13 hu2 hi2
            have KD9 : Hid (KI cy) := KY
            go_upto_region 19 with fail
            have o5 : x2.cell? ⟨OB, 5, none⟩ = some (.bool true) := by rw [← HOT.out]; exact S15.out.kd.cell 4 5 rfl _ rfl
            have hNb := HNb.out
            go_wp2_with (first
            | ((with_reducible refine at_loadT 29 ?_); refine step_load rfl 29 _ rfl (ZB) 0 rfl (prL cy cy) _ (Blk.all (S15.out.kd.at 6 rfl)) Tryd.underlying29 rfl (sizePr _ _) ?_)
            | ((with_reducible refine at_store ?_); refine step_store rfl 29 _ _ rfl (YB) 0 29 (prL cy cy) (prL cy cy) rfl rfl (S15.out.kd.at 3 rfl) (Nat.le_refl 30) (sizePr _ _) (prL_one _ _) ?_; intro w20 nb gb))
            have S20 : Hid (CE w [(w.heap.size, 24, polL lp (.slice pa pn pc)), (w.heap.size + 1, 24, polL lq (.slice qa qn qc)), (XB, 29, prL cx cx), (YB, 29, prL cy cy)] SB (2 * (k + 1)) w20) := (S15.out.set 3 rfl ⟨tyR.1.symm, tyR.2.1.symm, tyR.2.2.symm⟩ nb gb).four
            clear nb gb S15 o5
            go_roundw
            case rel => exact ⟨k + 1, cx, cy, by go_num, rfl, by omega, KX, KD9, S20⟩
            case measure => simp [intOf]; omega
      · have HSE : Hid (o.se = true) := hse
        clear hse
        cases hot : o.ot
        · have HOT : Hid (o.ot = false) := hot
          clear hot
          cases hqu : o.qu
          · have HQU : Hid (o.qu = false) := hqu
            clear hqu
            cases hwh : o.wh
            · have HWH : Hid (o.wh = false) := hwh
              clear hwh
              have NZ : Hid (Blk wr.heap.size 39 (opL ⟨⟨0, 0, 0, 0⟩, false, false, false, false, 0, ⟨0, 0, 0, 0⟩⟩) (wr.alloc (.cells #[.int .i64 0, .int .i64 0, .int .i64 0, .int .i64 0, .bool false, .bool false, .bool false, .bool false, .int .i64 0, .int .i64 0, .int .i64 0, .int .i64 0, .int .i64 0] 39))) := Blk.new _ _ _
              go_upto_region 8 with (first
              | ((with_reducible refine at_loadT 39 ?_); refine step_load rfl 39 _ rfl g (off + k * 13) rfl (opL o) _ RG.out Tryd.underlying39 rfl (sizeOp _) ?_)
              | ((with_reducible refine at_store ?_); refine step_store rfl 39 _ _ rfl wr.heap.size 0 39 (opL ⟨⟨0, 0, 0, 0⟩, false, false, false, false, 0, ⟨0, 0, 0, 0⟩⟩) (opL o) rfl rfl NZ.out (Nat.le_refl 13) (sizeOp _) (opL_one _) ?_; intro w7 nb gb))
              have S7 : Hid (CE w [(w.heap.size, 24, polL lp (.slice pa pn pc)), (w.heap.size + 1, 24, polL lq (.slice qa qn qc)), (XB, 29, prL cx cx), (YB, 29, prL cy cy), (wr.heap.size, 39, opL o)] SB (2 * k) w7) := SR.out.add nb gb
              clear nb gb NZ SR
              obtain ⟨OB, hOB⟩ : ∃ B, wr.heap.size = B := ⟨_, rfl⟩
              rw [hOB] at S7
              rw [hOB]
              clear hOB
              have o4 : w7.cell? ⟨OB, 4, none⟩ = some (.bool true) := by rw [← HSE.out]; exact S7.out.kd.cell 4 4 rfl _ rfl
              have NZ : Hid (Blk w7.heap.size 24 (polZc) (w7.alloc (.cells #[.int .i64 0, .int .i64 0, .int .i64 0, .int .i64 0, .int .i64 0, .int .i64 0, .int .i64 0, .int .i64 0, .int .i64 0, .int .i64 0, .int .i64 0, .int .i64 0, .int .i64 0, .int .i64 0, .int .i64 0, .int .i64 0, .int .i64 0, .slice none 0 0] 24))) := Blk.new _ _ _
              go_upto_region 9 with (first
              | ((with_reducible refine at_loadT 24 ?_); refine step_load rfl 24 _ rfl (w.heap.size) 0 rfl (polL lp (.slice pa pn pc)) _ (Blk.all (S7.out.kd.at 0 rfl)) Tryd.underlying24 rfl (SZP.out _) ?_)
              | ((with_reducible refine at_store ?_); refine step_store rfl 24 _ _ rfl w7.heap.size 0 24 (polZc) (polL lp (.slice pa pn pc)) rfl rfl NZ.out (FTP.out _) (SZP.out _) polL_oneC ?_; intro w8 nb gb))
              have S8 : Hid (CE w [(w.heap.size, 24, polL lp (.slice pa pn pc)), (w.heap.size + 1, 24, polL lq (.slice qa qn qc)), (XB, 29, prL cx cx), (YB, 29, prL cy cy), (OB, 39, opL o), (w7.heap.size, 24, polL lp (.slice pa pn pc))] SB (2 * k) w8) := S7.out.add (blk_whole2 (FZP.out _) nb) gb
              clear nb gb NZ S7
              obtain ⟨UB, hUB⟩ : ∃ B, w7.heap.size = B := ⟨_, rfl⟩
              rw [hUB] at S8
              rw [hUB]
              clear hUB
              clear o4
              have o4 : w8.cell? ⟨OB, 4, none⟩ = some (.bool true) := by rw [← HSE.out]; exact S8.out.kd.cell 4 4 rfl _ rfl
              go_upto_region 11 with (first
              | ((with_reducible refine at_loadT 24 ?_); refine step_load rfl 24 _ rfl (w.heap.size + 1) 0 rfl (polL lq (.slice qa qn qc)) _ (Blk.all (S8.out.kd.at 1 rfl)) Tryd.underlying24 rfl (SZQ.out _) ?_)
              | ((with_reducible refine at_store ?_); refine step_store rfl 24 _ _ rfl (UB) 0 24 (polL lp (.slice pa pn pc)) (polL lq (.slice qa qn qc)) rfl rfl (S8.out.kd.at 5 rfl) (FPQ.out _ _) (SZQ.out _) polL_oneC ?_; intro w9 nb gb))
              have S9 : Hid (CE w [(w.heap.size, 24, polL lp (.slice pa pn pc)), (w.heap.size + 1, 24, polL lq (.slice qa qn qc)), (XB, 29, prL cx cx), (YB, 29, prL cy cy), (OB, 39, opL o), (UB, 24, polL lq (.slice qa qn qc))] SB (2 * k) w9) := S8.out.set 5 rfl ⟨tyP.1.symm, tyP.2.1.symm, tyP.2.2.symm⟩ (blk_whole2 (FQP.out _ _) nb) gb
              clear nb gb S8 o4
              have NZ : Hid (Blk w9.heap.size 29 (prL ⟨0, false, 0, 0, 0, 0, 0, 0, 0, 0, 0, 0, 0, 0, 0⟩ ⟨0, false, 0, 0, 0, 0, 0, 0, 0, 0, 0, 0, 0, 0, 0⟩) (w9.alloc (.cells #[.int .i64 0, .bool false, .int .i64 0, .int .i64 0, .int .i64 0, .int .i64 0, .int .i64 0, .int .i64 0, .int .i64 0, .int .i64 0, .int .i64 0, .int .i64 0, .int .i64 0, .int .i64 0, .int .i64 0, .int .i64 0, .bool false, .int .i64 0, .int .i64 0, .int .i64 0, .int .i64 0, .int .i64 0, .int .i64 0, .int .i64 0, .int .i64 0, .int .i64 0, .int .i64 0, .int .i64 0, .int .i64 0, .int .i64 0] 29))) := Blk.new _ _ _
              go_upto_region 12 with (first
              | ((with_reducible refine at_loadT 29 ?_); refine step_load rfl 29 _ rfl (XB) 0 rfl (prL cx cx) _ (Blk.all (S9.out.kd.at 2 rfl)) Tryd.underlying29 rfl (sizePr _ _) ?_)
              | ((with_reducible refine at_store ?_); refine step_store rfl 29 _ _ rfl w9.heap.size 0 29 (prL ⟨0, false, 0, 0, 0, 0, 0, 0, 0, 0, 0, 0, 0, 0, 0⟩ ⟨0, false, 0, 0, 0, 0, 0, 0, 0, 0, 0, 0, 0, 0, 0⟩) (prL cx cx) rfl rfl NZ.out (Nat.le_refl 30) (sizePr _ _) (prL_one _ _) ?_; intro w11 nb gb))
              have S11 : Hid (CE w [(w.heap.size, 24, polL lp (.slice pa pn pc)), (w.heap.size + 1, 24, polL lq (.slice qa qn qc)), (XB, 29, prL cx cx), (YB, 29, prL cy cy), (OB, 39, opL o), (UB, 24, polL lq (.slice qa qn qc)), (w9.heap.size, 29, prL cx cx)] SB (2 * k) w11) := S9.out.add nb gb
              clear nb gb NZ S9
              obtain ⟨ZB, hZB⟩ : ∃ B, w9.heap.size = B := ⟨_, rfl⟩
              rw [hZB] at S11
              rw [hZB]
              clear hZB
              have o5 : w11.cell? ⟨OB, 5, none⟩ = some (.bool false) := by rw [← HOT.out]; exact S11.out.kd.cell 4 5 rfl _ rfl
              go_upto_region 15 with fail
              have S13 : Hid (CE w [(w.heap.size, 24, polL lp (.slice pa pn pc)), (w.heap.size + 1, 24, polL lq (.slice qa qn qc)), (XB, 29, prL cx cx), (YB, 29, prL cy cy), (OB, 39, opL o), (UB, 24, polL lq (.slice qa qn qc)), (ZB, 29, prL cx cx)] SB (2 * k) w11) := S11.out
              clear S11 o5
              have o6 : w11.cell? ⟨OB, 6, none⟩ = some (.bool false) := by rw [← HQU.out]; exact S13.out.kd.cell 4 6 rfl _ rfl
              have o7 : w11.cell? ⟨OB, 7, none⟩ = some (.bool false) := by rw [← HWH.out]; exact S13.out.kd.cell 4 7 rfl _ rfl
              have KD9 : Hid (KI (stepA lq hq cx o.ev).2.1) := step_ki _ KX.out
              obtain ⟨vL, vG, vs, us, sh, hn⟩ := S13.out.sh
              have CC : Hid (∀ w', Below w.heap.size w w' → SH w.heap.size SB w' vL vG vs us → Calls Tryd.prog 11 #[PV lq (.slice qa qn qc), prV cx cx, evV o.ev, .pointer (some ⟨SB, 0, none⟩)] w' (StdAns w SB vs.length (stepA lq hq cx o.ev).2.1 w')) := fun w' h1 h2 => SPQ.out cx o.ev w' SB vL vG vs us KX.out h1 h2 (by have := HNb.out; omega)
              generalize (stepA lq hq cx o.ev).2.1 = d at *
              go_wp2_with (first
              | ((with_reducible refine at_loadT 24 ?_); refine step_load rfl 24 _ rfl (UB) 0 rfl (polL lq (.slice qa qn qc)) _ (Blk.all (S13.out.kd.at 5 rfl)) Tryd.underlying24 rfl (SZQ.out _) ?_)
              | ((with_reducible refine at_loadT 29 ?_); refine step_load rfl 29 _ rfl (ZB) 0 rfl (prL cx cx) _ (Blk.all (S13.out.kd.at 6 rfl)) Tryd.underlying29 rfl (sizePr _ _) ?_)
              | ((with_reducible refine at_loadT 37 ?_); refine step_load rfl 37 _ rfl OB 0 rfl (evL o.ev) _ (op_ev (S13.out.kd.at 4 rfl)) Tryd.underlying37 rfl (sizeEvL _) ?_)
              | ((with_reducible refine at_loadT 37 ?_); refine step_load rfl 37 _ rfl OB 9 rfl (evL o.nx) _ (op_nx (S13.out.kd.at 4 rfl)) Tryd.underlying37 rfl (sizeEvL _) ?_))
              refine (CC.out _ S13.out.kd.bb sh).mono ?_
              rintro e w14 hstd
              have he := hstd.1
              subst he
              have S14 : Hid (CE w [(w.heap.size, 24, polL lp (.slice pa pn pc)), (w.heap.size + 1, 24, polL lq (.slice qa qn qc)), (XB, 29, prL cx cx), (YB, 29, prL cy cy), (OB, 39, opL o), (UB, 24, polL lq (.slice qa qn qc)), (ZB, 29, prL cx cx)] SB (2 * (k + 1)) w14) := S13.out.std (fun k q hq => by rcases k with _ | k; (· cases hq; first | exact ⟨tyP.1, tyP.2.1, tyP.2.2⟩ | exact ⟨tyR.1, tyR.2.1, tyR.2.2⟩ | exact ⟨tyO.1, tyO.2.1, tyO.2.2⟩); rcases k with _ | k; (· cases hq; first | exact ⟨tyP.1, tyP.2.1, tyP.2.2⟩ | exact ⟨tyR.1, tyR.2.1, tyR.2.2⟩ | exact ⟨tyO.1, tyO.2.1, tyO.2.2⟩); rcases k with _ | k; (· cases hq; first | exact ⟨tyP.1, tyP.2.1, tyP.2.2⟩ | exact ⟨tyR.1, tyR.2.1, tyR.2.2⟩ | exact ⟨tyO.1, tyO.2.1, tyO.2.2⟩); rcases k with _ | k; (· cases hq; first | exact ⟨tyP.1, tyP.2.1, tyP.2.2⟩ | exact ⟨tyR.1, tyR.2.1, tyR.2.2⟩ | exact ⟨tyO.1, tyO.2.1, tyO.2.2⟩); rcases k with _ | k; (· cases hq; first | exact ⟨tyP.1, tyP.2.1, tyP.2.2⟩ | exact ⟨tyR.1, tyR.2.1, tyR.2.2⟩ | exact ⟨tyO.1, tyO.2.1, tyO.2.2⟩); rcases k with _ | k; (· cases hq; first | exact ⟨tyP.1, tyP.2.1, tyP.2.2⟩ | exact ⟨tyR.1, tyR.2.1, tyR.2.2⟩ | exact ⟨tyO.1, tyO.2.1, tyO.2.2⟩); rcases k with _ | k; (· cases hq; first | exact ⟨tyP.1, tyP.2.1, tyP.2.2⟩ | exact ⟨tyR.1, tyR.2.1, tyR.2.2⟩ | exact ⟨tyO.1, tyO.2.1, tyO.2.2⟩); cases hq) hstd (by omega)
              clear hstd sh hn S13 o6 o7 CC
              go_upto_region 19 with ((with_reducible refine at_store ?_); refine step_store rfl 29 _ _ rfl (ZB) 0 29 (prL cx cx) (prL d d) rfl rfl (S14.out.kd.at 6 rfl) (Nat.le_refl 30) (sizePr _ _) (prL_one _ _) ?_; intro w15 nb gb)
              have S15 : Hid (CE w [(w.heap.size, 24, polL lp (.slice pa pn pc)), (w.heap.size + 1, 24, polL lq (.slice qa qn qc)), (XB, 29, prL cx cx), (YB, 29, prL cy cy), (OB, 39, opL o), (UB, 24, polL lq (.slice qa qn qc)), (ZB, 29, prL d d)] SB (2 * (k + 1)) w15) := S14.out.set 6 rfl ⟨tyR.1.symm, tyR.2.1.symm, tyR.2.2.symm⟩ nb gb
              clear nb gb S14
              have o5 : w15.cell? ⟨OB, 5, none⟩ = some (.bool false) := by rw [← HOT.out]; exact S15.out.kd.cell 4 5 rfl _ rfl
              have hNb := HNb.out
              go_wp2_with (first
              | ((with_reducible refine at_loadT 29 ?_); refine step_load rfl 29 _ rfl (ZB) 0 rfl (prL d d) _ (Blk.all (S15.out.kd.at 6 rfl)) Tryd.underlying29 rfl (sizePr _ _) ?_)
              | ((with_reducible refine at_store ?_); refine step_store rfl 29 _ _ rfl (XB) 0 29 (prL cx cx) (prL d d) rfl rfl (S15.out.kd.at 2 rfl) (Nat.le_refl 30) (sizePr _ _) (prL_one _ _) ?_; intro w20 nb gb))
              have S20 : Hid (CE w [(w.heap.size, 24, polL lp (.slice pa pn pc)), (w.heap.size + 1, 24, polL lq (.slice qa qn qc)), (XB, 29, prL d d), (YB, 29, prL cy cy)] SB (2 * (k + 1)) w20) := (S15.out.set 2 rfl ⟨tyR.1.symm, tyR.2.1.symm, tyR.2.2.symm⟩ nb gb).four
              clear nb gb S15 o5
              go_roundw
              case rel => exact ⟨k + 1, d, cy, by go_num, rfl, by omega, KD9, KY, S20⟩
              case measure => simp [intOf]; omega
            · have HWH : Hid (o.wh = true) := hwh
              clear hwh
              have NZ : Hid (Blk wr.heap.size 39 (opL ⟨⟨0, 0, 0, 0⟩, false, false, false, false, 0, ⟨0, 0, 0, 0⟩⟩) (wr.alloc (.cells #[.int .i64 0, .int .i64 0, .int .i64 0, .int .i64 0, .bool false, .bool false, .bool false, .bool false, .int .i64 0, .int .i64 0, .int .i64 0, .int .i64 0, .int .i64 0] 39))) := Blk.new _ _ _
              go_upto_region 8 with (first
              | ((with_reducible refine at_loadT 39 ?_); refine step_load rfl 39 _ rfl g (off + k * 13) rfl (opL o) _ RG.out Tryd.underlying39 rfl (sizeOp _) ?_)
              | ((with_reducible refine at_store ?_); refine step_store rfl 39 _ _ rfl wr.heap.size 0 39 (opL ⟨⟨0, 0, 0, 0⟩, false, false, false, false, 0, ⟨0, 0, 0, 0⟩⟩) (opL o) rfl rfl NZ.out (Nat.le_refl 13) (sizeOp _) (opL_one _) ?_; intro w7 nb gb))
              have S7 : Hid (CE w [(w.heap.size, 24, polL lp (.slice pa pn pc)), (w.heap.size + 1, 24, polL lq (.slice qa qn qc)), (XB, 29, prL cx cx), (YB, 29, prL cy cy), (wr.heap.size, 39, opL o)] SB (2 * k) w7) := SR.out.add nb gb
              clear nb gb NZ SR
              obtain ⟨OB, hOB⟩ : ∃ B, wr.heap.size = B := ⟨_, rfl⟩
              rw [hOB] at S7
              rw [hOB]
              clear hOB
              have o4 : w7.cell? ⟨OB, 4, none⟩ = some (.bool true) := by rw [← HSE.out]; exact S7.out.kd.cell 4 4 rfl _ rfl
              have NZ : Hid (Blk w7.heap.size 24 (polZc) (w7.alloc (.cells #[.int .i64 0, .int .i64 0, .int .i64 0, .int .i64 0, .int .i64 0, .int .i64 0, .int .i64 0, .int .i64 0, .int .i64 0, .int .i64 0, .int .i64 0, .int .i64 0, .int .i64 0, .int .i64 0, .int .i64 0, .int .i64 0, .int .i64 0, .slice none 0 0] 24))) := Blk.new _ _ _
              go_upto_region 9 with (first
              | ((with_reducible refine at_loadT 24 ?_); refine step_load rfl 24 _ rfl (w.heap.size) 0 rfl (polL lp (.slice pa pn pc)) _ (Blk.all (S7.out.kd.at 0 rfl)) Tryd.underlying24 rfl (SZP.out _) ?_)
              | ((with_reducible refine at_store ?_); refine step_store rfl 24 _ _ rfl w7.heap.size 0 24 (polZc) (polL lp (.slice pa pn pc)) rfl rfl NZ.out (FTP.out _) (SZP.out _) polL_oneC ?_; intro w8 nb gb))
              have S8 : Hid (CE w [(w.heap.size, 24, polL lp (.slice pa pn pc)), (w.heap.size + 1, 24, polL lq (.slice qa qn qc)), (XB, 29, prL cx cx), (YB, 29, prL cy cy), (OB, 39, opL o), (w7.heap.size, 24, polL lp (.slice pa pn pc))] SB (2 * k) w8) := S7.out.add (blk_whole2 (FZP.out _) nb) gb
              clear nb gb NZ S7
              obtain ⟨UB, hUB⟩ : ∃ B, w7.heap.size = B := ⟨_, rfl⟩
              rw [hUB] at S8
              rw [hUB]
              clear hUB
              clear o4
              have o4 : w8.cell? ⟨OB, 4, none⟩ = some (.bool true) := by rw [← HSE.out]; exact S8.out.kd.cell 4 4 rfl _ rfl
              go_upto_region 11 with (first
              | ((with_reducible refine at_loadT 24 ?_); refine step_load rfl 24 _ rfl (w.heap.size + 1) 0 rfl (polL lq (.slice qa qn qc)) _ (Blk.all (S8.out.kd.at 1 rfl)) Tryd.underlying24 rfl (SZQ.out _) ?_)
              | ((with_reducible refine at_store ?_); refine step_store rfl 24 _ _ rfl (UB) 0 24 (polL lp (.slice pa pn pc)) (polL lq (.slice qa qn qc)) rfl rfl (S8.out.kd.at 5 rfl) (FPQ.out _ _) (SZQ.out _) polL_oneC ?_; intro w9 nb gb))
              have S9 : Hid (CE w [(w.heap.size, 24, polL lp (.slice pa pn pc)), (w.heap.size + 1, 24, polL lq (.slice qa qn qc)), (XB, 29, prL cx cx), (YB, 29, prL cy cy), (OB, 39, opL o), (UB, 24, polL lq (.slice qa qn qc))] SB (2 * k) w9) := S8.out.set 5 rfl ⟨tyP.1.symm, tyP.2.1.symm, tyP.2.2.symm⟩ (blk_whole2 (FQP.out _ _) nb) gb
              clear nb gb S8 o4
              have NZ : Hid (Blk w9.heap.size 29 (prL ⟨0, false, 0, 0, 0, 0, 0, 0, 0, 0, 0, 0, 0, 0, 0⟩ ⟨0, false, 0, 0, 0, 0, 0, 0, 0, 0, 0, 0, 0, 0, 0⟩) (w9.alloc (.cells #[.int .i64 0, .bool false, .int .i64 0, .int .i64 0, .int .i64 0, .int .i64 0, .int .i64 0, .int .i64 0, .int .i64 0, .int .i64 0, .int .i64 0, .int .i64 0, .int .i64 0, .int .i64 0, .int .i64 0, .int .i64 0, .bool false, .int .i64 0, .int .i64 0, .int .i64 0, .int .i64 0, .int .i64 0, .int .i64 0, .int .i64 0, .int .i64 0, .int .i64 0, .int .i64 0, .int .i64 0, .int .i64 0, .int .i64 0] 29))) := Blk.new _ _ _
              go_upto_region 12 with (first
              | ((with_reducible refine at_loadT 29 ?_); refine step_load rfl 29 _ rfl (XB) 0 rfl (prL cx cx) _ (Blk.all (S9.out.kd.at 2 rfl)) Tryd.underlying29 rfl (sizePr _ _) ?_)
              | ((with_reducible refine at_store ?_); refine step_store rfl 29 _ _ rfl w9.heap.size 0 29 (prL ⟨0, false, 0, 0, 0, 0, 0, 0, 0, 0, 0, 0, 0, 0, 0⟩ ⟨0, false, 0, 0, 0, 0, 0, 0, 0, 0, 0, 0, 0, 0, 0⟩) (prL cx cx) rfl rfl NZ.out (Nat.le_refl 30) (sizePr _ _) (prL_one _ _) ?_; intro w11 nb gb))
              have S11 : Hid (CE w [(w.heap.size, 24, polL lp (.slice pa pn pc)), (w.heap.size + 1, 24, polL lq (.slice qa qn qc)), (XB, 29, prL cx cx), (YB, 29, prL cy cy), (OB, 39, opL o), (UB, 24, polL lq (.slice qa qn qc)), (w9.heap.size, 29, prL cx cx)] SB (2 * k) w11) := S9.out.add nb gb
              clear nb gb NZ S9
              obtain ⟨ZB, hZB⟩ : ∃ B, w9.heap.size = B := ⟨_, rfl⟩
              rw [hZB] at S11
              rw [hZB]
              clear hZB
              have o5 : w11.cell? ⟨OB, 5, none⟩ = some (.bool false) := by rw [← HOT.out]; exact S11.out.kd.cell 4 5 rfl _ rfl
              go_upto_region 15 with fail
              have S13 : Hid (CE w [(w.heap.size, 24, polL lp (.slice pa pn pc)), (w.heap.size + 1, 24, polL lq (.slice qa qn qc)), (XB, 29, prL cx cx), (YB, 29, prL cy cy), (OB, 39, opL o), (UB, 24, polL lq (.slice qa qn qc)), (ZB, 29, prL cx cx)] SB (2 * k) w11) := S11.out
              clear S11 o5
              have o6 : w11.cell? ⟨OB, 6, none⟩ = some (.bool false) := by rw [← HQU.out]; exact S13.out.kd.cell 4 6 rfl _ rfl
              have o7 : w11.cell? ⟨OB, 7, none⟩ = some (.bool true) := by rw [← HWH.out]; exact S13.out.kd.cell 4 7 rfl _ rfl
              have KD9 : Hid (KI (rk lq hq cx [o.ev, o.nx] 2).1) := rk_ki KX.out 2
              obtain ⟨vL, vG, vs, us, sh, hn⟩ := S13.out.sh
              have CC : Hid (∀ w', Below w.heap.size w w' → SH w.heap.size SB w' vL vG vs us → Calls Tryd.prog 10 #[PV lq (.slice qa qn qc), prV cx cx, evV o.ev, evV o.nx, .pointer (some ⟨SB, 0, none⟩)] w' (StdAns w SB vs.length (rk lq hq cx [o.ev, o.nx] 2).1 w')) := fun w' h1 h2 => RNQ.out cx o.ev o.nx w' SB vL vG vs us KX.out h1 h2 (by have := HNb.out; omega)
              generalize (rk lq hq cx [o.ev, o.nx] 2).1 = d at *
              go_wp2_with (first
              | ((with_reducible refine at_loadT 24 ?_); refine step_load rfl 24 _ rfl (UB) 0 rfl (polL lq (.slice qa qn qc)) _ (Blk.all (S13.out.kd.at 5 rfl)) Tryd.underlying24 rfl (SZQ.out _) ?_)
              | ((with_reducible refine at_loadT 29 ?_); refine step_load rfl 29 _ rfl (ZB) 0 rfl (prL cx cx) _ (Blk.all (S13.out.kd.at 6 rfl)) Tryd.underlying29 rfl (sizePr _ _) ?_)
              | ((with_reducible refine at_loadT 37 ?_); refine step_load rfl 37 _ rfl OB 0 rfl (evL o.ev) _ (op_ev (S13.out.kd.at 4 rfl)) Tryd.underlying37 rfl (sizeEvL _) ?_)
              | ((with_reducible refine at_loadT 37 ?_); refine step_load rfl 37 _ rfl OB 9 rfl (evL o.nx) _ (op_nx (S13.out.kd.at 4 rfl)) Tryd.underlying37 rfl (sizeEvL _) ?_))
              refine (CC.out _ S13.out.kd.bb sh).mono ?_
              rintro e w14 hstd
              have he := hstd.1
              subst he
              have S14 : Hid (CE w [(w.heap.size, 24, polL lp (.slice pa pn pc)), (w.heap.size + 1, 24, polL lq (.slice qa qn qc)), (XB, 29, prL cx cx), (YB, 29, prL cy cy), (OB, 39, opL o), (UB, 24, polL lq (.slice qa qn qc)), (ZB, 29, prL cx cx)] SB (2 * (k + 1)) w14) := S13.out.std (fun k q hq => by rcases k with _ | k; (· cases hq; first | exact ⟨tyP.1, tyP.2.1, tyP.2.2⟩ | exact ⟨tyR.1, tyR.2.1, tyR.2.2⟩ | exact ⟨tyO.1, tyO.2.1, tyO.2.2⟩); rcases k with _ | k; (· cases hq; first | exact ⟨tyP.1, tyP.2.1, tyP.2.2⟩ | exact ⟨tyR.1, tyR.2.1, tyR.2.2⟩ | exact ⟨tyO.1, tyO.2.1, tyO.2.2⟩); rcases k with _ | k; (· cases hq; first | exact ⟨tyP.1, tyP.2.1, tyP.2.2⟩ | exact ⟨tyR.1, tyR.2.1, tyR.2.2⟩ | exact ⟨tyO.1, tyO.2.1, tyO.2.2⟩); rcases k with _ | k; (· cases hq; first | exact ⟨tyP.1, tyP.2.1, tyP.2.2⟩ | exact ⟨tyR.1, tyR.2.1, tyR.2.2⟩ | exact ⟨tyO.1, tyO.2.1, tyO.2.2⟩); rcases k with _ | k; (· cases hq; first | exact ⟨tyP.1, tyP.2.1, tyP.2.2⟩ | exact ⟨tyR.1, tyR.2.1, tyR.2.2⟩ | exact ⟨tyO.1, tyO.2.1, tyO.2.2⟩); rcases k with _ | k; (· cases hq; first | exact ⟨tyP.1, tyP.2.1, tyP.2.2⟩ | exact ⟨tyR.1, tyR.2.1, tyR.2.2⟩ | exact ⟨tyO.1, tyO.2.1, tyO.2.2⟩); rcases k with _ | k; (· cases hq; first | exact ⟨tyP.1, tyP.2.1, tyP.2.2⟩ | exact ⟨tyR.1, tyR.2.1, tyR.2.2⟩ | exact ⟨tyO.1, tyO.2.1, tyO.2.2⟩); cases hq) hstd (by omega)
              clear hstd sh hn S13 o6 o7 CC
              go_upto_region 19 with ((with_reducible refine at_store ?_); refine step_store rfl 29 _ _ rfl (ZB) 0 29 (prL cx cx) (prL d d) rfl rfl (S14.out.kd.at 6 rfl) (Nat.le_refl 30) (sizePr _ _) (prL_one _ _) ?_; intro w15 nb gb)
              have S15 : Hid (CE w [(w.heap.size, 24, polL lp (.slice pa pn pc)), (w.heap.size + 1, 24, polL lq (.slice qa qn qc)), (XB, 29, prL cx cx), (YB, 29, prL cy cy), (OB, 39, opL o), (UB, 24, polL lq (.slice qa qn qc)), (ZB, 29, prL d d)] SB (2 * (k + 1)) w15) := S14.out.set 6 rfl ⟨tyR.1.symm, tyR.2.1.symm, tyR.2.2.symm⟩ nb gb
              clear nb gb S14
              have o5 : w15.cell? ⟨OB, 5, none⟩ = some (.bool false) := by rw [← HOT.out]; exact S15.out.kd.cell 4 5 rfl _ rfl
              have hNb := HNb.out
              go_wp2_with (first
              | ((with_reducible refine at_loadT 29 ?_); refine step_load rfl 29 _ rfl (ZB) 0 rfl (prL d d) _ (Blk.all (S15.out.kd.at 6 rfl)) Tryd.underlying29 rfl (sizePr _ _) ?_)
              | ((with_reducible refine at_store ?_); refine step_store rfl 29 _ _ rfl (XB) 0 29 (prL cx cx) (prL d d) rfl rfl (S15.out.kd.at 2 rfl) (Nat.le_refl 30) (sizePr _ _) (prL_one _ _) ?_; intro w20 nb gb))
              have S20 : Hid (CE w [(w.heap.size, 24, polL lp (.slice pa pn pc)), (w.heap.size + 1, 24, polL lq (.slice qa qn qc)), (XB, 29, prL d d), (YB, 29, prL cy cy)] SB (2 * (k + 1)) w20) := (S15.out.set 2 rfl ⟨tyR.1.symm, tyR.2.1.symm, tyR.2.2.symm⟩ nb gb).four
              clear nb gb S15 o5
              go_roundw
              case rel => exact ⟨k + 1, d, cy, by go_num, rfl, by omega, KD9, KY, S20⟩
              case measure => simp [intOf]; omega
          · have HQU : Hid (o.qu = true) := hqu
            clear hqu
            have NZ : Hid (Blk wr.heap.size 39 (opL ⟨⟨0, 0, 0, 0⟩, false, false, false, false, 0, ⟨0, 0, 0, 0⟩⟩) (wr.alloc (.cells #[.int .i64 0, .int .i64 0, .int .i64 0, .int .i64 0, .bool false, .bool false, .bool false, .bool false, .int .i64 0, .int .i64 0, .int .i64 0, .int .i64 0, .int .i64 0] 39))) := Blk.new _ _ _
            go_upto_region 8 with (first
            | ((with_reducible refine at_loadT 39 ?_); refine step_load rfl 39 _ rfl g (off + k * 13) rfl (opL o) _ RG.out Tryd.underlying39 rfl (sizeOp _) ?_)
            | ((with_reducible refine at_store ?_); refine step_store rfl 39 _ _ rfl wr.heap.size 0 39 (opL ⟨⟨0, 0, 0, 0⟩, false, false, false, false, 0, ⟨0, 0, 0, 0⟩⟩) (opL o) rfl rfl NZ.out (Nat.le_refl 13) (sizeOp _) (opL_one _) ?_; intro w7 nb gb))
            have S7 : Hid (CE w [(w.heap.size, 24, polL lp (.slice pa pn pc)), (w.heap.size + 1, 24, polL lq (.slice qa qn qc)), (XB, 29, prL cx cx), (YB, 29, prL cy cy), (wr.heap.size, 39, opL o)] SB (2 * k) w7) := SR.out.add nb gb
            clear nb gb NZ SR
            obtain ⟨OB, hOB⟩ : ∃ B, wr.heap.size = B := ⟨_, rfl⟩
            rw [hOB] at S7
            rw [hOB]
            clear hOB
            have o4 : w7.cell? ⟨OB, 4, none⟩ = some (.bool true) := by rw [← HSE.out]; exact S7.out.kd.cell 4 4 rfl _ rfl
            have NZ : Hid (Blk w7.heap.size 24 (polZc) (w7.alloc (.cells #[.int .i64 0, .int .i64 0, .int .i64 0, .int .i64 0, .int .i64 0, .int .i64 0, .int .i64 0, .int .i64 0, .int .i64 0, .int .i64 0, .int .i64 0, .int .i64 0, .int .i64 0, .int .i64 0, .int .i64 0, .int .i64 0, .int .i64 0, .slice none 0 0] 24))) := Blk.new _ _ _
            go_upto_region 9 with (first
            | ((with_reducible refine at_loadT 24 ?_); refine step_load rfl 24 _ rfl (w.heap.size) 0 rfl (polL lp (.slice pa pn pc)) _ (Blk.all (S7.out.kd.at 0 rfl)) Tryd.underlying24 rfl (SZP.out _) ?_)
            | ((with_reducible refine at_store ?_); refine step_store rfl 24 _ _ rfl w7.heap.size 0 24 (polZc) (polL lp (.slice pa pn pc)) rfl rfl NZ.out (FTP.out _) (SZP.out _) polL_oneC ?_; intro w8 nb gb))
            have S8 : Hid (CE w [(w.heap.size, 24, polL lp (.slice pa pn pc)), (w.heap.size + 1, 24, polL lq (.slice qa qn qc)), (XB, 29, prL cx cx), (YB, 29, prL cy cy), (OB, 39, opL o), (w7.heap.size, 24, polL lp (.slice pa pn pc))] SB (2 * k) w8) := S7.out.add (blk_whole2 (FZP.out _) nb) gb
            clear nb gb NZ S7
            obtain ⟨UB, hUB⟩ : ∃ B, w7.heap.size = B := ⟨_, rfl⟩
            rw [hUB] at S8
            rw [hUB]
            clear hUB
            clear o4
            have o4 : w8.cell? ⟨OB, 4, none⟩ = some (.bool true) := by rw [← HSE.out]; exact S8.out.kd.cell 4 4 rfl _ rfl
            go_upto_region 11 with (first
            | ((with_reducible refine at_loadT 24 ?_); refine step_load rfl 24 _ rfl (w.heap.size + 1) 0 rfl (polL lq (.slice qa qn qc)) _ (Blk.all (S8.out.kd.at 1 rfl)) Tryd.underlying24 rfl (SZQ.out _) ?_)
            | ((with_reducible refine at_store ?_); refine step_store rfl 24 _ _ rfl (UB) 0 24 (polL lp (.slice pa pn pc)) (polL lq (.slice qa qn qc)) rfl rfl (S8.out.kd.at 5 rfl) (FPQ.out _ _) (SZQ.out _) polL_oneC ?_; intro w9 nb gb))
            have S9 : Hid (CE w [(w.heap.size, 24, polL lp (.slice pa pn pc)), (w.heap.size + 1, 24, polL lq (.slice qa qn qc)), (XB, 29, prL cx cx), (YB, 29, prL cy cy), (OB, 39, opL o), (UB, 24, polL lq (.slice qa qn qc))] SB (2 * k) w9) := S8.out.set 5 rfl ⟨tyP.1.symm, tyP.2.1.symm, tyP.2.2.symm⟩ (blk_whole2 (FQP.out _ _) nb) gb
            clear nb gb S8 o4
            have NZ : Hid (Blk w9.heap.size 29 (prL ⟨0, false, 0, 0, 0, 0, 0, 0, 0, 0, 0, 0, 0, 0, 0⟩ ⟨0, false, 0, 0, 0, 0, 0, 0, 0, 0, 0, 0, 0, 0, 0⟩) (w9.alloc (.cells #[.int .i64 0, .bool false, .int .i64 0, .int .i64 0, .int .i64 0, .int .i64 0, .int .i64 0, .int .i64 0, .int .i64 0, .int .i64 0, .int .i64 0, .int .i64 0, .int .i64 0, .int .i64 0, .int .i64 0, .int .i64 0, .bool false, .int .i64 0, .int .i64 0, .int .i64 0, .int .i64 0, .int .i64 0, .int .i64 0, .int .i64 0, .int .i64 0, .int .i64 0, .int .i64 0, .int .i64 0, .int .i64 0, .int .i64 0] 29))) := Blk.new _ _ _
            go_upto_region 12 with (first
            | ((with_reducible refine at_loadT 29 ?_); refine step_load rfl 29 _ rfl (XB) 0 rfl (prL cx cx) _ (Blk.all (S9.out.kd.at 2 rfl)) Tryd.underlying29 rfl (sizePr _ _) ?_)
            | ((with_reducible refine at_store ?_); refine step_store rfl 29 _ _ rfl w9.heap.size 0 29 (prL ⟨0, false, 0, 0, 0, 0, 0, 0, 0, 0, 0, 0, 0, 0, 0⟩ ⟨0, false, 0, 0, 0, 0, 0, 0, 0, 0, 0, 0, 0, 0, 0⟩) (prL cx cx) rfl rfl NZ.out (Nat.le_refl 30) (sizePr _ _) (prL_one _ _) ?_; intro w11 nb gb))
            have S11 : Hid (CE w [(w.heap.size, 24, polL lp (.slice pa pn pc)), (w.heap.size + 1, 24, polL lq (.slice qa qn qc)), (XB, 29, prL cx cx), (YB, 29, prL cy cy), (OB, 39, opL o), (UB, 24, polL lq (.slice qa qn qc)), (w9.heap.size, 29, prL cx cx)] SB (2 * k) w11) := S9.out.add nb gb
            clear nb gb NZ S9
            obtain ⟨ZB, hZB⟩ : ∃ B, w9.heap.size = B := ⟨_, rfl⟩
            rw [hZB] at S11
            rw [hZB]
            clear hZB
            have o5 : w11.cell? ⟨OB, 5, none⟩ = some (.bool false) := by rw [← HOT.out]; exact S11.out.kd.cell 4 5 rfl _ rfl
            go_upto_region 15 with fail
            have S13 : Hid (CE w [(w.heap.size, 24, polL lp (.slice pa pn pc)), (w.heap.size + 1, 24, polL lq (.slice qa qn qc)), (XB, 29, prL cx cx), (YB, 29, prL cy cy), (OB, 39, opL o), (UB, 24, polL lq (.slice qa qn qc)), (ZB, 29, prL cx cx)] SB (2 * k) w11) := S11.out
            clear S11 o5
            have o6 : w11.cell? ⟨OB, 6, none⟩ = some (.bool true) := by rw [← HQU.out]; exact S13.out.kd.cell 4 6 rfl _ rfl
            go_upto_region 16 with fail
            clear o6
            have hu2 := Tryd.underlying27
            have hi2 := sizeCsL cx
            refine wp_region_held_drew (S := fun w' => CE w [(w.heap.size, 24, polL lp (.slice pa pn pc)), (w.heap.size + 1, 24, polL lq (.slice qa qn qc)), (XB, 29, prL cx cx), (YB, 29, prL cy cy), (OB, 39, opL o), (UB, 24, polL lq (.slice qa qn qc)), (ZB, 29, prL cx cx)] SB (2 * k) w') (by kernel_rfl) (S13.out.drew) (fun hH => ?_)
            refine wpAnyH_take (i := 0) (oi := { dst := some 55, op := Op.fieldAddr 29 (Operand.tmp 14) 0, type := 0, pos := "law.go:168", after := #[], guard := none }) (v := .pointer (some ⟨ZB, 0, none⟩)) rfl (by kernel_rfl) (by kernel_rfl) (by kernel_rfl) (fun _ _ _ h => h) (Or.inl ⟨by rfl, fun w' h => by go_simp⟩) hH ?_
            try simp only [Act.put, List.setIfInBounds_toArray, List.set_cons_zero, List.set_cons_succ]
            refine wpAnyH_take (i := 1) (oi := { dst := some 56, op := Op.load 27 (Operand.tmp 55), type := 27, pos := "law.go:168", after := #[{ on := 0, ground := Ground.data }], guard := none }) (v := .agg (csL cx).toArray) rfl (by kernel_rfl) (by kernel_rfl) (by kernel_rfl) (fun _ _ _ h => h) (yieldsIf_load_mid (by rfl) _ _ rfl ZB 0 rfl (csL cx) _ (fun w' h => (pr_c (h.kd.at 6 rfl))) hu2 rfl hi2) hH ?_
            try simp only [Act.put, List.setIfInBounds_toArray, List.set_cons_zero, List.set_cons_succ]
            refine wpAnyH_take (i := 3) (oi := { dst := some 58, op := Op.fieldAddr 29 (Operand.tmp 14) 1, type := 0, pos := "law.go:168", after := #[], guard := none }) (v := .pointer (some ⟨ZB, 15, none⟩)) rfl (by kernel_rfl) (by kernel_rfl) (by kernel_rfl) (fun _ _ _ h => h) (Or.inl ⟨by rfl, fun w' h => by go_simp⟩) hH ?_
            try simp only [Act.put, List.setIfInBounds_toArray, List.set_cons_zero, List.set_cons_succ]
            refine wpAnyH_take (i := 4) (oi := { dst := some 59, op := Op.load 27 (Operand.tmp 58), type := 27, pos := "law.go:168", after := #[{ on := 3, ground := Ground.data }], guard := none }) (v := .agg (csL cx).toArray) rfl (by kernel_rfl) (by kernel_rfl) (by kernel_rfl) (fun _ _ _ h => h) (yieldsIf_load_mid (by rfl) _ _ rfl ZB 15 rfl (csL cx) _ (fun w' h => (pr_r (h.kd.at 6 rfl))) hu2 rfl hi2) hH ?_
            try simp only [Act.put, List.setIfInBounds_toArray, List.set_cons_zero, List.set_cons_succ]
            refine wpAnyH_ready (rs := [2]) (by kernel_rfl) (by simp) ?_
            refine AllReadyH.cons (o := { dst := some 57, op := Op.call { callee := Callee.value (Operand.func 5), args := #[Operand.tmp 56], argTypes := #[27] }, type := 4, pos := "law.go:168", after := #[{ on := 1, ground := Ground.data }], guard := none }) rfl (fun K hK => ?_) AllReadyH.nil
            go_simp
            refine (OP1.out cx _).mono ?_
            rintro e x1 ⟨rfl, bX⟩
            refine hK.out _ _ (hH.later bX) (fun hH => ?_)
            clear bX
            refine wpAnyH_ready (rs := [5]) (by kernel_rfl) (by simp) ?_
            refine AllReadyH.cons (o := { dst := some 60, op := Op.call { callee := Callee.value (Operand.func 6), args := #[Operand.tmp 59], argTypes := #[27] }, type := 4, pos := "law.go:168", after := #[{ on := 4, ground := Ground.data }, { on := 2, ground := Ground.chain }], guard := none }) rfl (fun K hK => ?_) AllReadyH.nil
            go_simp
            refine (OP2.out cx _).mono ?_
            rintro e x2 ⟨rfl, bX⟩
            refine hK.out _ _ (hH.later bX) (fun hH => ?_)
            clear bX
            refine wpAnyH_take (i := 6) (oi := { dst := some 61, op := Op.binOp BinOp.eql 4 (Operand.tmp 57) (Operand.tmp 60) 4, type := 4, pos := "law.go:168", after := #[{ on := 2, ground := Ground.data }, { on := 5, ground := Ground.data }], guard := none }) (v := .bool true) rfl (by kernel_rfl) (by kernel_rfl) (by kernel_rfl) (fun _ _ _ h => h) (Or.inl ⟨by rfl, fun w' h => by go_simp⟩) hH ?_
            try simp only [Act.put, List.setIfInBounds_toArray, List.set_cons_zero, List.set_cons_succ]
            refine wpAnyH_take (i := 7) (oi := { dst := some 62, op := Op.move (Operand.tmp 61), type := 4, pos := "law.go:168", after := #[{ on := 6, ground := Ground.data }, { on := 5, ground := Ground.chain }], guard := none }) (v := .bool true) rfl (by kernel_rfl) (by kernel_rfl) (by kernel_rfl) (fun _ _ _ h => h) (Or.inl ⟨by rfl, fun w' h => by go_simp⟩) hH ?_
            try simp only [Act.put, List.setIfInBounds_toArray, List.set_cons_zero, List.set_cons_succ]
            refine wpAnyH_take (i := 8) (oi := { dst := some 63, op := Op.fieldAddr 39 (Operand.tmp 12) 5, type := 0, pos := "law.go:168", after := #[{ on := 7, ground := Ground.guard }], guard := some (7, true) }) (v := .pointer (some ⟨OB, 8, none⟩)) rfl (by kernel_rfl) (by kernel_rfl) (by kernel_rfl) (fun _ _ _ h => h) (Or.inl ⟨by rfl, fun w' h => by go_simp⟩) hH ?_
            try simp only [Act.put, List.setIfInBounds_toArray, List.set_cons_zero, List.set_cons_succ]
            refine wpAnyH_take (i := 9) (oi := { dst := some 64, op := Op.load 3 (Operand.tmp 63), type := 3, pos := "law.go:168", after := #[{ on := 8, ground := Ground.data }, { on := 7, ground := Ground.guard }], guard := some (7, true) }) (v := .int .i64 o.nm) rfl (by kernel_rfl) (by kernel_rfl) (by kernel_rfl) (fun _ _ _ h => h) (Or.inl ⟨by rfl, fun w' h => by have q1 : w'.cell? ⟨OB, 8, none⟩ = some (.int .i64 o.nm) := h.kd.cell 4 8 rfl _ rfl; go_simp⟩) hH ?_
            try simp only [Act.put, List.setIfInBounds_toArray, List.set_cons_zero, List.set_cons_succ]
            refine wpAnyH_ready (rs := [10]) (by kernel_rfl) (by simp) ?_
            refine AllReadyH.cons (o := { dst := some 65, op := Op.call { callee := Callee.value (Operand.func 7), args := #[Operand.tmp 64], argTypes := #[3] }, type := 4, pos := "law.go:168", after := #[{ on := 9, ground := Ground.data }, { on := 7, ground := Ground.chain }, { on := 7, ground := Ground.guard }], guard := some (7, true) }) rfl (fun K hK => ?_) AllReadyH.nil
            go_simp
            refine (NA.out o.nm _ hH.kd.bb).mono ?_
            rintro e x3 ⟨rfl, hw⟩
            subst hw
            refine hK.out _ _ hH (fun hH => ?_)
            refine wpAnyH_take (i := 11) (oi := { dst := some 66, op := Op.pick (Operand.tmp 62) (Operand.tmp 65) (Operand.const (Value.bool false)), type := 4, pos := "law.go:168", after := #[{ on := 7, ground := Ground.data }, { on := 10, ground := Ground.data }], guard := none }) (v := .bool true) rfl (by kernel_rfl) (by kernel_rfl) (by kernel_rfl) (fun _ _ _ h => h) (Or.inl ⟨by rfl, fun w' h => by go_simp⟩) hH ?_
            try simp only [Act.put, List.setIfInBounds_toArray, List.set_cons_zero, List.set_cons_succ]
            refine wpAnyH_take (i := 12) (oi := { dst := some 67, op := Op.move (Operand.tmp 66), type := 4, pos := "law.go:168", after := #[{ on := 11, ground := Ground.data }, { on := 10, ground := Ground.chain }], guard := none }) (v := .bool true) rfl (by kernel_rfl) (by kernel_rfl) (by kernel_rfl) (fun _ _ _ h => h) (Or.inl ⟨by rfl, fun w' h => by go_simp⟩) hH ?_
            try simp only [Act.put, List.setIfInBounds_toArray, List.set_cons_zero, List.set_cons_succ]
            refine wpAnyH_take (i := 13) (oi := { dst := some 68, op := Op.fieldAddr 29 (Operand.tmp 14) 0, type := 0, pos := "law.go:168", after := #[{ on := 12, ground := Ground.guard }], guard := some (12, true) }) (v := .pointer (some ⟨ZB, 0, none⟩)) rfl (by kernel_rfl) (by kernel_rfl) (by kernel_rfl) (fun _ _ _ h => h) (Or.inl ⟨by rfl, fun w' h => by go_simp⟩) hH ?_
            try simp only [Act.put, List.setIfInBounds_toArray, List.set_cons_zero, List.set_cons_succ]
            refine wpAnyH_take (i := 14) (oi := { dst := some 69, op := Op.fieldAddr 27 (Operand.tmp 68) 0, type := 0, pos := "law.go:168", after := #[{ on := 13, ground := Ground.data }, { on := 12, ground := Ground.guard }], guard := some (12, true) }) (v := .pointer (some ⟨ZB, 0, none⟩)) rfl (by kernel_rfl) (by kernel_rfl) (by kernel_rfl) (fun _ _ _ h => h) (Or.inl ⟨by rfl, fun w' h => by go_simp⟩) hH ?_
            try simp only [Act.put, List.setIfInBounds_toArray, List.set_cons_zero, List.set_cons_succ]
            refine wpAnyH_take (i := 15) (oi := { dst := some 70, op := Op.load 3 (Operand.tmp 69), type := 3, pos := "law.go:168", after := #[{ on := 14, ground := Ground.data }, { on := 12, ground := Ground.guard }], guard := some (12, true) }) (v := .int .i64 cx.st) rfl (by kernel_rfl) (by kernel_rfl) (by kernel_rfl) (fun _ _ _ h => h) (Or.inl ⟨by rfl, fun w' h => by have q1 : w'.cell? ⟨ZB, 0, none⟩ = some (.int .i64 cx.st) := h.kd.cell 6 0 rfl _ rfl; go_simp⟩) hH ?_
            try simp only [Act.put, List.setIfInBounds_toArray, List.set_cons_zero, List.set_cons_succ]
            refine wpAnyH_take (i := 17) (oi := { dst := some 72, op := Op.fieldAddr 29 (Operand.tmp 14) 1, type := 0, pos := "law.go:168", after := #[{ on := 12, ground := Ground.guard }], guard := some (12, true) }) (v := .pointer (some ⟨ZB, 15, none⟩)) rfl (by kernel_rfl) (by kernel_rfl) (by kernel_rfl) (fun _ _ _ h => h) (Or.inl ⟨by rfl, fun w' h => by go_simp⟩) hH ?_
            try simp only [Act.put, List.setIfInBounds_toArray, List.set_cons_zero, List.set_cons_succ]
            refine wpAnyH_take (i := 18) (oi := { dst := some 73, op := Op.fieldAddr 27 (Operand.tmp 72) 0, type := 0, pos := "law.go:168", after := #[{ on := 17, ground := Ground.data }, { on := 12, ground := Ground.guard }], guard := some (12, true) }) (v := .pointer (some ⟨ZB, 15, none⟩)) rfl (by kernel_rfl) (by kernel_rfl) (by kernel_rfl) (fun _ _ _ h => h) (Or.inl ⟨by rfl, fun w' h => by go_simp⟩) hH ?_
            try simp only [Act.put, List.setIfInBounds_toArray, List.set_cons_zero, List.set_cons_succ]
            refine wpAnyH_take (i := 19) (oi := { dst := some 74, op := Op.load 3 (Operand.tmp 73), type := 3, pos := "law.go:168", after := #[{ on := 18, ground := Ground.data }, { on := 12, ground := Ground.guard }], guard := some (12, true) }) (v := .int .i64 cx.st) rfl (by kernel_rfl) (by kernel_rfl) (by kernel_rfl) (fun _ _ _ h => h) (Or.inl ⟨by rfl, fun w' h => by have q1 : w'.cell? ⟨ZB, 15, none⟩ = some (.int .i64 cx.st) := h.kd.cell 6 15 rfl _ rfl; go_simp⟩) hH ?_
            try simp only [Act.put, List.setIfInBounds_toArray, List.set_cons_zero, List.set_cons_succ]
            refine wpAnyH_ready (rs := [16]) (by kernel_rfl) (by simp) ?_
            refine AllReadyH.cons (o := { dst := some 71, op := Op.call { callee := Callee.value (Operand.func 8), args := #[Operand.tmp 70], argTypes := #[3] }, type := 9, pos := "law.go:168", after := #[{ on := 15, ground := Ground.data }, { on := 12, ground := Ground.chain }, { on := 12, ground := Ground.guard }], guard := some (12, true) }) rfl (fun K hK => ?_) AllReadyH.nil
            go_simp
            refine (NM1.out cx.st _ hH.kd.bb).mono ?_
            rintro e x4 ⟨rfl, hw⟩
            subst hw
            refine hK.out _ _ hH (fun hH => ?_)
            refine wpAnyH_ready (rs := [20]) (by kernel_rfl) (by simp) ?_
            refine AllReadyH.cons (o := { dst := some 75, op := Op.call { callee := Callee.value (Operand.func 9), args := #[Operand.tmp 74], argTypes := #[3] }, type := 9, pos := "law.go:168", after := #[{ on := 19, ground := Ground.data }, { on := 16, ground := Ground.chain }, { on := 12, ground := Ground.guard }], guard := some (12, true) }) rfl (fun K hK => ?_) AllReadyH.nil
            go_simp
            refine (NM2.out cx.st _).mono ?_
            rintro e x5 ⟨rfl, hw⟩
            subst hw
            refine hK.out _ _ hH (fun hH => ?_)
            refine wpAnyH_take (i := 21) (oi := { dst := some 76, op := Op.binOp BinOp.eql 9 (Operand.tmp 71) (Operand.tmp 75) 9, type := 4, pos := "law.go:168", after := #[{ on := 16, ground := Ground.data }, { on := 20, ground := Ground.data }, { on := 12, ground := Ground.guard }], guard := some (12, true) }) (v := .bool true) rfl (by kernel_rfl) (by kernel_rfl) (by kernel_rfl) (fun _ _ _ h => h) (Or.inl ⟨by rfl, fun w' h => by go_simp⟩) hH ?_
            try simp only [Act.put, List.setIfInBounds_toArray, List.set_cons_zero, List.set_cons_succ]
            refine wpAnyH_take (i := 22) (oi := { dst := some 77, op := Op.pick (Operand.tmp 67) (Operand.tmp 76) (Operand.const (Value.bool false)), type := 4, pos := "law.go:168", after := #[{ on := 12, ground := Ground.data }, { on := 21, ground := Ground.data }], guard := none }) (v := .bool true) rfl (by kernel_rfl) (by kernel_rfl) (by kernel_rfl) (fun _ _ _ h => h) (Or.inl ⟨by rfl, fun w' h => by go_simp⟩) hH ?_
            try simp only [Act.put, List.setIfInBounds_toArray, List.set_cons_zero, List.set_cons_succ]
            refine wpAnyH_take (i := 23) (oi := { dst := some 8, op := Op.assign (Operand.tmp 77), type := 4, pos := "law.go:168", after := #[{ on := 22, ground := Ground.data }, { on := 20, ground := Ground.chain }, { on := 0, ground := Ground.phase }, { on := 1, ground := Ground.phase }, { on := 2, ground := Ground.phase }, { on := 3, ground := Ground.phase }, { on := 4, ground := Ground.phase }, { on := 5, ground := Ground.phase }, { on := 6, ground := Ground.phase }, { on := 7, ground := Ground.phase }, { on := 8, ground := Ground.phase }, { on := 9, ground := Ground.phase }, { on := 10, ground := Ground.phase }, { on := 11, ground := Ground.phase }, { on := 12, ground := Ground.phase }, { on := 13, ground := Ground.phase }, { on := 14, ground := Ground.phase }, { on := 15, ground := Ground.phase }, { on := 16, ground := Ground.phase }, { on := 17, ground := Ground.phase }, { on := 18, ground := Ground.phase }, { on := 19, ground := Ground.phase }, { on := 20, ground := Ground.phase }, { on := 21, ground := Ground.phase }, { on := 22, ground := Ground.phase }], guard := none }) (v := .bool true) rfl (by kernel_rfl) (by kernel_rfl) (by kernel_rfl) (fun _ _ _ h => h) (Or.inl ⟨by rfl, fun w' h => by go_simp⟩) hH ?_
            try simp only [Act.put, List.setIfInBounds_toArray, List.set_cons_zero, List.set_cons_succ]
            refine wpAnyH_done (by kernel_rfl) ?_ _
            have S15 : Hid (CE w [(w.heap.size, 24, polL lp (.slice pa pn pc)), (w.heap.size + 1, 24, polL lq (.slice qa qn qc)), (XB, 29, prL cx cx), (YB, 29, prL cy cy), (OB, 39, opL o), (UB, 24, polL lq (.slice qa qn qc)), (ZB, 29, prL cx cx)] SB (2 * (k + 1)) x2) := hH.more (by omega)
            clear hH hK S13 hu2 hi2
            have KD9 : Hid (KI cx) := KX
            go_upto_region 19 with fail
            have o5 : x2.cell? ⟨OB, 5, none⟩ = some (.bool false) := by rw [← HOT.out]; exact S15.out.kd.cell 4 5 rfl _ rfl
            have hNb := HNb.out
            go_wp2_with (first
            | ((with_reducible refine at_loadT 29 ?_); refine step_load rfl 29 _ rfl (ZB) 0 rfl (prL cx cx) _ (Blk.all (S15.out.kd.at 6 rfl)) Tryd.underlying29 rfl (sizePr _ _) ?_)
            | ((with_reducible refine at_store ?_); refine step_store rfl 29 _ _ rfl (XB) 0 29 (prL cx cx) (prL cx cx) rfl rfl (S15.out.kd.at 2 rfl) (Nat.le_refl 30) (sizePr _ _) (prL_one _ _) ?_; intro w20 nb gb))
            have S20 : Hid (CE w [(w.heap.size, 24, polL lp (.slice pa pn pc)), (w.heap.size + 1, 24, polL lq (.slice qa qn qc)), (XB, 29, prL cx cx), (YB, 29, prL cy cy)] SB (2 * (k + 1)) w20) := (S15.out.set 2 rfl ⟨tyR.1.symm, tyR.2.1.symm, tyR.2.2.symm⟩ nb gb).four
            clear nb gb S15 o5
            go_roundw
            case rel => exact ⟨k + 1, cx, cy, by go_num, rfl, by omega, KD9, KY, S20⟩
            case measure => simp [intOf]; omega
        · have HOT : Hid (o.ot = true) := hot
          clear hot
          cases hqu : o.qu
          · have HQU : Hid (o.qu = false) := hqu
            clear hqu
            cases hwh : o.wh
            · have HWH : Hid (o.wh = false) := hwh
              clear hwh
              have NZ : Hid (Blk wr.heap.size 39 (opL ⟨⟨0, 0, 0, 0⟩, false, false, false, false, 0, ⟨0, 0, 0, 0⟩⟩) (wr.alloc (.cells #[.int .i64 0, .int .i64 0, .int .i64 0, .int .i64 0, .bool false, .bool false, .bool false, .bool false, .int .i64 0, .int .i64 0, .int .i64 0, .int .i64 0, .int .i64 0] 39))) := Blk.new _ _ _
              go_upto_region 8 with (first
              | ((with_reducible refine at_loadT 39 ?_); refine step_load rfl 39 _ rfl g (off + k * 13) rfl (opL o) _ RG.out Tryd.underlying39 rfl (sizeOp _) ?_)
              | ((with_reducible refine at_store ?_); refine step_store rfl 39 _ _ rfl wr.heap.size 0 39 (opL ⟨⟨0, 0, 0, 0⟩, false, false, false, false, 0, ⟨0, 0, 0, 0⟩⟩) (opL o) rfl rfl NZ.out (Nat.le_refl 13) (sizeOp _) (opL_one _) ?_; intro w7 nb gb))
              have S7 : Hid (CE w [(w.heap.size, 24, polL lp (.slice pa pn pc)), (w.heap.size + 1, 24, polL lq (.slice qa qn qc)), (XB, 29, prL cx cx), (YB, 29, prL cy cy), (wr.heap.size, 39, opL o)] SB (2 * k) w7) := SR.out.add nb gb
              clear nb gb NZ SR
              obtain ⟨OB, hOB⟩ : ∃ B, wr.heap.size = B := ⟨_, rfl⟩
              rw [hOB] at S7
              rw [hOB]
              clear hOB
              have o4 : w7.cell? ⟨OB, 4, none⟩ = some (.bool true) := by rw [← HSE.out]; exact S7.out.kd.cell 4 4 rfl _ rfl
              have NZ : Hid (Blk w7.heap.size 24 (polZc) (w7.alloc (.cells #[.int .i64 0, .int .i64 0, .int .i64 0, .int .i64 0, .int .i64 0, .int .i64 0, .int .i64 0, .int .i64 0, .int .i64 0, .int .i64 0, .int .i64 0, .int .i64 0, .int .i64 0, .int .i64 0, .int .i64 0, .int .i64 0, .int .i64 0, .slice none 0 0] 24))) := Blk.new _ _ _
              go_upto_region 9 with (first
              | ((with_reducible refine at_loadT 24 ?_); refine step_load rfl 24 _ rfl (w.heap.size) 0 rfl (polL lp (.slice pa pn pc)) _ (Blk.all (S7.out.kd.at 0 rfl)) Tryd.underlying24 rfl (SZP.out _) ?_)
              | ((with_reducible refine at_store ?_); refine step_store rfl 24 _ _ rfl w7.heap.size 0 24 (polZc) (polL lp (.slice pa pn pc)) rfl rfl NZ.out (FTP.out _) (SZP.out _) polL_oneC ?_; intro w8 nb gb))
              have S8 : Hid (CE w [(w.heap.size, 24, polL lp (.slice pa pn pc)), (w.heap.size + 1, 24, polL lq (.slice qa qn qc)), (XB, 29, prL cx cx), (YB, 29, prL cy cy), (OB, 39, opL o), (w7.heap.size, 24, polL lp (.slice pa pn pc))] SB (2 * k) w8) := S7.out.add (blk_whole2 (FZP.out _) nb) gb
              clear nb gb NZ S7
              obtain ⟨UB, hUB⟩ : ∃ B, w7.heap.size = B := ⟨_, rfl⟩
              rw [hUB] at S8
              rw [hUB]
              clear hUB
              clear o4
              have o4 : w8.cell? ⟨OB, 4, none⟩ = some (.bool true) := by rw [← HSE.out]; exact S8.out.kd.cell 4 4 rfl _ rfl
              go_upto_region 11 with (first
              | ((with_reducible refine at_loadT 24 ?_); refine step_load rfl 24 _ rfl (w.heap.size + 1) 0 rfl (polL lq (.slice qa qn qc)) _ (Blk.all (S8.out.kd.at 1 rfl)) Tryd.underlying24 rfl (SZQ.out _) ?_)
              | ((with_reducible refine at_store ?_); refine step_store rfl 24 _ _ rfl (UB) 0 24 (polL lp (.slice pa pn pc)) (polL lq (.slice qa qn qc)) rfl rfl (S8.out.kd.at 5 rfl) (FPQ.out _ _) (SZQ.out _) polL_oneC ?_; intro w9 nb gb))
              have S9 : Hid (CE w [(w.heap.size, 24, polL lp (.slice pa pn pc)), (w.heap.size + 1, 24, polL lq (.slice qa qn qc)), (XB, 29, prL cx cx), (YB, 29, prL cy cy), (OB, 39, opL o), (UB, 24, polL lq (.slice qa qn qc))] SB (2 * k) w9) := S8.out.set 5 rfl ⟨tyP.1.symm, tyP.2.1.symm, tyP.2.2.symm⟩ (blk_whole2 (FQP.out _ _) nb) gb
              clear nb gb S8 o4
              have NZ : Hid (Blk w9.heap.size 29 (prL ⟨0, false, 0, 0, 0, 0, 0, 0, 0, 0, 0, 0, 0, 0, 0⟩ ⟨0, false, 0, 0, 0, 0, 0, 0, 0, 0, 0, 0, 0, 0, 0⟩) (w9.alloc (.cells #[.int .i64 0, .bool false, .int .i64 0, .int .i64 0, .int .i64 0, .int .i64 0, .int .i64 0, .int .i64 0, .int .i64 0, .int .i64 0, .int .i64 0, .int .i64 0, .int .i64 0, .int .i64 0, .int .i64 0, .int .i64 0, .bool false, .int .i64 0, .int .i64 0, .int .i64 0, .int .i64 0, .int .i64 0, .int .i64 0, .int .i64 0, .int .i64 0, .int .i64 0, .int .i64 0, .int .i64 0, .int .i64 0, .int .i64 0] 29))) := Blk.new _ _ _
              go_upto_region 12 with (first
              | ((with_reducible refine at_loadT 29 ?_); refine step_load rfl 29 _ rfl (XB) 0 rfl (prL cx cx) _ (Blk.all (S9.out.kd.at 2 rfl)) Tryd.underlying29 rfl (sizePr _ _) ?_)
              | ((with_reducible refine at_store ?_); refine step_store rfl 29 _ _ rfl w9.heap.size 0 29 (prL ⟨0, false, 0, 0, 0, 0, 0, 0, 0, 0, 0, 0, 0, 0, 0⟩ ⟨0, false, 0, 0, 0, 0, 0, 0, 0, 0, 0, 0, 0, 0, 0⟩) (prL cx cx) rfl rfl NZ.out (Nat.le_refl 30) (sizePr _ _) (prL_one _ _) ?_; intro w11 nb gb))
              have S11 : Hid (CE w [(w.heap.size, 24, polL lp (.slice pa pn pc)), (w.heap.size + 1, 24, polL lq (.slice qa qn qc)), (XB, 29, prL cx cx), (YB, 29, prL cy cy), (OB, 39, opL o), (UB, 24, polL lq (.slice qa qn qc)), (w9.heap.size, 29, prL cx cx)] SB (2 * k) w11) := S9.out.add nb gb
              clear nb gb NZ S9
              obtain ⟨ZB, hZB⟩ : ∃ B, w9.heap.size = B := ⟨_, rfl⟩
              rw [hZB] at S11
              rw [hZB]
              clear hZB
              have o5 : w11.cell? ⟨OB, 5, none⟩ = some (.bool true) := by rw [← HOT.out]; exact S11.out.kd.cell 4 5 rfl _ rfl
              go_upto_region 15 with (first
              | ((with_reducible refine at_loadT 29 ?_); refine step_load rfl 29 _ rfl (YB) 0 rfl (prL cy cy) _ (Blk.all (S11.out.kd.at 3 rfl)) Tryd.underlying29 rfl (sizePr _ _) ?_)
              | ((with_reducible refine at_store ?_); refine step_store rfl 29 _ _ rfl (ZB) 0 29 (prL cx cx) (prL cy cy) rfl rfl (S11.out.kd.at 6 rfl) (Nat.le_refl 30) (sizePr _ _) (prL_one _ _) ?_; intro w13 nb gb))
              have S13 : Hid (CE w [(w.heap.size, 24, polL lp (.slice pa pn pc)), (w.heap.size + 1, 24, polL lq (.slice qa qn qc)), (XB, 29, prL cx cx), (YB, 29, prL cy cy), (OB, 39, opL o), (UB, 24, polL lq (.slice qa qn qc)), (ZB, 29, prL cy cy)] SB (2 * k) w13) := S11.out.set 6 rfl ⟨tyR.1.symm, tyR.2.1.symm, tyR.2.2.symm⟩ nb gb
              clear nb gb S11 o5
              have o6 : w13.cell? ⟨OB, 6, none⟩ = some (.bool false) := by rw [← HQU.out]; exact S13.out.kd.cell 4 6 rfl _ rfl
              have o7 : w13.cell? ⟨OB, 7, none⟩ = some (.bool false) := by rw [← HWH.out]; exact S13.out.kd.cell 4 7 rfl _ rfl
              have KD9 : Hid (KI (stepA lq hq cy o.ev).2.1) := step_ki _ KY.out
              obtain ⟨vL, vG, vs, us, sh, hn⟩ := S13.out.sh
              have CC : Hid (∀ w', Below w.heap.size w w' → SH w.heap.size SB w' vL vG vs us → Calls Tryd.prog 11 #[PV lq (.slice qa qn qc), prV cy cy, evV o.ev, .pointer (some ⟨SB, 0, none⟩)] w' (StdAns w SB vs.length (stepA lq hq cy o.ev).2.1 w')) := fun w' h1 h2 => SPQ.out cy o.ev w' SB vL vG vs us KY.out h1 h2 (by have := HNb.out; omega)
              generalize (stepA lq hq cy o.ev).2.1 = d at *
              go_wp2_with (first
              | ((with_reducible refine at_loadT 24 ?_); refine step_load rfl 24 _ rfl (UB) 0 rfl (polL lq (.slice qa qn qc)) _ (Blk.all (S13.out.kd.at 5 rfl)) Tryd.underlying24 rfl (SZQ.out _) ?_)
              | ((with_reducible refine at_loadT 29 ?_); refine step_load rfl 29 _ rfl (ZB) 0 rfl (prL cy cy) _ (Blk.all (S13.out.kd.at 6 rfl)) Tryd.underlying29 rfl (sizePr _ _) ?_)
              | ((with_reducible refine at_loadT 37 ?_); refine step_load rfl 37 _ rfl OB 0 rfl (evL o.ev) _ (op_ev (S13.out.kd.at 4 rfl)) Tryd.underlying37 rfl (sizeEvL _) ?_)
              | ((with_reducible refine at_loadT 37 ?_); refine step_load rfl 37 _ rfl OB 9 rfl (evL o.nx) _ (op_nx (S13.out.kd.at 4 rfl)) Tryd.underlying37 rfl (sizeEvL _) ?_))
              refine (CC.out _ S13.out.kd.bb sh).mono ?_
              rintro e w14 hstd
              have he := hstd.1
              subst he
              have S14 : Hid (CE w [(w.heap.size, 24, polL lp (.slice pa pn pc)), (w.heap.size + 1, 24, polL lq (.slice qa qn qc)), (XB, 29, prL cx cx), (YB, 29, prL cy cy), (OB, 39, opL o), (UB, 24, polL lq (.slice qa qn qc)), (ZB, 29, prL cy cy)] SB (2 * (k + 1)) w14) := S13.out.std (fun k q hq => by rcases k with _ | k; (· cases hq; first | exact ⟨tyP.1, tyP.2.1, tyP.2.2⟩ | exact ⟨tyR.1, tyR.2.1, tyR.2.2⟩ | exact ⟨tyO.1, tyO.2.1, tyO.2.2⟩); rcases k with _ | k; (· cases hq; first | exact ⟨tyP.1, tyP.2.1, tyP.2.2⟩ | exact ⟨tyR.1, tyR.2.1, tyR.2.2⟩ | exact ⟨tyO.1, tyO.2.1, tyO.2.2⟩); rcases k with _ | k; (· cases hq; first | exact ⟨tyP.1, tyP.2.1, tyP.2.2⟩ | exact ⟨tyR.1, tyR.2.1, tyR.2.2⟩ | exact ⟨tyO.1, tyO.2.1, tyO.2.2⟩); rcases k with _ | k; (· cases hq; first | exact ⟨tyP.1, tyP.2.1, tyP.2.2⟩ | exact ⟨tyR.1, tyR.2.1, tyR.2.2⟩ | exact ⟨tyO.1, tyO.2.1, tyO.2.2⟩); rcases k with _ | k; (· cases hq; first | exact ⟨tyP.1, tyP.2.1, tyP.2.2⟩ | exact ⟨tyR.1, tyR.2.1, tyR.2.2⟩ | exact ⟨tyO.1, tyO.2.1, tyO.2.2⟩); rcases k with _ | k; (· cases hq; first | exact ⟨tyP.1, tyP.2.1, tyP.2.2⟩ | exact ⟨tyR.1, tyR.2.1, tyR.2.2⟩ | exact ⟨tyO.1, tyO.2.1, tyO.2.2⟩); rcases k with _ | k; (· cases hq; first | exact ⟨tyP.1, tyP.2.1, tyP.2.2⟩ | exact ⟨tyR.1, tyR.2.1, tyR.2.2⟩ | exact ⟨tyO.1, tyO.2.1, tyO.2.2⟩); cases hq) hstd (by omega)
              clear hstd sh hn S13 o6 o7 CC
              go_upto_region 19 with ((with_reducible refine at_store ?_); refine step_store rfl 29 _ _ rfl (ZB) 0 29 (prL cy cy) (prL d d) rfl rfl (S14.out.kd.at 6 rfl) (Nat.le_refl 30) (sizePr _ _) (prL_one _ _) ?_; intro w15 nb gb)
              have S15 : Hid (CE w [(w.heap.size, 24, polL lp (.slice pa pn pc)), (w.heap.size + 1, 24, polL lq (.slice qa qn qc)), (XB, 29, prL cx cx), (YB, 29, prL cy cy), (OB, 39, opL o), (UB, 24, polL lq (.slice qa qn qc)), (ZB, 29, prL d d)] SB (2 * (k + 1)) w15) := S14.out.set 6 rfl ⟨tyR.1.symm, tyR.2.1.symm, tyR.2.2.symm⟩ nb gb
              clear nb gb S14
              have o5 : w15.cell? ⟨OB, 5, none⟩ = some (.bool true) := by rw [← HOT.out]; exact S15.out.kd.cell 4 5 rfl _ rfl
              have hNb := HNb.out
              go_wp2_with (first
              | ((with_reducible refine at_loadT 29 ?_); refine step_load rfl 29 _ rfl (ZB) 0 rfl (prL d d) _ (Blk.all (S15.out.kd.at 6 rfl)) Tryd.underlying29 rfl (sizePr _ _) ?_)
              | ((with_reducible refine at_store ?_); refine step_store rfl 29 _ _ rfl (YB) 0 29 (prL cy cy) (prL d d) rfl rfl (S15.out.kd.at 3 rfl) (Nat.le_refl 30) (sizePr _ _) (prL_one _ _) ?_; intro w20 nb gb))
              have S20 : Hid (CE w [(w.heap.size, 24, polL lp (.slice pa pn pc)), (w.heap.size + 1, 24, polL lq (.slice qa qn qc)), (XB, 29, prL cx cx), (YB, 29, prL d d)] SB (2 * (k + 1)) w20) := (S15.out.set 3 rfl ⟨tyR.1.symm, tyR.2.1.symm, tyR.2.2.symm⟩ nb gb).four
              clear nb gb S15 o5
              go_roundw
              case rel => exact ⟨k + 1, cx, d, by go_num, rfl, by omega, KX, KD9, S20⟩
              case measure => simp [intOf]; omega
            · have HWH : Hid (o.wh = true) := hwh
              clear hwh
              have NZ : Hid (Blk wr.heap.size 39 (opL ⟨⟨0, 0, 0, 0⟩, false, false, false, false, 0, ⟨0, 0, 0, 0⟩⟩) (wr.alloc (.cells #[.int .i64 0, .int .i64 0, .int .i64 0, .int .i64 0, .bool false, .bool false, .bool false, .bool false, .int .i64 0, .int .i64 0, .int .i64 0, .int .i64 0, .int .i64 0] 39))) := Blk.new _ _ _
              go_upto_region 8 with (first
              | ((with_reducible refine at_loadT 39 ?_); refine step_load rfl 39 _ rfl g (off + k * 13) rfl (opL o) _ RG.out Tryd.underlying39 rfl (sizeOp _) ?_)
              | ((with_reducible refine at_store ?_); refine step_store rfl 39 _ _ rfl wr.heap.size 0 39 (opL ⟨⟨0, 0, 0, 0⟩, false, false, false, false, 0, ⟨0, 0, 0, 0⟩⟩) (opL o) rfl rfl NZ.out (Nat.le_refl 13) (sizeOp _) (opL_one _) ?_; intro w7 nb gb))
              have S7 : Hid (CE w [(w.heap.size, 24, polL lp (.slice pa pn pc)), (w.heap.size + 1, 24, polL lq (.slice qa qn qc)), (XB, 29, prL cx cx), (YB, 29, prL cy cy), (wr.heap.size, 39, opL o)] SB (2 * k) w7) := SR.out.add nb gb
              clear nb gb NZ SR
              obtain ⟨OB, hOB⟩ : ∃ B, wr.heap.size = B := ⟨_, rfl⟩
              rw [hOB] at S7
              rw [hOB]
              clear hOB
              have o4 : w7.cell? ⟨OB, 4, none⟩ = some (.bool true) := by rw [← HSE.out]; exact S7.out.kd.cell 4 4 rfl _ rfl
              have NZ : Hid (Blk w7.heap.size 24 (polZc) (w7.alloc (.cells #[.int .i64 0, .int .i64 0, .int .i64 0, .int .i64 0, .int .i64 0, .int .i64 0, .int .i64 0, .int .i64 0, .int .i64 0, .int .i64 0, .int .i64 0, .int .i64 0, .int .i64 0, .int .i64 0, .int .i64 0, .int .i64 0, .int .i64 0, .slice none 0 0] 24))) := Blk.new _ _ _
              go_upto_region 9 with (first
              | ((with_reducible refine at_loadT 24 ?_); refine step_load rfl 24 _ rfl (w.heap.size) 0 rfl (polL lp (.slice pa pn pc)) _ (Blk.all (S7.out.kd.at 0 rfl)) Tryd.underlying24 rfl (SZP.out _) ?_)
              | ((with_reducible refine at_store ?_); refine step_store rfl 24 _ _ rfl w7.heap.size 0 24 (polZc) (polL lp (.slice pa pn pc)) rfl rfl NZ.out (FTP.out _) (SZP.out _) polL_oneC ?_; intro w8 nb gb))
              have S8 : Hid (CE w [(w.heap.size, 24, polL lp (.slice pa pn pc)), (w.heap.size + 1, 24, polL lq (.slice qa qn qc)), (XB, 29, prL cx cx), (YB, 29, prL cy cy), (OB, 39, opL o), (w7.heap.size, 24, polL lp (.slice pa pn pc))] SB (2 * k) w8) := S7.out.add (blk_whole2 (FZP.out _) nb) gb
              clear nb gb NZ S7
              obtain ⟨UB, hUB⟩ : ∃ B, w7.heap.size = B := ⟨_, rfl⟩
              rw [hUB] at S8
              rw [hUB]
              clear hUB
              clear o4
              have o4 : w8.cell? ⟨OB, 4, none⟩ = some (.bool true) := by rw [← HSE.out]; exact S8.out.kd.cell 4 4 rfl _ rfl
              go_upto_region 11 with (first
              | ((with_reducible refine at_loadT 24 ?_); refine step_load rfl 24 _ rfl (w.heap.size + 1) 0 rfl (polL lq (.slice qa qn qc)) _ (Blk.all (S8.out.kd.at 1 rfl)) Tryd.underlying24 rfl (SZQ.out _) ?_)
              | ((with_reducible refine at_store ?_); refine step_store rfl 24 _ _ rfl (UB) 0 24 (polL lp (.slice pa pn pc)) (polL lq (.slice qa qn qc)) rfl rfl (S8.out.kd.at 5 rfl) (FPQ.out _ _) (SZQ.out _) polL_oneC ?_; intro w9 nb gb))
              have S9 : Hid (CE w [(w.heap.size, 24, polL lp (.slice pa pn pc)), (w.heap.size + 1, 24, polL lq (.slice qa qn qc)), (XB, 29, prL cx cx), (YB, 29, prL cy cy), (OB, 39, opL o), (UB, 24, polL lq (.slice qa qn qc))] SB (2 * k) w9) := S8.out.set 5 rfl ⟨tyP.1.symm, tyP.2.1.symm, tyP.2.2.symm⟩ (blk_whole2 (FQP.out _ _) nb) gb
              clear nb gb S8 o4
              have NZ : Hid (Blk w9.heap.size 29 (prL ⟨0, false, 0, 0, 0, 0, 0, 0, 0, 0, 0, 0, 0, 0, 0⟩ ⟨0, false, 0, 0, 0, 0, 0, 0, 0, 0, 0, 0, 0, 0, 0⟩) (w9.alloc (.cells #[.int .i64 0, .bool false, .int .i64 0, .int .i64 0, .int .i64 0, .int .i64 0, .int .i64 0, .int .i64 0, .int .i64 0, .int .i64 0, .int .i64 0, .int .i64 0, .int .i64 0, .int .i64 0, .int .i64 0, .int .i64 0, .bool false, .int .i64 0, .int .i64 0, .int .i64 0, .int .i64 0, .int .i64 0, .int .i64 0, .int .i64 0, .int .i64 0, .int .i64 0, .int .i64 0, .int .i64 0, .int .i64 0, .int .i64 0] 29))) := Blk.new _ _ _
              go_upto_region 12 with (first
              | ((with_reducible refine at_loadT 29 ?_); refine step_load rfl 29 _ rfl (XB) 0 rfl (prL cx cx) _ (Blk.all (S9.out.kd.at 2 rfl)) Tryd.underlying29 rfl (sizePr _ _) ?_)
              | ((with_reducible refine at_store ?_); refine step_store rfl 29 _ _ rfl w9.heap.size 0 29 (prL ⟨0, false, 0, 0, 0, 0, 0, 0, 0, 0, 0, 0, 0, 0, 0⟩ ⟨0, false, 0, 0, 0, 0, 0, 0, 0, 0, 0, 0, 0, 0, 0⟩) (prL cx cx) rfl rfl NZ.out (Nat.le_refl 30) (sizePr _ _) (prL_one _ _) ?_; intro w11 nb gb))
              have S11 : Hid (CE w [(w.heap.size, 24, polL lp (.slice pa pn pc)), (w.heap.size + 1, 24, polL lq (.slice qa qn qc)), (XB, 29, prL cx cx), (YB, 29, prL cy cy), (OB, 39, opL o), (UB, 24, polL lq (.slice qa qn qc)), (w9.heap.size, 29, prL cx cx)] SB (2 * k) w11) := S9.out.add nb gb
              clear nb gb NZ S9
              obtain ⟨ZB, hZB⟩ : ∃ B, w9.heap.size = B := ⟨_, rfl⟩
              rw [hZB] at S11
              rw [hZB]
              clear hZB
              have o5 : w11.cell? ⟨OB, 5, none⟩ = some (.bool true) := by rw [← HOT.out]; exact S11.out.kd.cell 4 5 rfl _ rfl
              go_upto_region 15 with (first
              | ((with_reducible refine at_loadT 29 ?_); refine step_load rfl 29 _ rfl (YB) 0 rfl (prL cy cy) _ (Blk.all (S11.out.kd.at 3 rfl)) Tryd.underlying29 rfl (sizePr _ _) ?_)
              | ((with_reducible refine at_store ?_); refine step_store rfl 29 _ _ rfl (ZB) 0 29 (prL cx cx) (prL cy cy) rfl rfl (S11.out.kd.at 6 rfl) (Nat.le_refl 30) (sizePr _ _) (prL_one _ _) ?_; intro w13 nb gb))
              have S13 : Hid (CE w [(w.heap.size, 24, polL lp (.slice pa pn pc)), (w.heap.size + 1, 24, polL lq (.slice qa qn qc)), (XB, 29, prL cx cx), (YB, 29, prL cy cy), (OB, 39, opL o), (UB, 24, polL lq (.slice qa qn qc)), (ZB, 29, prL cy cy)] SB (2 * k) w13) := S11.out.set 6 rfl ⟨tyR.1.symm, tyR.2.1.symm, tyR.2.2.symm⟩ nb gb
              clear nb gb S11 o5
              have o6 : w13.cell? ⟨OB, 6, none⟩ = some (.bool false) := by rw [← HQU.out]; exact S13.out.kd.cell 4 6 rfl _ rfl
              have o7 : w13.cell? ⟨OB, 7, none⟩ = some (.bool true) := by rw [← HWH.out]; exact S13.out.kd.cell 4 7 rfl _ rfl
              have KD9 : Hid (KI (rk lq hq cy [o.ev, o.nx] 2).1) := rk_ki KY.out 2
              obtain ⟨vL, vG, vs, us, sh, hn⟩ := S13.out.sh
              have CC : Hid (∀ w', Below w.heap.size w w' → SH w.heap.size SB w' vL vG vs us → Calls Tryd.prog 10 #[PV lq (.slice qa qn qc), prV cy cy, evV o.ev, evV o.nx, .pointer (some ⟨SB, 0, none⟩)] w' (StdAns w SB vs.length (rk lq hq cy [o.ev, o.nx] 2).1 w')) := fun w' h1 h2 => RNQ.out cy o.ev o.nx w' SB vL vG vs us KY.out h1 h2 (by have := HNb.out; omega)
              generalize (rk lq hq cy [o.ev, o.nx] 2).1 = d at *
              go_wp2_with (first
              | ((with_reducible refine at_loadT 24 ?_); refine step_load rfl 24 _ rfl (UB) 0 rfl (polL lq (.slice qa qn qc)) _ (Blk.all (S13.out.kd.at 5 rfl)) Tryd.underlying24 rfl (SZQ.out _) ?_)
              | ((with_reducible refine at_loadT 29 ?_); refine step_load rfl 29 _ rfl (ZB) 0 rfl (prL cy cy) _ (Blk.all (S13.out.kd.at 6 rfl)) Tryd.underlying29 rfl (sizePr _ _) ?_)
              | ((with_reducible refine at_loadT 37 ?_); refine step_load rfl 37 _ rfl OB 0 rfl (evL o.ev) _ (op_ev (S13.out.kd.at 4 rfl)) Tryd.underlying37 rfl (sizeEvL _) ?_)
              | ((with_reducible refine at_loadT 37 ?_); refine step_load rfl 37 _ rfl OB 9 rfl (evL o.nx) _ (op_nx (S13.out.kd.at 4 rfl)) Tryd.underlying37 rfl (sizeEvL _) ?_))
              refine (CC.out _ S13.out.kd.bb sh).mono ?_
              rintro e w14 hstd
              have he := hstd.1
              subst he
              have S14 : Hid (CE w [(w.heap.size, 24, polL lp (.slice pa pn pc)), (w.heap.size + 1, 24, polL lq (.slice qa qn qc)), (XB, 29, prL cx cx), (YB, 29, prL cy cy), (OB, 39, opL o), (UB, 24, polL lq (.slice qa qn qc)), (ZB, 29, prL cy cy)] SB (2 * (k + 1)) w14) := S13.out.std (fun k q hq => by rcases k with _ | k; (· cases hq; first | exact ⟨tyP.1, tyP.2.1, tyP.2.2⟩ | exact ⟨tyR.1, tyR.2.1, tyR.2.2⟩ | exact ⟨tyO.1, tyO.2.1, tyO.2.2⟩); rcases k with _ | k; (· cases hq; first | exact ⟨tyP.1, tyP.2.1, tyP.2.2⟩ | exact ⟨tyR.1, tyR.2.1, tyR.2.2⟩ | exact ⟨tyO.1, tyO.2.1, tyO.2.2⟩); rcases k with _ | k; (· cases hq; first | exact ⟨tyP.1, tyP.2.1, tyP.2.2⟩ | exact ⟨tyR.1, tyR.2.1, tyR.2.2⟩ | exact ⟨tyO.1, tyO.2.1, tyO.2.2⟩); rcases k with _ | k; (· cases hq; first | exact ⟨tyP.1, tyP.2.1, tyP.2.2⟩ | exact ⟨tyR.1, tyR.2.1, tyR.2.2⟩ | exact ⟨tyO.1, tyO.2.1, tyO.2.2⟩); rcases k with _ | k; (· cases hq; first | exact ⟨tyP.1, tyP.2.1, tyP.2.2⟩ | exact ⟨tyR.1, tyR.2.1, tyR.2.2⟩ | exact ⟨tyO.1, tyO.2.1, tyO.2.2⟩); rcases k with _ | k; (· cases hq; first | exact ⟨tyP.1, tyP.2.1, tyP.2.2⟩ | exact ⟨tyR.1, tyR.2.1, tyR.2.2⟩ | exact ⟨tyO.1, tyO.2.1, tyO.2.2⟩); rcases k with _ | k; (· cases hq; first | exact ⟨tyP.1, tyP.2.1, tyP.2.2⟩ | exact ⟨tyR.1, tyR.2.1, tyR.2.2⟩ | exact ⟨tyO.1, tyO.2.1, tyO.2.2⟩); cases hq) hstd (by omega)
              clear hstd sh hn S13 o6 o7 CC
              go_upto_region 19 with ((with_reducible refine at_store ?_); refine step_store rfl 29 _ _ rfl (ZB) 0 29 (prL cy cy) (prL d d) rfl rfl (S14.out.kd.at 6 rfl) (Nat.le_refl 30) (sizePr _ _) (prL_one _ _) ?_; intro w15 nb gb)
              have S15 : Hid (CE w [(w.heap.size, 24, polL lp (.slice pa pn pc)), (w.heap.size + 1, 24, polL lq (.slice qa qn qc)), (XB, 29, prL cx cx), (YB, 29, prL cy cy), (OB, 39, opL o), (UB, 24, polL lq (.slice qa qn qc)), (ZB, 29, prL d d)] SB (2 * (k + 1)) w15) := S14.out.set 6 rfl ⟨tyR.1.symm, tyR.2.1.symm, tyR.2.2.symm⟩ nb gb
              clear nb gb S14
              have o5 : w15.cell? ⟨OB, 5, none⟩ = some (.bool true) := by rw [← HOT.out]; exact S15.out.kd.cell 4 5 rfl _ rfl
              have hNb := HNb.out
              go_wp2_with (first
              | ((with_reducible refine at_loadT 29 ?_); refine step_load rfl 29 _ rfl (ZB) 0 rfl (prL d d) _ (Blk.all (S15.out.kd.at 6 rfl)) Tryd.underlying29 rfl (sizePr _ _) ?_)
              | ((with_reducible refine at_store ?_); refine step_store rfl 29 _ _ rfl (YB) 0 29 (prL cy cy) (prL d d) rfl rfl (S15.out.kd.at 3 rfl) (Nat.le_refl 30) (sizePr _ _) (prL_one _ _) ?_; intro w20 nb gb))
              have S20 : Hid (CE w [(w.heap.size, 24, polL lp (.slice pa pn pc)), (w.heap.size + 1, 24, polL lq (.slice qa qn qc)), (XB, 29, prL cx cx), (YB, 29, prL d d)] SB (2 * (k + 1)) w20) := (S15.out.set 3 rfl ⟨tyR.1.symm, tyR.2.1.symm, tyR.2.2.symm⟩ nb gb).four
              clear nb gb S15 o5
              go_roundw
              case rel => exact ⟨k + 1, cx, d, by go_num, rfl, by omega, KX, KD9, S20⟩
              case measure => simp [intOf]; omega
          · have HQU : Hid (o.qu = true) := hqu
            clear hqu
            have NZ : Hid (Blk wr.heap.size 39 (opL ⟨⟨0, 0, 0, 0⟩, false, false, false, false, 0, ⟨0, 0, 0, 0⟩⟩) (wr.alloc (.cells #[.int .i64 0, .int .i64 0, .int .i64 0, .int .i64 0, .bool false, .bool false, .bool false, .bool false, .int .i64 0, .int .i64 0, .int .i64 0, .int .i64 0, .int .i64 0] 39))) := Blk.new _ _ _
            go_upto_region 8 with (first
            | ((with_reducible refine at_loadT 39 ?_); refine step_load rfl 39 _ rfl g (off + k * 13) rfl (opL o) _ RG.out Tryd.underlying39 rfl (sizeOp _) ?_)
            | ((with_reducible refine at_store ?_); refine step_store rfl 39 _ _ rfl wr.heap.size 0 39 (opL ⟨⟨0, 0, 0, 0⟩, false, false, false, false, 0, ⟨0, 0, 0, 0⟩⟩) (opL o) rfl rfl NZ.out (Nat.le_refl 13) (sizeOp _) (opL_one _) ?_; intro w7 nb gb))
            have S7 : Hid (CE w [(w.heap.size, 24, polL lp (.slice pa pn pc)), (w.heap.size + 1, 24, polL lq (.slice qa qn qc)), (XB, 29, prL cx cx), (YB, 29, prL cy cy), (wr.heap.size, 39, opL o)] SB (2 * k) w7) := SR.out.add nb gb
            clear nb gb NZ SR
            obtain ⟨OB, hOB⟩ : ∃ B, wr.heap.size = B := ⟨_, rfl⟩
            rw [hOB] at S7
            rw [hOB]
            clear hOB
            have o4 : w7.cell? ⟨OB, 4, none⟩ = some (.bool true) := by rw [← HSE.out]; exact S7.out.kd.cell 4 4 rfl _ rfl
            have NZ : Hid (Blk w7.heap.size 24 (polZc) (w7.alloc (.cells #[.int .i64 0, .int .i64 0, .int .i64 0, .int .i64 0, .int .i64 0, .int .i64 0, .int .i64 0, .int .i64 0, .int .i64 0, .int .i64 0, .int .i64 0, .int .i64 0, .int .i64 0, .int .i64 0, .int .i64 0, .int .i64 0, .int .i64 0, .slice none 0 0] 24))) := Blk.new _ _ _
            go_upto_region 9 with (first
            | ((with_reducible refine at_loadT 24 ?_); refine step_load rfl 24 _ rfl (w.heap.size) 0 rfl (polL lp (.slice pa pn pc)) _ (Blk.all (S7.out.kd.at 0 rfl)) Tryd.underlying24 rfl (SZP.out _) ?_)
            | ((with_reducible refine at_store ?_); refine step_store rfl 24 _ _ rfl w7.heap.size 0 24 (polZc) (polL lp (.slice pa pn pc)) rfl rfl NZ.out (FTP.out _) (SZP.out _) polL_oneC ?_; intro w8 nb gb))
            have S8 : Hid (CE w [(w.heap.size, 24, polL lp (.slice pa pn pc)), (w.heap.size + 1, 24, polL lq (.slice qa qn qc)), (XB, 29, prL cx cx), (YB, 29, prL cy cy), (OB, 39, opL o), (w7.heap.size, 24, polL lp (.slice pa pn pc))] SB (2 * k) w8) := S7.out.add (blk_whole2 (FZP.out _) nb) gb
            clear nb gb NZ S7
            obtain ⟨UB, hUB⟩ : ∃ B, w7.heap.size = B := ⟨_, rfl⟩
            rw [hUB] at S8
            rw [hUB]
            clear hUB
            clear o4
            have o4 : w8.cell? ⟨OB, 4, none⟩ = some (.bool true) := by rw [← HSE.out]; exact S8.out.kd.cell 4 4 rfl _ rfl
            go_upto_region 11 with (first
            | ((with_reducible refine at_loadT 24 ?_); refine step_load rfl 24 _ rfl (w.heap.size + 1) 0 rfl (polL lq (.slice qa qn qc)) _ (Blk.all (S8.out.kd.at 1 rfl)) Tryd.underlying24 rfl (SZQ.out _) ?_)
            | ((with_reducible refine at_store ?_); refine step_store rfl 24 _ _ rfl (UB) 0 24 (polL lp (.slice pa pn pc)) (polL lq (.slice qa qn qc)) rfl rfl (S8.out.kd.at 5 rfl) (FPQ.out _ _) (SZQ.out _) polL_oneC ?_; intro w9 nb gb))
            have S9 : Hid (CE w [(w.heap.size, 24, polL lp (.slice pa pn pc)), (w.heap.size + 1, 24, polL lq (.slice qa qn qc)), (XB, 29, prL cx cx), (YB, 29, prL cy cy), (OB, 39, opL o), (UB, 24, polL lq (.slice qa qn qc))] SB (2 * k) w9) := S8.out.set 5 rfl ⟨tyP.1.symm, tyP.2.1.symm, tyP.2.2.symm⟩ (blk_whole2 (FQP.out _ _) nb) gb
            clear nb gb S8 o4
            have NZ : Hid (Blk w9.heap.size 29 (prL ⟨0, false, 0, 0, 0, 0, 0, 0, 0, 0, 0, 0, 0, 0, 0⟩ ⟨0, false, 0, 0, 0, 0, 0, 0, 0, 0, 0, 0, 0, 0, 0⟩) (w9.alloc (.cells #[.int .i64 0, .bool false, .int .i64 0, .int .i64 0, .int .i64 0, .int .i64 0, .int .i64 0, .int .i64 0, .int .i64 0, .int .i64 0, .int .i64 0, .int .i64 0, .int .i64 0, .int .i64 0, .int .i64 0, .int .i64 0, .bool false, .int .i64 0, .int .i64 0, .int .i64 0, .int .i64 0, .int .i64 0, .int .i64 0, .int .i64 0, .int .i64 0, .int .i64 0, .int .i64 0, .int .i64 0, .int .i64 0, .int .i64 0] 29))) := Blk.new _ _ _
            go_upto_region 12 with (first
            | ((with_reducible refine at_loadT 29 ?_); refine step_load rfl 29 _ rfl (XB) 0 rfl (prL cx cx) _ (Blk.all (S9.out.kd.at 2 rfl)) Tryd.underlying29 rfl (sizePr _ _) ?_)
            | ((with_reducible refine at_store ?_); refine step_store rfl 29 _ _ rfl w9.heap.size 0 29 (prL ⟨0, false, 0, 0, 0, 0, 0, 0, 0, 0, 0, 0, 0, 0, 0⟩ ⟨0, false, 0, 0, 0, 0, 0, 0, 0, 0, 0, 0, 0, 0, 0⟩) (prL cx cx) rfl rfl NZ.out (Nat.le_refl 30) (sizePr _ _) (prL_one _ _) ?_; intro w11 nb gb))
            have S11 : Hid (CE w [(w.heap.size, 24, polL lp (.slice pa pn pc)), (w.heap.size + 1, 24, polL lq (.slice qa qn qc)), (XB, 29, prL cx cx), (YB, 29, prL cy cy), (OB, 39, opL o), (UB, 24, polL lq (.slice qa qn qc)), (w9.heap.size, 29, prL cx cx)] SB (2 * k) w11) := S9.out.add nb gb
            clear nb gb NZ S9
            obtain ⟨ZB, hZB⟩ : ∃ B, w9.heap.size = B := ⟨_, rfl⟩
            rw [hZB] at S11
            rw [hZB]
            clear hZB
            have o5 : w11.cell? ⟨OB, 5, none⟩ = some (.bool true) := by rw [← HOT.out]; exact S11.out.kd.cell 4 5 rfl _ rfl
            go_upto_region 15 with (first
            | ((with_reducible refine at_loadT 29 ?_); refine step_load rfl 29 _ rfl (YB) 0 rfl (prL cy cy) _ (Blk.all (S11.out.kd.at 3 rfl)) Tryd.underlying29 rfl (sizePr _ _) ?_)
            | ((with_reducible refine at_store ?_); refine step_store rfl 29 _ _ rfl (ZB) 0 29 (prL cx cx) (prL cy cy) rfl rfl (S11.out.kd.at 6 rfl) (Nat.le_refl 30) (sizePr _ _) (prL_one _ _) ?_; intro w13 nb gb))
            have S13 : Hid (CE w [(w.heap.size, 24, polL lp (.slice pa pn pc)), (w.heap.size + 1, 24, polL lq (.slice qa qn qc)), (XB, 29, prL cx cx), (YB, 29, prL cy cy), (OB, 39, opL o), (UB, 24, polL lq (.slice qa qn qc)), (ZB, 29, prL cy cy)] SB (2 * k) w13) := S11.out.set 6 rfl ⟨tyR.1.symm, tyR.2.1.symm, tyR.2.2.symm⟩ nb gb
            clear nb gb S11 o5
            have o6 : w13.cell? ⟨OB, 6, none⟩ = some (.bool true) := by rw [← HQU.out]; exact S13.out.kd.cell 4 6 rfl _ rfl
            go_upto_region 16 with fail
            clear o6
            have hu2 := Tryd.underlying27
            have hi2 := sizeCsL cy
            refine wp_region_held_drew (S := fun w' => CE w [(w.heap.size, 24, polL lp (.slice pa pn pc)), (w.heap.size + 1, 24, polL lq (.slice qa qn qc)), (XB, 29, prL cx cx), (YB, 29, prL cy cy), (OB, 39, opL o), (UB, 24, polL lq (.slice qa qn qc)), (ZB, 29, prL cy cy)] SB (2 * k) w') (by kernel_rfl) (S13.out.drew) (fun hH => ?_)
            refine wpAnyH_take (i := 0) (oi := { dst := some 55, op := Op.fieldAddr 29 (Operand.tmp 14) 0, type := 0, pos := "law.go:168", after := #[], guard := none }) (v := .pointer (some ⟨ZB, 0, none⟩)) rfl (by kernel_rfl) (by kernel_rfl) (by kernel_rfl) (fun _ _ _ h => h) (Or.inl ⟨by rfl, fun w' h => by go_simp⟩) hH ?_
            try simp only [Act.put, List.setIfInBounds_toArray, List.set_cons_zero, List.set_cons_succ]
            refine wpAnyH_take (i := 1) (oi := { dst := some 56, op := Op.load 27 (Operand.tmp 55), type := 27, pos := "law.go:168", after := #[{ on := 0, ground := Ground.data }], guard := none }) (v := .agg (csL cy).toArray) rfl (by kernel_rfl) (by kernel_rfl) (by kernel_rfl) (fun _ _ _ h => h) (yieldsIf_load_mid (by rfl) _ _ rfl ZB 0 rfl (csL cy) _ (fun w' h => (pr_c (h.kd.at 6 rfl))) hu2 rfl hi2) hH ?_
            try simp only [Act.put, List.setIfInBounds_toArray, List.set_cons_zero, List.set_cons_succ]
            refine wpAnyH_take (i := 3) (oi := { dst := some 58, op := Op.fieldAddr 29 (Operand.tmp 14) 1, type := 0, pos := "law.go:168", after := #[], guard := none }) (v := .pointer (some ⟨ZB, 15, none⟩)) rfl (by kernel_rfl) (by kernel_rfl) (by kernel_rfl) (fun _ _ _ h => h) (Or.inl ⟨by rfl, fun w' h => by go_simp⟩) hH ?_
            try simp only [Act.put, List.setIfInBounds_toArray, List.set_cons_zero, List.set_cons_succ]
            refine wpAnyH_take (i := 4) (oi := { dst := some 59, op := Op.load 27 (Operand.tmp 58), type := 27, pos := "law.go:168", after := #[{ on := 3, ground := Ground.data }], guard := none }) (v := .agg (csL cy).toArray) rfl (by kernel_rfl) (by kernel_rfl) (by kernel_rfl) (fun _ _ _ h => h) (yieldsIf_load_mid (by rfl) _ _ rfl ZB 15 rfl (csL cy) _ (fun w' h => (pr_r (h.kd.at 6 rfl))) hu2 rfl hi2) hH ?_
            try simp only [Act.put, List.setIfInBounds_toArray, List.set_cons_zero, List.set_cons_succ]
            refine wpAnyH_ready (rs := [2]) (by kernel_rfl) (by simp) ?_
            refine AllReadyH.cons (o := { dst := some 57, op := Op.call { callee := Callee.value (Operand.func 5), args := #[Operand.tmp 56], argTypes := #[27] }, type := 4, pos := "law.go:168", after := #[{ on := 1, ground := Ground.data }], guard := none }) rfl (fun K hK => ?_) AllReadyH.nil
            go_simp
            refine (OP1.out cy _).mono ?_
            rintro e x1 ⟨rfl, bX⟩
            refine hK.out _ _ (hH.later bX) (fun hH => ?_)
            clear bX
            refine wpAnyH_ready (rs := [5]) (by kernel_rfl) (by simp) ?_
            refine AllReadyH.cons (o := { dst := some 60, op := Op.call { callee := Callee.value (Operand.func 6), args := #[Operand.tmp 59], argTypes := #[27] }, type := 4, pos := "law.go:168", after := #[{ on := 4, ground := Ground.data }, { on := 2, ground := Ground.chain }], guard := none }) rfl (fun K hK => ?_) AllReadyH.nil
            go_simp
            refine (OP2.out cy _).mono ?_
            rintro e x2 ⟨rfl, bX⟩
            refine hK.out _ _ (hH.later bX) (fun hH => ?_)
            clear bX
            refine wpAnyH_take (i := 6) (oi := { dst := some 61, op := Op.binOp BinOp.eql 4 (Operand.tmp 57) (Operand.tmp 60) 4, type := 4, pos := "law.go:168", after := #[{ on := 2, ground := Ground.data }, { on := 5, ground := Ground.data }], guard := none }) (v := .bool true) rfl (by kernel_rfl) (by kernel_rfl) (by kernel_rfl) (fun _ _ _ h => h) (Or.inl ⟨by rfl, fun w' h => by go_simp⟩) hH ?_
            try simp only [Act.put, List.setIfInBounds_toArray, List.set_cons_zero, List.set_cons_succ]
            refine wpAnyH_take (i := 7) (oi := { dst := some 62, op := Op.move (Operand.tmp 61), type := 4, pos := "law.go:168", after := #[{ on := 6, ground := Ground.data }, { on := 5, ground := Ground.chain }], guard := none }) (v := .bool true) rfl (by kernel_rfl) (by kernel_rfl) (by kernel_rfl) (fun _ _ _ h => h) (Or.inl ⟨by rfl, fun w' h => by go_simp⟩) hH ?_
            try simp only [Act.put, List.setIfInBounds_toArray, List.set_cons_zero, List.set_cons_succ]
            refine wpAnyH_take (i := 8) (oi := { dst := some 63, op := Op.fieldAddr 39 (Operand.tmp 12) 5, type := 0, pos := "law.go:168", after := #[{ on := 7, ground := Ground.guard }], guard := some (7, true) }) (v := .pointer (some ⟨OB, 8, none⟩)) rfl (by kernel_rfl) (by kernel_rfl) (by kernel_rfl) (fun _ _ _ h => h) (Or.inl ⟨by rfl, fun w' h => by go_simp⟩) hH ?_
            try simp only [Act.put, List.setIfInBounds_toArray, List.set_cons_zero, List.set_cons_succ]
            refine wpAnyH_take (i := 9) (oi := { dst := some 64, op := Op.load 3 (Operand.tmp 63), type := 3, pos := "law.go:168", after := #[{ on := 8, ground := Ground.data }, { on := 7, ground := Ground.guard }], guard := some (7, true) }) (v := .int .i64 o.nm) rfl (by kernel_rfl) (by kernel_rfl) (by kernel_rfl) (fun _ _ _ h => h) (Or.inl ⟨by rfl, fun w' h => by have q1 : w'.cell? ⟨OB, 8, none⟩ = some (.int .i64 o.nm) := h.kd.cell 4 8 rfl _ rfl; go_simp⟩) hH ?_
            try simp only [Act.put, List.setIfInBounds_toArray, List.set_cons_zero, List.set_cons_succ]
            refine wpAnyH_ready (rs := [10]) (by kernel_rfl) (by simp) ?_
            refine AllReadyH.cons (o := { dst := some 65, op := Op.call { callee := Callee.value (Operand.func 7), args := #[Operand.tmp 64], argTypes := #[3] }, type := 4, pos := "law.go:168", after := #[{ on := 9, ground := Ground.data }, { on := 7, ground := Ground.chain }, { on := 7, ground := Ground.guard }], guard := some (7, true) }) rfl (fun K hK => ?_) AllReadyH.nil
            go_simp
            refine (NA.out o.nm _ hH.kd.bb).mono ?_
            rintro e x3 ⟨rfl, hw⟩
            subst hw
            refine hK.out _ _ hH (fun hH => ?_)
            refine wpAnyH_take (i := 11) (oi := { dst := some 66, op := Op.pick (Operand.tmp 62) (Operand.tmp 65) (Operand.const (Value.bool false)), type := 4, pos := "law.go:168", after := #[{ on := 7, ground := Ground.data }, { on := 10, ground := Ground.data }], guard := none }) (v := .bool true) rfl (by kernel_rfl) (by kernel_rfl) (by kernel_rfl) (fun _ _ _ h => h) (Or.inl ⟨by rfl, fun w' h => by go_simp⟩) hH ?_
            try simp only [Act.put, List.setIfInBounds_toArray, List.set_cons_zero, List.set_cons_succ]
            refine wpAnyH_take (i := 12) (oi := { dst := some 67, op := Op.move (Operand.tmp 66), type := 4, pos := "law.go:168", after := #[{ on := 11, ground := Ground.data }, { on := 10, ground := Ground.chain }], guard := none }) (v := .bool true) rfl (by kernel_rfl) (by kernel_rfl) (by kernel_rfl) (fun _ _ _ h => h) (Or.inl ⟨by rfl, fun w' h => by go_simp⟩) hH ?_
            try simp only [Act.put, List.setIfInBounds_toArray, List.set_cons_zero, List.set_cons_succ]
            refine wpAnyH_take (i := 13) (oi := { dst := some 68, op := Op.fieldAddr 29 (Operand.tmp 14) 0, type := 0, pos := "law.go:168", after := #[{ on := 12, ground := Ground.guard }], guard := some (12, true) }) (v := .pointer (some ⟨ZB, 0, none⟩)) rfl (by kernel_rfl) (by kernel_rfl) (by kernel_rfl) (fun _ _ _ h => h) (Or.inl ⟨by rfl, fun w' h => by go_simp⟩) hH ?_
            try simp only [Act.put, List.setIfInBounds_toArray, List.set_cons_zero, List.set_cons_succ]
            refine wpAnyH_take (i := 14) (oi := { dst := some 69, op := Op.fieldAddr 27 (Operand.tmp 68) 0, type := 0, pos := "law.go:168", after := #[{ on := 13, ground := Ground.data }, { on := 12, ground := Ground.guard }], guard := some (12, true) }) (v := .pointer (some ⟨ZB, 0, none⟩)) rfl (by kernel_rfl) (by kernel_rfl) (by kernel_rfl) (fun _ _ _ h => h) (Or.inl ⟨by rfl, fun w' h => by go_simp⟩) hH ?_
            try simp only [Act.put, List.setIfInBounds_toArray, List.set_cons_zero, List.set_cons_succ]
            refine wpAnyH_take (i := 15) (oi := { dst := some 70, op := Op.load 3 (Operand.tmp 69), type := 3, pos := "law.go:168", after := #[{ on := 14, ground := Ground.data }, { on := 12, ground := Ground.guard }], guard := some (12, true) }) (v := .int .i64 cy.st) rfl (by kernel_rfl) (by kernel_rfl) (by kernel_rfl) (fun _ _ _ h => h) (Or.inl ⟨by rfl, fun w' h => by have q1 : w'.cell? ⟨ZB, 0, none⟩ = some (.int .i64 cy.st) := h.kd.cell 6 0 rfl _ rfl; go_simp⟩) hH ?_
            try simp only [Act.put, List.setIfInBounds_toArray, List.set_cons_zero, List.set_cons_succ]
            refine wpAnyH_take (i := 17) (oi := { dst := some 72, op := Op.fieldAddr 29 (Operand.tmp 14) 1, type := 0, pos := "law.go:168", after := #[{ on := 12, ground := Ground.guard }], guard := some (12, true) }) (v := .pointer (some ⟨ZB, 15, none⟩)) rfl (by kernel_rfl) (by kernel_rfl) (by kernel_rfl) (fun _ _ _ h => h) (Or.inl ⟨by rfl, fun w' h => by go_simp⟩) hH ?_
            try simp only [Act.put, List.setIfInBounds_toArray, List.set_cons_zero, List.set_cons_succ]
            refine wpAnyH_take (i := 18) (oi := { dst := some 73, op := Op.fieldAddr 27 (Operand.tmp 72) 0, type := 0, pos := "law.go:168", after := #[{ on := 17, ground := Ground.data }, { on := 12, ground := Ground.guard }], guard := some (12, true) }) (v := .pointer (some ⟨ZB, 15, none⟩)) rfl (by kernel_rfl) (by kernel_rfl) (by kernel_rfl) (fun _ _ _ h => h) (Or.inl ⟨by rfl, fun w' h => by go_simp⟩) hH ?_
            try simp only [Act.put, List.setIfInBounds_toArray, List.set_cons_zero, List.set_cons_succ]
            refine wpAnyH_take (i := 19) (oi := { dst := some 74, op := Op.load 3 (Operand.tmp 73), type := 3, pos := "law.go:168", after := #[{ on := 18, ground := Ground.data }, { on := 12, ground := Ground.guard }], guard := some (12, true) }) (v := .int .i64 cy.st) rfl (by kernel_rfl) (by kernel_rfl) (by kernel_rfl) (fun _ _ _ h => h) (Or.inl ⟨by rfl, fun w' h => by have q1 : w'.cell? ⟨ZB, 15, none⟩ = some (.int .i64 cy.st) := h.kd.cell 6 15 rfl _ rfl; go_simp⟩) hH ?_
            try simp only [Act.put, List.setIfInBounds_toArray, List.set_cons_zero, List.set_cons_succ]
            refine wpAnyH_ready (rs := [16]) (by kernel_rfl) (by simp) ?_
            refine AllReadyH.cons (o := { dst := some 71, op := Op.call { callee := Callee.value (Operand.func 8), args := #[Operand.tmp 70], argTypes := #[3] }, type := 9, pos := "law.go:168", after := #[{ on := 15, ground := Ground.data }, { on := 12, ground := Ground.chain }, { on := 12, ground := Ground.guard }], guard := some (12, true) }) rfl (fun K hK => ?_) AllReadyH.nil
            go_simp
            refine (NM1.out cy.st _ hH.kd.bb).mono ?_
            rintro e x4 ⟨rfl, hw⟩
            subst hw
            refine hK.out _ _ hH (fun hH => ?_)
            refine wpAnyH_ready (rs := [20]) (by kernel_rfl) (by simp) ?_
            refine AllReadyH.cons (o := { dst := some 75, op := Op.call { callee := Callee.value (Operand.func 9), args := #[Operand.tmp 74], argTypes := #[3] }, type := 9, pos := "law.go:168", after := #[{ on := 19, ground := Ground.data }, { on := 16, ground := Ground.chain }, { on := 12, ground := Ground.guard }], guard := some (12, true) }) rfl (fun K hK => ?_) AllReadyH.nil
            go_simp
            refine (NM2.out cy.st _).mono ?_
            rintro e x5 ⟨rfl, hw⟩
            subst hw
            refine hK.out _ _ hH (fun hH => ?_)
            refine wpAnyH_take (i := 21) (oi := { dst := some 76, op := Op.binOp BinOp.eql 9 (Operand.tmp 71) (Operand.tmp 75) 9, type := 4, pos := "law.go:168", after := #[{ on := 16, ground := Ground.data }, { on := 20, ground := Ground.data }, { on := 12, ground := Ground.guard }], guard := some (12, true) }) (v := .bool true) rfl (by kernel_rfl) (by kernel_rfl) (by kernel_rfl) (fun _ _ _ h => h) (Or.inl ⟨by rfl, fun w' h => by go_simp⟩) hH ?_
            try simp only [Act.put, List.setIfInBounds_toArray, List.set_cons_zero, List.set_cons_succ]
            refine wpAnyH_take (i := 22) (oi := { dst := some 77, op := Op.pick (Operand.tmp 67) (Operand.tmp 76) (Operand.const (Value.bool false)), type := 4, pos := "law.go:168", after := #[{ on := 12, ground := Ground.data }, { on := 21, ground := Ground.data }], guard := none }) (v := .bool true) rfl (by kernel_rfl) (by kernel_rfl) (by kernel_rfl) (fun _ _ _ h => h) (Or.inl ⟨by rfl, fun w' h => by go_simp⟩) hH ?_
            try simp only [Act.put, List.setIfInBounds_toArray, List.set_cons_zero, List.set_cons_succ]
            refine wpAnyH_take (i := 23) (oi := { dst := some 8, op := Op.assign (Operand.tmp 77), type := 4, pos := "law.go:168", after := #[{ on := 22, ground := Ground.data }, { on := 20, ground := Ground.chain }, { on := 0, ground := Ground.phase }, { on := 1, ground := Ground.phase }, { on := 2, ground := Ground.phase }, { on := 3, ground := Ground.phase }, { on := 4, ground := Ground.phase }, { on := 5, ground := Ground.phase }, { on := 6, ground := Ground.phase }, { on := 7, ground := Ground.phase }, { on := 8, ground := Ground.phase }, { on := 9, ground := Ground.phase }, { on := 10, ground := Ground.phase }, { on := 11, ground := Ground.phase }, { on := 12, ground := Ground.phase }, { on := 13, ground := Ground.phase }, { on := 14, ground := Ground.phase }, { on := 15, ground := Ground.phase }, { on := 16, ground := Ground.phase }, { on := 17, ground := Ground.phase }, { on := 18, ground := Ground.phase }, { on := 19, ground := Ground.phase }, { on := 20, ground := Ground.phase }, { on := 21, ground := Ground.phase }, { on := 22, ground := Ground.phase }], guard := none }) (v := .bool true) rfl (by kernel_rfl) (by kernel_rfl) (by kernel_rfl) (fun _ _ _ h => h) (Or.inl ⟨by rfl, fun w' h => by go_simp⟩) hH ?_
            try simp only [Act.put, List.setIfInBounds_toArray, List.set_cons_zero, List.set_cons_succ]
            refine wpAnyH_done (by kernel_rfl) ?_ _
            have S15 : Hid (CE w [(w.heap.size, 24, polL lp (.slice pa pn pc)), (w.heap.size + 1, 24, polL lq (.slice qa qn qc)), (XB, 29, prL cx cx), (YB, 29, prL cy cy), (OB, 39, opL o), (UB, 24, polL lq (.slice qa qn qc)), (ZB, 29, prL cy cy)] SB (2 * (k + 1)) x2) := hH.more (by omega)
            clear hH hK S13 hu2 hi2
            have KD9 : Hid (KI cy) := KY
            go_upto_region 19 with fail
            have o5 : x2.cell? ⟨OB, 5, none⟩ = some (.bool true) := by rw [← HOT.out]; exact S15.out.kd.cell 4 5 rfl _ rfl
            have hNb := HNb.out
            go_wp2_with (first
            | ((with_reducible refine at_loadT 29 ?_); refine step_load rfl 29 _ rfl (ZB) 0 rfl (prL cy cy) _ (Blk.all (S15.out.kd.at 6 rfl)) Tryd.underlying29 rfl (sizePr _ _) ?_)
            | ((with_reducible refine at_store ?_); refine step_store rfl 29 _ _ rfl (YB) 0 29 (prL cy cy) (prL cy cy) rfl rfl (S15.out.kd.at 3 rfl) (Nat.le_refl 30) (sizePr _ _) (prL_one _ _) ?_; intro w20 nb gb))
            have S20 : Hid (CE w [(w.heap.size, 24, polL lp (.slice pa pn pc)), (w.heap.size + 1, 24, polL lq (.slice qa qn qc)), (XB, 29, prL cx cx), (YB, 29, prL cy cy)] SB (2 * (k + 1)) w20) := (S15.out.set 3 rfl ⟨tyR.1.symm, tyR.2.1.symm, tyR.2.2.symm⟩ nb gb).four
            clear nb gb S15 o5
            go_roundw
            case rel => exact ⟨k + 1, cx, cy, by go_num, rfl, by omega, KX, KD9, S20⟩
            case measure => simp [intOf]; omega
    · obtain rfl : k = N := by omega
      have dlt : decide ((k : Int) < (k : Int)) = false := decide_eq_false (by omega)
      clear SPP SPQ RNP RNQ
      go_wp2_with fail
      obtain ⟨vL, vG, vs, us, sh, hn⟩ := SR.out.sh
      refine (still_at sh (by have := HNb.out; omega)).mono ?_
      rintro e w9 ⟨rfl, hw⟩
      rw [hw]
      clear hw sh
      go_wp2_with fail
      go_ret
      exact ⟨rfl, SR.out.kd.bb⟩
end Go.Proofs.YtmbbigkpeefjjabDoor
