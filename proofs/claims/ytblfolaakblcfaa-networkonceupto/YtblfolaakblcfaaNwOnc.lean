/-
  Ours: NetworkOnce.
-/
import Derived.Test.YtblfolaakblcfaaNwWas
import Derived.Test.YtblfolaakblcfaaNwCaL
namespace Go.Proofs.Ytblfolaakblcfaa
open Go.RowKit NwM

/-- A list lies apart from the network. -/
def Off (S : Nat → Prop) (v : Value) (ys : List Ac) : Prop := (∀ g, v.ownBlock = some g → ¬ S g) ∧ ∀ y ∈ ys, ∀ g, bkOf y = some g → ¬ S g
theorem RdA.kp {w w' : World} {S : Nat → Prop} {v : Value} {ys : List Ac} (h : RdA w v ys) (o : Off S v ys) (k : Kp S w w') : RdA w' v ys := ⟨own_kp h.1 k o.1, fun y hy => ⟨Rd.kp (h.2 y hy).1 k (fun g e => o.2 y hy g e), (h.2 y hy).2⟩⟩
/-- What NetworkOnce knows behind k steps. -/
structure OnI (w : World) (R : Nat) (S B : Nat → Prop) (os : List OpN) (k : Nat) (t : Nt) (v : Value) (ys : List Ac) (wr : World) : Prop where
  ln : LN w R S B k t wr
  on : On t
  al : AllN (sentIn os k) t
  rd : RdA wr v ys
  co : ys.map core = t.ac.map core
  off : ∀ g, (v.ownBlock = some g ∨ ∃ y ∈ ys, bkOf y = some g) → ¬ S g
theorem OnI.len {w : World} {R : Nat} {S B : Nat → Prop} {os : List OpN} {k : Nat} {t : Nt} {v : Value} {ys : List Ac} {wr : World} (h : OnI w R S B os k t v ys wr) : ys.length = t.ac.length := core_len h.co
/-- What a step leaves: the list that is asked for next. -/
structure OnS (os : List OpN) (k : Nat) (o : OpN) (t t' : Nt) (ys zs : List Ac) : Prop where
  co : zs.map core = t'.ac.map core
  le : ys.length ≤ zs.length
  pre : (zs.take ys.length).map core = ys.map core
  eq : o.kind ≠ 4 → zs.length = ys.length
  one : ∀ j z, ys.length ≤ j → zs[j]? = some z → accT (zs.take j) z.id = 0 ∧ z.tk = ((t'.now : Nat) : Int) ∧ sentIn os k z.id z.bs
theorem onS_of {os : List OpN} {k : Nat} {o : OpN} {t t' : Nt} {ids : List Int} {ys zs : List Ac} (q : Play t o t' ids) (hon : On t) (hal : AllN (sentIn os k) t) (hy : ys.map core = t.ac.map core) (hz : zs.map core = t'.ac.map core) : OnS os k o t t' ys zs := by
  obtain ⟨new, h1, h2, h3⟩ := play_ext q
  have ly := core_len hy
  have lz := core_len hz
  have l1 : t'.ac.length = t.ac.length + new.length := by rw [h1, List.length_append]
  refine ⟨hz, by omega, ?_, fun hk => ?_, fun j z hj hzj => ?_⟩
  · rw [List.map_take, hz, ← List.map_take, ly, h1, List.take_left', hy]
    rfl
  · rw [h2 hk] at l1
    simp at l1
    omega
  · obtain ⟨hjl, -⟩ := List.getElem?_eq_some_iff.1 hzj
    obtain ⟨a, ha⟩ : ∃ a, t'.ac[j]? = some a := ⟨t'.ac[j]'(by omega), List.getElem?_eq_getElem _⟩
    obtain ⟨c1, c2, c3⟩ := core_at hz hzj ha
    have hk4 : o.kind = 4 := Decidable.byContradiction fun hk => by
      rw [h2 hk] at l1
      simp at l1
      omega
    have hm : a ∈ new := by
      rw [h1, List.getElem?_append_right (by omega)] at ha
      exact List.mem_of_getElem? ha
    refine ⟨?_, by rw [c2]; exact h3 a hm, ?_⟩
    · have ht : (zs.take j).map core = (t'.ac.take j).map core := by rw [List.map_take, hz, ← List.map_take]
      rw [accT_core ht, c1]
      exact nodup_take (hon.play q).nd ha
    · rw [c1, c3]
      exact (hal.play q (fun h3 => by omega)).ac a (by rw [h1]; exact List.mem_append.2 (.inr hm))
set_option maxRecDepth 40000 in
set_option maxHeartbeats 8000000 in
theorem once_any (os : List OpN) (a : Option Addr) (n c : Nat) (w : World) (hr : RdO w (.slice a n c) os) (hln : os.length = n) (ho : ∀ o ∈ os, o.bs.length ≤ 1048576) (hn : n ≤ 1048576) :
    Calls Try.prog 5 #[.slice a n c] w fun e w' => e = .returned (.bool true) ∧ Below w.heap.size w w' := by
  have NW : Hid (Calls Try.prog 9 #[] w (NewN w)) := new_at w
  have HR : Hid (RdO w (.slice a n c) os ∧ os.length = n ∧ ∀ o ∈ os, o.bs.length ≤ 1048576) := ⟨hr, hln, ho⟩
  clear hr hln ho
  go_enter Try.func5, Try.ntmps5
  go_wp2_with fail
  refine NW.out.mono ?_
  intro e w1 h1
  obtain ⟨R, S, rfl, n1⟩ := LN.new h1
  have N1 : Hid (LN w R S (fun _ => False) 0 nt0 w1) := n1
  have CY : Hid (Calls Try.prog 19 #[] w1 fun e w' => e = .returned (.bool true) ∧ Below w1.heap.size w1 w') := calmly_at w1
  clear h1 n1 NW
  go_wp2_with fail
  refine CY.out.mono ?_
  rintro e w2 ⟨rfl, b2⟩
  have N2 : Hid (OnI w R S (fun _ => False) os 0 nt0 (.slice none 0 0) [] w2) := ⟨N1.out.later b2, On.nt0, AllN.nt0 _, ⟨Row3.nil _ _ _ _, (fun _ h => nomatch h)⟩, rfl, fun g hg => by rcases hg with h | ⟨y, hy, _⟩; cases h; cases hy⟩
  clear CY N1 b2
  go_wp2_with fail
  go_loopw [5, 4] (fun vk vb wr => ∃ k : Nat, ∃ ab nb cb Sk Bk t ys, vk = .int .i64 (k : Int) ∧ vb = .slice ab nb cb ∧ k ≤ n ∧ OnI w R Sk Bk os k t (.slice ab nb cb) ys wr) (fun vk _ _ => n - (intOf vk).toNat)
  case atStart => exact ⟨0, none, 0, 0, S, _, nt0, [], rfl, rfl, by omega, N2.out⟩
  case round =>
    obtain ⟨k, ab, nb, cb, Sk, Bk, t, ys, rfl, rfl, hk, hoi⟩ := hrel
    by_cases hlt : (k : Int) < (n : Int)
    · obtain ⟨o, hok⟩ : ∃ o, os[k]? = some o := ⟨os[k]'(by rw [HR.out.2.1]; omega), List.getElem?_eq_getElem _⟩
      obtain ⟨g, off, rfl, lg, y0, y1, y2, y3, y4, y5, rd⟩ := RdO.at HR.out.1 hoi.ln.no.below hok
      have hbs := HR.out.2.2 o (List.mem_of_getElem? hok)
      have PL : Hid (Calls Try.prog 20 #[.pointer (some ⟨R, 0, none⟩), .agg #[.int .i64 o.kind, .bool o.other, .string o.lt, .int .i64 o.id, .bool o.ack, .slice o.xa o.xn o.xc]] wr (PlayAns R Sk Bk t o wr)) := play_at R Sk Bk t o k wr hoi.ln.no.net hoi.ln.sm (by omega) rd (by omega)
      have hnb : ys.length = nb := by
        obtain ⟨_, _, ev, -, -⟩ := hoi.rd.1.len
        injection ev with _ ev _
        exact ev.symm
      have HK : Hid (OnI w R Sk Bk os k t (.slice ab nb cb) ys wr ∧ o.bs.length ≤ 1048576 ∧ os[k]? = some o ∧ ys.length = nb) := ⟨hoi, hbs, hok, hnb⟩
      have hkn : k < n := by omega
      have hnb2 : nb ≤ 6291456 := by
        have h1 := hoi.len
        have h2 := hoi.ln.sm.sz
        unfold sz at h2
        omega
      clear hoi hok rd hbs hnb
      go_wp2_with fail
      refine PL.out.mono ?_
      rintro e w3 ⟨a3, n3, c3, S3, B3, t3, ids, rfl, r3, p3, x3, q3⟩
      obtain rfl : n3 = ids.length := by
        obtain ⟨_, _, ev, -, -⟩ := (RowV.rd r3).len
        injection ev with _ ev _
        rw [ev, List.length_map]
      have L3 : Hid (LN w R S3 B3 (k + 1) t3 w3 ∧ Play t o t3 ids ∧ Rd w3 (.slice a3 ids.length c3) (ids.map iv) ∧ RdA w3 (.slice ab nb cb) ys) := ⟨HK.out.1.ln.play p3 q3 HK.out.2.1, q3, RowV.rd r3, HK.out.1.rd.kp ⟨fun g e => HK.out.1.off g (.inl e), fun y hy g e => HK.out.1.off g (.inr ⟨y, hy, e⟩)⟩ p3.k⟩
      have S3s : Hid (∀ g, S3 g → g < w3.heap.size) := fun g hg => p3.net.s hg
      obtain ⟨mt, hmt⟩ : ∃ mt : Nat, t3.now = mt := ⟨_, rfl⟩
      have HMT : Hid (t3.now = mt) := hmt
      have TL : Hid (∀ i ∈ ids, 1 ≤ accT ys i ∧ accT ys i < ((mt : Nat) : Int)) := fun i hi => by
        rw [accT_core HK.out.1.co, ← hmt]
        exact play_told q3 HK.out.1.on HK.out.1.ln.tk i hi
      have NX : Hid (Calls Try.prog 21 #[.pointer (some ⟨R, 0, none⟩)] w3 fun e w' => e = .returned (.int .i64 ((mt : Nat) : Int)) ∧ w3 = w') := by
        have := now_at R S3 B3 t3 w3 p3.net
        rw [hmt] at this
        exact this
      have IL : Hid (ids.length ≤ 100000000) := by
        show _ ≤ _
        cases q3 with
        | fate => exact Nat.zero_le _
        | calm => exact Nat.zero_le _
        | send => exact Nat.zero_le _
        | none => exact Nat.zero_le _
        | tick =>
          have h1 := foldA_ids (arrs t) (beg t, [])
          have h2 := row_len t ((t.now + 1) % 10)
          have h3 := HK.out.1.ln.sm.sz
          unfold sz at h3
          simp only [List.length_nil] at h1
          show ((arrs t).foldl arr1 (beg t, [])).2.length ≤ _
          unfold arrs at h1 ⊢
          omega
      clear PL r3 p3 x3 q3 y1 y2 y3 y4 y5 y0 lg hmt
      obtain ⟨NI, hNI⟩ : ∃ NI, ids.length = NI := ⟨_, rfl⟩
      have HNI : Hid (ids.length = NI) := hNI
      rw [hNI] at L3 IL ⊢
      have hNI2 : NI ≤ 100000000 := IL.out
      clear hNI IL
      go_wp2_with fail
      go_loopw [7] (fun vj wx => ∃ j : Nat, vj = .int .i64 (j : Int) ∧ j ≤ NI ∧ w3 = wx) (fun vj _ => NI - (intOf vj).toNat)
      case atStart => exact ⟨0, rfl, by omega, rfl⟩
      case round =>
        obtain ⟨j, rfl, hj, rfl⟩ := hrel
        by_cases hjl : (j : Int) < (NI : Int)
        · obtain ⟨x, hx⟩ : ∃ x, ids[j]? = some x := ⟨ids[j]'(by rw [HNI.out]; omega), List.getElem?_eq_getElem _⟩
          obtain ⟨gi, oi, rfl, lgi, z0⟩ := rd_at L3.out.2.2.1 (i := j) (u := iv x) (by rw [List.getElem?_map, hx]; rfl)
          unfold iv at z0
          have tl := TL.out x (List.mem_of_getElem? hx)
          have TO : Hid (Calls Try.prog 15 #[.slice ab nb cb, .int .i64 x] w3 fun e w' => e = .returned (.int .i64 (accT ys x)) ∧ w3 = w') := tickOf_at ys x _ w3 (by rw [HK.out.2.2.2]; omega) L3.out.2.2.2.1
          have e1 : (accT ys x == 0) = false := by simp; omega
          have e2 : decide (((mt : Nat) : Int) ≤ accT ys x) = false := decide_eq_false (by omega)
          generalize accT ys x = q at *
          have hjN : j < NI := by omega
          clear hx tl
          go_wp2_with fail
          refine TO.out.mono ?_
          rintro e _ ⟨rfl, rfl⟩
          clear TO
          go_wp2_with fail
          refine NX.out.mono ?_
          rintro e _ ⟨rfl, rfl⟩
          go_wp2_with fail
          go_roundw
          case rel => exact ⟨j + 1, by go_num, by omega, trivial⟩
          case measure => simp [intOf]; omega
        · obtain rfl : j = NI := by omega
          clear NX TL
          have AC : Hid (Calls Try.prog 16 #[.pointer (some ⟨R, 0, none⟩)] w3 (AccAns t3 w3)) := accepted_at R S3 B3 t3 w3 L3.out.1.no.net (by have := L3.out.1.sm.sz; unfold sz at this; omega) (fun a ha => by have := L3.out.1.al.ac a ha; omega)
          go_wp2_with fail
          refine AC.out.mono ?_
          rintro e w5 ⟨a5, n5, c5, zs, rfl, l5, q5, b5⟩
          have hn5 : zs.length = n5 := by
            obtain ⟨_, _, ev, -, -⟩ := l5.row.len
            injection ev with _ ev _
            exact ev.symm
          have hc5 : n5 ≤ c5 := by
            obtain ⟨_, _, ev, h, -⟩ := l5.row.len
            injection ev with _ e1 e2
            rw [e1, e2]; exact h
          have OQ : Hid (OnS os k o t t3 ys zs ∧ zs.length = n5 ∧ ys.length = nb) := ⟨onS_of L3.out.2.1 HK.out.1.on HK.out.1.al HK.out.1.co q5, hn5, HK.out.2.2.2⟩
          have F5 : Hid (OnI w R S3 B3 os (k + 1) t3 (.slice a5 n5 c5) zs w5) := by
            refine ⟨L3.out.1.later b5, HK.out.1.on.play L3.out.2.1, (HK.out.1.al.mono (fun i b h => h.mono (Nat.le_succ k))).play L3.out.2.1 (fun h3 => ⟨k, o, Nat.lt_succ_self k, HK.out.2.2.1, h3, rfl, rfl⟩), l5.rd (core_bs (P := fun b => b.length ≤ 140737488351232) q5 (fun a ha => by have := L3.out.1.al.ac a ha; omega)), q5, fun g hg q => ?_⟩
            have lt := S3s.out g q
            rcases hg with h | ⟨y, hy, h⟩
            · have := (own_heap l5.row h).1; omega
            · have := RowV.block_ge (l5.bd y hy) h; omega
          have RB : Hid (RdA w5 (.slice ab nb cb) ys) := L3.out.2.2.2.later b5
          have BZ : Hid (n5 ≤ 6291462) := by
            show _ ≤ _
            have h1 := core_len q5
            have h2 := L3.out.1.sm.sz
            unfold sz at h2
            omega
          have ln5 : nb ≤ n5 := by have := OQ.out.1.le; rw [OQ.out.2.1, OQ.out.2.2] at this; exact this
          have e1 : decide ((n5 : Int) < (nb : Int)) = false := decide_eq_false (by omega)
          have e1n : decide (n5 < nb) = false := decide_eq_false (by omega)
          have nc5 : nb ≤ c5 := by omega
          have hn52 : n5 ≤ 6291462 := BZ.out
          have SM : Hid (Calls Try.prog 18 #[.slice a5 nb c5, .slice ab nb cb] w5 fun e w' => e = .returned (.bool true) ∧ Below w5.heap.size w5 w') := by
            have hcut := F5.out.rd.cut (k := nb) ln5
            refine sameAcc_yes (zs.take nb) ys _ _ w5 (by rw [List.length_take, hn5]; omega) hcut RB.out ?_
            have := OQ.out.1.pre
            rw [OQ.out.2.2] at this
            exact this
          clear AC l5 q5 b5 hn5
          go_wp2_with fail
          refine SM.out.mono ?_
          rintro e w6 ⟨rfl, b6⟩
          have F6 : Hid (OnI w R S3 B3 os (k + 1) t3 (.slice a5 n5 c5) zs w6) := ⟨F5.out.ln.later b6, F5.out.on, F5.out.al, F5.out.rd.later b6, F5.out.co, F5.out.off⟩
          clear SM F5 RB b6
          obtain ⟨g', off', ee, lg6, y06, -⟩ := RdO.at HR.out.1 F6.out.ln.no.below HK.out.2.2.1
          injection ee with ee
          injection ee with ee1 ee2
          subst ee1 ee2
          by_cases k4 : o.kind = 4
          · rw [k4] at y06
            clear k4
            have N20 : Hid (OnI w R S3 B3 os (k + 1) t3 (.slice a5 n5 c5) zs w6) := F6.out
            have OS : Hid (OnS os k o t t3 ys zs ∧ zs.length = n5 ∧ ys.length = nb) := ⟨OQ.out.1, OQ.out.2.1, OQ.out.2.2⟩
            have NWC : Hid (∀ w', Below w6.heap.size w6 w' → Calls Try.prog 21 #[.pointer (some ⟨R, 0, none⟩)] w' fun e w'' => e = .returned (.int .i64 ((mt : Nat) : Int)) ∧ w' = w'') := fun w' b => by
              have := now_at R S3 B3 t3 w' (N20.out.ln.no.net.below b)
              rw [HMT.out] at this
              exact this
            go_wp2_with fail
            go_loopw [10] (fun vj wx => ∃ j : Nat, vj = .int .i64 (j : Int) ∧ nb ≤ j ∧ j ≤ n5 ∧ Below w6.heap.size w6 wx) (fun vj _ => n5 - (intOf vj).toNat)
            case atStart => exact ⟨nb, rfl, by omega, by have := OS.out.1.le; rw [OS.out.2.1, OS.out.2.2] at this; exact this, Below.refl _ _⟩
            case round =>
              obtain ⟨j, rfl, hj1, hj2, hbx⟩ := hrel
              by_cases hjl : (j : Int) < (n5 : Int)
              · obtain ⟨z, hzj⟩ : ∃ z, zs[j]? = some z := ⟨zs[j]'(by rw [OS.out.2.1]; omega), List.getElem?_eq_getElem _⟩
                have one := OS.out.1.one j z (by rw [OS.out.2.2]; exact hj1) hzj
                obtain ⟨gz, rfl, lgz⟩ : ∃ g, a5 = some ⟨g, 0, none⟩ ∧ g < wr.heap.size := by
                  obtain ⟨g, cap, ev, -, lg, -⟩ := Row3.some N20.out.rd.1 (by rw [OS.out.2.1]; omega)
                  injection ev with ev _ _
                  exact ⟨g, ev, Nat.lt_of_lt_of_le lg hbx.size⟩
                have jc : j ≤ c5 := by omega
                have rdx : ∀ w', Below wr.heap.size wr w' → RdA w' (.slice (some ⟨gz, 0, none⟩) n5 c5) zs := fun w' b => N20.out.rd.later (below_trans hbx b)
                have CX : Hid (∀ w', Below wr.heap.size wr w' → w'.cell? ⟨gz, j * 3, none⟩ = some (.int .i64 z.id) ∧ w'.cell? ⟨gz, j * 3 + 1, none⟩ = some (.int .i64 ((mt : Nat) : Int)) ∧ w'.cell? ⟨gz, j * 3 + 2, none⟩ = some (.slice z.ba z.bn z.bc)) := fun w' b => by
                  have r := (rdx w' b).1
                  have c0 := (Row3.cell acL3 r hzj 0 _ rfl).2
                  have c1 := (Row3.cell acL3 r hzj 1 _ rfl).2
                  rw [Nat.add_zero] at c0
                  rw [one.2.1, HMT.out] at c1
                  exact ⟨c0, c1, (Row3.cell acL3 r hzj 2 _ rfl).2⟩
                have TO : Hid (∀ w', Below wr.heap.size wr w' → Calls Try.prog 15 #[.slice (some ⟨gz, 0, none⟩) j c5, .int .i64 z.id] w' fun e w'' => e = .returned (.int .i64 0) ∧ Below wr.heap.size wr w'') := fun w' b => by
                  have hl1 : (zs.take j).length ≤ 1000000000000 := by rw [List.length_take, OS.out.2.1]; have := BZ.out; omega
                  refine (tickOf_at (zs.take j) z.id _ w' hl1 ((rdx w' b).cut (by omega)).1).mono ?_
                  rintro e w'' ⟨rfl, rfl⟩
                  exact ⟨by rw [one.1], b⟩
                have NC : Hid (∀ w', Below wr.heap.size wr w' → Calls Try.prog 21 #[.pointer (some ⟨R, 0, none⟩)] w' fun e w'' => e = .returned (.int .i64 ((mt : Nat) : Int)) ∧ Below wr.heap.size wr w'') := fun w' b => by
                  refine (NWC.out w' (below_trans hbx b)).mono ?_
                  rintro e w'' ⟨rfl, rfl⟩
                  exact ⟨rfl, b⟩
                have WS : Hid (∀ w', Below wr.heap.size wr w' → Calls Try.prog 22 #[.slice (some ⟨g, off, none⟩) n c, .int .i64 ((k : Nat) : Int), .agg #[.int .i64 z.id, .int .i64 ((mt : Nat) : Int), .slice z.ba z.bn z.bc]] w' fun e w'' => e = .returned (.bool true) ∧ Below wr.heap.size wr w'') := fun w' b => by
                  have hzt : z.tk = ((mt : Nat) : Int) := by rw [one.2.1, HMT.out]
                  have := wasSent_yes os (some ⟨g, off, none⟩) n c k z w w' HR.out.1 HR.out.2.1 (below_trans N20.out.ln.no.below (below_trans hbx b)) HR.out.2.2 (by omega) hn ((rdx w' b).2 z (List.mem_of_getElem? hzj)).1 one.2.2
                  rw [hzt] at this
                  refine this.mono ?_
                  rintro e w'' ⟨rfl, b'⟩
                  exact ⟨rfl, below_trans b b'⟩
                have e1 : ((0 : Int) != 0) = false := by decide
                have e2 : (((mt : Nat) : Int) != ((mt : Nat) : Int)) = false := by simp
                have HBX : Hid (Below w6.heap.size w6 wr) := hbx
                have S0 : Hid (Below wr.heap.size wr wr.drew) := Below.drew (Below.refl _ _)
                have hjn : j < n5 := by omega
                have zid : Hid (zs[j]? = some z) := hzj
                clear one rdx hzj hbx
                go_upto_region 23 with fail
                go_region_held3 (fun w' => Below wr.heap.size wr w' ∧ w'.cell? ⟨gz, j * 3, none⟩ = some (.int .i64 z.id) ∧ w'.cell? ⟨gz, j * 3 + 1, none⟩ = some (.int .i64 ((mt : Nat) : Int)) ∧ w'.cell? ⟨gz, j * 3 + 2, none⟩ = some (.slice z.ba z.bn z.bc)) (first | assumption | exact ⟨S0.out, CX.out _ S0.out⟩ | exact ⟨b3, CX.out _ b3⟩ | exact ⟨b2, CX.out _ b2⟩ | exact ⟨b1, CX.out _ b1⟩) (first
                  | (go_at_call 15; refine (TO.out _ S0.out).mono ?_; rintro e wa ⟨rfl, b1⟩)
                  | (go_at_call 21; refine (NC.out _ b1).mono ?_; rintro e wb ⟨rfl, b2⟩)
                  | (go_at_call 22; refine (WS.out _ b2).mono ?_; rintro e wc ⟨rfl, b3⟩))
                have F3 : Hid (Below w6.heap.size w6 wc) := below_trans HBX.out b3
                clear CX TO NC WS HBX S0 b1 b2 b3
                go_wp2_with fail
                go_roundw
                case rel => exact ⟨j + 1, by go_num, by omega, by omega, F3.out⟩
                case measure => simp [intOf]; omega
              · obtain rfl : j = n5 := by omega
                have FE : Hid (OnI w R S3 B3 os (k + 1) t3 (.slice a5 j c5) zs wr) := ⟨N20.out.ln.later hbx, N20.out.on, N20.out.al, N20.out.rd.later hbx, N20.out.co, N20.out.off⟩
                clear hbx N20 NWC
                go_wp2_with fail
                go_roundw
                case rel => exact ⟨k + 1, a5, j, c5, S3, B3, t3, zs, by go_num, rfl, by omega, FE.out⟩
                case measure => simp [intOf]; omega
          · have e4 : (o.kind != 4) = true := by simp [k4]
            obtain rfl : n5 = nb := by have := OQ.out.1.eq k4; rw [OQ.out.2.1, OQ.out.2.2] at this; exact this
            have e5 : ((n5 : Int) != (n5 : Int)) = false := by simp
            obtain ⟨kd, hkd⟩ : ∃ kd, o.kind = kd := ⟨_, rfl⟩
            rw [hkd] at y06 e4
            clear k4 hkd
            have N20 : Hid (OnI w R S3 B3 os (k + 1) t3 (.slice a5 n5 c5) zs w6) := F6.out
            have OS : Hid (OnS os k o t t3 ys zs ∧ zs.length = n5 ∧ ys.length = n5) := ⟨OQ.out.1, OQ.out.2.1, OQ.out.2.2⟩
            have NWC : Hid (∀ w', Below w6.heap.size w6 w' → Calls Try.prog 21 #[.pointer (some ⟨R, 0, none⟩)] w' fun e w'' => e = .returned (.int .i64 ((mt : Nat) : Int)) ∧ w' = w'') := fun w' b => by
              have := now_at R S3 B3 t3 w' (N20.out.ln.no.net.below b)
              rw [HMT.out] at this
              exact this
            go_wp2_with fail
            go_loopw [10] (fun vj wx => ∃ j : Nat, vj = .int .i64 (j : Int) ∧ n5 ≤ j ∧ j ≤ n5 ∧ Below w6.heap.size w6 wx) (fun vj _ => n5 - (intOf vj).toNat)
            case atStart => exact ⟨n5, rfl, by omega, by have := OS.out.1.le; rw [OS.out.2.1, OS.out.2.2] at this; exact this, Below.refl _ _⟩
            case round =>
              obtain ⟨j, rfl, hj1, hj2, hbx⟩ := hrel
              by_cases hjl : (j : Int) < (n5 : Int)
              · obtain ⟨z, hzj⟩ : ∃ z, zs[j]? = some z := ⟨zs[j]'(by rw [OS.out.2.1]; omega), List.getElem?_eq_getElem _⟩
                have one := OS.out.1.one j z (by rw [OS.out.2.2]; exact hj1) hzj
                obtain ⟨gz, rfl, lgz⟩ : ∃ g, a5 = some ⟨g, 0, none⟩ ∧ g < wr.heap.size := by
                  obtain ⟨g, cap, ev, -, lg, -⟩ := Row3.some N20.out.rd.1 (by rw [OS.out.2.1]; omega)
                  injection ev with ev _ _
                  exact ⟨g, ev, Nat.lt_of_lt_of_le lg hbx.size⟩
                have jc : j ≤ c5 := by omega
                have rdx : ∀ w', Below wr.heap.size wr w' → RdA w' (.slice (some ⟨gz, 0, none⟩) n5 c5) zs := fun w' b => N20.out.rd.later (below_trans hbx b)
                have CX : Hid (∀ w', Below wr.heap.size wr w' → w'.cell? ⟨gz, j * 3, none⟩ = some (.int .i64 z.id) ∧ w'.cell? ⟨gz, j * 3 + 1, none⟩ = some (.int .i64 ((mt : Nat) : Int)) ∧ w'.cell? ⟨gz, j * 3 + 2, none⟩ = some (.slice z.ba z.bn z.bc)) := fun w' b => by
                  have r := (rdx w' b).1
                  have c0 := (Row3.cell acL3 r hzj 0 _ rfl).2
                  have c1 := (Row3.cell acL3 r hzj 1 _ rfl).2
                  rw [Nat.add_zero] at c0
                  rw [one.2.1, HMT.out] at c1
                  exact ⟨c0, c1, (Row3.cell acL3 r hzj 2 _ rfl).2⟩
                have TO : Hid (∀ w', Below wr.heap.size wr w' → Calls Try.prog 15 #[.slice (some ⟨gz, 0, none⟩) j c5, .int .i64 z.id] w' fun e w'' => e = .returned (.int .i64 0) ∧ Below wr.heap.size wr w'') := fun w' b => by
                  have hl1 : (zs.take j).length ≤ 1000000000000 := by rw [List.length_take, OS.out.2.1]; have := BZ.out; omega
                  refine (tickOf_at (zs.take j) z.id _ w' hl1 ((rdx w' b).cut (by omega)).1).mono ?_
                  rintro e w'' ⟨rfl, rfl⟩
                  exact ⟨by rw [one.1], b⟩
                have NC : Hid (∀ w', Below wr.heap.size wr w' → Calls Try.prog 21 #[.pointer (some ⟨R, 0, none⟩)] w' fun e w'' => e = .returned (.int .i64 ((mt : Nat) : Int)) ∧ Below wr.heap.size wr w'') := fun w' b => by
                  refine (NWC.out w' (below_trans hbx b)).mono ?_
                  rintro e w'' ⟨rfl, rfl⟩
                  exact ⟨rfl, b⟩
                have WS : Hid (∀ w', Below wr.heap.size wr w' → Calls Try.prog 22 #[.slice (some ⟨g, off, none⟩) n c, .int .i64 ((k : Nat) : Int), .agg #[.int .i64 z.id, .int .i64 ((mt : Nat) : Int), .slice z.ba z.bn z.bc]] w' fun e w'' => e = .returned (.bool true) ∧ Below wr.heap.size wr w'') := fun w' b => by
                  have hzt : z.tk = ((mt : Nat) : Int) := by rw [one.2.1, HMT.out]
                  have := wasSent_yes os (some ⟨g, off, none⟩) n c k z w w' HR.out.1 HR.out.2.1 (below_trans N20.out.ln.no.below (below_trans hbx b)) HR.out.2.2 (by omega) hn ((rdx w' b).2 z (List.mem_of_getElem? hzj)).1 one.2.2
                  rw [hzt] at this
                  refine this.mono ?_
                  rintro e w'' ⟨rfl, b'⟩
                  exact ⟨rfl, below_trans b b'⟩
                have e1 : ((0 : Int) != 0) = false := by decide
                have e2 : (((mt : Nat) : Int) != ((mt : Nat) : Int)) = false := by simp
                have HBX : Hid (Below w6.heap.size w6 wr) := hbx
                have S0 : Hid (Below wr.heap.size wr wr.drew) := Below.drew (Below.refl _ _)
                have hjn : j < n5 := by omega
                have zid : Hid (zs[j]? = some z) := hzj
                clear one rdx hzj hbx
                go_upto_region 23 with fail
                go_region_held3 (fun w' => Below wr.heap.size wr w' ∧ w'.cell? ⟨gz, j * 3, none⟩ = some (.int .i64 z.id) ∧ w'.cell? ⟨gz, j * 3 + 1, none⟩ = some (.int .i64 ((mt : Nat) : Int)) ∧ w'.cell? ⟨gz, j * 3 + 2, none⟩ = some (.slice z.ba z.bn z.bc)) (first | assumption | exact ⟨S0.out, CX.out _ S0.out⟩ | exact ⟨b3, CX.out _ b3⟩ | exact ⟨b2, CX.out _ b2⟩ | exact ⟨b1, CX.out _ b1⟩) (first
                  | (go_at_call 15; refine (TO.out _ S0.out).mono ?_; rintro e wa ⟨rfl, b1⟩)
                  | (go_at_call 21; refine (NC.out _ b1).mono ?_; rintro e wb ⟨rfl, b2⟩)
                  | (go_at_call 22; refine (WS.out _ b2).mono ?_; rintro e wc ⟨rfl, b3⟩))
                have F3 : Hid (Below w6.heap.size w6 wc) := below_trans HBX.out b3
                clear CX TO NC WS HBX S0 b1 b2 b3
                go_wp2_with fail
                go_roundw
                case rel => exact ⟨j + 1, by go_num, by omega, by omega, F3.out⟩
                case measure => simp [intOf]; omega
              · obtain rfl : j = n5 := by omega
                have FE : Hid (OnI w R S3 B3 os (k + 1) t3 (.slice a5 j c5) zs wr) := ⟨N20.out.ln.later hbx, N20.out.on, N20.out.al, N20.out.rd.later hbx, N20.out.co, N20.out.off⟩
                clear hbx N20 NWC
                go_wp2_with fail
                go_roundw
                case rel => exact ⟨k + 1, a5, j, c5, S3, B3, t3, zs, by go_num, rfl, by omega, FE.out⟩
                case measure => simp [intOf]; omega
    · have FB : Hid (Below w.heap.size w wr) := hoi.ln.no.below
      clear hoi
      go_wp2_with fail
      go_ret
      exact ⟨rfl, FB.out⟩
end Go.Proofs.Ytblfolaakblcfaa
