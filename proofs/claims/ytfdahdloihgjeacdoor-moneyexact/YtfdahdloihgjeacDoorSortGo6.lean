/-
  Ours: slices.stableCmpFunc, slices.SortStableFunc walked.
-/
import Derived.Test.YtfdahdloihgjeacDoorSortGo5
import Derived.Test.YtfdahdloihgjeacDoorBlocks
namespace Go.Proofs.YtfdahdloihgjeacDoor
open Go.RowKit Stable

def idf : Nat → Nat := fun i => i

theorem insertion_none {g n cap0 a b : Nat} {w : World} (bx : Nat) (A B : Int) (hA : A = (a : Int)) (hB : B = (b : Int)) (hab : b ≤ a) (ha : a ≤ 1048576) :
    Calls Tryd.prog 81 #[.slice (some ⟨g, 0, none⟩) n cap0, .int .i64 A, .int .i64 B, clo bx] w fun e w' => e = .returned (.tuple #[]) ∧ w' = w := by
  subst hA hB
  unfold clo
  have h : ¬ (a : Int) + 1 < (b : Int) := by omega
  go_enter Tryd.func81, Tryd.ntmps81
  go_wp2
  go_loop [8] (fun i => i = .int .i64 ((a : Int) + 1)) (fun _ => 0)
  case atStart => rfl
  case round =>
    subst hrel
    go_wp2
    go_end0
    exact ⟨rfl, rfl⟩

theorem insertion_at {g n bx gr o cap cap0 a b : Nat} {R : Nat → Int} {f : Nat → Nat} {w : World} (A B : Int) (hA : A = (a : Int)) (hB : B = (b : Int)) (hE : Env g n bx gr o cap R w) (hC : Cells g n w f) (hab : a ≤ b) (hbn : b ≤ n) (hn : n ≤ 1048576)
    (hv : ∀ i, i < n → f i < n) (hinc : ∀ p q, a ≤ p → p < q → q < b → f p < f q) :
    Calls Tryd.prog 81 #[.slice (some ⟨g, 0, none⟩) n cap0, .int .i64 A, .int .i64 B, clo bx] w fun e w' =>
      e = .returned (.tuple #[]) ∧ Only g w w' ∧ ∃ f', Cells g n w' f' ∧ Shuf a b f f' ∧ Sorted R a b f' := by
  by_cases h : a < b
  · subst hA hB; exact insertion_any hE hC h hbn hn hv hinc
  · exact (insertion_none bx A B hA hB (by omega) (by omega)).mono fun e w' ⟨he, hw⟩ => ⟨he, by rw [hw]; exact ⟨Only.refl _ _, f, hC, Shuf.refl _ _ _, fun i j h1 h2 h3 => by omega⟩⟩

theorem idf_val {n : Nat} {f : Nat → Nat} (s : Shuf 0 n idf f) : ∀ i, i < n → f i < n := shuf_val s (Nat.le_refl _) fun _ hi => hi

theorem from_of {R : Nat → Int} {n bs k : Nat} {f : Nat → Nat} (t : Till R n bs k f) (last : k * bs < n → Blk R n (k * bs) bs f) (hk : n ≤ k * bs + bs) : From R n bs 0 f := fun c _ hc => by
  by_cases h : c < k
  · exact t c h
  · by_cases e : c = k
    · subst e; exact last hc
    · have := mul_le bs (show k < c by omega)
      omega

set_option maxRecDepth 100000 in
set_option maxHeartbeats 4000000 in
theorem stable_any {g n bx gr o cap cap0 : Nat} {R : Nat → Int} {w : World} (hE : Env g n bx gr o cap R w) (hC : Cells g n w idf) (hn : n ≤ 1048576) :
    Calls Tryd.prog 69 #[.slice (some ⟨g, 0, none⟩) n cap0, .int .i64 (n : Int), clo bx] w fun e w' =>
      e = .returned (.tuple #[]) ∧ Only g w w' ∧ ∃ f', Cells g n w' f' ∧ Shuf 0 n idf f' ∧ Sorted R 0 n f' := by
  have HE : Hid (Env g n bx gr o cap R w) := hE
  have MU : Hid (MergeUpto n g n bx gr o cap cap0 R) := symMerge_upto hn n
  clear hE
  generalize hcl : clo bx = cl
  go_enter Tryd.func69, Tryd.ntmps69
  go_wp2
  go_loopw [7, 8] (fun x y wr => ∃ (k A : Nat) (f : Nat → Nat), x = .int .i64 (A : Int) ∧ y = .int .i64 ((A : Int) + 20) ∧ A = k * 20 ∧ A ≤ n ∧ Only g w wr ∧ Cells g n wr f ∧ Shuf 0 n idf f ∧ Till R n 20 k f ∧ (∀ i, A ≤ i → f i = i)) (fun x _ _ => n - (intOf x).toNat)
  case atStart => exact ⟨0, 0, idf, rfl, rfl, rfl, by omega, Only.refl _ _, hC, Shuf.refl _ _ _, fun c hc => by omega, fun i _ => rfl⟩
  case round =>
    obtain ⟨k, A, f, rfl, rfl, hA, hAn, hO, hCf, hSh, hTl, hId⟩ := hrel
    have HA : Hid (A = k * 20) := hA
    have HO : Hid (Only g w wr) := hO
    have HC : Hid (Cells g n wr f) := hCf
    have HS : Hid (Shuf 0 n idf f) := hSh
    have HT : Hid (Till R n 20 k f) := hTl
    have HI : Hid (∀ i, A ≤ i → f i = i) := hId
    clear hA hO hCf hSh hTl hId
    by_cases hlt : (A : Int) + 20 ≤ (n : Int)
    · go_wp2_with fail
      rw [← hcl]
      refine (insertion_at (a := A) (b := A + 20) _ _ rfl (by omega) (HE.out.later HO.out) HC.out (by omega) (by omega) hn (idf_val HS.out) (fun p q p1 p2 p3 => by rw [HI.out p p1, HI.out q (by omega)]; exact p2)).mono ?_
      rintro ee w1 ⟨rfl, o1, f1, c1, s1, z1⟩
      rw [hcl]
      have o2 := HO.out.trans o1
      have s2 := HS.out.trans (s1.wide (Nat.zero_le _) (by omega))
      have t2 : Till R n 20 (k + 1) f1 := HT.out.step (fun i hi => s1.out i (by have := HA.out; omega)) (by
        rw [← HA.out]; exact Blk.sorted s1 (fun i i1 _ => HI.out i i1) z1 (Or.inl rfl))
      have i2 : ∀ i, A + 20 ≤ i → f1 i = i := fun i hi => (s1.out i (by omega)).trans (HI.out i (by omega))
      have a2 : A + 20 = (k + 1) * 20 := by have := HA.out; omega
      have X2 : Hid (Only g w w1 ∧ Cells g n w1 f1 ∧ Shuf 0 n idf f1 ∧ Till R n 20 (k + 1) f1 ∧ (∀ i, A + 20 ≤ i → f1 i = i)) := ⟨o2, c1, s2, t2, i2⟩
      clear o1 o2 c1 s1 s2 z1 t2 i2 HC HS HT HI HO HA
      go_wp2_with fail
      go_roundw
      case rel => exact ⟨k + 1, A + 20, f1, by go_num, by go_num, a2, by omega, X2.out.1, X2.out.2.1, X2.out.2.2.1, X2.out.2.2.2.1, X2.out.2.2.2.2⟩
      case measure => simp [intOf]; omega
    · go_wp2_with fail
      rw [← hcl]
      refine (insertion_at (a := A) (b := n) _ _ rfl rfl (HE.out.later HO.out) HC.out hAn (Nat.le_refl _) hn (idf_val HS.out) (fun p q p1 p2 p3 => by rw [HI.out p p1, HI.out q (by omega)]; exact p2)).mono ?_
      rintro ee w1 ⟨rfl, o1, f1, c1, s1, z1⟩
      rw [hcl]
      have X1 : Hid (Only g w w1 ∧ Cells g n w1 f1 ∧ Shuf 0 n idf f1 ∧ From R n 20 0 f1) := by
        refine ⟨HO.out.trans o1, c1, HS.out.trans (s1.wide (Nat.zero_le _) (Nat.le_refl _)), ?_⟩
        have ha := HA.out
        refine from_of (k := k) (fun c hc => ?_) (fun hk => ?_) (by omega)
        · have := mul_le 20 hc
          exact (HT.out c hc).congr fun i i1 i2 => s1.out i (Or.inl (by omega))
        · rw [← ha]; exact Blk.sorted s1 (fun i i1 _ => HI.out i i1) z1 (Or.inr ⟨rfl, by omega⟩)
      clear o1 c1 s1 z1 HC HS HT HI HO HA hAn
      go_wp2
      go_loopw [6, 7, 8, 9] (fun x _ _ _ wr => ∃ (bs : Nat) (f : Nat → Nat), x = .int .i64 (bs : Int) ∧ 20 ≤ bs ∧ bs ≤ 2 * n + 20 ∧ Only g w wr ∧ Cells g n wr f ∧ Shuf 0 n idf f ∧ From R n bs 0 f) (fun x _ _ _ _ => n - (intOf x).toNat)
      case atStart => exact ⟨20, f1, rfl, by omega, by omega, X1.out.1, X1.out.2.1, X1.out.2.2.1, X1.out.2.2.2⟩
      case round =>
        clear X1
        obtain ⟨bs, f2, rfl, bs1, bs2, hO, hCf, hSh, hFr⟩ := hrel
        have X2 : Hid (Only g w wr ∧ Cells g n wr f2 ∧ Shuf 0 n idf f2 ∧ From R n bs 0 f2) := ⟨hO, hCf, hSh, hFr⟩
        clear hO hCf hSh hFr
        by_cases hlt : (bs : Int) < (n : Int)
        · go_wp2
          go_loopw [7, 8] (fun x y wr => ∃ (k A : Nat) (f : Nat → Nat), x = .int .i64 (A : Int) ∧ y = .int .i64 ((A : Int) + 2 * (bs : Int)) ∧ A = k * (2 * bs) ∧ A ≤ n ∧ Only g w wr ∧ Cells g n wr f ∧ Shuf 0 n idf f ∧ Till R n (2 * bs) k f ∧ From R n bs (2 * k) f) (fun x _ _ => n - (intOf x).toNat)
          case atStart => exact ⟨0, 0, f2, rfl, by go_num, by simp, by omega, X2.out.1, X2.out.2.1, X2.out.2.2.1, fun c hc => by omega, X2.out.2.2.2⟩
          case round =>
            clear X2
            obtain ⟨k, A, f, rfl, rfl, hA, hAn, hO, hCf, hSh, hTl, hFr⟩ := hrel
            have e1 : 2 * k * bs = A := by rw [hA, Nat.mul_comm 2 k, Nat.mul_assoc]
            have e2 : (2 * k + 1) * bs = A + bs := by rw [mul_step, e1]
            have e3 : (2 * k + 2) * bs = A + 2 * bs := by rw [show 2 * k + 2 = (2 * k + 1) + 1 from rfl, mul_step, e2]; omega
            have B0 : A < n → Blk R n A bs f := fun h => by have := hFr (2 * k) (Nat.le_refl _); rw [e1] at this; exact this h
            have B1 : A + bs < n → Blk R n (A + bs) bs f := fun h => by have := hFr (2 * k + 1) (by omega); rw [e2] at this; exact this h
            have X3 : Hid (A = k * (2 * bs) ∧ Only g w wr ∧ Cells g n wr f ∧ Shuf 0 n idf f ∧ Till R n (2 * bs) k f ∧ From R n bs (2 * k) f ∧ (A < n → Blk R n A bs f) ∧ (A + bs < n → Blk R n (A + bs) bs f) ∧ (2 * k + 2) * bs = A + 2 * bs) := ⟨hA, hO, hCf, hSh, hTl, hFr, B0, B1, e3⟩
            clear hA hO hCf hSh hTl hFr e1 e2 e3 B0 B1
            by_cases hlt2 : (A : Int) + 2 * (bs : Int) ≤ (n : Int)
            · have tw : Hid (Two R A (A + bs) (A + 2 * bs) f) := (X3.out.2.2.2.2.2.2.1 (by omega)).two (X3.out.2.2.2.2.2.2.2.1 (by omega)) (by omega) (Nat.le_refl _) (by omega)
              go_wp2_with fail
              rw [← hcl]
              refine (MU.out A (A + bs) (A + 2 * bs) _ _ _ f _ rfl (by omega) (by omega) (by omega) (HE.out.later X3.out.2.1) X3.out.2.2.1 (by omega) (by omega) (by omega) (idf_val X3.out.2.2.2.1) tw.out).mono ?_
              rintro ee w2 ⟨rfl, o1, f3, c1, s1, z1⟩
              rw [hcl]
              have X4 : Hid (A + 2 * bs = (k + 1) * (2 * bs) ∧ Only g w w2 ∧ Cells g n w2 f3 ∧ Shuf 0 n idf f3 ∧ Till R n (2 * bs) (k + 1) f3 ∧ From R n bs (2 * (k + 1)) f3) := by
                obtain ⟨a1, a2, a3, a4, a5, a6, a7, a8, a9⟩ := X3.out
                refine ⟨by rw [mul_step k (2 * bs), ← a1], a2.trans o1, c1, a4.trans (s1.wide (Nat.zero_le _) (by omega)), a5.step (fun i hi => s1.out i (Or.inl (by omega))) (by
                  rw [← a1]; exact Blk.merged (a7 (by omega)) (a8 (by omega)) (by omega) (Or.inl rfl) s1 z1), a6.step _ (by omega) fun i hi => s1.out i (Or.inr ?_)⟩
                rw [show 2 * (k + 1) = 2 * k + 2 from by omega, a9] at hi; exact hi
              clear o1 c1 s1 z1 X3 tw
              go_wp2_with fail
              go_roundw
              case rel => exact ⟨k + 1, A + 2 * bs, f3, by go_num, by go_num, X4.out.1, by omega, X4.out.2.1, X4.out.2.2.1, X4.out.2.2.2.1, X4.out.2.2.2.2.1, X4.out.2.2.2.2.2⟩
              case measure => simp [intOf]; omega
            · by_cases hm : (A : Int) + (bs : Int) < (n : Int)
              · have tw : Hid (Two R A (A + bs) n f) := (X3.out.2.2.2.2.2.2.1 (by omega)).two (X3.out.2.2.2.2.2.2.2.1 (by omega)) (by omega) (by omega) (Nat.le_refl _)
                go_wp2_with fail
                rw [← hcl]
                refine (MU.out A (A + bs) n _ _ _ f _ rfl (by omega) rfl (by omega) (HE.out.later X3.out.2.1) X3.out.2.2.1 (by omega) (by omega) (Nat.le_refl _) (idf_val X3.out.2.2.2.1) tw.out).mono ?_
                rintro ee w2 ⟨rfl, o1, f3, c1, s1, z1⟩
                rw [hcl]
                have X4 : Hid (Only g w w2 ∧ Cells g n w2 f3 ∧ Shuf 0 n idf f3 ∧ From R n (2 * bs) 0 f3) := by
                  obtain ⟨a1, a2, a3, a4, a5, a6, a7, a8, a9⟩ := X3.out
                  refine ⟨a2.trans o1, c1, a4.trans (s1.wide (Nat.zero_le _) (Nat.le_refl _)), from_of (k := k) (fun c hc => ?_) (fun hk => ?_) (by omega)⟩
                  · have := mul_le (2 * bs) hc
                    exact (a5 c hc).congr fun i i1 i2 => s1.out i (Or.inl (by omega))
                  · rw [← a1]; exact Blk.merged (a7 (by omega)) (a8 (by omega)) (Nat.le_refl _) (Or.inr ⟨rfl, by omega⟩) s1 z1
                clear o1 c1 s1 z1 X3 tw
                go_wp2_with fail
                go_roundw
                case rel => exact ⟨2 * bs, f3, by go_num, by omega, by omega, X4.out.1, X4.out.2.1, X4.out.2.2.1, X4.out.2.2.2⟩
                case measure => simp [intOf]; omega
              · have X4 : Hid (Only g w wr ∧ Cells g n wr f ∧ Shuf 0 n idf f ∧ From R n (2 * bs) 0 f) := by
                  obtain ⟨a1, a2, a3, a4, a5, a6, a7, a8, a9⟩ := X3.out
                  exact ⟨a2, a3, a4, from_of (k := k) a5 (fun hk => by rw [← a1]; exact (a7 (by omega)).alone (by omega)) (by omega)⟩
                clear X3
                go_wp2
                go_roundw
                case rel => exact ⟨2 * bs, f, by go_num, by omega, by omega, X4.out.1, X4.out.2.1, X4.out.2.2.1, X4.out.2.2.2⟩
                case measure => simp [intOf]; omega
        · have so : Sorted R 0 n f2 := fun i j h1 h2 h3 => by
            have b := X2.out.2.2.2 0 (Nat.zero_le _) (by omega)
            rw [Nat.zero_mul] at b
            exact b.ord i j (Nat.zero_le _) h2 (by omega) h3
          go_wp2
          go_end0
          exact ⟨rfl, X2.out.1, f2, X2.out.2.1, X2.out.2.2.1, so⟩

theorem sortStable_any {g n bx gr o cap cap0 : Nat} {R : Nat → Int} {w : World} (hE : Env g n bx gr o cap R w) (hC : Cells g n w idf) (hn : n ≤ 1048576) :
    Calls Tryd.prog 62 #[.slice (some ⟨g, 0, none⟩) n cap0, clo bx] w fun e w' =>
      e = .returned (.tuple #[]) ∧ Only g w w' ∧ ∃ f', Cells g n w' f' ∧ Shuf 0 n idf f' ∧ Sorted R 0 n f' := by
  have ST := stable_any (cap0 := cap0) hE hC hn
  generalize clo bx = cl at *
  clear hE hC
  go_enter Tryd.func62, Tryd.ntmps62
  go_wp2_with fail
  refine ST.mono ?_
  rintro ee w1 ⟨rfl, o1, f1, c1, s1, z1⟩
  go_wp2_with fail
  go_end0
  exact ⟨rfl, o1, f1, c1, s1, z1⟩

end Go.Proofs.YtfdahdloihgjeacDoor
