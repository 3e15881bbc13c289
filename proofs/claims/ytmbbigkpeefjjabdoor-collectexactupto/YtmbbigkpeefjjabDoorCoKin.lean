/-
  Ours: what the fees so far keep, under whatever policies: pure.
-/
import Derived.Test.YtmbbigkpeefjjabDoorCoRfM
import Derived.Test.YtmbbigkpeefjjabDoorCoRun
namespace Go.Proofs.YtmbbigkpeefjjabDoor
namespace CoM
open LedM PolM Go.RowKit
def KI (c : Cs) : Prop := (0 ≤ c.cf ∧ c.cf ≤ 1000000000) ∧ (0 ≤ c.lf ∧ c.lf ≤ 1000000000)
def Sm (c c' : Cs) : Prop := c'.lf = c.lf ∧ (c'.cf = c.cf ∨ c'.cf = 0)
theorem Sm.refl (c : Cs) : Sm c c := ⟨rfl, .inl rfl⟩
theorem Sm.trans {a b c : Cs} (h : Sm a b) (k : Sm b c) : Sm a c := ⟨k.1.trans h.1, by
  rcases k.2 with h1 | h1
  · rcases h.2 with h2 | h2
    · exact .inl (h1.trans h2)
    · exact .inr (h1.trans h2)
  · exact .inr h1⟩
theorem Sm.ki {c c' : Cs} (h : Sm c c') (k : KI c) : KI c' := by
  obtain ⟨k1, k2⟩ := k
  refine ⟨?_, by rw [h.1]; exact k2⟩
  rcases h.2 with h1 | h1
  · rw [h1]; exact k1
  · rw [h1]; decide
theorem sm_endP (c : Cs) : Sm c (endP c) := ⟨rfl, .inl rfl⟩
theorem sm_endC (st : Int) (c : Cs) : Sm c (endC st c) := ⟨rfl, .inr rfl⟩
theorem sm_curd (c : Cs) : Sm c (curd c) := ⟨rfl, .inr rfl⟩
theorem sm_age1 (e : Ev) (x : Mc) : Sm x.1 (age1 e x).1 := by
  unfold age1; split
  · exact ⟨rfl, .inl rfl⟩
  · exact Sm.refl _
theorem sm_lok (gr co : Int) (e : Ev) (x : Mc) : Sm x.1 (lok gr co e x).1 := by
  unfold lok; split
  · exact ⟨rfl, .inr rfl⟩
  · split
    · exact ⟨rfl, .inl rfl⟩
    · split
      · exact ⟨rfl, .inl rfl⟩
      · exact Sm.refl _
theorem sm_age3 (gr co : Int) (e : Ev) (x : Mc) : Sm x.1 (age3 gr co e x).1 := by
  unfold age3; split
  · exact Sm.refl _
  · exact sm_lok gr co e x
theorem sm_age4 (na : Int) (e : Ev) (x : Mc) : Sm x.1 (age4 na e x).1 := by
  unfold age4; split
  · exact ⟨rfl, .inl rfl⟩
  · exact Sm.refl _
theorem sm_age5 (e : Ev) (x : Mc) : Sm x.1 (age5 e x).1 := by
  unfold age5; split
  · exact ⟨rfl, .inr rfl⟩
  · exact Sm.refl _
theorem sm_ageM (l : List Int) (e : Ev) (x : Mc) : Sm x.1 (ageM l e x).1 := by
  unfold ageM; split
  · exact (sm_age1 e x).trans (sm_curd _)
  · exact (((sm_age1 e x).trans (sm_age3 _ _ e _)).trans (sm_age4 _ e _)).trans (sm_age5 e _)
theorem sm_pay1 (a : Int) (x : Mc) : Sm x.1 (pay1 a x).1 := by
  unfold pay1; split
  · split
    · exact ⟨rfl, .inl rfl⟩
    · exact ⟨rfl, .inl rfl⟩
  · exact Sm.refl _
theorem sm_paidM (e : Ev) (x : Mc) : Sm x.1 (paidM e x).1 := by
  unfold paidM; split
  · exact (sm_pay1 _ x).trans (sm_curd _)
  · split
    · exact (sm_pay1 _ x).trans ⟨rfl, .inl rfl⟩
    · exact sm_pay1 _ x
theorem sm_retM (e : Ev) (x : Mc) : Sm x.1 (retM e x).1 := by
  unfold retM; split
  · exact ⟨rfl, .inl rfl⟩
  · exact Sm.refl _
theorem sm_proM (e : Ev) (x : Mc) : Sm x.1 (proM e x).1 := ⟨rfl, .inl rfl⟩
theorem sm_resM (x : Mc) : Sm x.1 (resM x).1 := ⟨rfl, .inr rfl⟩
theorem sm_shutM (x : Mc) : Sm x.1 (shutM x).1 := by
  unfold shutM shut1
  split
  · exact ⟨rfl, .inr rfl⟩
  · exact ⟨rfl, .inl rfl⟩
theorem tak_ki {l : List Int} {e : Ev} {c : Cs} (k : KI c) (hk : e.k = 6 → KI (feeM e (c, [])).1) : KI (takR l e c).1 := by
  unfold takR
  split
  · exact (sm_ageM l e (c, [])).ki k
  · split
    · exact (sm_paidM e (c, [])).ki k
    · split
      · exact (sm_retM e (c, [])).ki k
      · split
        · exact (sm_proM e (c, [])).ki k
        · split
          · exact (sm_resM (c, [])).ki k
          · split
            · rename_i h6; exact hk h6
            · exact (sm_shutM (c, [])).ki k
theorem step_ki {l hs : List Int} {c : Cs} (e : Ev) (k : KI c) : KI (stepA l hs c e).2.1 := by
  cases hg : good l hs
  · rw [step_bad hg]; exact k
  · rw [step_ref hg]
    have P := pol_of hg
    have hcc : 0 ≤ l.getD 7 0 ∧ l.getD 7 0 ≤ 1000000000 := P.cc
    have hlc : 0 ≤ l.getD 8 0 ∧ l.getD 8 0 ≤ 1000000000 := P.lc
    unfold refR
    split
    · exact k
    · split
      · exact k
      · split
        · exact k
        · rename_i h1 h2 h3
          refine tak_ki k (fun h6 => ?_)
          generalize l.getD 7 0 = CC at *
          generalize l.getD 8 0 = LC at *
          generalize l.getD 9 0 = PM at *
          generalize l.getD 10 0 = PD at *
          generalize l.getD 11 0 = RM at *
          have ha : 1 ≤ e.a := by
            by_cases hx : e.a < 1
            · exact absurd (by simp [numR, h6, hx] : numR PD e ≠ 0) h2
            · omega
          have hf : ¬ (wrap64 (CC - c.cf) < e.a ∨ wrap64 (LC - c.lf) < e.a) := fun hx => by
            apply h3
            unfold staR
            split
            · decide
            · split
              · decide
              · split
                · decide
                · split
                  · decide
                  · split
                    · decide
                    · rw [if_pos ⟨h6, hx⟩]; decide
          obtain ⟨k1, k2⟩ := k
          rw [wr (by omega) (by omega), wr (by omega) (by omega)] at hf
          refine ⟨?_, ?_⟩ <;> simp only [feeM] <;> rw [wr (by omega) (by omega)] <;> omega
theorem ki_fq {l hs : List Int} {c : Cs} (k : KI c) (hg : good l hs = true) : FQ l c := by
  have P := pol_of hg
  have hgr : 0 ≤ l.getD 1 0 := P.gr.1
  have hcc : 0 ≤ l.getD 7 0 ∧ l.getD 7 0 ≤ 1000000000 := P.cc
  have hlc : 0 ≤ l.getD 8 0 ∧ l.getD 8 0 ≤ 1000000000 := P.lc
  obtain ⟨k1, k2⟩ := k
  refine ⟨hgr, fun a ha => ?_, fun a ha => ?_⟩
  · by_cases h : c.cf ≤ l.getD 7 0
    · exact .inl h
    · right; rw [wr (by omega) (by omega)]; omega
  · by_cases h : c.lf ≤ l.getD 8 0
    · exact .inl h
    · right; rw [wr (by omega) (by omega)]; omega
theorem rk_ki {l hs : List Int} {c : Cs} {es : List Ev} (k : KI c) : ∀ n, KI (rk l hs c es n).1
  | 0 => k
  | n + 1 => step_ki _ (rk_ki k n)
theorem fresh_ki : KI fresh := by unfold KI fresh; decide
end CoM
end Go.Proofs.YtmbbigkpeefjjabDoor
