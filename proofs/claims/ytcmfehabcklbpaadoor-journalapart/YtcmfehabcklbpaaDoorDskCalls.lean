/-
  Ours: Append, Sync, Truncate.
-/
import Derived.Test.YtcmfehabcklbpaaDoorDskWrite
namespace Go.Proofs.YtcmfehabcklbpaaDoor
open Go.RowKit

/-- What a call on a disk leaves: the disk as it is told, its blocks its own or new, all other blocks as they were. -/
def DkPost (R : Nat) (S : Nat → Prop) (w : World) (t : Dk) (w' : World) : Prop := ∃ S', DkAt R S' t w' ∧ (∀ g, S' g → S g ∨ w.heap.size ≤ g) ∧ Kp S w w'
def Dk.fb (t : Dk) (n : Int) : List Nat := if n = 0 then t.b0 else t.b1
def Dk.fd (t : Dk) (n : Int) : Nat := if n = 0 then t.d0 else t.d1
def Dk.put (t : Dk) (n : Int) (b : List Nat) (d : Nat) : Dk := if n = 0 then { t with b0 := b, d0 := d } else { t with b1 := b, d1 := d }
/-- Is a call on a file refused ahead of all else? -/
def Dk.no (t : Dk) (n : Int) : Int := if n = 0 ∨ n = 1 then (if t.dn then 51 else 0) else 50
def Dk.append (t : Dk) (n : Int) (ds : List Nat) : Dk × Int := if t.no n ≠ 0 then (t, t.no n) else if 16777216 < (t.fb n).length + ds.length then (t, 52) else (t.put n (t.fb n ++ ds) (t.fd n)).write
def Dk.sync (t : Dk) (n : Int) : Dk × Int := if t.no n ≠ 0 then (t, t.no n) else if t.write.2 ≠ 0 then t.write else (t.write.1.put n (t.write.1.fb n) (t.write.1.fb n).length, 0)
def Dk.trunc (t : Dk) (n k : Int) : Dk × Int := if t.no n ≠ 0 then (t, t.no n) else if k < 0 ∨ (t.fb n).length < k then (t, 2) else if t.write.2 ≠ 0 then t.write else (t.write.1.put n ((t.write.1.fb n).take k.toNat) k.toNat, 0)
theorem Dk.no_cases (t : Dk) (n : Int) : (t.no n ≠ 0) ∨ (n = 0 ∧ t.dn = false) ∨ (n = 1 ∧ t.dn = false) := by
  unfold Dk.no
  by_cases h : n = 0 ∨ n = 1
  · rw [if_pos h]
    cases hd : t.dn with
    | true => left; simp
    | false => rcases h with h | h <;> simp [h]
  · rw [if_neg h]; left; decide
theorem pickV_no (R : Nat) (n : Int) (t : Dk) : pickV R n t.dn = (if t.no n = 0 then .pointer (some ⟨R, 2 * n.toNat, none⟩) else .pointer none, t.no n) := by
  unfold pickV Dk.no
  split
  · split <;> simp
  · simp
theorem Dk.write_ok {t : Dk} (h : t.write.2 = 0) : t.write.1.b0 = t.b0 ∧ t.write.1.b1 = t.b1 ∧ t.write.1.d0 = t.d0 ∧ t.write.1.d1 = t.d1 := by
  cases hq : t.q with
  | nil => rw [Dk.write_nil hq]; exact ⟨rfl, rfl, rfl, rfl⟩
  | cons c q =>
    rw [Dk.write_cons hq] at h ⊢
    split at h
    · rename_i hc; rw [if_pos hc]; exact ⟨rfl, rfl, rfl, rfl⟩
    · cases h
theorem DkPost.same {R : Nat} {S : Nat → Prop} {t : Dk} {w : World} (h : DkAt R S t w) : DkPost R S w t w := ⟨S, h, fun _ hg => .inl hg, Kp.refl _ _⟩


set_option maxRecDepth 20000 in
set_option maxHeartbeats 2000000 in
theorem append_at (R : Nat) (S : Nat → Prop) (t : Dk) (w : World) (n : Int) (ds : List Nat) (ad : Option Addr) (m cd : Nat) (hw : 0 ≤ t.wr ∧ t.wr < 4611686018427387904) (h : DkAt R S t w) (hd : RdB w (.slice ad m cd) ds) (hl : ds.length ≤ 1000000000000) (hap : 0 < m → ∀ g, (Value.slice ad m cd).ownBlock = some g → ¬ S g) :
    Calls Tryd.prog 77 #[.pointer (some ⟨R, 0, none⟩), .int .i64 n, .slice ad m cd] w fun e w' => e = .returned (.int .i64 (t.append n ds).2) ∧ DkPost R S w (t.append n ds).1 w' := by
  have SM : Hid (DkPost R S w t w) := DkPost.same h
  obtain ⟨ok, v0, v1, vq, h⟩ := h
  have c6 := h.blk.cell 6 _ rfl
  have ml : m = ds.length := by
    obtain ⟨_, _, e, _, _⟩ := hd.len
    injection e with e1 e2; rw [e2, List.length_map]
  have PK : Hid (∀ w, w.cell? ⟨R, 6, none⟩ = some (.bool t.dn) → Calls Tryd.prog 81 #[.pointer (some ⟨R, 0, none⟩), .int .i64 n] w fun e w' => e = .returned (.tuple #[(pickV R n t.dn).1, .int .i64 (pickV R n t.dn).2]) ∧ w' = w) := fun w h => pick_at R n t.dn w h
  rw [pickV_no] at PK
  unfold Dk.append
  rcases t.no_cases n with hno | hno
  · have e0 : (t.no n != 0) = true := by simpa using hno
    rw [if_neg hno] at PK
    rw [if_pos hno]
    clear h hd ok ml hap hl
    generalize t.no n = e at *
    go_enter Tryd.func77, Tryd.ntmps77
    go_wp2_with fail
    refine (PK.out _ c6).mono ?_
    rintro e w2 ⟨rfl, rfl⟩
    go_wp2_with fail
    go_ret
    exact ⟨rfl, SM.out⟩
  · have hn0 : t.no n = 0 := by unfold Dk.no; rcases hno with ⟨rfl, hd⟩ | ⟨rfl, hd⟩ <;> simp [hd]
    rw [if_neg (by rw [hn0]; simp)]
    rw [if_pos hn0, hn0] at PK
    have en0 : ((0 : Int) != 0) = false := rfl
    clear hn0
    rcases hno with ⟨rfl, hdn⟩ | ⟨rfl, hdn⟩
    · obtain ⟨a, c, e, hc⟩ := row_shape h.r0
      rw [List.length_map] at e hc
      subst e
      have hlb := ok.l0
      rw [show t.fb 0 = t.b0 from rfl, show t.fd 0 = t.d0 from rfl]
      rw [show 2 * (0 : Int).toNat = 0 from rfl] at PK
      have RM : Hid (∀ w, w.cell? ⟨R, 0, none⟩ = some (.slice a t.b0.length c) → Calls Tryd.prog 82 #[.pointer (some ⟨R, 0, none⟩)] w fun e w' => e = .returned (.int .i64 (16777216 - (t.b0.length : Int))) ∧ w' = w) := fun w h => room_at R 0 _ c a w h hlb
      have cb := h.blk.cell 0 _ rfl
      by_cases hf : 16777216 < t.b0.length + ds.length
      · rw [if_pos hf]
        have ef : decide ((16777216 : Int) - (t.b0.length : Int) < (m : Int)) = true := decide_eq_true (by omega)
        clear h hd ok hap hf ml
        generalize t.b0.length = L at *
        go_enter Tryd.func77, Tryd.ntmps77
        go_wp2_with fail
        refine (PK.out _ c6).mono ?_
        rintro e w2 ⟨rfl, rfl⟩
        go_wp2_with fail
        refine (RM.out _ cb).mono ?_
        rintro e w2 ⟨rfl, rfl⟩
        go_wp2_with fail
        go_ret
        exact ⟨rfl, SM.out⟩
      · rw [if_neg hf]
        have ef : decide ((16777216 : Int) - (t.b0.length : Int) < (m : Int)) = false := decide_eq_false (by omega)
        have AD : Hid (Calls Tryd.prog 83 #[.pointer (some ⟨R, 0, none⟩), .slice ad m cd] w fun e w' => e = .returned (.tuple #[]) ∧ ∃ a' c', Blk R 67 _ w' ∧ RowB 5 0 w' (.slice a' (t.b0.length + m) c') (t.b0 ++ ds) ∧ (∀ g, (Value.slice a' (t.b0.length + m) c').ownBlock = some g → (Value.slice a t.b0.length c).ownBlock = some g ∨ w.heap.size ≤ g) ∧ Kp (fun g => g = R ∨ (Value.slice a t.b0.length c).ownBlock = some g) w w') := add_at t.b0 ds R 0 t.b0.length c m cd a ad _ _ w h.blk rfl h.r0 (fun g hg => (h.s0 g hg).2) hd (fun h0 g hg => ⟨fun e => hap h0 g hg (e ▸ h.sR), fun e => hap h0 g hg (h.s0 g e).1⟩) (by omega)
        have WR : Hid (∀ S' a' c' w', DkV R S' (t.put 0 (t.b0 ++ ds) t.d0) (.slice a' (t.b0.length + m) c') v1 vq w' → Calls Tryd.prog 84 #[.pointer (some ⟨R, 0, none⟩)] w' fun e w'' => e = .returned (.int .i64 (t.put 0 (t.b0 ++ ds) t.d0).write.2) ∧ ∃ v0' v1' vq', DkV R S' (t.put 0 (t.b0 ++ ds) t.d0).write.1 v0' v1' vq' w'' ∧ Kp S' w' w'') := fun S' a' c' w' h => write_at R S' _ _ _ _ w' ⟨by show t.d0 ≤ (t.b0 ++ ds).length; rw [List.length_append]; have := ok.d0; omega, by show (t.b0 ++ ds).length ≤ _; rw [List.length_append]; omega, ok.d1, ok.l1, ok.q, ok.qe⟩ hw h
        have OK2 : Hid ((t.put 0 (t.b0 ++ ds) t.d0).write.1.Ok) := Dk.Ok.write ⟨by show t.d0 ≤ (t.b0 ++ ds).length; rw [List.length_append]; have := ok.d0; omega, by show (t.b0 ++ ds).length ≤ _; rw [List.length_append]; omega, ok.d1, ok.l1, ok.q, ok.qe⟩
        have HV : Hid (∀ a' c' w', Blk R 67 [.slice a' (t.b0.length + m) c', .int .i64 t.d0, v1, .int .i64 t.d1, vq, .int .i64 t.wr, .bool t.dn] w' → RowB 5 0 w' (.slice a' (t.b0.length + m) c') (t.b0 ++ ds) → (∀ g, (Value.slice a' (t.b0.length + m) c').ownBlock = some g → (Value.slice a t.b0.length c).ownBlock = some g ∨ w.heap.size ≤ g) → Kp (fun g => g = R ∨ (Value.slice a t.b0.length c).ownBlock = some g) w w' →
            DkV R (fun g => S g ∨ (w.heap.size ≤ g ∧ g < w'.heap.size)) (t.put 0 (t.b0 ++ ds) t.d0) (.slice a' (t.b0.length + m) c') v1 vq w' ∧ Kp S w w') := fun a' c' w' hb hr hn hk => by
          have hk2 : Kp S w w' := hk.mono (fun g _ e => e.elim (fun e => e ▸ h.sR) (fun e => (h.s0 g e).1))
          refine ⟨⟨hb, hr, h.r1.kp hk (fun g hg e => e.elim (h.s1 g hg).2.1 (h.s1 g hg).2.2), RowQ.kp h.rq hk (fun g hg e => e.elim (h.sq g hg).2.1 (h.sq g hg |>.2.2.1)), fun g hg => hg.elim (fun hs => Nat.lt_of_lt_of_le (h.s g hs) hk.size) (fun hs => hs.2), .inl h.sR, ?_, ?_, fun g hg => ?_⟩, hk2⟩
          · intro g hg
            rcases hn g hg with e | e
            · exact ⟨.inl (h.s0 g e).1, (h.s0 g e).2⟩
            · exact ⟨.inr ⟨e, hr.block_lt hg⟩, fun e2 => by have := h.s R h.sR; omega⟩
          · intro g hg
            refine ⟨.inl (h.s1 g hg).1, (h.s1 g hg).2.1, fun e => ?_⟩
            rcases hn g e with e | e
            · exact (h.s1 g hg).2.2 e
            · have := h.s g (h.s1 g hg).1; omega
          · refine ⟨.inl (h.sq g hg).1, (h.sq g hg).2.1, fun e => ?_, (h.sq g hg).2.2.2⟩
            rcases hn g e with e | e
            · exact (h.sq g hg).2.2.1 e
            · have := h.s g (h.sq g hg).1; omega
        clear h hd ok hap hf ml
        generalize hL : t.b0.length = L at *
        clear hL
        generalize t.put 0 (t.b0 ++ ds) t.d0 = t' at *
        obtain ⟨N, hN⟩ : ∃ N, L + m = N := ⟨_, rfl⟩
        rw [hN] at AD HV WR
        clear hN
        go_enter Tryd.func77, Tryd.ntmps77
        go_wp2_with fail
        refine (PK.out _ c6).mono ?_
        rintro e w2 ⟨rfl, rfl⟩
        go_wp2_with fail
        refine (RM.out _ cb).mono ?_
        rintro e w2 ⟨rfl, rfl⟩
        go_wp2_with fail
        refine AD.out.mono ?_
        rintro e w3 ⟨rfl, a', c', hb, hr, hn, hk⟩
        obtain ⟨h3, k3⟩ := HV.out a' c' w3 hb hr hn hk
        clear hb hr hn hk HV AD
        go_wp2_with fail
        refine (WR.out _ a' c' _ h3).mono ?_
        rintro e w4 ⟨rfl, x0, x1, xq, h4, k4⟩
        have FIN : Hid (DkPost R S _ t'.write.1 w4) := ⟨_, ⟨OK2.out, x0, x1, xq, h4⟩, fun g hg => hg.imp id (fun h => h.1), k3.trans k4 (fun g hg h => h.elim id (fun h => by omega))⟩
        clear h3 k3 h4 k4 WR OK2
        go_wp2_with fail
        go_ret
        exact ⟨rfl, FIN.out⟩
    · obtain ⟨a, c, e, hc⟩ := row_shape h.r1
      rw [List.length_map] at e hc
      subst e
      have hlb := ok.l1
      rw [show t.fb 1 = t.b1 from rfl, show t.fd 1 = t.d1 from rfl]
      rw [show 2 * (1 : Int).toNat = 2 from rfl] at PK
      have RM : Hid (∀ w, w.cell? ⟨R, 2, none⟩ = some (.slice a t.b1.length c) → Calls Tryd.prog 82 #[.pointer (some ⟨R, 2, none⟩)] w fun e w' => e = .returned (.int .i64 (16777216 - (t.b1.length : Int))) ∧ w' = w) := fun w h => room_at R 2 _ c a w h hlb
      have cb := h.blk.cell 2 _ rfl
      by_cases hf : 16777216 < t.b1.length + ds.length
      · rw [if_pos hf]
        have ef : decide ((16777216 : Int) - (t.b1.length : Int) < (m : Int)) = true := decide_eq_true (by omega)
        clear h hd ok hap hf ml
        generalize t.b1.length = L at *
        go_enter Tryd.func77, Tryd.ntmps77
        go_wp2_with fail
        refine (PK.out _ c6).mono ?_
        rintro e w2 ⟨rfl, rfl⟩
        go_wp2_with fail
        refine (RM.out _ cb).mono ?_
        rintro e w2 ⟨rfl, rfl⟩
        go_wp2_with fail
        go_ret
        exact ⟨rfl, SM.out⟩
      · rw [if_neg hf]
        have ef : decide ((16777216 : Int) - (t.b1.length : Int) < (m : Int)) = false := decide_eq_false (by omega)
        have AD : Hid (Calls Tryd.prog 83 #[.pointer (some ⟨R, 2, none⟩), .slice ad m cd] w fun e w' => e = .returned (.tuple #[]) ∧ ∃ a' c', Blk R 67 _ w' ∧ RowB 5 0 w' (.slice a' (t.b1.length + m) c') (t.b1 ++ ds) ∧ (∀ g, (Value.slice a' (t.b1.length + m) c').ownBlock = some g → (Value.slice a t.b1.length c).ownBlock = some g ∨ w.heap.size ≤ g) ∧ Kp (fun g => g = R ∨ (Value.slice a t.b1.length c).ownBlock = some g) w w') := add_at t.b1 ds R 2 t.b1.length c m cd a ad _ _ w h.blk rfl h.r1 (fun g hg => (h.s1 g hg).2.1) hd (fun h0 g hg => ⟨fun e => hap h0 g hg (e ▸ h.sR), fun e => hap h0 g hg (h.s1 g e).1⟩) (by omega)
        have WR : Hid (∀ S' a' c' w', DkV R S' (t.put 1 (t.b1 ++ ds) t.d1) v0 (.slice a' (t.b1.length + m) c') vq w' → Calls Tryd.prog 84 #[.pointer (some ⟨R, 0, none⟩)] w' fun e w'' => e = .returned (.int .i64 (t.put 1 (t.b1 ++ ds) t.d1).write.2) ∧ ∃ v0' v1' vq', DkV R S' (t.put 1 (t.b1 ++ ds) t.d1).write.1 v0' v1' vq' w'' ∧ Kp S' w' w'') := fun S' a' c' w' h => write_at R S' _ _ _ _ w' ⟨ok.d0, ok.l0, by show t.d1 ≤ (t.b1 ++ ds).length; rw [List.length_append]; have := ok.d1; omega, by show (t.b1 ++ ds).length ≤ _; rw [List.length_append]; omega, ok.q, ok.qe⟩ hw h
        have OK2 : Hid ((t.put 1 (t.b1 ++ ds) t.d1).write.1.Ok) := Dk.Ok.write ⟨ok.d0, ok.l0, by show t.d1 ≤ (t.b1 ++ ds).length; rw [List.length_append]; have := ok.d1; omega, by show (t.b1 ++ ds).length ≤ _; rw [List.length_append]; omega, ok.q, ok.qe⟩
        have HV : Hid (∀ a' c' w', Blk R 67 [v0, .int .i64 t.d0, .slice a' (t.b1.length + m) c', .int .i64 t.d1, vq, .int .i64 t.wr, .bool t.dn] w' → RowB 5 0 w' (.slice a' (t.b1.length + m) c') (t.b1 ++ ds) → (∀ g, (Value.slice a' (t.b1.length + m) c').ownBlock = some g → (Value.slice a t.b1.length c).ownBlock = some g ∨ w.heap.size ≤ g) → Kp (fun g => g = R ∨ (Value.slice a t.b1.length c).ownBlock = some g) w w' →
            DkV R (fun g => S g ∨ (w.heap.size ≤ g ∧ g < w'.heap.size)) (t.put 1 (t.b1 ++ ds) t.d1) v0 (.slice a' (t.b1.length + m) c') vq w' ∧ Kp S w w') := fun a' c' w' hb hr hn hk => by
          have hk2 : Kp S w w' := hk.mono (fun g _ e => e.elim (fun e => e ▸ h.sR) (fun e => (h.s1 g e).1))
          refine ⟨⟨hb, h.r0.kp hk (fun g hg e => e.elim (h.s0 g hg).2 (fun e => (h.s1 g e).2.2 hg)), hr, RowQ.kp h.rq hk (fun g hg e => e.elim (h.sq g hg).2.1 (h.sq g hg |>.2.2.2)), fun g hg => hg.elim (fun hs => Nat.lt_of_lt_of_le (h.s g hs) hk.size) (fun hs => hs.2), .inl h.sR, ?_, ?_, fun g hg => ?_⟩, hk2⟩
          · exact fun g hg => ⟨.inl (h.s0 g hg).1, (h.s0 g hg).2⟩
          · intro g hg
            rcases hn g hg with e | e
            · exact ⟨.inl (h.s1 g e).1, (h.s1 g e).2.1, (h.s1 g e).2.2⟩
            · exact ⟨.inr ⟨e, hr.block_lt hg⟩, fun e2 => by have := h.s R h.sR; omega, fun e2 => by have := h.s g (h.s0 g e2).1; omega⟩
          · refine ⟨.inl (h.sq g hg).1, (h.sq g hg).2.1, (h.sq g hg).2.2.1, fun e => ?_⟩
            rcases hn g e with e | e
            · exact (h.sq g hg).2.2.2 e
            · have := h.s g (h.sq g hg).1; omega
        clear h hd ok hap hf ml
        generalize hL : t.b1.length = L at *
        clear hL
        generalize t.put 1 (t.b1 ++ ds) t.d1 = t' at *
        obtain ⟨N, hN⟩ : ∃ N, L + m = N := ⟨_, rfl⟩
        rw [hN] at AD HV WR
        clear hN
        go_enter Tryd.func77, Tryd.ntmps77
        go_wp2_with fail
        refine (PK.out _ c6).mono ?_
        rintro e w2 ⟨rfl, rfl⟩
        go_wp2_with fail
        refine (RM.out _ cb).mono ?_
        rintro e w2 ⟨rfl, rfl⟩
        go_wp2_with fail
        refine AD.out.mono ?_
        rintro e w3 ⟨rfl, a', c', hb, hr, hn, hk⟩
        obtain ⟨h3, k3⟩ := HV.out a' c' w3 hb hr hn hk
        clear hb hr hn hk HV AD
        go_wp2_with fail
        refine (WR.out _ a' c' _ h3).mono ?_
        rintro e w4 ⟨rfl, x0, x1, xq, h4, k4⟩
        have FIN : Hid (DkPost R S _ t'.write.1 w4) := ⟨_, ⟨OK2.out, x0, x1, xq, h4⟩, fun g hg => hg.imp id (fun h => h.1), k3.trans k4 (fun g hg h => h.elim id (fun h => by omega))⟩
        clear h3 k3 h4 k4 WR OK2
        go_wp2_with fail
        go_ret
        exact ⟨rfl, FIN.out⟩
end Go.Proofs.YtcmfehabcklbpaaDoor
