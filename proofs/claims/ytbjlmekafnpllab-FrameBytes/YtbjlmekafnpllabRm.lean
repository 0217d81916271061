/- Layer rlp: readBody. -/
import Derived.Test.YtbjlmekafnpllabRd
import Derived.Deep.DeepCutAuto
import Derived.Deep.RegionHeld3
import Derived.Deep.RegionWith
import Derived.Test.YtbjlmekafnpllabRl
namespace Go.Proofs.Ytbjlmekafnpllab
open Go.RowKit
set_option linter.unusedVariables false
set_option linter.unusedSimpArgs false

/-- What reading a body comes to. -/
def Body (N n : Nat) (L : List Int) (w : World) (q : Except Int (Nat × Nat)) (e : Ending) (w' : World) : Prop :=
  Below w.heap.size w w' ∧ ((∃ c, q = .error c ∧ e = .panicked (wrong c)) ∨ ∃ k m sp1 sp2, q = .ok (k, m) ∧ k + m ≤ n ∧ e = .returned (.tuple #[.slice sp1 m m, .slice sp2 (n - (k + m)) (n - (k + m))]) ∧ BS N w' sp1 m m ((L.drop k).take m) ∧ BS N w' sp2 (n - (k + m)) (n - (k + m)) (L.drop (k + m)))
theorem cut_at (N : Nat) (sp : Option Addr) (n cap : Nat) (x : Int) (k : Nat) (L : List Int) (w : World) (hx : x = k) (hS : BS N w sp n cap L) (hk : k ≤ n) :
    Calls Try.prog 66 #[.slice sp n cap, .int .i64 x] w fun e w' => ∃ sp1 sp2, e = .returned (.tuple #[.slice sp1 k k, .slice sp2 (n - k) (n - k)]) ∧ BS N w' sp1 k k (L.take k) ∧ BS N w' sp2 (n - k) (n - k) (L.drop k) ∧ Below w.heap.size w w' := by
  subst hx; exact cut_ok N sp n cap k L w hS hk
theorem cut_bad (sp : Option Addr) (n cap : Nat) (x : Int) (w : World) (hk : (n : Int) < x) :
    Calls Try.prog 66 #[.slice sp n cap, .int .i64 x] w fun e w' => e = .panicked (wrong 7) ∧ w' = w := by
  obtain ⟨k, rfl⟩ : ∃ k : Nat, x = k := ⟨x.toNat, by omega⟩
  exact cut_no sp n cap k w hk

set_option maxRecDepth 100000 in
set_option maxHeartbeats 1000000 in
theorem body_short (N : Nat) (sp : Option Addr) (n cap s : Nat) (L : List Int) (w : World) (hS : BS N w sp n cap L) (hs : s ≤ 55) :
    Calls Try.prog 67 #[.slice sp n cap, .int .i64 s] w (Body N n L w (rb L s)) := by
  have hl := hS.len
  have h1 : (s : Int) ≤ 55 := by omega
  have E := Hid.mk' (show rb L s = if s ≤ n then .ok (0, s) else .error 7 by unfold rb; rw [if_pos hs, ← hl.out])
  by_cases h : s ≤ n
  · have E := Hid.mk' (E.out.trans (if_pos h))
    go_enter Try.func67, Try.ntmps67
    go_wp2_with (go_at_call 66; go_must (refine (cut_ok N sp n cap s L _ hS h).mono ?_; rintro e w1 ⟨sp1, sp2, rfl, hB1, hB2, hb1⟩))
    go_ret2
    refine ⟨hb1, .inr ⟨0, s, sp1, sp2, E.out, by omega, ?_, by simpa using hB1, ?_⟩⟩
    · rw [Nat.zero_add]; rfl
    · rw [Nat.zero_add]; exact hB2
  · have E := Hid.mk' (E.out.trans (if_neg h))
    have h2 : (n : Int) < s := by omega
    go_enter Try.func67, Try.ntmps67
    go_wp2_with (go_at_call 66; go_must (refine (cut_no sp n cap s _ h2).mono ?_; rintro e w1 ⟨rfl, rfl⟩; exact ⟨rfl, Below.refl _ _, .inl ⟨7, E.out, rfl⟩⟩))

/-- What a long head says. -/
def rbk (L : List Int) (n k : Nat) : Except Int (Nat × Nat) :=
  if n < k then .error 7 else if bat L 0 = 0 ∨ num (L.take k) ≤ 55 then .error 8 else if ((n - k : Nat) : Int) < num (L.take k) then .error 7 else .ok (k, (num (L.take k)).toNat)
theorem rb_long (L : List Int) (k : Nat) (hk : 0 < k) : rb L (55 + k) = rbk L L.length k := by
  unfold rb rbk; rw [if_neg (by omega), show 55 + k - 55 = k by omega]
theorem num_lt {L : List Int} (h : Bts L) {k : Nat} (hk : k ≤ 8) (hl : L.length ≤ k) : num L < 18446744073709551616 := by
  have h1 := (num_range L h).2
  have h2 : L.length ≤ 8 := by omega
  generalize L.length = m at h1 h2
  match m, h2 with
  | 0, _ => omega
  | 1, _ => omega
  | 2, _ => omega
  | 3, _ => omega
  | 4, _ => omega
  | 5, _ => omega
  | 6, _ => omega
  | 7, _ => omega
  | 8, _ => omega

set_option maxRecDepth 100000 in
set_option maxHeartbeats 400000 in
theorem body_few (N : Nat) (sp : Option Addr) (n cap k : Nat) (L : List Int) (w : World) (hS : BS N w sp n cap L) (hk : 0 < k) (hk2 : k ≤ 8) (h : n < k) :
    Calls Try.prog 67 #[.slice sp n cap, .int .i64 (55 + (k : Int))] w (Body N n L w (rbk L n k)) := by
  have hsm := hS.small
  have h1 : ¬ (55 + (k : Int)) ≤ 55 := by omega
  have E := Hid.mk' (show rbk L n k = .error 7 by unfold rbk; rw [if_pos h])
  have h2 : (n : Int) < 55 + (k : Int) - 55 := by omega
  go_enter Try.func67, Try.ntmps67
  go_wp2_with (go_at_call 66; go_must (refine (cut_bad sp n cap _ _ (by omega)).mono ?_; rintro e w1 ⟨rfl, rfl⟩; exact ⟨rfl, Below.refl _ _, .inl ⟨7, E.out, rfl⟩⟩))

set_option maxRecDepth 100000 in
set_option maxHeartbeats 400000 in
theorem body_zero (N : Nat) (sp : Option Addr) (n cap k : Nat) (L : List Int) (w : World) (hS : BS N w sp n cap L) (hk : 0 < k) (hk2 : k ≤ 8) (h : ¬ n < k) (hz : bat L 0 = 0) :
    Calls Try.prog 67 #[.slice sp n cap, .int .i64 (55 + (k : Int))] w (Body N n L w (rbk L n k)) := by
  have hsm := hS.small
  have h1 : ¬ (55 + (k : Int)) ≤ 55 := by omega
  have E := Hid.mk' (show rbk L n k = .error 8 by unfold rbk; rw [if_neg h, if_pos (.inl hz)])
  have hbat : bat (L.take k) 0 = 0 := by
    rw [← hz]; unfold bat; rw [List.getD_eq_getElem?_getD, List.getD_eq_getElem?_getD, List.getElem?_take_of_lt (by omega)]
  have hbat := Hid.mk' hbat
  have h5 : (0 : Int) < (k : Int) := by omega
  go_enter Try.func67, Try.ntmps67
  go_wp2_with (first
    | (go_at_call 66; go_must (refine (cut_at N sp n cap _ k L _ (by omega) hS (by omega)).mono ?_; rintro e w1 ⟨sp1, sp2, rfl, hB1, hB2, hb1⟩; obtain ⟨b1, o1, rfl, -, hBy1⟩ := hB1.at0 (by omega); have c1 := hBy1 0 (by omega); rw [hbat.out, Nat.add_zero] at c1))
    | (go_at_call 62; go_must (refine (number_any N _ _ _ _ _ hB1 (by omega)).mono ?_; rintro e w2 ⟨rfl, rfl⟩)))
  exact ⟨rfl, hb1, .inl ⟨8, E.out, rfl⟩⟩

set_option maxRecDepth 100000 in
set_option maxHeartbeats 800000 in
theorem body_rest (N : Nat) (sp : Option Addr) (n cap k : Nat) (L : List Int) (w : World) (hS : BS N w sp n cap L) (hk : 0 < k) (hk2 : k ≤ 8) (h : ¬ n < k) (hz : ¬ bat L 0 = 0) :
    Calls Try.prog 67 #[.slice sp n cap, .int .i64 (55 + (k : Int))] w (Body N n L w (rbk L n k)) := by
  have hsm := hS.small
  have hln := hS.len
  have h1 : ¬ (55 + (k : Int)) ≤ 55 := by omega
  have hr := num_range (L.take k) (hS.bts.take _)
  have hlt := num_lt (hS.bts.take k) hk2 (by rw [List.length_take]; omega)
  have E := Hid.mk' (show rbk L n k = if num (L.take k) ≤ 55 then .error 8 else if ((n - k : Nat) : Int) < num (L.take k) then .error 7 else .ok (k, (num (L.take k)).toNat) by unfold rbk; rw [if_neg h]; by_cases h55 : num (L.take k) ≤ 55 <;> simp [hz, h55])
  have hbat : bat (L.take k) 0 = bat L 0 := by
    unfold bat; rw [List.getD_eq_getElem?_getD, List.getD_eq_getElem?_getD, List.getElem?_take_of_lt (by omega)]
  have hbat := Hid.mk' hbat
  have hr0 := hr.1
  have hz2 : (bat L 0 == 0) = false := by simpa using hz
  obtain ⟨M, hM⟩ : ∃ M, M = num (L.take k) := ⟨_, rfl⟩
  have HM := Hid.mk' hM
  rw [← hM] at E hlt hr0
  clear hM hr
  have h5 : (0 : Int) < (k : Int) := by omega
  have hnk : ((n - k : Nat) : Int) ≤ 140737488355328 := by omega
  by_cases h55 : M ≤ 55
  · have E := Hid.mk' (E.out.trans (if_pos h55))
    go_enter Try.func67, Try.ntmps67
    go_wp2_with (first
      | (go_at_call 66; go_must (refine (cut_at N sp n cap _ k L _ (by omega) hS (by omega)).mono ?_; rintro e w1 ⟨sp1, sp2, rfl, hB1, hB2, hb1⟩; obtain ⟨b1, o1, rfl, -, hBy1⟩ := hB1.at0 (by omega); have c1 := hBy1 0 (by omega); rw [hbat.out, Nat.add_zero] at c1))
      | (go_at_call 62; go_must (refine (number_any N _ _ _ _ _ hB1 (by omega)).mono ?_; rw [← HM.out]; rintro e w2 ⟨rfl, rfl⟩)))
    exact ⟨rfl, hb1, .inl ⟨8, E.out, rfl⟩⟩
  · have E := Hid.mk' (E.out.trans (if_neg h55))
    by_cases hsh : ((n - k : Nat) : Int) < M
    · have E := Hid.mk' (E.out.trans (if_pos hsh))
      go_enter Try.func67, Try.ntmps67
      go_wp2_with (first
        | (go_at_call 66; go_must (refine (cut_at N sp n cap _ k L _ (by omega) hS (by omega)).mono ?_; rintro e w1 ⟨sp1, sp2, rfl, hB1, hB2, hb1⟩; obtain ⟨b1, o1, rfl, -, hBy1⟩ := hB1.at0 (by omega); have c1 := hBy1 0 (by omega); rw [hbat.out, Nat.add_zero] at c1))
        | (go_at_call 62; go_must (refine (number_any N _ _ _ _ _ hB1 (by omega)).mono ?_; rw [← HM.out]; rintro e w2 ⟨rfl, rfl⟩)))
      exact ⟨rfl, hb1, .inl ⟨7, E.out, rfl⟩⟩
    · have E := Hid.mk' (E.out.trans (if_neg hsh))
      obtain ⟨m, hm⟩ : ∃ m : Nat, M = m := ⟨M.toNat, by omega⟩
      subst hm
      have hm47 : (m : Int) ≤ 140737488355328 := by omega
      have hmn : m ≤ n - k := by omega
      have E := Hid.mk' (show rbk L n k = .ok (k, m) from E.out)
      rename_i E1 E2 E3
      clear E1 E2 E3 hlt hr0
      go_enter Try.func67, Try.ntmps67
      go_upto_region 9 with (first | (go_at_call 62; go_must (refine (number_any N _ _ _ _ _ hB1 (by omega)).mono ?_; rw [← HM.out]; rintro e w2 ⟨rfl, rfl⟩)) | (go_at_call 66; go_must (refine (cut_at N sp n cap _ k L _ (by omega) hS (by omega)).mono ?_; rintro e w1 ⟨sp1, sp2, rfl, hB1, hB2, hb1⟩; obtain ⟨b1, o1, rfl, -, hBy1⟩ := hB1.at0 (by omega); have c1 := hBy1 0 (by omega); rw [hbat.out, Nat.add_zero] at c1)))
      go_wp2_with (first | (go_at_call 62; go_must (refine (number_any N _ _ _ _ _ hB1 (by omega)).mono ?_; rw [← HM.out]; rintro e w2 ⟨rfl, rfl⟩)) | (go_at_call 66; go_must (first
          | (refine (cut_at N sp2 (n - k) (n - k) _ m (L.drop k) _ (by omega) hB2 (by omega)).mono ?_; rintro e w3 ⟨sp3, sp4, rfl, hB3, hB4, hb3⟩)
          | (refine (cut_at N sp n cap _ k L _ (by omega) hS (by omega)).mono ?_; rintro e w1 ⟨sp1, sp2, rfl, hB1, hB2, hb1⟩; obtain ⟨b1, o1, rfl, -, hBy1⟩ := hB1.at0 (by omega); have c1 := hBy1 0 (by omega); rw [hbat.out, Nat.add_zero] at c1))))
      go_ret2
      have hd1 : (L.drop k).drop m = L.drop (k + m) := by rw [List.drop_drop]
      refine ⟨hb1.trans (hb3.mono hb1.size), .inr ⟨k, m, sp3, sp4, E.out, by omega, ?_, hB3, ?_⟩⟩
      · rw [show n - (k + m) = n - k - m by omega]; rfl
      · rw [show n - (k + m) = n - k - m by omega, ← hd1]; exact hB4

theorem body_any (N : Nat) (sp : Option Addr) (n cap : Nat) (x : Int) (s : Nat) (L : List Int) (w : World) (hx : x = s) (hS : BS N w sp n cap L) (hs : s ≤ 63) :
    Calls Try.prog 67 #[.slice sp n cap, .int .i64 x] w (Body N n L w (rb L s)) := by
  subst hx
  by_cases h : s ≤ 55
  · exact body_short N sp n cap s L w hS h
  · obtain ⟨k, rfl⟩ : ∃ k, s = 55 + k := ⟨s - 55, by omega⟩
    have hl := hS.len.out
    rw [rb_long L k (by omega), ← hl]
    have e : ((55 + k : Nat) : Int) = 55 + (k : Int) := by omega
    rw [e]
    by_cases h1 : n < k
    · exact body_few N sp n cap k L w hS (by omega) (by omega) h1
    · by_cases h2 : bat L 0 = 0
      · exact body_zero N sp n cap k L w hS (by omega) (by omega) h1 h2
      · exact body_rest N sp n cap k L w hS (by omega) (by omega) h1 h2
end Go.Proofs.Ytbjlmekafnpllab
