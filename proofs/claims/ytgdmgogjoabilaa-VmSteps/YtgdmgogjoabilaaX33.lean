/- Wc, Wd. -/
import Derived.Test.YtgdmgogjoabilaaX31
/- Layer vm: Step; runs in parts. -/
namespace Go.Proofs.Ytgdmgogjoabilaa
open Go.RowKit
set_option maxRecDepth 100000
set_option linter.unusedVariables false
set_option linter.unusedSimpArgs false


/-- What Step answers. -/
def SpPost (es : List En) (m : Mc) (w : World) (e : Ending) (w' : World) : Prop :=
  ∃ sp n cap, e = .returned (.tuple #[.agg (mcA (rO es m 1).1 sp n cap), .int .i64 (rO es m 1).2.2]) ∧ (rO es m 1).1.ok ∧ MS w'.heap.size w' sp n cap (rO es m 1).1.me ∧ Below w.heap.size w w' ∧ (0 < n → ∃ gm, sp = some ⟨gm, 0, none⟩ ∧ w.heap.size ≤ gm ∧ MW w' gm (rO es m 1).1.me)
set_option maxHeartbeats 1000000 in
theorem step17_any {N : Nat} {es : List En} (m : Mc) (sp : Option Addr) (n cap : Nat) (sq : Option Addr) (nk ck : Nat) (w : World) (hok : m.ok) (hM : MS N w sp n cap m.me) (hS : ES N w sq nk ck es) :
    Calls Try.prog 17 #[.agg (mcA m sp n cap), .slice sq nk ck] w (SpPost es m w) := by
  have A0 := (Arr.new w 45 (mcA m sp n cap)).alloc (.cells (mcA zM none 0 0) 45)
  have A1 := Arr.new (w.alloc (.cells (mcA m sp n cap) 45)) 45 (mcA zM none 0 0)
  simp only [World.size_alloc] at A1
  have hs0 := mcA_size hok.r16 sp n cap
  have hsz := mcA_size zM_ok.r16 none 0 0
  have hb0 := (alloc_bel' w (.cells (mcA m sp n cap) 45)).alloc (by simp) (.cells (mcA zM none 0 0) 45)
  have hrun : Calls Try.prog 23 #[.agg (mcA m sp n cap), .slice sq nk ck, .int .i64 1] ((w.alloc (.cells (mcA m sp n cap) 45)).alloc (.cells (mcA zM none 0 0) 45)) (RnPost es m 1 _) := run23_any m sp n cap sq nk ck 1 _ hok (hM.here.below hb0) (hS.here.below hb0) (by omega)
  unfold SpPost
  obtain ⟨R0, hR0⟩ : ∃ R, R = rO es m 1 := ⟨_, rfl⟩
  unfold RnPost at hrun
  rw [← hR0] at hrun ⊢
  clear hR0
  generalize mcA m sp n cap = C at *
  go_enter Try.func17, Try.ntmps17
  go_wp2_with (first
    | (refine ld45 (by rfl) (.tmp 2) (by rfl) w.heap.size (by rfl) C hs0 A0 ?_)
    | (go_at_call 23; go_must (refine hrun.mono ?_; rintro e w1 ⟨sp1, n1, cap1, rfl, hok1, hM1, hb1, hg1⟩; have hs1 := mcA_size hok1.r16 sp1 n1 cap1; have ho1 := mcA_one R0.1 sp1 n1 cap1; have A11 := A1.below hb1 (by simp); have B1 := hb0.trans (hb1.mono (by simp; omega)); have E1 := Arr.new w1 45 (mcA R0.1 sp1 n1 cap1)))
    | (refine st45n (by rfl) (.tmp 6) (.tmp 13) (by rfl) w1 w1.heap.size rfl (by rfl) (mcA R0.1 sp1 n1 cap1) (by rfl) (by rfl) hs1 ho1 ?_)
    | (refine ld45 (by rfl) (.tmp 6) (by rfl) w1.heap.size (by rfl) (mcA R0.1 sp1 n1 cap1) hs1 E1 ?_)
    | (refine st45 (by rfl) (.tmp 4) (.tmp 16) (by rfl) (w.heap.size + 1) (mcA R0.1 sp1 n1 cap1) (by rfl) (by rfl) hs1 ho1 _ hsz (A11.alloc _) ?_))
  have hbf : Below w1.heap.size w1 (w1.alloc (.cells (mcA R0.1 sp1 n1 cap1) 45)) := alloc_bel' _ _
  have hBf := below_setRow (B1.alloc B1.size (.cells (mcA R0.1 sp1 n1 cap1) 45)) (show w.heap.size ≤ w.heap.size + 1 by omega) (mcA R0.1 sp1 n1 cap1)
  refine bodyPost_ret (v := .tuple #[.agg (mcA R0.1 sp1 n1 cap1), .int .i64 R0.2.2]) (res45b Try.results17 rfl rfl hs1 ((A11.alloc _).setRow _)) rfl ⟨sp1, n1, cap1, rfl, hok1, ?_, hBf, fun h0 => ?_⟩
  · refine ⟨hM1.len, hM1.nil, hM1.le, hM1.big, hM1.small, fun h0 => ?_⟩
    obtain ⟨gm, rfl, hgm, hMW⟩ := hg1 h0
    simp only [World.size_alloc] at hgm
    have hMf := (hMW.below hbf hMW.lt).block (setRow_other _ (w.heap.size + 1) gm (mcA R0.1 (some ⟨gm, 0, none⟩) n1 cap1) (by omega))
    exact ⟨gm, 0, rfl, hMf.lt, fun t ht => by rw [Nat.zero_add]; exact hMf.cell (by rw [← hM1.len.out]; exact ht)⟩
  · obtain ⟨gm, rfl, hgm, hMW⟩ := hg1 h0
    simp only [World.size_alloc] at hgm
    exact ⟨gm, rfl, by omega, (hMW.below hbf hMW.lt).block (setRow_other _ _ _ _ (by omega))⟩

/-- Runs in parts. -/
theorem rn_add {es : List En} : ∀ (x y : Nat) (m : Mc), rn es (x + y) m = ((rn es y (rn es x m).1).1, (rn es x m).2 + (rn es y (rn es x m).1).2)
  | 0, y, m => by simp [rn]
  | x + 1, y, m => by
    rw [show x + 1 + y = (x + y) + 1 by omega]
    by_cases h : m.st = 0
    · rw [rn_go h, rn_go h, rn_add x y]
      simp only [Prod.mk.injEq, true_and]
      omega
    · rw [rn_stop h, rn_stop h, rn_stop h]; rfl
theorem rn_le {es : List En} : ∀ (x : Nat) (m : Mc), (rn es x m).2 ≤ x
  | 0, m => by simp [rn]
  | x + 1, m => by
    by_cases h : m.st = 0
    · rw [rn_go h]
      have := rn_le (es := es) x (tick es m)
      simp only
      omega
    · rw [rn_stop h]; simp
theorem rn_all {es : List En} : ∀ (x : Nat) (m : Mc), (rn es x m).1.st = 0 → (rn es x m).2 = x
  | 0, m, _ => by simp [rn]
  | x + 1, m, h0 => by
    by_cases h : m.st = 0
    · rw [rn_go h] at h0 ⊢
      have := rn_all x (tick es m) h0
      simp only
      omega
    · rw [rn_stop h] at h0
      exact absurd h0 h
theorem ex_me {es : List En} {m m' : Mc} {o : Int} {a b c : Nat} {i : Int} (h : ex es m o a b c i = some m') : m'.me.length = m.me.length ∧ (m.st ≤ 2 → m'.st ≤ 2) := by
  unfold ex at h
  by_cases h1 : o = 1
  · rw [if_pos h1] at h
    cases h; exact ⟨rfl, fun _ => by show (1 : Int) ≤ 2; omega⟩
  rw [if_neg h1] at h
  by_cases h2 : o = 2
  · rw [if_pos h2] at h
    cases h; exact ⟨rfl, id⟩
  rw [if_neg h2] at h
  by_cases h3 : o = 3
  · rw [if_pos h3] at h
    cases h; exact ⟨rfl, id⟩
  rw [if_neg h3] at h
  by_cases h4 : o = 4
  · rw [if_pos h4] at h
    cases h; exact ⟨rfl, id⟩
  rw [if_neg h4] at h
  by_cases h17 : o = 17
  · rw [if_pos h17] at h
    by_cases q : IntKind.u64.wrap (m.get b + i) < m.me.length
    · rw [if_pos q] at h; cases h; exact ⟨rfl, id⟩
    · rw [if_neg q] at h; cases h
  rw [if_neg h17] at h
  by_cases h18 : o = 18
  · rw [if_pos h18] at h
    by_cases q : IntKind.u64.wrap (m.get b + i) < m.me.length
    · rw [if_pos q] at h; cases h; exact ⟨by simp [Mc.nxt], id⟩
    · rw [if_neg q] at h; cases h
  rw [if_neg h18] at h
  by_cases h19 : o = 19
  · rw [if_pos h19] at h
    cases h; exact ⟨rfl, id⟩
  rw [if_neg h19] at h
  by_cases h20 : o = 20
  · rw [if_pos h20] at h
    by_cases q : m.get a = 0
    · rw [if_pos q] at h; cases h; exact ⟨rfl, id⟩
    · rw [if_neg q] at h; cases h; exact ⟨rfl, id⟩
  rw [if_neg h20] at h
  by_cases h21 : o = 21
  · rw [if_pos h21] at h
    by_cases q : m.get a = 0
    · rw [if_pos q] at h; cases h; exact ⟨rfl, id⟩
    · rw [if_neg q] at h; cases h; exact ⟨rfl, id⟩
  rw [if_neg h21] at h
  by_cases h22 : o = 22
  · rw [if_pos h22] at h
    cases h; exact ⟨rfl, id⟩
  rw [if_neg h22] at h
  by_cases h23 : o = 23
  · rw [if_pos h23] at h
    unfold hs at h
    by_cases q1 : 128 < m.get c
    · rw [if_pos q1] at h; cases h
    rw [if_neg q1] at h
    by_cases q2 : ¬ m.get a + 4 ≤ m.me.length
    · rw [if_pos q2] at h; cases h
    rw [if_neg q2] at h
    by_cases q3 : ¬ (m.get c = 0 ∨ m.get b + (m.get c + 7) / 8 ≤ m.me.length)
    · rw [if_pos q3] at h; cases h
    rw [if_neg q3] at h
    cases hp : mkL i with
    | none => rw [hp] at h; cases h
    | some P => rw [hp] at h; cases h; exact ⟨by simp [Mc.nxt, put4_len], id⟩
  rw [if_neg h23] at h
  by_cases h24 : o = 24
  · rw [if_pos h24] at h
    cases hp : prm es m (m.get b) with
    | none => rw [hp] at h; cases h
    | some e => rw [hp] at h; cases h; exact ⟨rfl, id⟩
  rw [if_neg h24] at h
  by_cases h25 : o = 25
  · rw [if_pos h25] at h
    cases hp : prm es m (m.get b) with
    | none => rw [hp] at h; cases h
    | some e => rw [hp] at h; cases h; exact ⟨rfl, id⟩
  rw [if_neg h25] at h
  cases hp : rk o (m.get b) (m.get c) with
  | none => rw [hp] at h; cases h
  | some e => rw [hp] at h; cases h; exact ⟨rfl, id⟩
theorem tick_me (es : List En) (m : Mc) : (tick es m).me.length = m.me.length ∧ (m.st ≤ 2 → (tick es m).st ≤ 2) := by
  unfold tick
  cases h : stp es m with
  | none => exact ⟨rfl, fun _ => by show (2 : Int) ≤ 2; omega⟩
  | some m' =>
    unfold stp at h
    by_cases h1 : m.pc < m.me.length
    · rw [if_pos h1] at h
      by_cases h2 : dOk (m.me.getD m.pc.toNat 0) = true
      · rw [if_pos h2] at h
        exact ex_me h
      · rw [if_neg h2] at h; cases h
    · rw [if_neg h1] at h; cases h
theorem rn_may {es : List En} : ∀ (x : Nat) (m : Mc), mayM m = true → mayM (rn es x m).1 = true
  | 0, m, h => by simpa [rn] using h
  | x + 1, m, h => by
    by_cases hst : m.st = 0
    · rw [rn_go hst]
      refine rn_may x (tick es m) ?_
      have ht := tick_me es m
      unfold mayM at h ⊢
      rw [Bool.and_eq_true] at h ⊢
      rw [ht.1]
      exact ⟨h.1, decide_eq_true (ht.2 (of_decide_eq_true h.2))⟩
    · rw [rn_stop hst]; exact h
end Go.Proofs.Ytgdmgogjoabilaa
/- Layer vm: the document's May; the law VmParts. -/
namespace Go.Proofs.Ytgdmgogjoabilaa
open Go.RowKit
set_option maxRecDepth 100000
set_option linter.unusedVariables false
set_option linter.unusedSimpArgs false


set_option maxHeartbeats 1000000 in
theorem refSize_any (x : Int) (w : World) (hx : -9223372036854775808 ≤ x ∧ x ≤ 9223372036854775807) : Calls Try.prog 31 #[.int .i64 x] w fun e w' => e = .returned (.bool (szI x)) ∧ w' = w := by
  go_enter Try.func31, Try.ntmps31
  go_wp2_with fail
  go_loopw [3] (fun q wr => wr = w ∧ ∃ (k : Nat), q = .int .i64 (k : Int) ∧ k ≤ 13 ∧ Hid (∀ j, j < k → x ≠ ((2 ^ j : Nat) : Int)))
    (fun q _ => 13 - (intOf q).toNat)
  case atStart => exact ⟨rfl, 0, rfl, by omega, Hid.mk' (fun j hj => by omega)⟩
  case round =>
    obtain ⟨rfl, k, rfl, hk, hno⟩ := hrel
    by_cases hlt : k ≤ 12
    · have hI : (k : Int) ≤ 12 := by omega
      have hk0 : (0 : Int) ≤ k := by omega
      obtain ⟨p, hp0⟩ : ∃ p : Int, p = ((2 ^ k : Nat) : Int) := ⟨_, rfl⟩
      have hw1 : wrap64 ((2 : Int) ^ k) = p := by rw [wrap_pow (by omega), hp0]
      replace hp0 := Hid.mk' hp0
      have hw3 : IntKind.u64.wrap (k : Int) = k := wrap64_of (by omega) (by omega)
      by_cases he : x = p
      · have he' : (x == p) = true := by simpa using he
        have hf : Hid (szI x = true) := Hid.mk' (by rw [he, hp0.out, szI_nat]; unfold szB; rw [List.any_eq_true]; exact ⟨k, by simp; omega, by simp⟩)
        replace he := Hid.mk' he
        go_wp2_with fail
        go_ret
        exact ⟨by rw [hf.out]; rfl, rfl⟩
      · have he' : (x == p) = false := by simpa using he
        have hn2 : Hid (∀ j, j < k + 1 → x ≠ ((2 ^ j : Nat) : Int)) := Hid.mk' (fun j hj => by
          by_cases e : j = k
          · subst e; rw [← hp0.out]; exact he
          · exact hno.out j (by omega))
        replace he := Hid.mk' he
        go_wp2_with fail
        go_roundw
        case rel => exact ⟨by trivial, k + 1, by go_num, by omega, hn2⟩
        case measure => simp [intOf]; omega
    · obtain rfl : k = 13 := by omega
      have hf : Hid (szI x = false) := Hid.mk' (by
        cases h : szI x with
        | false => rfl
        | true =>
          unfold szI szB at h
          rw [Bool.and_eq_true, List.any_eq_true] at h
          obtain ⟨h0, j, hj, e⟩ := h
          have h0 := of_decide_eq_true h0
          simp at hj e
          exact absurd (show x = ((2 ^ j : Nat) : Int) by omega) (hno.out j hj))
      go_wp2_with fail
      go_ret
      exact ⟨by rw [hf.out]; rfl, rfl⟩

set_option maxHeartbeats 400000 in
theorem refMay_any (m : Mc) (sp : Option Addr) (n cap : Nat) (w : World) (hok : m.ok) (hl : Hid (n = m.me.length)) (hn : n ≤ 17592186044416) :
    Calls Try.prog 21 #[.agg (mcA m sp n cap)] w fun e w' => e = .returned (.bool (mayM m)) ∧ Below w.heap.size w w' := by
  have A0 := Arr.new w 45 (mcA m sp n cap)
  have c17 := (A0.cell 17).trans (mcA_17 hok.r16 sp n cap)
  have c18 := (A0.cell 18).trans (mcA_18 hok.r16 sp n cap)
  have hz : szI (n : Int) = szB m.me.length := by rw [szI_nat, hl.out]
  have hz := Hid.mk' hz
  unfold mayM
  generalize szB m.me.length = b at *
  generalize mcA m sp n cap = C at *
  cases b
  · go_enter Try.func21, Try.ntmps21
    go_wp2_with (go_at_call 31; go_must (refine (refSize_any _ _ (by omega)).mono ?_; rintro e w1 ⟨rfl, h⟩; subst h; rw [hz.out]))
    go_ret
    exact ⟨rfl, alloc_bel' _ _⟩
  · go_enter Try.func21, Try.ntmps21
    go_wp2_with (go_at_call 31; go_must (refine (refSize_any _ _ (by omega)).mono ?_; rintro e w1 ⟨rfl, h⟩; subst h; rw [hz.out]))
    go_ret
    exact ⟨rfl, alloc_bel' _ _⟩
end Go.Proofs.Ytgdmgogjoabilaa
