/- Vy, Wc, Wd, Yn, Yo. -/
import Derived.Test.YtnjbmffgbgbjmaaX44
/- Layer vm: Run and Load of whatever; what the document fixes. -/
namespace Go.Proofs.Ytnjbmffgbgbjmaa
open Go.RowKit
set_option maxRecDepth 100000
set_option linter.unusedVariables false
set_option linter.unusedSimpArgs false

theorem run23_any {N : Nat} {es : List En} (m : Mc) (sp : Option Addr) (n cap : Nat) (sq : Option Addr) (nk ck : Nat) (x : Int) (w : World) (hok : m.ok) (hM : MS N w sp n cap m.me) (hS : ES N w sq nk ck es) (hx : -9223372036854775808 ≤ x ∧ x ≤ 9223372036854775807) :
    Calls Try.prog 23 #[.agg (mcA m sp n cap), .slice sq nk ck, .int .i64 x] w (RnPost es m x w) := by
  by_cases h : mayM m = false ∨ x < 0 ∨ 4194304 < x
  · exact run_no m sp n cap sq nk ck x w hok hM hS hx h
  · exact run_ok m sp n cap sq nk ck x w hok hM hS hx (by cases hm : mayM m with | true => rfl | false => exact absurd (.inl hm) h) (F := x.toNat) (by omega) (by omega)
theorem load_any (x : Int) (sp : Option Addr) (n cap : Nat) (cs : List Cd) (sq : Option Addr) (nd cd : Nat) (ds : List Int) (N : Nat) (w : World) (hx : -9223372036854775808 ≤ x ∧ x ≤ 9223372036854775807) (hS : CS N w sp n cap cs) (hD : MS N w sq nd cd ds) (hU : ∀ k, U64 (ds.getD k 0)) :
    Calls Try.prog 25 #[.int .i64 x, .slice sp n cap, .slice sq nd cd] w (LdPost x cs ds w) := by
  by_cases h : szI x = false ∨ x < cs.length + ds.length
  · exact load_no x sp n cap cs sq nd cd ds N w hx hS hD hU h
  · have hq : szI x = true := by cases hm : szI x with | true => rfl | false => exact absurd (.inl hm) h
    exact load_ok x sp n cap cs sq nd cd ds N w hx hS hD hU hq (X := x.toNat) (by omega) (by omega)
/-- The run that the document fixes. -/
def anC : List Cd := [⟨2, 1, 0, 0, 7⟩, ⟨5, 2, 1, 1, 0⟩, ⟨1, 0, 0, 0, 0⟩]
def anA : Array Value := #[.int .u8 2, .int .u8 1, .int .u8 0, .int .u8 0, .int .u32 7, .int .u8 5, .int .u8 2, .int .u8 1, .int .u8 1, .int .u32 0, .int .u8 1, .int .u8 0, .int .u8 0, .int .u8 0, .int .u32 0]
theorem anC_cs (w : World) (ty : TypeId) : CS (w.alloc (.cells anA ty)).heap.size (w.alloc (.cells anA ty)) (some ⟨w.heap.size, 0, none⟩) 3 3 anC :=
  ⟨rfl, (fun e => by cases e), by omega, by omega, by omega, fun _ => ⟨w.heap.size, 0, rfl, by simp, fun i e he j v hv => by
    have h := (Arr.new w ty anA).cell (0 + i * 5 + j)
    rw [h]
    match i, he with
    | 0, he =>
      obtain rfl : (⟨2, 1, 0, 0, 7⟩ : Cd) = e := by simpa [anC] using he
      have hj : j < 5 := (List.getElem?_eq_some_iff.1 hv).1
      rw [← hv]
      match j, hj with
      | 0, _ => rfl
      | 1, _ => rfl
      | 2, _ => rfl
      | 3, _ => rfl
      | 4, _ => rfl
    | 1, he =>
      obtain rfl : (⟨5, 2, 1, 1, 0⟩ : Cd) = e := by simpa [anC] using he
      have hj : j < 5 := (List.getElem?_eq_some_iff.1 hv).1
      rw [← hv]
      match j, hj with
      | 0, _ => rfl
      | 1, _ => rfl
      | 2, _ => rfl
      | 3, _ => rfl
      | 4, _ => rfl
    | 2, he =>
      obtain rfl : (⟨1, 0, 0, 0, 0⟩ : Cd) = e := by simpa [anC] using he
      have hj : j < 5 := (List.getElem?_eq_some_iff.1 hv).1
      rw [← hv]
      match j, hj with
      | 0, _ => rfl
      | 1, _ => rfl
      | 2, _ => rfl
      | 3, _ => rfl
      | 4, _ => rfl
    | k + 3, he => simp [anC] at he⟩, fun e he => by
    simp only [anC, List.mem_cons, List.not_mem_nil, or_false] at he
    rcases he with rfl | rfl | rfl <;> exact ⟨by decide, by decide, by decide, by decide, by decide⟩⟩
def anM : Mc := { zM with me := ldW 8 anC [] }
theorem anL : lO 8 anC [] = (anM, 0) := by kernel_rfl
def anR : Mc := ⟨2, [0, 7, 14, 0, 0, 0, 0, 0, 0, 0, 0, 0, 0, 0, 0, 0], 1, ldW 8 anC []⟩
theorem anRun : rO [] anM 99 = (anR, 3, 0) := by kernel_rfl
set_option maxHeartbeats 2000000 in
theorem anchored_any (w : World) : Calls Try.prog 16 #[] w fun e w' => e = .returned (.bool true) ∧ Below w.heap.size w w' := by
  have hC := anC_cs w 25
  have hL := anL
  have hR := anRun
  replace hL := Hid.mk' hL
  replace hR := Hid.mk' hR
  have hload : ∀ U, CS U.heap.size U (some ⟨w.heap.size, 0, none⟩) 3 3 anC → Calls Try.prog 25 #[.int .i64 8, .slice (some ⟨w.heap.size, 0, none⟩) 3 3, .slice none 0 0] U (LdPost 8 anC [] U) := fun U h => load_any 8 _ _ _ anC none 0 0 [] U.heap.size U (by omega) h (MS.nil0 _ _) (fun k => by simp [U64])
  go_enter Try.func16, Try.ntmps16
  go_wp2_with (first
    | (go_at_call 25; go_must (refine (hload (w.alloc (.cells anA 25)) hC).mono ?_; rintro e w1 ⟨sp, n, cap, rfl, hok1, hM1, hb1⟩; rw [hL.out] at hok1 hM1 ⊢; have hs1 := mcA_size hok1.r16 sp n cap; have ho1 := mcA_one anM sp n cap; have B1 := (alloc_bel' w (.cells anA 25)).trans (hb1.mono (by simp)); generalize hMA : mcA anM sp n cap = MA at hs1 ho1 ⊢))
    | (refine st45n (by rfl) (.tmp 1) (.tmp 12) (by rfl) w1 w1.heap.size rfl (by rfl) MA (by rfl) (by rfl) hs1 ho1 ?_)
    | (refine ld45 (by rfl) (.tmp 1) (by rfl) w1.heap.size (by rfl) MA hs1 (Arr.new w1 45 MA) ?_)
    | (go_at_call 23; go_must (subst hMA; refine (run23_any (N := w1.heap.size) (es := []) anM sp n cap none 0 0 99 _ hok1 (hM1.below (alloc_bel' w1 _)) (ES.nil0 _ _) (by omega)).mono ?_; rintro e w2 ⟨sp2, n2, cap2, rfl, hok2, hM2, hb2, -⟩; rw [hR.out] at hok2 hM2 ⊢; have hs2 := mcA_size hok2.r16 sp2 n2 cap2; have ho2 := mcA_one anR sp2 n2 cap2; have B2 := (B1.alloc B1.size (.cells (mcA anM sp n cap) 45)).trans (hb2.mono (by have := B1.size; simp; omega)); have A2 := Arr.new w2 45 (mcA anR sp2 n2 cap2); have g0 := (A2.cell 0).trans (mcA_0 anR sp2 n2 cap2); have g2 := (A2.cell (1 + 2)).trans (mcA_r hok2.r16 sp2 n2 cap2 (by omega)); have g17 := (A2.cell 17).trans (mcA_17 hok2.r16 sp2 n2 cap2); change _ = some (Value.int IntKind.u64 2) at g0; change _ = some (Value.int IntKind.u64 14) at g2; change _ = some (Value.int IntKind.u8 1) at g17; generalize mcA anR sp2 n2 cap2 = MB at hs2 ho2 A2 g0 g2 g17 ⊢))
    | (refine st45n (by rfl) (.tmp 3) (.tmp 17) (by rfl) w2 w2.heap.size rfl (by rfl) MB (by rfl) (by rfl) hs2 ho2 ?_))
  go_ret
  exact ⟨rfl, B2.alloc B2.size _⟩
end Go.Proofs.Ytnjbmffgbgbjmaa
/- Layer vm: Step; runs in parts. -/
namespace Go.Proofs.Ytnjbmffgbgbjmaa
open Go.RowKit
set_option maxRecDepth 100000
set_option linter.unusedVariables false
set_option linter.unusedSimpArgs false


/-- What Step answers. -/
def SpPost (es : List En) (m : Mc) (w : World) (e : Ending) (w' : World) : Prop :=
  ∃ sp n cap, e = .returned (.tuple #[.agg (mcA (rO es m 1).1 sp n cap), .int .i64 (rO es m 1).2.2]) ∧ (rO es m 1).1.ok ∧ MS w'.heap.size w' sp n cap (rO es m 1).1.me ∧ Below w.heap.size w w' ∧ (0 < n → ∃ gm, sp = some ⟨gm, 0, none⟩ ∧ w.heap.size ≤ gm ∧ MW w' gm (rO es m 1).1.me)
set_option maxHeartbeats 1000000 in
theorem step17_any {N : Nat} {es : List En} (m : Mc) (sp : Option Addr) (n cap : Nat) (sq : Option Addr) (nk ck : Nat) (w : World) (hok : m.ok) (hM : MS N w sp n cap m.me) (hS : ES N w sq nk ck es) :
    Calls Try.prog 17 #[.agg (mcA m sp n cap), .slice sq nk ck] w (SpPost es m w) := by
  have A0 := (Arr.new w 45 (mcA m sp n cap)).alloc (.cells (mcA zM none 0 0) 45)
  have A1 := Arr.new (w.alloc (.cells (mcA m sp n cap) 45)) 45 (mcA zM none 0 0)
  simp only [World.size_alloc] at A1
  have hs0 := mcA_size hok.r16 sp n cap
  have hsz := mcA_size zM_ok.r16 none 0 0
  have hb0 := (alloc_bel' w (.cells (mcA m sp n cap) 45)).alloc (by simp) (.cells (mcA zM none 0 0) 45)
  have hrun : Calls Try.prog 23 #[.agg (mcA m sp n cap), .slice sq nk ck, .int .i64 1] ((w.alloc (.cells (mcA m sp n cap) 45)).alloc (.cells (mcA zM none 0 0) 45)) (RnPost es m 1 _) := run23_any m sp n cap sq nk ck 1 _ hok (hM.here.below hb0) (hS.here.below hb0) (by omega)
  unfold SpPost
  obtain ⟨R0, hR0⟩ : ∃ R, R = rO es m 1 := ⟨_, rfl⟩
  unfold RnPost at hrun
  rw [← hR0] at hrun ⊢
  clear hR0
  generalize mcA m sp n cap = C at *
  go_enter Try.func17, Try.ntmps17
  go_wp2_with (first
    | (refine ld45 (by rfl) (.tmp 2) (by rfl) w.heap.size (by rfl) C hs0 A0 ?_)
    | (go_at_call 23; go_must (refine hrun.mono ?_; rintro e w1 ⟨sp1, n1, cap1, rfl, hok1, hM1, hb1, hg1⟩; have hs1 := mcA_size hok1.r16 sp1 n1 cap1; have ho1 := mcA_one R0.1 sp1 n1 cap1; have A11 := A1.below hb1 (by simp); have B1 := hb0.trans (hb1.mono (by simp; omega)); have E1 := Arr.new w1 45 (mcA R0.1 sp1 n1 cap1)))
    | (refine st45n (by rfl) (.tmp 6) (.tmp 13) (by rfl) w1 w1.heap.size rfl (by rfl) (mcA R0.1 sp1 n1 cap1) (by rfl) (by rfl) hs1 ho1 ?_)
    | (refine ld45 (by rfl) (.tmp 6) (by rfl) w1.heap.size (by rfl) (mcA R0.1 sp1 n1 cap1) hs1 E1 ?_)
    | (refine st45 (by rfl) (.tmp 4) (.tmp 16) (by rfl) (w.heap.size + 1) (mcA R0.1 sp1 n1 cap1) (by rfl) (by rfl) hs1 ho1 _ hsz (A11.alloc _) ?_))
  have hbf : Below w1.heap.size w1 (w1.alloc (.cells (mcA R0.1 sp1 n1 cap1) 45)) := alloc_bel' _ _
  have hBf := below_setRow (B1.alloc B1.size (.cells (mcA R0.1 sp1 n1 cap1) 45)) (show w.heap.size ≤ w.heap.size + 1 by omega) (mcA R0.1 sp1 n1 cap1)
  refine bodyPost_ret (v := .tuple #[.agg (mcA R0.1 sp1 n1 cap1), .int .i64 R0.2.2]) (res45b Try.results17 rfl rfl hs1 ((A11.alloc _).setRow _)) rfl ⟨sp1, n1, cap1, rfl, hok1, ?_, hBf, fun h0 => ?_⟩
  · refine ⟨hM1.len, hM1.nil, hM1.le, hM1.big, hM1.small, fun h0 => ?_⟩
    obtain ⟨gm, rfl, hgm, hMW⟩ := hg1 h0
    simp only [World.size_alloc] at hgm
    have hMf := (hMW.below hbf hMW.lt).block (setRow_other _ (w.heap.size + 1) gm (mcA R0.1 (some ⟨gm, 0, none⟩) n1 cap1) (by omega))
    exact ⟨gm, 0, rfl, hMf.lt, fun t ht => by rw [Nat.zero_add]; exact hMf.cell (by rw [← hM1.len.out]; exact ht)⟩
  · obtain ⟨gm, rfl, hgm, hMW⟩ := hg1 h0
    simp only [World.size_alloc] at hgm
    exact ⟨gm, rfl, by omega, (hMW.below hbf hMW.lt).block (setRow_other _ _ _ _ (by omega))⟩

/-- Runs in parts. -/
theorem rn_add {es : List En} : ∀ (x y : Nat) (m : Mc), rn es (x + y) m = ((rn es y (rn es x m).1).1, (rn es x m).2 + (rn es y (rn es x m).1).2)
  | 0, y, m => by simp [rn]
  | x + 1, y, m => by
    rw [show x + 1 + y = (x + y) + 1 by omega]
    by_cases h : m.st = 0
    · rw [rn_go h, rn_go h, rn_add x y]
      simp only [Prod.mk.injEq, true_and]
      omega
    · rw [rn_stop h, rn_stop h, rn_stop h]; rfl
theorem rn_le {es : List En} : ∀ (x : Nat) (m : Mc), (rn es x m).2 ≤ x
  | 0, m => by simp [rn]
  | x + 1, m => by
    by_cases h : m.st = 0
    · rw [rn_go h]
      have := rn_le (es := es) x (tick es m)
      simp only
      omega
    · rw [rn_stop h]; simp
theorem rn_all {es : List En} : ∀ (x : Nat) (m : Mc), (rn es x m).1.st = 0 → (rn es x m).2 = x
  | 0, m, _ => by simp [rn]
  | x + 1, m, h0 => by
    by_cases h : m.st = 0
    · rw [rn_go h] at h0 ⊢
      have := rn_all x (tick es m) h0
      simp only
      omega
    · rw [rn_stop h] at h0
      exact absurd h0 h
theorem ex_me {es : List En} {m m' : Mc} {o : Int} {a b c : Nat} {i : Int} (h : ex es m o a b c i = some m') : m'.me.length = m.me.length ∧ (m.st ≤ 2 → m'.st ≤ 2) := by
  unfold ex at h
  by_cases h1 : o = 1
  · rw [if_pos h1] at h
    cases h; exact ⟨rfl, fun _ => by show (1 : Int) ≤ 2; omega⟩
  rw [if_neg h1] at h
  by_cases h2 : o = 2
  · rw [if_pos h2] at h
    cases h; exact ⟨rfl, id⟩
  rw [if_neg h2] at h
  by_cases h3 : o = 3
  · rw [if_pos h3] at h
    cases h; exact ⟨rfl, id⟩
  rw [if_neg h3] at h
  by_cases h4 : o = 4
  · rw [if_pos h4] at h
    cases h; exact ⟨rfl, id⟩
  rw [if_neg h4] at h
  by_cases h17 : o = 17
  · rw [if_pos h17] at h
    by_cases q : IntKind.u64.wrap (m.get b + i) < m.me.length
    · rw [if_pos q] at h; cases h; exact ⟨rfl, id⟩
    · rw [if_neg q] at h; cases h
  rw [if_neg h17] at h
  by_cases h18 : o = 18
  · rw [if_pos h18] at h
    by_cases q : IntKind.u64.wrap (m.get b + i) < m.me.length
    · rw [if_pos q] at h; cases h; exact ⟨by simp [Mc.nxt], id⟩
    · rw [if_neg q] at h; cases h
  rw [if_neg h18] at h
  by_cases h19 : o = 19
  · rw [if_pos h19] at h
    cases h; exact ⟨rfl, id⟩
  rw [if_neg h19] at h
  by_cases h20 : o = 20
  · rw [if_pos h20] at h
    by_cases q : m.get a = 0
    · rw [if_pos q] at h; cases h; exact ⟨rfl, id⟩
    · rw [if_neg q] at h; cases h; exact ⟨rfl, id⟩
  rw [if_neg h20] at h
  by_cases h21 : o = 21
  · rw [if_pos h21] at h
    by_cases q : m.get a = 0
    · rw [if_pos q] at h; cases h; exact ⟨rfl, id⟩
    · rw [if_neg q] at h; cases h; exact ⟨rfl, id⟩
  rw [if_neg h21] at h
  by_cases h22 : o = 22
  · rw [if_pos h22] at h
    cases h; exact ⟨rfl, id⟩
  rw [if_neg h22] at h
  by_cases h23 : o = 23
  · rw [if_pos h23] at h
    unfold hs at h
    by_cases q1 : 128 < m.get c
    · rw [if_pos q1] at h; cases h
    rw [if_neg q1] at h
    by_cases q2 : ¬ m.get a + 4 ≤ m.me.length
    · rw [if_pos q2] at h; cases h
    rw [if_neg q2] at h
    by_cases q3 : ¬ (m.get c = 0 ∨ m.get b + (m.get c + 7) / 8 ≤ m.me.length)
    · rw [if_pos q3] at h; cases h
    rw [if_neg q3] at h
    cases hp : mkL i with
    | none => rw [hp] at h; cases h
    | some P => rw [hp] at h; cases h; exact ⟨by simp [Mc.nxt, put4_len], id⟩
  rw [if_neg h23] at h
  by_cases h24 : o = 24
  · rw [if_pos h24] at h
    cases hp : prm es m (m.get b) with
    | none => rw [hp] at h; cases h
    | some e => rw [hp] at h; cases h; exact ⟨rfl, id⟩
  rw [if_neg h24] at h
  by_cases h25 : o = 25
  · rw [if_pos h25] at h
    cases hp : prm es m (m.get b) with
    | none => rw [hp] at h; cases h
    | some e => rw [hp] at h; cases h; exact ⟨rfl, id⟩
  rw [if_neg h25] at h
  cases hp : rk o (m.get b) (m.get c) with
  | none => rw [hp] at h; cases h
  | some e => rw [hp] at h; cases h; exact ⟨rfl, id⟩
theorem tick_me (es : List En) (m : Mc) : (tick es m).me.length = m.me.length ∧ (m.st ≤ 2 → (tick es m).st ≤ 2) := by
  unfold tick
  cases h : stp es m with
  | none => exact ⟨rfl, fun _ => by show (2 : Int) ≤ 2; omega⟩
  | some m' =>
    unfold stp at h
    by_cases h1 : m.pc < m.me.length
    · rw [if_pos h1] at h
      by_cases h2 : dOk (m.me.getD m.pc.toNat 0) = true
      · rw [if_pos h2] at h
        exact ex_me h
      · rw [if_neg h2] at h; cases h
    · rw [if_neg h1] at h; cases h
theorem rn_may {es : List En} : ∀ (x : Nat) (m : Mc), mayM m = true → mayM (rn es x m).1 = true
  | 0, m, h => by simpa [rn] using h
  | x + 1, m, h => by
    by_cases hst : m.st = 0
    · rw [rn_go hst]
      refine rn_may x (tick es m) ?_
      have ht := tick_me es m
      unfold mayM at h ⊢
      rw [Bool.and_eq_true] at h ⊢
      rw [ht.1]
      exact ⟨h.1, decide_eq_true (ht.2 (of_decide_eq_true h.2))⟩
    · rw [rn_stop hst]; exact h
end Go.Proofs.Ytnjbmffgbgbjmaa
/- Layer vm: the document's May; the law VmParts. -/
namespace Go.Proofs.Ytnjbmffgbgbjmaa
open Go.RowKit
set_option maxRecDepth 100000
set_option linter.unusedVariables false
set_option linter.unusedSimpArgs false


set_option maxHeartbeats 1000000 in
theorem refSize_any (x : Int) (w : World) (hx : -9223372036854775808 ≤ x ∧ x ≤ 9223372036854775807) : Calls Try.prog 32 #[.int .i64 x] w fun e w' => e = .returned (.bool (szI x)) ∧ w' = w := by
  go_enter Try.func32, Try.ntmps32
  go_wp2_with fail
  go_loopw [3] (fun q wr => wr = w ∧ ∃ (k : Nat), q = .int .i64 (k : Int) ∧ k ≤ 13 ∧ Hid (∀ j, j < k → x ≠ ((2 ^ j : Nat) : Int)))
    (fun q _ => 13 - (intOf q).toNat)
  case atStart => exact ⟨rfl, 0, rfl, by omega, Hid.mk' (fun j hj => by omega)⟩
  case round =>
    obtain ⟨rfl, k, rfl, hk, hno⟩ := hrel
    by_cases hlt : k ≤ 12
    · have hI : (k : Int) ≤ 12 := by omega
      have hk0 : (0 : Int) ≤ k := by omega
      obtain ⟨p, hp0⟩ : ∃ p : Int, p = ((2 ^ k : Nat) : Int) := ⟨_, rfl⟩
      have hw1 : wrap64 ((2 : Int) ^ k) = p := by rw [wrap_pow (by omega), hp0]
      replace hp0 := Hid.mk' hp0
      have hw3 : IntKind.u64.wrap (k : Int) = k := wrap64_of (by omega) (by omega)
      by_cases he : x = p
      · have he' : (x == p) = true := by simpa using he
        have hf : Hid (szI x = true) := Hid.mk' (by rw [he, hp0.out, szI_nat]; unfold szB; rw [List.any_eq_true]; exact ⟨k, by simp; omega, by simp⟩)
        replace he := Hid.mk' he
        go_wp2_with fail
        go_ret
        exact ⟨by rw [hf.out]; rfl, rfl⟩
      · have he' : (x == p) = false := by simpa using he
        have hn2 : Hid (∀ j, j < k + 1 → x ≠ ((2 ^ j : Nat) : Int)) := Hid.mk' (fun j hj => by
          by_cases e : j = k
          · subst e; rw [← hp0.out]; exact he
          · exact hno.out j (by omega))
        replace he := Hid.mk' he
        go_wp2_with fail
        go_roundw
        case rel => exact ⟨by trivial, k + 1, by go_num, by omega, hn2⟩
        case measure => simp [intOf]; omega
    · obtain rfl : k = 13 := by omega
      have hf : Hid (szI x = false) := Hid.mk' (by
        cases h : szI x with
        | false => rfl
        | true =>
          unfold szI szB at h
          rw [Bool.and_eq_true, List.any_eq_true] at h
          obtain ⟨h0, j, hj, e⟩ := h
          have h0 := of_decide_eq_true h0
          simp at hj e
          exact absurd (show x = ((2 ^ j : Nat) : Int) by omega) (hno.out j hj))
      go_wp2_with fail
      go_ret
      exact ⟨by rw [hf.out]; rfl, rfl⟩

set_option maxHeartbeats 400000 in
theorem refMay_any (m : Mc) (sp : Option Addr) (n cap : Nat) (w : World) (hok : m.ok) (hl : Hid (n = m.me.length)) (hn : n ≤ 17592186044416) :
    Calls Try.prog 21 #[.agg (mcA m sp n cap)] w fun e w' => e = .returned (.bool (mayM m)) ∧ Below w.heap.size w w' := by
  have A0 := Arr.new w 45 (mcA m sp n cap)
  have c17 := (A0.cell 17).trans (mcA_17 hok.r16 sp n cap)
  have c18 := (A0.cell 18).trans (mcA_18 hok.r16 sp n cap)
  have hz : szI (n : Int) = szB m.me.length := by rw [szI_nat, hl.out]
  have hz := Hid.mk' hz
  unfold mayM
  generalize szB m.me.length = b at *
  generalize mcA m sp n cap = C at *
  cases b
  · go_enter Try.func21, Try.ntmps21
    go_wp2_with (go_at_call 32; go_must (refine (refSize_any _ _ (by omega)).mono ?_; rintro e w1 ⟨rfl, h⟩; subst h; rw [hz.out]))
    go_ret
    exact ⟨rfl, alloc_bel' _ _⟩
  · go_enter Try.func21, Try.ntmps21
    go_wp2_with (go_at_call 32; go_must (refine (refSize_any _ _ (by omega)).mono ?_; rintro e w1 ⟨rfl, h⟩; subst h; rw [hz.out]))
    go_ret
    exact ⟨rfl, alloc_bel' _ _⟩
end Go.Proofs.Ytnjbmffgbgbjmaa
/- Layer vm: the document's Copy and Run. -/
namespace Go.Proofs.Ytnjbmffgbgbjmaa
open Go.RowKit
set_option maxRecDepth 100000
set_option linter.unusedVariables false
set_option linter.unusedSimpArgs false

theorem set18 {m : Mc} (h : m.rg.length = 16) (sp : Option Addr) (n cap : Nat) (v : Value) : (mcA m sp n cap).setIfInBounds 18 v = (mcL m v).toArray := by
  simp only [mcA, List.setIfInBounds_toArray]
  rw [mcL, List.set_cons_succ, List.set_append_right _ _ (by rw [by64_len, h]; omega), by64_len, h]
  rfl
set_option maxHeartbeats 1000000 in
/-- Copy: a memory of its own. -/
theorem copy_any (m : Mc) (sp : Option Addr) (n cap : Nat) (N : Nat) (w : World) (hok : m.ok) (hM : MS N w sp n cap m.me) (h0 : 0 < n) :
    Calls Try.prog 27 #[.agg (mcA m sp n cap)] w fun e w' => ∃ gm cap', e = .returned (.agg (mcA m (some ⟨gm, 0, none⟩) n cap')) ∧ w.heap.size ≤ gm ∧ n ≤ cap' ∧ cap' ≤ 9223372036854775807 ∧ MW w' gm m.me ∧ Below w.heap.size w w' := by
  have A0 := (Arr.new w 45 (mcA m sp n cap)).alloc (.cells (mcA zM none 0 0) 45)
  have A1 := Arr.new (w.alloc (.cells (mcA m sp n cap) 45)) 45 (mcA zM none 0 0)
  simp only [World.size_alloc] at A1
  have hs0 := mcA_size hok.r16 sp n cap
  have hsz := mcA_size zM_ok.r16 none 0 0
  have hb0 := (alloc_bel' w (.cells (mcA m sp n cap) 45)).alloc (by simp) (.cells (mcA zM none 0 0) 45)
  have c18A := mcA_18 hok.r16 sp n cap
  have hset : ∀ (cp gm : Nat), (mcA m sp n cap).setIfInBounds 18 (.slice (some ⟨gm, 0, none⟩) n cp) = mcA m (some ⟨gm, 0, none⟩) n cp := fun cp gm => set18 hok.r16 _ _ _ _
  have hM0 := hM.here.below hb0
  obtain ⟨g0, off, rfl, -⟩ := hM.at0 h0
  have hs5 := fun (cp gm : Nat) => mcA_size hok.r16 (some ⟨gm, 0, none⟩) n cp
  have ho5 := fun (cp gm : Nat) => mcA_one m (some ⟨gm, 0, none⟩) n cp
  generalize hC : mcA m (some ⟨g0, off, none⟩) n cap = C at A0 A1 hb0 hset c18A hs0 hM0 ⊢
  clear hC
  obtain ⟨W, hW⟩ : ∃ W : World, W = (w.alloc (.cells C 45)).alloc (.cells (mcA zM none 0 0) 45) := ⟨_, rfl⟩
  have hWs : w.heap.size + 2 ≤ W.heap.size := by rw [hW]; simp
  have hlit : (W.alloc (.cells #[] 26)).ownsRow W.heap.size 26 1 (.slice (some ⟨W.heap.size, 0, none⟩) 0 0) 0 (by64 []) := World.ownsRow_lit _ _ _ (Nat.le_refl _) (by unfold maxLen; omega) rfl
  rw [← hW] at A0 A1 hb0 hM0
  have A0' := A0.alloc (.cells #[] 26)
  have A1' := A1.alloc (.cells #[] 26)
  have d18 := (A0'.cell 18).trans c18A
  have hM1 := (hM0.mono (show w.heap.size ≤ W.heap.size by omega)).below (alloc_bel' W (.cells #[] 26))
  have hB1 : Below w.heap.size w (W.alloc (.cells #[] 26)) := hb0.alloc (by omega) _
  go_enter Try.func27, Try.ntmps27
  go_upto_region 1 with fail
  rw [show mcA zM none 0 0 = #[.int .u64 0, .int .u64 0, .int .u64 0, .int .u64 0, .int .u64 0, .int .u64 0, .int .u64 0, .int .u64 0, .int .u64 0, .int .u64 0, .int .u64 0, .int .u64 0, .int .u64 0, .int .u64 0, .int .u64 0, .int .u64 0, .int .u64 0, .int .u8 0, .slice none 0 0] from rfl] at hW
  rw [← hW]
  clear hW
  go_upto_region 2 with (at_builtin; go_must (refine append_words (by rfl) (.tmp 3) (.tmp 5) (by rfl) W.heap.size _ (by rfl) hlit (some ⟨g0, off, none⟩) n cap m.me (by rfl) hM1 (by simp) ?_; intro v1 w1 hown1 hg1; have hbw : Below W.heap.size W w1 := (alloc_bel' W (.cells #[] 26)).grown hg1 (by simp) (fun k e => by simp [Value.ownBlock] at e; omega); obtain ⟨gm, cap', rfl, -, hgm, hc1, hc2, hMW⟩ := own64 hown1 h0; have A02 := A0.below hbw A0.lt; have A12 := A1.below hbw A1.lt; have d18' := (A02.cell 18).trans c18A; have f18' := A02.frozen 18))
  have B2 : Below w.heap.size w w1 := hb0.trans (hbw.mono hb0.size)
  have A5 : Arr (w1.setCell ⟨w.heap.size, 18, none⟩ (.slice (some ⟨gm, 0, none⟩) n cap')) w.heap.size 45 (mcA m (some ⟨gm, 0, none⟩) n cap') := by have := A02.set 18 (.slice (some ⟨gm, 0, none⟩) n cap'); rw [hset] at this; exact this
  have A15 : Arr (w1.setCell ⟨w.heap.size, 18, none⟩ (.slice (some ⟨gm, 0, none⟩) n cap')) (w.heap.size + 1) 45 (mcA zM none 0 0) := A12.setOther _ (by simp)
  have MW5 : MW (w1.setCell ⟨w.heap.size, 18, none⟩ (.slice (some ⟨gm, 0, none⟩) n cap')) gm m.me := hMW.setOther _ (by show gm ≠ w.heap.size; omega)
  have B5 : Below w.heap.size w (w1.setCell ⟨w.heap.size, 18, none⟩ (.slice (some ⟨gm, 0, none⟩) n cap')) := B2.setCell (Nat.le_refl _) _
  generalize w1.setCell ⟨w.heap.size, 18, none⟩ (.slice (some ⟨gm, 0, none⟩) n cap') = W5 at A5 A15 MW5 B5 ⊢
  have hs5 := hs5 cap' gm
  have ho5 := ho5 cap' gm
  clear A0 A1 A0' A1' d18 A02 A12 d18' f18' hbw hMW hset c18A hlit hM0 hM1 hown1
  go_wp2_with (first
    | (refine ld45 (by rfl) (.tmp 1) (by rfl) w.heap.size (by rfl) _ hs5 A5 ?_)
    | (refine st45 (by rfl) (.tmp 2) (.tmp 8) (by rfl) (w.heap.size + 1) _ (by rfl) (by rfl) hs5 ho5 _ hsz A15 ?_))
  exact bodyPost_ret (v := .agg (mcA m (some ⟨gm, 0, none⟩) n cap')) (res45c Try.results27 rfl hs5 (A15.setRow _)) rfl ⟨gm, cap', rfl, by omega, hc1, hc2, MW5.block (setRow_other _ _ _ _ (by omega)), below_setRow B5 (by omega) _⟩
set_option maxHeartbeats 1000000 in
theorem refRun_no {N : Nat} {es : List En} (m : Mc) (sp : Option Addr) (n cap : Nat) (sq : Option Addr) (nk ck : Nat) (x : Int) (w : World) (hok : m.ok) (hM : MS N w sp n cap m.me) (hS : ES N w sq nk ck es) (hx : -9223372036854775808 ≤ x ∧ x ≤ 9223372036854775807) (hbad : mayM m = false ∨ x < 0 ∨ 4194304 < x) :
    Calls Try.prog 24 #[.agg (mcA m sp n cap), .slice sq nk ck, .int .i64 x] w (RnPost es m x w) := by
  have A0 := (Arr.new w 45 (mcA m sp n cap)).alloc (.cells (mcA zM none 0 0) 45)
  have A1 := Arr.new (w.alloc (.cells (mcA m sp n cap) 45)) 45 (mcA zM none 0 0)
  simp only [World.size_alloc] at A1
  have hs0 := mcA_size hok.r16 sp n cap
  have hsz := mcA_size zM_ok.r16 none 0 0
  have hoz := mcA_one zM none 0 0
  have hb0 := (alloc_bel' w (.cells (mcA m sp n cap) 45)).alloc (by simp) (.cells (mcA zM none 0 0) 45)
  have hmay : ∀ U, Calls Try.prog 21 #[.agg (mcA m sp n cap)] U fun e w' => e = .returned (.bool (mayM m)) ∧ Below U.heap.size U w' := fun U => refMay_any m sp n cap U hok hM.len hM.small
  generalize hC : mcA m sp n cap = C at *
  cases hmm : mayM m with
  | false =>
      have hr : rO es m x = (zM, 0, 2) := by simp [rO, hmm]
      replace hr := Hid.mk' hr
      replace hmm := Hid.mk' hmm
      clear hbad
      go_enter Try.func24, Try.ntmps24
      go_wp2_with (first
        | (refine ld45 (by rfl) (.tmp 3) (by rfl) w.heap.size (by rfl) C hs0 A0 ?_)
        | (go_at_call 21; go_must (refine (hmay _).mono ?_; rintro e w1 ⟨rfl, hb1⟩; rw [hmm.out]; have B1 := hb0.trans (hb1.mono (by simp; omega)); have A01 := A0.below hb1 (by simp; omega); have A11 := A1.below hb1 (by simp)))
        | (refine st45 (by rfl) (.tmp 6) (.tmp 18) (by rfl) (w.heap.size + 1) (mcA zM none 0 0) (by rfl) (by rfl) hsz hoz _ hsz A11 ?_))
      exact bodyPost_ret (v := .tuple #[.agg (mcA zM none 0 0), .int .i64 0, .int .i64 2]) (res45 Try.results24 rfl rfl rfl hsz (A11.setRow _)) rfl (rnNo hr.out (below_setRow B1 (by omega) _))
  | true =>
    by_cases hx0 : x < 0
    · have hr : rO es m x = (zM, 0, 2) := by simp [rO, hx0]
      replace hr := Hid.mk' hr
      replace hmm := Hid.mk' hmm
      clear hbad
      go_enter Try.func24, Try.ntmps24
      go_wp2_with (first
        | (refine ld45 (by rfl) (.tmp 3) (by rfl) w.heap.size (by rfl) C hs0 A0 ?_)
        | (go_at_call 21; go_must (refine (hmay _).mono ?_; rintro e w1 ⟨rfl, hb1⟩; rw [hmm.out]; have B1 := hb0.trans (hb1.mono (by simp; omega)); have A01 := A0.below hb1 (by simp; omega); have A11 := A1.below hb1 (by simp)))
        | (refine st45 (by rfl) (.tmp 6) (.tmp 18) (by rfl) (w.heap.size + 1) (mcA zM none 0 0) (by rfl) (by rfl) hsz hoz _ hsz A11 ?_))
      exact bodyPost_ret (v := .tuple #[.agg (mcA zM none 0 0), .int .i64 0, .int .i64 2]) (res45 Try.results24 rfl rfl rfl hsz (A11.setRow _)) rfl (rnNo hr.out (below_setRow B1 (by omega) _))
    · have hx4 : 4194304 < x := by rcases hbad with h | h | h; rw [hmm] at h; cases h; exact absurd h hx0; exact h
      have hr : rO es m x = (zM, 0, 4) := by simp [rO, hmm, hx0, hx4]
      replace hr := Hid.mk' hr
      replace hmm := Hid.mk' hmm
      clear hbad
      go_enter Try.func24, Try.ntmps24
      go_wp2_with (first
        | (refine ld45 (by rfl) (.tmp 3) (by rfl) w.heap.size (by rfl) C hs0 A0 ?_)
        | (go_at_call 21; go_must (refine (hmay _).mono ?_; rintro e w1 ⟨rfl, hb1⟩; rw [hmm.out]; have B1 := hb0.trans (hb1.mono (by simp; omega)); have A01 := A0.below hb1 (by simp; omega); have A11 := A1.below hb1 (by simp)))
        | (refine st45 (by rfl) (.tmp 6) (.tmp 21) (by rfl) (w.heap.size + 1) (mcA zM none 0 0) (by rfl) (by rfl) hsz hoz _ hsz A11 ?_))
      exact bodyPost_ret (v := .tuple #[.agg (mcA zM none 0 0), .int .i64 0, .int .i64 4]) (res45 Try.results24 rfl rfl rfl hsz (A11.setRow _)) rfl (rnNo hr.out (below_setRow B1 (by omega) _))
set_option maxHeartbeats 2000000 in
theorem refRun_ok {N : Nat} {es : List En} (m : Mc) (sp : Option Addr) (n cap : Nat) (sq : Option Addr) (nk ck : Nat) (x : Int) (w : World) (hok : m.ok) (hM : MS N w sp n cap m.me) (hS : ES N w sq nk ck es) (hx : -9223372036854775808 ≤ x ∧ x ≤ 9223372036854775807) (hmay1 : mayM m = true) {F : Nat} (hxF : x = (F : Int)) (hF : F ≤ 4194304) :
    Calls Try.prog 24 #[.agg (mcA m sp n cap), .slice sq nk ck, .int .i64 x] w (RnPost es m x w) := by
  subst hxF
  have A0 := (Arr.new w 45 (mcA m sp n cap)).alloc (.cells (mcA zM none 0 0) 45)
  have A1 := Arr.new (w.alloc (.cells (mcA m sp n cap) 45)) 45 (mcA zM none 0 0)
  simp only [World.size_alloc] at A1
  have hs0 := mcA_size hok.r16 sp n cap
  have hsz := mcA_size zM_ok.r16 none 0 0
  have hoz := mcA_one zM none 0 0
  have hb0 := (alloc_bel' w (.cells (mcA m sp n cap) 45)).alloc (by simp) (.cells (mcA zM none 0 0) 45)
  have hmay : ∀ U, Calls Try.prog 21 #[.agg (mcA m sp n cap)] U fun e w' => e = .returned (.bool (mayM m)) ∧ Below U.heap.size U w' := fun U => refMay_any m sp n cap U hok hM.len hM.small
  have hsb : szB m.me.length = true := by unfold mayM at hmay1; exact (Bool.and_eq_true_iff.1 hmay1).1
  have hn := szB_le hsb
  rw [← hM.len.out] at hn
  have hn4 : n ≤ 4096 := hn.2
  have hn0 : 0 < n := by omega
  have hl := hM.len
  have hr : rO es m F = ((rn es F m).1, ((rn es F m).2 : Int), 0) := by
    unfold rO
    rw [if_neg (by rw [hmay1]; simp), if_neg (by omega), Int.toNat_natCast]
  replace hr := Hid.mk' hr
  have hmm := Hid.mk' hmay1
  clear hmay1 hsb
  have hf0 : ¬ (F : Int) < 0 := by omega
  have hf1 : ¬ (4194304 : Int) < F := by omega
  have hcopy := fun (U : World) (hU : MS w.heap.size U sp n cap m.me) => copy_any m sp n cap w.heap.size U hok hU hn0
  have hMs := hM.here
  have hSS := hS.here
  have hs9 := fun (cp gm : Nat) => mcA_size hok.r16 (some ⟨gm, 0, none⟩) n cp
  have ho9 := fun (cp gm : Nat) => mcA_one m (some ⟨gm, 0, none⟩) n cp
  generalize hC : mcA m sp n cap = C at A0 A1 hb0 hmay hs0 hcopy ⊢
  clear hC
  go_enter Try.func24, Try.ntmps24
  go_upto_region 6 with (first
      | (refine ld45 (by rfl) (.tmp 3) (by rfl) w.heap.size (by rfl) C hs0 A0 ?_)
      | (go_at_call 21; go_must (refine (hmay _).mono ?_; rintro e w1 ⟨rfl, hb1⟩; rw [hmm.out]; have B1 := hb0.trans (hb1.mono (by simp; omega)); have A01 := A0.below hb1 (by simp; omega); have A11 := A1.below hb1 (by simp)))
      | (refine ld45 (by rfl) (.tmp 3) (by rfl) w.heap.size (by rfl) C hs0 A01 ?_)
      | (go_at_call 27; go_must (refine (hcopy w1 (hMs.below B1)).mono ?_; rintro e w2 ⟨gm, cap', rfl, hgm, hc1, hc2, hMW, hb2⟩; have B2 := B1.trans (hb2.mono B1.size); have A12 := A11.below hb2 A11.lt; have hs9 := hs9 cap' gm; have ho9 := ho9 cap' gm))
      | (refine st45n (by rfl) (.tmp 9) (.tmp 23) (by rfl) w2 w2.heap.size rfl (by rfl) (mcA m (some ⟨gm, 0, none⟩) n cap') (by rfl) (by rfl) hs9 ho9 ?_))
  have hsz1 := hb1.size
  simp only [World.size_alloc] at hsz1
  have hsz2 := hb2.size
  have A9 := Arr.new w2 45 (mcA m (some ⟨gm, 0, none⟩) n cap')
  have A13 := A12.alloc (.cells (mcA m (some ⟨gm, 0, none⟩) n cap') 45)
  have hMl := hMW.lt
  have MW9 : MW (w2.alloc (.cells (mcA m (some ⟨gm, 0, none⟩) n cap') 45)) gm m.me := hMW.below (alloc_bel' _ _) hMl
  have B9 : Below w.heap.size w (w2.alloc (.cells (mcA m (some ⟨gm, 0, none⟩) n cap') 45)) := B2.alloc B2.size _
  obtain ⟨g9, hg9⟩ : ∃ g9, g9 = w2.heap.size := ⟨_, rfl⟩
  have h9m : g9 ≠ gm := by omega
  have h9w : w.heap.size + 1 < g9 := by omega
  have hgmw : w.heap.size + 1 < gm := by omega
  rw [← hg9] at A9 ⊢
  generalize w2.alloc (.cells (mcA m (some ⟨gm, 0, none⟩) n cap') 45) = W9 at A9 A13 MW9 B9 ⊢
  have hV9 : DM w.heap.size es W9 g9 gm n cap' sq nk ck m := ⟨⟨by simpa [mcA] using A9, MW9, h9m, hl, hn4, ⟨hc1, hc2⟩, hok⟩, hSS.below B9, by omega, by omega⟩
  clear A0 A1 hb0 hmay B1 A01 A11 hb1 hb2 hMW B2 A12 hs0 hcopy hg9 A9 MW9 hsz1 hsz2 hMl hs9 ho9 hMs
  have L13 := A13.lt
  go_wp2_with fail
  go_loopw [10] (fun v wr => ∃ (k : Nat) (mk : Mc), v = .int .i64 (k : Int) ∧ k ≤ F ∧ DM w.heap.size es wr g9 gm n cap' sq nk ck mk ∧ Chg (C2 g9 gm) W9 wr ∧ Arr wr (w.heap.size + 1) 45 (mcA zM none 0 0) ∧ Hid (rn es F m = ((rn es (F - k) mk).1, (rn es (F - k) mk).2 + k)))
    (fun v _ => F - (intOf v).toNat)
  case atStart => exact ⟨0, m, rfl, by omega, hV9, Chg.refl _ _, A13, Hid.mk' (by simp)⟩
  case round =>
    clear hV9
    obtain ⟨k, mk, rfl, hk, hVr, hcg, hA, hrn⟩ := hrel
    have c17 := hVr.en.c17
    by_cases hlt : k < F
    · have hI : (k : Int) < F := by omega
      by_cases hst : mk.st = 0
      · have hst' : (mk.st == 0) = true := by simpa using hst
        have hnx := Hid.mk' (rn_next hlt hst hrn.out)
        have hstH := Hid.mk' hst
        clear hst
        go_wp2_with (go_at_call 37; go_must (refine (refTurn_any wr hVr hstH.out).mono ?_; rintro e w1 ⟨rfl, hc1, hs1, hV1⟩))
        have A1 : Arr w1 (w.heap.size + 1) 45 (mcA zM none 0 0) := (hc1.block _ hA.lt (by rintro (e | e) <;> omega)).trans hA
        go_roundw
        case rel => exact ⟨k + 1, tick es mk, by go_num, by omega, hV1, hcg.trans hc1, A1, hnx⟩
        case measure => simp [intOf]; omega
      · have hst' : (mk.st == 0) = false := by simpa using hst
        have hfin : rn es F m = (mk, k) := by rw [hrn.out, rn_stop hst]; simp
        clear hst
        have hEr := hVr.en
        have A9 : Arr wr g9 45 (mcA mk (some ⟨gm, 0, none⟩) n cap') := by have := hEr.eng; simpa [mcA] using this
        have hs9 := mcA_size hEr.ok.r16 (some ⟨gm, 0, none⟩) n cap'
        have ho9 := mcA_one mk (some ⟨gm, 0, none⟩) n cap'
        have hrr := hr.out
        rw [hfin] at hrr
        replace hrr := Hid.mk' hrr
        clear hfin
        have hBr : Below w.heap.size w wr := ⟨hcg.os.trans B9.os, hcg.tape.trans B9.tape, hcg.output.trans B9.output, Nat.le_trans B9.size hcg.size, fun i hi => (hcg.block i (Nat.lt_of_lt_of_le hi B9.size) (by rintro (e | e) <;> omega)).trans (B9.block i hi)⟩
        go_wp2_with (first
          | (refine ld45 (by rfl) (.tmp 9) (by rfl) g9 (by rfl) _ hs9 A9 ?_)
          | (refine st45 (by rfl) (.tmp 6) (.tmp 36) (by rfl) (w.heap.size + 1) _ (by rfl) (by rfl) hs9 ho9 _ hsz hA ?_))
        have MWf : MW (wr.setRow (w.heap.size + 1) (mcA mk (some ⟨gm, 0, none⟩) n cap')) gm mk.me := hEr.mem.block (setRow_other _ _ _ _ (by omega))
        refine bodyPost_ret (v := .tuple #[.agg (mcA mk (some ⟨gm, 0, none⟩) n cap'), .int .i64 (k : Int), .int .i64 0]) (res45 Try.results24 rfl rfl rfl hs9 (hA.setRow _)) rfl ⟨some ⟨gm, 0, none⟩, n, cap', by rw [hrr.out], by rw [hrr.out]; exact hEr.ok, by rw [hrr.out]; exact MWf.ms hEr.len.out (by omega) ⟨hc1, hc2⟩, below_setRow hBr (by omega) _, fun _ => ⟨gm, rfl, by omega, by rw [hrr.out]; exact MWf⟩⟩
    · obtain rfl : k = F := by omega
      have hI : ¬ (k : Int) < k := by omega
      have hfin : rn es k m = (mk, k) := by rw [hrn.out]; simp [rn]
      have hEr := hVr.en
      have A9 : Arr wr g9 45 (mcA mk (some ⟨gm, 0, none⟩) n cap') := by have := hEr.eng; simpa [mcA] using this
      have hs9 := mcA_size hEr.ok.r16 (some ⟨gm, 0, none⟩) n cap'
      have ho9 := mcA_one mk (some ⟨gm, 0, none⟩) n cap'
      have hrr := hr.out
      rw [hfin] at hrr
      replace hrr := Hid.mk' hrr
      clear hfin
      have hBr : Below w.heap.size w wr := ⟨hcg.os.trans B9.os, hcg.tape.trans B9.tape, hcg.output.trans B9.output, Nat.le_trans B9.size hcg.size, fun i hi => (hcg.block i (Nat.lt_of_lt_of_le hi B9.size) (by rintro (e | e) <;> omega)).trans (B9.block i hi)⟩
      go_wp2_with (first
        | (refine ld45 (by rfl) (.tmp 9) (by rfl) g9 (by rfl) _ hs9 A9 ?_)
        | (refine st45 (by rfl) (.tmp 6) (.tmp 36) (by rfl) (w.heap.size + 1) _ (by rfl) (by rfl) hs9 ho9 _ hsz hA ?_))
      have MWf : MW (wr.setRow (w.heap.size + 1) (mcA mk (some ⟨gm, 0, none⟩) n cap')) gm mk.me := hEr.mem.block (setRow_other _ _ _ _ (by omega))
      refine bodyPost_ret (v := .tuple #[.agg (mcA mk (some ⟨gm, 0, none⟩) n cap'), .int .i64 (k : Int), .int .i64 0]) (res45 Try.results24 rfl rfl rfl hs9 (hA.setRow _)) rfl ⟨some ⟨gm, 0, none⟩, n, cap', by rw [hrr.out], by rw [hrr.out]; exact hEr.ok, by rw [hrr.out]; exact MWf.ms hEr.len.out (by omega) ⟨hc1, hc2⟩, below_setRow hBr (by omega) _, fun _ => ⟨gm, rfl, by omega, by rw [hrr.out]; exact MWf⟩⟩
theorem refRun_any {N : Nat} {es : List En} (m : Mc) (sp : Option Addr) (n cap : Nat) (sq : Option Addr) (nk ck : Nat) (x : Int) (w : World) (hok : m.ok) (hM : MS N w sp n cap m.me) (hS : ES N w sq nk ck es) (hx : -9223372036854775808 ≤ x ∧ x ≤ 9223372036854775807) :
    Calls Try.prog 24 #[.agg (mcA m sp n cap), .slice sq nk ck, .int .i64 x] w (RnPost es m x w) := by
  cases hm : mayM m with
  | false => exact refRun_no m sp n cap sq nk ck x w hok hM hS hx (.inl hm)
  | true =>
    by_cases h0 : x < 0
    · exact refRun_no m sp n cap sq nk ck x w hok hM hS hx (.inr (.inl h0))
    · by_cases h4 : 4194304 < x
      · exact refRun_no m sp n cap sq nk ck x w hok hM hS hx (.inr (.inr h4))
      · exact refRun_ok m sp n cap sq nk ck x w hok hM hS hx hm (F := x.toNat) (by omega) (by omega)
end Go.Proofs.Ytnjbmffgbgbjmaa
/- Layer vm: the document's Step. -/
namespace Go.Proofs.Ytnjbmffgbgbjmaa
open Go.RowKit
set_option maxRecDepth 100000
set_option linter.unusedVariables false
set_option linter.unusedSimpArgs false

set_option maxHeartbeats 1000000 in
theorem refStep_any {N : Nat} {es : List En} (m : Mc) (sp : Option Addr) (n cap : Nat) (sq : Option Addr) (nk ck : Nat) (w : World) (hok : m.ok) (hM : MS N w sp n cap m.me) (hS : ES N w sq nk ck es) :
    Calls Try.prog 18 #[.agg (mcA m sp n cap), .slice sq nk ck] w (SpPost es m w) := by
  have A0 := (Arr.new w 45 (mcA m sp n cap)).alloc (.cells (mcA zM none 0 0) 45)
  have A1 := Arr.new (w.alloc (.cells (mcA m sp n cap) 45)) 45 (mcA zM none 0 0)
  simp only [World.size_alloc] at A1
  have hs0 := mcA_size hok.r16 sp n cap
  have hsz := mcA_size zM_ok.r16 none 0 0
  have hb0 := (alloc_bel' w (.cells (mcA m sp n cap) 45)).alloc (by simp) (.cells (mcA zM none 0 0) 45)
  have hrun : Calls Try.prog 24 #[.agg (mcA m sp n cap), .slice sq nk ck, .int .i64 1] ((w.alloc (.cells (mcA m sp n cap) 45)).alloc (.cells (mcA zM none 0 0) 45)) (RnPost es m 1 _) := refRun_any m sp n cap sq nk ck 1 _ hok (hM.here.below hb0) (hS.here.below hb0) (by omega)
  unfold SpPost
  obtain ⟨R0, hR0⟩ : ∃ R, R = rO es m 1 := ⟨_, rfl⟩
  unfold RnPost at hrun
  rw [← hR0] at hrun ⊢
  clear hR0
  generalize mcA m sp n cap = C at *
  go_enter Try.func18, Try.ntmps18
  go_wp2_with (first
    | (refine ld45 (by rfl) (.tmp 2) (by rfl) w.heap.size (by rfl) C hs0 A0 ?_)
    | (go_at_call 24; go_must (refine hrun.mono ?_; rintro e w1 ⟨sp1, n1, cap1, rfl, hok1, hM1, hb1, hg1⟩; have hs1 := mcA_size hok1.r16 sp1 n1 cap1; have ho1 := mcA_one R0.1 sp1 n1 cap1; have A11 := A1.below hb1 (by simp); have B1 := hb0.trans (hb1.mono (by simp; omega)); have E1 := Arr.new w1 45 (mcA R0.1 sp1 n1 cap1)))
    | (refine st45n (by rfl) (.tmp 6) (.tmp 13) (by rfl) w1 w1.heap.size rfl (by rfl) (mcA R0.1 sp1 n1 cap1) (by rfl) (by rfl) hs1 ho1 ?_)
    | (refine ld45 (by rfl) (.tmp 6) (by rfl) w1.heap.size (by rfl) (mcA R0.1 sp1 n1 cap1) hs1 E1 ?_)
    | (refine st45 (by rfl) (.tmp 4) (.tmp 16) (by rfl) (w.heap.size + 1) (mcA R0.1 sp1 n1 cap1) (by rfl) (by rfl) hs1 ho1 _ hsz (A11.alloc _) ?_))
  have hbf : Below w1.heap.size w1 (w1.alloc (.cells (mcA R0.1 sp1 n1 cap1) 45)) := alloc_bel' _ _
  have hBf := below_setRow (B1.alloc B1.size (.cells (mcA R0.1 sp1 n1 cap1) 45)) (show w.heap.size ≤ w.heap.size + 1 by omega) (mcA R0.1 sp1 n1 cap1)
  refine bodyPost_ret (v := .tuple #[.agg (mcA R0.1 sp1 n1 cap1), .int .i64 R0.2.2]) (res45b Try.results18 rfl rfl hs1 ((A11.alloc _).setRow _)) rfl ⟨sp1, n1, cap1, rfl, hok1, ?_, hBf, fun h0 => ?_⟩
  · refine ⟨hM1.len, hM1.nil, hM1.le, hM1.big, hM1.small, fun h0 => ?_⟩
    obtain ⟨gm, rfl, hgm, hMW⟩ := hg1 h0
    simp only [World.size_alloc] at hgm
    have hMf := (hMW.below hbf hMW.lt).block (setRow_other _ (w.heap.size + 1) gm (mcA R0.1 (some ⟨gm, 0, none⟩) n1 cap1) (by omega))
    exact ⟨gm, 0, rfl, hMf.lt, fun t ht => by rw [Nat.zero_add]; exact hMf.cell (by rw [← hM1.len.out]; exact ht)⟩
  · obtain ⟨gm, rfl, hgm, hMW⟩ := hg1 h0
    simp only [World.size_alloc] at hgm
    exact ⟨gm, rfl, by omega, (hMW.below hbf hMW.lt).block (setRow_other _ _ _ _ (by omega))⟩
end Go.Proofs.Ytnjbmffgbgbjmaa
