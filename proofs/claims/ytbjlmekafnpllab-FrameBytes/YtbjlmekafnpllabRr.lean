/- Layer rlp: readWhole, Decode. -/
import Derived.Test.YtbjlmekafnpllabRq
namespace Go.Proofs.Ytbjlmekafnpllab
open Go.RowKit
set_option linter.unusedVariables false
set_option linter.unusedSimpArgs false

theorem rb_code {r : List Int} {s : Nat} {c : Int} (h : rb r s = .error c) : c = 7 ∨ c = 8 := by
  unfold rb at h
  split at h
  · split at h
    · cases h
    · cases h; omega
  · split at h
    · cases h; omega
    · split at h
      · cases h; omega
      · split at h
        · cases h; omega
        · cases h
theorem rd1_pos {kid : Nat → List Int → Except Int Unit} {d : Nat} {L : List Int} {s : Nat} (h : rd1 kid d L = .ok s) : 0 < s := by
  cases L with
  | nil => cases h
  | cons m r =>
    rw [rd1] at h
    split at h
    · cases h; omega
    · split at h
      · cases hq : rb r (m - 128).toNat with
        | error c => rw [hq] at h; cases h
        | ok q =>
          rw [hq] at h
          simp only at h
          split at h
          · cases h
          · cases h; omega
      · split at h
        · cases h
        · cases hq : rb r (m - 192).toNat with
          | error c => rw [hq] at h; cases h
          | ok q =>
            rw [hq] at h
            simp only at h
            split at h
            · cases h
            · cases h; omega
theorem rd1_code {f d : Nat} {L : List Int} {c : Int} (hk : ∀ d' M c, M.length < f → rdl f d' M = .error c → c = 7 ∨ c = 8) (hl : L.length ≤ f) (h : rd1 (rdl f) d L = .error c) : c = 7 ∨ c = 8 := by
  cases L with
  | nil => cases h; omega
  | cons m r =>
    rw [rd1] at h
    split at h
    · cases h
    · split at h
      · cases hq : rb r (m - 128).toNat with
        | error c' => rw [hq] at h; cases h; exact rb_code hq
        | ok q =>
          rw [hq] at h
          simp only at h
          split at h
          · cases h; omega
          · cases h
      · split at h
        · cases h; omega
        · cases hq : rb r (m - 192).toNat with
          | error c' => rw [hq] at h; cases h; exact rb_code hq
          | ok q =>
            rw [hq] at h
            simp only at h
            split at h
            · rename_i e he
              cases h
              refine hk _ _ _ ?_ he
              rw [List.length_take, List.length_drop]
              simp at hl; omega
            · cases h
theorem rdl_code : ∀ (f d : Nat) (L : List Int) (c : Int), L.length < f → rdl f d L = .error c → c = 7 ∨ c = 8
  | 0, d, L, c, hl, h => by omega
  | f + 1, d, L, c, hl, h => by
    rw [rdl] at h
    split at h
    · cases h
    · cases hq : rd1 (rdl f) d L with
      | error c' => rw [hq] at h; cases h; exact rd1_code (fun d' M c hM he => rdl_code f d' M c hM he) (by omega) hq
      | ok s =>
        rw [hq] at h
        have hs := rd1_pos hq
        rename_i hne
        have : 0 < L.length := List.length_pos_iff.2 hne
        exact rdl_code f d _ c (by rw [List.length_drop]; omega) h
/-- Either bytes are a form, or there is an error. -/
theorem whole_cases {L : List Int} (hl : L.length ≤ 65536) : (whole L = 0 ∧ ∃ s, rd1 (rdl (L.length + 1)) 16 L = .ok s ∧ ¬ s < L.length) ∨ (whole L = 8 ∧ ∃ s, rd1 (rdl (L.length + 1)) 16 L = .ok s ∧ s < L.length) ∨ ((whole L = 7 ∨ whole L = 8) ∧ rd1 (rdl (L.length + 1)) 16 L = .error (whole L)) := by
  cases hq : rd1 (rdl (L.length + 1)) 16 L with
  | error c =>
    have hc := rd1_code (fun d' M c hM he => rdl_code _ d' M c hM he) (by omega) hq
    have e : whole L = c := by rw [whole, if_neg (by omega), hq]
    rw [e]; exact .inr (.inr ⟨hc, rfl⟩)
  | ok s =>
    by_cases h : s < L.length
    · exact .inr (.inl ⟨by rw [whole, if_neg (by omega), hq]; simp [h], s, rfl, h⟩)
    · exact .inl ⟨by rw [whole, if_neg (by omega), hq]; simp [h], s, rfl, h⟩
theorem whole_code (L : List Int) : whole L = 0 ∨ whole L = 4 ∨ whole L = 7 ∨ whole L = 8 := by
  by_cases h : 65536 < L.length
  · right; left; rw [whole, if_pos h]
  · rcases whole_cases (L := L) (by omega) with h | h | h <;> omega

/-- What reading all of bytes comes to. -/
def WholePost (L : List Int) (w : World) (e : Ending) (w' : World) : Prop :=
  Below w.heap.size w w' ∧ ((whole L = 0 ∧ ∃ v, e = .returned v ∧ Dec (w.heap.size ≤ ·) w' 16 v L) ∨ (whole L ≠ 0 ∧ e = .panicked (wrong (whole L))))

theorem read16_ok {N : Nat} {sp : Option Addr} {n cap s : Nat} {L : List Int} {w : World} (hS : BS N w sp n cap L) (hN : N ≤ w.heap.size) (hn : n ≤ 65536) (hq : rd1 (rdl (L.length + 1)) 16 L = .ok s) :
    Calls Try.prog 61 #[.slice sp n cap, .int .i64 16] w fun e w' => ∃ sp2 v, s ≤ n ∧ e = .returned (.tuple #[v, .slice sp2 (n - s) (n - s)]) ∧ Dec (w.heap.size ≤ ·) w' 16 v (L.take s) ∧ Below w.heap.size w w' := by
  refine (read_any (L.length + 1) 16 (Nat.le_refl _) N sp n cap L w hS hN (by rw [← hS.len.out]; omega) hn).mono ?_
  rintro e w' ⟨hb, ⟨c, h, -⟩ | ⟨s', sp2, v, h, -, hsn, he, hD, -⟩⟩
  · rw [hq] at h; cases h
  · rw [hq] at h; cases h
    exact ⟨sp2, v, hsn, he, hD, hb⟩
theorem read16_err {N : Nat} {sp : Option Addr} {n cap : Nat} {c : Int} {L : List Int} {w : World} (hS : BS N w sp n cap L) (hN : N ≤ w.heap.size) (hn : n ≤ 65536) (hq : rd1 (rdl (L.length + 1)) 16 L = .error c) :
    Calls Try.prog 61 #[.slice sp n cap, .int .i64 16] w fun e w' => e = .panicked (wrong c) ∧ Below w.heap.size w w' := by
  refine (read_any (L.length + 1) 16 (Nat.le_refl _) N sp n cap L w hS hN (by rw [← hS.len.out]; omega) hn).mono ?_
  rintro e w' ⟨hb, ⟨c', h, he⟩ | ⟨s', sp2, v, h, -, hsn, he, hD, -⟩⟩
  · rw [hq] at h; cases h; exact ⟨he, hb⟩
  · rw [hq] at h; cases h

theorem res_item {fn : Func} {t : Tmp} (h : fn.results = #[.cell t 59]) {w : World} {tmps : Array Value} {g : Nat} {a b c : Value} (hp : tmps.getD t undef = .pointer (some ⟨g, 0, none⟩)) (hA : Arr w g 59 #[a, b, c]) :
    (results fn tmps).run Try.prog w = .ok (.agg #[a, b, c]) w := by
  have c0 := hA.cell 0
  have c1 := hA.cell 1
  have c2 := hA.cell 2
  simp at c0 c1 c2
  have hp' : tmps[t]?.getD undef = .pointer (some ⟨g, 0, none⟩) := by simpa using hp
  simp [results, h, go_sem, hp', c0, c1, c2]

set_option maxRecDepth 100000 in
set_option maxHeartbeats 1000000 in
theorem readWhole_any (N : Nat) (sp : Option Addr) (n cap : Nat) (L : List Int) (w : World) (hS : BS N w sp n cap L) (hN : N ≤ w.heap.size) (hn : n ≤ 65536) :
    Calls Try.prog 49 #[.slice sp n cap] w (WholePost L w) := by
  have hln := hS.len
  have hS1 : ∀ o, BS N (w.alloc o) sp n cap L := fun o => hS.below (((Below.refl _ _).alloc (Nat.le_refl _) _).mono hN)
  rcases whole_cases (L := L) (by rw [← hln.out]; exact hn) with ⟨h0, s, hq, hs⟩ | ⟨h8, s, hq, hs⟩ | ⟨hc, hq⟩
  · have hq := Hid.mk' hq
    have h0 := Hid.mk' h0
    rw [← hln.out] at hs
    go_enter Try.func49, Try.ntmps49
    go_wp2_with (first
      | (go_at_call 61; go_must (refine (read16_ok (hS1 _) (by simp; omega) hn hq.out).mono ?_; rintro e w2 ⟨sp2, v2, hsn, rfl, hD2, hb2⟩; have hD2 := Hid.mk' hD2; obtain ⟨l, s1, n1, c1, s2, n2, c2, e2⟩ := hD2.out.sh; subst e2; have Z2 := (Arr.new w 59 #[.bool false, .slice none 0 0, .slice none 0 0]).below hb2 (by simp); have Y2 := Z2.alloc (.cells #[.bool l, .slice s1 n1 c1, .slice s2 n2 c2] 59); obtain rfl : s = n := (by omega); have hsub : ((s - s : Nat) : Int) = 0 := (by simp)))
      | (refine wpList_store_arr (by rfl) 59 (.tmp 2) (.tmp 15) (by rfl) w.heap.size #[.bool l, .slice s1 n1 c1, .slice s2 n2 c2] (by rfl) (by rfl) 59 _ Y2 size25 rfl (one3 _ _ _ _ _ _ _) ?_))
    refine bodyPost_ret (v := .agg #[.bool l, .slice s1 n1 c1, .slice s2 n2 c2]) (res_item Try.results49 rfl (Y2.setRow _)) rfl ⟨?_, .inl ⟨h0.out, _, rfl, ?_⟩⟩
    · exact below_row ((((Below.refl _ _).alloc (Nat.le_refl _) _).trans (hb2.mono (by simp))).alloc (by have := hb2.size; simp at this; omega) _) (Nat.le_refl _) _
    · have h1 := hD2.out.mono (T := fun b => w.heap.size < b ∧ b < w2.heap.size) (fun b hb h => ⟨by simp at h; omega, hb⟩)
      rw [List.take_of_length_le (by rw [← hln.out]; exact Nat.le_refl _)] at h1
      have h2 := h1.agree (w' := (w2.alloc (.cells #[.bool l, .slice s1 n1 c1, .slice s2 n2 c2] 59)).setRow w.heap.size #[.bool l, .slice s1 n1 c1, .slice s2 n2 c2]) ⟨by simp, fun b hb h => by rw [setRow_other _ _ _ _ (by omega), Below.heap_alloc _ _ _ h.2]⟩
      exact h2.mono fun b _ h => by omega
  · have hq := Hid.mk' hq
    have h8 := Hid.mk' h8
    rw [← hln.out] at hs
    go_enter Try.func49, Try.ntmps49
    go_wp2_with (first
      | (go_at_call 61; go_must (refine (read16_ok (hS1 _) (by simp; omega) hn hq.out).mono ?_; rintro e w2 ⟨sp2, v2, hsn, rfl, hD2, hb2⟩; have hD2 := Hid.mk' hD2; obtain ⟨l, s1, n1, c1, s2, n2, c2, e2⟩ := hD2.out.sh; subst e2; have hsub : (0 : Int) < ((n - s : Nat) : Int) := (by omega))))
    exact ⟨rfl, (((Below.refl _ _).alloc (Nat.le_refl _) _).trans (hb2.mono (by simp))).alloc (by have := hb2.size; simp at this; omega) _, .inr ⟨by rw [h8.out]; decide, by rw [h8.out]; rfl⟩⟩
  · have hq := Hid.mk' hq
    have hc := Hid.mk' hc
    go_enter Try.func49, Try.ntmps49
    go_wp2_with (first
      | (go_at_call 61; go_must (refine (read16_err (hS1 _) (by simp; omega) hn hq.out).mono ?_; rintro e w2 ⟨rfl, hb2⟩; exact ⟨rfl, ((Below.refl _ _).alloc (Nat.le_refl _) _).trans (hb2.mono (by simp)), .inr ⟨by have := hc.out; omega, rfl⟩⟩)))

set_option maxRecDepth 100000 in
set_option maxHeartbeats 1000000 in
theorem decode1_any (N b : Nat) (sp : Option Addr) (n cap : Nat) (L : List Int) (w : World) (hA : Arr w b 23 #[.slice sp n cap]) (hS : BS N w sp n cap L) (hN : N ≤ w.heap.size) (hn : n ≤ 65536) :
    Calls Try.prog 48 #[.pointer (some ⟨b, 0, none⟩)] w (WholePost L w) := by
  have c0 : ∀ o, (w.alloc o).cell? ⟨b, 0, none⟩ = some (.slice sp n cap) := fun o => (hA.alloc o).cell 0
  have hS1 : ∀ o, BS N (w.alloc o) sp n cap L := fun o => hS.below (((Below.refl _ _).alloc (Nat.le_refl _) _).mono hN)
  go_enter Try.func48, Try.ntmps48
  go_wp2_with (first
    | (go_at_call 49; go_must (refine (readWhole_any N sp n cap L _ (hS1 _) (by simp; omega) hn).mono ?_; rintro e w2 ⟨hb2, ⟨h0, v2, rfl, hD2⟩ | ⟨hno, rfl⟩⟩; rotate_left; exact ⟨rfl, ((Below.refl _ _).alloc (Nat.le_refl _) _).trans (hb2.mono (by simp)), .inr ⟨hno, rfl⟩⟩; have h0 := Hid.mk' h0; have hD2 := Hid.mk' hD2; obtain ⟨l, s1, n1, c1, s2, n2, c2, e2⟩ := hD2.out.sh; subst e2; have Z2 := (Arr.new w 59 #[.bool false, .slice none 0 0, .slice none 0 0]).below hb2 (by simp)))
    | (refine wpList_store_arr (by rfl) 59 (.tmp 1) (.tmp 3) (by rfl) w.heap.size #[.bool l, .slice s1 n1 c1, .slice s2 n2 c2] (by rfl) (by rfl) 59 _ Z2 size25 rfl (one3 _ _ _ _ _ _ _) ?_))
  refine bodyPost_ret (v := .agg #[.bool l, .slice s1 n1 c1, .slice s2 n2 c2]) (res_item Try.results48 rfl (Z2.setRow _)) rfl ⟨?_, .inl ⟨h0.out, _, rfl, ?_⟩⟩
  · exact below_row (((Below.refl _ _).alloc (Nat.le_refl _) _).trans (hb2.mono (by simp))) (Nat.le_refl _) _
  · have h1 := hD2.out.mono (T := fun b => w.heap.size < b) (fun b hb h => by simp at h; omega)
    have h2 := h1.agree (w' := w2.setRow w.heap.size #[.bool l, .slice s1 n1 c1, .slice s2 n2 c2]) ⟨by simp, fun b hb h => by rw [setRow_other _ _ _ _ (by omega)]⟩
    exact h2.mono fun b _ h => by omega

/-- What Decode answers. -/
def DecPost (L : List Int) (w : World) (e : Ending) (w' : World) : Prop :=
  Below w.heap.size w w' ∧ ((whole L = 0 ∧ ∃ v, e = .returned (.tuple #[v, .int .i64 0]) ∧ Dec (w.heap.size ≤ ·) w' 16 v L) ∨ (whole L ≠ 0 ∧ e = .returned (.tuple #[.agg #[.bool false, .slice none 0 0, .slice none 0 0], .int .i64 (whole L)])))
theorem res32 {w : World} {tmps : Array Value} {g g' : Nat} {a b c v : Value} (hp : tmps.getD 2 undef = .pointer (some ⟨g, 0, none⟩)) (he : tmps.getD 3 undef = .pointer (some ⟨g', 0, none⟩)) (hA : Arr w g 59 #[a, b, c]) (hB : Arr w g' 26 #[v]) :
    (results Try.f47 tmps).run Try.prog w = .ok (.tuple #[.agg #[a, b, c], v]) w := by
  have c0 := hA.cell 0
  have c1 := hA.cell 1
  have c2 := hA.cell 2
  have d0 := hB.cell 0
  simp at c0 c1 c2 d0
  have hp' : tmps[2]?.getD undef = .pointer (some ⟨g, 0, none⟩) := by simpa using hp
  have he' : tmps[3]?.getD undef = .pointer (some ⟨g', 0, none⟩) := by simpa using he
  simp [results, Try.results47, go_sem, hp', he', c0, c1, c2, d0]

set_option maxRecDepth 100000 in
set_option maxHeartbeats 1000000 in
theorem guarded32 (N b : Nat) (sp : Option Addr) (n cap : Nat) (L : List Int) (w : World) (hA : Arr w b 23 #[.slice sp n cap]) (hS : BS N w sp n cap L) (hN : N ≤ w.heap.size) (hn : n ≤ 65536) :
    Calls Try.prog 47 #[.func (Fn.func 48) #[] #[.pointer (some ⟨b, 0, none⟩)]] w (DecPost L w) := by
  have hmf : ∀ (fn : Fn) (first cap : Array Value) (w : World), (Instr.makeFunc fn first cap).run Try.prog w = .ok (.func fn first cap) w := fun _ _ _ _ => rfl
  have hS1 : ∀ o o', BS N ((w.alloc o).alloc o') sp n cap L := fun o o' => hS.below ((((Below.refl _ _).alloc (Nat.le_refl _) _).alloc (by simp) _).mono hN)
  have hA0 := (Arr.new w 59 #[.bool false, .slice none 0 0, .slice none 0 0]).alloc (.cells #[.int .i64 0] 26)
  have hA1 := Arr.new (w.alloc (.cells #[.bool false, .slice none 0 0, .slice none 0 0] 59)) 26 #[.int .i64 0]
  simp at hA1
  go_enter_defers Try.func47, Try.ntmps47
  go_wp2_with (first
    | (go_at_call 48; go_must (refine (decode1_any N b sp n cap L _ ((hA.alloc _).alloc _) (hS1 _ _) (by simp; omega) hn).mono ?_; rintro e w2 ⟨hb2, hres⟩; have Z2 := hA0.below hb2 (by simp; omega); have E2 := hA1.below hb2 (by simp); have c2 := E2.cell 0; have f2 := E2.frozen 0; have hbw : Below w.heap.size w w2 := (((Below.refl _ _).alloc (Nat.le_refl _) _).alloc (by simp) _).trans (hb2.mono (by simp; omega)); have hs2 := hb2.size; simp at hs2; rcases hres with ⟨h0, v2, rfl, hD2⟩ | ⟨hno, rfl⟩; have h0 := Hid.mk' h0; have hD2 := Hid.mk' hD2; obtain ⟨l, s1, n1, c1, s2, n2, c2, e2⟩ := hD2.out.sh; subst e2; have E3 := E2.setRowOther #[.bool l, .slice s1 n1 c1, .slice s2 n2 c2] (show w.heap.size + 1 ≠ w.heap.size by omega); have c3 := E3.cell 0; have f3 := E3.frozen 0))
    | (refine wpList_store_arr (by rfl) 59 (.tmp 2) (.tmp 6) (by rfl) w.heap.size #[.bool l, .slice s1 n1 c1, .slice s2 n2 c2] (by rfl) (by rfl) 59 _ Z2 size25 rfl (one3 _ _ _ _ _ _ _) ?_))
  · refine leaves_cons (f := 60) (args := #[.pointer (some ⟨w.heap.size + 1, 0, none⟩)]) (by simp) (by simp [go_sem]) ?_
    refine (catch_idle45 ⟨w.heap.size + 1, 0, none⟩ _).mono ?_
    rintro e u' w'' ⟨rfl, rfl, rfl⟩
    refine ⟨.tuple #[.agg #[.bool l, .slice s1 n1 c1, .slice s2 n2 c2], .int .i64 0], res32 rfl rfl ((Z2.setRow _).setOther _ (by simp)) (E3.set 0 _), (below_row hbw (Nat.le_refl _) _).setCell (by simp) _, .inl ⟨h0.out, _, rfl, ?_⟩⟩
    have h1 := hD2.out.mono (T := fun b => w.heap.size + 1 < b) (fun b hb h => by simp at h; omega)
    have h2 := h1.agree (w' := (w2.setRow w.heap.size #[.bool l, .slice s1 n1 c1, .slice s2 n2 c2]).setCell ⟨w.heap.size + 1, 0, none⟩ (.int .i64 0)) ⟨by simp [World.setCell], fun b hb h => by rw [Below.heap_setCell _ _ _ _ (by simp; omega), setRow_other _ _ _ _ (by omega)]⟩
    exact h2.mono fun b _ h => by omega
  · refine leaves_cons (f := 60) (args := #[.pointer (some ⟨w.heap.size + 1, 0, none⟩)]) (by simp) (by simp [go_sem]) ?_
    refine (catch_wrong45 (w.heap.size + 1) (whole L) 0 w2 E2).mono ?_
    rintro e u' w'' ⟨rfl, rfl, rfl⟩
    exact ⟨.tuple #[.agg #[.bool false, .slice none 0 0, .slice none 0 0], .int .i64 (whole L)], res32 rfl rfl ((Z2.setOther _ (by simp)).alloc _) ((E2.set 0 _).alloc _), (hbw.setCell (by simp) _).alloc (by simp [World.setCell]; omega) _, .inr ⟨hno, rfl⟩⟩
end Go.Proofs.Ytbjlmekafnpllab
