/- Layer frame: the walk of FrameBack. -/
import Derived.Test.YtbjlmekafnpllabGb
import Derived.Test.YtbjlmekafnpllabFi
namespace Go.Proofs.Ytbjlmekafnpllab
open Go.RowKit
set_option linter.unusedVariables false
set_option linter.unusedSimpArgs false

theorem split_ok (c x : Int) (z : Nat) (hx : x = z) (sp : Option Addr) (n cap : Nat) (L : List Int) (N : Nat) (w : World) (hS : BS N w sp n cap L) (hc0 : 0 ≤ c) (hc1 : c ≤ 18446744073709551615) (h1 : 1 ≤ z) (h2 : z ≤ 4096) (h3 : n ≤ z * 1024) (hn : n ≤ 1023) :
    Calls Try.prog 17 #[.int .u64 c, .slice sp n cap, .int .i64 x] w fun e w' => ∃ g k cq fs, e = .returned (.tuple #[.slice (some ⟨g, 0, none⟩) k cq, .int .i64 0]) ∧ Hid (k = fs.length) ∧ 0 < k ∧ k ≤ n + 1 ∧ w'.ownsRow w.heap.size 25 4 (.slice (some ⟨g, 0, none⟩) k cq) k (flat4 fs) ∧ Hid (∀ f ∈ fs, OF (fun b => w.heap.size ≤ b ∧ b ≠ g) w' f) ∧ Hid (Chan c L fs) ∧ Below w.heap.size w w' := by
  subst hx
  have hl := hS.len.out
  refine (split_any c z sp n cap L N w hS hc0 hc1 (by omega) (by omega)).mono ?_
  rintro e w' ⟨hbw, ⟨hbad, -⟩ | ⟨-, sq, k, cq, fs, he, hk, hown, hof, hck, hlen⟩⟩
  · omega
  · rw [Int.toNat_natCast] at hck
    have hch := chan_of h1 h2 hck (by omega) (fun f hf => (hof f hf).body.1.len.out)
    have h0 : 0 < k := by rw [hk]; exact List.length_pos_iff.2 hch.ne
    obtain ⟨g, cap', e2⟩ := own_someF hown h0
    cases e2
    exact ⟨g, k, cq, fs, he, hk, h0, by omega, hown, Hid.mk' (fun f hf => (hof f hf).mono fun b _ h => ⟨h.1, fun e => h.2 (by rw [e]; rfl)⟩), hch, hbw⟩

set_option maxRecDepth 100000 in
set_option maxHeartbeats 400000 in
theorem back_big (sp : Option Addr) (n cap : Nat) (L : List Int) (b0 b1 b2 : Int) (tp : Option Addr) (tn tcap : Nat) (w : World) (hb0 : 0 ≤ b0 ∧ b0 ≤ 255) (h : 500 < n) :
    Calls Try.prog 5 #[.slice sp n cap, .agg #[.int .u8 b0, .int .u8 b1, .int .u8 b2], .slice tp tn tcap] w fun e w' => e = .returned (.bool true) ∧ Below w.heap.size w w' := by
  have hI : (500 : Int) < n := by omega
  go_enter Try.func5, Try.ntmps5
  go_wp2_with (go_at_call 14; go_must (refine (anchored_any _).mono ?_; rintro e w2 ⟨rfl, hb2⟩))
  go_ret
  exact ⟨rfl, (alloc_bel' w _).trans (hb2.mono (by simp))⟩

/-- Those but one of the channel 3. -/
def fl (o : Nat) (f : Fr) : Bool := f.ch != 3 || f.seq != (o : Int)
/-- The frame of another channel. -/
def g4 (b : Nat) : Fr := ⟨4, 0, true, some ⟨b, 0, none⟩, 1, 1, [9]⟩
theorem g4_ok {b N : Nat} {W : World} (hA : Arr W b 5 #[.int .u8 9]) (hb : b < N) : FrOK N W (g4 b) :=
  ⟨show (0 : Int) ≤ 4 by decide, show (4 : Int) ≤ 18446744073709551615 by decide, show (-9223372036854775808 : Int) ≤ 0 by decide, show (0 : Int) ≤ 9223372036854775807 by decide,
    ⟨rfl, (fun e => by cases e), Nat.le_refl 1, show 1 ≤ 9223372036854775807 by decide, show 1 ≤ 140737488355328 by decide, fun _ => ⟨b, 0, rfl, hb, fun t ht => by
      obtain rfl : t = 0 := by have : t < 1 := ht; omega
      exact hA.cell 0⟩, by intro x hx; simp [g4] at hx; omega⟩⟩

set_option maxRecDepth 100000 in
set_option maxHeartbeats 4000000 in
theorem back_small (sp : Option Addr) (n cap : Nat) (L : List Int) (b0 b1 b2 : Int) (tp : Option Addr) (tn tcap : Nat) (T : List Int) (N M : Nat) (w : World) (hS : BS N w sp n cap L) (hT : BS M w tp tn tcap T) (hb0 : 0 ≤ b0 ∧ b0 ≤ 255) (hb1 : 0 ≤ b1 ∧ b1 ≤ 255) (h : n ≤ 500) :
    Calls Try.prog 5 #[.slice sp n cap, .agg #[.int .u8 b0, .int .u8 b1, .int .u8 b2], .slice tp tn tcap] w fun e w' => e = .returned (.bool true) ∧ Below w.heap.size w w' := by
  have hS := hS.here
  have hT := hT.here
  have hI : ¬ (500 : Int) < n := by omega
  obtain ⟨z, hz⟩ : ∃ z : Nat, b0 % 40 = z := ⟨(b0 % 40).toNat, by omega⟩
  have X0 := Arr.new w 50 #[.int .u8 b0, .int .u8 b1, .int .u8 b2]
  have hS1 := hS.below (alloc_bel' w (.cells #[.int .u8 b0, .int .u8 b1, .int .u8 b2] 50))
  go_enter Try.func5, Try.ntmps5
  go_wp2_with (first
    | (go_at_call 17; go_must (refine (split_ok 3 _ (z + 1) (by omega) sp n cap L _ _ hS1 (by omega) (by omega) (by omega) (by omega) (by omega) (by omega)).mono ?_; rintro e w2 ⟨g, k, cq, fs, rfl, hk, hk0, hkn, hown2, hof2, hch, hb2⟩; have hs2 := hb2.size; simp at hs2; have hgl := (hown2.lt g rfl).2; have B9 := Arr.new w2 5 #[.int .u8 9]; have hN4 := Arr.new (w2.alloc (.cells #[.int .u8 9] 5)) 25 #[.int .u64 4, .int .i64 0, .bool true, .slice (some ⟨w2.heap.size, 0, none⟩) 1 1]; simp at hN4))
    | (at_builtin; go_must (first
      | (refine append_frames (by rfl) (.tmp 51) (.tmp 52) (by rfl) (w2.heap.size + 1) _ (0 + 1 + k) ([g4 w2.heap.size] ++ fs) (by rfl) hown6 g k cq fs (by rfl) hk.out hk0 hc6 (by omega) (by omega) ?_; intro v7 w7 hown7 hg7 hob7)
      | (refine append_frames (by rfl) (.tmp 48) (.tmp 49) (by rfl) (w2.heap.size + 1) _ (0 + 1) [g4 w2.heap.size] (by rfl) hown5 g k cq fs (by rfl) hk.out hk0 hc5 (by omega) (by omega) ?_; intro v6 w6 hown6 hg6 hob6; obtain ⟨a6, cap6, rfl⟩ := own_someF hown6 (by omega); have hs6 := hg6.size; have hb6 : Below (w2.heap.size + 1) (w2.alloc (.cells #[.int .u8 9] 5)) w6 := hb5.grown hg6 (by omega) (fun j e => by have := own_ge hown5 j e; omega); have hc6 : ∀ j u, (flat4 fs)[j]? = some u → w6.cell? ⟨g, j, none⟩ = some u := (fun j u hu => (hb6.cell (p := ⟨g, j, none⟩) (by show g < _; omega)).trans (hcb j u hu)))
      | (refine append_frame (by rfl) (.tmp 43) (.tmp 46) (by rfl) (w2.heap.size + 1) _ 0 [] (by rfl) (World.ownsRow_nil _ _ _ _) (w2.heap.size + 1) 1 (g4 w2.heap.size) (by rfl) hN4 (by omega) (by simp) ?_; intro v5 w5 hown5 hg5 hob5; obtain ⟨a5, cap5, rfl⟩ := own_someF hown5 (by omega); have hs5 := hg5.size; simp at hs5; have hb5 : Below (w2.heap.size + 1) (w2.alloc (.cells #[.int .u8 9] 5)) w5 := ((Below.refl _ _).alloc (by simp) _).grown hg5 (by simp <;> omega) (fun j e => by cases e); have hcb : ∀ j u, (flat4 fs)[j]? = some u → (w2.alloc (.cells #[.int .u8 9] 5)).cell? ⟨g, j, none⟩ = some u := (fun j u hu => by have h1 := hown2.cells (g := g) rfl j u hu; rw [Addr.add_mid, Nat.zero_add] at h1; rw [World.cell?_alloc_lt _ _ _ hgl]; exact h1); have hc5 : ∀ j u, (flat4 fs)[j]? = some u → w5.cell? ⟨g, j, none⟩ = some u := (fun j u hu => (hb5.cell (p := ⟨g, j, none⟩) (by show g < _; omega)).trans (hcb j u hu)); simp only [List.nil_append] at hown5))))
  obtain ⟨a7, cap7, rfl⟩ := own_someF hown7 (by omega)
  have hs7 := hg7.size
  have hb7 : Below (w2.heap.size + 1) (w2.alloc (.cells #[.int .u8 9] 5)) w7 := hb6.grown hg7 (by omega) (fun j e => by have := own_ge hown6 j e; omega)
  have hok0 : Hid (∀ f, f ∈ [g4 w2.heap.size] ++ fs ++ fs → FrOK (w2.heap.size + 1) (w2.alloc (.cells #[.int .u8 9] 5)) f) := fun f hf => by
    have hff : f = g4 w2.heap.size ∨ f ∈ fs := by simpa [or_assoc] using hf
    rcases hff with rfl | hf
    · exact g4_ok B9 (by omega)
    · have h1 := (hof2.out f hf).ok
      exact ⟨h1.ch0, h1.ch1, h1.sq0, h1.sq1, (h1.body.below (alloc_bel' w2 _)).mono (by omega)⟩
  have hbw2 : Below w.heap.size w w2 := (alloc_bel' w _).trans (hb2.mono (by simp))
  have hsub : Hid (∀ f, f ∈ [g4 w2.heap.size] ++ fs ++ fs → f.ch ≠ 3 ∨ f ∈ fs) := fun f hf => by
    have hff : f = g4 w2.heap.size ∨ f ∈ fs := by simpa [or_assoc] using hf
    rcases hff with rfl | hf
    · exact .inl (show (4 : Int) ≠ 3 by decide)
    · exact .inr hf
  have hsup : Hid (∀ f, f ∈ fs → f ∈ [g4 w2.heap.size] ++ fs ++ fs) := fun f hf => by simp [hf]
  have hlen0 : ([g4 w2.heap.size] ++ fs ++ fs).length = 0 + 1 + k + k := by simp [← hk.out]; omega
  have hX2 := X0.below hb2 (by simp)
  clear hown2 hof2 hcb hc5 hc6 hob5 hob6 hob7 hg5 hg6 hg7 hown5 hown6 hN4 B9 hb5 hb6 X0 hS1 hb2
  generalize hA0 : [g4 w2.heap.size] ++ fs ++ fs = A0 at *
  clear hA0
  have hWb : Below w2.heap.size w2 (w2.alloc (.cells #[.int .u8 9] 5)) := alloc_bel' w2 _
  have hsWb : (w2.alloc (.cells #[.int .u8 9] 5)).heap.size = w2.heap.size + 1 := by simp
  generalize w2.alloc (.cells #[.int .u8 9] 5) = Wb at *
  generalize hm : 0 + 1 + k + k = m at *
  have hm3 : 3 ≤ m := by omega
  have hmk : m ≤ 1003 := by omega
  go_loopw [11] (fun i wr => ∃ (j : Nat) (A : List Fr), i = .int .i64 (j : Int) ∧ j ≤ tn + 1 ∧ A.length = m ∧ wr.ownsRow (w2.heap.size + 1) 25 4 (.slice (some ⟨a7, 0, none⟩) m cap7) m (flat4 A) ∧ Hid (∀ f, f ∈ A ↔ f ∈ A0) ∧ Below (w2.heap.size + 1) Wb wr)
    (fun i _ => tn + 1 - (intOf i).toNat)
  case atStart => exact ⟨0, A0, rfl, by omega, hlen0, hown7, Hid.mk' (fun f => Iff.rfl), hb7⟩
  case round =>
    clear hown7 hb7 hs7
    obtain ⟨j, A, rfl, hj, hAl, hown, hmem, hbl⟩ := hrel
    have htn := hT.small
    have hbw : Below w.heap.size w wr := (hbw2.trans (hWb.mono (by omega))).trans (hbl.mono (by omega))
    by_cases hlt : j + 1 < tn
    · have hI1 : (j : Int) + 1 < tn := by omega
      have hTr := hT.below hbw
      obtain ⟨tb, tof, rfl, -, hTy⟩ := hTr.at0 (by omega)
      have c0 := hTy j (by omega)
      have c1 := hTy (j + 1) (by omega)
      have r0 := bat_range hT.bts j
      have r1 := bat_range hT.bts (j + 1)
      have e1 : IntKind.i64.wrap ((j : Int) + 1) = (j : Int) + 1 := by rw [IntKind.wrap_i64]; omega
      have e2 : (0 : Int) ≤ (j : Int) + 1 := by omega
      have e3 : ((j : Int) + 1).toNat = j + 1 := by omega
      have e4 : (j : Int) < tn := by omega
      generalize bat T j = ta at c0 r0
      generalize bat T (j + 1) = tc at c1 r1
      obtain ⟨x, hx⟩ : ∃ x : Nat, ta % (m : Int) = x := ⟨(ta % (m : Int)).toNat, by have := Int.emod_nonneg ta (b := (m : Int)) (by omega); omega⟩
      obtain ⟨y, hy⟩ : ∃ y : Nat, tc % (m : Int) = y := ⟨(tc % (m : Int)).toNat, by have := Int.emod_nonneg tc (b := (m : Int)) (by omega); omega⟩
      have hxm : x < m := by have := Int.emod_lt_of_pos ta (b := (m : Int)) (by omega); omega
      have hym : y < m := by have := Int.emod_lt_of_pos tc (b := (m : Int)) (by omega); omega
      have hx2 : ta.tmod (m : Int) = x := by rw [Int.tmod_eq_emod_of_nonneg r0.1]; exact hx
      have hy2 : tc.tmod (m : Int) = y := by rw [Int.tmod_eq_emod_of_nonneg r1.1]; exact hy
      have hmz : ¬ ((m : Int) = 0) := by omega
      have hmz2 : ((m : Int) == 0) = false := by simpa using hmz
      go_wp2
      go_quiet (fail)
      obtain ⟨fx, hfx⟩ : ∃ f, A[x]? = some f := ⟨A[x]'(by omega), List.getElem?_eq_getElem _⟩
      obtain ⟨fy, hfy⟩ : ∃ f, A[y]? = some f := ⟨A[y]'(by omega), List.getElem?_eq_getElem _⟩
      obtain ⟨x0, x1, x2, x3⟩ := own_cellF hown hfx
      obtain ⟨y0, y1, y2, y3⟩ := own_cellF hown hfy
      have hxI : (x : Int) < m := by omega
      have hyI : (y : Int) < m := by omega
      have how : ∀ u : World, u.heap = wr.heap → u.ownsRow (w2.heap.size + 1) 25 4 (.slice (some ⟨a7, 0, none⟩) m cap7) m (flat4 A) := fun u hu => by
        unfold World.ownsRow at hown ⊢; rw [hu]; exact hown
      have ho1 : ∀ u : World, u.heap = wr.heap → (putF u a7 x fy).ownsRow (w2.heap.size + 1) 25 4 (.slice (some ⟨a7, 0, none⟩) m cap7) m (flat4 (A.set x fy)) := fun u hu => own_setF (how u hu) hAl.symm hxm fy
      replace hx := Hid.mk' hx
      replace hy := Hid.mk' hy
      clear hx2 hy2 c0 c1 e1 e2 e3 hTy
      have hfr : ∀ j, wr.frozen? ⟨a7, j, none⟩ = false := fun j => own_frozen hown
      have ha7 := own_ge hown a7 rfl
      clear ho1
      by_cases hxy : x = y
      · subst hxy
        go_wp2
        go_region
        go_wp2
        go_roundw
        case rel =>
          refine ⟨j + 2, (A.set x fx).set x fx, by go_num, by omega, by simpa using hAl, own_setF (own_setF (how (wr.drewN (nq + 1)) rfl) hAl.symm hxm fx) (by rw [List.length_set]; exact hAl.symm) hxm fx, Hid.mk' (fun f => (mem_swap hfx hfx f).trans (hmem.out f)), putF_below (putF_below (show Below (w2.heap.size + 1) Wb (wr.drewN (nq + 1)) from ⟨hbl.os, hbl.tape, hbl.output, hbl.size, hbl.block⟩) ha7 fx) ha7 fx⟩
        case measure => simp [intOf]; omega
      · have d0 : ¬ (y = x) := fun e => hxy e.symm
        have d1 : ¬ (x * 4 + 1 = y * 4) := by omega
        have d2 : ¬ (x * 4 + 2 = y * 4) := by omega
        have d3 : ¬ (x * 4 + 3 = y * 4) := by omega
        have d4 : ¬ (x * 4 = y * 4 + 1) := by omega
        have d5 : ¬ (x * 4 = y * 4 + 2) := by omega
        have d6 : ¬ (x * 4 = y * 4 + 3) := by omega
        have d7 : ¬ (y * 4 + 1 = x * 4) := by omega
        have d8 : ¬ (y * 4 + 2 = x * 4) := by omega
        have d9 : ¬ (y * 4 + 3 = x * 4) := by omega
        have da : ¬ (y * 4 = x * 4 + 1) := by omega
        have db : ¬ (y * 4 = x * 4 + 2) := by omega
        have dc : ¬ (y * 4 = x * 4 + 3) := by omega
        go_wp2
        go_region
        go_wp2
        go_roundw
        case rel =>
          refine ⟨j + 2, (A.set x fy).set y fx, by go_num, by omega, by simpa using hAl, own_setF (own_setF (how (wr.drewN (nq + 1)) rfl) hAl.symm hxm fy) (by rw [List.length_set]; exact hAl.symm) hym fx, Hid.mk' (fun f => (mem_swap hfx hfy f).trans (hmem.out f)), putF_below (putF_below (show Below (w2.heap.size + 1) Wb (wr.drewN (nq + 1)) from ⟨hbl.os, hbl.tape, hbl.output, hbl.size, hbl.block⟩) ha7 fy) ha7 fx⟩
        case measure => simp [intOf]; omega
    · have hI1 : ¬ ((j : Int) + 1 < tn) := by omega
      have hokA : Hid (∀ f ∈ A, FrOK (w2.heap.size + 1) wr f) := fun f hf => (hok0.out f ((hmem.out f).1 hf)).below hbl
      obtain ⟨sp', cap', e, hFS, -⟩ := own_fs hown hAl.symm (by omega) (fun f hf => (hokA.out f hf).here)
      cases e
      have hjn := Hid.mk' (jn_chan hch.out (by have := hk.out; omega) (fun f hf => hsub.out f ((hmem.out f).1 hf)) (fun f hf => (hmem.out f).2 (hsup.out f hf)))
      have hsr := hbl.size
      have hS8 := hS.below hbw
      have e1 : IntKind.i64.wrap ((j : Int) + 1) = (j : Int) + 1 := by rw [IntKind.wrap_i64]; omega
      obtain ⟨o, ho⟩ : ∃ o : Nat, b1 % (k : Int) = o := ⟨(b1 % (k : Int)).toNat, by have := Int.emod_nonneg b1 (b := (k : Int)) (by omega); omega⟩
      have hok' : o < k := by have := Int.emod_lt_of_pos b1 (b := (k : Int)) (by omega); omega
      have ho2 : b1.tmod (k : Int) = o := by rw [Int.tmod_eq_emod_of_nonneg hb1.1]; exact ho
      have hkz : ¬ ((k : Int) = 0) := by omega
      have hkz2 : ((k : Int) == 0) = false := by simpa using hkz
      have hXr := (hX2.below hWb (by omega)).below hbl (by omega)
      have hln := hS.len
      clear hz hb0 htn hj hlt
      go_wp2_with (first
        | (go_at_call 15; go_must (refine (join_any 3 wr.heap.size _ m cap7 A wr hFS (Nat.le_refl _)).mono ?_; rw [hjn.out]; rintro e w8 ⟨hb8, ⟨hno, -⟩ | ⟨D, v8, hD, hDl, hDb, rfl, hown8⟩⟩; (cases hno); cases hD; obtain ⟨s8, c8, rfl, hB8, -⟩ := own_bs hown8 hDb (by omega); have hS9 := hS8.below (hb8.mono (by omega)); have hX8 := (hXr.below hb8 (by omega)).cell 1; simp at hX8; have hs8 := hb8.size; have hown9 := own_below hown hb8; have hb9 : Below (w2.heap.size + 1) Wb w8 := hbl.trans (hb8.mono (by omega)); clear hown8))
        | (go_at_call 12; go_must (refine (same01_any s8 sp _ n c8 cap L L _ _ _ hB8 hS9).mono ?_; rintro e w8 ⟨rfl, rfl⟩)))
      have hcntA : A.length = m := hAl
      clear hXr hX2 hX8 hB8 hS9 hS8 hFS hjn hb8 hkz hkz2 ho2 e1 hI1
      have hok8 : Hid (∀ f ∈ A, FrOK (w2.heap.size + 1) w8 f) := fun f hf => (hok0.out f ((hmem.out f).1 hf)).below hb9
      have hbw8 : Below w.heap.size w w8 := (hbw2.trans (hWb.mono (by omega))).trans (hb9.mono (by omega))
      go_loopw [17, 18] (fun v i wr => ∃ (q : Nat), i = .int .i64 (q : Int) ∧ q ≤ m ∧ wr.ownsRow w8.heap.size 25 4 v ((A.take q).filter (fl o)).length (flat4 ((A.take q).filter (fl o))) ∧ Below w8.heap.size w8 wr)
        (fun _ i _ => m - (intOf i).toNat)
      case atStart => exact ⟨0, rfl, by omega, World.ownsRow_nil _ _ _ _, Below.refl _ _⟩
      case round =>
        obtain ⟨q, rfl, hq, hownv, hbv⟩ := hrel
        have hsv := hbv.size
        have hcl := (List.length_filter_le (fl o) (A.take q))
        have hcl2 : ((A.take q).filter (fl o)).length ≤ 1003 := by rw [List.length_take] at hcl; omega
        by_cases hlt : q < m
        · have hI : (q : Int) < m := by omega
          obtain ⟨f, hf⟩ : ∃ f, A[q]? = some f := ⟨A[q]'(by omega), List.getElem?_eq_getElem _⟩
          have htk : A.take (q + 1) = A.take q ++ [f] := by rw [List.take_add_one, hf]; rfl
          obtain ⟨f0, f1, f2, f3⟩ := own_cellF (own_below hown9 hbv) hf
          have hNew := Arr.new wr 25 #[.int .u64 f.ch, .int .i64 f.seq, .bool f.last, .slice f.sp f.n f.cap]
          have hyes : fl o f = true → (A.take (q + 1)).filter (fl o) = (A.take q).filter (fl o) ++ [f] := fun h => by rw [htk, List.filter_append]; simp [h]
          have hnot : fl o f = false → (A.take (q + 1)).filter (fl o) = (A.take q).filter (fl o) := fun h => by rw [htk, List.filter_append]; simp [h]
          replace hyes := Hid.mk' hyes
          replace hnot := Hid.mk' hnot
          replace htk := Hid.mk' htk
          clear hcl
          generalize (A.take q).filter (fl o) = B at hownv hcl2 hyes hnot
          by_cases hc3 : f.ch = 3
          · have hc3b : (f.ch != 3) = false := by simp [hc3]
            by_cases hso : f.seq = o
            · have hsob : (f.seq != (o : Int)) = false := by simp [hso]
              have hB := Hid.mk' (hnot.out (by simp [fl, hc3, hso]))
              replace hc3 := Hid.mk' hc3
              replace hso := Hid.mk' hso
              go_wp2
              go_roundw
              case rel => exact ⟨q + 1, by go_num, by omega, by rw [hB.out]; exact hownv, hbv⟩
              case measure => simp [intOf]; omega
            · have hsob : (f.seq != (o : Int)) = true := by simpa using hso
              have hB := Hid.mk' (hyes.out (by simp [fl, hso]))
              replace hc3 := Hid.mk' hc3
              go_wp2_with (at_builtin; go_must (refine append_frame (by rfl) (.tmp 132) (.tmp 137) (by rfl) w8.heap.size u17 B.length B (by rfl) (hownv.alloc _) wr.heap.size 1 f (by rfl) hNew (by omega) (by simp <;> omega) ?_; intro v4 w4 hown4 hg4 hob4))
              go_roundw
              case rel => exact ⟨q + 1, by go_num, by omega, by rw [hB.out, List.length_append]; exact hown4, (hbv.alloc hsv _).grown hg4 (by simp <;> omega) (fun j e => own_ge hownv j e)⟩
              case measure => simp [intOf]; omega
          · have hc3b : (f.ch != 3) = true := by simpa using hc3
            have hB := Hid.mk' (hyes.out (by simp [fl, hc3]))
            go_wp2_with (at_builtin; go_must (refine append_frame (by rfl) (.tmp 132) (.tmp 137) (by rfl) w8.heap.size u17 B.length B (by rfl) (hownv.alloc _) wr.heap.size 1 f (by rfl) hNew (by omega) (by simp <;> omega) ?_; intro v4 w4 hown4 hg4 hob4))
            go_roundw
            case rel => exact ⟨q + 1, by go_num, by omega, by rw [hB.out, List.length_append]; exact hown4, (hbv.alloc hsv _).grown hg4 (by simp <;> omega) (fun j e => own_ge hownv j e)⟩
            case measure => simp [intOf]; omega
        · obtain rfl : q = m := by omega
          have hI : ¬ ((q : Int) < q) := by omega
          rw [List.take_of_length_le (by omega)] at hownv hcl2
          have hokB : Hid (∀ f ∈ A.filter (fl o), FrOK wr.heap.size wr f) := fun f hf => ((hok8.out f (List.mem_filter.1 hf).1).below (hbv.mono (by omega))).here
          obtain ⟨sp2, cap2, rfl, hFS2, -⟩ := own_fs hownv rfl (by omega) hokB.out
          have hjn2 := Hid.mk' (jn_lack (A := A.filter (fl o)) (out := o) hch.out (by rw [← hk.out]; exact hok') (fun f hf => hsub.out f ((hmem.out f).1 (List.mem_filter.1 hf).1)) (fun f hf hne => List.mem_filter.2 ⟨(hmem.out f).2 (hsup.out f hf), by simp [fl, hne]⟩) (fun f hf => by
            have := (List.mem_filter.1 hf).2
            simp [fl] at this
            rcases this with h | h
            · exact .inl h
            · exact .inr h))
          go_wp2_with (first
            | (go_at_call 15; go_must (refine (join_any 3 wr.heap.size sp2 _ cap2 (A.filter (fl o)) wr hFS2 (Nat.le_refl _)).mono ?_; rw [hjn2.out]; rintro e w9 ⟨hb9', ⟨-, rfl⟩ | ⟨D, v9, hD, -⟩⟩; rotate_left; (cases hD); have hs9 := hb9'.size))
            | (go_at_call 14; go_must (refine (anchored_any _).mono ?_; rintro e w10 ⟨rfl, hb10⟩)))
          go_ret
          exact ⟨rfl, ((hbw8.trans (hbv.mono (by have := hbw8.size; omega))).trans (hb9'.mono (by have := hbw8.size; omega))).trans (hb10.mono (by have := hbw8.size; omega))⟩
theorem back_walk (sp : Option Addr) (n cap : Nat) (L : List Int) (b0 b1 b2 : Int) (tp : Option Addr) (tn tcap : Nat) (T : List Int) (N M : Nat) (w : World) (hS : BS N w sp n cap L) (hT : BS M w tp tn tcap T) (hb0 : 0 ≤ b0 ∧ b0 ≤ 255) (hb1 : 0 ≤ b1 ∧ b1 ≤ 255) :
    Calls Try.prog 5 #[.slice sp n cap, .agg #[.int .u8 b0, .int .u8 b1, .int .u8 b2], .slice tp tn tcap] w fun e w' => e = .returned (.bool true) ∧ Below w.heap.size w w' := by
  by_cases h : n ≤ 500
  · exact back_small sp n cap L b0 b1 b2 tp tn tcap T N M w hS hT hb0 hb1 h
  · exact back_big sp n cap L b0 b1 b2 tp tn tcap w hb0 (by omega)
end Go.Proofs.Ytbjlmekafnpllab
