/- Layer rlp: alike. -/
import Derived.Test.YtbggpiigekakaaaSd
namespace Go.Proofs.Ytbggpiigekakaaa
open Go.RowKit
set_option linter.unusedVariables false
set_option linter.unusedSimpArgs false

set_option maxHeartbeats 400000 in
theorem alike_kind (l l' : Bool) (hl : (l != l') = true) (sp sp' : Option Addr) (n cap n' cap' : Nat) (sq sq' : Option Addr) (k cq k' cq' : Nat) (w : World) :
    Calls Try.prog 31 #[.agg #[.bool l, .slice sp n cap, .slice sq k cq], .agg #[.bool l', .slice sp' n' cap', .slice sq' k' cq']] w fun e w' => e = .returned (.bool false) ∧ Below w.heap.size w w' := by
  have hb0 : ∀ o o', Below w.heap.size w ((w.alloc o).alloc o') := fun o o' => ((Below.refl _ _).alloc (Nat.le_refl _) _).alloc (by simp) _
  cases l <;> cases l' <;> simp at hl
  · go_enter Try.func31, Try.ntmps31
    go_wp2
    go_ret
    exact ⟨rfl, hb0 _ _⟩
  · go_enter Try.func31, Try.ntmps31
    go_wp2
    go_ret
    exact ⟨rfl, hb0 _ _⟩

set_option maxHeartbeats 400000 in
theorem alike_bytes (sp sp' : Option Addr) (n cap n' cap' : Nat) (bs bs' : List Int) (sq sq' : Option Addr) (cq cq' : Nat) (N : Nat) (w : World) (hS : BS N w sp n cap bs) (hS' : BS N w sp' n' cap' bs') :
    Calls Try.prog 31 #[.agg #[.bool false, .slice sp n cap, .slice sq 0 cq], .agg #[.bool false, .slice sp' n' cap', .slice sq' 0 cq']] w fun e w' => e = .returned (.bool (decide (bs = bs'))) ∧ Below w.heap.size w w' := by
  have hb0 : ∀ o o', Below w.heap.size w ((w.alloc o).alloc o') := fun o o' => ((Below.refl _ _).alloc (Nat.le_refl _) _).alloc (by simp) _
  have hS1 : ∀ o o', BS w.heap.size ((w.alloc o).alloc o') sp n cap bs := fun o o' => hS.here.below (hb0 o o')
  have hS2 : ∀ o o', BS w.heap.size ((w.alloc o).alloc o') sp' n' cap' bs' := fun o o' => hS'.here.below (hb0 o o')
  cases hd : decide (bs = bs') with
  | false =>
    go_enter Try.func31, Try.ntmps31
    go_wp2_with (go_at_call 44; go_must (refine (equal_any sp sp' n n' cap cap' bs bs' _ _ _ (hS1 _ _) (hS2 _ _)).mono ?_; rw [hd]; rintro e w2 ⟨rfl, rfl⟩))
    go_ret
    exact ⟨rfl, hb0 _ _⟩
  | true =>
    go_enter Try.func31, Try.ntmps31
    go_wp2_with (go_at_call 44; go_must (refine (equal_any sp sp' n n' cap cap' bs bs' _ _ _ (hS1 _ _) (hS2 _ _)).mono ?_; rw [hd]; rintro e w2 ⟨rfl, rfl⟩))
    go_loopw [31] (fun i wr => i = .int .i64 0 ∧ Below w.heap.size w wr) (fun _ _ => 0)
    case atStart => exact ⟨rfl, hb0 _ _⟩
    case round =>
      obtain ⟨rfl, hbl⟩ := hrel
      go_wp2
      go_ret
      exact ⟨rfl, hbl⟩

set_option maxHeartbeats 400000 in
theorem alike_len (sp sp' : Option Addr) (cap cap' : Nat) (sq sq' : Option Addr) (k cq k' cq' : Nat) (N : Nat) (w : World) (hS : BS N w sp 0 cap []) (hS' : BS N w sp' 0 cap' []) (hk : ¬ k = k') :
    Calls Try.prog 31 #[.agg #[.bool true, .slice sp 0 cap, .slice sq k cq], .agg #[.bool true, .slice sp' 0 cap', .slice sq' k' cq']] w fun e w' => e = .returned (.bool false) ∧ Below w.heap.size w w' := by
  have hb0 : ∀ o o', Below w.heap.size w ((w.alloc o).alloc o') := fun o o' => ((Below.refl _ _).alloc (Nat.le_refl _) _).alloc (by simp) _
  have hS1 : ∀ o o', BS w.heap.size ((w.alloc o).alloc o') sp 0 cap [] := fun o o' => hS.here.below (hb0 o o')
  have hS2 : ∀ o o', BS w.heap.size ((w.alloc o).alloc o') sp' 0 cap' [] := fun o o' => hS'.here.below (hb0 o o')
  have hkI : ((k : Int) != (k' : Int)) = true := by simp; omega
  go_enter Try.func31, Try.ntmps31
  go_wp2_with (go_at_call 44; go_must (refine (equal_any sp sp' 0 0 cap cap' [] [] _ _ _ (hS1 _ _) (hS2 _ _)).mono ?_; rintro e w2 ⟨rfl, rfl⟩))
  go_ret
  exact ⟨rfl, hb0 _ _⟩

def AlikeAt (d : Nat) : Prop := ∀ (N : Nat) (x y : Value) (F G : List Int) (w : World), Is N w d x (some F) → Is N w d y (some G) → F.length ≤ 65536 → G.length ≤ 65536 →
  Calls Try.prog 31 #[x, y] w fun e w' => e = .returned (.bool (decide (F = G))) ∧ Below w.heap.size w w'

/-- The child j of a slice of items. -/
theorem child {N : Nat} {w wr : World} {g off k cq : Nat} {vs : List Value} {d j : Nat} {Fs : List (List Int)} (hI : IS N w (some ⟨g, off, none⟩) k cq vs) (hlen : Fs.length = vs.length) (hD : ∀ (i : Nat) v F, vs[i]? = some v → Fs[i]? = some F → Is N w d v (some F)) (hj : j < k) (hb : Below N w wr) :
    ∃ l sp n cap sq m c F, Fs[j]? = some F ∧ Is N wr d (.agg #[.bool l, .slice sp n cap, .slice sq m c]) (some F) ∧ wr.cell? ⟨g, off + j * 3, none⟩ = some (.bool l) ∧ wr.cell? ⟨g, off + j * 3 + 1, none⟩ = some (.slice sp n cap) ∧ wr.cell? ⟨g, off + j * 3 + 2, none⟩ = some (.slice sq m c) := by
  have hkl := hI.len.out
  obtain ⟨g', off', e, hg, hcells⟩ := hI.at0 (by omega)
  cases e
  have hjv : j < vs.length := by omega
  obtain ⟨a, b, c, e0, ca, cb, cc⟩ := hcells j vs[j] (List.getElem?_eq_getElem hjv)
  have hx := hD j vs[j] Fs[j] (List.getElem?_eq_getElem hjv) (List.getElem?_eq_getElem (by omega))
  obtain ⟨l', sp', n', cap', bs', sq', k', cq', vs', hSh⟩ := hx.sh
  rw [hSh.eq] at e0 hx
  have e1 : a = .bool l' ∧ b = .slice sp' n' cap' ∧ c = .slice sq' k' cq' := by simpa [eq_comm] using e0
  obtain ⟨rfl, rfl, rfl⟩ := e1
  rw [Nat.mul_comm 3 j] at ca cb cc
  exact ⟨l', sp', n', cap', sq', k', cq', Fs[j], List.getElem?_eq_getElem (by omega), hx.below hb, (hb.cell (p := ⟨g, _, none⟩) hg).trans ca, (hb.cell (p := ⟨g, _, none⟩) hg).trans cb, (hb.cell (p := ⟨g, _, none⟩) hg).trans cc⟩

set_option maxHeartbeats 1000000 in
theorem alike_list (d : Nat) (hA : AlikeAt d) (N : Nat) (sp sp' : Option Addr) (cap cap' : Nat) (sq sq' : Option Addr) (k cq cq' : Nat) (vs vs' : List Value) (Fs Gs : List (List Int)) (w : World) (hN : N ≤ w.heap.size)
    (hS : BS N w sp 0 cap []) (hS' : BS N w sp' 0 cap' []) (hI : IS N w sq k cq vs) (hI' : IS N w sq' k cq' vs') (hF : Fs.length = vs.length) (hG : Gs.length = vs'.length)
    (hD : ∀ (i : Nat) v F, vs[i]? = some v → Fs[i]? = some F → Is N w d v (some F)) (hD' : ∀ (i : Nat) v F, vs'[i]? = some v → Gs[i]? = some F → Is N w d v (some F)) (hl : ∀ F ∈ Fs, F.length ≤ 65536) (hl' : ∀ F ∈ Gs, F.length ≤ 65536) :
    Calls Try.prog 31 #[.agg #[.bool true, .slice sp 0 cap, .slice sq k cq], .agg #[.bool true, .slice sp' 0 cap', .slice sq' k cq']] w fun e w' => e = .returned (.bool (decide (Fs = Gs))) ∧ Below w.heap.size w w' := by
  replace hF := Hid.mk' hF
  replace hG := Hid.mk' hG
  replace hD := Hid.mk' hD
  replace hD' := Hid.mk' hD'
  replace hl := Hid.mk' hl
  replace hl' := Hid.mk' hl'
  have hkl := hI.len
  have hkl' := hI'.len
  have hksm := hI.small
  have hb0 : Below w.heap.size w ((w.alloc (.cells #[.bool true, .slice sp 0 cap, .slice sq k cq] 25)).alloc (.cells #[.bool true, .slice sp' 0 cap', .slice sq' k cq'] 25)) := ((Below.refl _ _).alloc (Nat.le_refl _) _).alloc (by simp) _
  have hS1 := hS.here.below hb0
  have hS2 := hS'.here.below hb0
  have X0 := (Arr.new w 25 #[.bool true, .slice sp 0 cap, .slice sq k cq]).alloc (.cells #[.bool true, .slice sp' 0 cap', .slice sq' k cq'] 25)
  have Y0 := Arr.new (w.alloc (.cells #[.bool true, .slice sp 0 cap, .slice sq k cq] 25)) 25 #[.bool true, .slice sp' 0 cap', .slice sq' k cq']
  simp at Y0
  have hs0 : ((w.alloc (.cells #[.bool true, .slice sp 0 cap, .slice sq k cq] 25)).alloc (.cells #[.bool true, .slice sp' 0 cap', .slice sq' k cq'] 25)).heap.size = w.heap.size + 2 := by simp
  go_enter Try.func31, Try.ntmps31
  go_wp2_with (go_at_call 44; go_must (refine (equal_any sp sp' 0 0 cap cap' [] [] _ _ _ hS1 hS2).mono ?_; rintro e w2 ⟨rfl, rfl⟩))
  generalize (w.alloc (.cells #[.bool true, .slice sp 0 cap, .slice sq k cq] 25)).alloc (.cells #[.bool true, .slice sp' 0 cap', .slice sq' k cq'] 25) = W at *
  go_loopw [31] (fun i wr => ∃ j : Nat, j ≤ k ∧ i = .int .i64 j ∧ Hid (∀ t, t < j → Fs[t]? = Gs[t]?) ∧ Below (w.heap.size + 2) W wr)
    (fun i _ => k - (intOf i).toNat)
  case atStart => exact ⟨0, by omega, rfl, Hid.mk' (fun t h => by omega), Below.refl _ _⟩
  case round =>
    obtain ⟨j, hj, rfl, hsame, hbl⟩ := hrel
    have hsz := hbl.size
    have Xr := X0.below hbl (by omega)
    have Yr := Y0.below hbl (by omega)
    have x2 := Xr.cell 2
    have y2 := Yr.cell 2
    simp at x2 y2
    have hbw : Below w.heap.size w wr := hb0.trans (hbl.mono (by omega))
    by_cases hlt : j < k
    · have h3 : (j : Int) < k := by omega
      have h4 : (0 : Int) ≤ j := by omega
      obtain ⟨g, off, rfl, hg, -⟩ := hI.at0 (by omega)
      obtain ⟨g', off', rfl, hg', -⟩ := hI'.at0 (by omega)
      obtain ⟨l1, s1, n1, c1, t1, m1, d1, F, hFj, I1, a0, a1, a2⟩ := child hI hF.out hD.out hlt (hbw.mono hN)
      obtain ⟨l2, s2, n2, c2, t2, m2, d2, G, hGj, I2, b0, b1, b2⟩ := child hI' hG.out hD'.out hlt (hbw.mono hN)
      have hFl := hl.out F (List.mem_of_getElem? hFj)
      have hGl := hl'.out G (List.mem_of_getElem? hGj)
      replace hFj := Hid.mk' hFj
      replace hGj := Hid.mk' hGj
      have I1' : Is N wr.drew d (.agg #[.bool l1, .slice s1 n1 c1, .slice t1 m1 d1]) (some F) := I1.below (Below.refl N wr).drew
      have I2' : Is N wr.drew d (.agg #[.bool l2, .slice s2 n2 c2, .slice t2 m2 d2]) (some G) := I2.below (Below.refl N wr).drew
      cases hFG : decide (F = G) with
      | true =>
        have hFG' : F = G := of_decide_eq_true hFG
        replace hFG' := Hid.mk' hFG'
        go_wp2
        go_region_law (go_simp; go_at_call 31; refine (hA N _ _ F G _ I1' I2' hFl hGl).mono ?_; rw [hFG]; rintro e w2 ⟨rfl, hb2⟩; go_simp)
        all_goals
          go_wp2
          go_roundw
          case rel =>
            refine ⟨j + 1, by omega, by go_num, Hid.mk' (fun t ht => ?_), hbl.drew.trans (hb2.mono (show w.heap.size + 2 ≤ wr.heap.size by omega))⟩
            by_cases e : t = j
            · rw [e, hFj.out, hGj.out, hFG'.out]
            · exact hsame.out t (by omega)
          case measure => simp [intOf]; omega
      | false =>
        have hFG' : F ≠ G := of_decide_eq_false hFG
        have hne : decide (Fs = Gs) = false := decide_eq_false fun e => by
          have h1 := hFj.out
          rw [e, hGj.out] at h1
          exact hFG' (Option.some.inj h1).symm
        replace hne := Hid.mk' hne
        go_wp2
        go_region_law (go_simp; go_at_call 31; refine (hA N _ _ F G _ I1' I2' hFl hGl).mono ?_; rw [hFG]; rintro e w2 ⟨rfl, hb2⟩; go_simp)
        all_goals
          go_wp2
          go_ret
          exact ⟨by rw [hne.out]; rfl, hbw.drew.trans (hb2.mono (show w.heap.size ≤ wr.heap.size by omega))⟩
    · obtain rfl : j = k := by omega
      have heq : decide (Fs = Gs) = true := decide_eq_true (List.ext_getElem? fun t => by
        by_cases ht : t < j
        · exact hsame.out t ht
        · rw [List.getElem?_eq_none (by rw [hF.out, ← hkl.out]; omega), List.getElem?_eq_none (by rw [hG.out, ← hkl'.out]; omega)])
      replace heq := Hid.mk' heq
      go_wp2
      go_ret
      exact ⟨by rw [heq.out]; rfl, hbw⟩

/-- An item that has a form: bytes, or a list of such. -/
theorem Is.some_cases {N : Nat} {w : World} {d : Nat} {x : Value} {F : List Int} (h : Is N w d x (some F)) :
    (∃ sp n cap bs sq cq, x = .agg #[.bool false, .slice sp n cap, .slice sq 0 cq] ∧ BS N w sp n cap bs ∧ F = wrap false bs) ∨
    (∃ d', d = d' + 1 ∧ ∃ sp cap sq k cq vs, ∃ Fs : List (List Int), x = .agg #[.bool true, .slice sp 0 cap, .slice sq k cq] ∧ BS N w sp 0 cap [] ∧ IS N w sq k cq vs ∧ Fs.length = vs.length ∧ (∀ (i : Nat) v F, vs[i]? = some v → Fs[i]? = some F → Is N w d' v (some F)) ∧ F = wrap true Fs.flatten) := by
  have hb : ∀ l sp n cap bs sq k cq vs, Sh N w x l sp n cap bs sq k cq vs → l = false → some F = (if k = 0 then some (wrap false bs) else none) → (∃ sp n cap bs sq cq, x = .agg #[.bool false, .slice sp n cap, .slice sq 0 cq] ∧ BS N w sp n cap bs ∧ F = wrap false bs) := by
    intro l sp n cap bs sq k cq vs hs e h
    subst e
    split at h
    · rename_i hk
      subst hk
      exact ⟨sp, n, cap, bs, sq, cq, hs.eq, hs.bytes, Option.some.inj h⟩
    · cases h
  cases d with
  | zero =>
    obtain ⟨l, sp, n, cap, bs, sq, k, cq, vs, hs, ⟨e, h⟩ | ⟨-, h⟩⟩ := h
    · exact .inl (hb l sp n cap bs sq k cq vs hs e h)
    · cases h
  | succ d =>
    obtain ⟨l, sp, n, cap, bs, sq, k, cq, vs, hs, ⟨e, h⟩ | ⟨-, -, h⟩ | ⟨rfl, rfl, os, h3, h4, h5⟩⟩ := h
    · exact .inl (hb l sp n cap bs sq k cq vs hs e h)
    · cases h
    · obtain ⟨X, hX, e⟩ := Option.map_eq_some_iff.1 h5.symm
      obtain ⟨Fs, rfl, rfl⟩ := cat_some hX
      have hbs : bs = [] := List.eq_nil_of_length_eq_zero hs.bytes.len.out.symm
      have hB := hs.bytes
      rw [hbs] at hB
      refine .inr ⟨d, rfl, sp, cap, sq, k, cq, vs, Fs, hs.eq, hB, hs.list, by simpa using h3, fun i v F hv hF => h4 i v (some F) hv (by rw [List.getElem?_map, hF]; rfl), e.symm⟩
theorem flat_mem {Fs : List (List Int)} {F : List Int} (h : F ∈ Fs) : F.length ≤ Fs.flatten.length := by
  induction Fs with
  | nil => simp at h
  | cons G Fs ih =>
    rw [List.flatten_cons, List.length_append]
    rcases List.mem_cons.1 h with rfl | h
    · omega
    · have := ih h; omega

theorem alike_of (d : Nat) (hA : ∀ d', d = d' + 1 → AlikeAt d') : AlikeAt d := by
  intro N x y F G w hI hJ hl hl'
  have hI := hI.here
  have hJ := hJ.here
  rcases hI.some_cases with ⟨sp, n, cap, bs, sq, cq, ex, hB, rfl⟩ | ⟨d', rfl, sp, cap, sq, k, cq, vs, Fs, ex, hB, hIS, hlen, hD, rfl⟩
  · have w1 := wrap_len false bs
    rcases hJ.some_cases with ⟨sp', n', cap', bs', sq', cq', ey, hB', rfl⟩ | ⟨d'', -, sp', cap', sq', k', cq', vs', Gs, ey, hB', hIS', hlen', hD', rfl⟩
    · have w2 := wrap_len false bs'
      have e : decide (wrap false bs = wrap false bs') = decide (bs = bs') := by
        by_cases h : bs = bs'
        · subst h; simp
        · rw [decide_eq_false h, decide_eq_false]
          intro e
          exact h (wrap_one (r := []) (r' := []) hB.bts hB'.bts (by omega) (by omega) (by simpa using e)).2.1
      rw [e, ex, ey]
      exact alike_bytes sp sp' n cap n' cap' bs bs' sq sq' cq cq' _ w hB hB'
    · have w2 := wrap_len true Gs.flatten
      have e : decide (wrap false bs = wrap true Gs.flatten) = false := decide_eq_false fun e => by
        have := (wrap_one (r := []) (r' := []) hB.bts (flat_bts fun f hf => by obtain ⟨i, hi, rfl⟩ := List.mem_iff_getElem.1 hf; exact (hD' i vs'[i] Gs[i] (List.getElem?_eq_getElem (by omega)) (List.getElem?_eq_getElem hi)).fm) (by omega) (by omega) (by simpa using e)).1
        cases this
      rw [e, ex, ey]
      exact alike_kind false true rfl sp sp' n cap 0 cap' sq sq' 0 cq k' cq' w
  · have w1 := wrap_len true Fs.flatten
    have hfm : ∀ f ∈ Fs, Fm d' f := fun f hf => by obtain ⟨i, hi, rfl⟩ := List.mem_iff_getElem.1 hf; exact (hD i vs[i] Fs[i] (List.getElem?_eq_getElem (by omega)) (List.getElem?_eq_getElem hi)).fm
    rcases hJ.some_cases with ⟨sp', n', cap', bs', sq', cq', ey, hB', rfl⟩ | ⟨d'', hd, sp', cap', sq', k', cq', vs', Gs, ey, hB', hIS', hlen', hD', rfl⟩
    · have w2 := wrap_len false bs'
      have e : decide (wrap true Fs.flatten = wrap false bs') = false := decide_eq_false fun e => by
        have := (wrap_one (r := []) (r' := []) (flat_bts hfm) hB'.bts (by omega) (by omega) (by simpa using e)).1
        cases this
      rw [e, ex, ey]
      exact alike_kind true false rfl sp sp' 0 cap n' cap' sq sq' k cq 0 cq' w
    · obtain rfl : d' = d'' := by omega
      have w2 := wrap_len true Gs.flatten
      have hfm' : ∀ f ∈ Gs, Fm d' f := fun f hf => by obtain ⟨i, hi, rfl⟩ := List.mem_iff_getElem.1 hf; exact (hD' i vs'[i] Gs[i] (List.getElem?_eq_getElem (by omega)) (List.getElem?_eq_getElem hi)).fm
      have e : decide (wrap true Fs.flatten = wrap true Gs.flatten) = decide (Fs = Gs) := by
        by_cases h : Fs = Gs
        · subst h; simp
        · rw [decide_eq_false h, decide_eq_false]
          intro e
          exact h (flat_one hfm hfm' (by omega) (wrap_one (r := []) (r' := []) (flat_bts hfm) (flat_bts hfm') (by omega) (by omega) (by simpa using e)).2.1)
      rw [e, ex, ey]
      have hk1 := hIS.len.out
      have hk2 := hIS'.len.out
      by_cases hk : k = k'
      · subst hk
        exact alike_list d' (hA d' rfl) w.heap.size sp sp' cap cap' sq sq' k cq cq' vs vs' Fs Gs w (Nat.le_refl _) hB hB' hIS hIS' hlen hlen' hD hD' (fun F hF => by have := flat_mem hF; omega) (fun F hF => by have := flat_mem hF; omega)
      · rw [decide_eq_false (fun e => hk (by rw [hk1, hk2, ← hlen, ← hlen', e]))]
        exact alike_len sp sp' cap cap' sq sq' k cq k' cq' _ w hB hB' hk
theorem alike_any : ∀ d, AlikeAt d
  | 0 => alike_of 0 fun d' e => by omega
  | d + 1 => alike_of (d + 1) fun d' e => by
    obtain rfl : d = d' := by omega
    exact alike_any d
end Go.Proofs.Ytbggpiigekakaaa
