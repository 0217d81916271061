/- NfC, NfF, NiS, NiC, NiF. -/
import Derived.Test.YtbhhbkoikocjgaaX18
/- Layer spec: the fold, a stand at a time. -/
namespace Go.Proofs.Ytbhhbkoikocjgaa
set_option linter.unusedSectionVars false
set_option maxHeartbeats 1000000
open Go.RowKit Go.Shelf
set_option maxRecDepth 100000
set_option linter.unusedVariables false
set_option linter.unusedSimpArgs false
variable [DecidableEq Ac] [DecidableEq Ou] [DecidableEq Mg]
attribute [local go_sem] Oper.semAt_some


set_option maxHeartbeats 400000 in
theorem fold26_any (sl : Option Addr) (nl cl : Nat) (C : Array Value) (w : World) :
    Calls Try.prog 26 #[.slice sl nl cl, .agg C, .func (Fn.func 28) #[] #[]] w fun e w' => e = .returned (.func (Fn.func 44) #[] #[.pointer (some ⟨w.heap.size + 1, 0, none⟩), .pointer (some ⟨w.heap.size, 0, none⟩), .pointer (some ⟨w.heap.size + 1 + 1, 0, none⟩)]) ∧ w' = ((w.alloc (.cells #[.slice sl nl cl] 31)).alloc (.cells C 69)).alloc (.cells #[.func (Fn.func 28) #[] #[]] 74) := by
  have hmf : ∀ (fn : Fn) (first cap : Array Value) (w : World), (Instr.makeFunc fn first cap).run Try.prog w = .ok (.func fn first cap) w := fun _ _ _ _ => rfl
  go_enter Try.func26, Try.ntmps26
  go_wp2
  go_ret
  exact ⟨rfl, rfl⟩
set_option maxHeartbeats 2000000 in
theorem fold44_in (bf bl bs B : Nat) (C0 : Array Value) (sl : Option Addr) (nl cl : Nat) (es : List Bz) (M : World → Prop) (T : Nat → Array Value → World → Prop) (hM : ∀ W, M W → FoldM bf bl bs B 69 28 C0 sl nl cl es W) (hT : FoldT B 69 1090 28 C0 es nl M T) :
    Teller 44 #[.pointer (some ⟨bf, 0, none⟩), .pointer (some ⟨bl, 0, none⟩), .pointer (some ⟨bs, 0, none⟩)] B M T (fun _ _ => False) nl := by
  intro k lp J X hJM hJB hY W Cp h0
  refine callsIn_of_wp Try.func44 rfl trivial ?_ rfl
  simp only [Try.ntmps44, List.size_toArray, List.length_cons, List.length_nil, Nat.reduceAdd, Nat.reduceSub, Array.replicate_succ, Array.replicate_zero, List.push_toArray, List.append_toArray, List.nil_append, List.cons_append]
  obtain ⟨hM0, hsz⟩ := hJM 0 Cp W h0
  have hF0 := hM W hM0
  obtain ⟨hC0, hC1⟩ := hT.size 0 C0 W (hT.first W hM0 hsz)
  have A0 := hF0.first
  have hz := zeroValue69N
  have hzs := zsize69
  have hbV := alloc_bel' W (.cells C0 69)
  have AV := Arr.new W 69 C0
  have hJV := hJB 0 Cp W _ h0 (hbV.mono hsz)
  have hsV : (W.alloc (.cells C0 69)).heap.size = W.heap.size + 1 := by simp
  have hTV := hT.first _ (hJM _ _ _ hJV).1 (hJM _ _ _ hJV).2
  obtain ⟨fn, tmps, assign, body, hy, hR⟩ := hY 0 Cp C0 _ hJV (Nat.zero_le _) hTV
  rw [show ((0 : Nat) : Int) = 0 from rfl] at hy
  generalize zero69N = Z at hz hzs
  gi_wp2_with (first
    | (refine atLi 69 (.tmp 1) ?_; refine ldBw (by rfl) 69 1090 _ (by rfl) bf 69 (by rfl) C0 hC0 A0 Try.underlying69 rfl size69N ?_)
    | (refine atSi 69 (.tmp 5) (.tmp 8) ?_; refine stBnw (by rfl) 69 1090 _ _ (by rfl) W W.heap.size 69 rfl C0 (by rfl) (by rfl) hC0 hC1 hzs size69N ?_)
    | (refine atLi 69 (.tmp 5) ?_; refine ldBw (by rfl) 69 1090 _ (by rfl) W.heap.size 69 (by rfl) C0 hC0 AV Try.underlying69 rfl size69N ?_))
  refine ⟨fun h => (by cases h), hR.mono ?_⟩
  clear hR hy hJV hTV A0
  rintro r W3 (⟨rfl, hJ3, hs3, hk3⟩ | ⟨rfl, hX⟩)
  rotate_left
  · gi_wp2
    exact bodyPost_ret (results_none rfl _ _ _) rfl ⟨⟨_, rfl⟩, .inr hX⟩
  obtain ⟨hM3, hB3⟩ := hJM _ _ _ hJ3
  have hF3 := hM W3 hM3
  have A3 : Arr W3 W.heap.size 69 C0 := (hk3 _ hsz (by omega) id).trans AV
  have hT3 := hT.first W3 hM3 hB3
  have cl3 := hF3.list
  have hlen := hF3.msgs.len
  have hnl : nl ≤ 9223372036854775807 := Nat.le_trans hF3.msgs.le hF3.msgs.big
  clear hF0 hF3 AV hbV
  gi_wp2
  gi_loopw [15] (fun d wr => ∃ (j : Nat) (C : Array Value), d = .int .i64 (j : Int) ∧ j ≤ nl ∧ J (j + 1) C wr ∧ T j C wr ∧ Arr wr W.heap.size 69 C) (fun d _ => nl - (intOf d).toNat)
  case atStart => exact ⟨0, C0, rfl, by omega, hJ3, hT3, A3⟩
  case round =>
    obtain ⟨j, C, rfl, hj, hJj, hTj, hAj⟩ := hrel
    clear hJ3 hT3 A3 cl3 hM3 hB3 hk3 hs3 hsV
    obtain ⟨hMr, hBr⟩ := hJM _ _ _ hJj
    have hFr := hM wr hMr
    obtain ⟨hC2, hC3⟩ := hT.size _ _ _ hTj
    by_cases hlt : j < nl
    · have hI : (j : Int) < nl := by omega
      obtain ⟨g, off, e, rfl, he, hce, hBe⟩ := hFr.msgs.get hlt
      have cs := hFr.step
      have hst := hT.step j C e wr W.heap.size C hTj hMr hBr he hlt hAj hsz
      replace he := Hid.mk' he
      gi_wp2_with (first
        | (refine atLi 69 (.tmp 5) ?_; refine ldBw (by rfl) 69 1090 _ (by rfl) W.heap.size 69 (by rfl) C4 hC4 hA5 Try.underlying69 rfl size69N ?_)
        | (refine atLi 69 (.tmp 5) ?_; refine ldBw (by rfl) 69 1090 _ (by rfl) W.heap.size 69 (by rfl) C hC2 hAj Try.underlying69 rfl size69N ?_)
        | (refine ⟨trivial, fun h => (by cases h), ?_⟩; gi_at_call 28; go_must (refine (callsIn_wide.2 hst).mono ?_; rintro r w4 ⟨C4, rfl, hT4, hb4, hA4⟩; obtain ⟨hC4, hC5⟩ := hT.size _ _ _ hT4))
        | (refine atSi 69 (.tmp 5) (.tmp 23) ?_; go_must (refine stBw (by rfl) 69 1090 _ _ (by rfl) W.heap.size 69 C4 C (by rfl) (by rfl) hC4 hC5 hC2 hA4 size69N ?_; have hb5 : Below B wr (w4.setRow W.heap.size C4) := below_setRow hb4 hsz _; have hJ5 := hJB _ _ _ _ hJj hb5; have hA5 : Arr (w4.setRow W.heap.size C4) W.heap.size 69 C4 := hA4.setRow _; have hT5 := hT.stays _ _ w4 (w4.setRow W.heap.size C4) _ _ hT4 hA4 (hJM _ _ _ hJ5).1 (by simp) (fun b _ _ hn => setRow_other _ _ _ _ hn); generalize w4.setRow W.heap.size C4 = w5 at *; clear hJj hTj hAj hT4 hA4 hb4 hb5; obtain ⟨fn, tmps, assign, body, hy, hR⟩ := hY (j + 1) C C4 w5 hJ5 hlt hT5; rw [show ((j + 1 : Nat) : Int) = (j : Int) + 1 by omega] at hy)))
      refine ⟨fun h => (by cases h), hR.mono ?_⟩
      clear hR hy
      rintro r W6 (⟨rfl, hJ6, hs6, hk6⟩ | ⟨rfl, hX⟩)
      · have hM6 := (hJM _ _ _ hJ6).1
        have hA6 : Arr W6 W.heap.size 69 C4 := (hk6 _ hsz hA5.lt id).trans hA5
        have hT6 := hT.stays _ _ w5 W6 _ _ hT5 hA5 hM6 hs6 (fun b h1 h2 _ => hk6 b h1 h2 id)
        gi_wp2
        go_roundw
        case rel => exact ⟨j + 1, C4, by go_num, by omega, hJ6, hT6, hA6⟩
        case measure => simp [intOf]; omega
      · gi_wp2
        exact bodyPost_ret (results_none rfl _ _ _) rfl ⟨⟨_, rfl⟩, .inr hX⟩
    · obtain rfl : j = nl := by omega
      have hI : ¬ (j : Int) < j := by omega
      gi_wp2
      go_end0
      exact ⟨⟨_, rfl⟩, .inl ⟨C, hJj, hTj⟩⟩
end Go.Proofs.Ytbhhbkoikocjgaa
/- Layer spec: the fold, a stand at a time. -/
namespace Go.Proofs.Ytbhhbkoikocjgaa
set_option linter.unusedSectionVars false
set_option maxHeartbeats 1000000
open Go.RowKit Go.Shelf
set_option maxRecDepth 100000
set_option linter.unusedVariables false
set_option linter.unusedSimpArgs false
variable [DecidableEq Ac] [DecidableEq Ou] [DecidableEq Mg]
attribute [local go_sem] Oper.semAt_some


set_option maxHeartbeats 400000 in
theorem fold34_any (sl : Option Addr) (nl cl : Nat) (C : Array Value) (w : World) :
    Calls Try.prog 34 #[.slice sl nl cl, .agg C, .func (Fn.func 35) #[] #[]] w fun e w' => e = .returned (.func (Fn.func 50) #[] #[.pointer (some ⟨w.heap.size + 1, 0, none⟩), .pointer (some ⟨w.heap.size, 0, none⟩), .pointer (some ⟨w.heap.size + 1 + 1, 0, none⟩)]) ∧ w' = ((w.alloc (.cells #[.slice sl nl cl] 31)).alloc (.cells C 82)).alloc (.cells #[.func (Fn.func 35) #[] #[]] 87) := by
  have hmf : ∀ (fn : Fn) (first cap : Array Value) (w : World), (Instr.makeFunc fn first cap).run Try.prog w = .ok (.func fn first cap) w := fun _ _ _ _ => rfl
  go_enter Try.func34, Try.ntmps34
  go_wp2
  go_ret
  exact ⟨rfl, rfl⟩
set_option maxHeartbeats 2000000 in
theorem fold50_in (bf bl bs B : Nat) (C0 : Array Value) (sl : Option Addr) (nl cl : Nat) (es : List Bz) (M : World → Prop) (T : Nat → Array Value → World → Prop) (hM : ∀ W, M W → FoldM bf bl bs B 82 35 C0 sl nl cl es W) (hT : FoldT B 82 1091 35 C0 es nl M T) :
    Teller 50 #[.pointer (some ⟨bf, 0, none⟩), .pointer (some ⟨bl, 0, none⟩), .pointer (some ⟨bs, 0, none⟩)] B M T (fun _ _ => False) nl := by
  intro k lp J X hJM hJB hY W Cp h0
  refine callsIn_of_wp Try.func50 rfl trivial ?_ rfl
  simp only [Try.ntmps50, List.size_toArray, List.length_cons, List.length_nil, Nat.reduceAdd, Nat.reduceSub, Array.replicate_succ, Array.replicate_zero, List.push_toArray, List.append_toArray, List.nil_append, List.cons_append]
  obtain ⟨hM0, hsz⟩ := hJM 0 Cp W h0
  have hF0 := hM W hM0
  obtain ⟨hC0, hC1⟩ := hT.size 0 C0 W (hT.first W hM0 hsz)
  have A0 := hF0.first
  have hz := zeroValue82N
  have hzs := zsize82
  have hbV := alloc_bel' W (.cells C0 82)
  have AV := Arr.new W 82 C0
  have hJV := hJB 0 Cp W _ h0 (hbV.mono hsz)
  have hsV : (W.alloc (.cells C0 82)).heap.size = W.heap.size + 1 := by simp
  have hTV := hT.first _ (hJM _ _ _ hJV).1 (hJM _ _ _ hJV).2
  obtain ⟨fn, tmps, assign, body, hy, hR⟩ := hY 0 Cp C0 _ hJV (Nat.zero_le _) hTV
  rw [show ((0 : Nat) : Int) = 0 from rfl] at hy
  generalize zero82N = Z at hz hzs
  gi_wp2_with (first
    | (refine atLi 82 (.tmp 1) ?_; refine ldBw (by rfl) 82 1091 _ (by rfl) bf 82 (by rfl) C0 hC0 A0 Try.underlying82 rfl size82N ?_)
    | (refine atSi 82 (.tmp 5) (.tmp 8) ?_; refine stBnw (by rfl) 82 1091 _ _ (by rfl) W W.heap.size 82 rfl C0 (by rfl) (by rfl) hC0 hC1 hzs size82N ?_)
    | (refine atLi 82 (.tmp 5) ?_; refine ldBw (by rfl) 82 1091 _ (by rfl) W.heap.size 82 (by rfl) C0 hC0 AV Try.underlying82 rfl size82N ?_))
  refine ⟨fun h => (by cases h), hR.mono ?_⟩
  clear hR hy hJV hTV A0
  rintro r W3 (⟨rfl, hJ3, hs3, hk3⟩ | ⟨rfl, hX⟩)
  rotate_left
  · gi_wp2
    exact bodyPost_ret (results_none rfl _ _ _) rfl ⟨⟨_, rfl⟩, .inr hX⟩
  obtain ⟨hM3, hB3⟩ := hJM _ _ _ hJ3
  have hF3 := hM W3 hM3
  have A3 : Arr W3 W.heap.size 82 C0 := (hk3 _ hsz (by omega) id).trans AV
  have hT3 := hT.first W3 hM3 hB3
  have cl3 := hF3.list
  have hlen := hF3.msgs.len
  have hnl : nl ≤ 9223372036854775807 := Nat.le_trans hF3.msgs.le hF3.msgs.big
  clear hF0 hF3 AV hbV
  gi_wp2
  gi_loopw [15] (fun d wr => ∃ (j : Nat) (C : Array Value), d = .int .i64 (j : Int) ∧ j ≤ nl ∧ J (j + 1) C wr ∧ T j C wr ∧ Arr wr W.heap.size 82 C) (fun d _ => nl - (intOf d).toNat)
  case atStart => exact ⟨0, C0, rfl, by omega, hJ3, hT3, A3⟩
  case round =>
    obtain ⟨j, C, rfl, hj, hJj, hTj, hAj⟩ := hrel
    clear hJ3 hT3 A3 cl3 hM3 hB3 hk3 hs3 hsV
    obtain ⟨hMr, hBr⟩ := hJM _ _ _ hJj
    have hFr := hM wr hMr
    obtain ⟨hC2, hC3⟩ := hT.size _ _ _ hTj
    by_cases hlt : j < nl
    · have hI : (j : Int) < nl := by omega
      obtain ⟨g, off, e, rfl, he, hce, hBe⟩ := hFr.msgs.get hlt
      have cs := hFr.step
      have hst := hT.step j C e wr W.heap.size C hTj hMr hBr he hlt hAj hsz
      replace he := Hid.mk' he
      gi_wp2_with (first
        | (refine atLi 82 (.tmp 5) ?_; refine ldBw (by rfl) 82 1091 _ (by rfl) W.heap.size 82 (by rfl) C4 hC4 hA5 Try.underlying82 rfl size82N ?_)
        | (refine atLi 82 (.tmp 5) ?_; refine ldBw (by rfl) 82 1091 _ (by rfl) W.heap.size 82 (by rfl) C hC2 hAj Try.underlying82 rfl size82N ?_)
        | (refine ⟨trivial, fun h => (by cases h), ?_⟩; gi_at_call 35; go_must (refine (callsIn_wide.2 hst).mono ?_; rintro r w4 ⟨C4, rfl, hT4, hb4, hA4⟩; obtain ⟨hC4, hC5⟩ := hT.size _ _ _ hT4))
        | (refine atSi 82 (.tmp 5) (.tmp 23) ?_; go_must (refine stBw (by rfl) 82 1091 _ _ (by rfl) W.heap.size 82 C4 C (by rfl) (by rfl) hC4 hC5 hC2 hA4 size82N ?_; have hb5 : Below B wr (w4.setRow W.heap.size C4) := below_setRow hb4 hsz _; have hJ5 := hJB _ _ _ _ hJj hb5; have hA5 : Arr (w4.setRow W.heap.size C4) W.heap.size 82 C4 := hA4.setRow _; have hT5 := hT.stays _ _ w4 (w4.setRow W.heap.size C4) _ _ hT4 hA4 (hJM _ _ _ hJ5).1 (by simp) (fun b _ _ hn => setRow_other _ _ _ _ hn); generalize w4.setRow W.heap.size C4 = w5 at *; clear hJj hTj hAj hT4 hA4 hb4 hb5; obtain ⟨fn, tmps, assign, body, hy, hR⟩ := hY (j + 1) C C4 w5 hJ5 hlt hT5; rw [show ((j + 1 : Nat) : Int) = (j : Int) + 1 by omega] at hy)))
      refine ⟨fun h => (by cases h), hR.mono ?_⟩
      clear hR hy
      rintro r W6 (⟨rfl, hJ6, hs6, hk6⟩ | ⟨rfl, hX⟩)
      · have hM6 := (hJM _ _ _ hJ6).1
        have hA6 : Arr W6 W.heap.size 82 C4 := (hk6 _ hsz hA5.lt id).trans hA5
        have hT6 := hT.stays _ _ w5 W6 _ _ hT5 hA5 hM6 hs6 (fun b h1 h2 _ => hk6 b h1 h2 id)
        gi_wp2
        go_roundw
        case rel => exact ⟨j + 1, C4, by go_num, by omega, hJ6, hT6, hA6⟩
        case measure => simp [intOf]; omega
      · gi_wp2
        exact bodyPost_ret (results_none rfl _ _ _) rfl ⟨⟨_, rfl⟩, .inr hX⟩
    · obtain rfl : j = nl := by omega
      have hI : ¬ (j : Int) < j := by omega
      gi_wp2
      go_end0
      exact ⟨⟨_, rfl⟩, .inl ⟨C, hJj, hTj⟩⟩
end Go.Proofs.Ytbhhbkoikocjgaa
/- Layer spec: the value that is told last. -/
namespace Go.Proofs.Ytbhhbkoikocjgaa
set_option linter.unusedSectionVars false
set_option maxHeartbeats 1000000
open Go.RowKit Go.Shelf
set_option maxRecDepth 100000
set_option linter.unusedVariables false
set_option linter.unusedSimpArgs false
variable [DecidableEq Ac] [DecidableEq Ou] [DecidableEq Mg]
attribute [local go_sem] Oper.semAt_some


/-- What stands while last ranges. -/
structure LI30 (w : World) (C : Array Value) (W : World) : Prop where
  bel : Below w.heap.size w W
  res : Arr W w.heap.size 30 zero30N
  fin : Arr W (w.heap.size + 1) 30 C
  sz : C.size = 1089
theorem LI30.below {w : World} {C : Array Value} {W W' : World} (h : LI30 w C W) (hb : Below (w.heap.size + 2) W W') : LI30 w C W' :=
  ⟨h.bel.trans (hb.mono (by omega)), h.res.below hb (by omega), h.fin.below hb (by omega), h.sz⟩
set_option maxHeartbeats 1000000 in
theorem last30_any (lb : Array Value) (nl : Nat) (w : World) (M : World → Prop) (T : Nat → Array Value → World → Prop) (hMB : ∀ W W', M W → Below w.heap.size W W' → M W') (hM0 : M w) (ht : Teller 49 lb (w.heap.size + 4) M T (fun _ _ => False) nl) (hst : Stays (w.heap.size + 4) M T) (hsz : ∀ j C W, T j C W → C.size = 1089 ∧ C.all (·.oneCell') = true) :
    Calls Try.prog 30 #[.func (Fn.func 49) #[] lb] w fun e w' => ∃ C, e = .returned (.agg C) ∧ T nl C w' ∧ Below w.heap.size w w' := by
  refine (callsIn_wide (n := 3)).1 ?_
  refine callsIn_of_wp_marks Try.func30 rfl trivial ?_ rfl
  simp only [Try.ntmps30, List.size_toArray, List.length_cons, List.length_nil, Nat.reduceAdd, Nat.reduceSub, Array.replicate_succ, Array.replicate_zero, List.push_toArray, List.append_toArray, List.nil_append, List.cons_append]
  have hz := zeroValue30N
  have hzs := zsize30
  have hI0 : LI30 w zero30N ((w.alloc (.cells zero30N 30)).alloc (.cells zero30N 30)) := by
    refine ⟨(alloc_bel' w _).alloc (by simp) _, (Arr.new w 30 _).alloc _, ?_, hzs⟩
    have h := Arr.new (w.alloc (.cells zero30N 30)) 30 zero30N
    simp only [World.size_alloc] at h
    exact h
  gi_wp2
  refine range_tell 49 lb (w.heap.size + 2) (by simp) rfl (enters_of Try.func49 (by kernel_rfl) rfl) nl M T (fun _ _ => False) ht hst (fun _ _ _ _ _ h => h.elim) (fun j C W => LI30 w C W) (fun _ _ => False) (fun j C W h => hMB _ _ hM0 h.bel) (fun j C W W' h hb => h.below hb) (fun c W r o h _ => h) zero30N hI0 ?round ?done (fun c W' o h => h.elim)
  case round =>
    intro j Cp C V hI hj hT hsV m
    clear hI0
    obtain ⟨hC, hC1⟩ := hsz j C V hT
    gi_wp2_with (refine atSi 30 (.tmp 5) (.tmp 8) ?_; refine stBnr (by rfl) 30 1089 _ _ (by rfl) V V.heap.size 30 rfl C (by rfl) (by rfl) hC hC1 hzs size30N ?_)
    refine ⟨alloc_bel' V _, fun w2 hb2 hk2 hs2 hI2 hT2 => ?_⟩
    have E2 : Arr w2 V.heap.size 30 C := (hk2 _ (by omega)).trans (Arr.new V 30 C)
    obtain ⟨hbel, A0, A1, hCp⟩ := hI2
    simp only [World.size_alloc] at hs2
    gi_wp2_with (first
      | (refine atLi 30 (.tmp 5) ?_; refine ldBr (by rfl) 30 1089 _ (by rfl) V.heap.size 30 (by rfl) C hC E2 Try.underlying30 rfl size30N ?_)
      | (refine atSi 30 (.tmp 3) (.tmp 9) ?_; refine stBr (by rfl) 30 1089 _ _ (by rfl) (w.heap.size + 1) 30 C Cp (by rfl) (by rfl) hC hC1 hCp A1 size30N ?_))
    exact ⟨⟨below_setRow hbel (by omega) _, A0.setRowOther _ (by omega), A1.setRow _, hC⟩, by simp, fun b h1 h2 _ => setRow_other _ _ _ _ (by omega)⟩
  case done =>
    intro C V o hI hT hsV hdf
    have hI2 := hI.below (bel_put (r := w.heap.size + 2 + 1) (Below.refl (w.heap.size + 2) V) (by omega) o)
    obtain ⟨hC, hC1⟩ := hsz _ C _ hT
    have hdf' : (V.putObj (w.heap.size + 2 + 1) o).heap[w.heap.size + 2]? = some (.deferred (some [])) := (World.putObj_heap_other (by omega)).trans hdf
    have hs2 : (V.putObj (w.heap.size + 2 + 1) o).heap.size = V.heap.size := by simp
    generalize V.putObj (w.heap.size + 2 + 1) o = V2 at *
    obtain ⟨hbel, A0, A1, -⟩ := hI2
    gi_wp2_with (first
      | (refine atLi 30 (.tmp 3) ?_; refine ldBw (by rfl) 30 1089 _ (by rfl) (w.heap.size + 1) 30 (by rfl) C hC A1 Try.underlying30 rfl size30N ?_)
      | (refine atSi 30 (.tmp 2) (.tmp 10) ?_; refine stBw (by rfl) 30 1089 _ _ (by rfl) w.heap.size 30 C zero30N (by rfl) (by rfl) hC hC1 hzs A0 size30N ?_))
    have U2 := A0.setRow C
    have hK : (V2.setRow w.heap.size C).heap[w.heap.size + 2]? = some (.deferred (some [])) := (setRow_other _ _ _ _ (by omega)).trans hdf'
    have hbz := bel_put (r := w.heap.size + 2) (below_setRow hbel (Nat.le_refl _) C) (by omega) (.deferred none)
    have hTz : T nl C ((V2.setRow w.heap.size C).putObj (w.heap.size + 2) (.deferred none)) := hst nl C V2 _ hT (hMB _ _ hM0 hbz) (by simp) (fun b h1 h2 => (World.putObj_heap_other (by omega)).trans (setRow_other _ _ _ _ (by omega)))
    refine ⟨by simp, .inl ⟨_, _, rfl, run_takeDeferred hK, ?_⟩⟩
    exact ⟨_, results_cell_row Try.results30 _ _ w.heap.size 30 C (0, 0) _ rfl (U2.putO _ (by omega)) Try.underlying30 rfl (by rw [hC]; exact size30N), C, rfl, hTz, hbz⟩
end Go.Proofs.Ytbhhbkoikocjgaa
/- Layer spec: the value that is told last. -/
namespace Go.Proofs.Ytbhhbkoikocjgaa
set_option linter.unusedSectionVars false
set_option maxHeartbeats 1000000
open Go.RowKit Go.Shelf
set_option maxRecDepth 100000
set_option linter.unusedVariables false
set_option linter.unusedSimpArgs false
variable [DecidableEq Ac] [DecidableEq Ou] [DecidableEq Mg]
attribute [local go_sem] Oper.semAt_some


/-- What stands while last ranges. -/
structure LI69 (w : World) (C : Array Value) (W : World) : Prop where
  bel : Below w.heap.size w W
  res : Arr W w.heap.size 69 zero69N
  fin : Arr W (w.heap.size + 1) 69 C
  sz : C.size = 1090
theorem LI69.below {w : World} {C : Array Value} {W W' : World} (h : LI69 w C W) (hb : Below (w.heap.size + 2) W W') : LI69 w C W' :=
  ⟨h.bel.trans (hb.mono (by omega)), h.res.below hb (by omega), h.fin.below hb (by omega), h.sz⟩
set_option maxHeartbeats 1000000 in
theorem last25_any (lb : Array Value) (nl : Nat) (w : World) (M : World → Prop) (T : Nat → Array Value → World → Prop) (hMB : ∀ W W', M W → Below w.heap.size W W' → M W') (hM0 : M w) (ht : Teller 44 lb (w.heap.size + 4) M T (fun _ _ => False) nl) (hst : Stays (w.heap.size + 4) M T) (hsz : ∀ j C W, T j C W → C.size = 1090 ∧ C.all (·.oneCell') = true) :
    Calls Try.prog 25 #[.func (Fn.func 44) #[] lb] w fun e w' => ∃ C, e = .returned (.agg C) ∧ T nl C w' ∧ Below w.heap.size w w' := by
  refine (callsIn_wide (n := 3)).1 ?_
  refine callsIn_of_wp_marks Try.func25 rfl trivial ?_ rfl
  simp only [Try.ntmps25, List.size_toArray, List.length_cons, List.length_nil, Nat.reduceAdd, Nat.reduceSub, Array.replicate_succ, Array.replicate_zero, List.push_toArray, List.append_toArray, List.nil_append, List.cons_append]
  have hz := zeroValue69N
  have hzs := zsize69
  have hI0 : LI69 w zero69N ((w.alloc (.cells zero69N 69)).alloc (.cells zero69N 69)) := by
    refine ⟨(alloc_bel' w _).alloc (by simp) _, (Arr.new w 69 _).alloc _, ?_, hzs⟩
    have h := Arr.new (w.alloc (.cells zero69N 69)) 69 zero69N
    simp only [World.size_alloc] at h
    exact h
  gi_wp2
  refine range_tell 44 lb (w.heap.size + 2) (by simp) rfl (enters_of Try.func44 (by kernel_rfl) rfl) nl M T (fun _ _ => False) ht hst (fun _ _ _ _ _ h => h.elim) (fun j C W => LI69 w C W) (fun _ _ => False) (fun j C W h => hMB _ _ hM0 h.bel) (fun j C W W' h hb => h.below hb) (fun c W r o h _ => h) zero69N hI0 ?round ?done (fun c W' o h => h.elim)
  case round =>
    intro j Cp C V hI hj hT hsV m
    clear hI0
    obtain ⟨hC, hC1⟩ := hsz j C V hT
    gi_wp2_with (refine atSi 69 (.tmp 5) (.tmp 8) ?_; refine stBnr (by rfl) 69 1090 _ _ (by rfl) V V.heap.size 69 rfl C (by rfl) (by rfl) hC hC1 hzs size69N ?_)
    refine ⟨alloc_bel' V _, fun w2 hb2 hk2 hs2 hI2 hT2 => ?_⟩
    have E2 : Arr w2 V.heap.size 69 C := (hk2 _ (by omega)).trans (Arr.new V 69 C)
    obtain ⟨hbel, A0, A1, hCp⟩ := hI2
    simp only [World.size_alloc] at hs2
    gi_wp2_with (first
      | (refine atLi 69 (.tmp 5) ?_; refine ldBr (by rfl) 69 1090 _ (by rfl) V.heap.size 69 (by rfl) C hC E2 Try.underlying69 rfl size69N ?_)
      | (refine atSi 69 (.tmp 3) (.tmp 9) ?_; refine stBr (by rfl) 69 1090 _ _ (by rfl) (w.heap.size + 1) 69 C Cp (by rfl) (by rfl) hC hC1 hCp A1 size69N ?_))
    exact ⟨⟨below_setRow hbel (by omega) _, A0.setRowOther _ (by omega), A1.setRow _, hC⟩, by simp, fun b h1 h2 _ => setRow_other _ _ _ _ (by omega)⟩
  case done =>
    intro C V o hI hT hsV hdf
    have hI2 := hI.below (bel_put (r := w.heap.size + 2 + 1) (Below.refl (w.heap.size + 2) V) (by omega) o)
    obtain ⟨hC, hC1⟩ := hsz _ C _ hT
    have hdf' : (V.putObj (w.heap.size + 2 + 1) o).heap[w.heap.size + 2]? = some (.deferred (some [])) := (World.putObj_heap_other (by omega)).trans hdf
    have hs2 : (V.putObj (w.heap.size + 2 + 1) o).heap.size = V.heap.size := by simp
    generalize V.putObj (w.heap.size + 2 + 1) o = V2 at *
    obtain ⟨hbel, A0, A1, -⟩ := hI2
    gi_wp2_with (first
      | (refine atLi 69 (.tmp 3) ?_; refine ldBw (by rfl) 69 1090 _ (by rfl) (w.heap.size + 1) 69 (by rfl) C hC A1 Try.underlying69 rfl size69N ?_)
      | (refine atSi 69 (.tmp 2) (.tmp 10) ?_; refine stBw (by rfl) 69 1090 _ _ (by rfl) w.heap.size 69 C zero69N (by rfl) (by rfl) hC hC1 hzs A0 size69N ?_))
    have U2 := A0.setRow C
    have hK : (V2.setRow w.heap.size C).heap[w.heap.size + 2]? = some (.deferred (some [])) := (setRow_other _ _ _ _ (by omega)).trans hdf'
    have hbz := bel_put (r := w.heap.size + 2) (below_setRow hbel (Nat.le_refl _) C) (by omega) (.deferred none)
    have hTz : T nl C ((V2.setRow w.heap.size C).putObj (w.heap.size + 2) (.deferred none)) := hst nl C V2 _ hT (hMB _ _ hM0 hbz) (by simp) (fun b h1 h2 => (World.putObj_heap_other (by omega)).trans (setRow_other _ _ _ _ (by omega)))
    refine ⟨by simp, .inl ⟨_, _, rfl, run_takeDeferred hK, ?_⟩⟩
    exact ⟨_, results_cell_row Try.results25 _ _ w.heap.size 69 C (0, 0) _ rfl (U2.putO _ (by omega)) Try.underlying69 rfl (by rw [hC]; exact size69N), C, rfl, hTz, hbz⟩
end Go.Proofs.Ytbhhbkoikocjgaa
/- Layer spec: the value that is told last. -/
namespace Go.Proofs.Ytbhhbkoikocjgaa
set_option linter.unusedSectionVars false
set_option maxHeartbeats 1000000
open Go.RowKit Go.Shelf
set_option maxRecDepth 100000
set_option linter.unusedVariables false
set_option linter.unusedSimpArgs false
variable [DecidableEq Ac] [DecidableEq Ou] [DecidableEq Mg]
attribute [local go_sem] Oper.semAt_some


/-- What stands while last ranges. -/
structure LI82 (w : World) (C : Array Value) (W : World) : Prop where
  bel : Below w.heap.size w W
  res : Arr W w.heap.size 82 zero82N
  fin : Arr W (w.heap.size + 1) 82 C
  sz : C.size = 1091
theorem LI82.below {w : World} {C : Array Value} {W W' : World} (h : LI82 w C W) (hb : Below (w.heap.size + 2) W W') : LI82 w C W' :=
  ⟨h.bel.trans (hb.mono (by omega)), h.res.below hb (by omega), h.fin.below hb (by omega), h.sz⟩
set_option maxHeartbeats 1000000 in
theorem last33_any (lb : Array Value) (nl : Nat) (w : World) (M : World → Prop) (T : Nat → Array Value → World → Prop) (hMB : ∀ W W', M W → Below w.heap.size W W' → M W') (hM0 : M w) (ht : Teller 50 lb (w.heap.size + 4) M T (fun _ _ => False) nl) (hst : Stays (w.heap.size + 4) M T) (hsz : ∀ j C W, T j C W → C.size = 1091 ∧ C.all (·.oneCell') = true) :
    Calls Try.prog 33 #[.func (Fn.func 50) #[] lb] w fun e w' => ∃ C, e = .returned (.agg C) ∧ T nl C w' ∧ Below w.heap.size w w' := by
  refine (callsIn_wide (n := 3)).1 ?_
  refine callsIn_of_wp_marks Try.func33 rfl trivial ?_ rfl
  simp only [Try.ntmps33, List.size_toArray, List.length_cons, List.length_nil, Nat.reduceAdd, Nat.reduceSub, Array.replicate_succ, Array.replicate_zero, List.push_toArray, List.append_toArray, List.nil_append, List.cons_append]
  have hz := zeroValue82N
  have hzs := zsize82
  have hI0 : LI82 w zero82N ((w.alloc (.cells zero82N 82)).alloc (.cells zero82N 82)) := by
    refine ⟨(alloc_bel' w _).alloc (by simp) _, (Arr.new w 82 _).alloc _, ?_, hzs⟩
    have h := Arr.new (w.alloc (.cells zero82N 82)) 82 zero82N
    simp only [World.size_alloc] at h
    exact h
  gi_wp2
  refine range_tell 50 lb (w.heap.size + 2) (by simp) rfl (enters_of Try.func50 (by kernel_rfl) rfl) nl M T (fun _ _ => False) ht hst (fun _ _ _ _ _ h => h.elim) (fun j C W => LI82 w C W) (fun _ _ => False) (fun j C W h => hMB _ _ hM0 h.bel) (fun j C W W' h hb => h.below hb) (fun c W r o h _ => h) zero82N hI0 ?round ?done (fun c W' o h => h.elim)
  case round =>
    intro j Cp C V hI hj hT hsV m
    clear hI0
    obtain ⟨hC, hC1⟩ := hsz j C V hT
    gi_wp2_with (refine atSi 82 (.tmp 5) (.tmp 8) ?_; refine stBnr (by rfl) 82 1091 _ _ (by rfl) V V.heap.size 82 rfl C (by rfl) (by rfl) hC hC1 hzs size82N ?_)
    refine ⟨alloc_bel' V _, fun w2 hb2 hk2 hs2 hI2 hT2 => ?_⟩
    have E2 : Arr w2 V.heap.size 82 C := (hk2 _ (by omega)).trans (Arr.new V 82 C)
    obtain ⟨hbel, A0, A1, hCp⟩ := hI2
    simp only [World.size_alloc] at hs2
    gi_wp2_with (first
      | (refine atLi 82 (.tmp 5) ?_; refine ldBr (by rfl) 82 1091 _ (by rfl) V.heap.size 82 (by rfl) C hC E2 Try.underlying82 rfl size82N ?_)
      | (refine atSi 82 (.tmp 3) (.tmp 9) ?_; refine stBr (by rfl) 82 1091 _ _ (by rfl) (w.heap.size + 1) 82 C Cp (by rfl) (by rfl) hC hC1 hCp A1 size82N ?_))
    exact ⟨⟨below_setRow hbel (by omega) _, A0.setRowOther _ (by omega), A1.setRow _, hC⟩, by simp, fun b h1 h2 _ => setRow_other _ _ _ _ (by omega)⟩
  case done =>
    intro C V o hI hT hsV hdf
    have hI2 := hI.below (bel_put (r := w.heap.size + 2 + 1) (Below.refl (w.heap.size + 2) V) (by omega) o)
    obtain ⟨hC, hC1⟩ := hsz _ C _ hT
    have hdf' : (V.putObj (w.heap.size + 2 + 1) o).heap[w.heap.size + 2]? = some (.deferred (some [])) := (World.putObj_heap_other (by omega)).trans hdf
    have hs2 : (V.putObj (w.heap.size + 2 + 1) o).heap.size = V.heap.size := by simp
    generalize V.putObj (w.heap.size + 2 + 1) o = V2 at *
    obtain ⟨hbel, A0, A1, -⟩ := hI2
    gi_wp2_with (first
      | (refine atLi 82 (.tmp 3) ?_; refine ldBw (by rfl) 82 1091 _ (by rfl) (w.heap.size + 1) 82 (by rfl) C hC A1 Try.underlying82 rfl size82N ?_)
      | (refine atSi 82 (.tmp 2) (.tmp 10) ?_; refine stBw (by rfl) 82 1091 _ _ (by rfl) w.heap.size 82 C zero82N (by rfl) (by rfl) hC hC1 hzs A0 size82N ?_))
    have U2 := A0.setRow C
    have hK : (V2.setRow w.heap.size C).heap[w.heap.size + 2]? = some (.deferred (some [])) := (setRow_other _ _ _ _ (by omega)).trans hdf'
    have hbz := bel_put (r := w.heap.size + 2) (below_setRow hbel (Nat.le_refl _) C) (by omega) (.deferred none)
    have hTz : T nl C ((V2.setRow w.heap.size C).putObj (w.heap.size + 2) (.deferred none)) := hst nl C V2 _ hT (hMB _ _ hM0 hbz) (by simp) (fun b h1 h2 => (World.putObj_heap_other (by omega)).trans (setRow_other _ _ _ _ (by omega)))
    refine ⟨by simp, .inl ⟨_, _, rfl, run_takeDeferred hK, ?_⟩⟩
    exact ⟨_, results_cell_row Try.results33 _ _ w.heap.size 82 C (0, 0) _ rfl (U2.putO _ (by omega)) Try.underlying82 rfl (by rw [hC]; exact size82N), C, rfl, hTz, hbz⟩
end Go.Proofs.Ytbhhbkoikocjgaa
