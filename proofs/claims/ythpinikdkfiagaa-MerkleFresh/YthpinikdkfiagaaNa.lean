/- Layer merkle: Empty. -/
import Derived.Test.YthpinikdkfiagaaMz
namespace Go.Proofs.Ythpinikdkfiagaa
open Go.RowKit Go.Shelf
set_option linter.unusedVariables false
set_option linter.unusedSimpArgs false
attribute [local go_sem] Oper.semAt_some

/-- Empty's variables, when k roots were told. -/
structure EI (d : Nat) (w : World) (k : Nat) (W : World) : Prop where
  bel : Below w.heap.size w W
  a0 : Arr W w.heap.size 24 (h8 Z32)
  a1 : Arr W (w.heap.size + 1) 24 (h8 (tr (k - 1) []))
  a2 : Arr W (w.heap.size + 1 + 1) 3 #[.int .i64 (d + 1 : Nat)]
theorem EI.below {d : Nat} {w : World} {k : Nat} {W W' : World} (h : EI d w k W) (hb : Below (w.heap.size + 3) W W') : EI d w k W' :=
  ⟨h.bel.trans (hb.mono (by omega)), h.a0.below hb (by omega), h.a1.below hb (by omega), h.a2.below hb (by omega)⟩
theorem resP' {f : Func} {w : World} {tmps : Array Value} {g t k : Nat} {X : List Int} {v : Value} (hf : f.results = #[.cell t 24, .tmp k]) (hp : tmps.getD t undef = .pointer (some ⟨g, 0, none⟩)) (hk : tmps.getD k undef = v) (hX : X.length = 32) (hA : Arr w g 24 (h8 X)) :
    (results f tmps).run Try.prog w = .ok (.tuple #[.agg (h8 X), v]) w := resP hf hp hk hX hA
set_option maxRecDepth 100000 in
set_option maxHeartbeats 1000000 in
theorem empty_ok (d : Nat) (w : World) (hd : d ≤ 16) :
    Calls Try.prog 9 #[.int .i64 d] w fun e w' => e = .returned (.tuple #[.agg (h8 (tr d [])), .int .i64 0]) ∧ Below w.heap.size w w' := by
  have hmd : ∀ w, Calls Try.prog 21 #[.int .i64 d] w fun e w' => e = .returned (.bool true) ∧ w' = w := fun w => by have h := mayDepth_any d w; rwa [decide_eq_true (by omega)] at h
  have hem : ∀ w, Calls Try.prog 27 #[.int .i64 ((d : Int) + 1)] w fun e w' => e = .returned (.func (Fn.func 38) #[] #[.pointer (some ⟨w.heap.size, 0, none⟩)]) ∧ w' = w.alloc (.cells #[.int .i64 (d + 1 : Nat)] 3) := fun w => empties_any ((d : Int) + 1) w
  refine (callsIn_wide (n := 3)).1 ?_
  refine callsIn_of_wp_marks Try.func9 rfl trivial ?_ rfl
  simp only [Try.ntmps9, List.size_toArray, List.length_cons, List.length_nil, Nat.reduceAdd, Nat.reduceSub, Array.replicate_succ, Array.replicate_zero, List.push_toArray, List.append_toArray, List.nil_append, List.cons_append]
  gi_wp2_with (first
    | (refine ⟨trivial, ?_⟩; gi_at_call 21; go_must (refine (callsIn_wide.2 (hmd _)).mono ?_; rintro e w1 ⟨rfl, rfl⟩))
    | (refine ⟨trivial, ?_⟩; gi_at_call 27; go_must (refine (callsIn_wide.2 (hem _)).mono ?_; rintro e w1 ⟨rfl, rfl⟩)))
  rw [← h8_Z]
  have hI0 : EI d w 0 (((w.alloc (.cells (h8 Z32) 24)).alloc (.cells (h8 Z32) 24)).alloc (.cells #[.int .i64 (d + 1 : Nat)] 3)) := by
    refine ⟨((alloc_bel' w _).alloc (by simp) _).alloc (by simp; omega) _, ((Arr.new w 24 _).alloc _).alloc _, ?_, ?_⟩
    · have h := Arr.new (w.alloc (.cells (h8 Z32) 24)) 24 (h8 Z32)
      simp only [World.size_alloc] at h
      exact h.alloc _
    · have h := Arr.new ((w.alloc (.cells (h8 Z32) 24)).alloc (.cells (h8 Z32) 24)) 3 #[.int .i64 (d + 1 : Nat)]
      simp only [World.size_alloc] at h
      exact h
  refine range_emp (w.heap.size + 1 + 1) (d + 1) (w.heap.size + 3) (by simp) (by omega) rfl (by omega) (EI d w) (fun j W W' h hb => h.below hb) (fun j W h => by simpa using h.a2.cell 0) hI0 ?round ?done
  case round =>
    intro j V hI hj hsz m
    clear hI0
    have hl := tr_len j [] (fun x h => by cases h)
    have hl' := tr_len (j - 1) [] (fun x h => by cases h)
    gi_wp2_with (refine si24n (by rfl) _ _ (by rfl) V V.heap.size rfl (by rfl) (tr j []) (by rfl) (by rfl) hl ?_)
    refine ⟨alloc_bel' V _, fun w2 hb2 hk2 hs2 => ?_⟩
    have E2 : Arr w2 V.heap.size 24 (h8 (tr j [])) := (hk2 _ (by omega)).trans (Arr.new V 24 (h8 (tr j [])))
    have hbV : Below (w.heap.size + 3) V w2 := (alloc_bel' V _).mono (by omega) |>.trans (hb2.mono (by omega))
    have hI2 := hI.below hbV
    simp only [World.size_alloc] at hs2
    obtain ⟨hbel, T0, T1, T2⟩ := hI2
    gi_wp2_with (first
      | (refine li24 (by rfl) _ (by rfl) V.heap.size 0 (by rfl) (tr j []) hl E2.range ?_)
      | (refine si24 (by rfl) _ _ (by rfl) (w.heap.size + 1) (tr j []) (tr (j - 1) []) (by rfl) (by rfl) hl hl' T1 ?_))
    refine ⟨⟨below_setRow hbel (by omega) _, T0.setRowOther _ (by omega), ?_, T2.setRowOther _ (by omega)⟩, by simp, fun b h1 h2 => setRow_other _ _ _ _ (by omega)⟩
    exact T1.setRow _
  case done =>
    intro V o hI hsz hdf
    obtain ⟨hbel, T0, T1, T2⟩ := hI.below (below_put (r := w.heap.size + 3 + 1) (Below.refl (w.heap.size + 3) V) (by omega) o)
    rw [Nat.add_sub_cancel] at T1
    have hr32 := tr_len d [] (fun x h => by cases h)
    have hdf' : (V.putObj (w.heap.size + 3 + 1) o).heap[w.heap.size + 3]? = some (.deferred (some [])) := (World.putObj_heap_other (by omega)).trans hdf
    generalize V.putObj (w.heap.size + 3 + 1) o = V2 at *
    obtain ⟨r, hre⟩ : ∃ r, r = tr d [] := ⟨_, rfl⟩
    rw [← hre] at T1 hr32
    replace hre := Hid.mk' hre
    gi_wp2_with (first
      | (refine li24w (by rfl) _ (by rfl) (w.heap.size + 1) 0 (by rfl) r hr32 T1.range ?_)
      | (refine si24w (by rfl) _ _ (by rfl) w.heap.size r Z32 (by rfl) (by rfl) hr32 Z32_len T0 ?_))
    have U2 := T0.setRow (h8 r)
    have hK : (V2.setRow w.heap.size (h8 r)).heap[w.heap.size + 3]? = some (.deferred (some [])) := (setRow_other _ _ _ _ (by omega)).trans hdf'
    refine ⟨by simp, .inl ⟨_, _, rfl, run_takeDeferred hK, ?_⟩⟩
    exact ⟨_, resP Try.results9 rfl rfl hr32 (U2.put _ (by omega)), by rw [hre.out]; rfl, below_put (below_setRow hbel (by omega) _) (by omega) _⟩
set_option maxRecDepth 100000 in
set_option maxHeartbeats 1000000 in
theorem empty_any (d : Int) (w : World) : Calls Try.prog 9 #[.int .i64 d] w fun e w' => e = .returned (.tuple #[.agg (h8 (rR d [])), .int .i64 (rE d 0)]) ∧ Below w.heap.size w w' := by
  by_cases h1 : 0 ≤ d ∧ d ≤ 16
  · have e1 : rE d 0 = 0 := by rw [rE_zero, if_pos h1]
    have e2 : rR d [] = tr d.toNat [] := by unfold rR; rw [if_pos (by simpa using e1)]
    have h := empty_ok d.toNat w (by omega)
    rw [e1, e2]
    rwa [Int.toNat_of_nonneg h1.1] at h
  · have e1 : rE d 0 = 2 := by rw [rE_zero, if_neg h1]
    have e2 : rR d [] = Z32 := by unfold rR; rw [if_neg (by simp [e1])]
    rw [e1, e2]
    have hmd := mayDepth_any d
    rw [decide_eq_false h1] at hmd
    go_enter Try.func9, Try.ntmps9
    go_wp2_with (first
      | (go_at_call 21; go_must (refine (hmd _).mono ?_; rintro e w1 ⟨rfl, rfl⟩))
      | (refine st24n (by rfl) _ _ (by rfl) w w.heap.size rfl (by rfl) Z32 (by rfl) (by rfl) Z32_len ?_))
    exact bodyPost_ret (v := .tuple #[.agg (h8 Z32), .int .i64 2]) (resP Try.results9 rfl rfl Z32_len (Arr.new w 24 _)) rfl ⟨rfl, alloc_bel' w _⟩
end Go.Proofs.Ythpinikdkfiagaa
