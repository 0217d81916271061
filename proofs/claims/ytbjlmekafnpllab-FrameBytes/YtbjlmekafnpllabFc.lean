/- Layer frame: may; what the map's reader asks; the same frame. -/
import Derived.Test.YtbjlmekafnpllabFb
import Derived.Test.YtbjlmekafnpllabTb
namespace Go.Proofs.Ytbjlmekafnpllab
open Go.RowKit
set_option linter.unusedVariables false
set_option linter.unusedSimpArgs false

theorem may_eq {c s : Int} {l : Bool} {sp : Option Addr} {n cap : Nat} {bs : List Int} {b : Bool} (h : b = (decide (0 ≤ s) && decide (s < 1024) && decide (n ≤ 4096))) : (Fr.mk c s l sp n cap bs).may = b := h.symm

set_option maxHeartbeats 400000 in
theorem may_any (f : Fr) (w : World) (hn : f.n ≤ 140737488355328) :
    Calls Try.prog 23 #[f.val] w fun e w' => e = .returned (.bool f.may) ∧ Below w.heap.size w w' := by
  obtain ⟨c, s, l, sp, n, cap, bs⟩ := f
  simp only [Fr.val] at hn ⊢
  by_cases h1 : 0 ≤ s
  · by_cases h2 : s < 1024
    · by_cases h3 : (n : Int) ≤ 4096
      · go_enter Try.func23, Try.ntmps23
        go_wp2
        go_ret
        exact ⟨by rw [may_eq (b := true) (by simp [h1, h2]; omega)]; rfl, alloc_bel' w _⟩
      · go_enter Try.func23, Try.ntmps23
        go_wp2
        go_ret
        exact ⟨by rw [may_eq (b := false) (by rw [show decide (n ≤ 4096) = false by simp; omega]; simp)]; rfl, alloc_bel' w _⟩
    · go_enter Try.func23, Try.ntmps23
      go_wp2
      go_ret
      exact ⟨by rw [may_eq (b := false) (by rw [show decide (s < 1024) = false by simp; omega]; simp)]; rfl, alloc_bel' w _⟩
  · go_enter Try.func23, Try.ntmps23
    go_wp2
    go_ret
    exact ⟨by rw [may_eq (b := false) (by rw [show decide (0 ≤ s) = false by simp; omega]; simp)]; rfl, alloc_bel' w _⟩
set_option maxHeartbeats 400000 in
theorem refMayF_any (f : Fr) (w : World) (hn : f.n ≤ 140737488355328) :
    Calls Try.prog 20 #[f.val] w fun e w' => e = .returned (.bool f.may) ∧ Below w.heap.size w w' := by
  obtain ⟨c, s, l, sp, n, cap, bs⟩ := f
  simp only [Fr.val] at hn ⊢
  by_cases h1 : 0 ≤ s
  · by_cases h2 : s < 1024
    · by_cases h3 : (n : Int) ≤ 4096
      · go_enter Try.func20, Try.ntmps20
        go_wp2
        go_ret
        exact ⟨by rw [may_eq (b := true) (by simp [h1, h2]; omega)]; rfl, alloc_bel' w _⟩
      · go_enter Try.func20, Try.ntmps20
        go_wp2
        go_ret
        exact ⟨by rw [may_eq (b := false) (by rw [show decide (n ≤ 4096) = false by simp; omega]; simp)]; rfl, alloc_bel' w _⟩
    · go_enter Try.func20, Try.ntmps20
      go_wp2
      go_ret
      exact ⟨by rw [may_eq (b := false) (by rw [show decide (s < 1024) = false by simp; omega]; simp)]; rfl, alloc_bel' w _⟩
  · go_enter Try.func20, Try.ntmps20
    go_wp2
    go_ret
    exact ⟨by rw [may_eq (b := false) (by rw [show decide (0 ≤ s) = false by simp; omega]; simp)]; rfl, alloc_bel' w _⟩

/-- A value that is a frame's. -/
theorem size25F : (Try.prog.info? 25).map (·.size) = some 4 := by kernel_rfl
theorem one4 (c s : Int) (l : Bool) (sp : Option Addr) (n cap : Nat) : (#[Value.int .u64 c, .int .i64 s, .bool l, .slice sp n cap] : Array Value).all (·.oneCell') = true := by simp [Value.oneCell']

set_option maxRecDepth 100000 in
set_option maxHeartbeats 1000000 in
/-- Whether a frame counts: the map m has those that were found. -/
theorem keep_any (f : Fr) (c : Int) (m : Int → Option Fr) (r g h : Nat) (w : World) (hn : f.n ≤ 140737488355328) (hM : MapAt w r (fun k => (m k).map Fr.val)) (hg : Arr w g 72 #[.map (some r)]) (hc : Arr w h 22 #[.int .u64 c]) :
    Calls Try.prog 32 #[f.val, .pointer (some ⟨g, 0, none⟩), .pointer (some ⟨h, 0, none⟩)] w fun e w' => e = .returned (.bool (f.ch == c && f.may && (m f.seq).isNone)) ∧ Below w.heap.size w w' := by
  have hmay : ∀ w, Calls Try.prog 23 #[f.val] w fun e w' => e = .returned (.bool f.may) ∧ Below w.heap.size w w' := fun w => may_any f w hn
  obtain ⟨q, hq⟩ : ∃ q, q = f.may := ⟨_, rfl⟩
  rw [← hq] at hmay ⊢
  clear hq
  obtain ⟨ch, s, l, sp, n, cap, bs⟩ := f
  simp only [Fr.val] at hn hmay ⊢
  have hA1 := hg.alloc (.cells #[.int .u64 ch, .int .i64 s, .bool l, .slice sp n cap] 25)
  have c1 := hA1.cell 0
  have hC1 := hc.alloc (.cells #[.int .u64 ch, .int .i64 s, .bool l, .slice sp n cap] 25)
  have hl := run_lookup (hM.same (Below.heap_alloc w (.cells #[.int .u64 ch, .int .i64 s, .bool l, .slice sp n cap] 25) r hM.lt)) s
  obtain ⟨c2, s2, l2, sp2, n2, cap2, e2⟩ : ∃ c2 s2 l2 sp2 n2 cap2, ((m s).map Fr.val).getD zeroF = .agg #[.int .u64 c2, .int .i64 s2, .bool l2, .slice sp2 n2 cap2] := by
    cases m s with
    | none => exact ⟨_, _, _, _, _, _, rfl⟩
    | some f2 => exact ⟨_, _, _, _, _, _, rfl⟩
  rw [e2] at hl
  have e3 : ((m s).map Fr.val).isSome = (m s).isSome := by cases m s <;> rfl
  rw [e3] at hl
  obtain ⟨b, hb⟩ : ∃ b, b = (m s).isSome := ⟨_, rfl⟩
  rw [← hb] at hl
  have e4 : (m s).isNone = !b := by rw [hb]; cases m s <;> rfl
  rw [e4]
  clear hb e2 e3 e4 hM
  have hC2 := (hC1.alloc (.cells #[.int .u64 c2, .int .i64 s2, .bool l2, .slice sp2 n2 cap2] 25)).cell 0
  have hB2 : Below w.heap.size w ((w.alloc (.cells #[.int .u64 ch, .int .i64 s, .bool l, .slice sp n cap] 25)).alloc (.cells #[.int .u64 c2, .int .i64 s2, .bool l2, .slice sp2 n2 cap2] 25)) := (alloc_bel' w _).alloc (by simp) _
  simp at c1 hC2
  by_cases hcc : ch = c
  · subst hcc
    cases q with
    | true =>
      go_enter Try.func32, Try.ntmps32
      go_wp2_with (go_at_call 23; go_must (refine (hmay _).mono ?_; rintro e w2 ⟨rfl, hb2⟩))
      go_ret
      exact ⟨by simp, hB2.trans (hb2.mono (by simp; omega))⟩
    | false =>
      go_enter Try.func32, Try.ntmps32
      go_wp2_with (go_at_call 23; go_must (refine (hmay _).mono ?_; rintro e w2 ⟨rfl, hb2⟩))
      go_ret
      exact ⟨by simp, hB2.trans (hb2.mono (by simp; omega))⟩
  · have hcb : (ch == c) = false := by simpa using hcc
    go_enter Try.func32, Try.ntmps32
    go_wp2_with (go_at_call 23; go_must (refine (hmay _).mono ?_; rintro e w2 ⟨rfl, hb2⟩))
    go_ret
    exact ⟨by simp [hcb], hB2⟩
end Go.Proofs.Ytbjlmekafnpllab
