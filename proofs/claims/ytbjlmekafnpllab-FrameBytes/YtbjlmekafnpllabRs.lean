/- Layer rlp: Decode. -/
import Derived.Test.YtbjlmekafnpllabRr
namespace Go.Proofs.Ytbjlmekafnpllab
open Go.RowKit
set_option linter.unusedVariables false
set_option linter.unusedSimpArgs false

theorem res_item2 {fn : Func} {t u : Tmp} (h : fn.results = #[.cell t 59, .tmp u]) {w : World} {tmps : Array Value} {g : Nat} {a b c v : Value} (hp : tmps.getD t undef = .pointer (some ⟨g, 0, none⟩)) (he : tmps.getD u undef = v) (hA : Arr w g 59 #[a, b, c]) :
    (results fn tmps).run Try.prog w = .ok (.tuple #[.agg #[a, b, c], v]) w := by
  have c0 := hA.cell 0
  have c1 := hA.cell 1
  have c2 := hA.cell 2
  simp at c0 c1 c2
  have hp' : tmps[t]?.getD undef = .pointer (some ⟨g, 0, none⟩) := by simpa using hp
  have he' : tmps[u]?.getD undef = v := by simpa using he
  simp [results, h, go_sem, hp', he', c0, c1, c2]

set_option maxRecDepth 100000 in
set_option maxHeartbeats 1000000 in
theorem decode_any (N : Nat) (sp : Option Addr) (n cap : Nat) (L : List Int) (w : World) (hS : BS N w sp n cap L) : Calls Try.prog 28 #[.slice sp n cap] w (DecPost L w) := by
  have hS := hS.here
  have hmf : ∀ (fn : Fn) (first cap : Array Value) (w : World), (Instr.makeFunc fn first cap).run Try.prog w = .ok (.func fn first cap) w := fun _ _ _ _ => rfl
  have hln := hS.len
  have hA0 := (Arr.new w 23 #[.slice sp n cap]).alloc (.cells #[.bool false, .slice none 0 0, .slice none 0 0] 59)
  have hA1 := Arr.new (w.alloc (.cells #[.slice sp n cap] 23)) 59 #[.bool false, .slice none 0 0, .slice none 0 0]
  simp at hA1
  have hB0 : Below w.heap.size w ((w.alloc (.cells #[.slice sp n cap] 23)).alloc (.cells #[.bool false, .slice none 0 0, .slice none 0 0] 59)) := ((Below.refl _ _).alloc (Nat.le_refl _) _).alloc (by simp) _
  by_cases h : 65536 < n
  · have hI : (65536 : Int) < n := by omega
    have E := Hid.mk' (show whole L = 4 by rw [whole, if_pos (by rw [← hln.out]; exact h)])
    go_enter Try.func28, Try.ntmps28
    go_wp2_with (refine wpList_store_arr (by rfl) 59 (.tmp 2) (.tmp 7) (by rfl) (w.heap.size + 1) #[.bool false, .slice none 0 0, .slice none 0 0] (by rfl) (by rfl) 59 _ hA1 size25 rfl (one3 _ _ _ _ _ _ _) ?_)
    exact bodyPost_ret (v := .tuple #[.agg #[.bool false, .slice none 0 0, .slice none 0 0], .int .i64 4]) (res_item2 Try.results28 rfl rfl (hA1.setRow _)) rfl ⟨below_row hB0 (by omega) _, .inr ⟨by rw [E.out]; decide, by rw [E.out]⟩⟩
  · have hI : ¬ (65536 : Int) < n := by omega
    have hS1 := hS.below hB0
    go_enter Try.func28, Try.ntmps28
    go_wp2_with (first
      | (go_at_call 47; go_must (refine (guarded32 w.heap.size w.heap.size sp n cap L _ hA0 hS1 (by simp; omega) (by omega)).mono ?_; rintro e w2 ⟨hb2, hres⟩; have Z2 := hA1.below hb2 (by simp); have hbw : Below w.heap.size w w2 := hB0.trans (hb2.mono (by simp; omega)); rcases hres with ⟨h0, v2, rfl, hD2⟩ | ⟨hno, rfl⟩; have h0 := Hid.mk' h0; have hD2 := Hid.mk' hD2; obtain ⟨l, s1, n1, c1, s2, n2, c2, e2⟩ := hD2.out.sh; subst e2))
      | (refine wpList_store_arr (by rfl) 59 (.tmp 2) (.tmp 10) (by rfl) (w.heap.size + 1) #[.bool l, .slice s1 n1 c1, .slice s2 n2 c2] (by rfl) (by rfl) 59 _ Z2 size25 rfl (one3 _ _ _ _ _ _ _) ?_)
      | (refine wpList_store_arr (by rfl) 59 (.tmp 2) (.tmp 10) (by rfl) (w.heap.size + 1) #[.bool false, .slice none 0 0, .slice none 0 0] (by rfl) (by rfl) 59 _ Z2 size25 rfl (one3 _ _ _ _ _ _ _) ?_))
    · refine bodyPost_ret (v := .tuple #[.agg #[.bool l, .slice s1 n1 c1, .slice s2 n2 c2], .int .i64 0]) (res_item2 Try.results28 rfl rfl (Z2.setRow _)) rfl ⟨below_row hbw (by omega) _, .inl ⟨h0.out, _, rfl, ?_⟩⟩
      have h1 := hD2.out.mono (T := fun b => w.heap.size + 1 < b) (fun b hb h => by simp at h; omega)
      have h2 := h1.agree (w' := w2.setRow (w.heap.size + 1) #[.bool l, .slice s1 n1 c1, .slice s2 n2 c2]) ⟨by simp, fun b hb h => by rw [setRow_other _ _ _ _ (by omega)]⟩
      exact h2.mono fun b _ h => by omega
    · exact bodyPost_ret (v := .tuple #[.agg #[.bool false, .slice none 0 0, .slice none 0 0], .int .i64 (whole L)]) (res_item2 Try.results28 rfl rfl (Z2.setRow _)) rfl ⟨below_row hbw (by omega) _, .inr ⟨hno, rfl⟩⟩
end Go.Proofs.Ytbjlmekafnpllab
