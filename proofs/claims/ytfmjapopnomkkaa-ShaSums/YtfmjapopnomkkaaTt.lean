import Derived.Test.YtfmjapopnomkkaaTl
namespace Go.Proofs.Ytfmjapopnomkkaa
open Go.RowKit

set_option maxHeartbeats 400000 in
theorem copy_any (sp : Option Addr) (n cap : Nat) (L : List Int) (w : World) (hn : Hid (n = L.length)) (hnil : sp = none → n = 0 ∧ cap = 0) (hS : SlL w sp L) (hb : n ≤ 140737488355328) :
    Calls Try.prog 25 #[.slice sp n cap] w fun e w' => ∃ v, e = .returned v ∧ w'.ownsRow w.heap.size 5 1 v n (by8 L) ∧ Below w.heap.size w w' := by
  have hlit : (w.alloc (.cells #[] 5)).ownsRow w.heap.size 5 1 (.slice (some ⟨w.heap.size, 0, none⟩) 0 0) 0 (by8 []) := World.ownsRow_lit _ _ _ (Nat.le_refl _) (by unfold maxLen; omega) rfl
  go_enter Try.func25, Try.ntmps25
  go_wp2_with (at_builtin; go_must (refine append_bytes (by rfl) (.tmp 3) (.tmp 4) (by rfl) w.heap.size _ 0 [] (by rfl) hlit sp n cap L (by rfl) hn.out hnil (Sl.alloc hS _) (by omega) (by simp) ?_; intro v1 w1 hown1 hg1))
  go_ret
  refine ⟨v1, rfl, ?_, ((Below.refl _ _).alloc (Nat.le_refl _) _).grown hg1 (by simp) (fun k e => by simp [Value.ownBlock] at e; omega)⟩
  simpa using hown1

theorem conv_bytes (sp : Option Addr) (n cap : Nat) (L : List Int) (w : World) (hn : n = L.length) (hnil : sp = none → n = 0 ∧ cap = 0) (hS : SlL w sp L) :
    (convert 22 9 (.slice sp n cap)).run Try.prog w = .ok (.string (strOfNums L)) w := by
  subst hn
  cases sp with
  | none =>
    obtain ⟨h1, rfl⟩ := hnil rfl
    obtain rfl : L = [] := List.eq_nil_of_length_eq_zero h1
    exact run_convert_bytes_nil w 22 5 Try.underlying22 Try.underlying5 0 0 9 Try.underlying9
  | some ad =>
    by_cases h0 : 0 < L.length
    · obtain ⟨b, off, e, hB⟩ := hS h0
      obtain rfl := Option.some.inj e
      exact run_convert_bytes_arg w 22 5 Try.underlying22 Try.underlying5 b off L.length cap L rfl hB 9 Try.underlying9
    · obtain rfl : L = [] := List.eq_nil_of_length_eq_zero (by omega)
      rw [run_convert_bytes_string w 22 9 5 _ _ cap Try.underlying22 Try.underlying5 Try.underlying9]
      have hl : (loadCells ad 0).run Try.prog w = .ok ((([] : List Int).map (Value.int .u8)).toArray) w := by simp [loadCells, loadCellsFrom]
      have := run_bytesToString w ad 0 cap [] hl
      exact this

set_option maxHeartbeats 400000 in
theorem same_true (sp sp' : Option Addr) (n cap cap' : Nat) (L : List Int) (w : World) (hn : Hid (n = L.length)) (hnil : sp = none → n = 0 ∧ cap = 0) (hS : SlL w sp L) (hnil' : sp' = none → n = 0 ∧ cap' = 0) (hS' : SlL w sp' L) :
    Calls Try.prog 26 #[.slice sp n cap, .slice sp' n cap'] w fun e w' => e = .returned (.bool true) ∧ w' = w := by
  have c1 := conv_bytes sp n cap L w hn.out hnil hS
  have c2 := conv_bytes sp' n cap' L w hn.out hnil' hS'
  go_enter Try.func26, Try.ntmps26
  go_wp2
  go_ret
  exact ⟨rfl, rfl⟩
end Go.Proofs.Ytfmjapopnomkkaa
