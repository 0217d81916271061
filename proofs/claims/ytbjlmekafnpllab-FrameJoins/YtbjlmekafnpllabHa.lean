/- Layer frame, the document's answer: the same frames. -/
import Derived.Test.YtbjlmekafnpllabGb
namespace Go.Proofs.Ytbjlmekafnpllab
open Go.RowKit
set_option linter.unusedVariables false
set_option linter.unusedSimpArgs false

set_option maxRecDepth 100000 in
set_option maxHeartbeats 1000000 in
theorem one_same (c s : Int) (l : Bool) (sp sp' : Option Addr) (n n' cap cap' : Nat) (bs : List Int) (N N' : Nat) (w : World) (h : BS N w sp n cap bs) (h' : BS N' w sp' n' cap' bs) :
    Calls Try.prog 13 #[.agg #[.int .u64 c, .int .i64 s, .bool l, .slice sp n cap], .agg #[.int .u64 c, .int .i64 s, .bool l, .slice sp' n' cap']] w fun e w' => e = .returned (.bool true) ∧ Below w.heap.size w w' := by
  have hb : Below w.heap.size w ((w.alloc (.cells #[.int .u64 c, .int .i64 s, .bool l, .slice sp n cap] 25)).alloc (.cells #[.int .u64 c, .int .i64 s, .bool l, .slice sp' n' cap'] 25)) := (alloc_bel' w _).alloc (by simp) _
  have b1 := h.here.below hb
  have b2 := h'.here.below hb
  have hcc : (c == c) = true := by simp
  have hss : (s == s) = true := by simp
  have hll : (l == l) = true := by simp
  go_enter Try.func13, Try.ntmps13
  go_wp2_with (go_at_call 12; go_must (refine (same01_any sp sp' n n' cap cap' bs bs _ _ _ b1 b2).mono ?_; rintro e w2 ⟨rfl, rfl⟩))
  go_ret
  exact ⟨by simp, hb⟩
theorem bs_heap {N : Nat} {w u : World} {sp : Option Addr} {n cap : Nat} {L : List Int} (h : BS N w sp n cap L) (hu : u.heap = w.heap) : BS N u sp n cap L :=
  ⟨h.len, h.nil, h.le, h.big, h.small, fun h0 => by
    obtain ⟨b, off, e, hb, hy⟩ := h.at0 h0
    refine ⟨b, off, e, hb, fun t ht => ?_⟩
    rw [World.cell?_of_block (w := w) (by rw [hu])]
    exact hy t ht, h.bts⟩
theorem ck_eq {f g : Fr} (h : f.ck = g.ck) : g = ⟨f.ch, f.seq, f.last, g.sp, g.n, g.cap, f.bs⟩ := by
  obtain ⟨c, s, l, sp, n, cap, bs⟩ := g
  simp only [Fr.ck, Prod.mk.injEq] at h
  obtain ⟨h1, h2, h3, h4⟩ := h
  simp [h1, h2, h3, h4]

set_option maxRecDepth 100000 in
set_option maxHeartbeats 1000000 in
theorem sameF_any (sp sp' : Option Addr) (n cap cap' : Nat) (fs gs : List Fr) (N N' : Nat) (w : World) (h : FrS N w sp n cap fs) (h' : FrS N' w sp' n cap' gs) (hN : N ≤ w.heap.size) (hN' : N' ≤ w.heap.size) (he : fs.map Fr.ck = gs.map Fr.ck) :
    Calls Try.prog 19 #[.slice sp n cap, .slice sp' n cap'] w fun e w' => e = .returned (.bool true) ∧ Below w.heap.size w w' := by
  have hnn : ((n : Int) != n) = false := by simp
  have hsm := h.small
  have hl := h.len
  have hl' := h'.len
  replace he := Hid.mk' he
  go_enter Try.func19, Try.ntmps19
  go_wp2
  go_loopw [5] (fun i wr => ∃ j : Nat, i = .int .i64 (j : Int) ∧ j ≤ n ∧ Below w.heap.size w wr) (fun i _ => n - (intOf i).toNat)
  case atStart => exact ⟨0, rfl, by omega, Below.refl _ _⟩
  case round =>
    obtain ⟨j, rfl, hj, hbl⟩ := hrel
    by_cases hlt : j < n
    · have hI : (j : Int) < n := by omega
      have h1 := h.below (hbl.mono hN)
      have h1' := h'.below (hbl.mono hN')
      obtain ⟨g, off, rfl, hgN, hc⟩ := h1.at0 (by omega)
      obtain ⟨g', off', rfl, hgN', hc'⟩ := h1'.at0 (by omega)
      obtain ⟨f, hf⟩ : ∃ f, fs[j]? = some f := ⟨fs[j]'(by rw [← hl.out]; exact hlt), List.getElem?_eq_getElem _⟩
      obtain ⟨f', hf'⟩ : ∃ f, gs[j]? = some f := ⟨gs[j]'(by rw [← hl'.out]; exact hlt), List.getElem?_eq_getElem _⟩
      have hck : f.ck = f'.ck := by
        have := congrArg (·[j]?) he.out
        simp only [List.getElem?_map, hf, hf', Option.map_some, Option.some.injEq] at this
        exact this
      have ef := ck_eq hck
      obtain ⟨f0, f1, f2, f3⟩ := hc j f hf
      obtain ⟨q0, q1, q2, q3⟩ := hc' j f' hf'
      have bf := (h1.ok f (List.mem_of_getElem? hf)).body
      have bg := (h1'.ok f' (List.mem_of_getElem? hf')).body
      rw [ef] at q0 q1 q2 q3 bg
      simp only at q0 q1 q2 q3 bg
      have hcall : ∀ u : World, u.heap = wr.heap → u.os = wr.os → u.tape = wr.tape → u.output = wr.output → Calls Try.prog 13 #[.agg #[.int .u64 f.ch, .int .i64 f.seq, .bool f.last, .slice f.sp f.n f.cap], .agg #[.int .u64 f.ch, .int .i64 f.seq, .bool f.last, .slice f'.sp f'.n f'.cap]] u fun e w' => e = .returned (.bool true) ∧ Below wr.heap.size wr w' := fun u hu h1 h2 h3 => by
        refine (one_same _ _ _ _ _ _ _ _ _ f.bs N N' u (bs_heap bf hu) (bs_heap bg hu)).mono ?_
        rintro e w' ⟨he, hb⟩
        exact ⟨he, ⟨hb.os.trans h1, hb.tape.trans h2, hb.output.trans h3, by rw [← hu]; exact hb.size, fun k hk => by rw [hb.block k (by rw [hu]; exact hk), hu]⟩⟩
      clear ef hck hc hc' bf bg
      go_wp2
      go_region_law (go_simp; go_at_call 13; refine (hcall wr.drew rfl rfl rfl rfl).mono ?_; rintro e w2 ⟨rfl, hb2'⟩; go_simp)
      all_goals
        go_wp2
        go_roundw
        case rel => exact ⟨j + 1, by go_num, by omega, hbl.trans (hb2'.mono hbl.size)⟩
        case measure => simp [intOf]; omega
    · obtain rfl : j = n := by omega
      have hI : ¬ (j : Int) < j := by omega
      go_wp2
      go_ret
      exact ⟨rfl, hbl⟩
end Go.Proofs.Ytbjlmekafnpllab
