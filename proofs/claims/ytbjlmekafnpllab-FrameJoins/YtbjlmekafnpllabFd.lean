/- Layer frame: the filter over which Join ranges. -/
import Derived.RangeFuncNested
import Derived.RangeFuncBound
import Derived.RangeFuncCalls
import Derived.RangeFuncLeaves
import Derived.Shelf.Abstract
import Derived.Shelf.RegionOpen
import Derived.WalkKit
import Derived.OwnWalkIn
import Derived.TacticsInMore
import Derived.LoopNIn
import Derived.LoopIn
import Derived.Test.YtbjlmekafnpllabFc
namespace Go.Proofs.Ytbjlmekafnpllab
open Go.RowKit Go.Shelf
set_option linter.unusedVariables false
set_option linter.unusedSimpArgs false
attribute [local go_sem] Oper.semAt_some

/-- A frame's own numbers and bytes are what they must be. -/
structure FrOK (N : Nat) (w : World) (f : Fr) : Prop where
  ch0 : 0 ≤ f.ch
  ch1 : f.ch ≤ 18446744073709551615
  sq0 : -9223372036854775808 ≤ f.seq
  sq1 : f.seq ≤ 9223372036854775807
  body : BS N w f.sp f.n f.cap f.bs
/-- Frames one behind the other, in blocks below N. -/
structure FrS (N : Nat) (w : World) (sp : Option Addr) (n cap : Nat) (fs : List Fr) : Prop where
  len : Hid (n = fs.length)
  nil : sp = none → n = 0 ∧ cap = 0
  le : n ≤ cap
  big : cap ≤ 9223372036854775807
  small : n ≤ 140737488355328
  at0 : 0 < n → ∃ g off, sp = some ⟨g, off, none⟩ ∧ g < N ∧ ∀ (i : Nat) f, fs[i]? = some f → w.cell? ⟨g, off + i * 4, none⟩ = some (.int .u64 f.ch) ∧ w.cell? ⟨g, off + i * 4 + 1, none⟩ = some (.int .i64 f.seq) ∧ w.cell? ⟨g, off + i * 4 + 2, none⟩ = some (.bool f.last) ∧ w.cell? ⟨g, off + i * 4 + 3, none⟩ = some (.slice f.sp f.n f.cap)
  ok : ∀ f ∈ fs, FrOK N w f
theorem FrOK.below {N : Nat} {w w' : World} {f : Fr} (h : FrOK N w f) (hb : Below N w w') : FrOK N w' f := ⟨h.ch0, h.ch1, h.sq0, h.sq1, h.body.below hb⟩
theorem FrS.below {N : Nat} {w w' : World} {sp : Option Addr} {n cap : Nat} {fs : List Fr} (h : FrS N w sp n cap fs) (hb : Below N w w') : FrS N w' sp n cap fs :=
  ⟨h.len, h.nil, h.le, h.big, h.small, fun h0 => by
    obtain ⟨g, off, e, hg, hB⟩ := h.at0 h0
    refine ⟨g, off, e, hg, fun i f hf => ?_⟩
    obtain ⟨h1, h2, h3, h4⟩ := hB i f hf
    exact ⟨(hb.cell (p := ⟨g, _, none⟩) hg).trans h1, (hb.cell (p := ⟨g, _, none⟩) hg).trans h2, (hb.cell (p := ⟨g, _, none⟩) hg).trans h3, (hb.cell (p := ⟨g, _, none⟩) hg).trans h4⟩, fun f hf => (h.ok f hf).below hb⟩

set_option maxRecDepth 100000 in
set_option maxHeartbeats 1000000 in
/-- Each frame that is kept is told; J: what holds when so many have been looked at. -/
theorem those1_in (m lp Bl Bk : Nat) (pg pc : Addr) (N : Nat) (sp : Option Addr) (n cap : Nat) (fs : List Fr) (hfs : ∀ (i : Nat) f, fs[i]? = some f → f.n ≤ 140737488355328) (hnl : Hid (n = fs.length)) (hn47 : n ≤ 140737488355328) (kb : Nat → Fr → Bool) (J : Nat → World → Prop)
    (hJ : ∀ i W, J i W → W.cell? ⟨Bl, 0, none⟩ = some (.slice sp n cap) ∧ W.cell? ⟨Bk, 0, none⟩ = some (.func (Fn.func 32) #[] #[.pointer (some pg), .pointer (some pc)]) ∧ FrS N W sp n cap fs)
    (hA : ∀ i W o, J i W → J i (W.alloc o))
    (hK : ∀ i W f, J i W → fs[i]? = some f → Calls Try.prog 32 #[f.val, .pointer (some pg), .pointer (some pc)] W fun e W' => e = .returned (.bool (kb i f)) ∧ J i W' ∧ Below W.heap.size W W')
    (hY : ∀ i W f, J i W → fs[i]? = some f → kb i f = true → YieldAt Fence.wide (m - 1) Try.prog lp #[f.val] W fun e W' => e = .returned (.bool true) ∧ J (i + 1) W')
    (hN : ∀ i W f, J i W → fs[i]? = some f → kb i f = false → J (i + 1) W)
    (W : World) (h0 : J 0 W) :
    CallsIn Fence.wide m Try.prog 52 #[.func (.yield lp) #[] #[], .pointer (some ⟨Bl, 0, none⟩), .pointer (some ⟨Bk, 0, none⟩)] W fun e W' => (∃ v, e = .returned v) ∧ J n W' := by
  refine callsIn_of_wp Try.func52 rfl trivial ?_ rfl
  simp only [Try.ntmps52, List.size_toArray, List.length_cons, List.length_nil, Nat.reduceAdd, Nat.reduceSub, Array.replicate_succ, Array.replicate_zero, List.push_toArray, List.append_toArray, List.nil_append, List.cons_append]
  obtain ⟨c1, c2, hFS⟩ := hJ 0 W h0
  gi_wp2
  gi_loopw [8] (fun i wr => ∃ j : Nat, i = .int .i64 (j : Int) ∧ j ≤ n ∧ J j wr) (fun i _ => n - (intOf i).toNat)
  case atStart => exact ⟨0, rfl, by omega, h0⟩
  case round =>
    obtain ⟨j, rfl, hj, hJj⟩ := hrel
    clear c1 c2 hFS h0
    by_cases hlt : j < n
    · have hI : (j : Int) < n := by omega
      obtain ⟨c1, c2, hFS⟩ := hJ j wr hJj
      obtain ⟨gs, off, rfl, hgN, hcells⟩ := hFS.at0 (by omega)
      obtain ⟨f, hf⟩ : ∃ f, fs[j]? = some f := ⟨fs[j]'(by rw [← hnl.out]; exact hlt), List.getElem?_eq_getElem _⟩
      obtain ⟨f0, f1, f2, f3⟩ := hcells j f hf
      have hJ1 := hA j wr (.cells #[.int .u64 f.ch, .int .i64 f.seq, .bool f.last, .slice f.sp f.n f.cap] 25) hJj
      obtain ⟨-, c2', -⟩ := hJ j _ hJ1
      have X1 := Arr.new wr 25 #[.int .u64 f.ch, .int .i64 f.seq, .bool f.last, .slice f.sp f.n f.cap]
      have hKj := Hid.mk' (hK j _ f hJ1 hf)
      replace hJ := Hid.mk' hJ
      cases hkb : kb j f with
      | true =>
        rw [hkb] at hKj
        gi_wp2_with (first
          | (refine ⟨trivial, fun h => (by cases h), ?_⟩; gi_at_call 32; go_must (refine (callsIn_wide.2 hKj.out).mono ?_; rintro e w2 ⟨rfl, hJ2, hb2⟩; have X2 := X1.below hb2 (by simp); have x0 := X2.cell 0; have x1 := X2.cell 1; have x2 := X2.cell 2; have x3 := X2.cell 3; simp at x0 x1 x2 x3; obtain ⟨fn, tmps, assign, body, hy, hR⟩ := hY j w2 f hJ2 hf hkb; simp only [Fr.val] at hy)))
        refine ⟨fun h => (by cases h), hR.mono ?_⟩
        rintro e W3 ⟨rfl, hJ3⟩
        gi_wp2
        go_roundw
        case rel => exact ⟨j + 1, by go_num, by omega, hJ3⟩
        case measure => simp [intOf]; omega
      | false =>
        rw [hkb] at hKj
        gi_wp2_with (first
          | (refine ⟨trivial, fun h => (by cases h), ?_⟩; gi_at_call 32; go_must (refine (callsIn_wide.2 hKj.out).mono ?_; rintro e w2 ⟨rfl, hJ2, hb2⟩; have X2 := X1.below hb2 (by simp); have x0 := X2.cell 0; have x1 := X2.cell 1; have x2 := X2.cell 2; have x3 := X2.cell 3; simp at x0 x1 x2 x3; have hJ3 := hN j w2 f hJ2 hf hkb)))
        refine ⟨fun _ h => (by cases h), ?_⟩
        gi_wp2
        go_roundw
        case rel => exact ⟨j + 1, by go_num, by omega, hJ3⟩
        case measure => simp [intOf]; omega
    · obtain rfl : j = n := by omega
      have hI : ¬ (j : Int) < j := by omega
      gi_wp2
      go_end0
      exact ⟨⟨_, rfl⟩, hJj⟩
end Go.Proofs.Ytbjlmekafnpllab
