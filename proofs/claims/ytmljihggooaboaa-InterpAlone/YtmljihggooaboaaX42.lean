/- Is0, Is0x, Is1x, Is2x, Is3x, Is4x. -/
import Derived.Test.YtmljihggooaboaaX41
import Derived.Test.YtmljihggooaboaaX04
import Derived.Handy
import Derived.BigQuiet
import Derived.BigRegion
/- Layer interp: what the document asks of a statement (pure). -/
namespace Go.Proofs.Ytmljihggooaboaa
open Go.RowKit
set_option maxRecDepth 100000
set_option linter.unusedVariables false
set_option linter.unusedSimpArgs false

def nmB (k : Int) : Bool := (k == 1) || ((k == 6) || ((k == 8) || (k == 9)))
/-- Is something wrong with a statement's own numbers? -/
def g1 {α : Type} (vs : Int) (s : StN α) : Bool := decide (s.v < 0) || ((nmB s.k && decide (vs ≤ s.v)) || (!nmB s.k && (s.v != 0)))
def g2 {α : Type} (s : StN α) : Bool := ((s.k != 6) && (s.f != 0)) || (((s.k != 7) && (s.t != 0)) || ((((s.k != 3) && (s.k != 4)) && decide (0 < (s.th.length : Int))) || ((s.k != 3) && decide (0 < (s.el.length : Int)))))
def g3 {α : Type} (ps : List Int) (s : StN α) : Int :=
  if s.k = 1 ∨ s.k = 3 ∨ s.k = 4 ∨ s.k = 5 ∨ s.k = 9 then 1 else if s.k = 2 ∨ s.k = 8 then 2
  else if s.k = 6 then (if s.f < 0 ∨ (ps.length : Int) ≤ s.f then -1 else ps.getD s.f.toNat 0)
  else if s.k = 7 then (if s.t < 0 ∨ 256 < s.t then -1 else 3) else -1
def agN {α : Type} (ps : List Int) (vs : Int) (s : StN α) : Int := if g1 vs s = true then -1 else if g2 s = true then -1 else g3 ps s
theorem mayS_a {α : Type} {ps : List Int} {vs : Int} {s : StN α} : mayS ps vs s = true ↔ agN ps vs s = s.a.length := by
  obtain ⟨k, v, f, t, a, th, el⟩ := s
  have ha : (0 : Int) ≤ a.length := by omega
  have hth : (0 : Int) ≤ th.length := by omega
  have hel : (0 : Int) ≤ el.length := by omega
  unfold mayS agN g1 g2 g3 nmB tkB
  dsimp only
  generalize (a.length : Int) = A at *
  generalize (th.length : Int) = TH at *
  generalize (el.length : Int) = EL at *
  generalize ps.getD f.toNat 0 = P at *
  generalize (ps.length : Int) = PL at *
  by_cases h1 : k = 1
  · subst h1; simp; omega
  by_cases h2 : k = 2
  · subst h2; simp; omega
  by_cases h3 : k = 3
  · subst h3; simp; omega
  by_cases h4 : k = 4
  · subst h4; simp; omega
  by_cases h5 : k = 5
  · subst h5; simp; omega
  by_cases h6 : k = 6
  · subst h6; simp; omega
  by_cases h7 : k = 7
  · subst h7; simp; omega
  by_cases h8 : k = 8
  · subst h8; simp; omega
  by_cases h9 : k = 9
  · subst h9; simp; omega
  · simp [h1, h2, h3, h4, h5, h6, h7, h8, h9]; omega
end Go.Proofs.Ytmljihggooaboaa
/- Layer interp: how many arguments a statement has. -/
namespace Go.Proofs.Ytmljihggooaboaa
open Go.RowKit
set_option maxRecDepth 100000
set_option linter.unusedVariables false
set_option linter.unusedSimpArgs false

set_option maxHeartbeats 4000000 in
theorem args_o {α : Type} {N : Nat} {sp : Option Addr} {n cap : Nat} {fs : List FuT} {da vs : Int} {fi : Nat} {fn : FuT} (w : World) (hS : RS N w 3 (FuM N w) sp n cap fs) (hN : N ≤ w.heap.size) (hfi : fs[fi]? = some fn) (hvs : fn.v = vs) (k v f t : Int) (a : List (ExT 8)) (th el : List α) (sa : Option Addr) (na ca : Nat) (sb : Option Addr) (nb cb : Nat) (sc : Option Addr) (nc cc : Nat) (hth : nb = th.length) (hel : nc = el.length) (h1 : k ≠ 1) (h2 : k ≠ 2) (h3 : k ≠ 3) (h4 : k ≠ 4) (h5 : k ≠ 5) (h6 : k ≠ 6) (h7 : k ≠ 7) (h8 : k ≠ 8) (h9 : k ≠ 9) :
    Calls Try.prog 55 #[.agg #[.slice sp n cap, .int .i64 da], .int .i64 (fi : Int), .agg (stC k v f t (.slice sa na ca) (.slice sb nb cb) (.slice sc nc cc)).toArray] w (fun e w' => e = .returned (.int .i64 (agN ((fs.take fi).map FuT.p) vs (⟨k, v, f, t, a, th, el⟩ : StN α))) ∧ Below w.heap.size w w') := by
  have b0 : Below w.heap.size w ((w.alloc (.cells #[.slice sp n cap, .int .i64 da] 24)).alloc (.cells (stC k v f t (.slice sa na ca) (.slice sb nb cb) (.slice sc nc cc)).toArray 78)) := (ab w _).alloc (by simp) _
  have hlen := hS.len.out
  have hfl := (List.getElem?_eq_some_iff.1 hfi).1
  have hin : fi < n := by omega
  have hin' : (fi : Int) < n := by omega
  have hpl : ((fs.take fi).map FuT.p).length = fi := by rw [List.length_map, List.length_take]; omega
  obtain ⟨g, off, rfl, hg, hR⟩ := hS.at0 (by omega)
  obtain ⟨cf, hrg, hMf⟩ := hR fi fn hfi
  obtain ⟨qa, qb, qc, rfl, -, -⟩ := hMf
  have hrg2 := rb hrg (b0.mono hN) hg
  have cv : ((w.alloc (.cells #[.slice (some ⟨g, off, none⟩) n cap, .int .i64 da] 24)).alloc (.cells (stC k v f t (.slice sa na ca) (.slice sb nb cb) (.slice sc nc cc)).toArray 78)).cell? ⟨g, off + fi * 3 + 1, none⟩ = some (.int .i64 vs) := by rw [← hvs]; exact hrg2 1 _ rfl
  obtain ⟨z, hz⟩ : ∃ z, z = agN ((fs.take fi).map FuT.p) vs (⟨k, v, f, t, a, th, el⟩ : StN α) := ⟨_, rfl⟩
  rw [← hz]
  have hz2 := hz
  unfold agN g1 g2 g3 nmB at hz2
  dsimp only at hz2
  rw [← hth, ← hel, hpl] at hz2
  replace hz2 := hid hz2
  clear hS hR hrg hrg2 hlen hfl hfi hvs hz hpl hN hth hel
  have hzz : Hid (z = -1) := hid (by rw [hz2.out]; simp [h1, h2, h3, h4, h5, h6, h7, h8, h9])
  replace h1 : (k == 1) = false := by simpa using h1
  replace h2 : (k == 2) = false := by simpa using h2
  replace h3 : (k == 3) = false := by simpa using h3
  replace h4 : (k == 4) = false := by simpa using h4
  replace h5 : (k == 5) = false := by simpa using h5
  replace h6 : (k == 6) = false := by simpa using h6
  replace h7 : (k == 7) = false := by simpa using h7
  replace h8 : (k == 8) = false := by simpa using h8
  replace h9 : (k == 9) = false := by simpa using h9
  have h3' : (k != 3) = true := by simpa using h3
  have h4' : (k != 4) = true := by simpa using h4
  have h6' : (k != 6) = true := by simpa using h6
  have h7' : (k != 7) = true := by simpa using h7
  clear hz2
  unfold stC at *
  by_cases c0 : v < 0
  · go_enter Try.func55, Try.ntmps55
    go_upto_region 2 with fail
    go_quiet (fail)
    go_wp2_with fail
    go_ret
    rw [hzz.out]
    exact ⟨rfl, dwN ((ab w _).alloc (by simp) _) _⟩
  by_cases c1 : (v != 0) = true
  · go_enter Try.func55, Try.ntmps55
    go_upto_region 2 with fail
    go_quiet (fail)
    go_wp2_with fail
    go_ret
    rw [hzz.out]
    exact ⟨rfl, dwN ((ab w _).alloc (by simp) _) _⟩
  replace c1 : (v != 0) = false := by simpa using c1
  by_cases c2 : (f != 0) = true
  · go_enter Try.func55, Try.ntmps55
    go_upto_region 2 with fail
    go_quiet (fail)
    go_wp2_with fail
    go_ret
    rw [hzz.out]
    exact ⟨rfl, dwN ((ab w _).alloc (by simp) _) _⟩
  replace c2 : (f != 0) = false := by simpa using c2
  by_cases c3 : (t != 0) = true
  · go_enter Try.func55, Try.ntmps55
    go_upto_region 2 with fail
    go_quiet (fail)
    go_wp2_with fail
    go_ret
    rw [hzz.out]
    exact ⟨rfl, dwN ((ab w _).alloc (by simp) _) _⟩
  replace c3 : (t != 0) = false := by simpa using c3
  by_cases c4 : 0 < (nb : Int)
  · go_enter Try.func55, Try.ntmps55
    go_upto_region 2 with fail
    go_quiet (fail)
    go_wp2_with fail
    go_ret
    rw [hzz.out]
    exact ⟨rfl, dwN ((ab w _).alloc (by simp) _) _⟩
  by_cases c5 : 0 < (nc : Int)
  · go_enter Try.func55, Try.ntmps55
    go_upto_region 2 with fail
    go_quiet (fail)
    go_wp2_with fail
    go_ret
    rw [hzz.out]
    exact ⟨rfl, dwN ((ab w _).alloc (by simp) _) _⟩
  go_enter Try.func55, Try.ntmps55
  go_upto_region 2 with fail
  go_quiet (fail)
  go_wp2_with fail
  go_ret
  rw [hzz.out]
  exact ⟨rfl, dwN ((ab w _).alloc (by simp) _) _⟩
end Go.Proofs.Ytmljihggooaboaa
/- Layer interp: how many arguments a statement has. -/
namespace Go.Proofs.Ytmljihggooaboaa
open Go.RowKit
set_option maxRecDepth 100000
set_option linter.unusedVariables false
set_option linter.unusedSimpArgs false

set_option maxHeartbeats 4000000 in
theorem args_1 {α : Type} {N : Nat} {sp : Option Addr} {n cap : Nat} {fs : List FuT} {da vs : Int} {fi : Nat} {fn : FuT} (w : World) (hS : RS N w 3 (FuM N w) sp n cap fs) (hN : N ≤ w.heap.size) (hfi : fs[fi]? = some fn) (hvs : fn.v = vs) (v f t : Int) (a : List (ExT 8)) (th el : List α) (sa : Option Addr) (na ca : Nat) (sb : Option Addr) (nb cb : Nat) (sc : Option Addr) (nc cc : Nat) (hth : nb = th.length) (hel : nc = el.length) :
    Calls Try.prog 55 #[.agg #[.slice sp n cap, .int .i64 da], .int .i64 (fi : Int), .agg (stC 1 v f t (.slice sa na ca) (.slice sb nb cb) (.slice sc nc cc)).toArray] w (fun e w' => e = .returned (.int .i64 (agN ((fs.take fi).map FuT.p) vs (⟨1, v, f, t, a, th, el⟩ : StN α))) ∧ Below w.heap.size w w') := by
  have b0 : Below w.heap.size w ((w.alloc (.cells #[.slice sp n cap, .int .i64 da] 24)).alloc (.cells (stC 1 v f t (.slice sa na ca) (.slice sb nb cb) (.slice sc nc cc)).toArray 78)) := (ab w _).alloc (by simp) _
  have hlen := hS.len.out
  have hfl := (List.getElem?_eq_some_iff.1 hfi).1
  have hin : fi < n := by omega
  have hin' : (fi : Int) < n := by omega
  have hpl : ((fs.take fi).map FuT.p).length = fi := by rw [List.length_map, List.length_take]; omega
  obtain ⟨g, off, rfl, hg, hR⟩ := hS.at0 (by omega)
  obtain ⟨cf, hrg, hMf⟩ := hR fi fn hfi
  obtain ⟨qa, qb, qc, rfl, -, -⟩ := hMf
  have hrg2 := rb hrg (b0.mono hN) hg
  have cv : ((w.alloc (.cells #[.slice (some ⟨g, off, none⟩) n cap, .int .i64 da] 24)).alloc (.cells (stC 1 v f t (.slice sa na ca) (.slice sb nb cb) (.slice sc nc cc)).toArray 78)).cell? ⟨g, off + fi * 3 + 1, none⟩ = some (.int .i64 vs) := by rw [← hvs]; exact hrg2 1 _ rfl
  obtain ⟨z, hz⟩ : ∃ z, z = agN ((fs.take fi).map FuT.p) vs (⟨1, v, f, t, a, th, el⟩ : StN α) := ⟨_, rfl⟩
  rw [← hz]
  have hz2 := hz
  unfold agN g1 g2 g3 nmB at hz2
  dsimp only at hz2
  rw [← hth, ← hel, hpl] at hz2
  replace hz2 := hid hz2
  clear hS hR hrg hrg2 hlen hfl hfi hvs hz hpl hN hth hel
  unfold stC at *
  by_cases c0 : v < 0
  · have hzz : Hid (z = -1) := hid (by have h := hz2.out; rw [h]; simp at c0 ⊢; omega)
    clear hz2
    go_enter Try.func55, Try.ntmps55
    go_upto_region 2 with fail
    go_quiet (fail)
    go_wp2_with fail
    go_ret
    rw [hzz.out]
    exact ⟨rfl, dwN ((ab w _).alloc (by simp) _) _⟩
  by_cases c1 : vs ≤ v
  · have hzz : Hid (z = -1) := hid (by have h := hz2.out; rw [h]; simp at c0 c1 ⊢; omega)
    clear hz2
    go_enter Try.func55, Try.ntmps55
    go_upto_region 2 with fail
    go_quiet (fail)
    go_wp2_with fail
    go_ret
    rw [hzz.out]
    exact ⟨rfl, dwN ((ab w _).alloc (by simp) _) _⟩
  by_cases c2 : (f != 0) = true
  · have hzz : Hid (z = -1) := hid (by have h := hz2.out; rw [h]; simp at c0 c1 c2 ⊢; omega)
    clear hz2
    go_enter Try.func55, Try.ntmps55
    go_upto_region 2 with fail
    go_quiet (fail)
    go_wp2_with fail
    go_ret
    rw [hzz.out]
    exact ⟨rfl, dwN ((ab w _).alloc (by simp) _) _⟩
  replace c2 : (f != 0) = false := by simpa using c2
  by_cases c3 : (t != 0) = true
  · have hzz : Hid (z = -1) := hid (by have h := hz2.out; rw [h]; simp at c0 c1 c2 c3 ⊢; omega)
    clear hz2
    go_enter Try.func55, Try.ntmps55
    go_upto_region 2 with fail
    go_quiet (fail)
    go_wp2_with fail
    go_ret
    rw [hzz.out]
    exact ⟨rfl, dwN ((ab w _).alloc (by simp) _) _⟩
  replace c3 : (t != 0) = false := by simpa using c3
  by_cases c4 : 0 < (nb : Int)
  · have hzz : Hid (z = -1) := hid (by have h := hz2.out; rw [h]; simp at c0 c1 c2 c3 c4 ⊢; omega)
    clear hz2
    go_enter Try.func55, Try.ntmps55
    go_upto_region 2 with fail
    go_quiet (fail)
    go_wp2_with fail
    go_ret
    rw [hzz.out]
    exact ⟨rfl, dwN ((ab w _).alloc (by simp) _) _⟩
  by_cases c5 : 0 < (nc : Int)
  · have hzz : Hid (z = -1) := hid (by have h := hz2.out; rw [h]; simp at c0 c1 c2 c3 c4 c5 ⊢; omega)
    clear hz2
    go_enter Try.func55, Try.ntmps55
    go_upto_region 2 with fail
    go_quiet (fail)
    go_wp2_with fail
    go_ret
    rw [hzz.out]
    exact ⟨rfl, dwN ((ab w _).alloc (by simp) _) _⟩
  have hzz : Hid (z = 1) := hid (by have h := hz2.out; rw [h]; simp at c0 c1 c2 c3 c4 c5 ⊢; omega)
  clear hz2
  go_enter Try.func55, Try.ntmps55
  go_upto_region 2 with fail
  go_quiet (fail)
  go_wp2_with fail
  go_ret
  rw [hzz.out]
  exact ⟨rfl, dwN ((ab w _).alloc (by simp) _) _⟩
end Go.Proofs.Ytmljihggooaboaa
/- Layer interp: how many arguments a statement has. -/
namespace Go.Proofs.Ytmljihggooaboaa
open Go.RowKit
set_option maxRecDepth 100000
set_option linter.unusedVariables false
set_option linter.unusedSimpArgs false

set_option maxHeartbeats 4000000 in
theorem args_2 {α : Type} {N : Nat} {sp : Option Addr} {n cap : Nat} {fs : List FuT} {da vs : Int} {fi : Nat} {fn : FuT} (w : World) (hS : RS N w 3 (FuM N w) sp n cap fs) (hN : N ≤ w.heap.size) (hfi : fs[fi]? = some fn) (hvs : fn.v = vs) (v f t : Int) (a : List (ExT 8)) (th el : List α) (sa : Option Addr) (na ca : Nat) (sb : Option Addr) (nb cb : Nat) (sc : Option Addr) (nc cc : Nat) (hth : nb = th.length) (hel : nc = el.length) :
    Calls Try.prog 55 #[.agg #[.slice sp n cap, .int .i64 da], .int .i64 (fi : Int), .agg (stC 2 v f t (.slice sa na ca) (.slice sb nb cb) (.slice sc nc cc)).toArray] w (fun e w' => e = .returned (.int .i64 (agN ((fs.take fi).map FuT.p) vs (⟨2, v, f, t, a, th, el⟩ : StN α))) ∧ Below w.heap.size w w') := by
  have b0 : Below w.heap.size w ((w.alloc (.cells #[.slice sp n cap, .int .i64 da] 24)).alloc (.cells (stC 2 v f t (.slice sa na ca) (.slice sb nb cb) (.slice sc nc cc)).toArray 78)) := (ab w _).alloc (by simp) _
  have hlen := hS.len.out
  have hfl := (List.getElem?_eq_some_iff.1 hfi).1
  have hin : fi < n := by omega
  have hin' : (fi : Int) < n := by omega
  have hpl : ((fs.take fi).map FuT.p).length = fi := by rw [List.length_map, List.length_take]; omega
  obtain ⟨g, off, rfl, hg, hR⟩ := hS.at0 (by omega)
  obtain ⟨cf, hrg, hMf⟩ := hR fi fn hfi
  obtain ⟨qa, qb, qc, rfl, -, -⟩ := hMf
  have hrg2 := rb hrg (b0.mono hN) hg
  have cv : ((w.alloc (.cells #[.slice (some ⟨g, off, none⟩) n cap, .int .i64 da] 24)).alloc (.cells (stC 2 v f t (.slice sa na ca) (.slice sb nb cb) (.slice sc nc cc)).toArray 78)).cell? ⟨g, off + fi * 3 + 1, none⟩ = some (.int .i64 vs) := by rw [← hvs]; exact hrg2 1 _ rfl
  obtain ⟨z, hz⟩ : ∃ z, z = agN ((fs.take fi).map FuT.p) vs (⟨2, v, f, t, a, th, el⟩ : StN α) := ⟨_, rfl⟩
  rw [← hz]
  have hz2 := hz
  unfold agN g1 g2 g3 nmB at hz2
  dsimp only at hz2
  rw [← hth, ← hel, hpl] at hz2
  replace hz2 := hid hz2
  clear hS hR hrg hrg2 hlen hfl hfi hvs hz hpl hN hth hel
  unfold stC at *
  by_cases c0 : v < 0
  · have hzz : Hid (z = -1) := hid (by have h := hz2.out; rw [h]; simp at c0 ⊢; omega)
    clear hz2
    go_enter Try.func55, Try.ntmps55
    go_upto_region 2 with fail
    go_quiet (fail)
    go_wp2_with fail
    go_ret
    rw [hzz.out]
    exact ⟨rfl, dwN ((ab w _).alloc (by simp) _) _⟩
  by_cases c1 : (v != 0) = true
  · have hzz : Hid (z = -1) := hid (by have h := hz2.out; rw [h]; simp at c0 c1 ⊢; omega)
    clear hz2
    go_enter Try.func55, Try.ntmps55
    go_upto_region 2 with fail
    go_quiet (fail)
    go_wp2_with fail
    go_ret
    rw [hzz.out]
    exact ⟨rfl, dwN ((ab w _).alloc (by simp) _) _⟩
  replace c1 : (v != 0) = false := by simpa using c1
  by_cases c2 : (f != 0) = true
  · have hzz : Hid (z = -1) := hid (by have h := hz2.out; rw [h]; simp at c0 c1 c2 ⊢; omega)
    clear hz2
    go_enter Try.func55, Try.ntmps55
    go_upto_region 2 with fail
    go_quiet (fail)
    go_wp2_with fail
    go_ret
    rw [hzz.out]
    exact ⟨rfl, dwN ((ab w _).alloc (by simp) _) _⟩
  replace c2 : (f != 0) = false := by simpa using c2
  by_cases c3 : (t != 0) = true
  · have hzz : Hid (z = -1) := hid (by have h := hz2.out; rw [h]; simp at c0 c1 c2 c3 ⊢; omega)
    clear hz2
    go_enter Try.func55, Try.ntmps55
    go_upto_region 2 with fail
    go_quiet (fail)
    go_wp2_with fail
    go_ret
    rw [hzz.out]
    exact ⟨rfl, dwN ((ab w _).alloc (by simp) _) _⟩
  replace c3 : (t != 0) = false := by simpa using c3
  by_cases c4 : 0 < (nb : Int)
  · have hzz : Hid (z = -1) := hid (by have h := hz2.out; rw [h]; simp at c0 c1 c2 c3 c4 ⊢; omega)
    clear hz2
    go_enter Try.func55, Try.ntmps55
    go_upto_region 2 with fail
    go_quiet (fail)
    go_wp2_with fail
    go_ret
    rw [hzz.out]
    exact ⟨rfl, dwN ((ab w _).alloc (by simp) _) _⟩
  by_cases c5 : 0 < (nc : Int)
  · have hzz : Hid (z = -1) := hid (by have h := hz2.out; rw [h]; simp at c0 c1 c2 c3 c4 c5 ⊢; omega)
    clear hz2
    go_enter Try.func55, Try.ntmps55
    go_upto_region 2 with fail
    go_quiet (fail)
    go_wp2_with fail
    go_ret
    rw [hzz.out]
    exact ⟨rfl, dwN ((ab w _).alloc (by simp) _) _⟩
  have hzz : Hid (z = 2) := hid (by have h := hz2.out; rw [h]; simp at c0 c1 c2 c3 c4 c5 ⊢; omega)
  clear hz2
  go_enter Try.func55, Try.ntmps55
  go_upto_region 2 with fail
  go_quiet (fail)
  go_wp2_with fail
  go_ret
  rw [hzz.out]
  exact ⟨rfl, dwN ((ab w _).alloc (by simp) _) _⟩
end Go.Proofs.Ytmljihggooaboaa
/- Layer interp: how many arguments a statement has. -/
namespace Go.Proofs.Ytmljihggooaboaa
open Go.RowKit
set_option maxRecDepth 100000
set_option linter.unusedVariables false
set_option linter.unusedSimpArgs false

set_option maxHeartbeats 4000000 in
theorem args_3 {α : Type} {N : Nat} {sp : Option Addr} {n cap : Nat} {fs : List FuT} {da vs : Int} {fi : Nat} {fn : FuT} (w : World) (hS : RS N w 3 (FuM N w) sp n cap fs) (hN : N ≤ w.heap.size) (hfi : fs[fi]? = some fn) (hvs : fn.v = vs) (v f t : Int) (a : List (ExT 8)) (th el : List α) (sa : Option Addr) (na ca : Nat) (sb : Option Addr) (nb cb : Nat) (sc : Option Addr) (nc cc : Nat) (hth : nb = th.length) (hel : nc = el.length) :
    Calls Try.prog 55 #[.agg #[.slice sp n cap, .int .i64 da], .int .i64 (fi : Int), .agg (stC 3 v f t (.slice sa na ca) (.slice sb nb cb) (.slice sc nc cc)).toArray] w (fun e w' => e = .returned (.int .i64 (agN ((fs.take fi).map FuT.p) vs (⟨3, v, f, t, a, th, el⟩ : StN α))) ∧ Below w.heap.size w w') := by
  have b0 : Below w.heap.size w ((w.alloc (.cells #[.slice sp n cap, .int .i64 da] 24)).alloc (.cells (stC 3 v f t (.slice sa na ca) (.slice sb nb cb) (.slice sc nc cc)).toArray 78)) := (ab w _).alloc (by simp) _
  have hlen := hS.len.out
  have hfl := (List.getElem?_eq_some_iff.1 hfi).1
  have hin : fi < n := by omega
  have hin' : (fi : Int) < n := by omega
  have hpl : ((fs.take fi).map FuT.p).length = fi := by rw [List.length_map, List.length_take]; omega
  obtain ⟨g, off, rfl, hg, hR⟩ := hS.at0 (by omega)
  obtain ⟨cf, hrg, hMf⟩ := hR fi fn hfi
  obtain ⟨qa, qb, qc, rfl, -, -⟩ := hMf
  have hrg2 := rb hrg (b0.mono hN) hg
  have cv : ((w.alloc (.cells #[.slice (some ⟨g, off, none⟩) n cap, .int .i64 da] 24)).alloc (.cells (stC 3 v f t (.slice sa na ca) (.slice sb nb cb) (.slice sc nc cc)).toArray 78)).cell? ⟨g, off + fi * 3 + 1, none⟩ = some (.int .i64 vs) := by rw [← hvs]; exact hrg2 1 _ rfl
  obtain ⟨z, hz⟩ : ∃ z, z = agN ((fs.take fi).map FuT.p) vs (⟨3, v, f, t, a, th, el⟩ : StN α) := ⟨_, rfl⟩
  rw [← hz]
  have hz2 := hz
  unfold agN g1 g2 g3 nmB at hz2
  dsimp only at hz2
  rw [← hth, ← hel, hpl] at hz2
  replace hz2 := hid hz2
  clear hS hR hrg hrg2 hlen hfl hfi hvs hz hpl hN hth hel
  unfold stC at *
  by_cases c0 : v < 0
  · have hzz : Hid (z = -1) := hid (by have h := hz2.out; rw [h]; simp at c0 ⊢; omega)
    clear hz2
    go_enter Try.func55, Try.ntmps55
    go_upto_region 2 with fail
    go_quiet (fail)
    go_wp2_with fail
    go_ret
    rw [hzz.out]
    exact ⟨rfl, dwN ((ab w _).alloc (by simp) _) _⟩
  by_cases c1 : (v != 0) = true
  · have hzz : Hid (z = -1) := hid (by have h := hz2.out; rw [h]; simp at c0 c1 ⊢; omega)
    clear hz2
    go_enter Try.func55, Try.ntmps55
    go_upto_region 2 with fail
    go_quiet (fail)
    go_wp2_with fail
    go_ret
    rw [hzz.out]
    exact ⟨rfl, dwN ((ab w _).alloc (by simp) _) _⟩
  replace c1 : (v != 0) = false := by simpa using c1
  by_cases c2 : (f != 0) = true
  · have hzz : Hid (z = -1) := hid (by have h := hz2.out; rw [h]; simp at c0 c1 c2 ⊢; omega)
    clear hz2
    go_enter Try.func55, Try.ntmps55
    go_upto_region 2 with fail
    go_quiet (fail)
    go_wp2_with fail
    go_ret
    rw [hzz.out]
    exact ⟨rfl, dwN ((ab w _).alloc (by simp) _) _⟩
  replace c2 : (f != 0) = false := by simpa using c2
  by_cases c3 : (t != 0) = true
  · have hzz : Hid (z = -1) := hid (by have h := hz2.out; rw [h]; simp at c0 c1 c2 c3 ⊢; omega)
    clear hz2
    go_enter Try.func55, Try.ntmps55
    go_upto_region 2 with fail
    go_quiet (fail)
    go_wp2_with fail
    go_ret
    rw [hzz.out]
    exact ⟨rfl, dwN ((ab w _).alloc (by simp) _) _⟩
  replace c3 : (t != 0) = false := by simpa using c3
  have hzz : Hid (z = 1) := hid (by have h := hz2.out; rw [h]; simp at c0 c1 c2 c3 ⊢; omega)
  clear hz2
  go_enter Try.func55, Try.ntmps55
  go_upto_region 2 with fail
  go_quiet (fail)
  go_wp2_with fail
  go_ret
  rw [hzz.out]
  exact ⟨rfl, dwN ((ab w _).alloc (by simp) _) _⟩
end Go.Proofs.Ytmljihggooaboaa
/- Layer interp: how many arguments a statement has. -/
namespace Go.Proofs.Ytmljihggooaboaa
open Go.RowKit
set_option maxRecDepth 100000
set_option linter.unusedVariables false
set_option linter.unusedSimpArgs false

set_option maxHeartbeats 4000000 in
theorem args_4 {α : Type} {N : Nat} {sp : Option Addr} {n cap : Nat} {fs : List FuT} {da vs : Int} {fi : Nat} {fn : FuT} (w : World) (hS : RS N w 3 (FuM N w) sp n cap fs) (hN : N ≤ w.heap.size) (hfi : fs[fi]? = some fn) (hvs : fn.v = vs) (v f t : Int) (a : List (ExT 8)) (th el : List α) (sa : Option Addr) (na ca : Nat) (sb : Option Addr) (nb cb : Nat) (sc : Option Addr) (nc cc : Nat) (hth : nb = th.length) (hel : nc = el.length) :
    Calls Try.prog 55 #[.agg #[.slice sp n cap, .int .i64 da], .int .i64 (fi : Int), .agg (stC 4 v f t (.slice sa na ca) (.slice sb nb cb) (.slice sc nc cc)).toArray] w (fun e w' => e = .returned (.int .i64 (agN ((fs.take fi).map FuT.p) vs (⟨4, v, f, t, a, th, el⟩ : StN α))) ∧ Below w.heap.size w w') := by
  have b0 : Below w.heap.size w ((w.alloc (.cells #[.slice sp n cap, .int .i64 da] 24)).alloc (.cells (stC 4 v f t (.slice sa na ca) (.slice sb nb cb) (.slice sc nc cc)).toArray 78)) := (ab w _).alloc (by simp) _
  have hlen := hS.len.out
  have hfl := (List.getElem?_eq_some_iff.1 hfi).1
  have hin : fi < n := by omega
  have hin' : (fi : Int) < n := by omega
  have hpl : ((fs.take fi).map FuT.p).length = fi := by rw [List.length_map, List.length_take]; omega
  obtain ⟨g, off, rfl, hg, hR⟩ := hS.at0 (by omega)
  obtain ⟨cf, hrg, hMf⟩ := hR fi fn hfi
  obtain ⟨qa, qb, qc, rfl, -, -⟩ := hMf
  have hrg2 := rb hrg (b0.mono hN) hg
  have cv : ((w.alloc (.cells #[.slice (some ⟨g, off, none⟩) n cap, .int .i64 da] 24)).alloc (.cells (stC 4 v f t (.slice sa na ca) (.slice sb nb cb) (.slice sc nc cc)).toArray 78)).cell? ⟨g, off + fi * 3 + 1, none⟩ = some (.int .i64 vs) := by rw [← hvs]; exact hrg2 1 _ rfl
  obtain ⟨z, hz⟩ : ∃ z, z = agN ((fs.take fi).map FuT.p) vs (⟨4, v, f, t, a, th, el⟩ : StN α) := ⟨_, rfl⟩
  rw [← hz]
  have hz2 := hz
  unfold agN g1 g2 g3 nmB at hz2
  dsimp only at hz2
  rw [← hth, ← hel, hpl] at hz2
  replace hz2 := hid hz2
  clear hS hR hrg hrg2 hlen hfl hfi hvs hz hpl hN hth hel
  unfold stC at *
  by_cases c0 : v < 0
  · have hzz : Hid (z = -1) := hid (by have h := hz2.out; rw [h]; simp at c0 ⊢; omega)
    clear hz2
    go_enter Try.func55, Try.ntmps55
    go_upto_region 2 with fail
    go_quiet (fail)
    go_wp2_with fail
    go_ret
    rw [hzz.out]
    exact ⟨rfl, dwN ((ab w _).alloc (by simp) _) _⟩
  by_cases c1 : (v != 0) = true
  · have hzz : Hid (z = -1) := hid (by have h := hz2.out; rw [h]; simp at c0 c1 ⊢; omega)
    clear hz2
    go_enter Try.func55, Try.ntmps55
    go_upto_region 2 with fail
    go_quiet (fail)
    go_wp2_with fail
    go_ret
    rw [hzz.out]
    exact ⟨rfl, dwN ((ab w _).alloc (by simp) _) _⟩
  replace c1 : (v != 0) = false := by simpa using c1
  by_cases c2 : (f != 0) = true
  · have hzz : Hid (z = -1) := hid (by have h := hz2.out; rw [h]; simp at c0 c1 c2 ⊢; omega)
    clear hz2
    go_enter Try.func55, Try.ntmps55
    go_upto_region 2 with fail
    go_quiet (fail)
    go_wp2_with fail
    go_ret
    rw [hzz.out]
    exact ⟨rfl, dwN ((ab w _).alloc (by simp) _) _⟩
  replace c2 : (f != 0) = false := by simpa using c2
  by_cases c3 : (t != 0) = true
  · have hzz : Hid (z = -1) := hid (by have h := hz2.out; rw [h]; simp at c0 c1 c2 c3 ⊢; omega)
    clear hz2
    go_enter Try.func55, Try.ntmps55
    go_upto_region 2 with fail
    go_quiet (fail)
    go_wp2_with fail
    go_ret
    rw [hzz.out]
    exact ⟨rfl, dwN ((ab w _).alloc (by simp) _) _⟩
  replace c3 : (t != 0) = false := by simpa using c3
  by_cases c4 : 0 < (nc : Int)
  · have hzz : Hid (z = -1) := hid (by have h := hz2.out; rw [h]; simp at c0 c1 c2 c3 c4 ⊢; omega)
    clear hz2
    go_enter Try.func55, Try.ntmps55
    go_upto_region 2 with fail
    go_quiet (fail)
    go_wp2_with fail
    go_ret
    rw [hzz.out]
    exact ⟨rfl, dwN ((ab w _).alloc (by simp) _) _⟩
  have hzz : Hid (z = 1) := hid (by have h := hz2.out; rw [h]; simp at c0 c1 c2 c3 c4 ⊢; omega)
  clear hz2
  go_enter Try.func55, Try.ntmps55
  go_upto_region 2 with fail
  go_quiet (fail)
  go_wp2_with fail
  go_ret
  rw [hzz.out]
  exact ⟨rfl, dwN ((ab w _).alloc (by simp) _) _⟩
end Go.Proofs.Ytmljihggooaboaa
