/- Layer rlp: arguments that came in: bytes. -/
import Derived.Test.YtbjlmekafnpllabRb
import Derived.ProofKit
import Derived.OpenShut
import Derived.ShutString
import Derived.ChangeOld
import Derived.SizedLaws
namespace Go.Proofs.Ytbjlmekafnpllab
open Go.ChangeShapes Go.WideShapes Go.ChangeAt Go.RowKit
set_option linter.unusedVariables false
set_option linter.unusedSimpArgs false

set_option maxRecDepth 100000 in
theorem own : ownKnob Try.prog.godebug = none := by kernel_rfl
set_option maxRecDepth 100000 in
theorem laidOut : laidOutB Try.prog = true := by kernel_rfl
set_option maxRecDepth 100000 in
theorem bytes5 : Try.prog.bytesOf 5 = 1 := by kernel_rfl

set_option maxRecDepth 100000 in
/-- A SLICE OF BYTES THAT CAME IN. -/
theorem open_bytes {H : Type} {enc : TypeId × Value → H} {W : World} {base : Nat} {b0 : Nat} {v : Value} {d : DataW H} {p : List MemPlace} {ts : List TypeId} {ds : List (DataW H)} {j : Nat}
    (hv : Value.okWide Try.prog W .any b0 23 v) (h : DataW.Trod enc Try.prog W base (fun _ => true) true 23 v d p)
    (hsz : (DataW.weightsEach Try.prog ts ds).all (· ≤ reachBytes) = true) (ht : ts[j]? = some 23) (hd : ds[j]? = some d) :
    ∃ (sp : Option Addr) (n cap : Nat) (L : List Int), v = .slice sp n cap ∧ n = L.length ∧ (sp = none → n = 0 ∧ cap = 0) ∧ SlL W sp L ∧ n ≤ cap ∧ cap ≤ 140737488351232 ∧ ∀ x ∈ L, (Lit.int .u8 x).wf = true := by
  obtain ⟨a0, len0, cap0, rfl⟩ := okWide_slice Try.underlying23 hv
  obtain ⟨fuel, hf⟩ := h
  rcases open_ints Try.underlying23 Try.underlying5 (by kernel_rfl) hf with ⟨hcs, _⟩ | ⟨x, l, c, zs, hcs, _, hl, hm, hz, hx, hcell, hwz⟩
  · simp [Value.cells] at hcs
    obtain ⟨rfl, rfl, rfl⟩ := hcs
    exact ⟨none, 0, 0, [], rfl, rfl, fun _ => ⟨rfl, rfl⟩, fun h => absurd h (by simp), Nat.le_refl _, by omega, by simp⟩
  · simp [Value.cells] at hcs
    obtain ⟨rfl, rfl, rfl⟩ := hcs
    have hz' : zs.length = cap0 := by simpa using hz
    have hd' : d = .slice (lits .u8 (zs.take len0)) (lits .u8 (zs.drop len0)) := (Prod.ext_iff.1 hx).1
    subst hd'
    have hr := sized_slice hsz ht hd Try.underlying23
    rw [bytes5] at hr
    simp only [lits, List.length_map, List.length_take, List.length_drop, reachBytes] at hr
    refine ⟨some x, len0, cap0, zs.take len0, rfl, by simp; omega, (fun h => by cases h), ?_, hl, by omega, fun y hy => hwz y (List.mem_of_mem_take hy)⟩
    intro h0
    have h0' : 0 < zs.length := by simp at h0; omega
    obtain ⟨b, off, rfl, hc⟩ := ints_at hcell h0'
    refine ⟨b, off, rfl, fun t ht => ?_⟩
    have htl : t < len0 := by simp at ht; omega
    rw [hc t (by omega)]
    simp [bat, List.getElem?_take_of_lt htl]

set_option maxRecDepth 100000 in
theorem bts_wf {L : List Int} (h : ∀ x ∈ L, (Lit.int .u8 x).wf = true) : Bts L := fun x hx => by
  have h1 := h x hx
  have hmin : IntKind.u8.min = 0 := rfl
  have hmax : IntKind.u8.max = 255 := rfl
  simp only [Lit.wf, Bool.and_eq_true, decide_eq_true_eq] at h1
  omega
set_option maxRecDepth 100000 in
theorem bs_open {W : World} {sp : Option Addr} {n cap : Nat} {L : List Int} (hn : n = L.length) (hnil : sp = none → n = 0 ∧ cap = 0) (hS : SlL W sp L) (hl : n ≤ cap) (hm : cap ≤ 140737488351232) (hw : ∀ x ∈ L, (Lit.int .u8 x).wf = true) : BS W.heap.size W sp n cap L :=
  ⟨hn, hnil, hl, by omega, by omega, fun h0 => by
    obtain ⟨b, off, e, hB⟩ := hS (by omega)
    exact ⟨b, off, e, block_lt_of_cell (hB 0 (by omega)), by rw [hn]; exact hB⟩, bts_wf hw⟩
set_option maxRecDepth 100000 in
theorem u64_open {x : Int} (h : (Lit.int .u64 x).wf = true) : ∃ m : Nat, x = m ∧ m ≤ 18446744073709551615 := by
  have hmin : IntKind.u64.min = 0 := rfl
  have hmax : IntKind.u64.max = 18446744073709551615 := rfl
  simp only [Lit.wf, Bool.and_eq_true, decide_eq_true_eq] at h
  exact ⟨x.toNat, by omega, by omega⟩
end Go.Proofs.Ytbjlmekafnpllab
