/- Layer frame: the walk of FrameJoins. -/
import Derived.Test.YtbjlmekafnpllabIc
import Derived.Test.YtbjlmekafnpllabFi
import Derived.Test.YtbjlmekafnpllabHd
namespace Go.Proofs.Ytbjlmekafnpllab
open Go.RowKit
set_option linter.unusedVariables false
set_option linter.unusedSimpArgs false

theorem JPost.one {o : Option (List Int)} {w : World} {e : Ending} {w' : World} (h : JPost o w e w') : ∃ sp n cap, e = .returned (.tuple #[.slice sp n cap, .bool o.isSome]) ∧ Hid (BS w'.heap.size w' sp n cap (o.getD [])) ∧ Below w.heap.size w w' := by
  obtain ⟨hb, ⟨rfl, he⟩ | ⟨D, v, rfl, hl, hbt, he, hown⟩⟩ := h
  · exact ⟨none, 0, 0, he, Hid.mk' (BS.nil0 _ _), hb⟩
  · obtain ⟨sp, cap, rfl, hB, -⟩ := own_bs hown hbt (by omega)
    exact ⟨sp, _, cap, he, Hid.mk' hB, hb⟩
/-- What Split answers, in one. -/
def spF (c z : Int) (L : List Int) : List (Int × Int × Bool × List Int) := if z < 1 ∨ 4096 < z ∨ z * 1024 < L.length then [] else split c z.toNat L
def spE (z : Int) (L : List Int) : Int := if z < 1 ∨ 4096 < z ∨ z * 1024 < L.length then 2 else 0
theorem SPost.one {c z : Int} {L : List Int} {w : World} {e : Ending} {w' : World} (h : SPost c z L w e w') (x : Int) (hx : spE z L = x) : ∃ sp k cap fs, e = .returned (.tuple #[.slice sp k cap, .int .i64 x]) ∧ Hid (FrS w'.heap.size w' sp k cap fs) ∧ Hid (fs.map Fr.ck = spF c z L) ∧ Below w.heap.size w w' := by
  obtain ⟨hbw, ⟨hbad, he⟩ | ⟨hgood, sq, k, cq, fs, he, hk, hown, hof, hck, hlen⟩⟩ := h
  · rw [spE, if_pos hbad] at hx
    subst hx
    exact ⟨none, 0, 0, [], he, Hid.mk' ⟨rfl, fun _ => ⟨rfl, rfl⟩, Nat.le_refl _, by omega, by omega, fun h => by omega, fun f hf => by simp at hf⟩, Hid.mk' (by rw [spF, if_pos hbad]; rfl), hbw⟩
  · rw [spE, if_neg hgood] at hx
    subst hx
    obtain ⟨sp', cap', e2, hF, -⟩ := own_fs hown hk (by omega) (fun f hf => (hof f hf).ok)
    cases e2
    exact ⟨_, _, _, fs, he, Hid.mk' hF, Hid.mk' (by rw [spF, if_neg hgood]; exact hck), hbw⟩

set_option maxRecDepth 100000 in
set_option maxHeartbeats 2000000 in
theorem joins_walk (sq : Option Addr) (k cq : Nat) (fs : List Fr) (x y : Int) (sp : Option Addr) (n cap : Nat) (L : List Int) (w : World) (hF : FrS w.heap.size w sq k cq fs) (hS : BS w.heap.size w sp n cap L) (hx : -9223372036854775808 ≤ x ∧ x ≤ 9223372036854775807) (hy : -9223372036854775808 ≤ y ∧ y ≤ 9223372036854775807) :
    Calls Try.prog 4 #[.slice sq k cq, .agg #[.int .i64 x, .int .i64 y], .slice sp n cap] w fun e w' => e = .returned (.bool true) ∧ Below w.heap.size w w' := by
  obtain ⟨c, hc⟩ : ∃ c, IntKind.u64.wrap x = c := ⟨_, rfl⟩
  have hc0 : 0 ≤ c ∧ c ≤ 18446744073709551615 := by rw [← hc, IntKind.wrap_u64]; omega
  obtain ⟨o, ho⟩ : ∃ o, jn c fs = o := ⟨_, rfl⟩
  obtain ⟨er, her⟩ : ∃ er, spE y L = er := ⟨_, rfl⟩
  have heb : (er == er) = true := by simp
  have hob : (o.isSome == o.isSome) = true := by simp
  replace ho := Hid.mk' ho
  replace her := Hid.mk' her
  have X0 := Arr.new w 40 #[.int .i64 x, .int .i64 y]
  have hb0 : Below w.heap.size w (w.alloc (.cells #[.int .i64 x, .int .i64 y] 40)) := alloc_bel' w _
  have hF0 := hF.below hb0
  have x0 := X0.cell 0
  have x1 := X0.cell 1
  simp at x0 x1
  go_enter Try.func4, Try.ntmps4
  go_wp2_with (first
    | (go_at_call 15; go_must (refine ((join_any c _ sq k cq fs _ hF0 (by simp)).mono fun e w' h => h.one).mono ?_; rw [ho.out]; rintro e w1 ⟨s1, n1, c1, rfl, hB1, hb1⟩; have hs1 := hb1.size; simp at hs1; have hw1 : Below w.heap.size w w1 := hb0.trans (hb1.mono (by simp)); have hF1 := hF.below hw1; have X1 := X0.below hb1 (by simp); have y0 := X1.cell 0; have y1 := X1.cell 1; simp at y0 y1))
    | (go_at_call 16; go_must (refine ((refJoin_any c _ sq k cq fs _ hF1 (by omega)).mono fun e w' h => h.one).mono ?_; rw [ho.out]; rintro e w2 ⟨s2, n2, c2, rfl, hB2, hb2⟩; have hs2 := hb2.size; have hw2 : Below w.heap.size w w2 := hw1.trans (hb2.mono (by omega)); have hS2 := hS.below hw2; have X2 := X1.below hb2 (by omega); have z0 := X2.cell 0; have z1 := X2.cell 1; simp at z0 z1; have hB1' := Hid.mk' (hB1.out.below hb2)))
    | (go_at_call 17; go_must (refine ((split_any c y sp n cap L _ _ hS2 hc0.1 hc0.2 hy.1 hy.2).mono fun e w' h => h.one er her.out).mono ?_; rintro e w3 ⟨s3, k3, c3, fs3, rfl, hF3, hck3, hb3⟩; have hs3 := hb3.size; have hw3 : Below w.heap.size w w3 := hw2.trans (hb3.mono (by omega)); have hS3 := hS.below hw3; have X3 := X2.below hb3 (by omega); have u0 := X3.cell 0; have u1 := X3.cell 1; simp at u0 u1))
    | (go_at_call 18; go_must (refine ((refSplit_any c y sp n cap L _ _ hS3 hc0.1 hc0.2 hy.1 hy.2).mono fun e w' h => h.one er her.out).mono ?_; rintro e w4 ⟨s4, k4, c4, fs4, rfl, hF4, hck4, hb4⟩; have hs4 := hb4.size; have hw4 : Below w.heap.size w w4 := hw3.trans (hb4.mono (by omega)); have hB14 := Hid.mk' ((hB1'.out.below (hb3.mono (by omega))).below (hb4.mono (by omega))); have hB24 := Hid.mk' ((hB2.out.below hb3).below (hb4.mono (by omega)))))
    | (go_at_call 12; go_must (refine (same01_any s1 s2 n1 n2 c1 c2 _ _ _ _ _ hB14.out hB24.out).mono ?_; rintro e w5 ⟨rfl, rfl⟩)))
  have hkk : k4 = k3 := by
    have h4 := hF4.out.len.out
    have h3 := hF3.out.len.out
    have := congrArg List.length (hck4.out.trans hck3.out.symm)
    rw [List.length_map, List.length_map] at this
    omega
  subst hkk
  have G3 := hF3.out.below hb4
  have her2 : IntKind.i64.wrap er = er := by
    have : er = 2 ∨ er = 0 := by rw [← her.out, spE]; split <;> simp
    rcases this with rfl | rfl <;> rfl
  go_wp2_with (first
    | (go_at_call 19; go_must (refine (sameF_any s3 s4 k4 c3 c4 fs3 fs4 _ _ _ G3 hF4.out (by omega) (Nat.le_refl _) (hck3.out.trans hck4.out.symm)).mono ?_; rintro e w6 ⟨rfl, hb6⟩; have hs6 := hb6.size))
    | (go_at_call 14; go_must (refine (anchored_any _).mono ?_; rintro e w7 ⟨rfl, hb7⟩)))
  go_ret
  exact ⟨by simp, (hw4.trans (hb6.mono (by omega))).trans (hb7.mono (by omega))⟩
end Go.Proofs.Ytbjlmekafnpllab
