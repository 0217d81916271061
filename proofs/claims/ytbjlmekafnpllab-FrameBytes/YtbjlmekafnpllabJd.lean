/- Layer frame: what four items and a frame's bytes have to do with each other. -/
import Derived.Test.YtbjlmekafnpllabJc
import Derived.Test.YtbjlmekafnpllabRs
namespace Go.Proofs.Ytbjlmekafnpllab
open Go.RowKit
set_option linter.unusedVariables false
set_option linter.unusedSimpArgs false

/-- A frame that may be, as data. -/
structure FrR (f : Fr) : Prop where
  bts : Bts f.bs
  len : f.bs.length ≤ 4096
  c0 : 0 ≤ f.ch
  c1 : f.ch ≤ 18446744073709551615
  s0 : 0 ≤ f.seq
  s1 : f.seq < 1024
/-- An item and its form. -/
structure ItF (x : It) (F : List Int) : Prop where
  fm : Fm 15 F
  bts : Bts x.bs
  kind : (x.l = false ∧ x.k = 0 ∧ F = wrap false x.bs) ∨ (x.l = true ∧ ∃ B, Bts B ∧ F = wrap true B)
theorem ItF.of_bytes {x : It} {F bs : List Int} (h : ItF x F) (hb : Bts bs) (hn : F.length < 4611686018427387904) (e : F = wrap false bs) : x.l = false ∧ x.k = 0 ∧ x.bs = bs := by
  have hbl := (wrap_len false bs).1
  rw [← e] at hbl
  rcases h.kind with ⟨h1, h2, h3⟩ | ⟨h1, B, hB, h3⟩
  · have := (wrap_len false x.bs).1
    rw [← h3] at this
    exact ⟨h1, h2, (wrap_inj h.bts hb (by omega) (by omega) (h3.symm.trans e)).2⟩
  · have := (wrap_len true B).1
    rw [← h3] at this
    have := (wrap_inj hB hb (by omega) (by omega) (h3.symm.trans e)).1
    cases this
theorem mem_flat {Fs : List (List Int)} {F : List Int} (h : F ∈ Fs) : F.length ≤ Fs.flatten.length := by
  induction Fs with
  | nil => simp at h
  | cons A As ih =>
    simp only [List.flatten_cons, List.length_append]
    rcases List.mem_cons.1 h with rfl | h
    · omega
    · have := ih h; omega
/-- If the bytes are a frame's, the items are its four. -/
theorem its_of_form {x0 x1 x2 x3 : It} {F0 F1 F2 F3 : List Int} {f : Fr} (h0 : ItF x0 F0) (h1 : ItF x1 F1) (h2 : ItF x2 F2) (h3 : ItF x3 F3) (hf : FrR f) (hn : [F0, F1, F2, F3].flatten.length ≤ 65536) (h : f.form = wrap true [F0, F1, F2, F3].flatten) :
    Good4 [x0, x1, x2, x3] ∧ x3.l = false ∧ x3.bs = f.bs := by
  have hp := wf_parts (d := 15) hf.bts hf.len (Fs := [F0, F1, F2, F3]) (by
    intro F hF
    simp only [List.mem_cons, List.not_mem_nil, or_false] at hF
    rcases hF with rfl | rfl | rfl | rfl
    · exact h0.fm
    · exact h1.fm
    · exact h2.fm
    · exact h3.fm) (by omega) h.symm
  simp only [wf4, List.cons.injEq, and_true] at hp
  obtain ⟨e0, e1, e2, e3⟩ := hp
  have l0 := mem_flat (show F0 ∈ [F0, F1, F2, F3] by simp)
  have l1 := mem_flat (show F1 ∈ [F0, F1, F2, F3] by simp)
  have l2 := mem_flat (show F2 ∈ [F0, F1, F2, F3] by simp)
  have l3 := mem_flat (show F3 ∈ [F0, F1, F2, F3] by simp)
  obtain ⟨a0, b0, c0⟩ := h0.of_bytes (be_bts _) (by omega) e0
  obtain ⟨a1, b1, c1⟩ := h1.of_bytes (be_bts _) (by omega) e1
  obtain ⟨a2, b2, c2⟩ := h2.of_bytes (be_bts _) (by omega) e2
  obtain ⟨a3, b3, c3⟩ := h3.of_bytes hf.bts (by omega) e3
  have hc0 := hf.c0
  have hc1 := hf.c1
  have hs0 := hf.s0
  have hs1 := hf.s1
  have tl : tn f.last ≤ 1 := by unfold tn; split <;> omega
  refine ⟨⟨x0, x1, x2, x3, (f.ch.toNat : Int), (f.seq.toNat : Int), (tn f.last : Int), rfl, ?_, ?_, ?_, by omega, by omega⟩, a3, c3⟩
  · unfold It.r; rw [a0, b0, c0]; exact rnum_be (by omega)
  · unfold It.r; rw [a1, b1, c1]; exact rnum_be (by omega)
  · unfold It.r; rw [a2, b2, c2]; exact rnum_be (by omega)
/-- Four items that are a frame's, and the frame's bytes. -/
theorem form_of_its {x0 x1 x2 x3 : It} {F0 F1 F2 F3 : List Int} {m0 m1 m2 : Int} (h0 : ItF x0 F0) (h1 : ItF x1 F1) (h2 : ItF x2 F2) (h3 : ItF x3 F3) (hl3 : x3.l = false) (r0 : x0.r = (m0, 0)) (r1 : x1.r = (m1, 0)) (r2 : x2.r = (m2, 0)) (g1 : m1 < 1024) (g2 : m2 ≤ 1) :
    (Fr.mk m0 m1 (m2 == 1) x3.sp x3.n x3.cap x3.bs).form = wrap true [F0, F1, F2, F3].flatten ∧ 0 ≤ m0 ∧ m0 ≤ 18446744073709551615 ∧ 0 ≤ m1 := by
  have key : ∀ {x : It} {F : List Int} {m : Int}, ItF x F → x.r = (m, 0) → ∃ n : Nat, m = n ∧ n ≤ 18446744073709551615 ∧ F = wrap false (be n) := fun {x F m} h r => by
    obtain ⟨a, b, n, e, hn, hb⟩ := rnum_ok h.bts r
    rcases h.kind with ⟨-, -, h3⟩ | ⟨h1, -⟩
    · exact ⟨n, e, hn, by rw [h3, hb]⟩
    · rw [a] at h1; cases h1
  obtain ⟨n0, rfl, k0, e0⟩ := key h0 r0
  obtain ⟨n1, rfl, k1, e1⟩ := key h1 r1
  obtain ⟨n2, rfl, k2, e2⟩ := key h2 r2
  have e3 : F3 = wrap false x3.bs := by
    rcases h3.kind with ⟨-, -, h⟩ | ⟨h, -⟩
    · exact h
    · rw [hl3] at h; cases h
  refine ⟨?_, by omega, by omega, by omega⟩
  have ht : tn ((n2 : Int) == 1) = n2 := by
    have : n2 = 0 ∨ n2 = 1 := by omega
    rcases this with rfl | rfl <;> rfl
  show wf (n0 : Int).toNat (n1 : Int).toNat (tn ((n2 : Int) == 1)) x3.bs = _
  rw [ht, Int.toNat_natCast, Int.toNat_natCast, e0, e1, e2, e3]
  rfl
/-- A read item's parts. -/
theorem it_of_dec {S : Nat → Prop} {w : World} {v : Value} {F : List Int} (h : Dec S w 15 v F) : ∃ x : It, v = x.val ∧ BSs S w x.sp x.n x.cap x.bs ∧ ItF x F := by
  have hfm := h.is.fm
  rcases h with ⟨sp, n, cap, bs, rfl, hB, e⟩ | ⟨sq, k, cq, vs, Fs, rfl, hI, hlen, hD, e⟩
  · exact ⟨⟨false, sp, n, cap, none, 0, 0, bs⟩, rfl, hB, ⟨hfm, hB.1.bts, .inl ⟨rfl, rfl, e⟩⟩⟩
  · refine ⟨⟨true, none, 0, 0, sq, k, cq, []⟩, rfl, ⟨BS.nil0 _ _, World.ownsRow_nil _ _ _ _, fun b off e => by cases e⟩, ⟨hfm, Bts.nil, .inr ⟨rfl, Fs.flatten, ?_, e⟩⟩⟩
    intro x hx
    obtain ⟨G, hG, hxG⟩ := List.mem_flatten.1 hx
    obtain ⟨i, hi⟩ := List.mem_iff_getElem?.1 hG
    have hil := (List.getElem?_eq_some_iff.1 hi).1
    exact (hD i _ G (List.getElem?_eq_getElem (by omega)) hi).is.fm.bts x hxG
end Go.Proofs.Ytbjlmekafnpllab
