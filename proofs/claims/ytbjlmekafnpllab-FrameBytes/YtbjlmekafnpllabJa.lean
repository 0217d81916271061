/- Layer frame: the bytes of a frame. -/
import Derived.Test.YtbjlmekafnpllabFa
import Derived.Test.YtbjlmekafnpllabRu
namespace Go.Proofs.Ytbjlmekafnpllab
open Go.RowKit
set_option linter.unusedVariables false
set_option linter.unusedSimpArgs false

/-- The four forms, and the bytes of three numbers and a body. -/
def wf4 (c s t : Nat) (bs : List Int) : List (List Int) := [wrap false (be c), wrap false (be s), wrap false (be t), wrap false bs]
def wf (c s t : Nat) (bs : List Int) : List Int := wrap true (wf4 c s t bs).flatten
/-- A number for Last. -/
def tn (l : Bool) : Nat := if l then 1 else 0
/-- A frame's bytes. -/
def Fr.form (f : Fr) : List Int := wf f.ch.toNat f.seq.toNat (tn f.last) f.bs
theorem wf4_fm (d c s t : Nat) {bs : List Int} (hb : Bts bs) : ∀ F ∈ wf4 c s t bs, Fm d F := by
  intro F hF
  simp only [wf4, List.mem_cons, List.not_mem_nil, or_false] at hF
  rcases hF with rfl | rfl | rfl | rfl
  · exact fm_bytes d (be_bts _)
  · exact fm_bytes d (be_bts _)
  · exact fm_bytes d (be_bts _)
  · exact fm_bytes d hb
theorem wf4_len (c s t : Nat) (bs : List Int) : (wf4 c s t bs).flatten.length ≤ bs.length + 60 ∧ (wf c s t bs).length ≤ bs.length + 69 := by
  have h1 := (wrap_len false (be c)).2
  have h2 := (wrap_len false (be s)).2
  have h3 := (wrap_len false (be t)).2
  have h4 := (wrap_len false bs).2
  have k1 := be_len c
  have k2 := be_len s
  have k3 := be_len t
  have h5 := (wrap_len true (wf4 c s t bs).flatten).2
  have h6 : (wf4 c s t bs).flatten.length ≤ bs.length + 60 := by simp [wf4]; omega
  exact ⟨h6, by unfold wf; omega⟩
theorem wf_fm {c s t : Nat} {bs : List Int} (hb : Bts bs) : Fm 16 (wf c s t bs) := .inr ⟨wf4 c s t bs, wf4_fm 15 c s t hb, rfl⟩
theorem wf_whole {c s t : Nat} {bs : List Int} (hb : Bts bs) (hl : bs.length ≤ 4096) : whole (wf c s t bs) = 0 :=
  whole_form (wf_fm hb) (by have := (wf4_len c s t bs).2; omega)
theorem be_inj {m n : Nat} (hm : m ≤ 18446744073709551615) (hn : n ≤ 18446744073709551615) (h : be m = be n) : m = n := by
  have h1 := num_be m (by omega)
  have h2 := num_be n (by omega)
  rw [h] at h1
  omega
theorem wrap_inj {l l' : Bool} {B B' : List Int} (hb : Bts B) (hb' : Bts B') (hn : B.length < 4611686018427387904) (hn' : B'.length < 4611686018427387904) (h : wrap l B = wrap l' B') : l = l' ∧ B = B' := by
  have := wrap_one (r := []) (r' := []) hb hb' hn hn' (by simpa using h)
  exact ⟨this.1, this.2.1⟩
/-- Which forms a list has whose bytes are a frame's. -/
theorem wf_parts {d c s t : Nat} {bs : List Int} {Fs : List (List Int)} (hb : Bts bs) (hl : bs.length ≤ 4096) (hF : ∀ F ∈ Fs, Fm d F) (hn : Fs.flatten.length < 4611686018427387904) (h : wrap true Fs.flatten = wf c s t bs) : Fs = wf4 c s t bs := by
  have h1 := (wf4_len c s t bs).1
  have h2 := wrap_inj (flat_bts hF) (flat_bts (wf4_fm d c s t hb)) hn (by omega) h
  exact flat_one hF (wf4_fm d c s t hb) hn h2.2
theorem wf_inj {c s t c' s' t' : Nat} {bs bs' : List Int} (hb : Bts bs) (hb' : Bts bs') (hl : bs.length ≤ 4096) (hl' : bs'.length ≤ 4096) (hc : c ≤ 18446744073709551615) (hc' : c' ≤ 18446744073709551615) (hs : s ≤ 18446744073709551615) (hs' : s' ≤ 18446744073709551615) (ht : t ≤ 18446744073709551615) (ht' : t' ≤ 18446744073709551615)
    (h : wf c s t bs = wf c' s' t' bs') : c = c' ∧ s = s' ∧ t = t' ∧ bs = bs' := by
  have h0 := (wf4_len c s t bs).1
  have h1 := wf_parts hb' hl' (wf4_fm 1 c s t hb) (by omega) h
  simp only [wf4, List.cons.injEq, and_true] at h1
  obtain ⟨e1, e2, e3, e4⟩ := h1
  have k := fun n => be_len n
  have g : ∀ m n, wrap false (be m) = wrap false (be n) → be m = be n := fun m n e => (wrap_inj (be_bts m) (be_bts n) (by have := be_len m; omega) (by have := be_len n; omega) e).2
  exact ⟨be_inj hc hc' (g _ _ e1), be_inj hs hs' (g _ _ e2), be_inj ht ht' (g _ _ e3), (wrap_inj hb hb' (by omega) (by omega) e4).2⟩
/-- Two frames of the same bytes. -/
theorem form_inj {f g : Fr} (hf : Bts f.bs) (hg : Bts g.bs) (hfl : f.bs.length ≤ 4096) (hgl : g.bs.length ≤ 4096) (hc : 0 ≤ f.ch ∧ f.ch ≤ 18446744073709551615) (hc' : 0 ≤ g.ch ∧ g.ch ≤ 18446744073709551615) (hs : 0 ≤ f.seq ∧ f.seq < 1024) (hs' : 0 ≤ g.seq ∧ g.seq < 1024) (h : f.form = g.form) : f.ch = g.ch ∧ f.seq = g.seq ∧ f.last = g.last ∧ f.bs = g.bs := by
  have tl : ∀ l, tn l ≤ 1 := fun l => by unfold tn; split <;> omega
  have t1 := tl f.last
  have t2 := tl g.last
  obtain ⟨e1, e2, e3, e4⟩ := wf_inj hf hg hfl hgl (by omega) (by omega) (by omega) (by omega) (by omega) (by omega) h
  refine ⟨by omega, by omega, ?_, e4⟩
  cases h1 : f.last <;> cases h2 : g.last <;> simp [tn, h1, h2] at e3 ⊢
/-- What is read as a number was one's bytes. -/
theorem rnum_ok {l : Bool} {k : Nat} {bs : List Int} {m : Int} (hb : Bts bs) (h : rnum l k bs = (m, 0)) : l = false ∧ k = 0 ∧ ∃ n : Nat, m = n ∧ n ≤ 18446744073709551615 ∧ bs = be n := by
  unfold rnum at h
  split at h
  · simp at h
  · rename_i hno
    simp only [not_or, not_and, Bool.not_eq_true, Nat.not_lt] at hno
    obtain ⟨h1, h2, h3, h4⟩ := hno
    have hm : num bs = m := by simpa using h
    have hr := num_range bs hb
    have h8 : (256 : Int) ^ bs.length ≤ 18446744073709551616 := by
      have h9 : (256 : Nat) ^ bs.length ≤ 18446744073709551616 := Nat.pow_le_pow_right (n := 256) (by omega) h3
      have e : (256 : Int) ^ bs.length = (((256 : Nat) ^ bs.length : Nat) : Int) := (Int.natCast_pow 256 bs.length).symm
      omega
    refine ⟨h1, by omega, (num bs).toNat, by omega, by omega, (be_num hb h3 (fun h0 => h4 h0)).symm⟩
theorem rnum_bad {l : Bool} {k : Nat} {bs : List Int} (h : ¬ (rnum l k bs).2 = 0) : rnum l k bs = (0, 8) := by
  unfold rnum at h ⊢
  split
  · rfl
  · rename_i hno; rw [if_neg hno] at h; simp at h
end Go.Proofs.Ytbjlmekafnpllab
