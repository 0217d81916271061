/- Layer collide: the log and what is wanted of it, side by side; byte strings in a row. -/
import Derived.Test.YtgjnbpimldjkpaaLe
namespace Go.Proofs.Ytgjnbpimldjkpaa
open Go.RowKit
set_option linter.unusedVariables false
set_option linter.unusedSimpArgs false

theorem BS.chg {N : Nat} {S : Nat → Prop} {w w' : World} {sp : Option Addr} {n cap : Nat} {L : List Int} (h : BS N w sp n cap L) (hc : Chg S w w') (hne : ∀ b off, sp = some ⟨b, off, none⟩ → ¬ S b) : BS N w' sp n cap L :=
  ⟨h.len, h.nil, h.le, h.big, h.small, fun h0 => by
    obtain ⟨b, off, e, hbN, hB⟩ := h.at0 h0
    refine ⟨b, off, e, hbN, fun t ht => ?_⟩
    rw [World.cell?_of_block (w := w) (a := ⟨b, off + t, none⟩) (hc.block b (block_lt_of_cell (hB t ht)) (hne b off e))]
    exact hB t ht, h.bts⟩
theorem EO.chg {base ax : Nat} {S : Nat → Prop} {w w' : World} {v : Value} {es : List En} (h : EO base ax w v es) (hc : Chg S w w') (hv : ∀ k, v.ownBlock = some k → ¬ S k) (hs : ∀ e ∈ es, ∀ b off, e.sp = some ⟨b, off, none⟩ → ¬ S b) : EO base ax w' v es :=
  ⟨own_same h.own (fun k hk => hc.block k (own_lt h.own hk) (hv k hk)), fun e he => ⟨((h.ok e he).body.chg hc (hs e he)).mono hc.size, (h.ok e he).s32⟩, fun e he b off hb => by have := h.ap e he b off hb; have := hc.size; exact ⟨by omega, by omega, (h.ap e he b off hb).2.2⟩⟩
theorem Arr.chg {S : Nat → Prop} {w w' : World} {g ty : Nat} {C : Array Value} (h : Arr w g ty C) (hc : Chg S w w') (hg : ¬ S g) : Arr w' g ty C := by
  have := hc.block g h.lt hg
  unfold Arr at h ⊢; rw [this]; exact h
theorem Chg.of_grown {w w' : World} {row : Option Nat} (hg : w.grownBy w' row) : Chg (fun b => row = some b) w w' := ⟨hg.os, hg.tape, hg.output, hg.size, fun b hb hs => hg.block b hb (fun e => hs e.symm)⟩

/-- The log and what is wanted of it. -/
structure LW (gl : Nat) (w : World) (v u : Value) (es us : List En) : Prop where
  A : Arr w gl 75 #[.bool true, v]
  E : EO (gl + 1) gl w v es
  U : EO (gl + 1) gl w u us
  ne : ∀ k, v.ownBlock = some k → u.ownBlock ≠ some k
  ap1 : ∀ e ∈ es, ∀ b off, e.sp = some ⟨b, off, none⟩ → u.ownBlock ≠ some b
  ap2 : ∀ e ∈ us, ∀ b off, e.sp = some ⟨b, off, none⟩ → v.ownBlock ≠ some b
theorem LW.below {gl : Nat} {w w' : World} {v u : Value} {es us : List En} (h : LW gl w v u es us) (hb : Below w.heap.size w w') : LW gl w' v u es us :=
  ⟨h.A.bel hb, h.E.below hb, h.U.below hb, h.ne, h.ap1, h.ap2⟩
/-- A block is none of theirs. -/
structure Off (gl : Nat) (v u : Value) (es us : List En) (g : Nat) : Prop where
  l : gl ≠ g
  v : v.ownBlock ≠ some g
  u : u.ownBlock ≠ some g
  es : ∀ e ∈ es, ∀ b off, e.sp = some ⟨b, off, none⟩ → b ≠ g
  us : ∀ e ∈ us, ∀ b off, e.sp = some ⟨b, off, none⟩ → b ≠ g
theorem LW.off {gl : Nat} {w : World} {v u : Value} {es us : List En} (h : LW gl w v u es us) {g : Nat} (hg : w.heap.size ≤ g) : Off gl v u es us g :=
  ⟨fun e => by have := h.A.lt; omega, fun e => by have := own_lt h.E.own e; omega, fun e => by have := own_lt h.U.own e; omega, fun e he b off hb => by have := h.E.ap e he b off hb; omega, fun e he b off hb => by have := h.U.ap e he b off hb; omega⟩
theorem LW.spoil {gl : Nat} {S : Nat → Prop} {w w' : World} {v u : Value} {es us : List En} (h : LW gl w v u es us) (hc : Chg S w w') (ho : ∀ g, S g → Off gl v u es us g) : LW gl w' v u es us :=
  ⟨h.A.chg hc (fun hs => (ho _ hs).l rfl), h.E.chg hc (fun k hk hs => (ho _ hs).v hk) (fun e he b off hb hs => (ho _ hs).es e he b off hb rfl), h.U.chg hc (fun k hk hs => (ho _ hs).u hk) (fun e he b off hb hs => (ho _ hs).us e he b off hb rfl), h.ne, h.ap1, h.ap2⟩
theorem LW.sum {gl : Nat} {w w' : World} {v v' u : Value} {es us : List En} {e : En} (h : LW gl w v u es us) (hA : Arr w' gl 75 #[.bool true, v']) (hE : EO (gl + 1) gl w' v' (es ++ [e])) (hsp : ∀ b off, e.sp = some ⟨b, off, none⟩ → w.heap.size ≤ b) (hv : v'.ownBlock = v.ownBlock ∨ ∃ k, v'.ownBlock = some k ∧ w.heap.size ≤ k) (hc : Chg (fun b => b = gl ∨ v.ownBlock = some b) w w') : LW gl w' v' u (es ++ [e]) us := by
  refine ⟨hA, hE, h.U.chg hc ?_ ?_, ?_, ?_, ?_⟩
  · rintro k hk (rfl | hs)
    · have := own_ge h.U.own _ hk; omega
    · exact h.ne k hs hk
  · rintro f hf b off hb (rfl | hs)
    · exact (h.U.ap f hf b off hb).2.2.2 rfl
    · exact h.ap2 f hf b off hb hs
  · intro k hk hu
    rcases hv with hv | ⟨k', hv, hk'⟩
    · exact h.ne k (hv.symm.trans hk) hu
    · obtain rfl : k' = k := Option.some.inj (hv.symm.trans hk)
      have := own_lt h.U.own hu; omega
  · intro f hf b off hb hu
    rcases List.mem_append.1 hf with hf | hf
    · exact h.ap1 f hf b off hb hu
    · simp at hf; subst hf
      have := own_lt h.U.own hu; have := hsp b off hb; omega
  · intro f hf b off hb hk
    rcases hv with hv | ⟨k', hv, hk'⟩
    · exact h.ap2 f hf b off hb (hv.symm.trans hk)
    · obtain rfl : k' = b := Option.some.inj (hv.symm.trans hk)
      have := h.U.ap f hf k' off hb; omega
theorem Off.sum {gl g : Nat} {w : World} {v v' u : Value} {es us : List En} {e : En} (h : Off gl v u es us g) (hg : g < w.heap.size) (hsp : ∀ b off, e.sp = some ⟨b, off, none⟩ → w.heap.size ≤ b) (hv : v'.ownBlock = v.ownBlock ∨ ∃ k, v'.ownBlock = some k ∧ w.heap.size ≤ k) : Off gl v' u (es ++ [e]) us g :=
  ⟨h.l, fun e => by
    rcases hv with hv | ⟨k, hv, hk⟩
    · exact h.v (hv.symm.trans e)
    · obtain rfl : k = g := Option.some.inj (hv.symm.trans e)
      omega, h.u, fun f hf b off hb => by
    rcases List.mem_append.1 hf with hf | hf
    · exact h.es f hf b off hb
    · simp at hf; subst hf
      have := hsp b off hb; omega, h.us⟩
theorem LW.app {gl : Nat} {w w' : World} {v u u' : Value} {es us : List En} {e : En} (h : LW gl w v u es us) (hU : EO (gl + 1) gl w' u' (us ++ [e])) (hg : w.grownBy w' u.ownBlock) (hu : u'.ownBlock = u.ownBlock ∨ u'.ownBlock = some w.heap.size) (he : ∀ b off, e.sp = some ⟨b, off, none⟩ → v.ownBlock ≠ some b) : LW gl w' v u' es (us ++ [e]) := by
  have hc := Chg.of_grown hg
  refine ⟨h.A.chg hc (fun e => by have := own_ge h.U.own _ e; omega), h.E.chg hc (fun k hk hs => h.ne k hk hs) (fun f hf b off hb hs => h.ap1 f hf b off hb hs), hU, ?_, ?_, ?_⟩
  · intro k hk hk'
    rcases hu with hu | hu
    · exact h.ne k hk (hu.symm.trans hk')
    · have := Option.some.inj (hu.symm.trans hk'); have := own_lt h.E.own hk; omega
  · intro f hf b off hb hk'
    rcases hu with hu | hu
    · exact h.ap1 f hf b off hb (hu.symm.trans hk')
    · have := Option.some.inj (hu.symm.trans hk'); have := h.E.ap f hf b off hb; omega
  · intro f hf b off hb
    rcases List.mem_append.1 hf with hf | hf
    · exact h.ap2 f hf b off hb
    · simp at hf; subst hf; exact he b off hb

/-- Bytes that Spoil may write over: none, or a row in a block from N on that is not x. -/
def SpOK (N : Nat) (x : Option Nat) (w : World) (e : En) : Prop :=
  (e.sp = none ∧ e.n = 0 ∧ e.cap = 0) ∨ ∃ g C, e.sp = some ⟨g, 0, none⟩ ∧ N ≤ g ∧ x ≠ some g ∧ Arr w g 5 C ∧ C.size = e.cap ∧ e.n ≤ e.cap ∧ e.cap ≤ maxLen ∧ e.n ≤ 1000000000
theorem OW.spok {N : Nat} {x : Option Nat} {w : World} {e : En} (h : OW w N e) (hx : ∀ b off, e.sp = some ⟨b, off, none⟩ → x ≠ some b) (hn : e.n ≤ 1000000000) : SpOK N x w e := by
  rcases h.2 with ⟨h', -⟩ | ⟨g, cap, cur, h', hg, hA, hc, hm, hs, -⟩
  · simp at h'; exact .inl h'
  · simp at h'
    obtain ⟨e1, e2⟩ := h'
    subst e2
    exact .inr ⟨g, cur, e1, hg, hx g 0 e1, hA, by omega, hc, hm, hn⟩
theorem spoil_en (N : Nat) (x : Option Nat) (e : En) (y : Int) (hy : 0 ≤ y ∧ y ≤ 255) (w : World) (h : SpOK N x w e) (hN : N ≤ w.heap.size) :
    Calls Try.prog 22 #[.slice e.sp e.n e.cap, .int .u8 y] w fun r w' => r = .returned (.tuple #[]) ∧ Chg (fun b => e.sp = some ⟨b, 0, none⟩) w w' ∧ Below N w w' ∧ (∀ k, x = some k → k < w.heap.size → w'.heap[k]? = w.heap[k]?) ∧ ∀ f, SpOK N x w f → SpOK N x w' f := by
  rcases h with ⟨h1, h2, h3⟩ | ⟨g, C, h1, hg, hx, hA, hC, hc, hm, hn⟩
  · rw [h1, h2, h3]
    refine (spoil_nil y w hy).mono ?_
    rintro r w' ⟨rfl, hb⟩
    refine ⟨rfl, Chg.of_below hb, hb.mono hN, fun k _ hk => hb.block k hk, fun f hf => ?_⟩
    rcases hf with hf | ⟨g, C, e1, e2, e3, e4, e5⟩
    · exact .inl hf
    · exact .inr ⟨g, C, e1, e2, e3, e4.bel hb, e5⟩
  · rw [h1]
    refine (spoil_some g e.n e.cap y C w hA hC hc hm hn hy).mono ?_
    rintro r w' ⟨rfl, hb, C', hA', hC'⟩
    refine ⟨rfl, hb.mono (fun i _ hi => by rw [hi]), ⟨hb.os, hb.tape, hb.output, hb.size, fun k hk => hb.block k (by omega) (by omega)⟩, fun k hk hlt => hb.block k hlt (fun e => hx (by rw [hk, e])), fun f hf => ?_⟩
    rcases hf with hf | ⟨g', D, e1, e2, e3, e4, e5, e6⟩
    · exact .inl hf
    · by_cases hgg : g' = g
      · subst hgg
        have : D = C := by have h1 := e4.symm.trans hA; cases h1; rfl
        subst this
        exact .inr ⟨g', C', e1, e2, e3, hA', by omega, e6⟩
      · exact .inr ⟨g', D, e1, e2, e3, e4.chg hb hgg, e5, e6⟩

/-- Byte strings in a row. -/
structure BL (N : Nat) (w : World) (sp : Option Addr) (n cap : Nat) (es : List En) : Prop where
  len : Hid (n = es.length)
  at0 : 0 < n → ∃ g off, sp = some ⟨g, off, none⟩ ∧ g < N ∧ ∀ i e, es[i]? = some e → w.cell? ⟨g, off + i, none⟩ = some (.slice e.sp e.n e.cap)
  ok : ∀ e ∈ es, BS N w e.sp e.n e.cap e.bs ∧ e.n ≤ 1000000000
theorem BL.below {N : Nat} {w w' : World} {sp : Option Addr} {n cap : Nat} {es : List En} (h : BL N w sp n cap es) (hb : Below N w w') : BL N w' sp n cap es :=
  ⟨h.len, fun h0 => let ⟨b, off, e, hbN, hB⟩ := h.at0 h0; ⟨b, off, e, hbN, fun i X hX => (World.cell?_of_block (w := w) (a := ⟨b, off + i, none⟩) (hb.block b hbN)).trans (hB i X hX)⟩, fun e he => ⟨(h.ok e he).1.below hb, (h.ok e he).2⟩⟩

end Go.Proofs.Ytgjnbpimldjkpaa
