/- Layer rlp: items in memory, and the forms that they have. -/
import Derived.Test.YtbjlmekafnpllabRh
namespace Go.Proofs.Ytbjlmekafnpllab
open Go.RowKit
set_option linter.unusedVariables false
set_option linter.unusedSimpArgs false

/-- A slice of items in blocks below N: the items, one behind the other. -/
structure IS (N : Nat) (w : World) (sp : Option Addr) (n cap : Nat) (vs : List Value) : Prop where
  len : Hid (n = vs.length)
  nil : sp = none → n = 0 ∧ cap = 0
  le : n ≤ cap
  big : cap ≤ 9223372036854775807
  small : n ≤ 140737488355328
  at0 : 0 < n → ∃ g off, sp = some ⟨g, off, none⟩ ∧ g < N ∧ ∀ i v, vs[i]? = some v → ∃ a b c, v = .agg #[a, b, c] ∧ w.cell? ⟨g, off + 3 * i, none⟩ = some a ∧ w.cell? ⟨g, off + 3 * i + 1, none⟩ = some b ∧ w.cell? ⟨g, off + 3 * i + 2, none⟩ = some c
theorem IS.mono {N N' : Nat} {w : World} {sp : Option Addr} {n cap : Nat} {L : List Value} (h : IS N w sp n cap L) (hN : N ≤ N') : IS N' w sp n cap L :=
  ⟨h.len, h.nil, h.le, h.big, h.small, fun h0 => let ⟨b, off, e, hb, hB⟩ := h.at0 h0; ⟨b, off, e, by omega, hB⟩⟩
theorem IS.below {N : Nat} {w w' : World} {sp : Option Addr} {n cap : Nat} {L : List Value} (h : IS N w sp n cap L) (hb : Below N w w') : IS N w' sp n cap L :=
  ⟨h.len, h.nil, h.le, h.big, h.small, fun h0 => by
    obtain ⟨g, off, e, hg, hB⟩ := h.at0 h0
    refine ⟨g, off, e, hg, fun i v hv => ?_⟩
    obtain ⟨a, b, c, e1, h1, h2, h3⟩ := hB i v hv
    exact ⟨a, b, c, e1, (hb.cell (p := ⟨g, _, none⟩) hg).trans h1, (hb.cell (p := ⟨g, _, none⟩) hg).trans h2, (hb.cell (p := ⟨g, _, none⟩) hg).trans h3⟩⟩
theorem IS.here {N : Nat} {w : World} {sp : Option Addr} {n cap : Nat} {L : List Value} (h : IS N w sp n cap L) : IS w.heap.size w sp n cap L :=
  ⟨h.len, h.nil, h.le, h.big, h.small, fun h0 => by
    obtain ⟨g, off, e, hg, hB⟩ := h.at0 h0
    have hl := h.len.out
    obtain ⟨a, b, c, e1, h1, h2, h3⟩ := hB 0 _ (List.getElem?_eq_getElem (by omega))
    exact ⟨g, off, e, block_lt_of_cell h1, hB⟩⟩

/-- All forms one behind the other, if all are there. -/
def cat : List (Option (List Int)) → Option (List Int)
  | [] => some []
  | none :: _ => none
  | some F :: r => (cat r).map (F ++ ·)
theorem cat_some {os : List (Option (List Int))} {X : List Int} (h : cat os = some X) : ∃ Fs : List (List Int), os = Fs.map some ∧ X = Fs.flatten := by
  induction os generalizing X with
  | nil => simp [cat] at h; subst h; exact ⟨[], rfl, rfl⟩
  | cons o r ih =>
    cases o with
    | none => simp [cat] at h
    | some F =>
      simp only [cat, Option.map_eq_some_iff] at h
      obtain ⟨Y, hY, rfl⟩ := h
      obtain ⟨Fs, rfl, rfl⟩ := ih hY
      exact ⟨F :: Fs, rfl, by simp⟩
theorem cat_map (Fs : List (List Int)) : cat (Fs.map some) = some Fs.flatten := by
  induction Fs with
  | nil => rfl
  | cons F Fs ih => simp [cat, ih]
theorem cat_app {os ps : List (Option (List Int))} : cat (os ++ ps) = match cat os with | none => none | some X => (cat ps).map (X ++ ·) := by
  induction os with
  | nil => simp [cat]
  | cons o r ih =>
    cases o with
    | none => simp [cat]
    | some F =>
      simp only [List.cons_append, cat, ih]
      cases cat r with
      | none => rfl
      | some X => simp [Function.comp_def]
theorem cat_split {os : List (Option (List Int))} {X Y : List Int} {k : Nat} {o : Option (List Int)} (h : cat os = some X) (hk : cat (os.take k) = some Y) (ho : os[k]? = some o) : ∃ F, o = some F ∧ Y.length + F.length ≤ X.length := by
  obtain ⟨hlt, ho⟩ := List.getElem?_eq_some_iff.1 ho
  have e : os = os.take k ++ (o :: os.drop (k + 1)) := by rw [← ho, ← List.drop_eq_getElem_cons hlt, List.take_append_drop]
  rw [e, cat_app, hk] at h
  cases o with
  | none => simp [cat] at h
  | some F =>
    simp only [cat, Option.map_map, Option.map_eq_some_iff] at h
    obtain ⟨Z, -, rfl⟩ := h
    exact ⟨F, rfl, by simp⟩
theorem cat_next {os : List (Option (List Int))} {Y F : List Int} {k : Nat} (hk : cat (os.take k) = some Y) (ho : os[k]? = some (some F)) : cat (os.take (k + 1)) = some (Y ++ F) := by
  rw [List.take_add_one, ho, cat_app, hk]; simp [cat]

/-- An item's own parts. -/
structure Sh (N : Nat) (w : World) (v : Value) (l : Bool) (sp : Option Addr) (n cap : Nat) (bs : List Int) (sq : Option Addr) (k cq : Nat) (vs : List Value) : Prop where
  eq : v = .agg #[.bool l, .slice sp n cap, .slice sq k cq]
  bytes : BS N w sp n cap bs
  list : IS N w sq k cq vs
/-- An item in memory, in blocks below N, and its form if it has one, of so many lists in lists at most. -/
def Is (N : Nat) (w : World) : Nat → Value → Option (List Int) → Prop
  | 0, v, o => ∃ l sp n cap bs sq k cq vs, Sh N w v l sp n cap bs sq k cq vs ∧ ((l = false ∧ o = if k = 0 then some (wrap false bs) else none) ∨ (l = true ∧ o = none))
  | d + 1, v, o => ∃ l sp n cap bs sq k cq vs, Sh N w v l sp n cap bs sq k cq vs ∧ ((l = false ∧ o = if k = 0 then some (wrap false bs) else none) ∨
      (l = true ∧ 0 < n ∧ o = none) ∨ (l = true ∧ n = 0 ∧ ∃ os : List (Option (List Int)), os.length = vs.length ∧ (∀ (i : Nat) v o, vs[i]? = some v → os[i]? = some o → Is N w d v o) ∧ o = (cat os).map (wrap true)))
theorem Sh.mono {N N' : Nat} {w : World} {v : Value} {l : Bool} {sp : Option Addr} {n cap : Nat} {bs : List Int} {sq : Option Addr} {k cq : Nat} {vs : List Value} (h : Sh N w v l sp n cap bs sq k cq vs) (hN : N ≤ N') : Sh N' w v l sp n cap bs sq k cq vs :=
  ⟨h.eq, h.bytes.mono hN, h.list.mono hN⟩
theorem Sh.below {N : Nat} {w w' : World} {v : Value} {l : Bool} {sp : Option Addr} {n cap : Nat} {bs : List Int} {sq : Option Addr} {k cq : Nat} {vs : List Value} (h : Sh N w v l sp n cap bs sq k cq vs) (hb : Below N w w') : Sh N w' v l sp n cap bs sq k cq vs :=
  ⟨h.eq, h.bytes.below hb, h.list.below hb⟩
theorem Sh.here {N : Nat} {w : World} {v : Value} {l : Bool} {sp : Option Addr} {n cap : Nat} {bs : List Int} {sq : Option Addr} {k cq : Nat} {vs : List Value} (h : Sh N w v l sp n cap bs sq k cq vs) : Sh w.heap.size w v l sp n cap bs sq k cq vs :=
  ⟨h.eq, h.bytes.here, h.list.here⟩
theorem Is.mono {N N' : Nat} {w : World} (hN : N ≤ N') : ∀ {d : Nat} {v : Value} {o : Option (List Int)}, Is N w d v o → Is N' w d v o
  | 0, v, o, h => by
    obtain ⟨l, sp, n, cap, bs, sq, k, cq, vs, hs, h⟩ := h
    exact ⟨l, sp, n, cap, bs, sq, k, cq, vs, hs.mono hN, h⟩
  | d + 1, v, o, h => by
    obtain ⟨l, sp, n, cap, bs, sq, k, cq, vs, hs, h⟩ := h
    refine ⟨l, sp, n, cap, bs, sq, k, cq, vs, hs.mono hN, ?_⟩
    rcases h with h | h | ⟨h1, h2, os, h3, h4, h5⟩
    · exact .inl h
    · exact .inr (.inl h)
    · exact .inr (.inr ⟨h1, h2, os, h3, fun i v o hv ho => (h4 i v o hv ho).mono hN, h5⟩)
theorem Is.below {N : Nat} {w w' : World} (hb : Below N w w') : ∀ {d : Nat} {v : Value} {o : Option (List Int)}, Is N w d v o → Is N w' d v o
  | 0, v, o, h => by
    obtain ⟨l, sp, n, cap, bs, sq, k, cq, vs, hs, h⟩ := h
    exact ⟨l, sp, n, cap, bs, sq, k, cq, vs, hs.below hb, h⟩
  | d + 1, v, o, h => by
    obtain ⟨l, sp, n, cap, bs, sq, k, cq, vs, hs, h⟩ := h
    refine ⟨l, sp, n, cap, bs, sq, k, cq, vs, hs.below hb, ?_⟩
    rcases h with h | h | ⟨h1, h2, os, h3, h4, h5⟩
    · exact .inl h
    · exact .inr (.inl h)
    · exact .inr (.inr ⟨h1, h2, os, h3, fun i v o hv ho => (h4 i v o hv ho).below hb, h5⟩)
theorem Is.here {N : Nat} {w : World} : ∀ {d : Nat} {v : Value} {o : Option (List Int)}, Is N w d v o → Is w.heap.size w d v o
  | 0, v, o, h => by
    obtain ⟨l, sp, n, cap, bs, sq, k, cq, vs, hs, h⟩ := h
    exact ⟨l, sp, n, cap, bs, sq, k, cq, vs, hs.here, h⟩
  | d + 1, v, o, h => by
    obtain ⟨l, sp, n, cap, bs, sq, k, cq, vs, hs, h⟩ := h
    refine ⟨l, sp, n, cap, bs, sq, k, cq, vs, hs.here, ?_⟩
    rcases h with h | h | ⟨h1, h2, os, h3, h4, h5⟩
    · exact .inl h
    · exact .inr (.inl h)
    · exact .inr (.inr ⟨h1, h2, os, h3, fun i v o hv ho => (h4 i v o hv ho).here, h5⟩)
theorem Is.sh {N : Nat} {w : World} {d : Nat} {v : Value} {o : Option (List Int)} (h : Is N w d v o) : ∃ l sp n cap bs sq k cq vs, Sh N w v l sp n cap bs sq k cq vs := by
  cases d with
  | zero => obtain ⟨l, sp, n, cap, bs, sq, k, cq, vs, hs, h⟩ := h; exact ⟨l, sp, n, cap, bs, sq, k, cq, vs, hs⟩
  | succ d => obtain ⟨l, sp, n, cap, bs, sq, k, cq, vs, hs, h⟩ := h; exact ⟨l, sp, n, cap, bs, sq, k, cq, vs, hs⟩
theorem Is.fm {N : Nat} {w : World} : ∀ {d : Nat} {v : Value} {F : List Int}, Is N w d v (some F) → Fm d F
  | 0, v, F, h => by
    obtain ⟨l, sp, n, cap, bs, sq, k, cq, vs, hs, ⟨-, h⟩ | ⟨-, h⟩⟩ := h
    · split at h
      · cases h; exact ⟨bs, hs.bytes.bts, rfl⟩
      · cases h
    · cases h
  | d + 1, v, F, h => by
    obtain ⟨l, sp, n, cap, bs, sq, k, cq, vs, hs, ⟨-, h⟩ | ⟨-, -, h⟩ | ⟨-, -, os, h3, h4, h5⟩⟩ := h
    · split at h
      · cases h; exact .inl ⟨bs, hs.bytes.bts, rfl⟩
      · cases h
    · cases h
    · obtain ⟨X, hX, e⟩ := Option.map_eq_some_iff.1 h5.symm
      obtain ⟨Fs, rfl, rfl⟩ := cat_some hX
      refine .inr ⟨Fs, fun f hf => ?_, e.symm⟩
      obtain ⟨i, hi, rfl⟩ := List.mem_iff_getElem.1 hf
      have hiv : i < vs.length := by rw [← h3]; simpa using hi
      exact (h4 i vs[i] (some Fs[i]) (List.getElem?_eq_getElem hiv) (by simp [hi])).fm
theorem Is.bts {N : Nat} {w : World} {d : Nat} {v : Value} {F : List Int} (h : Is N w d v (some F)) : Bts F := h.fm.bts

/-- A slice of one's own stays while others are made. -/
theorem own_below {w w' : World} {base n e s : Nat} {v : Value} {xs : List Value} (h : w.ownsRow base e s v n xs) (hb : Below w.heap.size w w') : w'.ownsRow base e s v n xs := by
  refine ⟨h.1, ?_⟩
  rcases h.2 with hn | ⟨g, cap, cur, rfl, hb0, hgg, rest⟩
  · exact .inl hn
  · refine .inr ⟨g, cap, cur, rfl, hb0, ?_, rest⟩
    rw [hb.block g (Array.getElem?_eq_some_iff.1 hgg).1]
    exact hgg
theorem own_apart {w w' : World} {b1 b2 n m e s : Nat} {v u : Value} {xs ys : List Value} (h : w.ownsRow b1 e s v n xs) (h' : w'.ownsRow b2 e s u m ys) (hb : w.heap.size ≤ b2) : v.ownBlock = none ∨ v.ownBlock ≠ u.ownBlock := by
  cases hv : v.ownBlock with
  | none => exact .inl rfl
  | some k =>
    refine .inr fun e => ?_
    have h1 := h.lt k hv
    have h2 := h'.lt k e.symm
    omega
theorem own_mono {w : World} {b1 b2 n e s : Nat} {v : Value} {xs : List Value} (h : w.ownsRow b1 e s v n xs) (hb : b2 ≤ b1) : w.ownsRow b2 e s v n xs := by
  refine ⟨h.1, ?_⟩
  rcases h.2 with hn | ⟨g, cap, cur, rfl, hb0, rest⟩
  · exact .inl hn
  · exact .inr ⟨g, cap, cur, rfl, by omega, rest⟩
end Go.Proofs.Ytbjlmekafnpllab
