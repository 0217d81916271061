/- Qb, Qc, Qg, Qh, Qi. -/
import Derived.Test.YtoopgppahfnncaaDoorX16
import Derived.Test.YtoopgppahfnncaaDoorX13
import Derived.WideShapes
import Derived.ChangeKeysEq
/- Layer ir, pure: how a statement's text begins; the arguments of a call. -/
namespace Go.Proofs.YtoopgppahfnncaaDoor
open Go.RowKit
set_option maxRecDepth 100000
set_option linter.unusedVariables false
set_option linter.unusedSimpArgs false


theorem ln1 (a : List UInt8) : ln [a] = a ++ [10] := by simp [ln, Lib.join_one]
theorem lnc (a b : List UInt8) (l : List (List UInt8)) : ln (a :: b :: l) = a ++ 32 :: ln (b :: l) := by simp [ln, Lib.join_cons, Lib.joinTail]
theorem l_inj {α : Type} (S : α → List UInt8) (cl : List UInt8 → Int) : ∀ (l l' : List α) (r r' : List UInt8), cl r < 1 → cl r' < 1 → (∀ a ∈ l, ∀ r, 1 ≤ cl (S a ++ r)) → (∀ a ∈ l', ∀ r, 1 ≤ cl (S a ++ r)) →
    (∀ a ∈ l, ∀ a' ∈ l', ∀ r r', S a ++ r = S a' ++ r' → a = a' ∧ r = r') → (l.map S).flatten ++ r = (l'.map S).flatten ++ r' → l = l' ∧ r = r'
  | [], [], _, _, _, _, _, _, _, h => ⟨rfl, h⟩
  | [], b :: l', r, r', hr, _, _, h2, _, h => by
    have := h2 b (List.mem_cons_self ..) ((l'.map S).flatten ++ r')
    rw [List.map_nil, List.flatten_nil, List.nil_append, List.map_cons, List.flatten_cons, List.append_assoc] at h
    rw [← h] at this
    omega
  | b :: l, [], r, r', _, hr, h1, _, _, h => by
    have := h1 b (List.mem_cons_self ..) ((l.map S).flatten ++ r)
    rw [List.map_nil, List.flatten_nil, List.nil_append, List.map_cons, List.flatten_cons, List.append_assoc] at h
    rw [h] at this
    omega
  | a :: l, b :: l', r, r', hr, hr', h1, h2, hi, h => by
    rw [List.map_cons, List.flatten_cons, List.append_assoc, List.map_cons, List.flatten_cons, List.append_assoc] at h
    obtain ⟨rfl, e1⟩ := hi a (List.mem_cons_self ..) b (List.mem_cons_self ..) _ _ h
    obtain ⟨rfl, e2⟩ := l_inj S cl l l' r r' hr hr' (fun a ha => h1 a (List.mem_cons_of_mem _ ha)) (fun a ha => h2 a (List.mem_cons_of_mem _ ha)) (fun a ha b hb => hi a (List.mem_cons_of_mem _ ha) b (List.mem_cons_of_mem _ hb)) e1
    exact ⟨rfl, e2⟩
/-- The kind of a statement, out of its text's first byte (1: what sets a variable). -/
def hs : List UInt8 → Int
  | [] => 0
  | c :: _ => if c = 118 then 1 else if c = 91 then 2 else if c = 105 then 3 else if c = 119 then 4 else if c = 114 then 5 else if c = 104 then 7 else 0
/-- .. out of what is behind the variable. -/
def hz : List UInt8 → Int
  | [] => 0
  | c :: s => if c = 102 then 6 else if c = 112 then (if s.head? = some 114 then 8 else 9) else 1
theorem len0 {α : Type} {l : List α} (h : (l.length : Int) = 0) : l = [] := List.eq_nil_of_length_eq_zero (by omega)
theorem len1 {α : Type} {l : List α} (h : (l.length : Int) = 1) : ∃ x, l = [x] := by
  match l with
  | [] => simp at h
  | [x] => exact ⟨x, rfl⟩
  | _ :: _ :: _ => simp at h; omega
theorem len2 {α : Type} {l : List α} (h : (l.length : Int) = 2) : ∃ x y, l = [x, y] := by
  match l with
  | [] => simp at h
  | [x] => simp at h
  | [x, y] => exact ⟨x, y, rfl⟩
  | _ :: _ :: _ :: _ => simp at h; omega
theorem len3 {α : Type} {l : List α} (h : (l.length : Int) = 3) : ∃ x y z, l = [x, y, z] := by
  match l with
  | [] => simp at h
  | [x] => simp at h
  | [x, y] => simp at h
  | [x, y, z] => exact ⟨x, y, z, rfl⟩
  | _ :: _ :: _ :: _ :: _ => simp at h; omega
theorem mS {α : Type} {ps : List Int} {vs : Int} {s : StN α} (h : mayS ps vs s = true) :
    (s.k = 1 ∧ (∃ x, s.a = [x]) ∧ s.f = 0 ∧ s.t = 0 ∧ s.th = [] ∧ s.el = []) ∨ (s.k = 9 ∧ (∃ x, s.a = [x]) ∧ s.f = 0 ∧ s.t = 0 ∧ s.th = [] ∧ s.el = []) ∨
    (s.k = 2 ∧ (∃ x y, s.a = [x, y]) ∧ s.v = 0 ∧ s.f = 0 ∧ s.t = 0 ∧ s.th = [] ∧ s.el = []) ∨ (s.k = 3 ∧ (∃ x, s.a = [x]) ∧ s.v = 0 ∧ s.f = 0 ∧ s.t = 0) ∨
    (s.k = 4 ∧ (∃ x, s.a = [x]) ∧ s.v = 0 ∧ s.f = 0 ∧ s.t = 0 ∧ s.el = []) ∨ (s.k = 5 ∧ (∃ x, s.a = [x]) ∧ s.v = 0 ∧ s.f = 0 ∧ s.t = 0 ∧ s.th = [] ∧ s.el = []) ∨
    (s.k = 6 ∧ s.t = 0 ∧ s.th = [] ∧ s.el = []) ∨ (s.k = 7 ∧ (∃ x y z, s.a = [x, y, z]) ∧ s.v = 0 ∧ s.f = 0 ∧ s.th = [] ∧ s.el = []) ∨
    (s.k = 8 ∧ (∃ x y, s.a = [x, y]) ∧ s.f = 0 ∧ s.t = 0 ∧ s.th = [] ∧ s.el = []) := by
  unfold mayS at h
  split at h
  next hk =>
    simp only [decide_eq_true_eq] at h
    obtain ⟨-, h2, h3, h4, h5, h6⟩ := h
    rcases hk with hk | hk
    · exact .inl ⟨hk, len1 h2, h3, h4, len0 h5, len0 h6⟩
    · exact .inr (.inl ⟨hk, len1 h2, h3, h4, len0 h5, len0 h6⟩)
  next =>
  split at h
  next hk =>
    simp only [decide_eq_true_eq] at h
    obtain ⟨h1, h2, h3, h4, h5, h6⟩ := h
    exact .inr (.inr (.inl ⟨hk, len2 h1, h2, h3, h4, len0 h5, len0 h6⟩))
  next =>
  split at h
  next hk =>
    simp only [decide_eq_true_eq] at h
    obtain ⟨h1, h2, h3, h4⟩ := h
    exact .inr (.inr (.inr (.inl ⟨hk, len1 h1, h2, h3, h4⟩)))
  next =>
  split at h
  next hk =>
    simp only [decide_eq_true_eq] at h
    obtain ⟨h1, h2, h3, h4, h5⟩ := h
    exact .inr (.inr (.inr (.inr (.inl ⟨hk, len1 h1, h2, h3, h4, len0 h5⟩))))
  next =>
  split at h
  next hk =>
    simp only [decide_eq_true_eq] at h
    obtain ⟨h1, h2, h3, h4, h5, h6⟩ := h
    exact .inr (.inr (.inr (.inr (.inr (.inl ⟨hk, len1 h1, h2, h3, h4, len0 h5, len0 h6⟩)))))
  next =>
  split at h
  next hk =>
    simp only [decide_eq_true_eq] at h
    obtain ⟨-, -, h3, h5, h6⟩ := h
    exact .inr (.inr (.inr (.inr (.inr (.inr (.inl ⟨hk, h3, len0 h5, len0 h6⟩))))))
  next =>
  split at h
  next hk =>
    simp only [decide_eq_true_eq] at h
    obtain ⟨-, -, h1, h2, h3, h5, h6⟩ := h
    exact .inr (.inr (.inr (.inr (.inr (.inr (.inr (.inl ⟨hk, len3 h1, h2, h3, len0 h5, len0 h6⟩)))))))
  next =>
  split at h
  next hk =>
    simp only [decide_eq_true_eq] at h
    obtain ⟨-, h1, h2, h3, h5, h6⟩ := h
    exact .inr (.inr (.inr (.inr (.inr (.inr (.inr (.inr ⟨hk, len2 h1, h2, h3, len0 h5, len0 h6⟩)))))))
  next => cases h

theorem cw_ne (l : List (List UInt8)) : ∃ b m, cw l ++ [[41]] = b :: m := by
  cases h : cw l ++ [[41]] with
  | nil => simp at h
  | cons b m => exact ⟨b, m, rfl⟩
theorem s1 {α : Type} (S : α → List UInt8) (v f t : Int) (x : ExT 8) (th el : List α) (r : List UInt8) : sTn S ⟨1, v, f, t, [x], th, el⟩ ++ r = 118 :: (Lib.itoa v ++ 32 :: 61 :: 32 :: (xT 8 x ++ 10 :: r)) := by
  simp [sTn, lnc, ln1, vT, cWords]
theorem s9 {α : Type} (S : α → List UInt8) (v f t : Int) (x : ExT 8) (th el : List α) (r : List UInt8) : sTn S ⟨9, v, f, t, [x], th, el⟩ ++ r = 118 :: (Lib.itoa v ++ 32 :: 61 :: 32 :: 112 :: 108 :: 101 :: 110 :: 32 :: (xT 8 x ++ 10 :: r)) := by
  simp [sTn, lnc, ln1, vT, cWords]
theorem s8 {α : Type} (S : α → List UInt8) (v f t : Int) (x y : ExT 8) (th el : List α) (r : List UInt8) : sTn S ⟨8, v, f, t, [x, y], th, el⟩ ++ r = 118 :: (Lib.itoa v ++ 32 :: 61 :: 32 :: 112 :: 114 :: 101 :: 32 :: (xT 8 x ++ 32 :: (xT 8 y ++ 10 :: r))) := by
  simp [sTn, lnc, ln1, vT, cWords]
theorem s6 {α : Type} (S : α → List UInt8) (v f t : Int) (a : List (ExT 8)) (th el : List α) (r : List UInt8) : sTn S ⟨6, v, f, t, a, th, el⟩ ++ r = 118 :: (Lib.itoa v ++ 32 :: 61 :: 32 :: 102 :: (Lib.itoa f ++ 32 :: 40 :: 32 :: (ln (cw (a.map (xT 8)) ++ [[41]]) ++ r))) := by
  obtain ⟨b, m, e⟩ := cw_ne (a.map (xT 8))
  have h : sTn S ⟨6, v, f, t, a, th, el⟩ = ln (cWords v f (a.map (xT 8))) := by simp [sTn]
  rw [h]
  unfold cWords
  rw [List.append_assoc, e]
  simp [lnc, vT]
theorem s2 {α : Type} (S : α → List UInt8) (v f t : Int) (x y : ExT 8) (th el : List α) (r : List UInt8) : sTn S ⟨2, v, f, t, [x, y], th, el⟩ ++ r = 91 :: 32 :: (xT 8 x ++ 32 :: 93 :: 32 :: 61 :: 32 :: (xT 8 y ++ 10 :: r)) := by
  simp [sTn, lnc, ln1, vT, cWords]
theorem s3 {α : Type} (S : α → List UInt8) (v f t : Int) (x : ExT 8) (th el : List α) (r : List UInt8) : sTn S ⟨3, v, f, t, [x], th, el⟩ ++ r = 105 :: 102 :: 32 :: (xT 8 x ++ 10 :: ((th.map S).flatten ++ 101 :: 108 :: 115 :: 101 :: 10 :: ((el.map S).flatten ++ 101 :: 110 :: 100 :: 10 :: r))) := by
  simp [sTn, lnc, ln1, vT, cWords]
theorem s4 {α : Type} (S : α → List UInt8) (v f t : Int) (x : ExT 8) (th el : List α) (r : List UInt8) : sTn S ⟨4, v, f, t, [x], th, el⟩ ++ r = 119 :: 104 :: 105 :: 108 :: 101 :: 32 :: (xT 8 x ++ 10 :: ((th.map S).flatten ++ 101 :: 110 :: 100 :: 10 :: r)) := by
  simp [sTn, lnc, ln1, vT, cWords]
theorem s5 {α : Type} (S : α → List UInt8) (v f t : Int) (x : ExT 8) (th el : List α) (r : List UInt8) : sTn S ⟨5, v, f, t, [x], th, el⟩ ++ r = 114 :: 101 :: 116 :: 117 :: 114 :: 110 :: 32 :: (xT 8 x ++ 10 :: r) := by
  simp [sTn, lnc, ln1, vT, cWords]
theorem s7 {α : Type} (S : α → List UInt8) (v f t : Int) (x y z : ExT 8) (th el : List α) (r : List UInt8) : sTn S ⟨7, v, f, t, [x, y, z], th, el⟩ ++ r = 104 :: 97 :: 115 :: 104 :: 32 :: (Lib.itoa t ++ 32 :: (xT 8 x ++ 32 :: (xT 8 y ++ 32 :: (xT 8 z ++ 10 :: r)))) := by
  simp [sTn, lnc, ln1, vT, cWords]

theorem hz_x {vs : Int} {x : ExT 8} (h : okT vs 8 x) (r : List UInt8) : hz (xT 8 x ++ r) = 1 := by
  have h1 := hc_xT 8 x h r
  cases e : xT 8 x ++ r with
  | nil => rw [e] at h1; exact absurd h1 (by decide)
  | cons c s =>
    rw [e] at h1
    have h2 : c ≠ 102 := fun e => by subst e; exact absurd h1 (by show ¬ ((1 : Int) ≤ 0); omega)
    have h3 : c ≠ 112 := fun e => by subst e; exact absurd h1 (by show ¬ ((1 : Int) ≤ 0); omega)
    show (if c = 102 then (6 : Int) else if c = 112 then (if s.head? = some 114 then 8 else 9) else 1) = 1
    rw [if_neg h2, if_neg h3]
/-- What a statement's text begins with. -/
theorem s_hd {α : Type} (S : α → List UInt8) {ps : List Int} {vs vs' : Int} (s : StN α) (h : mayS ps vs s = true) (ha : ∀ x ∈ s.a, okT vs' 8 x) (r : List UInt8) :
    ((s.k = 2 ∨ s.k = 3 ∨ s.k = 4 ∨ s.k = 5 ∨ s.k = 7) ∧ hs (sTn S s ++ r) = s.k) ∨ (hs (sTn S s ++ r) = 1 ∧ ∃ Z, sTn S s ++ r = 118 :: (Lib.itoa s.v ++ 32 :: 61 :: 32 :: Z) ∧ hz Z = s.k) := by
  obtain ⟨k, v, f, t, a, th, el⟩ := s
  rcases mS h with ⟨h1, ⟨x, h2⟩, -⟩ | ⟨h1, ⟨x, h2⟩, -⟩ | ⟨h1, ⟨x, y, h2⟩, -⟩ | ⟨h1, ⟨x, h2⟩, -⟩ | ⟨h1, ⟨x, h2⟩, -⟩ | ⟨h1, ⟨x, h2⟩, -⟩ | ⟨h1, -⟩ | ⟨h1, ⟨x, y, z, h2⟩, -⟩ | ⟨h1, ⟨x, y, h2⟩, -⟩ <;> simp only at h1 <;> subst h1 <;> try (simp only at h2; subst h2)
  · rw [s1]; exact .inr ⟨rfl, _, rfl, hz_x (ha x (by simp)) _⟩
  · rw [s9]; exact .inr ⟨rfl, _, rfl, rfl⟩
  · rw [s2]; exact .inl ⟨.inl rfl, rfl⟩
  · rw [s3]; exact .inl ⟨.inr (.inl rfl), rfl⟩
  · rw [s4]; exact .inl ⟨.inr (.inr (.inl rfl)), rfl⟩
  · rw [s5]; exact .inl ⟨.inr (.inr (.inr (.inl rfl))), rfl⟩
  · rw [s6]; exact .inr ⟨rfl, _, rfl, rfl⟩
  · rw [s7]; exact .inl ⟨.inr (.inr (.inr (.inr rfl))), rfl⟩
  · rw [s8]; exact .inr ⟨rfl, _, rfl, rfl⟩
theorem hs_s {α : Type} (S : α → List UInt8) {ps : List Int} {vs vs' : Int} (s : StN α) (h : mayS ps vs s = true) (ha : ∀ x ∈ s.a, okT vs' 8 x) (r : List UInt8) : 1 ≤ hs (sTn S s ++ r) := by
  rcases s_hd S s h ha r with ⟨h1, h2⟩ | ⟨h1, -⟩ <;> omega
theorem k_eq {α : Type} (S : α → List UInt8) {ps ps' : List Int} {vs vs' us us' : Int} (s s' : StN α) (h : mayS ps vs s = true) (h' : mayS ps' us s' = true) (ha : ∀ x ∈ s.a, okT vs' 8 x) (ha' : ∀ x ∈ s'.a, okT us' 8 x) (r r' : List UInt8) (e : sTn S s ++ r = sTn S s' ++ r') : s.k = s'.k := by
  rcases s_hd S s h ha r with ⟨h1, h2⟩ | ⟨h1, Z, h2, h3⟩
  · rcases s_hd S s' h' ha' r' with ⟨g1, g2⟩ | ⟨g1, -⟩
    · rw [← h2, ← g2, e]
    · rw [e] at h2; omega
  · rcases s_hd S s' h' ha' r' with ⟨g1, g2⟩ | ⟨g1, Z', g2, g3⟩
    · rw [e] at h1; omega
    · rw [h2, g2] at e
      simp only [List.cons.injEq, true_and] at e
      obtain ⟨-, e2⟩ := wd_inj (io_wd _) (io_wd _) (dl32 _) (dl32 _) e
      simp only [List.cons.injEq, true_and] at e2
      rw [← h3, ← g3, e2]
/-- The arguments of a call. -/
theorem tl_inj {vs vs' : Int} : ∀ (l l' : List (ExT 8)) (r r' : List UInt8), (∀ x ∈ l, okT vs 8 x) → (∀ x ∈ l', okT vs' 8 x) →
    ln (((l.map (xT 8)).flatMap fun y => [[44], y]) ++ [[41]]) ++ r = ln (((l'.map (xT 8)).flatMap fun y => [[44], y]) ++ [[41]]) ++ r' → l = l' ∧ r = r'
  | [], [], r, r', _, _, h => by
    simp [ln1] at h
    exact ⟨rfl, h⟩
  | [], y :: l', r, r', _, _, h => by
    simp [ln1, lnc] at h
  | y :: l, [], r, r', _, _, h => by
    simp [ln1, lnc] at h
  | x :: l, y :: l', r, r', h1, h2, h => by
    obtain ⟨b, m, e⟩ : ∃ b m, ((l.map (xT 8)).flatMap fun y => [[44], y]) ++ [[41]] = b :: m := by
      cases h : ((l.map (xT 8)).flatMap fun y => [[44], y]) ++ [[41]] with
      | nil => simp at h
      | cons b m => exact ⟨b, m, rfl⟩
    obtain ⟨b', m', e'⟩ : ∃ b m, ((l'.map (xT 8)).flatMap fun y => [[44], y]) ++ [[41]] = b :: m := by
      cases h : ((l'.map (xT 8)).flatMap fun y => [[44], y]) ++ [[41]] with
      | nil => simp at h
      | cons b m => exact ⟨b, m, rfl⟩
    have k1 : ln ((((x :: l).map (xT 8)).flatMap fun y => [[44], y]) ++ [[41]]) ++ r = 44 :: 32 :: (xT 8 x ++ 32 :: (ln (((l.map (xT 8)).flatMap fun y => [[44], y]) ++ [[41]]) ++ r)) := by
      rw [List.map_cons, List.flatMap_cons, List.append_assoc, e]; simp [lnc]
    have k2 : ln ((((y :: l').map (xT 8)).flatMap fun y => [[44], y]) ++ [[41]]) ++ r' = 44 :: 32 :: (xT 8 y ++ 32 :: (ln (((l'.map (xT 8)).flatMap fun y => [[44], y]) ++ [[41]]) ++ r')) := by
      rw [List.map_cons, List.flatMap_cons, List.append_assoc, e']; simp [lnc]
    rw [k1, k2] at h
    simp only [List.cons.injEq, true_and] at h
    obtain ⟨rfl, g⟩ := x_inj 8 x y (h1 x (List.mem_cons_self ..)) (h2 y (List.mem_cons_self ..)) _ _ (dl32 _) (dl32 _) h
    simp only [List.cons.injEq, true_and] at g
    obtain ⟨rfl, g2⟩ := tl_inj l l' r r' (fun a ha => h1 a (List.mem_cons_of_mem _ ha)) (fun a ha => h2 a (List.mem_cons_of_mem _ ha)) g
    exact ⟨rfl, g2⟩
theorem cw_form (x : ExT 8) (l : List (ExT 8)) (r : List UInt8) : ln (cw ((x :: l).map (xT 8)) ++ [[41]]) ++ r = xT 8 x ++ 32 :: (ln (((l.map (xT 8)).flatMap fun y => [[44], y]) ++ [[41]]) ++ r) := by
  obtain ⟨b, m, e⟩ : ∃ b m, ((l.map (xT 8)).flatMap fun y => [[44], y]) ++ [[41]] = b :: m := by
    cases h : ((l.map (xT 8)).flatMap fun y => [[44], y]) ++ [[41]] with
    | nil => simp at h
    | cons b m => exact ⟨b, m, rfl⟩
  rw [List.map_cons]
  unfold cw
  rw [List.cons_append, e]
  simp [lnc]
theorem cw_inj {vs vs' : Int} (l l' : List (ExT 8)) (r r' : List UInt8) (h1 : ∀ x ∈ l, okT vs 8 x) (h2 : ∀ x ∈ l', okT vs' 8 x)
    (h : ln (cw (l.map (xT 8)) ++ [[41]]) ++ r = ln (cw (l'.map (xT 8)) ++ [[41]]) ++ r') : l = l' ∧ r = r' := by
  have h0 : ∀ r, ln (cw (([] : List (ExT 8)).map (xT 8)) ++ [[41]]) ++ r = 41 :: 10 :: r := fun r => by simp [cw, ln1]
  match l, l' with
  | [], [] =>
    rw [h0, h0] at h
    simp only [List.cons.injEq, true_and] at h
    exact ⟨rfl, h⟩
  | [], y :: l' =>
    rw [h0, cw_form] at h
    have g := hc_xT 8 y (h2 y (List.mem_cons_self ..)) (32 :: (ln (((l'.map (xT 8)).flatMap fun y => [[44], y]) ++ [[41]]) ++ r'))
    rw [← h] at g
    exact absurd g (by show ¬ ((1 : Int) ≤ 0); omega)
  | x :: l, [] =>
    rw [h0, cw_form] at h
    have g := hc_xT 8 x (h1 x (List.mem_cons_self ..)) (32 :: (ln (((l.map (xT 8)).flatMap fun y => [[44], y]) ++ [[41]]) ++ r))
    rw [h] at g
    exact absurd g (by show ¬ ((1 : Int) ≤ 0); omega)
  | x :: l, y :: l' =>
    rw [cw_form, cw_form] at h
    obtain ⟨rfl, g⟩ := x_inj 8 x y (h1 x (List.mem_cons_self ..)) (h2 y (List.mem_cons_self ..)) _ _ (dl32 _) (dl32 _) h
    simp only [List.cons.injEq, true_and] at g
    obtain ⟨rfl, g2⟩ := tl_inj l l' r r' (fun a ha => h1 a (List.mem_cons_of_mem _ ha)) (fun a ha => h2 a (List.mem_cons_of_mem _ ha)) g
    exact ⟨rfl, g2⟩
end Go.Proofs.YtoopgppahfnncaaDoor
/- Layer ir, pure: a text is of one program alone. -/
namespace Go.Proofs.YtoopgppahfnncaaDoor
open Go.RowKit
set_option maxRecDepth 100000
set_option linter.unusedVariables false
set_option linter.unusedSimpArgs false


theorem sn_inj {α : Type} (S : α → List UInt8) {ps ps' : List Int} {vs vs' us us' : Int} (s s' : StN α) (h : mayS ps vs s = true) (h' : mayS ps' us s' = true) (ha : ∀ x ∈ s.a, okT vs' 8 x) (ha' : ∀ x ∈ s'.a, okT us' 8 x)
    (iT : ∀ a ∈ s.th, ∀ r, 1 ≤ hs (S a ++ r)) (iE : ∀ a ∈ s.el, ∀ r, 1 ≤ hs (S a ++ r)) (jT : ∀ a ∈ s'.th, ∀ r, 1 ≤ hs (S a ++ r)) (jE : ∀ a ∈ s'.el, ∀ r, 1 ≤ hs (S a ++ r))
    (uT : ∀ a ∈ s.th, ∀ a' ∈ s'.th, ∀ r r', S a ++ r = S a' ++ r' → a = a' ∧ r = r') (uE : ∀ a ∈ s.el, ∀ a' ∈ s'.el, ∀ r r', S a ++ r = S a' ++ r' → a = a' ∧ r = r')
    (r r' : List UInt8) (e : sTn S s ++ r = sTn S s' ++ r') : s = s' ∧ r = r' := by
  have hk := k_eq S s s' h h' ha ha' r r' e
  have h101 : ∀ q : List UInt8, hs (101 :: q) < 1 := fun q => by show (0 : Int) < 1; omega
  obtain ⟨k, v, f, t, a, th, el⟩ := s
  obtain ⟨k', v', f', t', a', th', el'⟩ := s'
  simp only at hk ha ha' iT iE jT jE uT uE
  subst hk
  have m := mS h
  have m' := mS h'
  simp only at m m'
  clear h h'
  rcases m with ⟨h1, ⟨x, h2⟩, h3, h4, h5, h6⟩ | ⟨h1, ⟨x, h2⟩, h3, h4, h5, h6⟩ | ⟨h1, ⟨x, y, h2⟩, h7, h3, h4, h5, h6⟩ | ⟨h1, ⟨x, h2⟩, h7, h3, h4⟩ | ⟨h1, ⟨x, h2⟩, h7, h3, h4, h6⟩ | ⟨h1, ⟨x, h2⟩, h7, h3, h4, h5, h6⟩ | ⟨h1, h4, h5, h6⟩ | ⟨h1, ⟨x, y, z, h2⟩, h7, h3, h5, h6⟩ | ⟨h1, ⟨x, y, h2⟩, h3, h4, h5, h6⟩
  · subst h1
    rcases m' with ⟨g1, ⟨x', g2⟩, g3, g4, g5, g6⟩ | ⟨g1, ⟨x', g2⟩, g3, g4, g5, g6⟩ | ⟨g1, ⟨x', y', g2⟩, g7, g3, g4, g5, g6⟩ | ⟨g1, ⟨x', g2⟩, g7, g3, g4⟩ | ⟨g1, ⟨x', g2⟩, g7, g3, g4, g6⟩ | ⟨g1, ⟨x', g2⟩, g7, g3, g4, g5, g6⟩ | ⟨g1, g4, g5, g6⟩ | ⟨g1, ⟨x', y', z', g2⟩, g7, g3, g5, g6⟩ | ⟨g1, ⟨x', y', g2⟩, g3, g4, g5, g6⟩ <;> try (exfalso; omega)
    subst h2
    subst h3
    subst h4
    subst h5
    subst h6
    subst g2
    subst g3
    subst g4
    subst g5
    subst g6
    rw [s1, s1] at e
    simp only [List.cons.injEq, true_and] at e
    obtain ⟨qe1, e1⟩ := wd_inj (io_wd _) (io_wd _) (dl32 _) (dl32 _) e
    obtain rfl := io_inj qe1
    simp only [List.cons.injEq, true_and] at e1
    obtain ⟨rfl, e2⟩ := x_inj 8 x x' (ha x (by simp)) (ha' x' (by simp)) _ _ (dl10 _) (dl10 _) e1
    simp only [List.cons.injEq, true_and] at e2
    exact ⟨rfl, e2⟩
  · subst h1
    rcases m' with ⟨g1, ⟨x', g2⟩, g3, g4, g5, g6⟩ | ⟨g1, ⟨x', g2⟩, g3, g4, g5, g6⟩ | ⟨g1, ⟨x', y', g2⟩, g7, g3, g4, g5, g6⟩ | ⟨g1, ⟨x', g2⟩, g7, g3, g4⟩ | ⟨g1, ⟨x', g2⟩, g7, g3, g4, g6⟩ | ⟨g1, ⟨x', g2⟩, g7, g3, g4, g5, g6⟩ | ⟨g1, g4, g5, g6⟩ | ⟨g1, ⟨x', y', z', g2⟩, g7, g3, g5, g6⟩ | ⟨g1, ⟨x', y', g2⟩, g3, g4, g5, g6⟩ <;> try (exfalso; omega)
    subst h2
    subst h3
    subst h4
    subst h5
    subst h6
    subst g2
    subst g3
    subst g4
    subst g5
    subst g6
    rw [s9, s9] at e
    simp only [List.cons.injEq, true_and] at e
    obtain ⟨qe1, e1⟩ := wd_inj (io_wd _) (io_wd _) (dl32 _) (dl32 _) e
    obtain rfl := io_inj qe1
    simp only [List.cons.injEq, true_and] at e1
    obtain ⟨rfl, e2⟩ := x_inj 8 x x' (ha x (by simp)) (ha' x' (by simp)) _ _ (dl10 _) (dl10 _) e1
    simp only [List.cons.injEq, true_and] at e2
    exact ⟨rfl, e2⟩
  · subst h1
    rcases m' with ⟨g1, ⟨x', g2⟩, g3, g4, g5, g6⟩ | ⟨g1, ⟨x', g2⟩, g3, g4, g5, g6⟩ | ⟨g1, ⟨x', y', g2⟩, g7, g3, g4, g5, g6⟩ | ⟨g1, ⟨x', g2⟩, g7, g3, g4⟩ | ⟨g1, ⟨x', g2⟩, g7, g3, g4, g6⟩ | ⟨g1, ⟨x', g2⟩, g7, g3, g4, g5, g6⟩ | ⟨g1, g4, g5, g6⟩ | ⟨g1, ⟨x', y', z', g2⟩, g7, g3, g5, g6⟩ | ⟨g1, ⟨x', y', g2⟩, g3, g4, g5, g6⟩ <;> try (exfalso; omega)
    subst h2
    subst h7
    subst h3
    subst h4
    subst h5
    subst h6
    subst g2
    subst g7
    subst g3
    subst g4
    subst g5
    subst g6
    rw [s2, s2] at e
    simp only [List.cons.injEq, true_and] at e
    obtain ⟨rfl, e1⟩ := x_inj 8 x x' (ha x (by simp)) (ha' x' (by simp)) _ _ (dl32 _) (dl32 _) e
    simp only [List.cons.injEq, true_and] at e1
    obtain ⟨rfl, e2⟩ := x_inj 8 y y' (ha y (by simp)) (ha' y' (by simp)) _ _ (dl10 _) (dl10 _) e1
    simp only [List.cons.injEq, true_and] at e2
    exact ⟨rfl, e2⟩
  · subst h1
    rcases m' with ⟨g1, ⟨x', g2⟩, g3, g4, g5, g6⟩ | ⟨g1, ⟨x', g2⟩, g3, g4, g5, g6⟩ | ⟨g1, ⟨x', y', g2⟩, g7, g3, g4, g5, g6⟩ | ⟨g1, ⟨x', g2⟩, g7, g3, g4⟩ | ⟨g1, ⟨x', g2⟩, g7, g3, g4, g6⟩ | ⟨g1, ⟨x', g2⟩, g7, g3, g4, g5, g6⟩ | ⟨g1, g4, g5, g6⟩ | ⟨g1, ⟨x', y', z', g2⟩, g7, g3, g5, g6⟩ | ⟨g1, ⟨x', y', g2⟩, g3, g4, g5, g6⟩ <;> try (exfalso; omega)
    subst h2
    subst h7
    subst h3
    subst h4
    subst g2
    subst g7
    subst g3
    subst g4
    rw [s3, s3] at e
    simp only [List.cons.injEq, true_and] at e
    obtain ⟨rfl, e1⟩ := x_inj 8 x x' (ha x (by simp)) (ha' x' (by simp)) _ _ (dl10 _) (dl10 _) e
    simp only [List.cons.injEq, true_and] at e1
    obtain ⟨rfl, e2⟩ := l_inj S hs th th' _ _ (h101 _) (h101 _) iT jT uT e1
    simp only [List.cons.injEq, true_and] at e2
    obtain ⟨rfl, e3⟩ := l_inj S hs el el' _ _ (h101 _) (h101 _) iE jE uE e2
    simp only [List.cons.injEq, true_and] at e3
    exact ⟨rfl, e3⟩
  · subst h1
    rcases m' with ⟨g1, ⟨x', g2⟩, g3, g4, g5, g6⟩ | ⟨g1, ⟨x', g2⟩, g3, g4, g5, g6⟩ | ⟨g1, ⟨x', y', g2⟩, g7, g3, g4, g5, g6⟩ | ⟨g1, ⟨x', g2⟩, g7, g3, g4⟩ | ⟨g1, ⟨x', g2⟩, g7, g3, g4, g6⟩ | ⟨g1, ⟨x', g2⟩, g7, g3, g4, g5, g6⟩ | ⟨g1, g4, g5, g6⟩ | ⟨g1, ⟨x', y', z', g2⟩, g7, g3, g5, g6⟩ | ⟨g1, ⟨x', y', g2⟩, g3, g4, g5, g6⟩ <;> try (exfalso; omega)
    subst h2
    subst h7
    subst h3
    subst h4
    subst h6
    subst g2
    subst g7
    subst g3
    subst g4
    subst g6
    rw [s4, s4] at e
    simp only [List.cons.injEq, true_and] at e
    obtain ⟨rfl, e1⟩ := x_inj 8 x x' (ha x (by simp)) (ha' x' (by simp)) _ _ (dl10 _) (dl10 _) e
    simp only [List.cons.injEq, true_and] at e1
    obtain ⟨rfl, e2⟩ := l_inj S hs th th' _ _ (h101 _) (h101 _) iT jT uT e1
    simp only [List.cons.injEq, true_and] at e2
    exact ⟨rfl, e2⟩
  · subst h1
    rcases m' with ⟨g1, ⟨x', g2⟩, g3, g4, g5, g6⟩ | ⟨g1, ⟨x', g2⟩, g3, g4, g5, g6⟩ | ⟨g1, ⟨x', y', g2⟩, g7, g3, g4, g5, g6⟩ | ⟨g1, ⟨x', g2⟩, g7, g3, g4⟩ | ⟨g1, ⟨x', g2⟩, g7, g3, g4, g6⟩ | ⟨g1, ⟨x', g2⟩, g7, g3, g4, g5, g6⟩ | ⟨g1, g4, g5, g6⟩ | ⟨g1, ⟨x', y', z', g2⟩, g7, g3, g5, g6⟩ | ⟨g1, ⟨x', y', g2⟩, g3, g4, g5, g6⟩ <;> try (exfalso; omega)
    subst h2
    subst h7
    subst h3
    subst h4
    subst h5
    subst h6
    subst g2
    subst g7
    subst g3
    subst g4
    subst g5
    subst g6
    rw [s5, s5] at e
    simp only [List.cons.injEq, true_and] at e
    obtain ⟨rfl, e1⟩ := x_inj 8 x x' (ha x (by simp)) (ha' x' (by simp)) _ _ (dl10 _) (dl10 _) e
    simp only [List.cons.injEq, true_and] at e1
    exact ⟨rfl, e1⟩
  · subst h1
    rcases m' with ⟨g1, ⟨x', g2⟩, g3, g4, g5, g6⟩ | ⟨g1, ⟨x', g2⟩, g3, g4, g5, g6⟩ | ⟨g1, ⟨x', y', g2⟩, g7, g3, g4, g5, g6⟩ | ⟨g1, ⟨x', g2⟩, g7, g3, g4⟩ | ⟨g1, ⟨x', g2⟩, g7, g3, g4, g6⟩ | ⟨g1, ⟨x', g2⟩, g7, g3, g4, g5, g6⟩ | ⟨g1, g4, g5, g6⟩ | ⟨g1, ⟨x', y', z', g2⟩, g7, g3, g5, g6⟩ | ⟨g1, ⟨x', y', g2⟩, g3, g4, g5, g6⟩ <;> try (exfalso; omega)
    subst h4
    subst h5
    subst h6
    subst g4
    subst g5
    subst g6
    rw [s6, s6] at e
    simp only [List.cons.injEq, true_and] at e
    obtain ⟨qe1, e1⟩ := wd_inj (io_wd _) (io_wd _) (dl32 _) (dl32 _) e
    obtain rfl := io_inj qe1
    simp only [List.cons.injEq, true_and] at e1
    obtain ⟨qe2, e2⟩ := wd_inj (io_wd _) (io_wd _) (dl32 _) (dl32 _) e1
    obtain rfl := io_inj qe2
    simp only [List.cons.injEq, true_and] at e2
    obtain ⟨rfl, e3⟩ := cw_inj a a' r r' ha ha' e2
    exact ⟨rfl, e3⟩
  · subst h1
    rcases m' with ⟨g1, ⟨x', g2⟩, g3, g4, g5, g6⟩ | ⟨g1, ⟨x', g2⟩, g3, g4, g5, g6⟩ | ⟨g1, ⟨x', y', g2⟩, g7, g3, g4, g5, g6⟩ | ⟨g1, ⟨x', g2⟩, g7, g3, g4⟩ | ⟨g1, ⟨x', g2⟩, g7, g3, g4, g6⟩ | ⟨g1, ⟨x', g2⟩, g7, g3, g4, g5, g6⟩ | ⟨g1, g4, g5, g6⟩ | ⟨g1, ⟨x', y', z', g2⟩, g7, g3, g5, g6⟩ | ⟨g1, ⟨x', y', g2⟩, g3, g4, g5, g6⟩ <;> try (exfalso; omega)
    subst h2
    subst h7
    subst h3
    subst h5
    subst h6
    subst g2
    subst g7
    subst g3
    subst g5
    subst g6
    rw [s7, s7] at e
    simp only [List.cons.injEq, true_and] at e
    obtain ⟨qe1, e1⟩ := wd_inj (io_wd _) (io_wd _) (dl32 _) (dl32 _) e
    obtain rfl := io_inj qe1
    simp only [List.cons.injEq, true_and] at e1
    obtain ⟨rfl, e2⟩ := x_inj 8 x x' (ha x (by simp)) (ha' x' (by simp)) _ _ (dl32 _) (dl32 _) e1
    simp only [List.cons.injEq, true_and] at e2
    obtain ⟨rfl, e3⟩ := x_inj 8 y y' (ha y (by simp)) (ha' y' (by simp)) _ _ (dl32 _) (dl32 _) e2
    simp only [List.cons.injEq, true_and] at e3
    obtain ⟨rfl, e4⟩ := x_inj 8 z z' (ha z (by simp)) (ha' z' (by simp)) _ _ (dl10 _) (dl10 _) e3
    simp only [List.cons.injEq, true_and] at e4
    exact ⟨rfl, e4⟩
  · subst h1
    rcases m' with ⟨g1, ⟨x', g2⟩, g3, g4, g5, g6⟩ | ⟨g1, ⟨x', g2⟩, g3, g4, g5, g6⟩ | ⟨g1, ⟨x', y', g2⟩, g7, g3, g4, g5, g6⟩ | ⟨g1, ⟨x', g2⟩, g7, g3, g4⟩ | ⟨g1, ⟨x', g2⟩, g7, g3, g4, g6⟩ | ⟨g1, ⟨x', g2⟩, g7, g3, g4, g5, g6⟩ | ⟨g1, g4, g5, g6⟩ | ⟨g1, ⟨x', y', z', g2⟩, g7, g3, g5, g6⟩ | ⟨g1, ⟨x', y', g2⟩, g3, g4, g5, g6⟩ <;> try (exfalso; omega)
    subst h2
    subst h3
    subst h4
    subst h5
    subst h6
    subst g2
    subst g3
    subst g4
    subst g5
    subst g6
    rw [s8, s8] at e
    simp only [List.cons.injEq, true_and] at e
    obtain ⟨qe1, e1⟩ := wd_inj (io_wd _) (io_wd _) (dl32 _) (dl32 _) e
    obtain rfl := io_inj qe1
    simp only [List.cons.injEq, true_and] at e1
    obtain ⟨rfl, e2⟩ := x_inj 8 x x' (ha x (by simp)) (ha' x' (by simp)) _ _ (dl32 _) (dl32 _) e1
    simp only [List.cons.injEq, true_and] at e2
    obtain ⟨rfl, e3⟩ := x_inj 8 y y' (ha y (by simp)) (ha' y' (by simp)) _ _ (dl10 _) (dl10 _) e2
    simp only [List.cons.injEq, true_and] at e3
    exact ⟨rfl, e3⟩

theorem hs_sT {vs : Int} : ∀ (d : Nat) (s : StT d), okS vs d s → ∀ r, 1 ≤ hs (sT d s ++ r)
  | 0, _, h, _ => by cases h
  | d + 1, s, h, r => by
    obtain ⟨⟨ps, hm⟩, -, -, ha, -, -⟩ := h
    exact hs_s (sT d) (s : StN (StT d)) hm ha r
theorem st_inj {vs vs' : Int} : ∀ (d : Nat) (s s' : StT d), okS vs d s → okS vs' d s' → ∀ r r', sT d s ++ r = sT d s' ++ r' → s = s' ∧ r = r'
  | 0, _, _, h, _, _, _, _ => by cases h
  | d + 1, s, s', h, h', r, r', e => by
    obtain ⟨⟨ps, hm⟩, -, -, ha, ht, hel⟩ := h
    obtain ⟨⟨ps', hm'⟩, -, -, ha', ht', hel'⟩ := h'
    exact sn_inj (sT d) (s : StN (StT d)) (s' : StN (StT d)) hm hm' ha ha' (fun a h => hs_sT d a (ht a h)) (fun a h => hs_sT d a (hel a h)) (fun a h => hs_sT d a (ht' a h)) (fun a h => hs_sT d a (hel' a h))
      (fun a h a' h' => st_inj d a a' (ht a h) (ht' a' h')) (fun a h a' h' => st_inj d a a' (hel a h) (hel' a' h')) r r' e
/-- .. of a function's text. -/
def hf : List UInt8 → Int
  | [] => 0
  | c :: _ => if c = 102 then 1 else 0
theorem fT_form (f : FuT) (r : List UInt8) : fT f ++ r = 102 :: 117 :: 110 :: 99 :: 32 :: (Lib.itoa f.p ++ 32 :: (Lib.itoa f.v ++ 10 :: ((f.b.map (sT 8)).flatten ++ 101 :: 110 :: 100 :: 10 :: r))) := by
  unfold fT sL; simp [lnc, ln1]
theorem f_inj (f f' : FuT) (h : okF f) (h' : okF f') (r r' : List UInt8) (e : fT f ++ r = fT f' ++ r') : f = f' ∧ r = r' := by
  have h101 : ∀ q : List UInt8, hs (101 :: q) < 1 := fun q => by show (0 : Int) < 1; omega
  rw [fT_form, fT_form] at e
  obtain ⟨p, v, b⟩ := f
  obtain ⟨p', v', b'⟩ := f'
  simp only [List.cons.injEq, true_and] at e
  obtain ⟨q1, e1⟩ := wd_inj (io_wd _) (io_wd _) (dl32 _) (dl32 _) e
  obtain rfl := io_inj q1
  simp only [List.cons.injEq, true_and] at e1
  obtain ⟨q2, e2⟩ := wd_inj (io_wd _) (io_wd _) (dl10 _) (dl10 _) e1
  obtain rfl := io_inj q2
  simp only [List.cons.injEq, true_and] at e2
  obtain ⟨rfl, e3⟩ := l_inj (sT 8) hs b b' _ _ (h101 _) (h101 _) (fun a ha => hs_sT 8 a (h.b a ha)) (fun a ha => hs_sT 8 a (h'.b a ha)) (fun a ha a' ha' => st_inj 8 a a' (h.b a ha) (h'.b a' ha')) e2
  simp only [List.cons.injEq, true_and] at e3
  exact ⟨rfl, e3⟩
theorem p_inj (p p' : PgT) (h : ∀ f ∈ p.fs, okF f) (h' : ∀ f ∈ p'.fs, okF f) (e : pT p = pT p') : p = p' := by
  have pf : ∀ p : PgT, pT p = 100 :: 97 :: 116 :: 97 :: 32 :: (Lib.itoa p.da ++ 10 :: ((p.fs.map fT).flatten)) := fun p => by unfold pT; simp [lnc, ln1]
  rw [pf, pf] at e
  obtain ⟨fs, da⟩ := p
  obtain ⟨fs', da'⟩ := p'
  simp only [List.cons.injEq, true_and] at e
  obtain ⟨q1, e1⟩ := wd_inj (io_wd _) (io_wd _) (dl10 _) (dl10 _) e
  obtain rfl := io_inj q1
  simp only [List.cons.injEq, true_and] at e1
  have e2 : (fs.map fT).flatten ++ [] = (fs'.map fT).flatten ++ [] := by rw [List.append_nil, List.append_nil]; exact e1
  obtain ⟨rfl, -⟩ := l_inj fT hf fs fs' [] [] (by show (0 : Int) < 1; omega) (by show (0 : Int) < 1; omega) (fun a ha r => by rw [fT_form]; show (1 : Int) ≤ 1; omega) (fun a ha r => by rw [fT_form]; show (1 : Int) ≤ 1; omega) (fun a ha a' ha' => f_inj a a' (h a ha) (h' a' ha')) e2
  rfl
end Go.Proofs.YtoopgppahfnncaaDoor
/- Layer ir: Same of the program. -/
namespace Go.Proofs.YtoopgppahfnncaaDoor
open Go.RowKit
set_option maxRecDepth 100000
set_option linter.unusedVariables false
set_option linter.unusedSimpArgs false


set_option maxHeartbeats 4000000 in
theorem same13_any {N : Nat} {sp sp' : Option Addr} {n cap n' cap' : Nat} (p q : PgT) (w : World) (hM : PgM N w [.slice sp n cap, .int .i64 p.da] p) (hM' : PgM N w [.slice sp' n' cap', .int .i64 q.da] q) (hN : N ≤ w.heap.size) (b : Bool) (hb : b = true ↔ ((pgN p).isSome = true ∧ (pgN q).isSome = true ∧ p = q)) :
    Calls Tryd.prog 13 #[.agg #[.slice sp n cap, .int .i64 p.da], .agg #[.slice sp' n' cap', .int .i64 q.da]] w (BoP b w) := by
  have B1 := ab w (.cells #[.slice sp n cap, .int .i64 p.da] 24)
  have B2 := B1.alloc B1.size (.cells #[.slice sp' n' cap', .int .i64 q.da] 24)
  have A1 := (Arr.new w 24 #[.slice sp n cap, .int .i64 p.da]).alloc (.cells #[.slice sp' n' cap', .int .i64 q.da] 24)
  have A2 := Arr.new (w.alloc (.cells #[.slice sp n cap, .int .i64 p.da] 24)) 24 #[.slice sp' n' cap', .int .i64 q.da]
  simp only [World.size_alloc] at A2
  have h1 := fun (u : World) (hq : Below w.heap.size w u) => may_any p u (PgM.below (hq.mono hN) _ p hM) (Nat.le_trans hN hq.size)
  have h2 := fun (u : World) (hq : Below w.heap.size w u) => may_any q u (PgM.below (hq.mono hN) _ q hM') (Nat.le_trans hN hq.size)
  unfold BoP at h1 h2 ⊢
  obtain ⟨U, hU⟩ : ∃ U, U = (w.alloc (.cells #[.slice sp n cap, .int .i64 p.da] 24)).alloc (.cells #[.slice sp' n' cap', .int .i64 q.da] 24) := ⟨_, rfl⟩
  rw [← hU] at A1 A2 B2
  have z0 := A1.cell 0
  have z1 := A1.cell 1
  have z2 := A2.cell 0
  have z3 := A2.cell 1
  have l1 := A1.lt
  have l2 := A2.lt
  replace hU := hid hU
  have C : Hid (∀ u, Below U.heap.size U u → (u.cell? ⟨w.heap.size, 0, none⟩ = #[.slice sp n cap, .int .i64 p.da][0]? ∧ u.cell? ⟨w.heap.size, 1, none⟩ = #[.slice sp n cap, .int .i64 p.da][1]?) ∧ (u.cell? ⟨w.heap.size + 1, 0, none⟩ = #[.slice sp' n' cap', .int .i64 q.da][0]? ∧ u.cell? ⟨w.heap.size + 1, 1, none⟩ = #[.slice sp' n' cap', .int .i64 q.da][1]?)) :=
    hid fun u hq => ⟨⟨(hq.cell (p := ⟨w.heap.size, 0, none⟩) l1).trans z0, (hq.cell (p := ⟨w.heap.size, 1, none⟩) l1).trans z1⟩, (hq.cell (p := ⟨w.heap.size + 1, 0, none⟩) l2).trans z2, (hq.cell (p := ⟨w.heap.size + 1, 1, none⟩) l2).trans z3⟩
  clear A1 A2 z0 z1 z2 z3
  cases hp : (pgN p).isSome with
  | false =>
    have hbf : b = false := bf hb (fun e => by rw [hp] at e; cases e.1)
    subst hbf
    rw [hp] at h1
    clear hb h2 hM hM' hp
    go_enter Tryd.func13, Tryd.ntmps13
    go_wp2_with (go_at_call 10; go_must (rw [← hU.out]; refine (h1 U B2).mono ?_; rintro e w1 ⟨rfl, d1⟩))
    go_ret
    exact ⟨rfl, B2.trans (d1.mono B2.size)⟩
  | true =>
  rw [hp] at h1
  cases hq : (pgN q).isSome with
  | false =>
    have hbf : b = false := bf hb (fun e => by rw [hq] at e; cases e.2.1)
    subst hbf
    rw [hq] at h2
    clear hb hM hM' hp hq
    go_enter Tryd.func13, Tryd.ntmps13
    go_wp2_with (first
      | (have hgd := hN; clear hgd; go_at_call 10; go_must (rw [← hU.out]; refine (h1 U B2).mono ?_; rintro e w1 ⟨rfl, d1⟩; clear hN; obtain ⟨⟨x0, x1⟩, x2, x3⟩ := C.out w1 d1))
      | (go_at_call 10; go_must (refine (h2 _ (B2.trans (d1.mono B2.size))).mono ?_; rintro e w2 ⟨rfl, d2'⟩; have d2 := d1.trans (d2'.mono d1.size))))
    go_ret
    exact ⟨rfl, B2.trans (d2.mono B2.size)⟩
  | true =>
  rw [hq] at h2
  obtain ⟨m, hm⟩ := Option.isSome_iff_exists.1 hp
  obtain ⟨m', hm'⟩ := Option.isSome_iff_exists.1 hq
  have ok := (pg_all hM hm).1
  have ok' := (pg_all hM' hm').1
  obtain ⟨si, ni, ci, e1, -, hS⟩ := hM
  obtain ⟨si', ni', ci', e1', -, hS'⟩ := hM'
  simp only [List.cons.injEq, Value.slice.injEq, and_true] at e1 e1'
  obtain ⟨rfl, rfl, rfl⟩ := e1
  obtain ⟨rfl, rfl, rfl⟩ := e1'
  clear hm hm'
  obtain ⟨l, da⟩ := p
  obtain ⟨l', da'⟩ := q
  simp only at hS hS' ok ok' C hU
  rw [PgT.mk.injEq] at hb
  by_cases hd : da = da'
  rotate_left
  · have hbf : b = false := bf hb (fun e => hd e.2.2.2)
    subst hbf
    clear hb hp hq hS hS' ok ok'
    go_enter Tryd.func13, Tryd.ntmps13
    go_wp2_with (first
      | (have hgd := hN; clear hgd; go_at_call 10; go_must (rw [← hU.out]; refine (h1 U B2).mono ?_; rintro e w1 ⟨rfl, d1⟩; clear hN; obtain ⟨⟨x0, x1⟩, x2, x3⟩ := C.out w1 d1))
      | (go_at_call 10; go_must (refine (h2 _ (B2.trans (d1.mono B2.size))).mono ?_; rintro e w2 ⟨rfl, d2'⟩; have d2 := d1.trans (d2'.mono d1.size); obtain ⟨⟨x4, x5⟩, x6, x7⟩ := C.out w2 d2)))
    go_ret
    exact ⟨rfl, B2.trans (d2.mono B2.size)⟩
  subst hd
  have hb2 : b = true ↔ l = l' := ⟨fun e => (hb.1 e).2.2.1, fun e => hb.2 ⟨hp, hq, e, rfl⟩⟩
  have h27 := fun (u : World) (hB : Below w.heap.size w u) => eq27 (N := N) u (hS.imp (hB.mono hN) (FuM.below (hB.mono hN))) (hS'.imp (hB.mono hN) (FuM.below (hB.mono hN))) (Nat.le_trans hN hB.size) b hb2
    (fun u' cs cs' t t' b ht ht' hB' hM hM' hb => sf_any u' cs cs' t t' b (Nat.le_trans hN (Nat.le_trans hB.size hB'.size)) hM hM' (ok t ht) (ok' t' ht') hb)
  clear hb hb2 hp hq hS hS' ok ok'
  unfold BoP at h27
  go_enter Tryd.func13, Tryd.ntmps13
  go_wp2_with (first
    | (have hgd := hN; clear hgd; go_at_call 10; go_must (rw [← hU.out]; refine (h1 U B2).mono ?_; rintro e w1 ⟨rfl, d1⟩; clear hN; obtain ⟨⟨x0, x1⟩, x2, x3⟩ := C.out w1 d1))
    | (go_at_call 10; go_must (refine (h2 _ (B2.trans (d1.mono B2.size))).mono ?_; rintro e w2 ⟨rfl, d2'⟩; have d2 := d1.trans (d2'.mono d1.size); obtain ⟨⟨x4, x5⟩, x6, x7⟩ := C.out w2 d2))
    | (go_at_call 27; go_must (refine (h27 _ (B2.trans (d2.mono B2.size))).mono ?_; rintro e w3 ⟨rfl, d3'⟩; have d3 := d2.trans (d3'.mono d2.size))))
  go_ret
  exact ⟨rfl, B2.trans (d3.mono B2.size)⟩
theorem tx_inj {l l' : List UInt8} (h : tx l = tx l') : l = l' := by
  unfold tx at h
  simp at h
  exact h
/-- Text tells programs that may be apart. -/
theorem same_iff {N : Nat} {w : World} {cs cs' : List Value} {p q : PgT} (hM : PgM N w cs p) (hM' : PgM N w cs' q) : ((pgN p).isSome = true ∧ (pgN q).isSome = true ∧ p = q) ↔ ((pgN p).isSome = true ∧ (pgN q).isSome = true ∧ tx (pTx p) = tx (pTx q)) := by
  constructor
  · rintro ⟨h1, h2, h3⟩; exact ⟨h1, h2, by rw [h3]⟩
  · rintro ⟨h1, h2, h3⟩
    refine ⟨h1, h2, ?_⟩
    obtain ⟨m, hm⟩ := Option.isSome_iff_exists.1 h1
    obtain ⟨m', hm'⟩ := Option.isSome_iff_exists.1 h2
    have h4 := tx_inj h3
    unfold pTx at h4
    rw [if_pos h1, if_pos h2] at h4
    exact p_inj p q (pg_all hM hm).1 (pg_all hM' hm').1 h4
end Go.Proofs.YtoopgppahfnncaaDoor
/- Layer ir: the document's Same. -/
namespace Go.Proofs.YtoopgppahfnncaaDoor
open Go.RowKit
set_option maxRecDepth 100000
set_option linter.unusedVariables false
set_option linter.unusedSimpArgs false


theorem sneq {s s' : ByteArray} (h : ¬ s = s') : (s.toList == s'.toList) = false := by
  rw [beq_eq_false_iff_ne]
  intro e
  rw [ByteArray.toList_eq, ByteArray.toList_eq] at e
  exact h (WideShapes.bytes_inj e)
set_option maxHeartbeats 4000000 in
theorem same14_any {N : Nat} {sp sp' : Option Addr} {n cap n' cap' : Nat} (p q : PgT) (w : World) (hM : PgM N w [.slice sp n cap, .int .i64 p.da] p) (hM' : PgM N w [.slice sp' n' cap', .int .i64 q.da] q) (hN : N ≤ w.heap.size) (hT : Tb w) (b : Bool) (hb : b = true ↔ ((pgN p).isSome = true ∧ (pgN q).isSome = true ∧ p = q)) :
    Calls Tryd.prog 14 #[.agg #[.slice sp n cap, .int .i64 p.da], .agg #[.slice sp' n' cap', .int .i64 q.da]] w (BoP b w) := by
  have B1 := ab w (.cells #[.slice sp n cap, .int .i64 p.da] 24)
  have B2 := B1.alloc B1.size (.cells #[.slice sp' n' cap', .int .i64 q.da] 24)
  have A1 := (Arr.new w 24 #[.slice sp n cap, .int .i64 p.da]).alloc (.cells #[.slice sp' n' cap', .int .i64 q.da] 24)
  have A2 := Arr.new (w.alloc (.cells #[.slice sp n cap, .int .i64 p.da] 24)) 24 #[.slice sp' n' cap', .int .i64 q.da]
  simp only [World.size_alloc] at A2
  have h1 := fun (u : World) (hq : Below w.heap.size w u) => text7_any p u (PgM.below (hq.mono hN) _ p hM) (Nat.le_trans hN hq.size) (hT.bl hq)
  have h2 := fun (u : World) (hq : Below w.heap.size w u) => text7_any q u (PgM.below (hq.mono hN) _ q hM') (Nat.le_trans hN hq.size) (hT.bl hq)
  have hi := same_iff hM hM'
  rw [hi] at hb
  clear hi
  unfold PTx at h1 h2
  unfold BoP
  obtain ⟨U, hU⟩ : ∃ U, U = (w.alloc (.cells #[.slice sp n cap, .int .i64 p.da] 24)).alloc (.cells #[.slice sp' n' cap', .int .i64 q.da] 24) := ⟨_, rfl⟩
  rw [← hU] at A1 A2 B2
  have z0 := A1.cell 0
  have z1 := A1.cell 1
  have z2 := A2.cell 0
  have z3 := A2.cell 1
  have l1 := A1.lt
  have l2 := A2.lt
  replace hU := hid hU
  have C : Hid (∀ u, Below U.heap.size U u → (u.cell? ⟨w.heap.size, 0, none⟩ = #[.slice sp n cap, .int .i64 p.da][0]? ∧ u.cell? ⟨w.heap.size, 1, none⟩ = #[.slice sp n cap, .int .i64 p.da][1]?) ∧ (u.cell? ⟨w.heap.size + 1, 0, none⟩ = #[.slice sp' n' cap', .int .i64 q.da][0]? ∧ u.cell? ⟨w.heap.size + 1, 1, none⟩ = #[.slice sp' n' cap', .int .i64 q.da][1]?)) :=
    hid fun u hq => ⟨⟨(hq.cell (p := ⟨w.heap.size, 0, none⟩) l1).trans z0, (hq.cell (p := ⟨w.heap.size, 1, none⟩) l1).trans z1⟩, (hq.cell (p := ⟨w.heap.size + 1, 0, none⟩) l2).trans z2, (hq.cell (p := ⟨w.heap.size + 1, 1, none⟩) l2).trans z3⟩
  clear A1 A2 z0 z1 z2 z3
  generalize p.da = da at *
  generalize q.da = da' at *
  clear hM hM' hT
  generalize tx (pTx p) = s at *
  generalize tx (pTx q) = s' at *
  generalize (pgN p).isSome = bp at *
  generalize (pgN q).isSome = bq at *
  cases bp with
  | false =>
    have hbf : b = false := bf hb (fun e => by cases e.1)
    subst hbf
    clear hb
    generalize (if bq = true then (0 : Int) else 2) = zq at *
    go_enter Tryd.func14, Tryd.ntmps14
    go_wp2_with (first
      | (have hgd := hN; clear hgd; go_at_call 7; go_must (rw [← hU.out]; refine (h1 U B2).mono ?_; rintro e w1 ⟨rfl, d1⟩; clear hN; obtain ⟨⟨x0, x1⟩, x2, x3⟩ := C.out w1 d1))
      | (go_at_call 7; go_must (refine (h2 _ (B2.trans (d1.mono B2.size))).mono ?_; rintro e w2 ⟨rfl, d2'⟩; have d2 := d1.trans (d2'.mono d1.size))))
    go_ret
    exact ⟨rfl, B2.trans (d2.mono B2.size)⟩
  | true =>
  cases bq with
  | false =>
    have hbf : b = false := bf hb (fun e => by cases e.2.1)
    subst hbf
    clear hb
    go_enter Tryd.func14, Tryd.ntmps14
    go_wp2_with (first
      | (have hgd := hN; clear hgd; go_at_call 7; go_must (rw [← hU.out]; refine (h1 U B2).mono ?_; rintro e w1 ⟨rfl, d1⟩; clear hN; obtain ⟨⟨x0, x1⟩, x2, x3⟩ := C.out w1 d1))
      | (go_at_call 7; go_must (refine (h2 _ (B2.trans (d1.mono B2.size))).mono ?_; rintro e w2 ⟨rfl, d2'⟩; have d2 := d1.trans (d2'.mono d1.size))))
    go_ret
    exact ⟨rfl, B2.trans (d2.mono B2.size)⟩
  | true =>
  by_cases hs : s = s'
  · have hbt : b = true := hb.2 ⟨rfl, rfl, hs⟩
    subst hbt
    subst hs
    clear hb
    go_enter Tryd.func14, Tryd.ntmps14
    go_wp2_with (first
      | (have hgd := hN; clear hgd; go_at_call 7; go_must (rw [← hU.out]; refine (h1 U B2).mono ?_; rintro e w1 ⟨rfl, d1⟩; clear hN; obtain ⟨⟨x0, x1⟩, x2, x3⟩ := C.out w1 d1))
      | (go_at_call 7; go_must (refine (h2 _ (B2.trans (d1.mono B2.size))).mono ?_; rintro e w2 ⟨rfl, d2'⟩; have d2 := d1.trans (d2'.mono d1.size))))
    go_ret
    exact ⟨rfl, B2.trans (d2.mono B2.size)⟩
  · have hbf : b = false := bf hb (fun e => hs e.2.2)
    have hse := sneq hs
    subst hbf
    clear hb
    go_enter Tryd.func14, Tryd.ntmps14
    go_wp2_with (first
      | (have hgd := hN; clear hgd; go_at_call 7; go_must (rw [← hU.out]; refine (h1 U B2).mono ?_; rintro e w1 ⟨rfl, d1⟩; clear hN; obtain ⟨⟨x0, x1⟩, x2, x3⟩ := C.out w1 d1))
      | (go_at_call 7; go_must (refine (h2 _ (B2.trans (d1.mono B2.size))).mono ?_; rintro e w2 ⟨rfl, d2'⟩; have d2 := d1.trans (d2'.mono d1.size))))
    go_ret
    exact ⟨rfl, B2.trans (d2.mono B2.size)⟩
end Go.Proofs.YtoopgppahfnncaaDoor
/- Layer ir: the law of Same, given its anchor. -/
namespace Go.Proofs.YtoopgppahfnncaaDoor
open Go.Shelf Go.RowKit Go.Sort
set_option maxRecDepth 100000
set_option linter.unusedVariables false
set_option linter.unusedSimpArgs false

theorem tk4 {P : Program} {ops : Array Oper} {Q : Exit → Act → World → Prop} {md : Region.Mode} {S : World → Prop} (i : Nat) {dst : Option Tmp} {op : Op} {ty : TypeId} {pos : String} {af : Array Edge} {gd : Option (Nat × Bool)} {v : Value} {fuel : Nat} {listed : Array Bool} {a a' : Act} {w : World} (hi : ops[i]? = some ⟨dst, op, ty, pos, af, gd⟩)
    (h : wpAnyH P md ops Q S fuel (listed.setIfInBounds i true) a' w)
    (hs : Region.noSelect ops = true := by kernel_rfl) (hf : Region.free md ops listed i = true := by kernel_rfl) (hr : (Region.ready md ops listed).contains i = true := by kernel_rfl)
    (hw : Region.wanted ⟨dst, op, ty, pos, af, gd⟩ (yielded ops a.tmps) = true := by rfl)
    (hy : ∀ u, S u → (execOp a.eval ⟨dst, op, ty, pos, af, gd⟩).run P u = .ok (.value v) u := by (intro u hSw; obtain ⟨s0, s1, s2, s3⟩ := hSw; go_simp; try (with_reducible rfl)))
    (hQ : ∀ c a w, Q (.panic c) (a.put dst v) w → Q (.panic c) a w := by exact fun _ _ _ h => h)
    (ha : a.put dst v = a' := by (conv => (lhs; try simp only [Act.put, List.setIfInBounds_toArray, List.set_cons_zero, List.set_cons_succ])); (try rfl)) (hS : S w := by assumption) : wpAnyH P md ops Q S (fuel + 1) listed a w :=
  wpAnyH_take hi hs hf hr hQ (Or.inl ⟨hw, hy⟩) hS (by rw [ha]; exact h)

set_option maxHeartbeats 8000000 in
theorem sames_walk {sp sp' : Option Addr} {n cap n' cap' : Nat} (p q : PgT) (w : World) (hM : PgM w.heap.size w [.slice sp n cap, .int .i64 p.da] p) (hM' : PgM w.heap.size w [.slice sp' n' cap', .int .i64 q.da] q) (hT : Tb w) (hA : ∀ u, Tb u → Calls Tryd.prog 12 #[] u (BoP true u)) :
    Calls Tryd.prog 4 #[.agg #[.slice sp n cap, .int .i64 p.da], .agg #[.slice sp' n' cap', .int .i64 q.da]] w (BoP true w) := by
  have BL1 := ab w (.cells #[.slice sp n cap, .int .i64 p.da] 24)
  have BL := BL1.alloc BL1.size (.cells #[.slice sp' n' cap', .int .i64 q.da] 24)
  have A1 := (Arr.new w 24 #[.slice sp n cap, .int .i64 p.da]).alloc (.cells #[.slice sp' n' cap', .int .i64 q.da] 24)
  have A2 := Arr.new (w.alloc (.cells #[.slice sp n cap, .int .i64 p.da] 24)) 24 #[.slice sp' n' cap', .int .i64 q.da]
  simp only [World.size_alloc] at A2
  obtain ⟨U, hU⟩ : ∃ U, U = (w.alloc (.cells #[.slice sp n cap, .int .i64 p.da] 24)).alloc (.cells #[.slice sp' n' cap', .int .i64 q.da] 24) := ⟨_, rfl⟩
  rw [← hU] at A1 A2 BL
  have htU := hT.bl BL
  have hMM := fun u (hb : Below U.heap.size U u) => pg_mono BL.size (PgM.below (BL.trans (hb.mono BL.size)) _ p hM)
  have hMM' := fun u (hb : Below U.heap.size U u) => pg_mono BL.size (PgM.below (BL.trans (hb.mono BL.size)) _ q hM')
  have h6 := fun u (hb : Below U.heap.size U u) => text6_any p u (hMM u hb) hb.size ⟨U, rfl, htU, hb⟩
  have h6q := fun u (hb : Below U.heap.size U u) => text6_any q u (hMM' u hb) hb.size ⟨U, rfl, htU, hb⟩
  obtain ⟨b, hb⟩ := bx ((pgN p).isSome = true ∧ (pgN q).isSome = true ∧ p = q)
  have h13 := fun u (hq : Below U.heap.size U u) => same13_any p q u (hMM u hq) (hMM' u hq) hq.size b hb
  have h14 := fun u (hq : Below U.heap.size U u) => same14_any p q u (hMM u hq) (hMM' u hq) hq.size (htU.bl hq) b hb
  have h13p := fun u (hq : Below U.heap.size U u) => same13_any p p u (hMM u hq) (hMM u hq) hq.size (pgN p).isSome ⟨fun e => ⟨e, e, rfl⟩, fun e => e.1⟩
  have h11 := fun u (hq : Below U.heap.size U u) => refMay_any p u (hMM u hq) hq.size
  have h12 := fun u (hq : Below U.heap.size U u) => hA u (htU.bl hq)
  rw [same_iff hM hM'] at hb
  unfold BoP at h13 h14 h13p h11 h12 ⊢
  have l1 := A1.lt
  have l2 := A2.lt
  have z0 := A1.cell 0
  have z1 := A1.cell 1
  have z2 := A2.cell 0
  have z3 := A2.cell 1
  generalize tx (pTx p) = s at *
  generalize tx (pTx q) = s' at *
  generalize (pgN p).isSome = bp at *
  generalize (pgN q).isSome = bq at *
  clear hM hM' hMM hMM' hA hT htU A1 A2
  generalize p.da = da at *
  generalize q.da = da' at *
  have hr := Below.refl U.heap.size U
  replace hU := hid hU
  have hS0 : ∀ u, Below U.heap.size U u → u.cell? ⟨w.heap.size, 0, none⟩ = some (.slice sp n cap) ∧ u.cell? ⟨w.heap.size, 1, none⟩ = some (.int .i64 da) ∧ u.cell? ⟨w.heap.size + 1, 0, none⟩ = some (.slice sp' n' cap') ∧ u.cell? ⟨w.heap.size + 1, 1, none⟩ = some (.int .i64 da') := fun u hq => ⟨(hq.cell (p := ⟨w.heap.size, 0, none⟩) l1).trans z0, (hq.cell (p := ⟨w.heap.size, 1, none⟩) l1).trans z1, (hq.cell (p := ⟨w.heap.size + 1, 0, none⟩) l2).trans z2, (hq.cell (p := ⟨w.heap.size + 1, 1, none⟩) l2).trans z3⟩
  clear z0 z1 z2 z3
  cases bp with
  | false =>
    have hbf : b = false := bf hb (fun e => by cases e.1)
    subst hbf
    clear hb
    generalize (if bq = true then (0 : Int) else 2) = zq at *
    go_enter Tryd.func4, Tryd.ntmps4
    go_upto_region 3 with (first
      | (have hgd := l1; clear hgd; go_at_call 6; go_must (rw [← hU.out]; refine (h6 _ hr).mono ?_; rintro e w1 ⟨rfl, hb1⟩; clear l1; obtain ⟨x0, x1, x2, x3⟩ := hS0 w1 hb1))
      | (go_at_call 6; go_must (refine (h6q w1 hb1).mono ?_; rintro e w2 ⟨rfl, hc2⟩; have hb2 := hb1.trans hc2; obtain ⟨y0, y1, y2, y3⟩ := hS0 w2 hb2)))
    have hD0 := hb2.drew
    refine rgn (fun u => u.cell? ⟨w.heap.size, 0, none⟩ = some (.slice sp n cap) ∧ u.cell? ⟨w.heap.size, 1, none⟩ = some (.int .i64 da) ∧ u.cell? ⟨w.heap.size + 1, 0, none⟩ = some (.slice sp' n' cap') ∧ u.cell? ⟨w.heap.size + 1, 1, none⟩ = some (.int .i64 da')) (hS0 _ hD0) (fun hSw => ?_)
    refine tk4 0 rfl ?_
    refine tk4 1 rfl ?_
    refine tk4 3 rfl ?_
    refine tk4 4 rfl ?_
    refine rd 2 rfl (fun K hK => ?_)
    go_simp
    refine (h13 _ hD0).mono ?_
    rintro e v1 ⟨rfl, hbv1⟩
    have hv1 := hD0.trans (hbv1.mono hD0.size)
    go_wp2_with fail
    refine hK.out _ _ (hS0 _ hv1) (fun hSv1 => ?_)
    clear hK K
    try simp only [Act.put, List.setIfInBounds_toArray, List.set_cons_zero, List.set_cons_succ]
    refine rd 5 rfl (fun K hK => ?_)
    go_simp
    refine (h14 _ hv1).mono ?_
    rintro e v2 ⟨rfl, hbv2⟩
    have hv2 := hv1.trans (hbv2.mono hv1.size)
    go_wp2_with fail
    refine hK.out _ _ (hS0 _ hv2) (fun hSv2 => ?_)
    clear hK K
    try simp only [Act.put, List.setIfInBounds_toArray, List.set_cons_zero, List.set_cons_succ]
    refine tk4 6 rfl ?_
    refine tk4 7 rfl ?_
    refine tk4 8 rfl ?_
    refine tk4 9 rfl ?_
    refine tk4 11 rfl ?_
    refine rd 10 rfl (fun K hK => ?_)
    go_simp
    refine (h13p _ hv2).mono ?_
    rintro e v3 ⟨rfl, hbv3⟩
    have hv3 := hv2.trans (hbv3.mono hv2.size)
    go_wp2_with fail
    refine hK.out _ _ (hS0 _ hv3) (fun hSv3 => ?_)
    clear hK K
    try simp only [Act.put, List.setIfInBounds_toArray, List.set_cons_zero, List.set_cons_succ]
    refine rd 12 rfl (fun K hK => ?_)
    go_simp
    refine (h11 _ hv3).mono ?_
    rintro e v4 ⟨rfl, hbv4⟩
    have hv4 := hv3.trans (hbv4.mono hv3.size)
    go_wp2_with fail
    refine hK.out _ _ (hS0 _ hv4) (fun hSv4 => ?_)
    clear hK K
    try simp only [Act.put, List.setIfInBounds_toArray, List.set_cons_zero, List.set_cons_succ]
    refine tk4 13 rfl ?_
    refine tk4 14 rfl ?_
    refine dn ?_
    obtain ⟨s0, s1, s2, s3⟩ := hSv4
    go_wp2_with (first
      | (go_at_call 12; go_must (refine (h12 _ hv4).mono ?_; rintro e v5 ⟨rfl, hc5⟩; have hv5 := hv4.trans (hc5.mono hv4.size); obtain ⟨t0, t1, t2, t3⟩ := hS0 v5 hv5))
      | (go_at_call 13; go_must (refine (h13 _ hv5).mono ?_; rintro e v6 ⟨rfl, hc6⟩; have hv6 := hv5.trans (hc6.mono hv5.size))))
    go_ret
    exact ⟨rfl, BL.trans (hv5.mono BL.size)⟩
  | true =>
  cases bq with
  | false =>
    have hbf : b = false := bf hb (fun e => by cases e.2.1)
    subst hbf
    clear hb
    go_enter Tryd.func4, Tryd.ntmps4
    go_upto_region 3 with (first
      | (have hgd := l1; clear hgd; go_at_call 6; go_must (rw [← hU.out]; refine (h6 _ hr).mono ?_; rintro e w1 ⟨rfl, hb1⟩; clear l1; obtain ⟨x0, x1, x2, x3⟩ := hS0 w1 hb1))
      | (go_at_call 6; go_must (refine (h6q w1 hb1).mono ?_; rintro e w2 ⟨rfl, hc2⟩; have hb2 := hb1.trans hc2; obtain ⟨y0, y1, y2, y3⟩ := hS0 w2 hb2)))
    have hD0 := hb2.drew
    refine rgn (fun u => u.cell? ⟨w.heap.size, 0, none⟩ = some (.slice sp n cap) ∧ u.cell? ⟨w.heap.size, 1, none⟩ = some (.int .i64 da) ∧ u.cell? ⟨w.heap.size + 1, 0, none⟩ = some (.slice sp' n' cap') ∧ u.cell? ⟨w.heap.size + 1, 1, none⟩ = some (.int .i64 da')) (hS0 _ hD0) (fun hSw => ?_)
    refine tk4 0 rfl ?_
    refine tk4 1 rfl ?_
    refine tk4 3 rfl ?_
    refine tk4 4 rfl ?_
    refine rd 2 rfl (fun K hK => ?_)
    go_simp
    refine (h13 _ hD0).mono ?_
    rintro e v1 ⟨rfl, hbv1⟩
    have hv1 := hD0.trans (hbv1.mono hD0.size)
    go_wp2_with fail
    refine hK.out _ _ (hS0 _ hv1) (fun hSv1 => ?_)
    clear hK K
    try simp only [Act.put, List.setIfInBounds_toArray, List.set_cons_zero, List.set_cons_succ]
    refine rd 5 rfl (fun K hK => ?_)
    go_simp
    refine (h14 _ hv1).mono ?_
    rintro e v2 ⟨rfl, hbv2⟩
    have hv2 := hv1.trans (hbv2.mono hv1.size)
    go_wp2_with fail
    refine hK.out _ _ (hS0 _ hv2) (fun hSv2 => ?_)
    clear hK K
    try simp only [Act.put, List.setIfInBounds_toArray, List.set_cons_zero, List.set_cons_succ]
    refine tk4 6 rfl ?_
    refine tk4 7 rfl ?_
    refine tk4 8 rfl ?_
    refine tk4 9 rfl ?_
    refine tk4 11 rfl ?_
    refine rd 10 rfl (fun K hK => ?_)
    go_simp
    refine (h13p _ hv2).mono ?_
    rintro e v3 ⟨rfl, hbv3⟩
    have hv3 := hv2.trans (hbv3.mono hv2.size)
    go_wp2_with fail
    refine hK.out _ _ (hS0 _ hv3) (fun hSv3 => ?_)
    clear hK K
    try simp only [Act.put, List.setIfInBounds_toArray, List.set_cons_zero, List.set_cons_succ]
    refine rd 12 rfl (fun K hK => ?_)
    go_simp
    refine (h11 _ hv3).mono ?_
    rintro e v4 ⟨rfl, hbv4⟩
    have hv4 := hv3.trans (hbv4.mono hv3.size)
    go_wp2_with fail
    refine hK.out _ _ (hS0 _ hv4) (fun hSv4 => ?_)
    clear hK K
    try simp only [Act.put, List.setIfInBounds_toArray, List.set_cons_zero, List.set_cons_succ]
    refine tk4 13 rfl ?_
    refine tk4 14 rfl ?_
    refine dn ?_
    obtain ⟨s0, s1, s2, s3⟩ := hSv4
    go_wp2_with (first
      | (go_at_call 12; go_must (refine (h12 _ hv4).mono ?_; rintro e v5 ⟨rfl, hc5⟩; have hv5 := hv4.trans (hc5.mono hv4.size); obtain ⟨t0, t1, t2, t3⟩ := hS0 v5 hv5))
      | (go_at_call 13; go_must (refine (h13 _ hv5).mono ?_; rintro e v6 ⟨rfl, hc6⟩; have hv6 := hv5.trans (hc6.mono hv5.size))))
    go_ret
    exact ⟨rfl, BL.trans (hv5.mono BL.size)⟩
  | true =>
  by_cases hs : s = s'
  · have hbt : b = true := hb.2 ⟨rfl, rfl, hs⟩
    subst hbt
    subst hs
    clear hb
    go_enter Tryd.func4, Tryd.ntmps4
    go_upto_region 3 with (first
      | (have hgd := l1; clear hgd; go_at_call 6; go_must (rw [← hU.out]; refine (h6 _ hr).mono ?_; rintro e w1 ⟨rfl, hb1⟩; clear l1; obtain ⟨x0, x1, x2, x3⟩ := hS0 w1 hb1))
      | (go_at_call 6; go_must (refine (h6q w1 hb1).mono ?_; rintro e w2 ⟨rfl, hc2⟩; have hb2 := hb1.trans hc2; obtain ⟨y0, y1, y2, y3⟩ := hS0 w2 hb2)))
    have hD0 := hb2.drew
    refine rgn (fun u => u.cell? ⟨w.heap.size, 0, none⟩ = some (.slice sp n cap) ∧ u.cell? ⟨w.heap.size, 1, none⟩ = some (.int .i64 da) ∧ u.cell? ⟨w.heap.size + 1, 0, none⟩ = some (.slice sp' n' cap') ∧ u.cell? ⟨w.heap.size + 1, 1, none⟩ = some (.int .i64 da')) (hS0 _ hD0) (fun hSw => ?_)
    refine tk4 0 rfl ?_
    refine tk4 1 rfl ?_
    refine tk4 3 rfl ?_
    refine tk4 4 rfl ?_
    refine rd 2 rfl (fun K hK => ?_)
    go_simp
    refine (h13 _ hD0).mono ?_
    rintro e v1 ⟨rfl, hbv1⟩
    have hv1 := hD0.trans (hbv1.mono hD0.size)
    go_wp2_with fail
    refine hK.out _ _ (hS0 _ hv1) (fun hSv1 => ?_)
    clear hK K
    try simp only [Act.put, List.setIfInBounds_toArray, List.set_cons_zero, List.set_cons_succ]
    refine rd 5 rfl (fun K hK => ?_)
    go_simp
    refine (h14 _ hv1).mono ?_
    rintro e v2 ⟨rfl, hbv2⟩
    have hv2 := hv1.trans (hbv2.mono hv1.size)
    go_wp2_with fail
    refine hK.out _ _ (hS0 _ hv2) (fun hSv2 => ?_)
    clear hK K
    try simp only [Act.put, List.setIfInBounds_toArray, List.set_cons_zero, List.set_cons_succ]
    refine tk4 6 rfl ?_
    refine tk4 7 rfl ?_
    refine tk4 8 rfl ?_
    refine tk4 9 rfl ?_
    refine tk4 11 rfl ?_
    refine rd 10 rfl (fun K hK => ?_)
    go_simp
    refine (h13p _ hv2).mono ?_
    rintro e v3 ⟨rfl, hbv3⟩
    have hv3 := hv2.trans (hbv3.mono hv2.size)
    go_wp2_with fail
    refine hK.out _ _ (hS0 _ hv3) (fun hSv3 => ?_)
    clear hK K
    try simp only [Act.put, List.setIfInBounds_toArray, List.set_cons_zero, List.set_cons_succ]
    refine rd 12 rfl (fun K hK => ?_)
    go_simp
    refine (h11 _ hv3).mono ?_
    rintro e v4 ⟨rfl, hbv4⟩
    have hv4 := hv3.trans (hbv4.mono hv3.size)
    go_wp2_with fail
    refine hK.out _ _ (hS0 _ hv4) (fun hSv4 => ?_)
    clear hK K
    try simp only [Act.put, List.setIfInBounds_toArray, List.set_cons_zero, List.set_cons_succ]
    refine tk4 13 rfl ?_
    refine tk4 14 rfl ?_
    refine dn ?_
    obtain ⟨s0, s1, s2, s3⟩ := hSv4
    go_wp2_with (first
      | (go_at_call 12; go_must (refine (h12 _ hv4).mono ?_; rintro e v5 ⟨rfl, hc5⟩; have hv5 := hv4.trans (hc5.mono hv4.size); obtain ⟨t0, t1, t2, t3⟩ := hS0 v5 hv5))
      | (go_at_call 13; go_must (refine (h13 _ hv5).mono ?_; rintro e v6 ⟨rfl, hc6⟩; have hv6 := hv5.trans (hc6.mono hv5.size))))
    go_ret
    exact ⟨rfl, BL.trans (hv6.mono BL.size)⟩
  · have hbf : b = false := bf hb (fun e => hs e.2.2)
    have hse := sneq hs
    subst hbf
    clear hb
    go_enter Tryd.func4, Tryd.ntmps4
    go_upto_region 3 with (first
      | (have hgd := l1; clear hgd; go_at_call 6; go_must (rw [← hU.out]; refine (h6 _ hr).mono ?_; rintro e w1 ⟨rfl, hb1⟩; clear l1; obtain ⟨x0, x1, x2, x3⟩ := hS0 w1 hb1))
      | (go_at_call 6; go_must (refine (h6q w1 hb1).mono ?_; rintro e w2 ⟨rfl, hc2⟩; have hb2 := hb1.trans hc2; obtain ⟨y0, y1, y2, y3⟩ := hS0 w2 hb2)))
    have hD0 := hb2.drew
    refine rgn (fun u => u.cell? ⟨w.heap.size, 0, none⟩ = some (.slice sp n cap) ∧ u.cell? ⟨w.heap.size, 1, none⟩ = some (.int .i64 da) ∧ u.cell? ⟨w.heap.size + 1, 0, none⟩ = some (.slice sp' n' cap') ∧ u.cell? ⟨w.heap.size + 1, 1, none⟩ = some (.int .i64 da')) (hS0 _ hD0) (fun hSw => ?_)
    refine tk4 0 rfl ?_
    refine tk4 1 rfl ?_
    refine tk4 3 rfl ?_
    refine tk4 4 rfl ?_
    refine rd 2 rfl (fun K hK => ?_)
    go_simp
    refine (h13 _ hD0).mono ?_
    rintro e v1 ⟨rfl, hbv1⟩
    have hv1 := hD0.trans (hbv1.mono hD0.size)
    go_wp2_with fail
    refine hK.out _ _ (hS0 _ hv1) (fun hSv1 => ?_)
    clear hK K
    try simp only [Act.put, List.setIfInBounds_toArray, List.set_cons_zero, List.set_cons_succ]
    refine rd 5 rfl (fun K hK => ?_)
    go_simp
    refine (h14 _ hv1).mono ?_
    rintro e v2 ⟨rfl, hbv2⟩
    have hv2 := hv1.trans (hbv2.mono hv1.size)
    go_wp2_with fail
    refine hK.out _ _ (hS0 _ hv2) (fun hSv2 => ?_)
    clear hK K
    try simp only [Act.put, List.setIfInBounds_toArray, List.set_cons_zero, List.set_cons_succ]
    refine tk4 6 rfl ?_
    refine tk4 7 rfl ?_
    refine tk4 8 rfl ?_
    refine tk4 9 rfl ?_
    refine tk4 11 rfl ?_
    refine rd 10 rfl (fun K hK => ?_)
    go_simp
    refine (h13p _ hv2).mono ?_
    rintro e v3 ⟨rfl, hbv3⟩
    have hv3 := hv2.trans (hbv3.mono hv2.size)
    go_wp2_with fail
    refine hK.out _ _ (hS0 _ hv3) (fun hSv3 => ?_)
    clear hK K
    try simp only [Act.put, List.setIfInBounds_toArray, List.set_cons_zero, List.set_cons_succ]
    refine rd 12 rfl (fun K hK => ?_)
    go_simp
    refine (h11 _ hv3).mono ?_
    rintro e v4 ⟨rfl, hbv4⟩
    have hv4 := hv3.trans (hbv4.mono hv3.size)
    go_wp2_with fail
    refine hK.out _ _ (hS0 _ hv4) (fun hSv4 => ?_)
    clear hK K
    try simp only [Act.put, List.setIfInBounds_toArray, List.set_cons_zero, List.set_cons_succ]
    refine tk4 13 rfl ?_
    refine tk4 14 rfl ?_
    refine dn ?_
    obtain ⟨s0, s1, s2, s3⟩ := hSv4
    go_wp2_with (first
      | (go_at_call 12; go_must (refine (h12 _ hv4).mono ?_; rintro e v5 ⟨rfl, hc5⟩; have hv5 := hv4.trans (hc5.mono hv4.size); obtain ⟨t0, t1, t2, t3⟩ := hS0 v5 hv5))
      | (go_at_call 13; go_must (refine (h13 _ hv5).mono ?_; rintro e v6 ⟨rfl, hc6⟩; have hv6 := hv5.trans (hc6.mono hv5.size))))
    go_ret
    exact ⟨rfl, BL.trans (hv6.mono BL.size)⟩
end Go.Proofs.YtoopgppahfnncaaDoor
