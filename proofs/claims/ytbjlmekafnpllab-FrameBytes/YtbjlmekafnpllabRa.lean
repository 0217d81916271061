/- Layer rlp, plain lists: forms of items, and what reading bytes from the left comes to. -/
import Derived.Test.YtbjlmekafnpllabRows
import Derived.WalkKit
namespace Go.Proofs.Ytbjlmekafnpllab
set_option linter.unusedVariables false
set_option linter.unusedSimpArgs false

/-- Byte t. -/
def bat (L : List Int) (t : Nat) : Int := L.getD t 0
/-- All are bytes. -/
def Bts (L : List Int) : Prop := ∀ x ∈ L, 0 ≤ x ∧ x ≤ 255
theorem Bts.nil : Bts [] := by simp [Bts]
theorem Bts.app {L M : List Int} (h : Bts L) (h' : Bts M) : Bts (L ++ M) := by
  intro x hx; rcases List.mem_append.1 hx with h1 | h1
  · exact h x h1
  · exact h' x h1
theorem Bts.left {L M : List Int} (h : Bts (L ++ M)) : Bts L := fun x hx => h x (List.mem_append_left _ hx)
theorem Bts.right {L M : List Int} (h : Bts (L ++ M)) : Bts M := fun x hx => h x (List.mem_append_right _ hx)
theorem Bts.take {L : List Int} (h : Bts L) (n : Nat) : Bts (L.take n) := fun x hx => h x (List.mem_of_mem_take hx)
theorem Bts.drop {L : List Int} (h : Bts L) (n : Nat) : Bts (L.drop n) := fun x hx => h x (List.mem_of_mem_drop hx)
theorem bat_range {L : List Int} (h : Bts L) (t : Nat) : 0 ≤ bat L t ∧ bat L t ≤ 255 := by
  unfold bat
  by_cases ht : t < L.length
  · rw [List.getD_eq_getElem?_getD, List.getElem?_eq_getElem ht]; exact h _ (List.getElem_mem ht)
  · rw [List.getD_eq_getElem?_getD, List.getElem?_eq_none (by omega)]; simp

/-- A number's bytes, the highest first, without a 0 ahead. -/
def beN : Nat → Nat → List Int
  | 0, _ => []
  | k + 1, n => if n = 0 then [] else beN k (n / 256) ++ [((n % 256 : Nat) : Int)]
def be (n : Nat) : List Int := beN 8 n
theorem beN_more : ∀ (k n : Nat), n < 256 ^ k → beN (k + 1) n = beN k n
  | 0, n, h => by simp at h; subst h; simp [beN]
  | k + 1, n, h => by
    have h1 : n / 256 < 256 ^ k := by rw [Nat.pow_succ] at h; omega
    rw [beN, beN_more k _ h1]; rfl
theorem be_step (n : Nat) (h : n < 18446744073709551616) : be n = if n = 0 then [] else be (n / 256) ++ [((n % 256 : Nat) : Int)] := by
  have h1 : n / 256 < 256 ^ 7 := by omega
  have := beN_more 7 (n / 256) h1
  unfold be
  rw [show beN 8 (n / 256) = beN 7 (n / 256) from this]
  rfl
theorem be_zero : be 0 = [] := rfl
theorem beN_len : ∀ (k n : Nat), (beN k n).length ≤ k
  | 0, _ => by simp [beN]
  | k + 1, n => by
    rw [beN]; split
    · simp
    · have := beN_len k (n / 256); simp; omega
theorem be_len (n : Nat) : (be n).length ≤ 8 := beN_len 8 n
theorem beN_bts : ∀ (k n : Nat), Bts (beN k n)
  | 0, _ => by simp [beN, Bts]
  | k + 1, n => by
    rw [beN]; split
    · exact Bts.nil
    · exact (beN_bts k _).app (by intro x hx; simp at hx; omega)
theorem be_bts (n : Nat) : Bts (be n) := beN_bts 8 n
theorem be_pos {n : Nat} (h : n ≠ 0) : 0 < (be n).length := by
  unfold be; rw [show (8 : Nat) = 7 + 1 from rfl, beN, if_neg h]; simp

/-- What bytes say, the highest first. -/
def num (L : List Int) : Int := L.foldl (fun a c => a * 256 + c) 0
theorem num_snoc (L : List Int) (c : Int) : num (L ++ [c]) = num L * 256 + c := by simp [num]
theorem num_beN : ∀ (k n : Nat), n < 256 ^ k → num (beN k n) = n
  | 0, n, h => by simp at h; subst h; rfl
  | k + 1, n, h => by
    have h1 : n / 256 < 256 ^ k := by rw [Nat.pow_succ] at h; omega
    rw [beN]; split
    · rename_i h0; subst h0; rfl
    · rw [num_snoc, num_beN k _ h1]; omega
theorem num_be (n : Nat) (h : n < 18446744073709551616) : num (be n) = n := num_beN 8 n (by omega)
theorem num_rangeN : ∀ (k : Nat) (L : List Int), L.length = k → Bts L → 0 ≤ num L ∧ num L < 256 ^ k
  | 0, L, hk, _ => by
    obtain rfl : L = [] := List.eq_nil_of_length_eq_zero hk
    simp [num]
  | k + 1, L, hk, h => by
    rcases List.eq_nil_or_concat L with rfl | ⟨M, c, rfl⟩
    · simp at hk
    · rw [List.concat_eq_append] at *
      have h1 := num_rangeN k M (by simpa using hk) h.left
      have h2 := h c (by simp)
      rw [num_snoc, Int.pow_succ]
      omega
theorem num_range (L : List Int) (h : Bts L) : 0 ≤ num L ∧ num L < 256 ^ L.length := num_rangeN _ L rfl h
theorem beN_num : ∀ (k : Nat) (L : List Int), Bts L → L.length ≤ k → (0 < L.length → bat L 0 ≠ 0) → beN k (num L).toNat = L ∧ (0 < L.length → 0 < num L)
  | 0, L, _, hk, _ => by
    obtain rfl : L = [] := List.eq_nil_of_length_eq_zero (by omega)
    exact ⟨rfl, by simp⟩
  | k + 1, L, hb, hk, h0 => by
    rcases List.eq_nil_or_concat L with rfl | ⟨M, c, rfl⟩
    · exact ⟨rfl, by simp⟩
    · rw [List.concat_eq_append] at *
      have hc := hb c (by simp)
      have hM := num_range M hb.left
      simp only [List.length_append, List.length_singleton] at hk
      have ih := beN_num k M hb.left (by omega) (fun h => by
        have := h0 (by simp)
        have e : bat (M ++ [c]) 0 = bat M 0 := by
          unfold bat; rw [List.getD_eq_getElem?_getD, List.getD_eq_getElem?_getD, List.getElem?_append_left h]
        rwa [e] at this)
      have hpos : 0 < num (M ++ [c]) := by
        rw [num_snoc]
        by_cases hM0 : 0 < M.length
        · have := ih.2 hM0; omega
        · obtain rfl : M = [] := List.eq_nil_of_length_eq_zero (by omega)
          have := h0 (by simp)
          simp [bat] at this
          have e : num ([] : List Int) = 0 := rfl
          rw [e]; omega
      refine ⟨?_, fun _ => hpos⟩
      rw [beN, if_neg (by omega)]
      have e1 : (num (M ++ [c])).toNat / 256 = (num M).toNat := by rw [num_snoc]; omega
      have e2 : (((num (M ++ [c])).toNat % 256 : Nat) : Int) = c := by rw [num_snoc]; omega
      rw [e1, e2, ih.1]
theorem be_num {L : List Int} (hb : Bts L) (hk : L.length ≤ 8) (h0 : 0 < L.length → bat L 0 ≠ 0) : be (num L).toNat = L := (beN_num 8 L hb hk h0).1
theorem beN_first : ∀ (k n : Nat), n < 256 ^ k → 0 < (beN k n).length → bat (beN k n) 0 ≠ 0
  | 0, n, _, h => by simp [beN] at h
  | k + 1, n, hn, h => by
    have h1 : n / 256 < 256 ^ k := by rw [Nat.pow_succ] at hn; omega
    rw [beN] at h ⊢
    split at h
    · simp at h
    · rename_i hne
      rw [if_neg hne]
      by_cases h2 : 0 < (beN k (n / 256)).length
      · have := beN_first k (n / 256) h1 h2
        unfold bat at this ⊢
        rwa [List.getD_eq_getElem?_getD, List.getElem?_append_left h2, ← List.getD_eq_getElem?_getD]
      · have e : beN k (n / 256) = [] := List.eq_nil_of_length_eq_zero (by omega)
        have e2 : num (beN k (n / 256)) = ((n / 256 : Nat) : Int) := num_beN k _ h1
        rw [e] at e2 ⊢
        have : num ([] : List Int) = 0 := rfl
        simp only [List.nil_append, bat, List.getD_cons_zero]
        omega
theorem be_first {n : Nat} (h : n < 18446744073709551616) (h0 : n ≠ 0) : bat (be n) 0 ≠ 0 := beN_first 8 n (by omega) (be_pos h0)

/-- What stands ahead of n bytes. -/
def hd (m : Int) (n : Nat) : List Int := if n ≤ 55 then [m + n] else (m + 55 + (be n).length) :: be n
/-- The form of an item whose body is B. -/
def wrap (l : Bool) (B : List Int) : List Int :=
  if l = false ∧ B.length = 1 ∧ bat B 0 < 128 then B else hd (if l then 192 else 128) B.length ++ B
theorem hd_pos (m : Int) (n : Nat) : 0 < (hd m n).length := by unfold hd; split <;> simp
theorem hd_len (m : Int) (n : Nat) : (hd m n).length ≤ 9 := by unfold hd; have := be_len n; split <;> simp; omega
theorem wrap_pos (l : Bool) (B : List Int) : 0 < (wrap l B).length := by
  unfold wrap; split
  · rename_i h; omega
  · have := hd_pos (if l then 192 else 128) B.length; simp; omega
theorem wrap_len (l : Bool) (B : List Int) : B.length ≤ (wrap l B).length ∧ (wrap l B).length ≤ B.length + 9 := by
  unfold wrap; split
  · omega
  · have := hd_len (if l then 192 else 128) B.length; simp; omega
theorem wrap_true (B : List Int) : wrap true B = hd 192 B.length ++ B := by simp [wrap]
theorem wrap_true_len (B : List Int) : B.length + 1 ≤ (wrap true B).length := by
  rw [wrap_true]; have := hd_pos 192 B.length; simp; omega
theorem hd_bts {m : Int} (h : m = 128 ∨ m = 192) (n : Nat) : Bts (hd m n) := by
  unfold hd; have := be_len n
  split
  · intro x hx; simp at hx; omega
  · intro x hx
    rcases List.mem_cons.1 hx with rfl | hx
    · omega
    · exact be_bts n x hx
theorem wrap_bts (l : Bool) {B : List Int} (h : Bts B) : Bts (wrap l B) := by
  unfold wrap; split
  · exact h
  · exact (hd_bts (by cases l <;> simp) _).app h

/-- A head: how many bytes stand behind its first one, and how many bytes it tells of. -/
def rb (r : List Int) (s : Nat) : Except Int (Nat × Nat) :=
  if s ≤ 55 then (if s ≤ r.length then .ok (0, s) else .error 7)
  else if r.length < s - 55 then .error 7
  else if bat r 0 = 0 ∨ num (r.take (s - 55)) ≤ 55 then .error 8
  else if ((r.length - (s - 55) : Nat) : Int) < num (r.take (s - 55)) then .error 7
  else .ok (s - 55, (num (r.take (s - 55))).toNat)
/-- An item at the beginning of bytes: how many are its own. -/
def rd1 (kid : Nat → List Int → Except Int Unit) (d : Nat) : List Int → Except Int Nat
  | [] => .error 7
  | m :: r =>
    if m < 128 then .ok 1
    else if m < 192 then
      match rb r (m - 128).toNat with
      | .error e => .error e
      | .ok (k, n) => if n = 1 ∧ bat (r.drop k) 0 < 128 then .error 8 else .ok (1 + k + n)
    else if d = 0 then .error 8
    else match rb r (m - 192).toNat with
      | .error e => .error e
      | .ok (k, n) => match kid (d - 1) ((r.drop k).take n) with
        | .error e => .error e
        | .ok _ => .ok (1 + k + n)
/-- Items that fill bytes. -/
def rdl : Nat → Nat → List Int → Except Int Unit
  | 0, _, _ => .error 0
  | f + 1, d, b => if b = [] then .ok () else match rd1 (rdl f) d b with
    | .error e => .error e
    | .ok s => rdl f d (b.drop s)

theorem rb_ok {r : List Int} {s k n : Nat} (h : rb r s = .ok (k, n)) : k + n ≤ r.length ∧ k ≤ s := by
  unfold rb at h
  split at h
  · split at h
    · cases h; omega
    · cases h
  · split at h
    · cases h
    · split at h
      · cases h
      · split at h
        · cases h
        · cases h; omega
/-- What a head that is read says is how it is written. -/
theorem rb_hd {r : List Int} {s k n : Nat} (hb : Bts r) (hs : s ≤ 63) (m : Int) (h : rb r s = .ok (k, n)) : hd m n = (m + s) :: r.take k := by
  unfold rb at h
  split at h
  · split at h
    · cases h; simp [hd, *]
    · cases h
  · split at h
    · cases h
    · rename_i h55 hlen
      split at h
      · cases h
      · rename_i h8
        have hr := num_range (r.take (s - 55)) (hb.take _)
        have hl : (r.take (s - 55)).length = s - 55 := by rw [List.length_take]; omega
        split at h
        · cases h
        · cases h
          have e := be_num (L := r.take (s - 55)) (hb.take _) (by omega) (fun _ => by
            intro h0; apply h8; left
            unfold bat at h0 ⊢
            rwa [List.getD_eq_getElem?_getD, List.getElem?_take_of_lt (by omega), ← List.getD_eq_getElem?_getD] at h0)
          unfold hd
          rw [if_neg (by omega), e, hl]
          congr 1
          omega
/-- A head that is written is read. -/
theorem hd_rb {n : Nat} (hn : n < 4611686018427387904) (m : Int) (X : List Int) (hX : n ≤ X.length) : ∃ s k T, s ≤ 63 ∧ T.length = k ∧ hd m n = (m + (s : Nat)) :: T ∧ rb (T ++ X) s = .ok (k, n) := by
  by_cases h : n ≤ 55
  · refine ⟨n, 0, [], by omega, rfl, by simp [hd, h], ?_⟩
    unfold rb; rw [if_pos h, if_pos (by simpa using hX)]
  · have hl := be_len n
    have hp := be_pos (n := n) (by omega)
    refine ⟨55 + (be n).length, (be n).length, be n, by omega, rfl, ?_, ?_⟩
    · unfold hd; rw [if_neg h]; congr 1; omega
    · have e1 : 55 + (be n).length - 55 = (be n).length := by omega
      have e2 : ((be n) ++ X).take (be n).length = be n := by simp
      have e3 := num_be n (by omega)
      unfold rb
      rw [if_neg (by omega), e1, e2, e3, if_neg (by simp), if_neg ?_, if_neg ?_]
      · simp
      · simp; omega
      · rw [not_or]; refine ⟨?_, by omega⟩
        have := be_first (n := n) (by omega) (by omega)
        unfold bat at this ⊢
        rwa [List.getD_eq_getElem?_getD, List.getElem?_append_left hp, ← List.getD_eq_getElem?_getD]

theorem bat_app {L M : List Int} {t : Nat} (h : t < L.length) : bat (L ++ M) t = bat L t := by
  unfold bat; rw [List.getD_eq_getElem?_getD, List.getD_eq_getElem?_getD, List.getElem?_append_left h]

/-- The form of bytes or of a list begins with a byte that tells which, and the bytes of which body. -/
theorem wrap_read (l : Bool) {B : List Int} (hb : Bts B) (hn : B.length < 4611686018427387904) (r : List Int) :
    (l = false ∧ ∃ m, B = [m] ∧ m < 128 ∧ wrap l B = [m]) ∨
    (∃ s k T, s ≤ 63 ∧ T.length = k ∧ wrap l B = ((if l then (192 : Int) else 128) + (s : Nat)) :: (T ++ B) ∧ rb (T ++ (B ++ r)) s = .ok (k, B.length) ∧ ¬ (l = false ∧ B.length = 1 ∧ bat B 0 < 128)) := by
  by_cases h : l = false ∧ B.length = 1 ∧ bat B 0 < 128
  · left
    obtain ⟨h1, h2, h3⟩ := h
    obtain ⟨m, rfl⟩ := List.length_eq_one_iff.1 h2
    have h4 : m < 128 := by simpa [bat] using h3
    exact ⟨h1, m, rfl, h4, by rw [wrap, if_pos ⟨h1, rfl, h3⟩]⟩
  · right
    obtain ⟨s, k, T, h1, h2, h3, h4⟩ := hd_rb hn (if l then 192 else 128) (B ++ r) (by simp)
    exact ⟨s, k, T, h1, h2, by unfold wrap; rw [if_neg h, h3]; rfl, h4, h⟩

/-- Forms stand one behind the other in one way alone. -/
theorem wrap_one {l l' : Bool} {B B' r r' : List Int} (hb : Bts B) (hb' : Bts B') (hn : B.length < 4611686018427387904) (hn' : B'.length < 4611686018427387904)
    (h : wrap l B ++ r = wrap l' B' ++ r') : l = l' ∧ B = B' ∧ r = r' := by
  rcases wrap_read l hb hn r with ⟨rfl, m, rfl, hm, e⟩ | ⟨s, k, T, hs, hT, e, hrb, hnot⟩
  · rcases wrap_read l' hb' hn' r' with ⟨rfl, m', rfl, hm', e'⟩ | ⟨s', k', T', hs', hT', e', hrb', hnot'⟩
    · rw [e, e'] at h
      simp at h
      exact ⟨rfl, by rw [h.1], h.2⟩
    · rw [e, e'] at h
      simp only [List.cons_append, List.cons.injEq] at h
      exfalso; have := h.1; split at this <;> omega
  · rcases wrap_read l' hb' hn' r' with ⟨rfl, m', rfl, hm', e'⟩ | ⟨s', k', T', hs', hT', e', hrb', hnot'⟩
    · rw [e, e'] at h
      simp only [List.cons_append, List.cons.injEq] at h
      exfalso; have := h.1; split at this <;> omega
    · rw [e, e'] at h
      simp only [List.cons_append, List.cons.injEq, List.append_assoc] at h
      have hll : l = l' ∧ s = s' := by
        have := h.1
        cases l <;> cases l' <;> simp at this ⊢ <;> omega
      obtain ⟨rfl, rfl⟩ := hll
      rw [h.2, hrb'] at hrb
      simp only [Except.ok.injEq, Prod.mk.injEq] at hrb
      have h2 := h.2
      obtain ⟨e3, e4⟩ := List.append_inj h2 (by omega)
      obtain ⟨e5, e6⟩ := List.append_inj e4 (by omega)
      exact ⟨rfl, e5, e6⟩

/-- What is a form, of so many lists in lists at most. -/
def Fm : Nat → List Int → Prop
  | 0, F => ∃ bs, Bts bs ∧ F = wrap false bs
  | d + 1, F => (∃ bs, Bts bs ∧ F = wrap false bs) ∨ ∃ Fs : List (List Int), (∀ f ∈ Fs, Fm d f) ∧ F = wrap true Fs.flatten
theorem Fm.bts : ∀ {d : Nat} {F : List Int}, Fm d F → Bts F
  | 0, F, h => by obtain ⟨bs, hb, rfl⟩ := h; exact wrap_bts _ hb
  | d + 1, F, h => by
    rcases h with ⟨bs, hb, rfl⟩ | ⟨Fs, hF, rfl⟩
    · exact wrap_bts _ hb
    · refine wrap_bts _ fun x hx => ?_
      obtain ⟨f, hf, hx⟩ := List.mem_flatten.1 hx
      exact Fm.bts (hF f hf) x hx
theorem Fm.pos : ∀ {d : Nat} {F : List Int}, Fm d F → 0 < F.length
  | 0, F, h => by obtain ⟨bs, hb, rfl⟩ := h; exact wrap_pos _ _
  | d + 1, F, h => by
    rcases h with ⟨bs, hb, rfl⟩ | ⟨Fs, hF, rfl⟩
    · exact wrap_pos _ _
    · exact wrap_pos _ _
theorem Fm.form {d : Nat} {F : List Int} (h : Fm d F) : ∃ l B, Bts B ∧ F = wrap l B := by
  cases d with
  | zero => obtain ⟨bs, hb, rfl⟩ := h; exact ⟨_, _, hb, rfl⟩
  | succ d =>
    rcases h with ⟨bs, hb, rfl⟩ | ⟨Fs, hF, rfl⟩
    · exact ⟨_, _, hb, rfl⟩
    · refine ⟨_, _, fun x hx => ?_, rfl⟩
      obtain ⟨f, hf, hx⟩ := List.mem_flatten.1 hx
      exact Fm.bts (hF f hf) x hx
theorem fm_bytes (d : Nat) {bs : List Int} (h : Bts bs) : Fm d (wrap false bs) := by
  cases d with
  | zero => exact ⟨bs, h, rfl⟩
  | succ d => exact Or.inl ⟨bs, h, rfl⟩
theorem flat_bts {d : Nat} {Fs : List (List Int)} (h : ∀ f ∈ Fs, Fm d f) : Bts Fs.flatten := fun x hx => by
  obtain ⟨f, hf, hx⟩ := List.mem_flatten.1 hx
  exact (h f hf).bts x hx
/-- Forms one behind the other are the same, if all together are. -/
theorem flat_one {d : Nat} : ∀ {Fs Gs : List (List Int)}, (∀ f ∈ Fs, Fm d f) → (∀ g ∈ Gs, Fm d g) → Fs.flatten.length < 4611686018427387904 → Fs.flatten = Gs.flatten → Fs = Gs
  | [], [], _, _, _, _ => rfl
  | [], G :: Gs, _, hG, _, h => by
    have := (hG G (by simp)).pos
    have h2 := congrArg List.length h
    simp at h2; omega
  | F :: Fs, [], hF, _, _, h => by
    have := (hF F (by simp)).pos
    have h2 := congrArg List.length h
    rw [List.flatten_cons, List.length_append, List.flatten_nil, List.length_nil] at h2; omega
  | F :: Fs, G :: Gs, hF, hG, hl, h => by
    obtain ⟨l, B, hB, e⟩ := (hF F (by simp)).form
    obtain ⟨l', B', hB', e'⟩ := (hG G (by simp)).form
    have hlen := congrArg List.length h
    simp only [List.flatten_cons] at h hl hlen
    have w1 := wrap_len l B
    have w2 := wrap_len l' B'
    rw [← e] at w1
    rw [← e'] at w2
    simp only [List.length_append] at hlen hl
    have h' := h
    rw [e, e'] at h
    obtain ⟨rfl, rfl, h3⟩ := wrap_one hB hB' (by omega) (by omega) h
    rw [e, e', flat_one (fun f hf => hF f (by simp [hf])) (fun f hf => hG f (by simp [hf])) (by omega) h3]

/-- Forms are read. -/
theorem rdl_of {d : Nat} (hA : ∀ (F r : List Int) (f : Nat), Fm d F → F.length < 4611686018427387904 → F.length ≤ f → rd1 (rdl f) d (F ++ r) = .ok F.length) :
    ∀ (Fs : List (List Int)) (f : Nat), (∀ x ∈ Fs, Fm d x) → Fs.flatten.length < 4611686018427387904 → Fs.flatten.length < f → rdl f d Fs.flatten = .ok ()
  | [], f + 1, _, _, _ => by simp [rdl]
  | F :: Fs, f + 1, h, hl, hf => by
    simp only [List.flatten_cons, List.length_append] at hl hf ⊢
    have hp := (h F (by simp)).pos
    rw [rdl, if_neg (by intro e; have := congrArg List.length e; simp at this; simp [this] at hp), hA F _ f (h F (by simp)) (by omega) (by omega)]
    simp only [List.drop_left]
    exact rdl_of hA Fs f (fun x hx => h x (by simp [hx])) (by omega) (by omega)
theorem rd1_bytes {bs : List Int} (hb : Bts bs) (hl : bs.length < 4611686018427387904) (r : List Int) (kid : Nat → List Int → Except Int Unit) (d : Nat) :
    rd1 kid d (wrap false bs ++ r) = .ok (wrap false bs).length := by
  rcases wrap_read false hb hl r with ⟨-, m, rfl, hm, e⟩ | ⟨s, k, T, hs, hT, e, hrb, hnot⟩
  · rw [e]; simp [rd1, hm]
  · rw [e]
    simp only [Bool.false_eq_true, if_false, List.cons_append, List.append_assoc]
    have e1 : ((128 : Int) + (s : Nat) - 128).toNat = s := by omega
    have e2 : (T ++ (bs ++ r)).drop k = bs ++ r := by rw [← hT]; simp
    rw [rd1, if_neg (by omega), if_pos (by omega), e1, hrb]
    simp only [e2]
    rw [if_neg]
    · simp; omega
    · rintro ⟨h1, h2⟩
      apply hnot
      refine ⟨rfl, h1, ?_⟩
      rwa [bat_app (by omega)] at h2
theorem rd1_form : ∀ (d : Nat) (F r : List Int) (f : Nat), Fm d F → F.length < 4611686018427387904 → F.length ≤ f → rd1 (rdl f) d (F ++ r) = .ok F.length
  | 0, F, r, f, h, hl, hf => by
    obtain ⟨bs, hb, rfl⟩ := h
    have := (wrap_len false bs).1
    exact rd1_bytes hb (by omega) r _ _
  | d + 1, F, r, f, h, hl, hf => by
    rcases h with ⟨bs, hb, rfl⟩ | ⟨Fs, hF, rfl⟩
    · have := (wrap_len false bs).1
      exact rd1_bytes hb (by omega) r _ _
    · have hl2 := wrap_true_len Fs.flatten
      rcases wrap_read true (flat_bts hF) (by omega) r with ⟨h, -⟩ | ⟨s, k, T, hs, hT, e, hrb, hnot⟩
      · cases h
      · have hk := rdl_of (rd1_form d) Fs f hF (by omega) (by omega)
        rw [e]
        simp only [if_true, List.cons_append, List.append_assoc]
        have e1 : ((192 : Int) + (s : Nat) - 192).toNat = s := by omega
        have e2 : (T ++ (Fs.flatten ++ r)).drop k = Fs.flatten ++ r := by rw [← hT]; simp
        rw [rd1, if_neg (by omega), if_neg (by omega), if_neg (by omega), e1, hrb]
        simp only [e2, List.take_left, Nat.add_sub_cancel, hk]
        simp; omega

/-- All of bytes. -/
def whole (b : List Int) : Int :=
  if 65536 < b.length then 4 else match rd1 (rdl (b.length + 1)) 16 b with
    | .error e => e
    | .ok s => if s < b.length then 8 else 0
theorem whole_form {F : List Int} (h : Fm 16 F) (hl : F.length ≤ 65536) : whole F = 0 := by
  have := rd1_form 16 F [] (F.length + 1) h (by omega) (by omega)
  rw [List.append_nil] at this
  rw [whole, if_neg (by omega), this]
  simp
end Go.Proofs.Ytbjlmekafnpllab
