/- Ra, Rb, Rc. -/
import Derived.Test.YtoopgppahfnncaaDoorX17
import Derived.Test.YtoopgppahfnncaaDoorX04
import Derived.Laws.CopyOwn
import Derived.Test.YtoopgppahfnncaaDoorX13
import Derived.WideShapes
import Derived.ChangeKeysEq
/- Layer ir, pure: how many ends a text has. -/
namespace Go.Proofs.YtoopgppahfnncaaDoor
open Go.RowKit
set_option maxRecDepth 100000
set_option linter.unusedVariables false
set_option linter.unusedSimpArgs false


theorem fld_sum1 {α : Type} {f : α → Nat → Option Nat} {g : α → Nat} : ∀ (l : List α) (n m : Nat), (∀ a ∈ l, ∀ n m, f a n = some m → g a + m ≤ n) → fld f l n = some m → (l.map g).sum + m ≤ n
  | [], n, m, _, h => by cases h; simp
  | a :: r, n, m, hg, h => by
    unfold fld at h
    cases h1 : f a n with
    | none => rw [h1] at h; cases h
    | some k =>
      rw [h1] at h
      have i1 := hg a (List.mem_cons_self ..) n k h1
      have i2 := fld_sum1 r k m (fun q hq => hg q (List.mem_cons_of_mem _ hq)) h
      simp only [List.map_cons, List.sum_cons]
      omega

/-- How many lines say end, from here on; s: does a line begin here? -/
def ec : Bool → List UInt8 → Nat
  | _, [] => 0
  | s, c :: r => (if s = true ∧ (c :: r).take 4 = [101, 110, 100, 10] then 1 else 0) + ec (decide (c = 10)) r
theorem ecF (c : UInt8) (r : List UInt8) (h : c ≠ 10) : ec false (c :: r) = ec false r := by
  show (if (false : Bool) = true ∧ (c :: r).take 4 = [101, 110, 100, 10] then 1 else 0) + ec (decide (c = 10)) r = _
  rw [if_neg (by simp), Nat.zero_add, decide_eq_false h]
theorem ecF10 (r : List UInt8) : ec false (10 :: r) = ec true r := by
  show (if (false : Bool) = true ∧ (10 :: r).take 4 = [101, 110, 100, 10] then 1 else 0) + ec (decide ((10 : UInt8) = 10)) r = _
  rw [if_neg (by simp), Nat.zero_add]
  rfl
theorem ecT (c : UInt8) (r : List UInt8) (h : c ≠ 10) (h1 : c ≠ 101) : ec true (c :: r) = ec false r := by
  show (if (true : Bool) = true ∧ (c :: r).take 4 = [101, 110, 100, 10] then 1 else 0) + ec (decide (c = 10)) r = _
  rw [if_neg (by rintro ⟨-, e⟩; simp at e; exact h1 e.1), Nat.zero_add, decide_eq_false h]
def NL (l : List UInt8) : Prop := ∀ c ∈ l, c ≠ 10
theorem ecA : ∀ (w r : List UInt8), NL w → ec false (w ++ r) = ec false r
  | [], _, _ => rfl
  | c :: w, r, h => by
    rw [List.cons_append, ecF c _ (h c (List.mem_cons_self ..))]
    exact ecA w r fun d hd => h d (List.mem_cons_of_mem _ hd)
theorem ecElse (r : List UInt8) : ec true (101 :: 108 :: 115 :: 101 :: 10 :: r) = ec true r := by
  show (if (true : Bool) = true ∧ (101 :: 108 :: 115 :: 101 :: 10 :: r).take 4 = [101, 110, 100, 10] then 1 else 0) + ec (decide ((101 : UInt8) = 10)) (108 :: 115 :: 101 :: 10 :: r) = _
  rw [if_neg (by simp), Nat.zero_add]
  show ec false (108 :: 115 :: 101 :: 10 :: r) = _
  rw [ecF _ _ (by decide), ecF _ _ (by decide), ecF _ _ (by decide), ecF10]
theorem ecEnd (r : List UInt8) : ec true (101 :: 110 :: 100 :: 10 :: r) = 1 + ec true r := by
  show (if (true : Bool) = true ∧ (101 :: 110 :: 100 :: 10 :: r).take 4 = [101, 110, 100, 10] then 1 else 0) + ec (decide ((101 : UInt8) = 10)) (110 :: 100 :: 10 :: r) = _
  rw [if_pos (by simp)]
  show 1 + ec false (110 :: 100 :: 10 :: r) = _
  rw [ecF _ _ (by decide), ecF _ _ (by decide), ecF10]
theorem nl_of {l : List UInt8} (h : Wd l) : NL l := fun c hc => (h c hc).2
theorem nl_app {l m : List UInt8} (h : NL l) (h' : NL m) : NL (l ++ m) := fun c hc => (List.mem_append.1 hc).elim (h c) (h' c)
theorem nl_cons {c : UInt8} {l : List UInt8} (h : c ≠ 10) (h' : NL l) : NL (c :: l) := fun d hd => (List.mem_cons.1 hd).elim (fun e => by rw [e]; exact h) (h' d)
theorem nl_nil : NL [] := fun _ h => by cases h
theorem xn_nl {α : Type} (X : α → List UInt8) {vs : Int} (t : ExN α) (hm : mayE vs t = true) (h : ∀ a ∈ t.l, NL (X a)) : NL (xTn X t) := by
  obtain ⟨k, n, v, o, l⟩ := t
  rcases mayE_cases hm with ⟨h1, h2, -, -⟩ | ⟨h1, h2, -, -⟩ | ⟨h1, o1, o2, ⟨a, b, h2⟩, -, -⟩ | ⟨h1, ⟨a, h2⟩, -, -, -⟩ <;> simp only at h1 h2 <;> subst h1 <;> subst h2
  · rw [x1]; exact nl_of (dd_wd _)
  · rw [x2]; exact nl_cons (by decide) (nl_of (io_wd _))
  · have e := x3 X n v o a b []
    rw [List.append_nil] at e
    rw [e]
    exact nl_cons (by decide) (nl_cons (by decide) (nl_app (h a (by simp)) (nl_cons (by decide) (nl_app (nl_of (sg_wd o1 o2)) (nl_cons (by decide) (nl_app (h b (by simp)) (nl_cons (by decide) (nl_cons (by decide) nl_nil))))))))
  · have e := x4 X n v o a []
    rw [List.append_nil] at e
    rw [e]
    exact nl_cons (by decide) (nl_cons (by decide) (nl_app (h a (by simp)) (nl_cons (by decide) (nl_cons (by decide) nl_nil))))
theorem x_nl {vs : Int} : ∀ (d : Nat) (t : ExT d), okT vs d t → NL (xT d t)
  | 0, _, h => by cases h
  | d + 1, t, h => xn_nl (xT d) (t : ExN (ExT d)) h.1 fun a ha => x_nl d a (h.2.2 a ha)
/-- The arguments of a call stand in the line. -/
theorem tl_ec {vs : Int} : ∀ (l : List (ExT 8)) (r : List UInt8), (∀ x ∈ l, okT vs 8 x) → ec false (ln (((l.map (xT 8)).flatMap fun y => [[44], y]) ++ [[41]]) ++ r) = ec true r
  | [], r, _ => by
    have e : ln ((((([] : List (ExT 8)).map (xT 8)).flatMap fun y => [[44], y])) ++ [[41]]) ++ r = 41 :: 10 :: r := by simp [ln1]
    rw [e, ecF _ _ (by decide), ecF10]
  | x :: l, r, h => by
    obtain ⟨b, m, e⟩ : ∃ b m, ((l.map (xT 8)).flatMap fun y => [[44], y]) ++ [[41]] = b :: m := by
      cases h : ((l.map (xT 8)).flatMap fun y => [[44], y]) ++ [[41]] with
      | nil => simp at h
      | cons b m => exact ⟨b, m, rfl⟩
    have k1 : ln ((((x :: l).map (xT 8)).flatMap fun y => [[44], y]) ++ [[41]]) ++ r = 44 :: 32 :: (xT 8 x ++ 32 :: (ln (((l.map (xT 8)).flatMap fun y => [[44], y]) ++ [[41]]) ++ r)) := by
      rw [List.map_cons, List.flatMap_cons, List.append_assoc, e]; simp [lnc]
    rw [k1, ecF _ _ (by decide), ecF _ _ (by decide), ecA _ _ (x_nl 8 x (h x (List.mem_cons_self ..))), ecF _ _ (by decide)]
    exact tl_ec l r fun a ha => h a (List.mem_cons_of_mem _ ha)
theorem cw_ec {vs : Int} (l : List (ExT 8)) (r : List UInt8) (h : ∀ x ∈ l, okT vs 8 x) : ec false (ln (cw (l.map (xT 8)) ++ [[41]]) ++ r) = ec true r := by
  match l with
  | [] =>
    have e : ln (cw (([] : List (ExT 8)).map (xT 8)) ++ [[41]]) ++ r = 41 :: 10 :: r := by simp [cw, ln1]
    rw [e, ecF _ _ (by decide), ecF10]
  | x :: l =>
    rw [cw_form, ecA _ _ (x_nl 8 x (h x (List.mem_cons_self ..))), ecF _ _ (by decide)]
    exact tl_ec l r fun a ha => h a (List.mem_cons_of_mem _ ha)
/-- How many ifs and whiles a statement has. -/
def nbN {α : Type} (f : α → Nat) (s : StN α) : Nat := (if s.k = 3 ∨ s.k = 4 then 1 else 0) + ((s.th.map f).sum + (s.el.map f).sum)
def nbS : (d : Nat) → StT d → Nat
  | 0, _ => 0
  | d + 1, s => nbN (nbS d) (s : StN (StT d))
theorem fl_ec {α : Type} (S : α → List UInt8) (f : α → Nat) : ∀ (l : List α) (r : List UInt8), (∀ a ∈ l, ∀ r, ec true (S a ++ r) = f a + ec true r) → ec true ((l.map S).flatten ++ r) = (l.map f).sum + ec true r
  | [], r, _ => by simp
  | a :: l, r, h => by
    rw [List.map_cons, List.flatten_cons, List.append_assoc, h a (List.mem_cons_self ..), fl_ec S f l r fun b hb => h b (List.mem_cons_of_mem _ hb), List.map_cons, List.sum_cons]
    omega
theorem sn_ec {α : Type} (S : α → List UInt8) (f : α → Nat) {ps : List Int} {vs vs' : Int} (s : StN α) (h : mayS ps vs s = true) (ha : ∀ x ∈ s.a, okT vs' 8 x)
    (hT : ∀ a ∈ s.th, ∀ r, ec true (S a ++ r) = f a + ec true r) (hE : ∀ a ∈ s.el, ∀ r, ec true (S a ++ r) = f a + ec true r) (r : List UInt8) : ec true (sTn S s ++ r) = nbN f s + ec true r := by
  obtain ⟨k, v, g, t, a, th, el⟩ := s
  have nx : ∀ x ∈ a, NL (xT 8 x) := fun x hx => x_nl 8 x (ha x hx)
  have ni : ∀ i, NL (Lib.itoa i) := fun i => nl_of (io_wd i)
  have mm := mS h
  simp only at mm hT hE
  rcases mm with ⟨h1, ⟨x, h2⟩, h3, h4, h5, h6⟩ | ⟨h1, ⟨x, h2⟩, h3, h4, h5, h6⟩ | ⟨h1, ⟨x, y, h2⟩, h7, h3, h4, h5, h6⟩ | ⟨h1, ⟨x, h2⟩, h7, h3, h4⟩ | ⟨h1, ⟨x, h2⟩, h7, h3, h4, h6⟩ | ⟨h1, ⟨x, h2⟩, h7, h3, h4, h5, h6⟩ | ⟨h1, h4, h5, h6⟩ | ⟨h1, ⟨x, y, z, h2⟩, h7, h3, h5, h6⟩ | ⟨h1, ⟨x, y, h2⟩, h3, h4, h5, h6⟩
  · subst h1; subst h2; subst h5; subst h6
    rw [s1]
    rw [ecT _ _ (by decide) (by decide), ecA _ _ (ni _), ecF _ _ (by decide), ecF _ _ (by decide), ecF _ _ (by decide), ecA _ _ (nx x (by simp)), ecF10]
    simp [nbN]
  · subst h1; subst h2; subst h5; subst h6
    rw [s9]
    rw [ecT _ _ (by decide) (by decide), ecA _ _ (ni _), ecF _ _ (by decide), ecF _ _ (by decide), ecF _ _ (by decide), ecF _ _ (by decide), ecF _ _ (by decide), ecF _ _ (by decide), ecF _ _ (by decide), ecF _ _ (by decide), ecA _ _ (nx x (by simp)), ecF10]
    simp [nbN]
  · subst h1; subst h2; subst h5; subst h6
    rw [s2]
    rw [ecT _ _ (by decide) (by decide), ecF _ _ (by decide), ecA _ _ (nx x (by simp)), ecF _ _ (by decide), ecF _ _ (by decide), ecF _ _ (by decide), ecF _ _ (by decide), ecF _ _ (by decide), ecA _ _ (nx y (by simp)), ecF10]
    simp [nbN]
  · subst h1; subst h2
    rw [s3]
    rw [ecT _ _ (by decide) (by decide), ecF _ _ (by decide), ecF _ _ (by decide), ecA _ _ (nx x (by simp)), ecF10]
    rw [fl_ec S f th _ hT, ecElse, fl_ec S f el _ hE, ecEnd]
    simp [nbN]; omega
  · subst h1; subst h2; subst h6
    rw [s4]
    rw [ecT _ _ (by decide) (by decide), ecF _ _ (by decide), ecF _ _ (by decide), ecF _ _ (by decide), ecF _ _ (by decide), ecF _ _ (by decide), ecA _ _ (nx x (by simp)), ecF10]
    rw [fl_ec S f th _ hT, ecEnd]
    simp [nbN]; omega
  · subst h1; subst h2; subst h5; subst h6
    rw [s5]
    rw [ecT _ _ (by decide) (by decide), ecF _ _ (by decide), ecF _ _ (by decide), ecF _ _ (by decide), ecF _ _ (by decide), ecF _ _ (by decide), ecF _ _ (by decide), ecA _ _ (nx x (by simp)), ecF10]
    simp [nbN]
  · subst h1; subst h5; subst h6
    rw [s6]
    rw [ecT _ _ (by decide) (by decide), ecA _ _ (ni _), ecF _ _ (by decide), ecF _ _ (by decide), ecF _ _ (by decide), ecF _ _ (by decide), ecA _ _ (ni _), ecF _ _ (by decide), ecF _ _ (by decide), ecF _ _ (by decide)]
    rw [cw_ec a r ha]
    simp [nbN]
  · subst h1; subst h2; subst h5; subst h6
    rw [s7]
    rw [ecT _ _ (by decide) (by decide), ecF _ _ (by decide), ecF _ _ (by decide), ecF _ _ (by decide), ecF _ _ (by decide), ecA _ _ (ni _), ecF _ _ (by decide), ecA _ _ (nx x (by simp)), ecF _ _ (by decide), ecA _ _ (nx y (by simp)), ecF _ _ (by decide), ecA _ _ (nx z (by simp)), ecF10]
    simp [nbN]
  · subst h1; subst h2; subst h5; subst h6
    rw [s8]
    rw [ecT _ _ (by decide) (by decide), ecA _ _ (ni _), ecF _ _ (by decide), ecF _ _ (by decide), ecF _ _ (by decide), ecF _ _ (by decide), ecF _ _ (by decide), ecF _ _ (by decide), ecF _ _ (by decide), ecA _ _ (nx x (by simp)), ecF _ _ (by decide), ecA _ _ (nx y (by simp)), ecF10]
    simp [nbN]

theorem st_ec {vs : Int} : ∀ (d : Nat) (s : StT d), okS vs d s → ∀ r, ec true (sT d s ++ r) = nbS d s + ec true r
  | 0, _, h, _ => by cases h
  | d + 1, s, h, r => by
    obtain ⟨⟨ps, hm⟩, -, -, ha, ht, hel⟩ := h
    exact sn_ec (sT d) (nbS d) (s : StN (StT d)) hm ha (fun a h => st_ec d a (ht a h)) (fun a h => st_ec d a (hel a h)) r
def nbF (f : FuT) : Nat := 1 + (f.b.map (nbS 8)).sum
theorem f_ec (f : FuT) (h : okF f) (r : List UInt8) : ec true (fT f ++ r) = nbF f + ec true r := by
  have ni : ∀ i, NL (Lib.itoa i) := fun i => nl_of (io_wd i)
  rw [fT_form, ecT _ _ (by decide) (by decide), ecF _ _ (by decide), ecF _ _ (by decide), ecF _ _ (by decide), ecF _ _ (by decide), ecA _ _ (ni _), ecF _ _ (by decide), ecA _ _ (ni _), ecF10, fl_ec (sT 8) (nbS 8) f.b _ (fun a ha => st_ec 8 a (h.b a ha)), ecEnd]
  unfold nbF
  omega
theorem p_ec (p : PgT) (h : ∀ f ∈ p.fs, okF f) : ec true (pT p) = (p.fs.map nbF).sum := by
  have ni : ∀ i, NL (Lib.itoa i) := fun i => nl_of (io_wd i)
  have pf : pT p = 100 :: 97 :: 116 :: 97 :: 32 :: (Lib.itoa p.da ++ 10 :: ((p.fs.map fT).flatten ++ [])) := by unfold pT; simp [lnc, ln1]
  rw [pf, ecT _ _ (by decide) (by decide), ecF _ _ (by decide), ecF _ _ (by decide), ecF _ _ (by decide), ecF _ _ (by decide), ecA _ _ (ni _), ecF10, fl_ec fT nbF p.fs [] (fun a ha => f_ec a (h a ha))]
  rfl
/-- Does a line begin at place i? -/
def ls (L : List UInt8) (i : Nat) : Bool := decide (i = 0 ∨ L[i - 1]? = some 10)
theorem ec_step {L : List UInt8} {i : Nat} (hi : i < L.length) : ec (ls L i) (L.drop i) = (if ls L i = true ∧ (L.drop i).take 4 = [101, 110, 100, 10] then 1 else 0) + ec (ls L (i + 1)) (L.drop (i + 1)) := by
  have e : ls L (i + 1) = decide (L[i] = 10) := by
    unfold ls
    rw [Nat.add_sub_cancel, List.getElem?_eq_getElem hi]
    simp
  rw [List.drop_eq_getElem_cons hi, e]
  rfl
theorem ec_end {s : Bool} : ∀ {l : List UInt8}, l.length < 4 → ec s l = 0 := by
  intro l
  induction l generalizing s with
  | nil => intro _; rfl
  | cons c r ih =>
    intro h
    unfold ec
    rw [ih (by simp at h; omega), if_neg]
    rintro ⟨-, e⟩
    have := congrArg List.length e
    simp at this h
    omega
theorem nb_fld {ps : List Int} {vs : Int} : ∀ (d : Nat) (s : StT d) (n m : Nat), stN ps vs d s n = some m → nbS d s + m ≤ n
  | 0, _, _, _, h => by cases h
  | d + 1, s, n, m, h => by
    unfold stN at h
    split at h
    · cases h
    next hc =>
      have hn0 : n ≠ 0 := fun e => hc (.inl e)
      cases h1 : fld (exN vs 8) (StN.a (α := StT d) s) (n - 1) with
      | none => rw [h1] at h; cases h
      | some k =>
        rw [h1] at h
        replace h : (fld (stN ps vs d) (StN.th (α := StT d) s) k).bind (fld (stN ps vs d) (StN.el (α := StT d) s)) = some m := h
        cases h2 : fld (stN ps vs d) (StN.th (α := StT d) s) k with
        | none => rw [h2] at h; cases h
        | some k2 =>
          rw [h2] at h
          replace h : fld (stN ps vs d) (StN.el (α := StT d) s) k2 = some m := h
          have i1 := fld_le (fun a n m h => exN_le 8 a n m h) _ _ _ h1
          have i2 := fld_sum1 (g := nbS d) (StN.th (α := StT d) s) k k2 (fun a ha n m h => nb_fld d a n m h) h2
          have i3 := fld_sum1 (g := nbS d) (StN.el (α := StT d) s) k2 m (fun a ha n m h => nb_fld d a n m h) h
          show nbN (nbS d) (s : StN (StT d)) + m ≤ n
          unfold nbN
          have i4 : (if StN.k (α := StT d) s = 3 ∨ StN.k (α := StT d) s = 4 then 1 else 0) ≤ 1 := by split <;> omega
          omega
end Go.Proofs.YtoopgppahfnncaaDoor
/- Layer ir: how many ifs and whiles. -/
namespace Go.Proofs.YtoopgppahfnncaaDoor
open Go.RowKit
set_option maxRecDepth 100000
set_option linter.unusedVariables false
set_option linter.unusedSimpArgs false


/-- What blocks comes to. -/
def BLK (N d : Nat) : Prop := ∀ (w : World) (sp : Option Addr) (n cap : Nat) (l : List (StT d)) (ps : List Int) (vs : Int) (k m : Nat), N ≤ w.heap.size → RS N w 7 (StM N w d) sp n cap l → fld (stN ps vs d) l k = some m → k ≤ 4096 →
  Calls Tryd.prog 15 #[.slice sp n cap] w fun e w' => e = .returned (.int .i64 (((l.map (nbS d)).sum : Nat) : Int)) ∧ Below w.heap.size w w'
set_option maxHeartbeats 1000000 in
theorem blk_0 (N : Nat) : BLK N 0 := by
  intro w sp n cap l ps vs k m hN hS hf hk
  have hlen := hS.len
  match l, hf with
  | a :: r, hf => exact absurd hf (by show ¬ ((none : Option Nat).bind _ = some m); simp)
  | [], _ =>
    obtain rfl : n = 0 := hlen.out
    clear hS hlen
    go_enter Tryd.func15, Tryd.ntmps15
    go_upto_region 3 with fail
    go_loopw [3, 4] (fun a i wr => a = .int .i64 0 ∧ i = .int .i64 0 ∧ Below w.heap.size w wr) (fun _ _ _ => 0)
    case atStart => exact ⟨rfl, rfl, Below.refl _ _⟩
    case round =>
      obtain ⟨rfl, rfl, hb⟩ := hrel
      go_wp2_with fail
      go_ret
      exact ⟨rfl, hb⟩
theorem st_split {ps : List Int} {vs : Int} {d : Nat} {s : StT (d + 1)} {n m : Nat} (h : stN ps vs (d + 1) s n = some m) : ∃ k k2, k ≤ n ∧ k2 ≤ n ∧ fld (stN ps vs d) (StN.th (α := StT d) s) k = some k2 ∧ fld (stN ps vs d) (StN.el (α := StT d) s) k2 = some m := by
  unfold stN at h
  split at h
  · cases h
  next hc =>
    cases h1 : fld (exN vs 8) (StN.a (α := StT d) s) (n - 1) with
    | none => rw [h1] at h; cases h
    | some k =>
      rw [h1] at h
      replace h : (fld (stN ps vs d) (StN.th (α := StT d) s) k).bind (fld (stN ps vs d) (StN.el (α := StT d) s)) = some m := h
      cases h2 : fld (stN ps vs d) (StN.th (α := StT d) s) k with
      | none => rw [h2] at h; cases h
      | some k2 =>
        rw [h2] at h
        replace h : fld (stN ps vs d) (StN.el (α := StT d) s) k2 = some m := h
        have i1 := fld_le (fun a n m h => exN_le 8 a n m h) _ _ _ h1
        have i2 := fld_sum1 (g := nbS d) (StN.th (α := StT d) s) k k2 (fun a ha n m h => nb_fld d a n m h) h2
        exact ⟨k, k2, by omega, by omega, h2, h⟩
set_option maxHeartbeats 8000000 in
theorem blk_s {N d : Nat} (hE : BLK N d) : BLK N (d + 1) := by
  intro w sp n cap l ps vs k m hN hS hf hk
  have hlen := hS.len
  have hsm := hS.small
  have hsum := fld_sum1 (g := nbS (d + 1)) l k m (fun a ha n m h => nb_fld (d + 1) a n m h) hf
  obtain ⟨r, hr⟩ : ∃ r, r = (l.map (nbS (d + 1))).sum := ⟨_, rfl⟩
  rw [← hr] at hsum ⊢
  replace hr := hid hr
  go_enter Tryd.func15, Tryd.ntmps15
  go_upto_region 3 with fail
  go_loopw [3, 4] (fun a i wr => ∃ (j q : Nat), a = .int .i64 (q : Int) ∧ i = .int .i64 (j : Int) ∧ j ≤ n ∧ Hid (r = q + ((l.drop j).map (nbS (d + 1))).sum) ∧ Hid (∃ k', k' ≤ 4096 ∧ fld (stN ps vs (d + 1)) (l.drop j) k' = some m) ∧ Below w.heap.size w wr)
    (fun _ i _ => n - (intOf i).toNat)
  case atStart => exact ⟨0, 0, rfl, rfl, by omega, hid (by rw [List.drop_zero, Nat.zero_add]; exact hr.out), hid ⟨k, hk, hf⟩, Below.refl _ _⟩
  case round =>
    obtain ⟨j, q, rfl, rfl, hj, hq, hkk, hbw⟩ := hrel
    by_cases hlt : j < n
    · obtain ⟨s, hs⟩ : ∃ t, l[j]? = some t := ⟨l[j]'(by rw [← hlen.out]; exact hlt), List.getElem?_eq_getElem _⟩
      obtain ⟨g, off, rfl, hg, hR⟩ := hS.at0 (by omega)
      obtain ⟨cs, hrg, hM⟩ := hR j s hs
      have hrg2 := rb hrg hbw (by omega)
      have hM2 := StM.below (hbw.mono hN) (d + 1) cs s hM
      obtain ⟨sa, na, ca, sb, nb, cb, sc, nc, cc, rfl, -, -, hB, hC⟩ := hM2
      obtain ⟨k', hk', hfk⟩ := hkk.out
      rw [fld_drop hs] at hfk
      obtain ⟨k'', e1, e2⟩ := Option.bind_eq_some_iff.1 hfk
      have hk2 : Hid (∃ k', k' ≤ 4096 ∧ fld (stN ps vs (d + 1)) (l.drop (j + 1)) k' = some m) := hid ⟨k'', by have := nb_fld (d + 1) s k' k'' e1; omega, e2⟩
      obtain ⟨ka, kb, hka, hkb, e3, e4⟩ := st_split e1
      have hx1 := fun (u : World) (hu : Below wr.heap.size wr u) => hE u sb nb cb _ ps vs ka kb (Nat.le_trans hN (Nat.le_trans hbw.size hu.size)) (hB.imp (hu.mono (Nat.le_trans hN hbw.size)) (StM.below (hu.mono (Nat.le_trans hN hbw.size)) d)) e3 (by omega)
      have hx2 := fun (u : World) (hu : Below wr.heap.size wr u) => hE u sc nc cc _ ps vs kb k'' (Nat.le_trans hN (Nat.le_trans hbw.size hu.size)) (hC.imp (hu.mono (Nat.le_trans hN hbw.size)) (StM.below (hu.mono (Nat.le_trans hN hbw.size)) d)) e4 (by omega)
      have hds : ((l.drop j).map (nbS (d + 1))).sum = nbS (d + 1) s + ((l.drop (j + 1)).map (nbS (d + 1))).sum := by
        obtain ⟨hj, rfl⟩ := List.getElem?_eq_some_iff.1 hs
        rw [List.drop_eq_getElem_cons hj, List.map_cons, List.sum_cons]
      have hnb : nbS (d + 1) s = nbN (nbS d) (s : StN (StT d)) := rfl
      unfold nbN at hnb
      change StN (StT d) at s
      replace hx1 : ∀ u, Below wr.heap.size wr u → Calls Tryd.prog 15 #[.slice sb nb cb] u fun e w' => e = .returned (.int .i64 (((s.th.map (nbS d)).sum : Nat) : Int)) ∧ Below u.heap.size u w' := hx1
      replace hx2 : ∀ u, Below wr.heap.size wr u → Calls Tryd.prog 15 #[.slice sc nc cc] u fun e w' => e = .returned (.int .i64 (((s.el.map (nbS d)).sum : Nat) : Int)) ∧ Below u.heap.size u w' := hx2
      replace hnb : nbS (d + 1) s = (if s.k = 3 ∨ s.k = 4 then 1 else 0) + ((s.th.map (nbS d)).sum + (s.el.map (nbS d)).sum) := hnb
      replace hrg2 : wr.rangeAt g (off + j * 7) (stC s.k s.v s.f s.t (.slice sa na ca) (.slice sb nb cb) (.slice sc nc cc)) := hrg2
      generalize (s.th.map (nbS d)).sum = x at *
      generalize (s.el.map (nbS d)).sum = y at *
      obtain ⟨z, hz⟩ : ∃ z, z = ((l.drop (j + 1)).map (nbS (d + 1))).sum := ⟨_, rfl⟩
      rw [← hz] at hds
      replace hz := hid hz
      obtain ⟨sk, hsk⟩ : ∃ a, a = s.k := ⟨_, rfl⟩
      rw [← hsk] at hnb hrg2
      have c0 := hrg2 0 _ rfl
      have c5 := hrg2 5 _ rfl
      have c6 := hrg2 6 _ rfl
      simp only [Nat.add_zero] at c0
      have hgl := block_lt_of_cell c0
      have hS0 : ∀ u, Below wr.heap.size wr u → u.cell? ⟨g, off + j * 7 + 5, none⟩ = some (.slice sb nb cb) ∧ u.cell? ⟨g, off + j * 7 + 6, none⟩ = some (.slice sc nc cc) := fun u hu => ⟨(hu.cell (p := ⟨g, off + j * 7 + 5, none⟩) hgl).trans c5, (hu.cell (p := ⟨g, off + j * 7 + 6, none⟩) hgl).trans c6⟩
      have hrq := hq.out
      rw [hds] at hrq
      have hlt' : (j : Int) < n := by omega
      have h0 : (0 : Int) ≤ j := by omega
      clear hS hR hrg hrg2 hM hB hC hf hlen hs hkk hk' hfk e1 e2 e3 e4 hds hE hsk hq hr hka hkb
      by_cases h3 : sk = 3
      · rw [if_pos (.inl h3)] at hnb
        subst h3
        obtain ⟨hw0, hw1, hw2⟩ : wrap64 ((q : Int) + 1) = (q : Int) + 1 ∧ IntKind.i64.wrap ((x : Int) + (y : Int)) = (x : Int) + (y : Int) ∧ IntKind.i64.wrap ((q : Int) + 1 + ((x : Int) + (y : Int))) = (q : Int) + 1 + ((x : Int) + (y : Int)) := ⟨by unfold wrap64; omega, (IntKind.wrap_i64 _).trans (by omega), (IntKind.wrap_i64 _).trans (by omega)⟩
        have hw3 : IntKind.i64.wrap (wrap64 ((q : Int) + 1) + ((x : Int) + (y : Int))) = (q : Int) + 1 + ((x : Int) + (y : Int)) := (congrArg (fun a => IntKind.i64.wrap (a + ((x : Int) + (y : Int)))) hw0).trans hw2
        replace hk := hid hk
        replace hsum := hid hsum
        go_upto_region 7 with fail
        have hD0 := (Below.refl wr.heap.size wr).drew
        refine rgn (fun u => u.cell? ⟨g, off + j * 7 + 5, none⟩ = some (.slice sb nb cb) ∧ u.cell? ⟨g, off + j * 7 + 6, none⟩ = some (.slice sc nc cc)) (hS0 _ hD0) (fun hSw => ?_)
        refine tk2 0 rfl ?_
        refine tk2 1 rfl ?_
        refine tk2 2 rfl ?_
        refine tk2 3 rfl ?_
        refine tk2 4 rfl ?_
        refine tk2 5 rfl ?_
        refine tk2 7 rfl ?_
        refine tk2 8 rfl ?_
        refine tk2 9 rfl ?_
        refine tk2 10 rfl ?_
        refine tk2 11 rfl ?_
        refine rd 6 rfl (fun K hK => ?_)
        go_simp
        refine (hx1 _ hD0).mono ?_
        rintro e v1 ⟨rfl, hbv1⟩
        have hv1 := hD0.trans (hbv1.mono hD0.size)
        go_wp2_with fail
        refine hK.out _ _ (hS0 _ hv1) (fun hSv1 => ?_)
        clear hK K
        try simp only [Act.put, List.setIfInBounds_toArray, List.set_cons_zero, List.set_cons_succ]
        refine rd 12 rfl (fun K hK => ?_)
        go_simp
        refine (hx2 _ hv1).mono ?_
        rintro e v2 ⟨rfl, hbv2⟩
        have hv2 := hv1.trans (hbv2.mono hv1.size)
        go_wp2_with fail
        refine hK.out _ _ (hS0 _ hv2) (fun hSv2 => ?_)
        clear hK K
        try simp only [Act.put, List.setIfInBounds_toArray, List.set_cons_zero, List.set_cons_succ]
        refine tk2 13 rfl ?_
        refine tk2 14 rfl ?_
        refine tk2 15 rfl ?_
        refine dn ?_
        go_wp2_with fail
        go_roundw
        case rel =>
          clear hw0 hw1 hw2 hw3
          exact ⟨j + 1, q + 1 + (x + y), by (push_cast; rfl), by go_num, by omega, hid (by rw [← hz.out]; omega), hk2, hbw.trans (hv2.mono hbw.size)⟩
        case measure =>
          clear hw0 hw1 hw2 hw3
          simp [intOf]; omega
      by_cases h4 : sk = 4
      · rw [if_pos (.inr h4)] at hnb
        subst h4
        obtain ⟨hw0, hw1, hw2⟩ : wrap64 ((q : Int) + 1) = (q : Int) + 1 ∧ IntKind.i64.wrap ((x : Int) + (y : Int)) = (x : Int) + (y : Int) ∧ IntKind.i64.wrap ((q : Int) + 1 + ((x : Int) + (y : Int))) = (q : Int) + 1 + ((x : Int) + (y : Int)) := ⟨by unfold wrap64; omega, (IntKind.wrap_i64 _).trans (by omega), (IntKind.wrap_i64 _).trans (by omega)⟩
        have hw3 : IntKind.i64.wrap (wrap64 ((q : Int) + 1) + ((x : Int) + (y : Int))) = (q : Int) + 1 + ((x : Int) + (y : Int)) := (congrArg (fun a => IntKind.i64.wrap (a + ((x : Int) + (y : Int)))) hw0).trans hw2
        replace hk := hid hk
        replace hsum := hid hsum
        go_upto_region 7 with fail
        have hD0 := (Below.refl wr.heap.size wr).drew
        refine rgn (fun u => u.cell? ⟨g, off + j * 7 + 5, none⟩ = some (.slice sb nb cb) ∧ u.cell? ⟨g, off + j * 7 + 6, none⟩ = some (.slice sc nc cc)) (hS0 _ hD0) (fun hSw => ?_)
        refine tk2 0 rfl ?_
        refine tk2 1 rfl ?_
        refine tk2 2 rfl ?_
        refine tk2 3 rfl ?_
        refine tk2 4 rfl ?_
        refine tk2 5 rfl ?_
        refine tk2 7 rfl ?_
        refine tk2 8 rfl ?_
        refine tk2 9 rfl ?_
        refine tk2 10 rfl ?_
        refine tk2 11 rfl ?_
        refine rd 6 rfl (fun K hK => ?_)
        go_simp
        refine (hx1 _ hD0).mono ?_
        rintro e v1 ⟨rfl, hbv1⟩
        have hv1 := hD0.trans (hbv1.mono hD0.size)
        go_wp2_with fail
        refine hK.out _ _ (hS0 _ hv1) (fun hSv1 => ?_)
        clear hK K
        try simp only [Act.put, List.setIfInBounds_toArray, List.set_cons_zero, List.set_cons_succ]
        refine rd 12 rfl (fun K hK => ?_)
        go_simp
        refine (hx2 _ hv1).mono ?_
        rintro e v2 ⟨rfl, hbv2⟩
        have hv2 := hv1.trans (hbv2.mono hv1.size)
        go_wp2_with fail
        refine hK.out _ _ (hS0 _ hv2) (fun hSv2 => ?_)
        clear hK K
        try simp only [Act.put, List.setIfInBounds_toArray, List.set_cons_zero, List.set_cons_succ]
        refine tk2 13 rfl ?_
        refine tk2 14 rfl ?_
        refine tk2 15 rfl ?_
        refine dn ?_
        go_wp2_with fail
        go_roundw
        case rel =>
          clear hw0 hw1 hw2 hw3
          exact ⟨j + 1, q + 1 + (x + y), by (push_cast; rfl), by go_num, by omega, hid (by rw [← hz.out]; omega), hk2, hbw.trans (hv2.mono hbw.size)⟩
        case measure =>
          clear hw0 hw1 hw2 hw3
          simp [intOf]; omega
      · rw [if_neg (by rintro (h | h); exact h3 h; exact h4 h)] at hnb
        have g3 : (sk == 3) = false := by rw [beq_eq_false_iff_ne]; exact h3
        have g4 : (sk == 4) = false := by rw [beq_eq_false_iff_ne]; exact h4
        have g5 : decide (sk = 3) = false := decide_eq_false h3
        have g6 : decide (sk = 4) = false := decide_eq_false h4
        obtain ⟨hw1, hw2⟩ : IntKind.i64.wrap ((x : Int) + (y : Int)) = (x : Int) + (y : Int) ∧ IntKind.i64.wrap ((q : Int) + ((x : Int) + (y : Int))) = (q : Int) + ((x : Int) + (y : Int)) := ⟨(IntKind.wrap_i64 _).trans (by omega), (IntKind.wrap_i64 _).trans (by omega)⟩
        replace hk := hid hk
        replace hsum := hid hsum
        go_upto_region 7 with fail
        have hD0 := (Below.refl wr.heap.size wr).drew
        refine rgn (fun u => u.cell? ⟨g, off + j * 7 + 5, none⟩ = some (.slice sb nb cb) ∧ u.cell? ⟨g, off + j * 7 + 6, none⟩ = some (.slice sc nc cc)) (hS0 _ hD0) (fun hSw => ?_)
        refine tk2 0 rfl ?_
        refine tk2 1 rfl ?_
        refine tk2 2 rfl ?_
        refine tk2 3 rfl ?_
        refine tk2 4 rfl ?_
        refine tk2 5 rfl ?_
        refine tk2 7 rfl ?_
        refine tk2 8 rfl ?_
        refine tk2 9 rfl ?_
        refine tk2 10 rfl ?_
        refine tk2 11 rfl ?_
        refine rd 6 rfl (fun K hK => ?_)
        go_simp
        refine (hx1 _ hD0).mono ?_
        rintro e v1 ⟨rfl, hbv1⟩
        have hv1 := hD0.trans (hbv1.mono hD0.size)
        go_wp2_with fail
        refine hK.out _ _ (hS0 _ hv1) (fun hSv1 => ?_)
        clear hK K
        try simp only [Act.put, List.setIfInBounds_toArray, List.set_cons_zero, List.set_cons_succ]
        refine rd 12 rfl (fun K hK => ?_)
        go_simp
        refine (hx2 _ hv1).mono ?_
        rintro e v2 ⟨rfl, hbv2⟩
        have hv2 := hv1.trans (hbv2.mono hv1.size)
        go_wp2_with fail
        refine hK.out _ _ (hS0 _ hv2) (fun hSv2 => ?_)
        clear hK K
        try simp only [Act.put, List.setIfInBounds_toArray, List.set_cons_zero, List.set_cons_succ]
        refine tk2 13 rfl ?_
        refine tk2 14 rfl ?_
        refine tk2 15 rfl ?_
        refine dn ?_
        go_wp2_with fail
        go_roundw
        case rel =>
          clear hw1 hw2
          exact ⟨j + 1, q + (x + y), by (push_cast; rfl), by go_num, by omega, hid (by rw [← hz.out]; omega), hk2, hbw.trans (hv2.mono hbw.size)⟩
        case measure =>
          clear hw1 hw2
          simp [intOf]; omega
    · obtain rfl : j = n := by omega
      have hrn : r = q := by have := hq.out; rw [hlen.out, List.drop_length] at this; simpa using this
      clear hS hE hf hlen hq hkk hr
      go_wp2_with fail
      go_ret
      rw [hrn]
      exact ⟨rfl, hbw⟩
theorem blk_any (N : Nat) : ∀ d, BLK N d
  | 0 => blk_0 N
  | d + 1 => blk_s (blk_any N d)
end Go.Proofs.YtoopgppahfnncaaDoor
/- Layer ir: the law of lines, given its anchor. -/
namespace Go.Proofs.YtoopgppahfnncaaDoor
open Go.Shelf Go.RowKit Go.Sort
set_option maxRecDepth 100000
set_option linter.unusedVariables false
set_option linter.unusedSimpArgs false


theorem ex_take (L : List UInt8) (j : Nat) : ((tx L).extract j (j + 4)).toList = (L.drop j).take 4 := by
  rw [ByteArray.toList_eq]
  simp [tx, ByteArray.data_extract]
theorem tx_at {L : List UInt8} {i : Nat} {c : UInt8} (hc : L[i]? = some c) (h : i < (tx L).size) : (tx L)[i]'h = c := by
  obtain ⟨h1, h2⟩ := List.getElem?_eq_some_iff.1 hc
  exact h2
theorem fu_cells2 {N : Nat} {w : World} {cs : List Value} {f : FuT} (h : FuM N w cs f) : ∃ p v s m c, cs = fuC p v (.slice s m c) := let ⟨sp, m, cap, h1, _, _⟩ := h; ⟨_, _, sp, m, cap, h1⟩
theorem fs_split : ∀ (fs : List FuT) (ps : List Int) (n m : Nat), fnN fs ps n = some m → (∀ f ∈ fs, ∃ ps' k k', k ≤ n ∧ fld (stN ps' f.v 8) f.b k = some k') ∧ ((fs.map fun f => (f.b.map (nbS 8)).sum).sum + m ≤ n)
  | [], _, n, m, h => by cases h; simp
  | f :: r, ps, n, m, h => by
    unfold fnN at h
    split at h
    next hc =>
      cases h1 : fld (stN ps f.v 8) f.b n with
      | none => rw [h1] at h; cases h
      | some k =>
        rw [h1] at h
        replace h : fnN r (ps ++ [f.p]) k = some m := h
        have i3 := fld_sum1 (g := nbS 8) f.b n k (fun a ha n m h => nb_fld 8 a n m h) h1
        obtain ⟨i1, i2⟩ := fs_split r (ps ++ [f.p]) k m h
        refine ⟨fun g hg => ?_, ?_⟩
        · rcases List.mem_cons.1 hg with rfl | hg
          · exact ⟨ps, n, k, Nat.le_refl _, h1⟩
          · obtain ⟨ps', a, b, ha, hb⟩ := i1 g hg
            exact ⟨ps', a, b, by omega, hb⟩
        · simp only [List.map_cons, List.sum_cons]
          omega
    · cases h
theorem sum_nbF : ∀ (fs : List FuT), (fs.map nbF).sum = fs.length + (fs.map fun f => (f.b.map (nbS 8)).sum).sum
  | [] => rfl
  | f :: r => by rw [List.map_cons, List.sum_cons, sum_nbF r, List.map_cons, List.sum_cons, List.length_cons]; unfold nbF; omega

set_option maxHeartbeats 8000000 in
theorem lines_walk {sp : Option Addr} {n cap : Nat} (p : PgT) (w : World) (hM : PgM w.heap.size w [.slice sp n cap, .int .i64 p.da] p) (hT : Tb w) (hA : ∀ u, Tb u → Calls Tryd.prog 12 #[] u (BoP true u)) :
    Calls Tryd.prog 5 #[.agg #[.slice sp n cap, .int .i64 p.da]] w (BoP true w) := by
  have BL := ab w (.cells #[.slice sp n cap, .int .i64 p.da] 24)
  have A1 := Arr.new w 24 #[.slice sp n cap, .int .i64 p.da]
  obtain ⟨U, hU⟩ : ∃ U, U = w.alloc (.cells #[.slice sp n cap, .int .i64 p.da] 24) := ⟨_, rfl⟩
  rw [← hU] at A1 BL
  have htU := hT.bl BL
  have hMM := fun u (hb : Below U.heap.size U u) => pg_mono BL.size (PgM.below (BL.trans (hb.mono BL.size)) _ p hM)
  have h6 := fun u (hb : Below U.heap.size U u) => text6_any p u (hMM u hb) hb.size ⟨U, rfl, htU, hb⟩
  have h11 := fun u (hq : Below U.heap.size U u) => refMay_any p u (hMM u hq) hq.size
  have h12 := fun u (hq : Below U.heap.size U u) => hA u (htU.bl hq)
  unfold BoP at h11 h12 ⊢
  have l1 := A1.lt
  have z0 := A1.cell 0
  have z1 := A1.cell 1
  have hr := Below.refl U.heap.size U
  replace hU := hid hU
  have hS0 : ∀ u, Below U.heap.size U u → u.cell? ⟨w.heap.size, 0, none⟩ = some (.slice sp n cap) ∧ u.cell? ⟨w.heap.size, 1, none⟩ = some (.int .i64 p.da) := fun u hq => ⟨(hq.cell (p := ⟨w.heap.size, 0, none⟩) l1).trans z0, (hq.cell (p := ⟨w.heap.size, 1, none⟩) l1).trans z1⟩
  clear z0 z1 A1 hMM htU hA
  cases hp : (pgN p).isSome with
  | false =>
    have e0 : pTx p = [] := by unfold pTx; rw [hp]; rfl
    rw [hp] at h6 h11
    rw [e0] at h6
    clear hM hT hp e0
    generalize p.da = da at *
    have hq0 : (tx []).toList = [] := by decide +kernel
    go_enter Tryd.func5, Tryd.ntmps5
    go_wp2_with (first
      | (go_at_call 6; go_must (rw [← hU.out]; refine (h6 _ hr).mono ?_; rintro e w1 ⟨rfl, hb1⟩; obtain ⟨x0, x1⟩ := hS0 w1 hb1))
      | (go_at_call 11; go_must (refine (h11 w1 hb1).mono ?_; rintro e w2 ⟨rfl, hc2⟩; have hb2 := hb1.trans (hc2.mono hb1.size); obtain ⟨y0, y1⟩ := hS0 w2 hb2))
      | (go_at_call 12; go_must (refine (h12 w2 hb2).mono ?_; rintro e w3 ⟨rfl, hc3⟩; have hb3 := hb2.trans (hc3.mono hb2.size))))
    all_goals first | (go_ret; exact ⟨rfl, BL.trans (hb3.mono BL.size)⟩) | (rename_i hh; exact absurd hq0 hh)
  | true =>
    obtain ⟨m, hm⟩ := Option.isSome_iff_exists.1 hp
    obtain ⟨ok, hlen⟩ := pg_all hM hm
    obtain ⟨si, ni, ci, e1, -, hS⟩ := id hM
    simp only [List.cons.injEq, Value.slice.injEq, and_true] at e1
    obtain ⟨rfl, rfl, rfl⟩ := e1
    have hln := hS.len
    have hfn : fnN p.fs [] 4096 = some m := by unfold pgN at hm; split at hm; exact hm; cases hm
    have hn32 : p.fs.length ≤ 32 := by unfold pgN at hm; split at hm; (next hb => unfold begB at hb; simp only [decide_eq_true_eq] at hb; omega); cases hm
    obtain ⟨hsp, hbd⟩ := fs_split _ _ _ _ hfn
    have hpe := p_ec p ok
    rw [sum_nbF] at hpe
    have e0 : pTx p = pT p := by unfold pTx; rw [hp]; rfl
    rw [hp] at h6 h11
    rw [e0] at h6
    replace h6 : ∀ u, Below U.heap.size U u → Calls Tryd.prog 6 #[.agg #[.slice sp n cap, .int .i64 p.da]] u fun e w' => e = .returned (.tuple #[.string (tx (pT p)), .int .i64 0]) ∧ Below U.heap.size u w' := h6
    obtain ⟨L, hL⟩ : ∃ L, L = pT p := ⟨_, rfl⟩
    rw [← hL] at h6 hlen hpe
    have hsz := tx_size L
    obtain ⟨tot, htot⟩ : ∃ t, t = p.fs.length + (p.fs.map fun f => (f.b.map (nbS 8)).sum).sum := ⟨_, rfl⟩
    rw [← htot] at hpe
    have ht32 : tot ≤ 5000 := by omega
    have h15 : ∀ (u : World) (f : FuT) (cs : List Value) (s : Option Addr) (a c : Nat), f ∈ p.fs → Below w.heap.size w u → FuM w.heap.size u cs f → ∀ k v, cs = fuC k v (.slice s a c) → Calls Tryd.prog 15 #[.slice s a c] u fun e w' => e = .returned (.int .i64 (((f.b.map (nbS 8)).sum : Nat) : Int)) ∧ Below u.heap.size u w' := by
      intro u f cs s a c hf hB hF k v hcs
      obtain ⟨sp', m', cap', e2, -, hR⟩ := hF
      rw [hcs] at e2
      unfold fuC at e2
      simp only [List.cons.injEq, Value.slice.injEq, and_true] at e2
      obtain ⟨-, -, rfl, rfl, rfl⟩ := e2
      obtain ⟨ps', k1, k2, h1, h2⟩ := hsp f hf
      exact blk_any w.heap.size 8 u _ _ _ f.b ps' f.v k1 k2 hB.size hR h2 h1
    replace hln : Hid (n = p.fs.length) := hln
    have hn3 : n ≤ 32 := by rw [hln.out]; exact hn32
    replace hpe := hid hpe
    replace htot := hid htot
    replace hbd := hid hbd
    clear hM hT hp e0 hm hfn hsp ok hL
    go_enter Tryd.func5, Tryd.ntmps5
    go_upto_region 6 with (first
      | (go_at_call 6; go_must (rw [← hU.out]; refine (h6 _ hr).mono ?_; rintro e w1 ⟨rfl, hb1⟩; obtain ⟨x0, x1⟩ := hS0 w1 hb1))
      | (go_at_call 11; go_must (refine (h11 w1 hb1).mono ?_; rintro e w2 ⟨rfl, hc2⟩; have hb2 := hb1.trans (hc2.mono hb1.size); obtain ⟨y0, y1⟩ := hS0 w2 hb2)))
    have hw1 : ∀ u, Below w2.heap.size w2 u → Below U.heap.size U u := fun u h => hb2.trans (h.mono hb2.size)
    clear x0 x1 y0 y1 h11 h6 hc2 hr
    go_loopw [5, 6] (fun a i wr => ∃ (j q : Nat), a = .int .i64 (q : Int) ∧ i = .int .i64 (j : Int) ∧ j ≤ L.length ∧ Hid (tot = q + ec (ls L j) (L.drop j)) ∧ Below w2.heap.size w2 wr)
      (fun _ i _ => L.length - (intOf i).toNat)
    case atStart => exact ⟨0, 0, rfl, rfl, by omega, hid (by rw [List.drop_zero, Nat.zero_add, ← hpe.out]; rfl), Below.refl _ _⟩
    case round =>
      obtain ⟨j, q, rfl, rfl, hj, hq, hbw⟩ := hrel
      by_cases hlt : j + 4 ≤ L.length
      · have hst := ec_step (L := L) (i := j) (by omega)
        by_cases hC : (L.drop j).take 4 = [101, 110, 100, 10]
        · have hex : (((tx L).extract j (j + 4)).toList == [101, 110, 100, 10]) = true := by rw [ex_take, beq_iff_eq]; exact hC
          by_cases hj0 : j = 0
          · subst hj0
            rw [if_pos ⟨rfl, hC⟩] at hst
            have hqq : Hid (tot = (q + 1) + ec (ls L (0 + 1)) (L.drop (0 + 1))) := hid (by have := hq.out; omega)
            have hq5 : q ≤ 5000 := by have := hq.out; omega
            clear hst hC hq
            go_wp2_with fail
            go_roundw
            case rel => exact ⟨0 + 1, q + 1, by push_cast; rfl, by push_cast; rfl, by omega, hqq, hbw⟩
            case measure => simp [intOf]; omega
          · obtain ⟨i, rfl⟩ : ∃ i, j = i + 1 := ⟨j - 1, by omega⟩
            obtain ⟨c, hc⟩ : ∃ c, L[i]? = some c := ⟨L[i]'(by omega), List.getElem?_eq_getElem _⟩
            by_cases h10 : c = 10
            · subst h10
              rw [if_pos ⟨by unfold ls; rw [Nat.add_sub_cancel, hc]; simp, hC⟩] at hst
              have hqq : Hid (tot = (q + 1) + ec (ls L (i + 1 + 1)) (L.drop (i + 1 + 1))) := hid (by have := hq.out; omega)
              have hq5 : q ≤ 5000 := by have := hq.out; omega
              have hti : ∀ h, ((((tx L)[i]'h).toNat : Int) == 10) = true := fun h => by rw [tx_at hc h]; rfl
              clear hst hC hq
              go_wp2_with fail
              go_roundw
              case rel => exact ⟨i + 1 + 1, q + 1, by push_cast; rfl, by push_cast; rfl, by omega, hqq, hbw⟩
              case measure => simp [intOf]; omega
            · rw [if_neg (by rintro ⟨h, -⟩; unfold ls at h; rw [Nat.add_sub_cancel, hc] at h; simp at h; exact h10 h), Nat.zero_add] at hst
              have hqq : Hid (tot = q + ec (ls L (i + 1 + 1)) (L.drop (i + 1 + 1))) := hid (by rw [← hst]; exact hq.out)
              have hti : ∀ h, ((((tx L)[i]'h).toNat : Int) == 10) = false := fun h => by
                rw [tx_at hc h, beq_eq_false_iff_ne]
                intro e
                exact h10 (UInt8.toNat_inj.1 (by have e2 : (10 : UInt8).toNat = 10 := rfl; omega))
              clear hst hC hq
              go_wp2_with fail
              go_roundw
              case rel => exact ⟨i + 1 + 1, q, by push_cast; rfl, by push_cast; rfl, by omega, hqq, hbw⟩
              case measure => simp [intOf]; omega
        · rw [if_neg (fun h => hC h.2), Nat.zero_add] at hst
          have hqq : Hid (tot = q + ec (ls L (j + 1)) (L.drop (j + 1))) := hid (by rw [← hst]; exact hq.out)
          have hex : (((tx L).extract j (j + 4)).toList == [101, 110, 100, 10]) = false := by rw [ex_take, beq_eq_false_iff_ne]; exact hC
          clear hst hC hq
          go_wp2_with fail
          go_roundw
          case rel => exact ⟨j + 1, q, by push_cast; rfl, by push_cast; rfl, by omega, hqq, hbw⟩
          case measure => simp [intOf]; omega
      · obtain rfl : q = tot := by
          have h := hq.out
          rw [ec_end (by rw [List.length_drop]; omega)] at h
          omega
        clear hq
        have hlt3 : ¬ ((j : Int) + 4 ≤ (L.length : Int)) := by omega
        obtain ⟨x0, x1⟩ := hS0 wr (hw1 wr hbw)
        go_upto_region 12 with fail
        have hUw := hw1 wr hbw
        clear x0 x1 hlt hlt3 hj
        go_loopw [7, 8] (fun a i wq => ∃ (j x : Nat), a = .int .i64 (x : Int) ∧ i = .int .i64 (j : Int) ∧ j ≤ n ∧ Hid (q = x + ((p.fs.drop j).map fun f => (f.b.map (nbS 8)).sum).sum) ∧ Below wr.heap.size wr wq)
          (fun _ i _ => n - (intOf i).toNat)
        case atStart => exact ⟨0, n, rfl, rfl, by omega, hid (by rw [List.drop_zero, hln.out]; exact htot.out), Below.refl _ _⟩
        case round =>
          obtain ⟨j2, x, rfl, rfl, hj2, hx, hbq⟩ := hrel
          have hUq := hUw.trans (hbq.mono hUw.size)
          have hWq := BL.trans (hUq.mono BL.size)
          obtain ⟨x0, x1⟩ := hS0 wr hUq
          by_cases hlt : j2 < n
          · obtain ⟨f, hf⟩ : ∃ t, p.fs[j2]? = some t := ⟨p.fs[j2]'(by rw [← hln.out]; exact hlt), List.getElem?_eq_getElem _⟩
            obtain ⟨g, off, rfl, hg, hR⟩ := hS.at0 (by omega)
            obtain ⟨cs, hrg, hF⟩ := hR j2 f hf
            have hrg2 := rb hrg hWq hg
            have hF2 := FuM.below hWq cs f hF
            obtain ⟨fp, fv, fs, fm, fc, rfl⟩ := fu_cells2 hF
            have hcc := h15 wr f _ fs fm fc (List.mem_of_getElem? hf) hWq hF2 fp fv rfl
            have c0 := hrg2 0 _ rfl
            have c2 := hrg2 2 _ rfl
            simp only [Nat.add_zero] at c0
            have hgl := block_lt_of_cell c0
            have hds : ((p.fs.drop j2).map fun f => (f.b.map (nbS 8)).sum).sum = (f.b.map (nbS 8)).sum + ((p.fs.drop (j2 + 1)).map fun f => (f.b.map (nbS 8)).sum).sum := by
              obtain ⟨hj, rfl⟩ := List.getElem?_eq_some_iff.1 hf
              rw [List.drop_eq_getElem_cons hj, List.map_cons, List.sum_cons]
            have hx2 := hx.out
            rw [hds] at hx2
            obtain ⟨y, hy⟩ : ∃ y, y = (f.b.map (nbS 8)).sum := ⟨_, rfl⟩
            rw [← hy] at hcc hx2
            have hxq : Hid (q = x + y + ((p.fs.drop (j2 + 1)).map fun f => (f.b.map (nbS 8)).sum).sum) := hid (by omega)
            have hxy : x + y ≤ 5000 := by omega
            have hlt' : (j2 : Int) < n := by omega
            have h0 : (0 : Int) ≤ j2 := by omega
            clear hS hR hrg hrg2 hF hF2 hf hds hx hx2 hy h15 hS0
            go_wp2_with (go_at_call 15; go_must (refine hcc.mono ?_; rintro e v1 ⟨rfl, hv1⟩))
            go_roundw
            case rel => exact ⟨j2 + 1, x + y, by push_cast; rfl, by push_cast; rfl, by omega, hxq, hbq.trans (hv1.mono hbq.size)⟩
            case measure => simp [intOf]; omega
          · obtain rfl : j2 = n := by omega
            obtain rfl : q = x := by have h := hx.out; rw [hln.out, List.drop_length] at h; simpa using h
            have h12' := h12 wr hUq
            clear hS h15 hS0 hx hlt
            go_wp2_with (go_at_call 12; go_must (refine h12'.mono ?_; rintro e v1 ⟨rfl, hv1⟩))
            go_ret
            exact ⟨rfl, hWq.trans (hv1.mono hWq.size)⟩
end Go.Proofs.YtoopgppahfnncaaDoor
