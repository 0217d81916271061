/- Su, Sv. -/
import Derived.Test.YtlebojbfcolkhaaA23
import Derived.Test.YtlebojbfcolkhaaCh
import Derived.Test.YtlebojbfcolkhaaA22
import Derived.Test.YtlebojbfcolkhaaA30
/- Layer state: an account that checks is the state's one, or two strings have one sum. Pure. -/
namespace Go.Proofs.Ytlebojbfcolkhaa
open Go.RowKit
set_option maxRecDepth 100000
set_option linter.unusedVariables false
set_option linter.unusedSimpArgs false

theorem e8_inj {n m : Int} (hn : 0 ≤ n ∧ n < 18446744073709551616) (hm : 0 ≤ m ∧ m < 18446744073709551616) (h : e8 n = e8 m) : n = m := by
  have h0 : ∀ j, j < 8 → n / 2 ^ (56 - 8 * j) % 256 = m / 2 ^ (56 - 8 * j) % 256 := fun j hj => by
    have := congrArg (fun l => l[j]?) h
    simpa [e8, hj] using this
  have a0 := h0 0 (by omega)
  have a1 := h0 1 (by omega)
  have a2 := h0 2 (by omega)
  have a3 := h0 3 (by omega)
  have a4 := h0 4 (by omega)
  have a5 := h0 5 (by omega)
  have a6 := h0 6 (by omega)
  have a7 := h0 7 (by omega)
  simp only [Nat.reduceMul, Nat.reduceSub, Int.reducePow] at a0 a1 a2 a3 a4 a5 a6 a7
  omega
theorem acb_inj {a b : Ac} (ha : AcOK a) (hb : AcOK b) (h : acb a = acb b) : a = b := by
  unfold acb at h
  have h1 := List.append_inj h (by simp [e8_len])
  have h2 := List.append_inj h1.1 (by simp [e8_len])
  have e1 := e8_inj ⟨ha.b0, ha.b1⟩ ⟨hb.b0, hb.b1⟩ h2.1
  have e2 := e8_inj ⟨ha.n0, ha.n1⟩ ⟨hb.n0, hb.n1⟩ h2.2
  cases a; cases b; simp_all
/-- The level j of a tree. -/
def lv : Nat → List (List Int) → List (List Int)
  | 0, l => l
  | j + 1, l => lv j ((lvl l).map shl)
theorem lv_succ (j : Nat) : ∀ l : List (List Int), lv (j + 1) l = (lvl (lv j l)).map shl := by
  induction j with
  | zero => intro l; rfl
  | succ j ih => intro l; exact ih _
theorem lv_len (d : Nat) : ∀ (j : Nat) (l : List (List Int)), j ≤ d → l.length = 2 ^ d → (lv j l).length = 2 ^ (d - j) := by
  induction d with
  | zero =>
    intro j l hj hl
    obtain rfl : j = 0 := by omega
    simpa [lv] using hl
  | succ d ih =>
    intro j l hj hl
    cases j with
    | zero => simpa [lv] using hl
    | succ j =>
      have h1 := lvl_len (2 ^ d) l (by rw [hl, Nat.pow_succ]; omega)
      have := ih j ((lvl l).map shl) (by omega) (by simp [h1])
      rw [show d + 1 - (j + 1) = d - j by omega]
      exact this
theorem lv_top (d : Nat) : ∀ l : List (List Int), l.length = 2 ^ d → (lv d l)[0]? = some (tr d l) := by
  induction d with
  | zero =>
    intro l hl
    match l, hl with
    | [x], _ => rfl
  | succ d ih =>
    intro l hl
    have h1 := lvl_len (2 ^ d) l (by rw [hl, Nat.pow_succ]; omega)
    rw [tr_lvl d l (by rw [hl]; exact Nat.le_refl _)]
    exact ih _ (by simp [h1])
theorem lv_mem (d : Nat) : ∀ (j : Nat) (l : List (List Int)), j < d → ∀ x ∈ lvl (lv j l), x ∈ prs d l := by
  induction d with
  | zero => intro j l hj; omega
  | succ d ih =>
    intro j l hj x hx
    cases j with
    | zero => exact List.mem_append_left _ hx
    | succ j => exact List.mem_append_right _ (ih j _ (by omega) x hx)
theorem pb_cases (m : Nat) (X Y : List Int) : pb m X Y = 1 :: (if m % 2 = 1 then Y ++ X else X ++ Y) := rfl
theorem lv_32 (j : Nat) : ∀ l : List (List Int), (∀ x ∈ l, x.length = 32) → ∀ x ∈ lv j l, x.length = 32 := by
  induction j with
  | zero => intro l h; exact h
  | succ j ih =>
    intro l h
    exact ih _ (fun x hx => by obtain ⟨y, -, rfl⟩ := List.mem_map.1 hx; exact shl_len _)
/-- A TREE BINDS: where no two of these strings have one sum. -/
theorem tree_binds (S : List Int → Prop) (hS : ∀ u v, S u → S v → shl u = shl v → u = v) (d : Nat) (l : List (List Int)) (hl : l.length = 2 ^ d) (h32 : ∀ x ∈ l, x.length = 32) (m : Nat) (hm : m < 2 ^ d) (X : List Int) (hX : X.length = 32) (path : List (List Int)) (hp : path.length = d) (hp32 : ∀ x ∈ path, x.length = 32)
    (h1 : ∀ x ∈ prs d l, S x) (h2 : ∀ x ∈ pth m X path, S x) (hr : fo m X path = tr d l) : l[m]? = some X := by
  have key : ∀ k, k ≤ d → (lv (d - k) l)[m / 2 ^ (d - k)]? = some (nd m X path (d - k)) := by
    intro k
    induction k with
    | zero =>
      intro _
      rw [Nat.sub_zero, Nat.div_eq_of_lt hm, lv_top d l hl, ← hr, fo_nd, hp]
    | succ k ih =>
      intro hk
      have ih := ih (by omega)
      obtain ⟨j, hj⟩ : ∃ j, j = d - (k + 1) := ⟨_, rfl⟩
      rw [show d - k = j + 1 by omega] at ih
      rw [← hj]
      have hjd : j < d := by omega
      obtain ⟨Y, hY⟩ : ∃ Y, path[j]? = some Y := ⟨path[j]'(by omega), List.getElem?_eq_getElem _⟩
      have hY32 := hp32 Y (List.mem_of_getElem? hY)
      have hN32 := nd_len (m := m) (ls := path) hX j
      rw [nd_succ hY, lv_succ, List.getElem?_map] at ih
      obtain ⟨q, hq⟩ : ∃ q, q = m / 2 ^ (j + 1) := ⟨_, rfl⟩
      rw [← hq] at ih
      obtain ⟨s, hs, hsh⟩ : ∃ s, (lvl (lv j l))[q]? = some s ∧ shl s = shl (pb (m / 2 ^ j) (nd m X path j) Y) := by
        cases hc : (lvl (lv j l))[q]? with
        | none => rw [hc] at ih; cases ih
        | some s => rw [hc] at ih; exact ⟨s, rfl, Option.some.inj ih⟩
      have hll : (lv j l).length = 2 * 2 ^ (d - j - 1) := by
        rw [lv_len d j l (by omega) hl]
        obtain ⟨t, ht⟩ : ∃ t, d - j = t + 1 := ⟨d - j - 1, by omega⟩
        rw [ht, Nat.pow_succ, Nat.add_sub_cancel]; omega
      have hql : q < 2 ^ (d - j - 1) := by
        have := (List.getElem?_eq_some_iff.1 hs).1
        rw [lvl_len _ _ hll] at this; exact this
      have i1 : 2 * q < (lv j l).length := by omega
      have i2 : 2 * q + 1 < (lv j l).length := by omega
      have hg := lvl_get (lv j l) q _ _ (List.getElem?_eq_getElem i1) (List.getElem?_eq_getElem i2)
      rw [hs] at hg
      have hse := Option.some.inj hg
      have heq := hS _ _ (h1 s (lv_mem d j l hjd s (List.mem_of_getElem? hs))) (h2 _ (List.mem_of_getElem? (pth_get hY))) hsh
      rw [hse, pb_cases] at heq
      have heq := (List.cons.inj heq).2
      have l1 := lv_32 j l h32 _ (List.getElem_mem i1)
      have l2 := lv_32 j l h32 _ (List.getElem_mem i2)
      have hmq : m / 2 ^ j = 2 * q + (m / 2 ^ j) % 2 := by
        rw [hq, Nat.pow_succ, ← Nat.div_div_eq_div_mul]; omega
      by_cases hb : (m / 2 ^ j) % 2 = 1
      · rw [if_pos hb] at heq
        have := List.append_inj heq (by rw [l1, hY32])
        rw [hmq, hb, List.getElem?_eq_getElem i2, this.2]
      · rw [if_neg hb] at heq
        have := List.append_inj heq (by rw [l1, hN32])
        rw [hmq, show (m / 2 ^ j) % 2 = 0 by omega, Nat.add_zero, List.getElem?_eq_getElem i1, this.1]
  have := key d (Nat.le_refl _)
  simpa [lv, nd] using this
/-- The strings of a claim. -/
def clS (i : Nat) (A : Ac) (path : List (List Int)) (o : List Int) (c : Int) : List (List Int) :=
  pth i (lf (acb A)) path ++ [0 :: acb A] ++ [1 :: (fo i (lf (acb A)) path ++ o), 1 :: (pr (fo i (lf (acb A)) path) o ++ cnt c)]
/-- A STATE'S ROOT BINDS. -/
theorem state_binds {ps : List Ac} {os : List Ou} (h1 : ps.length = 32) (hok : ∀ a ∈ ps, AcOK a) {i : Nat} {A B : Ac} (hA : AcOK A) (hB : ps[i]? = some B) {path : List (List Int)} (hp : path.length = 5) (hp32 : ∀ x ∈ path, x.length = 32) {o : List Int} (ho : o.length = 32) {c : Int}
    (hr : jn (fo i (lf (acb A)) path) o c = rtS ps os) (hne : A ≠ B) : ∃ u v, u ∈ knB ps os ++ clS i A path o c ∧ v ∈ knB ps os ++ clS i A path o c ∧ shl u = shl v ∧ u ≠ v := by
  refine Classical.byContradiction fun hno => hne ?_
  have hS : ∀ u v, u ∈ knB ps os ++ clS i A path o c → v ∈ knB ps os ++ clS i A path o c → shl u = shl v → u = v := fun u v hu hv he => Classical.byContradiction fun hn => hno ⟨u, v, hu, hv, he, hn⟩
  have hfl : (fo i (lf (acb A)) path).length = 32 := fo_len (lf_len _)
  have ta : (tr 5 (al ps)).length = 32 := tr_len 5 _ (al_32 ps)
  have tO : (tr 5 (ol os)).length = 32 := tr_len 5 _ (ol_32 os)
  have kn : ∀ x ∈ [1 :: (tr 5 (al ps) ++ tr 5 (ol os)), 1 :: (pr (tr 5 (al ps)) (tr 5 (ol os)) ++ cnt os.length)], x ∈ knB ps os ++ clS i A path o c := fun x hx => List.mem_append_left _ (List.mem_append_right _ hx)
  have cl : ∀ x ∈ [1 :: (fo i (lf (acb A)) path ++ o), 1 :: (pr (fo i (lf (acb A)) path) o ++ cnt c)], x ∈ knB ps os ++ clS i A path o c := fun x hx => List.mem_append_right _ (List.mem_append_right _ hx)
  have e1 := hS _ _ (cl (1 :: (pr (fo i (lf (acb A)) path) o ++ cnt c)) (by simp)) (kn (1 :: (pr (tr 5 (al ps)) (tr 5 (ol os)) ++ cnt os.length)) (by simp)) hr
  have e2 := (List.append_inj (List.cons.inj e1).2 (by rw [pr_len, pr_len])).1
  have e3 := hS _ _ (cl (1 :: (fo i (lf (acb A)) path ++ o)) (by simp)) (kn (1 :: (tr 5 (al ps) ++ tr 5 (ol os))) (by simp)) e2
  have e4 := (List.append_inj (List.cons.inj e3).2 (by rw [hfl, ta])).1
  have hi : i < 32 := by have := (List.getElem?_eq_some_iff.1 hB).1; omega
  have hal : (al ps).length = 32 := by rw [al_len, h1]
  have hpad : pad (al ps) = al ps := by unfold pad; rw [hal]; simp
  have hb := tree_binds (fun x => x ∈ knB ps os ++ clS i A path o c) hS 5 (al ps) hal (al_32 ps) i hi (lf (acb A)) (lf_len _) path hp hp32
    (fun x hx => List.mem_append_left _ (by unfold knB; rw [hpad]; simp only [List.mem_append]; exact .inl (.inl (.inr hx))))
    (fun x hx => List.mem_append_right _ (by unfold clS; simp only [List.mem_append]; exact .inl (.inl hx))) e4
  have hb2 : (al ps)[i]? = some (lf (acb B)) := by simp [al, hB]
  rw [hb2] at hb
  have e5 := hS (0 :: acb B) (0 :: acb A) (List.mem_append_left _ (by unfold knB; simp only [List.mem_append, List.mem_map]; exact .inl (.inl (.inl (.inl ⟨B, List.mem_of_getElem? hB, rfl⟩))))) (List.mem_append_right _ (by unfold clS; simp)) (Option.some.inj hb)
  exact (acb_inj (hok B (List.mem_of_getElem? hB)) hA (List.cons.inj e5).2).symm
/-- Find finds it. -/
theorem find_true {es : List En} {u v : List Int} (hu : u ∈ es.map En.bs) (hv : v ∈ es.map En.bs) (he : shl u = shl v) (hn : u ≠ v) (hsm : ∀ e ∈ es, e.sm = shl e.bs) {a b : Int} {c : Bool} (h : Fnd es a b c) : c = true := by
  rcases h with ⟨h, -⟩ | ⟨rfl, -, -, h⟩
  · exact h
  · obtain ⟨i, hi⟩ := List.mem_iff_getElem?.1 hu
    obtain ⟨j, hj⟩ := List.mem_iff_getElem?.1 hv
    rw [List.getElem?_map] at hi hj
    cases hei : es[i]? with
    | none => rw [hei] at hi; cases hi
    | some e =>
    cases hej : es[j]? with
    | none => rw [hej] at hj; cases hj
    | some f =>
    rw [hei] at hi
    rw [hej] at hj
    have e1 := Option.some.inj hi
    have e2 := Option.some.inj hj
    have s1 := hsm e (List.mem_of_getElem? hei)
    have s2 := hsm f (List.mem_of_getElem? hej)
    have key : ∀ (x y : Nat) (p q : En), es[x]? = some p → es[y]? = some q → p.sm = q.sm → p.bs ≠ q.bs → x < y → False := fun x y p q hx hy h1 h2 hlt => by
      have := h y (List.getElem?_eq_some_iff.1 hy).1 x hlt
      rw [hit_some hx hy] at this
      simp [hitE, h1, h2] at this
    have hss : e.sm = f.sm := by rw [s1, s2, e1, e2, he]
    have hbb : e.bs ≠ f.bs := by rw [e1, e2]; exact hn
    rcases Nat.lt_trichotomy i j with hl | hl | hl
    · exact (key i j e f hei hej hss hbb hl).elim
    · subst hl; rw [hei] at hej; cases hej; exact (hbb rfl).elim
    · exact (key j i f e hej hei hss.symm (Ne.symm hbb) hl).elim
end Go.Proofs.Ytlebojbfcolkhaa
/- Layer state: the document's Path, with a row of its own. -/
namespace Go.Proofs.Ytlebojbfcolkhaa
open Go.RowKit
set_option maxRecDepth 100000
set_option linter.unusedVariables false
set_option linter.unusedSimpArgs false

def PEPost (m : Nat) (X : List Int) (ls : List (List Int)) (w : World) (r : Ending) (w' : World) : Prop :=
  ∃ v es, r = .returned (.tuple #[v, .int .i64 0]) ∧ EO (w.heap.size + 1) w.heap.size w' v es ∧ Hid (es.map En.bs = pth m X ls) ∧ Hid (∀ e ∈ es, e.sm = shl e.bs) ∧ Below w.heap.size w w'
set_option maxRecDepth 100000 in
set_option maxHeartbeats 4000000 in
theorem refPath_eo (m : Nat) (X : List Int) (N : Nat) (sp : Option Addr) (n cap : Nat) (ls : List (List Int)) (w : World) (hX : X.length = 32) (bX : Bts X) (hS : HS N w sp n cap ls) (bS : ∀ Y ∈ ls, Bts Y) (h1 : n ≤ 16) (h2 : m < 2 ^ n) :
    Calls Try.prog 35 #[.int .i64 m, .agg (h8 X), .slice sp n cap] w (PEPost m X ls w) := by
  have A0 := Arr.new w 24 (h8 X)
  have hb0 := alloc_bel' w (.cells (h8 X) 24)
  have hm : m ≤ 9223372036854775807 := by have := pow16 h1; omega
  have hl := hS.len
  have hS := hS.here
  have hfo := refFold_ok m X w.heap.size sp n cap ls _ hX (hS.below hb0) h1 h2
  have hfl := fo_len (i := m) (ps := ls) hX
  have hFo : FoOK (m : Int) ls.length := ⟨by rw [← hl.out]; exact h1, by omega, by rw [← hl.out]; omega⟩
  have hfe : Hid (foE (m : Int) ls = 0) := Hid.mk' (by unfold foE; rw [if_pos hFo])
  replace hFo := Hid.mk' hFo
  replace bS := Hid.mk' bS
  replace h2 := Hid.mk' h2
  replace hfo := Hid.mk' hfo
  go_enter Try.func35, Try.ntmps35
  go_upto_region 5 with (first
    | (refine ld24 (by rfl) _ (by rfl) w.heap.size 0 (by rfl) X hX A0.range ?_)
    | (go_at_call 37; go_must (refine hfo.out.mono ?_; rintro e w2 ⟨rfl, hb2⟩))
    | (refine st24n (by rfl) _ _ (by rfl) w2 w2.heap.size rfl (by rfl) _ (by rfl) (by rfl) hfl ?_))
  have A2 := ((A0.below hb2 (by simp)).alloc (.cells (h8 (fo m X ls)) 24))
  have hB2 := (hb0.trans (hb2.mono (by simp))).alloc (Nat.le_trans hb0.size hb2.size) (.cells (h8 (fo m X ls)) 24)
  generalize w2.alloc (.cells (h8 (fo m X ls)) 24) = W2 at *
  go_upto_region 6 with fail
  go_loopw [0, 10, 11] (fun q v d wr => ∃ (j : Nat) (es : List En), q = .int .i64 ((m / 2 ^ j : Nat) : Int) ∧ d = .int .i64 (j : Int) ∧ j ≤ n ∧ es.length = j ∧ Below w.heap.size w wr ∧ Arr wr w.heap.size 24 (h8 (nd m X ls j)) ∧ EO (w.heap.size + 1) w.heap.size wr v es ∧ Hid (es.map En.bs = (pth m X ls).take j) ∧ Hid (∀ e ∈ es, e.sm = shl e.bs))
    (fun _ _ d _ => n - (intOf d).toNat)
  case atStart => exact ⟨0, [], by simp, rfl, by omega, rfl, hB2, by simpa [nd] using A2, EO.nil _ _ _, Hid.mk' (by simp), Hid.mk' (fun e he => by cases he)⟩
  case round =>
    obtain ⟨j, es, rfl, rfl, hj, hel, hbl, AL, hE, hbs, hsm⟩ := hrel
    clear A2 hB2 A0 hb0 hb2
    by_cases hlt : j < n
    · have hI : (j : Int) < n := by omega
      have hSr := hS.below hbl
      obtain ⟨g, off, rfl, hgN, hR⟩ := hSr.at0 (by omega)
      obtain ⟨Y, hY⟩ : ∃ Y, ls[j]? = some Y := ⟨ls[j]'(by rw [← hl.out]; exact hlt), List.getElem?_eq_getElem _⟩
      have hY32 := hS.l32 Y (List.mem_of_getElem? hY)
      have bY := bS.out Y (List.mem_of_getElem? hY)
      have hRY := hR j Y hY
      have hN32 := nd_len (m := m) (ls := ls) hX j
      have bN := nd_bts (m := m) (ls := ls) bX j
      have hnx := Hid.mk' (nd_succ (m := m) (X := X) hY)
      have hpx := Hid.mk' (pth_get (m := m) (X := X) hY)
      have hdv := Hid.mk' (div_succ m j)
      have hq : m / 2 ^ j ≤ 9223372036854775807 := Nat.le_trans (Nat.div_le_self _ _) hm
      replace hY := Hid.mk' hY
      obtain ⟨Xj, hXj⟩ : ∃ Xj, Xj = nd m X ls j := ⟨_, rfl⟩
      obtain ⟨q, hqe⟩ : ∃ q, q = m / 2 ^ j := ⟨_, rfl⟩
      rw [← hXj, ← hqe] at hnx hpx
      rw [← hXj] at hN32 bN AL
      rw [← hqe] at hdv hq ⊢
      clear hXj hqe
      have hwl := AL.lt
      have hqd : Hid ((q : Int) / 2 = ((q / 2 : Nat) : Int)) := Hid.mk' (by omega)
      obtain ⟨L, hL0⟩ : ∃ L, L = pb q Xj Y := ⟨_, rfl⟩
      rw [← hL0] at hnx hpx
      have hLb : Bts L := by rw [hL0]; exact pb_bts bN bY
      obtain ⟨S, hS0⟩ : ∃ S, S = shl L := ⟨_, rfl⟩
      rw [← hS0] at hnx
      have hS32 : S.length = 32 := by rw [hS0]; exact shl_len _
      have hSL := Hid.mk' hS0
      clear hS0
      go_upto_region 8 with fail
      go_cut [12, 13] (fun s t wc => ∃ ga gb, s = .pointer (some ⟨ga, 0, none⟩) ∧ t = .pointer (some ⟨gb, 0, none⟩) ∧ ga ≠ gb ∧ wr.heap.size ≤ ga ∧ wr.heap.size ≤ gb ∧ Arr wc ga 24 (h8 Xj) ∧ Arr wc gb 24 (h8 Y) ∧ Below wr.heap.size wr wc)
      case first =>
        refine wp_region_held_drew (S := fun u => Below wr.heap.size wr u) (by kernel_rfl) ((Below.refl _ _).drew) (fun hHeld => ?_)
        refine wpAnyH_take (i := 0) (oi := ⟨_, _, _, _, _, _⟩) rfl (by kernel_rfl) (by kernel_rfl) (by kernel_rfl) (fun _ _ _ h => h) (y24 (by rfl) (.tmp 4) rfl (w.heap.size) (0) rfl Xj hN32 (fun u hu => (range_below AL.range hu hwl))) (by assumption) ?_
        try simp only [Act.put, List.setIfInBounds_toArray, List.set_cons_zero, List.set_cons_succ]
        refine wpAnyH_take (i := 1) (oi := ⟨_, _, _, _, _, _⟩) (v := ?_) rfl (by kernel_rfl) (by kernel_rfl) (by kernel_rfl) (fun _ _ _ h => h) (Or.inl ⟨by rfl, ?_⟩) (by assumption) ?_
        rotate_left
        · intro u hSw
          go_simp
          try (with_reducible rfl)
        try simp only [Act.put, List.setIfInBounds_toArray, List.set_cons_zero, List.set_cons_succ]
        refine wpAnyH_take (i := 2) (oi := ⟨_, _, _, _, _, _⟩) (v := ?_) rfl (by kernel_rfl) (by kernel_rfl) (by kernel_rfl) (fun _ _ _ h => h) (Or.inl ⟨by rfl, ?_⟩) (by assumption) ?_
        rotate_left
        · intro u hSw
          go_simp
          try (with_reducible rfl)
        try simp only [Act.put, List.setIfInBounds_toArray, List.set_cons_zero, List.set_cons_succ]
        refine wpAnyH_take (i := 3) (oi := ⟨_, _, _, _, _, _⟩) (v := ?_) rfl (by kernel_rfl) (by kernel_rfl) (by kernel_rfl) (fun _ _ _ h => h) (Or.inl ⟨by rfl, ?_⟩) (by assumption) ?_
        rotate_left
        · intro u hSw
          go_simp
          try (with_reducible rfl)
        try simp only [Act.put, List.setIfInBounds_toArray, List.set_cons_zero, List.set_cons_succ]
        refine wpAnyH_take (i := 4) (oi := ⟨_, _, _, _, _, _⟩) rfl (by kernel_rfl) (by kernel_rfl) (by kernel_rfl) (fun _ _ _ h => h) (y24 (by rfl) (.tmp 33) rfl (g) (off + j * 32) rfl Y hY32 (fun u hu => range_below hRY hu (by omega))) (by assumption) ?_
        try simp only [Act.put, List.setIfInBounds_toArray, List.set_cons_zero, List.set_cons_succ]
        refine wpAnyH_ready (rs := [5, 6]) (by kernel_rfl) (by simp) ?_
        refine AllReadyH.cons (o := ⟨_, _, _, _, _, _⟩) rfl (fun K hK => ?_) (AllReadyH.cons (o := ⟨_, _, _, _, _, _⟩) rfl (fun K hK => ?_) AllReadyH.nil)
        · have hb1 : Below wr.heap.size wr (wr.drew.alloc (.cells (h8 Z32) 24)) := (Below.refl wr.heap.size wr).drew.alloc (by simp) _
          have ha2 : Arr (wr.drew.alloc (.cells (h8 Z32) 24)) wr.heap.size 24 (h8 Z32) := Arr.new wr.drew 24 (h8 Z32)
          go_simp
          go_wp2_with fail
          refine hK.out _ _ hb1 (fun hHeld => ?_)
          clear hK K
          try simp only [Act.put, List.setIfInBounds_toArray, List.set_cons_zero, List.set_cons_succ]
          refine wpAnyH_ready (rs := [6]) (by kernel_rfl) (by simp) ?_
          refine AllReadyH.cons (o := ⟨_, _, _, _, _, _⟩) rfl (fun K hK => ?_) AllReadyH.nil
          have hb3 : Below wr.heap.size wr ((wr.drew.alloc (.cells (h8 Z32) 24)).alloc (.cells (h8 Z32) 24)) := hb1.alloc (by simp) _
          have ha4 : Arr ((wr.drew.alloc (.cells (h8 Z32) 24)).alloc (.cells (h8 Z32) 24)) (wr.heap.size + 1) 24 (h8 Z32) := by have h := Arr.new (wr.drew.alloc (.cells (h8 Z32) 24)) 24 (h8 Z32); rw [show (wr.drew.alloc (.cells (h8 Z32) 24)).heap.size = wr.heap.size + 1 by simp] at h; exact h
          have hc5 := Arr.alloc ha2 (.cells (h8 Z32) 24)
          go_simp
          go_wp2_with fail
          refine hK.out _ _ hb3 (fun hHeld => ?_)
          clear hK K
          try simp only [Act.put, List.setIfInBounds_toArray, List.set_cons_zero, List.set_cons_succ]
          refine wpAnyH_ready (rs := [7]) (by kernel_rfl) (by simp) ?_
          refine AllReadyH.cons (o := ⟨_, _, _, _, _, _⟩) rfl (fun K hK => ?_) AllReadyH.nil
          have hb6 : Below wr.heap.size wr (((wr.drew.alloc (.cells (h8 Z32) 24)).alloc (.cells (h8 Z32) 24)).setRow wr.heap.size (h8 Xj)) := below_setRow hb3 (by omega) _
          have ha7 := Arr.setRow hc5 (h8 Xj)
          have hc8 := Arr.setRowOther ha4 (k := wr.heap.size) (h8 Xj) (by omega)
          refine step_want rfl (wp_store_row 24 (.tmp 12) (.tmp 30) rfl wr.heap.size (h8 Xj) rfl rfl 24 _ hc5 (s24h8 hN32) (by rw [h8_size, h8_size, hN32, Z32_len]) (h8_one Xj) ?_)
          refine hK.out _ _ hb6 (fun hHeld => ?_)
          clear hK K
          try simp only [Act.put, List.setIfInBounds_toArray, List.set_cons_zero, List.set_cons_succ]
          refine wpAnyH_ready (rs := [8]) (by kernel_rfl) (by simp) ?_
          refine AllReadyH.cons (o := ⟨_, _, _, _, _, _⟩) rfl (fun K hK => ?_) AllReadyH.nil
          have hb9 : Below wr.heap.size wr ((((wr.drew.alloc (.cells (h8 Z32) 24)).alloc (.cells (h8 Z32) 24)).setRow wr.heap.size (h8 Xj)).setRow (wr.heap.size + 1) (h8 Y)) := below_setRow hb6 (by omega) _
          have ha10 := Arr.setRow hc8 (h8 Y)
          have hc11 := Arr.setRowOther ha7 (k := (wr.heap.size + 1)) (h8 Y) (by omega)
          refine step_want rfl (wp_store_row 24 (.tmp 13) (.tmp 34) rfl (wr.heap.size + 1) (h8 Y) rfl rfl 24 _ hc8 (s24h8 hY32) (by rw [h8_size, h8_size, hY32, Z32_len]) (h8_one Y) ?_)
          refine hK.out _ _ hb9 (fun hHeld => ?_)
          clear hK K
          try simp only [Act.put, List.setIfInBounds_toArray, List.set_cons_zero, List.set_cons_succ]
          refine wpAnyH_done (by kernel_rfl) ?_ _
          go_wp2_with fail
          go_meet
          exact ⟨_, _, rfl, rfl, by omega, by omega, by omega, hc11, ha10, hb9⟩
        · have hb12 : Below wr.heap.size wr (wr.drew.alloc (.cells (h8 Z32) 24)) := (Below.refl wr.heap.size wr).drew.alloc (by simp) _
          have ha13 : Arr (wr.drew.alloc (.cells (h8 Z32) 24)) wr.heap.size 24 (h8 Z32) := Arr.new wr.drew 24 (h8 Z32)
          go_simp
          go_wp2_with fail
          refine hK.out _ _ hb12 (fun hHeld => ?_)
          clear hK K
          try simp only [Act.put, List.setIfInBounds_toArray, List.set_cons_zero, List.set_cons_succ]
          refine wpAnyH_ready (rs := [5]) (by kernel_rfl) (by simp) ?_
          refine AllReadyH.cons (o := ⟨_, _, _, _, _, _⟩) rfl (fun K hK => ?_) AllReadyH.nil
          have hb14 : Below wr.heap.size wr ((wr.drew.alloc (.cells (h8 Z32) 24)).alloc (.cells (h8 Z32) 24)) := hb12.alloc (by simp) _
          have ha15 : Arr ((wr.drew.alloc (.cells (h8 Z32) 24)).alloc (.cells (h8 Z32) 24)) (wr.heap.size + 1) 24 (h8 Z32) := by have h := Arr.new (wr.drew.alloc (.cells (h8 Z32) 24)) 24 (h8 Z32); rw [show (wr.drew.alloc (.cells (h8 Z32) 24)).heap.size = wr.heap.size + 1 by simp] at h; exact h
          have hc16 := Arr.alloc ha13 (.cells (h8 Z32) 24)
          go_simp
          go_wp2_with fail
          refine hK.out _ _ hb14 (fun hHeld => ?_)
          clear hK K
          try simp only [Act.put, List.setIfInBounds_toArray, List.set_cons_zero, List.set_cons_succ]
          refine wpAnyH_ready (rs := [7]) (by kernel_rfl) (by simp) ?_
          refine AllReadyH.cons (o := ⟨_, _, _, _, _, _⟩) rfl (fun K hK => ?_) AllReadyH.nil
          have hb17 : Below wr.heap.size wr (((wr.drew.alloc (.cells (h8 Z32) 24)).alloc (.cells (h8 Z32) 24)).setRow (wr.heap.size + 1) (h8 Xj)) := below_setRow hb14 (by omega) _
          have ha18 := Arr.setRow ha15 (h8 Xj)
          have hc19 := Arr.setRowOther hc16 (k := (wr.heap.size + 1)) (h8 Xj) (by omega)
          refine step_want rfl (wp_store_row 24 (.tmp 12) (.tmp 30) rfl (wr.heap.size + 1) (h8 Xj) rfl rfl 24 _ ha15 (s24h8 hN32) (by rw [h8_size, h8_size, hN32, Z32_len]) (h8_one Xj) ?_)
          refine hK.out _ _ hb17 (fun hHeld => ?_)
          clear hK K
          try simp only [Act.put, List.setIfInBounds_toArray, List.set_cons_zero, List.set_cons_succ]
          refine wpAnyH_ready (rs := [8]) (by kernel_rfl) (by simp) ?_
          refine AllReadyH.cons (o := ⟨_, _, _, _, _, _⟩) rfl (fun K hK => ?_) AllReadyH.nil
          have hb20 : Below wr.heap.size wr ((((wr.drew.alloc (.cells (h8 Z32) 24)).alloc (.cells (h8 Z32) 24)).setRow (wr.heap.size + 1) (h8 Xj)).setRow wr.heap.size (h8 Y)) := below_setRow hb17 (by omega) _
          have ha21 := Arr.setRow hc19 (h8 Y)
          have hc22 := Arr.setRowOther ha18 (k := wr.heap.size) (h8 Y) (by omega)
          refine step_want rfl (wp_store_row 24 (.tmp 13) (.tmp 34) rfl wr.heap.size (h8 Y) rfl rfl 24 _ hc19 (s24h8 hY32) (by rw [h8_size, h8_size, hY32, Z32_len]) (h8_one Y) ?_)
          refine hK.out _ _ hb20 (fun hHeld => ?_)
          clear hK K
          try simp only [Act.put, List.setIfInBounds_toArray, List.set_cons_zero, List.set_cons_succ]
          refine wpAnyH_done (by kernel_rfl) ?_ _
          go_wp2_with fail
          go_meet
          exact ⟨_, _, rfl, rfl, by omega, by omega, by omega, hc22, ha21, hb20⟩

      case rest =>
       obtain ⟨ga, gb, rfl, rfl, hab, hga, hgb, AA, AB, hVc⟩ := hcut
       by_cases hd : q % 2 = 1
       · have hd1 : ((q : Int) % 2 == 1) = true := by rw [beq_iff_eq]; omega
         have hL : Hid (L = [1] ++ Y ++ Xj) := Hid.mk' (by rw [hL0]; unfold pb; rw [if_pos hd]; simp)
         have hpo : ∀ w, Calls Try.prog 38 #[.agg (h8 Y), .agg (h8 Xj)] w fun e w' => e = .returned (.agg (h8 S)) ∧ Below w.heap.size w w' := fun w => by
           have h := refPair_h Y Xj w hY32 hN32
           rw [hSL.out, hL.out]; simpa [pr] using h
         clear hd hL0
         go_upto_region 11 with (first | (refine ld24 (by rfl) (.tmp 13) (by rfl) gb 0 (by rfl) Y hY32 AB.range ?_) | (refine ld24 (by rfl) (.tmp 12) (by rfl) ga 0 (by rfl) Xj hN32 AA.range ?_) | (refine st24 (by rfl) (.tmp 12) (.tmp 38) (by rfl) ga Y Xj (by rfl) (by rfl) hY32 hN32 AA ?_; have AA1 := AA.setRow (h8 Y); have AB1 := AB.setRowOther (k := ga) (h8 Y) (Ne.symm hab)) | (refine st24 (by rfl) (.tmp 13) (.tmp 39) (by rfl) gb Xj Y (by rfl) (by rfl) hN32 hY32 AB1 ?_; have AB2 := AB1.setRow (h8 Xj); have AA2 := AA1.setRowOther (k := gb) (h8 Xj) hab))
         have hVd := below_setRow (below_setRow hVc (g := ga) hga (h8 Y)) (g := gb) hgb (h8 Xj)
         go_upto_region 12 with (first | (refine ld24 (by rfl) (.tmp 12) (by rfl) ga 0 (by rfl) Y hY32 AA2.range ?_) | (refine ld24 (by rfl) (.tmp 13) (by rfl) gb 0 (by rfl) Xj hN32 AB2.range ?_) | (go_at_call 38; go_must (refine (hpo _).mono ?_; rintro e w5 ⟨rfl, hb5⟩; have hV5 := hVd.trans (hb5.mono hVd.size); have AL5 := AL.below hV5 hwl)) | (refine st24 (by rfl) (.tmp 4) (.tmp 42) (by rfl) w.heap.size S Xj (by rfl) (by rfl) hS32 hN32 AL5 ?_))
         have AA6 := (AA2.below hb5 AA2.lt).setRowOther (k := w.heap.size) (h8 S) (by omega)
         have AB6 := (AB2.below hb5 AB2.lt).setRowOther (k := w.heap.size) (h8 S) (by omega)
         have AL6 := AL5.setRow (h8 S)
         have bl6 := below_setRow (hbl.trans (hV5.mono (by omega))) (g := w.heap.size) (Nat.le_refl _) (h8 S)
         have E6 := (hE.below hV5).grown (gb_row w5 w.heap.size (h8 S)) (fun e => by have := own_ge hE.own _ e; omega)
         have hs6 := AL6.lt
         have hs65 : wr.heap.size ≤ (w5.setRow w.heap.size (h8 S)).heap.size := by simp; exact hV5.size
         generalize w5.setRow w.heap.size (h8 S) = W6 at *
         refine wp_region_held_drew (S := fun u => Arr u w.heap.size 24 (h8 S)) (by kernel_rfl) AL6.drew (fun hHeld => ?_)
         refine wpAnyH_take (i := 0) (oi := ⟨_, _, _, _, _, _⟩) (v := ?_) rfl (by kernel_rfl) (by kernel_rfl) (by kernel_rfl) (fun _ _ _ h => h) (Or.inl ⟨by rfl, ?_⟩) (by assumption) ?_
         rotate_left
         · intro u hSw
           go_simp
           try (with_reducible rfl)
         try simp only [Act.put, List.setIfInBounds_toArray, List.set_cons_zero, List.set_cons_succ]
         refine wpAnyH_take (i := 2) (oi := ⟨_, _, _, _, _, _⟩) (v := ?_) rfl (by kernel_rfl) (by kernel_rfl) (by kernel_rfl) (fun _ _ _ h => h) (Or.inl ⟨by rfl, ?_⟩) (by assumption) ?_
         rotate_left
         · intro u hSw
           go_simp
           try (with_reducible rfl)
         try simp only [Act.put, List.setIfInBounds_toArray, List.set_cons_zero, List.set_cons_succ]
         refine wpAnyH_take (i := 4) (oi := ⟨_, _, _, _, _, _⟩) (v := ?_) rfl (by kernel_rfl) (by kernel_rfl) (by kernel_rfl) (fun _ _ _ h => h) (Or.inl ⟨by rfl, ?_⟩) (by assumption) ?_
         rotate_left
         · intro u hSw
           go_simp
           try (with_reducible rfl)
         try simp only [Act.put, List.setIfInBounds_toArray, List.set_cons_zero, List.set_cons_succ]
         refine wpAnyH_take (i := 6) (oi := ⟨_, _, _, _, _, _⟩) rfl (by kernel_rfl) (by kernel_rfl) (by kernel_rfl) (fun _ _ _ h => h) (y24 (by rfl) (.tmp 4) rfl (w.heap.size) (0) rfl S hS32 (fun u hu => hu.range)) (by assumption) ?_
         try simp only [Act.put, List.setIfInBounds_toArray, List.set_cons_zero, List.set_cons_succ]
         refine wpAnyH_ready (rs := [1]) (by kernel_rfl) (by simp) ?_
         refine AllReadyH.cons (o := ⟨_, _, _, _, _, _⟩) rfl (fun K hK => ?_) AllReadyH.nil
         have hv1 : (W6.alloc (.cells #[.int .u8 1] 5)).drew.ownsRow W6.heap.size 5 1 (.slice (some ⟨W6.heap.size, 0, none⟩) 1 1) 1 (by8 [1]) := World.ownsRow_lit _ _ _ (Nat.le_refl _) (by unfold maxLen; omega) rfl
         have U1 : Below W6.heap.size W6 ((W6.alloc (.cells #[.int .u8 1] 5)).drew) := (alloc_bel' W6 _).drew
         have s1 : ((W6.alloc (.cells #[.int .u8 1] 5)).drew).heap.size = W6.heap.size + 1 := by simp
         go_simp
         go_wp2_with fail
         refine hK.out _ _ (AL6.below U1 AL6.lt) (fun hHeld => ?_)
         clear hK K
         try simp only [Act.put, List.setIfInBounds_toArray, List.set_cons_zero, List.set_cons_succ]
         generalize (W6.alloc (.cells #[.int .u8 1] 5)).drew = W7 at *
         refine wpAnyH_ready (rs := [3]) (by kernel_rfl) (by simp) ?_
         refine AllReadyH.cons (o := ⟨_, _, _, _, _, _⟩) rfl (fun K hK => ?_) AllReadyH.nil
         refine step_append_bytes rfl (.tmp 44) (.tmp 45) rfl W6.heap.size _ 1 [1] rfl hv1 (some ⟨ga, 0, none⟩) 32 32 Y rfl hY32.symm (fun h => by cases h) (Arr.sl (AA6.below U1 AA6.lt)) (by omega) (by omega) (fun v2 w8 hown2 hg2 => ?_)
         have U2 := U1.grown hg2 (by omega) (fun k e => own_ge hv1 k e)
         have s2 := U2.size
         refine hK.out _ _ (AL6.below U2 AL6.lt) (fun hHeld => ?_)
         clear hK K
         try simp only [Act.put, List.setIfInBounds_toArray, List.set_cons_zero, List.set_cons_succ]
         refine wpAnyH_ready (rs := [5]) (by kernel_rfl) (by simp) ?_
         refine AllReadyH.cons (o := ⟨_, _, _, _, _, _⟩) rfl (fun K hK => ?_) AllReadyH.nil
         refine step_append_bytes rfl (.tmp 46) (.tmp 47) rfl W6.heap.size _ 33 ([1] ++ Y) rfl hown2 (some ⟨gb, 0, none⟩) 32 32 Xj rfl hN32.symm (fun h => by cases h) (Arr.sl (AB6.below U2 AB6.lt)) (by omega) (by omega) (fun v3 w9 hown3 hg3 => ?_)
         have U3 := U2.grown hg3 (by omega) (fun k e => own_ge hown2 k e)
         have s3 := U3.size
         refine hK.out _ _ (AL6.below U3 AL6.lt) (fun hHeld => ?_)
         clear hK K
         try simp only [Act.put, List.setIfInBounds_toArray, List.set_cons_zero, List.set_cons_succ]
         rw [show [1] ++ Y ++ Xj = L from hL.out.symm] at hown3
         obtain ⟨sp9, cp9, rfl, hb9, hg9⟩ := own_bs hown3 hLb (by omega)
         refine wpAnyH_ready (rs := [7]) (by kernel_rfl) (by simp) ?_
         refine AllReadyH.cons (o := ⟨_, _, _, _, _, _⟩) rfl (fun K hK => ?_) AllReadyH.nil
         refine step_want rfl (wp_bdT 77 _ rfl rfl (built54 sp9 65 cp9 S hS32 L) ?_)
         refine hK.out _ _ (AL6.below U3 AL6.lt) (fun hHeld => ?_)
         clear hK K
         try simp only [Act.put, List.setIfInBounds_toArray, List.set_cons_zero, List.set_cons_succ]
         refine wpAnyH_ready (rs := [8]) (by kernel_rfl) (by simp) ?_
         refine AllReadyH.cons (o := ⟨_, _, _, _, _, _⟩) rfl (fun K hK => ?_) AllReadyH.nil
         refine step_want rfl (wp_bldE (.tmp 50) rfl ⟨sp9, 65, cp9, L, S⟩ rfl hS32 ?_)
         have U4 := U3.alloc (Nat.le_trans (Nat.le_refl _) U3.size) (.cells (En.arr ⟨sp9, 65, cp9, L, S⟩) 77)
         have E9 := E6.below U4
         have hob := fun (k : Nat) hk => own_lt (b := k) E6.own hk
         have A9 := Arr.new w9 77 (En.arr ⟨sp9, 65, cp9, L, S⟩)
         have ok9 : EnOK (w9.alloc (.cells (En.arr ⟨sp9, 65, cp9, L, S⟩) 77)).heap.size (w9.alloc (.cells (En.arr ⟨sp9, 65, cp9, L, S⟩) 77)) ⟨sp9, 65, cp9, L, S⟩ := ⟨(hb9.below (alloc_bel' w9 _)).mono (by simp), hS32⟩
         refine hK.out _ _ (AL6.below U4 AL6.lt) (fun hHeld => ?_)
         clear hK K
         try simp only [Act.put, List.setIfInBounds_toArray, List.set_cons_zero, List.set_cons_succ]
         refine wpAnyH_ready (rs := [9]) (by kernel_rfl) (by simp) ?_
         refine AllReadyH.cons (o := ⟨_, _, _, _, _, _⟩) rfl (fun K hK => ?_) AllReadyH.nil
         refine step_want rfl (wp_appE (.tmp 43) (.tmp 51) rfl (w.heap.size + 1) w.heap.size _ es ⟨sp9, 65, cp9, L, S⟩ rfl E9 w9.heap.size 1 rfl A9 ok9 (apart hb9 (by omega) (fun g' o' e' => (hg9 g' o' e').1) hob (by omega) (by omega) (by simp)) (by omega) (by simp; omega) (fun v' wz hEz hGz hlz => ?_))
         have hbz := (bl6.trans (U4.mono (by omega))).grown hGz (by simp; omega) (fun k e => by have := own_ge E6.own k e; omega)
         have ALz := (AL6.below U4 AL6.lt).grown hGz (fun e => by have := own_ge E6.own _ e.symm; omega)
         refine hK.out _ _ ALz (fun hHeld => ?_)
         clear hK K
         try simp only [Act.put, List.setIfInBounds_toArray, List.set_cons_zero, List.set_cons_succ]
         refine wpAnyH_take (i := 10) (oi := ⟨_, _, _, _, _, _⟩) (v := ?_) rfl (by kernel_rfl) (by kernel_rfl) (by kernel_rfl) (fun _ _ _ h => h) (Or.inl ⟨by rfl, ?_⟩) (by assumption) ?_
         rotate_left
         · intro u hSw
           go_simp
           try (with_reducible rfl)
         try simp only [Act.put, List.setIfInBounds_toArray, List.set_cons_zero, List.set_cons_succ]
         refine wpAnyH_done (by kernel_rfl) ?_ _
         go_wp2_with fail
         go_roundw
         case rel =>
           refine ⟨j + 1, _, ?_, by go_num, by omega, by simp [hel], hbz, by rw [hnx.out]; exact ALz, hEz, Hid.mk' ?_, Hid.mk' ?_⟩
           · rw [hdv.out, ← hqd.out]
           · rw [List.map_append, hbs.out, take_succ' hpx.out]; rfl
           · intro e he
             rcases List.mem_append.1 he with he | he
             · exact hsm.out e he
             · simp at he; subst he; exact hSL.out
         case measure => simp [intOf]; omega

       · have hd1 : ((q : Int) % 2 == 1) = false := by rw [beq_eq_false_iff_ne]; omega
         have hL : Hid (L = [1] ++ Xj ++ Y) := Hid.mk' (by rw [hL0]; unfold pb; rw [if_neg hd]; simp)
         have hpo : ∀ w, Calls Try.prog 38 #[.agg (h8 Xj), .agg (h8 Y)] w fun e w' => e = .returned (.agg (h8 S)) ∧ Below w.heap.size w w' := fun w => by
           have h := refPair_h Xj Y w hN32 hY32
           rw [hSL.out, hL.out]; simpa [pr] using h
         clear hd hL0
         go_upto_region 11 with fail
         have hVd := hVc
         go_upto_region 12 with (first | (refine ld24 (by rfl) (.tmp 12) (by rfl) ga 0 (by rfl) Xj hN32 AA.range ?_) | (refine ld24 (by rfl) (.tmp 13) (by rfl) gb 0 (by rfl) Y hY32 AB.range ?_) | (go_at_call 38; go_must (refine (hpo _).mono ?_; rintro e w5 ⟨rfl, hb5⟩; have hV5 := hVd.trans (hb5.mono hVd.size); have AL5 := AL.below hV5 hwl)) | (refine st24 (by rfl) (.tmp 4) (.tmp 42) (by rfl) w.heap.size S Xj (by rfl) (by rfl) hS32 hN32 AL5 ?_))
         have AA6 := (AA.below hb5 AA.lt).setRowOther (k := w.heap.size) (h8 S) (by omega)
         have AB6 := (AB.below hb5 AB.lt).setRowOther (k := w.heap.size) (h8 S) (by omega)
         have AL6 := AL5.setRow (h8 S)
         have bl6 := below_setRow (hbl.trans (hV5.mono (by omega))) (g := w.heap.size) (Nat.le_refl _) (h8 S)
         have E6 := (hE.below hV5).grown (gb_row w5 w.heap.size (h8 S)) (fun e => by have := own_ge hE.own _ e; omega)
         have hs6 := AL6.lt
         have hs65 : wr.heap.size ≤ (w5.setRow w.heap.size (h8 S)).heap.size := by simp; exact hV5.size
         generalize w5.setRow w.heap.size (h8 S) = W6 at *
         refine wp_region_held_drew (S := fun u => Arr u w.heap.size 24 (h8 S)) (by kernel_rfl) AL6.drew (fun hHeld => ?_)
         refine wpAnyH_take (i := 0) (oi := ⟨_, _, _, _, _, _⟩) (v := ?_) rfl (by kernel_rfl) (by kernel_rfl) (by kernel_rfl) (fun _ _ _ h => h) (Or.inl ⟨by rfl, ?_⟩) (by assumption) ?_
         rotate_left
         · intro u hSw
           go_simp
           try (with_reducible rfl)
         try simp only [Act.put, List.setIfInBounds_toArray, List.set_cons_zero, List.set_cons_succ]
         refine wpAnyH_take (i := 2) (oi := ⟨_, _, _, _, _, _⟩) (v := ?_) rfl (by kernel_rfl) (by kernel_rfl) (by kernel_rfl) (fun _ _ _ h => h) (Or.inl ⟨by rfl, ?_⟩) (by assumption) ?_
         rotate_left
         · intro u hSw
           go_simp
           try (with_reducible rfl)
         try simp only [Act.put, List.setIfInBounds_toArray, List.set_cons_zero, List.set_cons_succ]
         refine wpAnyH_take (i := 4) (oi := ⟨_, _, _, _, _, _⟩) (v := ?_) rfl (by kernel_rfl) (by kernel_rfl) (by kernel_rfl) (fun _ _ _ h => h) (Or.inl ⟨by rfl, ?_⟩) (by assumption) ?_
         rotate_left
         · intro u hSw
           go_simp
           try (with_reducible rfl)
         try simp only [Act.put, List.setIfInBounds_toArray, List.set_cons_zero, List.set_cons_succ]
         refine wpAnyH_take (i := 6) (oi := ⟨_, _, _, _, _, _⟩) rfl (by kernel_rfl) (by kernel_rfl) (by kernel_rfl) (fun _ _ _ h => h) (y24 (by rfl) (.tmp 4) rfl (w.heap.size) (0) rfl S hS32 (fun u hu => hu.range)) (by assumption) ?_
         try simp only [Act.put, List.setIfInBounds_toArray, List.set_cons_zero, List.set_cons_succ]
         refine wpAnyH_ready (rs := [1]) (by kernel_rfl) (by simp) ?_
         refine AllReadyH.cons (o := ⟨_, _, _, _, _, _⟩) rfl (fun K hK => ?_) AllReadyH.nil
         have hv1 : (W6.alloc (.cells #[.int .u8 1] 5)).drew.ownsRow W6.heap.size 5 1 (.slice (some ⟨W6.heap.size, 0, none⟩) 1 1) 1 (by8 [1]) := World.ownsRow_lit _ _ _ (Nat.le_refl _) (by unfold maxLen; omega) rfl
         have U1 : Below W6.heap.size W6 ((W6.alloc (.cells #[.int .u8 1] 5)).drew) := (alloc_bel' W6 _).drew
         have s1 : ((W6.alloc (.cells #[.int .u8 1] 5)).drew).heap.size = W6.heap.size + 1 := by simp
         go_simp
         go_wp2_with fail
         refine hK.out _ _ (AL6.below U1 AL6.lt) (fun hHeld => ?_)
         clear hK K
         try simp only [Act.put, List.setIfInBounds_toArray, List.set_cons_zero, List.set_cons_succ]
         generalize (W6.alloc (.cells #[.int .u8 1] 5)).drew = W7 at *
         refine wpAnyH_ready (rs := [3]) (by kernel_rfl) (by simp) ?_
         refine AllReadyH.cons (o := ⟨_, _, _, _, _, _⟩) rfl (fun K hK => ?_) AllReadyH.nil
         refine step_append_bytes rfl (.tmp 44) (.tmp 45) rfl W6.heap.size _ 1 [1] rfl hv1 (some ⟨ga, 0, none⟩) 32 32 Xj rfl hN32.symm (fun h => by cases h) (Arr.sl (AA6.below U1 AA6.lt)) (by omega) (by omega) (fun v2 w8 hown2 hg2 => ?_)
         have U2 := U1.grown hg2 (by omega) (fun k e => own_ge hv1 k e)
         have s2 := U2.size
         refine hK.out _ _ (AL6.below U2 AL6.lt) (fun hHeld => ?_)
         clear hK K
         try simp only [Act.put, List.setIfInBounds_toArray, List.set_cons_zero, List.set_cons_succ]
         refine wpAnyH_ready (rs := [5]) (by kernel_rfl) (by simp) ?_
         refine AllReadyH.cons (o := ⟨_, _, _, _, _, _⟩) rfl (fun K hK => ?_) AllReadyH.nil
         refine step_append_bytes rfl (.tmp 46) (.tmp 47) rfl W6.heap.size _ 33 ([1] ++ Xj) rfl hown2 (some ⟨gb, 0, none⟩) 32 32 Y rfl hY32.symm (fun h => by cases h) (Arr.sl (AB6.below U2 AB6.lt)) (by omega) (by omega) (fun v3 w9 hown3 hg3 => ?_)
         have U3 := U2.grown hg3 (by omega) (fun k e => own_ge hown2 k e)
         have s3 := U3.size
         refine hK.out _ _ (AL6.below U3 AL6.lt) (fun hHeld => ?_)
         clear hK K
         try simp only [Act.put, List.setIfInBounds_toArray, List.set_cons_zero, List.set_cons_succ]
         rw [show [1] ++ Xj ++ Y = L from hL.out.symm] at hown3
         obtain ⟨sp9, cp9, rfl, hb9, hg9⟩ := own_bs hown3 hLb (by omega)
         refine wpAnyH_ready (rs := [7]) (by kernel_rfl) (by simp) ?_
         refine AllReadyH.cons (o := ⟨_, _, _, _, _, _⟩) rfl (fun K hK => ?_) AllReadyH.nil
         refine step_want rfl (wp_bdT 77 _ rfl rfl (built54 sp9 65 cp9 S hS32 L) ?_)
         refine hK.out _ _ (AL6.below U3 AL6.lt) (fun hHeld => ?_)
         clear hK K
         try simp only [Act.put, List.setIfInBounds_toArray, List.set_cons_zero, List.set_cons_succ]
         refine wpAnyH_ready (rs := [8]) (by kernel_rfl) (by simp) ?_
         refine AllReadyH.cons (o := ⟨_, _, _, _, _, _⟩) rfl (fun K hK => ?_) AllReadyH.nil
         refine step_want rfl (wp_bldE (.tmp 50) rfl ⟨sp9, 65, cp9, L, S⟩ rfl hS32 ?_)
         have U4 := U3.alloc (Nat.le_trans (Nat.le_refl _) U3.size) (.cells (En.arr ⟨sp9, 65, cp9, L, S⟩) 77)
         have E9 := E6.below U4
         have hob := fun (k : Nat) hk => own_lt (b := k) E6.own hk
         have A9 := Arr.new w9 77 (En.arr ⟨sp9, 65, cp9, L, S⟩)
         have ok9 : EnOK (w9.alloc (.cells (En.arr ⟨sp9, 65, cp9, L, S⟩) 77)).heap.size (w9.alloc (.cells (En.arr ⟨sp9, 65, cp9, L, S⟩) 77)) ⟨sp9, 65, cp9, L, S⟩ := ⟨(hb9.below (alloc_bel' w9 _)).mono (by simp), hS32⟩
         refine hK.out _ _ (AL6.below U4 AL6.lt) (fun hHeld => ?_)
         clear hK K
         try simp only [Act.put, List.setIfInBounds_toArray, List.set_cons_zero, List.set_cons_succ]
         refine wpAnyH_ready (rs := [9]) (by kernel_rfl) (by simp) ?_
         refine AllReadyH.cons (o := ⟨_, _, _, _, _, _⟩) rfl (fun K hK => ?_) AllReadyH.nil
         refine step_want rfl (wp_appE (.tmp 43) (.tmp 51) rfl (w.heap.size + 1) w.heap.size _ es ⟨sp9, 65, cp9, L, S⟩ rfl E9 w9.heap.size 1 rfl A9 ok9 (apart hb9 (by omega) (fun g' o' e' => (hg9 g' o' e').1) hob (by omega) (by omega) (by simp)) (by omega) (by simp; omega) (fun v' wz hEz hGz hlz => ?_))
         have hbz := (bl6.trans (U4.mono (by omega))).grown hGz (by simp; omega) (fun k e => by have := own_ge E6.own k e; omega)
         have ALz := (AL6.below U4 AL6.lt).grown hGz (fun e => by have := own_ge E6.own _ e.symm; omega)
         refine hK.out _ _ ALz (fun hHeld => ?_)
         clear hK K
         try simp only [Act.put, List.setIfInBounds_toArray, List.set_cons_zero, List.set_cons_succ]
         refine wpAnyH_take (i := 10) (oi := ⟨_, _, _, _, _, _⟩) (v := ?_) rfl (by kernel_rfl) (by kernel_rfl) (by kernel_rfl) (fun _ _ _ h => h) (Or.inl ⟨by rfl, ?_⟩) (by assumption) ?_
         rotate_left
         · intro u hSw
           go_simp
           try (with_reducible rfl)
         try simp only [Act.put, List.setIfInBounds_toArray, List.set_cons_zero, List.set_cons_succ]
         refine wpAnyH_done (by kernel_rfl) ?_ _
         go_wp2_with fail
         go_roundw
         case rel =>
           refine ⟨j + 1, _, ?_, by go_num, by omega, by simp [hel], hbz, by rw [hnx.out]; exact ALz, hEz, Hid.mk' ?_, Hid.mk' ?_⟩
           · rw [hdv.out, ← hqd.out]
           · rw [List.map_append, hbs.out, take_succ' hpx.out]; rfl
           · intro e he
             rcases List.mem_append.1 he with he | he
             · exact hsm.out e he
             · simp at he; subst he; exact hSL.out
         case measure => simp [intOf]; omega

    · obtain rfl : j = n := by omega
      have hI : ¬ (j : Int) < j := by omega
      go_wp2_with fail
      go_ret2
      exact ⟨_, es, rfl, hE, Hid.mk' (by rw [hbs.out, hl.out, ← pth_len m X ls, List.take_length]), hsm, hbl⟩
end Go.Proofs.Ytlebojbfcolkhaa
