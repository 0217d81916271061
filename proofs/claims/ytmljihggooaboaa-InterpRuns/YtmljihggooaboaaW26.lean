/- Jq, Io, Ip0, Ip, Ir0. -/
import Derived.Test.YtmljihggooaboaaW25
import Derived.Test.YtmljihggooaboaaW01
import Derived.Handy
import Derived.BigQuiet
import Derived.BigRegion
import Derived.Test.YtmljihggooaboaaW08
import Derived.Test.YtmljihggooaboaaW02
/- Layer interp: what more fuel and less come to (pure). -/
namespace Go.Proofs.Ytmljihggooaboaa
open Go.RowKit
set_option maxRecDepth 100000
set_option linter.unusedVariables false
set_option linter.unusedSimpArgs false

variable {E : Env}
/-- Whatever each statement keeps of a result, statements keep. -/
theorem runL_inv {α : Type} {F : α → SS → RR} {I : SS → Prop} {J : RR → Prop} (h0 : ∀ s, I s → J ⟨0, 0, s⟩) (hs : ∀ r, J r → I r.s) (hF : ∀ t s, I s → J (F t s)) : ∀ (l : List α) (s : SS), I s → J (runL F l s)
  | [], s, h => h0 s h
  | t :: l, s, h => by
    unfold runL
    split
    · exact runL_inv h0 hs hF l _ (hs _ (hF t s h))
    · exact hF t s h
theorem stm_k : ∀ (G d : Nat) (t : StT d) (s : SS), (stm E G d t s).k ≤ 3
  | 0, d, t, s => Nat.le_refl _
  | G + 1, 0, t, s => Nat.le_refl _
  | G + 1, d + 1, t, ⟨W, V, 0⟩ => by rw [stm_sp t _ rfl]; exact Nat.le_refl _
  | G + 1, d + 1, t, ⟨W, V, k + 1⟩ => by
    cases hev : evs W V 8 t.nd.a with
    | none => rw [stm_tr hev]; show 2 ≤ 3; omega
    | some L =>
      rw [stm_on hev]
      have hB : ∀ l s, (runL (stm E G d) l s).k ≤ 3 := fun l s => runL_inv (I := fun _ => True) (J := fun r => r.k ≤ 3) (fun _ _ => by show 0 ≤ 3; omega) (fun _ _ => trivial) (fun t s _ => stm_k G d t s) l s trivial
      have hC : ∀ l s, (runL (stm E G 8) l s).k ≤ 3 := fun l s => runL_inv (I := fun _ => True) (J := fun r => r.k ≤ 3) (fun _ _ => by show 0 ≤ 3; omega) (fun _ _ => trivial) (fun t s _ => stm_k G 8 t s) l s trivial
      unfold one back
      repeat' split
      all_goals first
        | exact hB _ _
        | exact hC _ _
        | exact stm_k _ _ _ _
        | (show 0 ≤ 3; omega)
        | (show 1 ≤ 3; omega)
        | (show 2 ≤ 3; omega)
theorem runL_k (G d : Nat) (l : List (StT d)) (s : SS) : (runL (stm E G d) l s).k ≤ 3 := runL_inv (I := fun _ => True) (J := fun r => r.k ≤ 3) (fun _ _ => by show 0 ≤ 3; omega) (fun _ _ => trivial) (fun t s _ => stm_k G d t s) l s trivial
theorem stm_w (hE : ∀ W t a b z W', E.hsh W t a b z = some W' → W'.length = W.length) (n : Nat) : ∀ (G d : Nat) (t : StT d) (s : SS), s.W.length = n → (stm E G d t s).s.W.length = n
  | 0, d, t, s, h => h
  | G + 1, 0, t, s, h => h
  | G + 1, d + 1, t, ⟨W, V, 0⟩, h => by rw [stm_sp t _ rfl]; exact h
  | G + 1, d + 1, t, ⟨W, V, k + 1⟩, h => by
    replace h : W.length = n := h
    cases hev : evs W V 8 t.nd.a with
    | none => rw [stm_tr hev]; exact h
    | some L =>
      rw [stm_on hev]
      have hB : ∀ l s, s.W.length = n → (runL (stm E G d) l s).s.W.length = n := fun l s hs => runL_inv (I := fun s => s.W.length = n) (J := fun r => r.s.W.length = n) (fun _ h => h) (fun _ h => h) (fun t s h => stm_w hE n G d t s h) l s hs
      have hC : ∀ l s, s.W.length = n → (runL (stm E G 8) l s).s.W.length = n := fun l s hs => runL_inv (I := fun s => s.W.length = n) (J := fun r => r.s.W.length = n) (fun _ h => h) (fun _ h => h) (fun t s h => stm_w hE n G 8 t s h) l s hs
      unfold one
      by_cases h7 : t.nd.k = 7
      · rw [if_neg (by omega), if_neg (by omega), if_neg (by omega), if_neg (by omega), if_neg (by omega), if_neg (by omega), if_pos h7]
        split
        · exact h
        · next W' hw => exact (hE _ _ _ _ _ _ hw).trans h
      · rw [if_neg h7]
        unfold back
        repeat' split
        all_goals first
          | exact h
          | (show (List.set _ _ _).length = n; rw [List.length_set]; exact h)
          | exact hB _ _ h
          | exact hC _ _ h
          | exact stm_w hE n _ _ _ _ (hB _ _ h)
theorem hsW_len {W : List Int} {t a b z : Int} {W' : List Int} (h : hsW W t a b z = some W') : W'.length = W.length := by
  unfold hsW at h
  split at h
  · cases h
  split at h
  · cases h
  split at h
  · cases h
  cases h
  exact put4_len _ _ _
theorem fsB_0 {r : RR} (hk : r.k ≤ 3) : fsB r = 0 ↔ r.k = 3 := by
  unfold fsB
  constructor
  · intro h
    split at h
    · cases h
    split at h
    · cases h
    split at h
    · cases h
    omega
  · intro h
    rw [if_neg (by omega), if_neg (by omega), if_neg (by omega)]
/-- What InterpFuel asks. -/
theorem fuel_facts {p : PgT} {es : List En} {D : List Int} {fuel : Int} (h0 : rnC p D.length fuel = 0) (m : Nat) (hm : fuel + m ≤ 4194304) :
    (rnV p es D fuel).c = 0 ∧ 0 ≤ (rnV p es D fuel).sp ∧ (rnV p es D fuel).sp ≤ fuel ∧ ((rnV p es D fuel).W.length : Int) = p.da ∧ (rnV p es D (fuel + m)).c = 0 ∧ (rnV p es D (rnV p es D fuel).sp).c = 0 ∧
    ((rnV p es D fuel).st = 0 → (rnV p es D fuel).sp = fuel ∧ (rnV p es D fuel).va = 0 ∧ fuel ≤ (rnV p es D (fuel + m)).sp) ∧ ((rnV p es D fuel).st ≠ 0 → rnV p es D (fuel + m) = rnV p es D fuel ∧ rnV p es D (rnV p es D fuel).sp = rnV p es D fuel) := by
  have hc := h0
  unfold rnC at hc
  split at hc
  · cases hc
  split at hc
  · cases hc
  next g1 g2 =>
  have hmay : (pgN p).isSome = true := by
    cases h : pgN p with
    | none => exact absurd (.inl h) g1
    | some q => rfl
  obtain ⟨hb, hF0, f, hf, hv, hv2, hol⟩ := pgN_parts hmay
  have hda := of_decide_eq_true (show decide _ = true from hb)
  have hfu : 0 ≤ fuel ∧ (D.length : Int) ≤ p.da := by omega
  obtain ⟨k, rfl⟩ : ∃ k : Nat, fuel = k := ⟨fuel.toNat, by omega⟩
  have cc : ∀ q : Nat, (q : Int) ≤ 4194304 → rnC p D.length (q : Int) = 0 := fun q hq => by
    unfold rnC
    rw [if_neg (by rintro (h | h | h); exact g1 (.inl h); omega; omega), if_neg (by omega)]
  have ev : ∀ q : Nat, (q : Int) ≤ 4194304 → rnV p es D (q : Int) = ⟨fsB (rnR p es f D q), fvB (rnR p es f D q), (rnR p es f D q).s.W, (q : Int) - (rnR p es f D q).s.lf, 0⟩ := fun q hq => by
    unfold rnV
    rw [if_pos (cc q hq), hf]
    rfl
  have hfs : ∀ g ∈ (EV p.fs es).fs, ∀ b ∈ g.b, ∃ ps vs, okS ps vs 8 b := fun g hg b hb => by
    obtain ⟨i, hi⟩ := List.getElem?_of_mem (show g ∈ p.fs from hg)
    exact ⟨_, _, (hF0 i g hi).2 b hb⟩
  have hQ := runL_sh (E := EV p.fs es) (G := k) f.b ⟨D ++ List.replicate (p.da.toNat - D.length) 0, List.replicate f.v.toNat 0, k⟩ (fun t ht s hs => stm_sh hfs k 8 t s _ _ (hol t ht) hs) (Nat.le_refl _)
  have hl := runL_lf (fun t s => stm_lf (E := EV p.fs es) k 8 t s) f.b ⟨D ++ List.replicate (p.da.toNat - D.length) 0, List.replicate f.v.toNat 0, k⟩
  have hk := runL_k (E := EV p.fs es) k 8 f.b ⟨D ++ List.replicate (p.da.toNat - D.length) 0, List.replicate f.v.toNat 0, k⟩
  have hw : (rnR p es f D k).s.W.length = p.da.toNat := runL_inv (I := fun s => s.W.length = p.da.toNat) (J := fun r => r.s.W.length = p.da.toNat) (fun _ h => h) (fun _ h => h) (fun t s h => stm_w (E := EV p.fs es) (fun _ _ _ _ _ _ h => hsW_len h) _ k 8 t s h) f.b _ (by simp; omega)
  replace hQ : Qr (rnR p es f D k) k (fun c m G2 => runL (stm (EV p.fs es) G2 8) f.b ⟨D ++ List.replicate (p.da.toNat - D.length) 0, List.replicate f.v.toNat 0, k - c + m⟩) := hQ
  replace hl : (rnR p es f D k).s.lf ≤ k := hl
  replace hk : (rnR p es f D k).k ≤ 3 := hk
  have e1 := ev k (by omega)
  have e2 := ev (k + m) (by omega)
  have hsp : (rnV p es D (k : Int)).sp = ((k - (rnR p es f D k).s.lf : Nat) : Int) := by rw [e1]; show (k : Int) - _ = _; omega
  have e3 := ev (k - (rnR p es f D k).s.lf) (by omega)
  rw [hsp]
  rw [show ((k : Int) + (m : Int)) = ((k + m : Nat) : Int) by omega]
  rw [e1, e2, e3]
  refine ⟨rfl, ?_, ?_, ?_, rfl, rfl, fun hst => ?_, fun hst => ?_⟩
  · omega
  · omega
  · show ((rnR p es f D k).s.W.length : Int) = _; omega
  · have h3 := (fsB_0 hk).1 hst
    obtain ⟨q1, q2⟩ := hQ.2 h3
    have q3 := q2 m (k + m) (Nat.le_refl _)
    replace q3 : (rnR p es f D (k + m)).s.lf ≤ m := q3
    refine ⟨?_, ?_, ?_⟩
    · omega
    · show fvB _ = 0
      unfold fvB
      rw [if_neg (by omega)]
    · show (k : Int) ≤ ((k + m : Nat) : Int) - _; omega
  · have h3 : (rnR p es f D k).k ≠ 3 := fun h => hst ((fsB_0 hk).2 h)
    have q1 := hQ.1 h3 0 m (k + m) (by omega) (by omega)
    replace q1 : rnR p es f D (k + m) = (rnR p es f D k).sh 0 m := q1
    have q2 := hQ.1 h3 (rnR p es f D k).s.lf 0 (k - (rnR p es f D k).s.lf) (Nat.le_refl _) (by omega)
    replace q2 : rnR p es f D (k - (rnR p es f D k).s.lf) = (rnR p es f D k).sh (rnR p es f D k).s.lf 0 := q2
    rw [q1, q2]
    refine ⟨?_, ?_⟩
    · have a1 : ((k + m : Nat) : Int) - (((rnR p es f D k).sh 0 m).s.lf : Int) = (k : Int) - ((rnR p es f D k).s.lf : Int) := by
        show ((k + m : Nat) : Int) - (((rnR p es f D k).s.lf - 0 + m : Nat) : Int) = _
        omega
      rw [a1]
      rfl
    · have a1 : ((k - (rnR p es f D k).s.lf : Nat) : Int) - (((rnR p es f D k).sh (rnR p es f D k).s.lf 0).s.lf : Int) = (k : Int) - ((rnR p es f D k).s.lf : Int) := by
        show ((k - (rnR p es f D k).s.lf : Nat) : Int) - (((rnR p es f D k).s.lf - (rnR p es f D k).s.lf + 0 : Nat) : Int) = _
        omega
      rw [a1]
      rfl
end Go.Proofs.Ytmljihggooaboaa
/- Layer interp: outcomes held against each other. -/
namespace Go.Proofs.Ytmljihggooaboaa
open Go.RowKit
set_option maxRecDepth 100000
set_option linter.unusedVariables false
set_option linter.unusedSimpArgs false

/-- Words somewhere. -/
structure DS (w : World) (sp : Option Addr) (n : Nat) (L : List Int) : Prop where
  len : Hid (n = L.length)
  few : n ≤ 1024
  at0 : 0 < n → ∃ g, sp = some ⟨g, 0, none⟩ ∧ g < w.heap.size ∧ ∀ (i : Nat) (x : Int), L[i]? = some x → w.cell? ⟨g, i, none⟩ = some (.int .u64 x)
theorem DS.bl {w w' : World} {sp : Option Addr} {n : Nat} {L : List Int} (h : DS w sp n L) (hb : Below w.heap.size w w') : DS w' sp n L :=
  ⟨h.len, h.few, fun h0 => let ⟨g, e, hg, hc⟩ := h.at0 h0; ⟨g, e, by have := hb.size; omega, fun i x hx => (hb.cell (p := ⟨g, i, none⟩) hg).trans (hc i x hx)⟩⟩
def ouA (s v : Int) (sp : Option Addr) (n cap : Nat) (k : Int) : Array Value := #[.int .u8 s, .int .u64 v, .slice sp n cap, .int .i64 k]
set_option maxHeartbeats 1000000 in
theorem same_any {s1 v1 k1 s2 v2 k2 : Int} {sp sq : Option Addr} {n m c1 c2 : Nat} {L M : List Int} (w : World) (h1 : DS w sp n L) (h2 : DS w sq m M) :
    Calls Try.prog 9 #[.agg (ouA s1 v1 sp n c1 k1), .agg (ouA s2 v2 sq m c2 k2)] w (BoP (decide (s1 = s2 ∧ v1 = v2 ∧ k1 = k2 ∧ L = M)) w) := by
  have b0 : Below w.heap.size w ((w.alloc (.cells (ouA s1 v1 sp n c1 k1) 32)).alloc (.cells (ouA s2 v2 sq m c2 k2) 32)) := (ab w _).alloc (by simp) _
  have hl1 := h1.len
  have hl2 := h2.len
  by_cases e1 : s1 = s2
  rotate_left
  · rw [decide_eq_false (fun h => e1 h.1)]
    have g1 : (s1 != s2) = true := by simpa using e1
    clear h1 h2 hl1 hl2 e1
    unfold ouA at *
    go_enter Try.func9, Try.ntmps9
    go_wp2_with fail
    go_ret
    exact ⟨rfl, b0⟩
  by_cases e2 : v1 = v2
  rotate_left
  · rw [decide_eq_false (fun h => e2 h.2.1)]
    have g2 : (v1 != v2) = true := by simpa using e2
    subst e1
    clear h1 h2 hl1 hl2 e2
    unfold ouA at *
    go_enter Try.func9, Try.ntmps9
    go_wp2_with fail
    go_ret
    exact ⟨rfl, b0⟩
  by_cases e3 : k1 = k2
  rotate_left
  · rw [decide_eq_false (fun h => e3 h.2.2.1)]
    have g3 : (k1 != k2) = true := by simpa using e3
    subst e1 e2
    clear h1 h2 hl1 hl2 e3
    unfold ouA at *
    go_enter Try.func9, Try.ntmps9
    go_wp2_with fail
    go_ret
    exact ⟨rfl, b0⟩
  by_cases e4 : n = m
  rotate_left
  · rw [decide_eq_false (fun h => e4 (by rw [hl1.out, hl2.out, h.2.2.2]))]
    have g4 : ((n : Int) != (m : Int)) = true := by simp; omega
    subst e1 e2 e3
    clear h1 h2 hl1 hl2 e4
    unfold ouA at *
    go_enter Try.func9, Try.ntmps9
    go_wp2_with fail
    go_ret
    exact ⟨rfl, b0⟩
  subst e1 e2 e3 e4
  obtain ⟨r, hr⟩ : ∃ r, r = decide (s1 = s1 ∧ v1 = v1 ∧ k1 = k1 ∧ L = M) := ⟨_, rfl⟩
  rw [← hr]
  replace hr : Hid (r = decide (L = M)) := hid (by rw [hr]; simp)
  have A1 := (Arr.new w 32 (ouA s1 v1 sp n c1 k1)).alloc (.cells (ouA s1 v1 sq n c2 k1) 32)
  have A2 := Arr.new (w.alloc (.cells (ouA s1 v1 sp n c1 k1) 32)) 32 (ouA s1 v1 sq n c2 k1)
  simp only [World.size_alloc] at A2
  have h1' := h1.bl b0
  have h2' := h2.bl b0
  have hn10 := h1.few
  have q1 := A1.cell 2
  have q2 := A2.cell 2
  unfold ouA at *
  go_enter Try.func9, Try.ntmps9
  go_upto_region 4 with fail
  generalize hU : (w.alloc (.cells #[.int .u8 s1, .int .u64 v1, .slice sp n c1, .int .i64 k1] 32)).alloc (.cells #[.int .u8 s1, .int .u64 v1, .slice sq n c2, .int .i64 k1] 32) = U at *
  go_loopw [5] (fun i wr => ∃ (j : Nat), i = .int .i64 (j : Int) ∧ j ≤ n ∧ Hid (∀ p, wr.cell? p = U.cell? p) ∧ Below w.heap.size w wr ∧ Hid (L.take j = M.take j))
    (fun i _ => n - (intOf i).toNat)
  case atStart => exact ⟨0, rfl, by omega, hid (fun _ => rfl), b0, hid (by simp)⟩
  case round =>
    obtain ⟨j, rfl, hj, hcl, b0', hf⟩ := hrel
    by_cases hlt : j < n
    · obtain ⟨g1, rfl, hg1, hc1⟩ := h1'.at0 (by omega)
      obtain ⟨g2, rfl, hg2, hc2⟩ := h2'.at0 (by omega)
      obtain ⟨x, hx⟩ : ∃ x, L[j]? = some x := ⟨L[j]'(by rw [← hl1.out]; exact hlt), List.getElem?_eq_getElem _⟩
      obtain ⟨y, hy⟩ : ∃ y, M[j]? = some y := ⟨M[j]'(by rw [← hl2.out]; exact hlt), List.getElem?_eq_getElem _⟩
      have d1 : wr.cell? ⟨g1, j, none⟩ = some (.int .u64 x) := (hcl.out _).trans (hc1 j x hx)
      have d2 : wr.cell? ⟨g2, j, none⟩ = some (.int .u64 y) := (hcl.out _).trans (hc2 j y hy)
      have d3 : wr.cell? ⟨w.heap.size, 2, none⟩ = some (.slice (some ⟨g1, 0, none⟩) n c1) := (hcl.out _).trans q1
      have d4 : wr.cell? ⟨w.heap.size + 1, 2, none⟩ = some (.slice (some ⟨g2, 0, none⟩) n c2) := (hcl.out _).trans q2
      have hlt' : (j : Int) < n := by omega
      have h0 : (0 : Int) ≤ j := by omega
      by_cases hxy : x = y
      · subst hxy
        have hf2 : Hid (L.take (j + 1) = M.take (j + 1)) := hid (by rw [List.take_add_one, List.take_add_one, hf.out, hx, hy])
        clear hx hy hc1 hc2 h1 h2 h1' h2' hl1 hl2 A1 A2 q1 q2
        go_upto_region 6 with fail
        go_quiet (fail)
        go_wp2_with fail
        go_roundw
        case rel => exact ⟨j + 1, by go_num, by omega, hid (fun p => hcl.out p), dwN b0' _, hf2⟩
        case measure => simp [intOf]; omega
      · have hrn : Hid (r = false) := hid (by
          rw [hr.out]
          refine decide_eq_false (fun e => hxy ?_)
          rw [e, hy] at hx
          exact (Option.some.inj hx).symm)
        have hxy' : (x != y) = true := by simpa using hxy
        clear hx hy hc1 hc2 h1 h2 h1' h2' hl1 hl2 A1 A2 q1 q2 hxy
        go_upto_region 6 with fail
        go_quiet (fail)
        go_wp2_with fail
        go_ret
        rw [hrn.out]
        exact ⟨rfl, dwN b0' _⟩
    · obtain rfl : j = n := by omega
      have hrn : Hid (r = true) := hid (by
        rw [hr.out]
        refine decide_eq_true ?_
        have h3 := hf.out
        rw [List.take_of_length_le (by rw [← hl1.out]; omega), List.take_of_length_le (by rw [← hl2.out]; omega)] at h3
        exact h3)
      have d3 : wr.cell? ⟨w.heap.size, 2, none⟩ = some (.slice sp j c1) := (hcl.out _).trans q1
      clear h1 h2 h1' h2' hl1 hl2 A1 A2
      go_wp2_with fail
      go_ret
      rw [hrn.out]
      exact ⟨rfl, b0'⟩
end Go.Proofs.Ytmljihggooaboaa
/- Layer interp: the law's own program. -/
namespace Go.Proofs.Ytmljihggooaboaa
open Go.RowKit
set_option maxRecDepth 100000
set_option linter.unusedVariables false
set_option linter.unusedSimpArgs false

def eC (n : Int) : ExT 8 := (⟨1, n, 0, 0, []⟩ : ExN (ExT 7))
def eV : ExT 8 := (⟨2, 0, 0, 0, []⟩ : ExN (ExT 7))
def sA1 : StT 8 := (⟨1, 0, 0, 0, [eC 8], [], []⟩ : StN (StT 7))
def sA2 : StT 8 := (⟨2, 0, 0, 0, [eC 0, eV], [], []⟩ : StN (StT 7))
def fA : FuT := ⟨0, 1, [sA1, sA2]⟩
def pA : PgT := ⟨[fA], 4⟩
def SA (j : Nat) : SS := if j = 0 then ⟨[0, 0, 0, 0], [0], 99⟩ else if j = 1 then ⟨[0, 0, 0, 0], [8], 98⟩ else ⟨[8, 0, 0, 0], [8], 97⟩
theorem mayA : (pgN pA).isSome = true := by rfl
theorem okA1 : okS [] 1 8 sA1 := ⟨4096, 4094, by rfl⟩
theorem okA2 : okS [] 1 8 sA2 := ⟨4096, 4093, by rfl⟩
theorem evA1 : evs [0, 0, 0, 0] [0] 8 [eC 8] = some [8] := by rfl
theorem evA2 : evs [0, 0, 0, 0] [8] 8 [eC 0, eV] = some [0, 8] := by rfl
theorem stA {N gr gw : Nat} {p0 p1 kv mv : Value} (gv j : Nat) (t : StT 8) (u : World) (cs : List Value) (ht : fA.b[j]? = some t) (hN : N ≤ u.heap.size) (hI : StI N gr gw 4 p0 p1 kv mv gv 1 (SA j).W (SA j).V (SA j).lf u) (hM : StM N u 8 cs t) :
    Calls Try.prog 35 (stArgs gr gv 1 cs) u (StP N gr gw 4 p0 p1 kv mv gv 1 ⟨0, 0, SA (j + 1)⟩ u) := by
  match j, ht with
  | 0, ht =>
    obtain rfl : sA1 = t := Option.some.inj ht
    exact stmt_set (k := 98) (ps := []) (x := 8) u hN hI (by omega) hM okA1 (fun p hp => by cases hp) rfl evA1 (by simp [U64])
  | 1, ht =>
    obtain rfl : sA2 = t := Option.some.inj ht
    exact stmt_store (k := 97) (ps := []) (x := 8) (q := 0) u hN hI (by omega) hM okA2 (fun p hp => by cases hp) rfl evA2 (by simp [U64]) (by omega)
  | j + 2, ht => cases ht
/-- The anchor's program as it lies. -/
def wA (w : World) : World := (((w.alloc (.cells #[.int .u8 1, .int .u64 8, .int .i64 0, .int .u8 0, .slice none 0 0] 76)).alloc (.cells #[.int .u8 1, .int .u64 0, .int .i64 0, .int .u8 0, .slice none 0 0, .int .u8 2, .int .u64 0, .int .i64 0, .int .u8 0, .slice none 0 0] 76)).alloc (.cells #[.int .u8 1, .int .i64 0, .int .i64 0, .int .i64 0, .slice (some ⟨w.heap.size, 0, none⟩) 1 1, .slice none 0 0, .slice none 0 0, .int .u8 2, .int .i64 0, .int .i64 0, .int .i64 0, .slice (some ⟨w.heap.size + 1, 0, none⟩) 2 2, .slice none 0 0, .slice none 0 0] 78)).alloc (.cells #[.int .i64 0, .int .i64 1, .slice (some ⟨w.heap.size + 1 + 1, 0, none⟩) 2 2] 52)
theorem rngA {w : World} {g ty : Nat} {C : Array Value} (h : Arr w g ty C) (off : Nat) (cs : List Value) (hc : ∀ j v, cs[j]? = some v → C[off + j]? = some v) : w.rangeAt g off cs := fun j v hv => (h.cell _).trans (hc j v hv)
theorem exA {N : Nat} {w : World} (k n : Int) (hk : U8 k) (hn : U64 n) : ExM N w 8 (exC k n 0 0 (.slice none 0 0)) (⟨k, n, 0, 0, []⟩ : ExN (ExT 7)) :=
  ⟨none, 0, 0, rfl, ⟨hk, hn, (show I64 0 by simp [I64]), (show U8 0 by simp [U8])⟩, RS.nil0 _ _ _ _⟩
theorem pgA (w : World) : PgM (w.heap.size + 4) (wA w) [.slice (some ⟨w.heap.size + 1 + 1 + 1, 0, none⟩) 1 1, .int .i64 4] pA := by
  have A0 := (((Arr.new w 76 #[.int .u8 1, .int .u64 8, .int .i64 0, .int .u8 0, .slice none 0 0]).alloc (.cells #[.int .u8 1, .int .u64 0, .int .i64 0, .int .u8 0, .slice none 0 0, .int .u8 2, .int .u64 0, .int .i64 0, .int .u8 0, .slice none 0 0] 76)).alloc (.cells #[.int .u8 1, .int .i64 0, .int .i64 0, .int .i64 0, .slice (some ⟨w.heap.size, 0, none⟩) 1 1, .slice none 0 0, .slice none 0 0, .int .u8 2, .int .i64 0, .int .i64 0, .int .i64 0, .slice (some ⟨w.heap.size + 1, 0, none⟩) 2 2, .slice none 0 0, .slice none 0 0] 78)).alloc (.cells #[.int .i64 0, .int .i64 1, .slice (some ⟨w.heap.size + 1 + 1, 0, none⟩) 2 2] 52)
  have A1 := ((Arr.new (w.alloc (.cells #[.int .u8 1, .int .u64 8, .int .i64 0, .int .u8 0, .slice none 0 0] 76)) 76 #[.int .u8 1, .int .u64 0, .int .i64 0, .int .u8 0, .slice none 0 0, .int .u8 2, .int .u64 0, .int .i64 0, .int .u8 0, .slice none 0 0]).alloc (.cells #[.int .u8 1, .int .i64 0, .int .i64 0, .int .i64 0, .slice (some ⟨w.heap.size, 0, none⟩) 1 1, .slice none 0 0, .slice none 0 0, .int .u8 2, .int .i64 0, .int .i64 0, .int .i64 0, .slice (some ⟨w.heap.size + 1, 0, none⟩) 2 2, .slice none 0 0, .slice none 0 0] 78)).alloc (.cells #[.int .i64 0, .int .i64 1, .slice (some ⟨w.heap.size + 1 + 1, 0, none⟩) 2 2] 52)
  have A2 := (Arr.new ((w.alloc (.cells #[.int .u8 1, .int .u64 8, .int .i64 0, .int .u8 0, .slice none 0 0] 76)).alloc (.cells #[.int .u8 1, .int .u64 0, .int .i64 0, .int .u8 0, .slice none 0 0, .int .u8 2, .int .u64 0, .int .i64 0, .int .u8 0, .slice none 0 0] 76)) 78 #[.int .u8 1, .int .i64 0, .int .i64 0, .int .i64 0, .slice (some ⟨w.heap.size, 0, none⟩) 1 1, .slice none 0 0, .slice none 0 0, .int .u8 2, .int .i64 0, .int .i64 0, .int .i64 0, .slice (some ⟨w.heap.size + 1, 0, none⟩) 2 2, .slice none 0 0, .slice none 0 0]).alloc (.cells #[.int .i64 0, .int .i64 1, .slice (some ⟨w.heap.size + 1 + 1, 0, none⟩) 2 2] 52)
  have A3 := Arr.new (((w.alloc (.cells #[.int .u8 1, .int .u64 8, .int .i64 0, .int .u8 0, .slice none 0 0] 76)).alloc (.cells #[.int .u8 1, .int .u64 0, .int .i64 0, .int .u8 0, .slice none 0 0, .int .u8 2, .int .u64 0, .int .i64 0, .int .u8 0, .slice none 0 0] 76)).alloc (.cells #[.int .u8 1, .int .i64 0, .int .i64 0, .int .i64 0, .slice (some ⟨w.heap.size, 0, none⟩) 1 1, .slice none 0 0, .slice none 0 0, .int .u8 2, .int .i64 0, .int .i64 0, .int .i64 0, .slice (some ⟨w.heap.size + 1, 0, none⟩) 2 2, .slice none 0 0, .slice none 0 0] 78)) 52 #[.int .i64 0, .int .i64 1, .slice (some ⟨w.heap.size + 1 + 1, 0, none⟩) 2 2]
  simp only [World.size_alloc] at A1 A2 A3
  have hU8 : ∀ x : Int, x = 1 ∨ x = 2 → U8 x := fun x h => by unfold U8; omega
  have x0 : RS (w.heap.size + 4) (wA w) 5 (ExM (w.heap.size + 4) (wA w) 8) (some ⟨w.heap.size, 0, none⟩) 1 1 [eC 8] :=
    ⟨rfl, (fun h => by cases h), by omega, by omega, by omega, fun _ => ⟨_, _, rfl, by omega, fun i a ha => by
      match i, ha with
      | 0, ha =>
        obtain rfl : eC 8 = a := Option.some.inj ha
        exact ⟨exC 1 8 0 0 (.slice none 0 0), rngA A0 _ _ (fun j v hv => by simpa [exC] using hv), exA 1 8 (hU8 1 (.inl rfl)) (by simp [U64])⟩
      | i + 1, ha => cases ha⟩⟩
  have x1 : RS (w.heap.size + 4) (wA w) 5 (ExM (w.heap.size + 4) (wA w) 8) (some ⟨w.heap.size + 1, 0, none⟩) 2 2 [eC 0, eV] :=
    ⟨rfl, (fun h => by cases h), by omega, by omega, by omega, fun _ => ⟨_, _, rfl, by omega, fun i a ha => by
      match i, ha with
      | 0, ha =>
        obtain rfl : eC 0 = a := Option.some.inj ha
        exact ⟨exC 1 0 0 0 (.slice none 0 0), rngA A1 _ _ (fun j v hv => by
          match j, hv with
          | 0, hv => exact hv
          | 1, hv => exact hv
          | 2, hv => exact hv
          | 3, hv => exact hv
          | 4, hv => exact hv
          | j + 5, hv => cases hv), exA 1 0 (hU8 1 (.inl rfl)) (by simp [U64])⟩
      | 1, ha =>
        obtain rfl : eV = a := Option.some.inj ha
        exact ⟨exC 2 0 0 0 (.slice none 0 0), rngA A1 _ _ (fun j v hv => by
          match j, hv with
          | 0, hv => exact hv
          | 1, hv => exact hv
          | 2, hv => exact hv
          | 3, hv => exact hv
          | 4, hv => exact hv
          | j + 5, hv => cases hv), exA 2 0 (hU8 2 (.inr rfl)) (by simp [U64])⟩
      | i + 2, ha => cases ha⟩⟩
  have x2 : RS (w.heap.size + 4) (wA w) 7 (StM (w.heap.size + 4) (wA w) 8) (some ⟨w.heap.size + 1 + 1, 0, none⟩) 2 2 [sA1, sA2] :=
    ⟨rfl, (fun h => by cases h), by omega, by omega, by omega, fun _ => ⟨_, _, rfl, by omega, fun i a ha => by
      match i, ha with
      | 0, ha =>
        obtain rfl : sA1 = a := Option.some.inj ha
        exact ⟨stC 1 0 0 0 (.slice (some ⟨w.heap.size, 0, none⟩) 1 1) (.slice none 0 0) (.slice none 0 0), rngA A2 _ _ (fun j v hv => by
          match j, hv with
          | 0, hv => exact hv
          | 1, hv => exact hv
          | 2, hv => exact hv
          | 3, hv => exact hv
          | 4, hv => exact hv
          | 5, hv => exact hv
          | 6, hv => exact hv
          | j + 7, hv => cases hv), ⟨_, _, _, _, _, _, _, _, _, rfl, ⟨hU8 1 (.inl rfl), (show I64 0 by simp [I64]), (show I64 0 by simp [I64]), (show I64 0 by simp [I64])⟩, x0, RS.nil0 _ _ _ _, RS.nil0 _ _ _ _⟩⟩
      | 1, ha =>
        obtain rfl : sA2 = a := Option.some.inj ha
        exact ⟨stC 2 0 0 0 (.slice (some ⟨w.heap.size + 1, 0, none⟩) 2 2) (.slice none 0 0) (.slice none 0 0), rngA A2 _ _ (fun j v hv => by
          match j, hv with
          | 0, hv => exact hv
          | 1, hv => exact hv
          | 2, hv => exact hv
          | 3, hv => exact hv
          | 4, hv => exact hv
          | 5, hv => exact hv
          | 6, hv => exact hv
          | j + 7, hv => cases hv), ⟨_, _, _, _, _, _, _, _, _, rfl, ⟨hU8 2 (.inr rfl), (show I64 0 by simp [I64]), (show I64 0 by simp [I64]), (show I64 0 by simp [I64])⟩, x1, RS.nil0 _ _ _ _, RS.nil0 _ _ _ _⟩⟩
      | i + 2, ha => cases ha⟩⟩
  exact ⟨_, _, _, rfl, by simp [I64, pA], ⟨rfl, (fun h => by cases h), by omega, by omega, by omega, fun _ => ⟨_, _, rfl, by omega, fun i a ha => by
      match i, ha with
      | 0, ha =>
        obtain rfl : fA = a := Option.some.inj ha
        exact ⟨fuC 0 1 (.slice (some ⟨w.heap.size + 1 + 1, 0, none⟩) 2 2), rngA A3 _ _ (fun j v hv => by
          match j, hv with
          | 0, hv => exact hv
          | 1, hv => exact hv
          | 2, hv => exact hv
          | j + 3, hv => cases hv), ⟨_, _, _, rfl, by simp [I64, fA], x2⟩⟩
      | i + 1, ha => cases ha⟩⟩⟩
theorem runA (w : World) (u : World) (hb : Below (wA w).heap.size (wA w) u) : Calls Try.prog 7 #[.agg #[.slice (some ⟨w.heap.size + 1 + 1 + 1, 0, none⟩) 1 1, .int .i64 4], .slice none 0 0, .slice none 0 0, .int .i64 99] u fun e w' => ∃ gw, e = .returned (.tuple #[.agg #[.int .u8 1, .int .u64 0, .slice (some ⟨gw, 0, none⟩) 4 4, .int .i64 2], .int .i64 0]) ∧ Arr w' gw 30 (uA [8, 0, 0, 0]) ∧ u.heap.size ≤ gw ∧ Below u.heap.size u w' := by
  have hs : w.heap.size + 4 ≤ u.heap.size := by have := hb.size; unfold wA at this; simp at this; omega
  have hM := PgM.below (hb.mono (by unfold wA; simp)) _ pA (pgA w)
  exact run_on (m := 2) (lf := 99) (nv := 1) (l := []) SA u hs hM mayA rfl rfl (by omega) (by omega) rfl (by decide) rfl (fun gr gw p0 p1 kv mv gv j t u cs ht hN hI hM => stA gv j t u cs ht hN hI hM)
end Go.Proofs.Ytmljihggooaboaa
/- Layer interp: the law's own anchor; the law InterpEvals. -/
namespace Go.Proofs.Ytmljihggooaboaa
open Go.RowKit
set_option maxRecDepth 100000
set_option linter.unusedVariables false
set_option linter.unusedSimpArgs false

theorem cellsU {L : List Int} {w : World} {g : Nat} (h : Arr w g 30 (uA L)) : ∀ (i : Nat) (x : Int), L[i]? = some x → w.cell? ⟨g, i, none⟩ = some (.int .u64 x) := fun i x hx => by
  have hi := (List.getElem?_eq_some_iff.1 hx).1
  rw [h.cell, uA_get hi, List.getD_eq_getElem?_getD, hx]
  rfl
set_option maxHeartbeats 2000000 in
theorem anchored_any (w : World) : Calls Try.prog 10 #[] w (BoP true w) := by
  have hrun := runA w
  have bA : Below w.heap.size w (wA w) := by unfold wA; exact (((ab w _).alloc (by simp) _).alloc (by simp; omega) _).alloc (by simp; omega) _
  have b1 : Below (wA w).heap.size (wA w) ((wA w).alloc (.cells #[.slice (some ⟨w.heap.size + 1 + 1 + 1, 0, none⟩) 1 1, .int .i64 4] 24)) := ab _ _
  replace hrun := hrun _ b1
  have B1 := bA.trans (b1.mono bA.size)
  have hm := fun (u : World) => eval_any (op := 7) (x := 3) (y := 4) u (by simp [U64]) (by simp [U64])
  have hd := fun (u : World) => eval_any (op := 8) (x := 1) (y := 0) u (by simp [U64]) (by simp [U64])
  unfold EvP at hm hd
  rw [show evV 7 3 4 = 12 by decide, show evE 7 3 4 = 0 by decide] at hm
  rw [show evV 8 1 0 = 0 by decide, show evE 8 1 0 = 8 by decide] at hd
  have A := Arr.new (wA w) 24 #[.slice (some ⟨w.heap.size + 1 + 1 + 1, 0, none⟩) 1 1, .int .i64 4]
  rw [show (wA w).heap.size = w.heap.size + 1 + 1 + 1 + 1 by unfold wA; simp] at A
  clear b1 bA
  go_enter Try.func10, Try.ntmps10
  go_upto_region 2 with fail
  change Code.wp _ _ _ _ ((wA w).alloc (.cells #[.slice (some ⟨w.heap.size + 1 + 1 + 1, 0, none⟩) 1 1, .int .i64 4] 24))
  generalize hU : ((wA w).alloc (.cells #[.slice (some ⟨w.heap.size + 1 + 1 + 1, 0, none⟩) 1 1, .int .i64 4] 24)) = U at *
  have a0 := A.cell 0
  have a1 := A.cell 1
  clear A hU
  go_upto_region 3 with (go_at_call 7; go_must (refine hrun.mono ?_; rintro e w1 ⟨gw, rfl, hW, hgw, hb1⟩))
  have B2 := (B1.trans (hb1.mono B1.size)).alloc (by have := (B1.trans (hb1.mono B1.size)).size; omega) (.cells #[.int .u8 1, .int .u64 0, .slice (some ⟨gw, 0, none⟩) 4 4, .int .i64 2] 32)
  have O2 := Arr.new w1 32 #[.int .u8 1, .int .u64 0, .slice (some ⟨gw, 0, none⟩) 4 4, .int .i64 2]
  have W2 := hW.alloc (.cells #[.int .u8 1, .int .u64 0, .slice (some ⟨gw, 0, none⟩) 4 4, .int .i64 2] 32)
  generalize hU2 : w1.alloc (.cells #[.int .u8 1, .int .u64 0, .slice (some ⟨gw, 0, none⟩) 4 4, .int .i64 2] 32) = U2 at *
  generalize w1.heap.size = go at *
  have o0 := O2.cell 0
  have o1 := O2.cell 1
  have o2 := O2.cell 2
  have o3 := O2.cell 3
  have M3 := Arr.new U2 30 #[.int .u64 8, .int .u64 0, .int .u64 0, .int .u64 0]
  have hsm := same_any (n := 4) (m := 4) (s1 := 1) (v1 := 0) (k1 := 2) (s2 := 1) (v2 := 0) (k2 := 2) (c1 := 4) (c2 := 4) (L := [8, 0, 0, 0]) (M := [8, 0, 0, 0]) (sp := some ⟨gw, 0, none⟩) (sq := some ⟨U2.heap.size, 0, none⟩) (U2.alloc (.cells #[.int .u64 8, .int .u64 0, .int .u64 0, .int .u64 0] 30))
    ⟨rfl, by omega, fun _ => ⟨gw, rfl, by have := W2.lt; simp; omega, cellsU (W2.alloc _)⟩⟩ ⟨rfl, by omega, fun _ => ⟨_, rfl, by simp, cellsU (L := [8, 0, 0, 0]) M3⟩⟩
  rw [decide_eq_true (by simp)] at hsm
  unfold BoP ouA at hsm
  have B3 := B2.alloc B2.size (.cells #[.int .u64 8, .int .u64 0, .int .u64 0, .int .u64 0] 30)
  clear hW W2 M3 hrun hb1
  go_upto_region 4 with (go_at_call 11; go_must (refine (hm _).mono ?_; rintro e w3 ⟨rfl, h⟩; replace h := h.symm; subst h))
  go_upto_region 5 with (go_at_call 11; go_must (refine (hd _).mono ?_; rintro e w3 ⟨rfl, h⟩; replace h := h.symm; subst h))
  go_wp2_with (go_at_call 9; go_must (refine hsm.mono ?_; rintro e w4 ⟨rfl, hb4⟩))
  go_ret
  exact ⟨rfl, B3.trans (hb4.mono B3.size)⟩
set_option maxHeartbeats 1000000 in
theorem evals_walk (op x y : Int) (w : World) (hx : U64 x) (hy : U64 y) : Calls Try.prog 4 #[.int .u8 op, .int .u64 x, .int .u64 y] w (BoP true w) := by
  have h1 := fun (u : World) => eval_any (op := op) u hx hy
  have h2 := fun (u : World) => refEval_any (op := op) u hx hy
  have h3 := anchored_any w
  unfold EvP at h1 h2
  unfold BoP at h3
  generalize evV op x y = a at *
  generalize evE op x y = b at *
  go_enter Try.func4, Try.ntmps4
  go_wp2_with (first
    | (go_at_call 11; go_must (refine (h1 _).mono ?_; rintro e w1 ⟨rfl, h⟩; replace h := h.symm; subst h))
    | (go_at_call 12; go_must (refine (h2 _).mono ?_; rintro e w1 ⟨rfl, h⟩; replace h := h.symm; subst h))
    | (go_at_call 10; go_must (refine h3.mono ?_; rintro e w2 ⟨rfl, hb2⟩)))
  go_ret
  exact ⟨rfl, hb2⟩
end Go.Proofs.Ytmljihggooaboaa
/- Layer interp: which expressions may be, by the document (pure). -/
namespace Go.Proofs.Ytmljihggooaboaa
open Go.RowKit
set_option maxRecDepth 100000
set_option linter.unusedVariables false
set_option linter.unusedSimpArgs false

def doR : Option Nat → Int
  | some n => n
  | none => -1
def DoP (r : Option Nat) (w : World) (e : Ending) (w' : World) : Prop := e = .returned (.int .i64 (doR r)) ∧ Below w.heap.size w w'
/-- What a kind asks of an expression's own numbers. -/
def fB {α : Type} (vs : Int) (t : ExN α) : Bool :=
  if t.k = 1 then decide (t.v = 0 ∧ t.o = 0) else if t.k = 2 then decide (t.n = 0 ∧ t.o = 0 ∧ 0 ≤ t.v ∧ t.v < vs)
  else if t.k = 3 then decide (t.n = 0 ∧ t.v = 0 ∧ 5 ≤ t.o ∧ t.o ≤ 16) else if t.k = 4 then decide (t.n = 0 ∧ t.v = 0 ∧ t.o = 0) else false
def pN (k : Int) : Int := if k = 3 then 2 else if k = 4 then 1 else 0
theorem mayE_f {α : Type} {vs : Int} {t : ExN α} : mayE vs t = true ↔ fB vs t = true ∧ (t.l.length : Int) = pN t.k := by
  unfold mayE fB pN
  by_cases h1 : t.k = 1
  · simp [h1]
    constructor <;> intro h <;> simp_all
  by_cases h2 : t.k = 2
  · simp [h2]
    constructor <;> intro h <;> simp_all
  by_cases h3 : t.k = 3
  · simp [h3]
    constructor <;> intro h <;> simp_all
  by_cases h4 : t.k = 4
  · simp [h4]
    constructor <;> intro h <;> simp_all
  · simp [h1, h2, h3, h4]
theorem exN_f {vs : Int} {d : Nat} {t : ExT (d + 1)} {n : Nat} (hn : n ≠ 0) : exN vs (d + 1) t n = if fB vs t.nd = true then (if (t.nd.l.length : Int) = pN t.nd.k then fld (exN vs d) t.nd.l (n - 1) else none) else none := by
  have e : exN vs (d + 1) t n = if n = 0 ∨ mayE vs t.nd = false then none else fld (exN vs d) t.nd.l (n - 1) := rfl
  rw [e]
  have hm := mayE_f (vs := vs) (t := t.nd)
  by_cases h1 : fB vs t.nd = true
  · rw [if_pos h1]
    by_cases h2 : (t.nd.l.length : Int) = pN t.nd.k
    · rw [if_pos h2, if_neg]
      rintro (h | h)
      · exact hn h
      · rw [hm.2 ⟨h1, h2⟩] at h; cases h
    · rw [if_neg h2, if_pos]
      right
      cases h3 : mayE vs t.nd with
      | false => rfl
      | true => exact absurd (hm.1 h3).2 h2
  · rw [if_neg h1, if_pos]
    right
    cases h3 : mayE vs t.nd with
    | false => rfl
    | true => exact absurd (hm.1 h3).1 h1
end Go.Proofs.Ytmljihggooaboaa
