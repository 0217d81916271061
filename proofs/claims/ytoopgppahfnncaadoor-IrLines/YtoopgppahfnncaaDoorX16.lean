/- Qd, Qe, Qf, Qa. -/
import Derived.Test.YtoopgppahfnncaaDoorX13
/- Layer ir: expressions are held against each other. -/
namespace Go.Proofs.YtoopgppahfnncaaDoor
open Go.RowKit
set_option maxRecDepth 100000
set_option linter.unusedVariables false
set_option linter.unusedSimpArgs false


theorem take_eq {α : Type} {l l' : List α} {j : Nat} {t : α} (h : l.take j = l'.take j) (h1 : l[j]? = some t) (h2 : l'[j]? = some t) : l.take (j + 1) = l'.take (j + 1) := by
  rw [List.take_add_one, List.take_add_one, h, h1, h2]
theorem bx (p : Prop) : ∃ b : Bool, (b = true ↔ p) := by
  by_cases h : p
  · exact ⟨true, ⟨fun _ => h, fun _ => rfl⟩⟩
  · exact ⟨false, ⟨fun e => (by cases e), fun e => absurd e h⟩⟩
theorem bf {b : Bool} {p : Prop} (h : b = true ↔ p) (hp : ¬ p) : b = false := by
  cases b with
  | false => rfl
  | true => exact absurd (h.1 rfl) hp
theorem bt {b : Bool} {p : Prop} (h : b = true ↔ p) (hp : p) : b = true := h.2 hp
theorem at_take {α : Type} {l l' : List α} (hl : l.length = l'.length) (h : l.take l.length = l'.take l.length) : l = l' := by
  rw [List.take_length, hl, List.take_length] at h; exact h

set_option maxHeartbeats 2000000 in
theorem eq52 {N d : Nat} {sp sp' : Option Addr} {n cap n' cap' : Nat} {l l' : List (ExT d)} (w : World) (hS : RS N w 5 (ExM N w d) sp n cap l) (hS' : RS N w 5 (ExM N w d) sp' n' cap' l') (hN : N ≤ w.heap.size) (b : Bool) (hb : b = true ↔ l = l')
    (hc : ∀ (u : World) (cs cs' : List Value) (t t' : ExT d) (b : Bool), t ∈ l → t' ∈ l' → Below w.heap.size w u → ExM N u d cs t → ExM N u d cs' t' → (b = true ↔ t = t') → Calls Tryd.prog 53 #[.agg cs.toArray, .agg cs'.toArray] u (BoP b u)) :
    Calls Tryd.prog 52 #[.slice sp n cap, .slice sp' n' cap', .func (Fn.func 53) #[] #[]] w (BoP b w) := by
  have hlen := hS.len
  have hlen' := hS'.len
  have hsm := hS.small
  have hsm' := hS'.small
  unfold BoP at hc ⊢
  by_cases hnn : n = n'
  · subst hnn
    have hll : Hid (l.length = l'.length) := hid (hlen.out.symm.trans hlen'.out)
    replace hb := hid hb
    go_enter Tryd.func52, Tryd.ntmps52
    go_upto_region 4 with fail
    go_loopw [17] (fun i wr => ∃ (j : Nat), i = .int .i64 (j : Int) ∧ j ≤ n ∧ Hid (l.take j = l'.take j) ∧ Below w.heap.size w wr)
      (fun i _ => n - (intOf i).toNat)
    case atStart => exact ⟨0, rfl, by omega, hid rfl, Below.refl _ _⟩
    case round =>
      obtain ⟨j, rfl, hj, hf, hbw⟩ := hrel
      by_cases hlt : j < n
      · obtain ⟨t, ht⟩ : ∃ t, l[j]? = some t := ⟨l[j]'(by rw [← hlen.out]; exact hlt), List.getElem?_eq_getElem _⟩
        obtain ⟨t', ht'⟩ : ∃ t, l'[j]? = some t := ⟨l'[j]'(by rw [← hlen'.out]; exact hlt), List.getElem?_eq_getElem _⟩
        obtain ⟨g, off, rfl, hg, hR⟩ := hS.at0 (by omega)
        obtain ⟨g', off', rfl, hg', hR'⟩ := hS'.at0 (by omega)
        obtain ⟨cs, hrg, hM⟩ := hR j t ht
        obtain ⟨cs', hrg', hM'⟩ := hR' j t' ht'
        have hrg2 := rb hrg hbw (by omega)
        have hrg2' := rb hrg' hbw (by omega)
        have hM2 := ExM.below (hbw.mono hN) d _ t hM
        have hM2' := ExM.below (hbw.mono hN) d _ t' hM'
        obtain ⟨ek, en, ev, eo, es, em, ec, rfl⟩ := hM.cells
        obtain ⟨ek', en', ev', eo', es', em', ec', rfl⟩ := hM'.cells
        have c0 := hrg2 0 _ rfl
        have c1 := hrg2 1 _ rfl
        have c2 := hrg2 2 _ rfl
        have c3 := hrg2 3 _ rfl
        have c4 := hrg2 4 _ rfl
        have e0 := hrg2' 0 _ rfl
        have e1 := hrg2' 1 _ rfl
        have e2 := hrg2' 2 _ rfl
        have e3 := hrg2' 3 _ rfl
        have e4 := hrg2' 4 _ rfl
        simp only [Nat.add_zero] at c0 e0
        have hgl := block_lt_of_cell c0
        have hgl' := block_lt_of_cell e0
        have hlt' : (j : Int) < n := by omega
        have h0 : (0 : Int) ≤ j := by omega
        have hB1 := hbw.alloc hbw.size (.cells (exC ek en ev eo (.slice es em ec)).toArray 80)
        have hB2 := hB1.alloc hB1.size (.cells (exC ek' en' ev' eo' (.slice es' em' ec')).toArray 80)
        have hgl2 : g < wr.heap.size + 1 := Nat.lt_succ_of_lt hgl
        have hgl2' : g' < wr.heap.size + 1 := Nat.lt_succ_of_lt hgl'
        obtain ⟨b0, hb0⟩ := bx (t = t')
        have hq := (ab wr (.cells (exC ek en ev eo (.slice es em ec)).toArray 80)).trans ((ab (wr.alloc (.cells (exC ek en ev eo (.slice es em ec)).toArray 80)) (.cells (exC ek' en' ev' eo' (.slice es' em' ec')).toArray 80)).mono (ab wr _).size)
        have hNq : N ≤ wr.heap.size := Nat.le_trans hN hbw.size
        have hcc := hc ((wr.alloc (.cells (exC ek en ev eo (.slice es em ec)).toArray 80)).alloc (.cells (exC ek' en' ev' eo' (.slice es' em' ec')).toArray 80)) _ _ t t' b0 (List.mem_of_getElem? ht) (List.mem_of_getElem? ht') hB2
          (ExM.below (hq.mono hNq) d _ t hM2) (ExM.below (hq.mono hNq) d _ t' hM2') hb0
        have hns : b0 = false → b = false := fun h => bf hb.out (fun e => by
          subst e
          have : t = t' := Option.some.inj (ht.symm.trans ht')
          rw [bt hb0 this] at h; cases h)
        have hys : b0 = true → Hid (l.take (j + 1) = l'.take (j + 1)) := fun h => hid (take_eq hf.out ht (by rw [ht', hb0.1 h]))
        clear hS hS' hR hR' hrg hrg' hrg2 hrg2' hM hM' hM2 hM2' hc hlen hlen' ht ht' hb hb0 hf hll hq hNq
        cases b0 with
        | false =>
          have hbf := hns rfl
          subst hbf
          clear hns hys
          unfold exC at *
          go_wp2_with (go_at_call 53; go_must (refine hcc.mono ?_; rintro e w1 ⟨rfl, hb1⟩))
          go_ret
          exact ⟨rfl, hB2.trans (hb1.mono hB2.size)⟩
        | true =>
          have hy := hys rfl
          clear hns hys
          unfold exC at *
          go_wp2_with (go_at_call 53; go_must (refine hcc.mono ?_; rintro e w1 ⟨rfl, hb1⟩))
          go_roundw
          case rel => exact ⟨j + 1, rfl, by omega, hy, hB2.trans (hb1.mono hB2.size)⟩
          case measure => simp [intOf]; omega
      · obtain rfl : j = n := by omega
        have hbt : b = true := bt hb.out (at_take hll.out (by rw [← hlen.out]; exact hf.out))
        subst hbt
        clear hS hS' hc hf hlen hlen' hb hll
        go_wp2_with fail
        go_ret
        exact ⟨rfl, hbw⟩
  · have hbf : b = false := bf hb (fun e => hnn (by rw [hlen.out, hlen'.out, e]))
    subst hbf
    have hnz : ¬ ((n : Int) = (n' : Int)) := by omega
    clear hS hS' hc hlen hlen' hb
    go_enter Tryd.func52, Tryd.ntmps52
    go_wp2_with fail
    go_ret
    exact ⟨rfl, Below.refl _ _⟩

/-- Two expressions are held against each other. -/
def SX (N : Nat) (d : Nat) : Prop := ∀ (w : World) (cs cs' : List Value) (t t' : ExT d) (vs vs' : Int) (b : Bool), N ≤ w.heap.size → ExM N w d cs t → ExM N w d cs' t' → okT vs d t → okT vs' d t' → (b = true ↔ t = t') → Calls Tryd.prog 53 #[.agg cs.toArray, .agg cs'.toArray] w (BoP b w)
set_option maxHeartbeats 4000000 in
theorem sx_s {N d : Nat} (hE : SX N d) : SX N (d + 1) := by
  intro w cs cs' t t' vs vs' b hN hM hM' hok hok' hb
  obtain ⟨sp, m, cap, rfl, -, hS⟩ := hM
  obtain ⟨sp', m', cap', rfl, -, hS'⟩ := hM'
  obtain ⟨-, -, hl⟩ := hok
  obtain ⟨-, -, hl'⟩ := hok'
  change ExN (ExT d) at t
  change ExN (ExT d) at t'
  obtain ⟨k, nn, v, o, l⟩ := t
  obtain ⟨k', nn', v', o', l'⟩ := t'
  replace hS : RS N w 5 (ExM N w d) sp m cap l := hS
  replace hS' : RS N w 5 (ExM N w d) sp' m' cap' l' := hS'
  replace hl : ∀ a ∈ l, okT vs d a := hl
  replace hl' : ∀ a ∈ l', okT vs' d a := hl'
  show Calls Tryd.prog 53 #[.agg #[.int .u8 k, .int .u64 nn, .int .i64 v, .int .u8 o, .slice sp m cap], .agg #[.int .u8 k', .int .u64 nn', .int .i64 v', .int .u8 o', .slice sp' m' cap']] w (BoP b w)
  replace hb : b = true ↔ (⟨k, nn, v, o, l⟩ : ExN (ExT d)) = ⟨k', nn', v', o', l'⟩ := hb
  rw [ExN.mk.injEq] at hb
  have B1 := ab w (.cells #[.int .u8 k, .int .u64 nn, .int .i64 v, .int .u8 o, .slice sp m cap] 80)
  have B2 := B1.alloc B1.size (.cells #[.int .u8 k', .int .u64 nn', .int .i64 v', .int .u8 o', .slice sp' m' cap'] 80)
  unfold BoP
  by_cases hk : k = k'
  rotate_left
  · have hbf : b = false := bf hb (fun e => hk e.1)
    subst hbf
    clear hb hS hS' hl hl' hE
    go_enter Tryd.func53, Tryd.ntmps53
    go_wp2_with fail
    go_ret
    exact ⟨rfl, B2⟩
  subst hk
  by_cases hnn : nn = nn'
  rotate_left
  · have hbf : b = false := bf hb (fun e => hnn e.2.1)
    subst hbf
    clear hb hS hS' hl hl' hE
    go_enter Tryd.func53, Tryd.ntmps53
    go_wp2_with fail
    go_ret
    exact ⟨rfl, B2⟩
  subst hnn
  by_cases hv : v = v'
  rotate_left
  · have hbf : b = false := bf hb (fun e => hv e.2.2.1)
    subst hbf
    clear hb hS hS' hl hl' hE
    go_enter Tryd.func53, Tryd.ntmps53
    go_wp2_with fail
    go_ret
    exact ⟨rfl, B2⟩
  subst hv
  by_cases ho : o = o'
  rotate_left
  · have hbf : b = false := bf hb (fun e => ho e.2.2.2.1)
    subst hbf
    clear hb hS hS' hl hl' hE
    go_enter Tryd.func53, Tryd.ntmps53
    go_wp2_with fail
    go_ret
    exact ⟨rfl, B2⟩
  subst ho
  have hb2 : b = true ↔ l = l' := ⟨fun e => (hb.1 e).2.2.2.2, fun e => hb.2 ⟨rfl, rfl, rfl, rfl, e⟩⟩
  have h52 := fun (u : World) (hB : Below w.heap.size w u) => eq52 (N := N) (d := d) u (hS.imp (hB.mono hN) (ExM.below (hB.mono hN) d)) (hS'.imp (hB.mono hN) (ExM.below (hB.mono hN) d)) (Nat.le_trans hN hB.size) b hb2
    (fun u' cs cs' t t' b ht ht' hB' hM hM' hb => hE u' cs cs' t t' vs vs' b (Nat.le_trans hN (Nat.le_trans hB.size hB'.size)) hM hM' (hl t ht) (hl' t' ht') hb)
  clear hb hb2 hS hS' hl hl' hE
  unfold BoP at h52
  go_enter Tryd.func53, Tryd.ntmps53
  go_wp2_with (go_at_call 52; go_must (refine (h52 _ B2).mono ?_; rintro e w1 ⟨rfl, hb1⟩))
  go_ret
  exact ⟨rfl, B2.trans (hb1.mono B2.size)⟩
theorem sx_any (N : Nat) : ∀ d, SX N d
  | 0 => fun _ _ _ _ _ _ _ _ _ _ _ h => by cases h
  | d + 1 => sx_s (sx_any N d)
end Go.Proofs.YtoopgppahfnncaaDoor
/- Layer ir: statements are held against each other. -/
namespace Go.Proofs.YtoopgppahfnncaaDoor
open Go.RowKit
set_option maxRecDepth 100000
set_option linter.unusedVariables false
set_option linter.unusedSimpArgs false


theorem StM.cells9 {N : Nat} {w : World} : ∀ {d : Nat} {cs : List Value} {t : StT d}, StM N w d cs t → ∃ k v f t s1 n1 c1 s2 n2 c2 s3 n3 c3, cs = stC k v f t (.slice s1 n1 c1) (.slice s2 n2 c2) (.slice s3 n3 c3)
  | 0, _, _, h => h
  | _ + 1, _, _, h => let ⟨sa, na, ca, sb, nb, cb, sc, nc, cc, h1, _⟩ := h; ⟨_, _, _, _, sa, na, ca, sb, nb, cb, sc, nc, cc, h1⟩

set_option maxHeartbeats 2000000 in
theorem eq38 {N d : Nat} {sp sp' : Option Addr} {n cap n' cap' : Nat} {l l' : List (StT d)} (w : World) (hS : RS N w 7 (StM N w d) sp n cap l) (hS' : RS N w 7 (StM N w d) sp' n' cap' l') (hN : N ≤ w.heap.size) (b : Bool) (hb : b = true ↔ l = l')
    (hc : ∀ (u : World) (cs cs' : List Value) (t t' : StT d) (b : Bool), t ∈ l → t' ∈ l' → Below w.heap.size w u → StM N u d cs t → StM N u d cs' t' → (b = true ↔ t = t') → Calls Tryd.prog 39 #[.agg cs.toArray, .agg cs'.toArray] u (BoP b u)) :
    Calls Tryd.prog 38 #[.slice sp n cap, .slice sp' n' cap', .func (Fn.func 39) #[] #[]] w (BoP b w) := by
  have hlen := hS.len
  have hlen' := hS'.len
  have hsm := hS.small
  have hsm' := hS'.small
  unfold BoP at hc ⊢
  by_cases hnn : n = n'
  · subst hnn
    have hll : Hid (l.length = l'.length) := hid (hlen.out.symm.trans hlen'.out)
    replace hb := hid hb
    go_enter Tryd.func38, Tryd.ntmps38
    go_upto_region 4 with fail
    go_loopw [17] (fun i wr => ∃ (j : Nat), i = .int .i64 (j : Int) ∧ j ≤ n ∧ Hid (l.take j = l'.take j) ∧ Below w.heap.size w wr)
      (fun i _ => n - (intOf i).toNat)
    case atStart => exact ⟨0, rfl, by omega, hid rfl, Below.refl _ _⟩
    case round =>
      obtain ⟨j, rfl, hj, hf, hbw⟩ := hrel
      by_cases hlt : j < n
      · obtain ⟨t, ht⟩ : ∃ t, l[j]? = some t := ⟨l[j]'(by rw [← hlen.out]; exact hlt), List.getElem?_eq_getElem _⟩
        obtain ⟨t', ht'⟩ : ∃ t, l'[j]? = some t := ⟨l'[j]'(by rw [← hlen'.out]; exact hlt), List.getElem?_eq_getElem _⟩
        obtain ⟨g, off, rfl, hg, hR⟩ := hS.at0 (by omega)
        obtain ⟨g', off', rfl, hg', hR'⟩ := hS'.at0 (by omega)
        obtain ⟨cs, hrg, hM⟩ := hR j t ht
        obtain ⟨cs', hrg', hM'⟩ := hR' j t' ht'
        have hrg2 := rb hrg hbw (by omega)
        have hrg2' := rb hrg' hbw (by omega)
        have hM2 := StM.below (hbw.mono hN) d _ t hM
        have hM2' := StM.below (hbw.mono hN) d _ t' hM'
        obtain ⟨ka, kb, kc, kd, s1, n1, p1, s2, n2, p2, s3, n3, p3, rfl⟩ := hM.cells9
        obtain ⟨ka', kb', kc', kd', s1', n1', p1', s2', n2', p2', s3', n3', p3', rfl⟩ := hM'.cells9
        have c0 := hrg2 0 _ rfl
        have c1 := hrg2 1 _ rfl
        have c2 := hrg2 2 _ rfl
        have c3 := hrg2 3 _ rfl
        have c4 := hrg2 4 _ rfl
        have c5 := hrg2 5 _ rfl
        have c6 := hrg2 6 _ rfl
        have e0 := hrg2' 0 _ rfl
        have e1 := hrg2' 1 _ rfl
        have e2 := hrg2' 2 _ rfl
        have e3 := hrg2' 3 _ rfl
        have e4 := hrg2' 4 _ rfl
        have e5 := hrg2' 5 _ rfl
        have e6 := hrg2' 6 _ rfl
        simp only [Nat.add_zero] at c0 e0
        have hgl := block_lt_of_cell c0
        have hgl' := block_lt_of_cell e0
        have hlt' : (j : Int) < n := by omega
        have h0 : (0 : Int) ≤ j := by omega
        have hB1 := hbw.alloc hbw.size (.cells (stC ka kb kc kd (.slice s1 n1 p1) (.slice s2 n2 p2) (.slice s3 n3 p3)).toArray 66)
        have hB2 := hB1.alloc hB1.size (.cells (stC ka' kb' kc' kd' (.slice s1' n1' p1') (.slice s2' n2' p2') (.slice s3' n3' p3')).toArray 66)
        have hgl2 : g < wr.heap.size + 1 := Nat.lt_succ_of_lt hgl
        have hgl2' : g' < wr.heap.size + 1 := Nat.lt_succ_of_lt hgl'
        obtain ⟨b0, hb0⟩ := bx (t = t')
        have hq := (ab wr (.cells (stC ka kb kc kd (.slice s1 n1 p1) (.slice s2 n2 p2) (.slice s3 n3 p3)).toArray 66)).trans ((ab (wr.alloc (.cells (stC ka kb kc kd (.slice s1 n1 p1) (.slice s2 n2 p2) (.slice s3 n3 p3)).toArray 66)) (.cells (stC ka' kb' kc' kd' (.slice s1' n1' p1') (.slice s2' n2' p2') (.slice s3' n3' p3')).toArray 66)).mono (ab wr _).size)
        have hNq : N ≤ wr.heap.size := Nat.le_trans hN hbw.size
        have hcc := hc ((wr.alloc (.cells (stC ka kb kc kd (.slice s1 n1 p1) (.slice s2 n2 p2) (.slice s3 n3 p3)).toArray 66)).alloc (.cells (stC ka' kb' kc' kd' (.slice s1' n1' p1') (.slice s2' n2' p2') (.slice s3' n3' p3')).toArray 66)) _ _ t t' b0 (List.mem_of_getElem? ht) (List.mem_of_getElem? ht') hB2
          (StM.below (hq.mono hNq) d _ t hM2) (StM.below (hq.mono hNq) d _ t' hM2') hb0
        have hns : b0 = false → b = false := fun h => bf hb.out (fun e => by
          subst e
          have : t = t' := Option.some.inj (ht.symm.trans ht')
          rw [bt hb0 this] at h; cases h)
        have hys : b0 = true → Hid (l.take (j + 1) = l'.take (j + 1)) := fun h => hid (take_eq hf.out ht (by rw [ht', hb0.1 h]))
        clear hS hS' hR hR' hrg hrg' hrg2 hrg2' hM hM' hM2 hM2' hc hlen hlen' ht ht' hb hb0 hf hll hq hNq
        cases b0 with
        | false =>
          have hbf := hns rfl
          subst hbf
          clear hns hys
          unfold stC at *
          go_wp2_with (go_at_call 39; go_must (refine hcc.mono ?_; rintro e w1 ⟨rfl, hb1⟩))
          go_ret
          exact ⟨rfl, hB2.trans (hb1.mono hB2.size)⟩
        | true =>
          have hy := hys rfl
          clear hns hys
          unfold stC at *
          go_wp2_with (go_at_call 39; go_must (refine hcc.mono ?_; rintro e w1 ⟨rfl, hb1⟩))
          go_roundw
          case rel => exact ⟨j + 1, rfl, by omega, hy, hB2.trans (hb1.mono hB2.size)⟩
          case measure => simp [intOf]; omega
      · obtain rfl : j = n := by omega
        have hbt : b = true := bt hb.out (at_take hll.out (by rw [← hlen.out]; exact hf.out))
        subst hbt
        clear hS hS' hc hf hlen hlen' hb hll
        go_wp2_with fail
        go_ret
        exact ⟨rfl, hbw⟩
  · have hbf : b = false := bf hb (fun e => hnn (by rw [hlen.out, hlen'.out, e]))
    subst hbf
    have hnz : ¬ ((n : Int) = (n' : Int)) := by omega
    clear hS hS' hc hlen hlen' hb
    go_enter Tryd.func38, Tryd.ntmps38
    go_wp2_with fail
    go_ret
    exact ⟨rfl, Below.refl _ _⟩

/-- Two statements are held against each other. -/
def SY (N : Nat) (d : Nat) : Prop := ∀ (w : World) (cs cs' : List Value) (t t' : StT d) (vs vs' : Int) (b : Bool), N ≤ w.heap.size → StM N w d cs t → StM N w d cs' t' → okS vs d t → okS vs' d t' → (b = true ↔ t = t') → Calls Tryd.prog 39 #[.agg cs.toArray, .agg cs'.toArray] w (BoP b w)
set_option maxHeartbeats 4000000 in
theorem sy_s {N d : Nat} (hE : SY N d) : SY N (d + 1) := by
  intro w cs cs' s s' vs vs' b hN hM hM' hok hok' hb
  obtain ⟨sa, na, ca, sb, nb, cb, sc, nc, cc, rfl, -, hA, hB, hC⟩ := hM
  obtain ⟨sa', na', ca', sb', nb', cb', sc', nc', cc', rfl, -, hA', hB', hC'⟩ := hM'
  obtain ⟨-, -, -, ha, ht, he⟩ := hok
  obtain ⟨-, -, -, ha', ht', he'⟩ := hok'
  change StN (StT d) at s
  change StN (StT d) at s'
  obtain ⟨k, v, f, t, a, th, el⟩ := s
  obtain ⟨k', v', f', t', a', th', el'⟩ := s'
  replace hA : RS N w 5 (ExM N w 8) sa na ca a := hA
  replace hA' : RS N w 5 (ExM N w 8) sa' na' ca' a' := hA'
  replace hB : RS N w 7 (StM N w d) sb nb cb th := hB
  replace hB' : RS N w 7 (StM N w d) sb' nb' cb' th' := hB'
  replace hC : RS N w 7 (StM N w d) sc nc cc el := hC
  replace hC' : RS N w 7 (StM N w d) sc' nc' cc' el' := hC'
  replace ha : ∀ x ∈ a, okT vs 8 x := ha
  replace ha' : ∀ x ∈ a', okT vs' 8 x := ha'
  replace ht : ∀ x ∈ th, okS vs d x := ht
  replace ht' : ∀ x ∈ th', okS vs' d x := ht'
  replace he : ∀ x ∈ el, okS vs d x := he
  replace he' : ∀ x ∈ el', okS vs' d x := he'
  show Calls Tryd.prog 39 #[.agg #[.int .u8 k, .int .i64 v, .int .i64 f, .int .i64 t, .slice sa na ca, .slice sb nb cb, .slice sc nc cc], .agg #[.int .u8 k', .int .i64 v', .int .i64 f', .int .i64 t', .slice sa' na' ca', .slice sb' nb' cb', .slice sc' nc' cc']] w (BoP b w)
  replace hb : b = true ↔ (⟨k, v, f, t, a, th, el⟩ : StN (StT d)) = ⟨k', v', f', t', a', th', el'⟩ := hb
  rw [StN.mk.injEq] at hb
  have B1 := ab w (.cells #[.int .u8 k, .int .i64 v, .int .i64 f, .int .i64 t, .slice sa na ca, .slice sb nb cb, .slice sc nc cc] 66)
  have B2 := B1.alloc B1.size (.cells #[.int .u8 k', .int .i64 v', .int .i64 f', .int .i64 t', .slice sa' na' ca', .slice sb' nb' cb', .slice sc' nc' cc'] 66)
  have A1 := (Arr.new w 66 #[.int .u8 k, .int .i64 v, .int .i64 f, .int .i64 t, .slice sa na ca, .slice sb nb cb, .slice sc nc cc]).alloc (.cells #[.int .u8 k', .int .i64 v', .int .i64 f', .int .i64 t', .slice sa' na' ca', .slice sb' nb' cb', .slice sc' nc' cc'] 66)
  have A2 := Arr.new (w.alloc (.cells #[.int .u8 k, .int .i64 v, .int .i64 f, .int .i64 t, .slice sa na ca, .slice sb nb cb, .slice sc nc cc] 66)) 66 #[.int .u8 k', .int .i64 v', .int .i64 f', .int .i64 t', .slice sa' na' ca', .slice sb' nb' cb', .slice sc' nc' cc']
  simp only [World.size_alloc] at A2
  unfold BoP
  by_cases hwk : k = k'
  rotate_left
  · have hbf : b = false := bf hb (fun e => hwk e.1)
    subst hbf
    clear hb hA hA' hB hB' hC hC' ha ha' ht ht' he he' hE A1 A2
    go_enter Tryd.func39, Tryd.ntmps39
    go_wp2_with fail
    go_ret
    exact ⟨rfl, B2⟩
  subst hwk
  by_cases hwv : v = v'
  rotate_left
  · have hbf : b = false := bf hb (fun e => hwv e.2.1)
    subst hbf
    clear hb hA hA' hB hB' hC hC' ha ha' ht ht' he he' hE A1 A2
    go_enter Tryd.func39, Tryd.ntmps39
    go_wp2_with fail
    go_ret
    exact ⟨rfl, B2⟩
  subst hwv
  by_cases hwf : f = f'
  rotate_left
  · have hbf : b = false := bf hb (fun e => hwf e.2.2.1)
    subst hbf
    clear hb hA hA' hB hB' hC hC' ha ha' ht ht' he he' hE A1 A2
    go_enter Tryd.func39, Tryd.ntmps39
    go_wp2_with fail
    go_ret
    exact ⟨rfl, B2⟩
  subst hwf
  by_cases hwt : t = t'
  rotate_left
  · have hbf : b = false := bf hb (fun e => hwt e.2.2.2.1)
    subst hbf
    clear hb hA hA' hB hB' hC hC' ha ha' ht ht' he he' hE A1 A2
    go_enter Tryd.func39, Tryd.ntmps39
    go_wp2_with fail
    go_ret
    exact ⟨rfl, B2⟩
  subst hwt
  obtain ⟨b1, q1⟩ := bx (a = a')
  obtain ⟨b2, q2⟩ := bx (th = th')
  obtain ⟨b3, q3⟩ := bx (el = el')
  have h1 := fun (u : World) (hq : Below w.heap.size w u) => eq52 (N := N) (d := 8) u (hA.imp (hq.mono hN) (ExM.below (hq.mono hN) 8)) (hA'.imp (hq.mono hN) (ExM.below (hq.mono hN) 8)) (Nat.le_trans hN hq.size) b1 q1
    (fun u' cs cs' t t' b ht ht' hQ hM hM' hb => sx_any N 8 u' cs cs' t t' vs vs' b (Nat.le_trans hN (Nat.le_trans hq.size hQ.size)) hM hM' (ha t ht) (ha' t' ht') hb)
  have h2 := fun (u : World) (hq : Below w.heap.size w u) => eq38 (N := N) (d := d) u (hB.imp (hq.mono hN) (StM.below (hq.mono hN) d)) (hB'.imp (hq.mono hN) (StM.below (hq.mono hN) d)) (Nat.le_trans hN hq.size) b2 q2
    (fun u' cs cs' t t' b hm hm' hQ hM hM' hb => hE u' cs cs' t t' vs vs' b (Nat.le_trans hN (Nat.le_trans hq.size hQ.size)) hM hM' (ht t hm) (ht' t' hm') hb)
  have h3 := fun (u : World) (hq : Below w.heap.size w u) => eq38 (N := N) (d := d) u (hC.imp (hq.mono hN) (StM.below (hq.mono hN) d)) (hC'.imp (hq.mono hN) (StM.below (hq.mono hN) d)) (Nat.le_trans hN hq.size) b3 q3
    (fun u' cs cs' t t' b hm hm' hQ hM hM' hb => hE u' cs cs' t t' vs vs' b (Nat.le_trans hN (Nat.le_trans hq.size hQ.size)) hM hM' (he t hm) (he' t' hm') hb)
  have hb4 : b = (b1 && b2 && b3) := by
    rw [Bool.eq_iff_iff, hb, Bool.and_eq_true, Bool.and_eq_true, q1, q2, q3]
    exact ⟨fun e => ⟨⟨e.2.2.2.2.1, e.2.2.2.2.2.1⟩, e.2.2.2.2.2.2⟩, fun e => ⟨rfl, rfl, rfl, rfl, e.1.1, e.1.2, e.2⟩⟩
  subst hb4
  clear hb q1 q2 q3 hA hA' hB hB' hC hC' ha ha' ht ht' he he' hE
  unfold BoP at h1 h2 h3
  have z1 := A1.cell 5
  have z2 := A1.cell 6
  have z3 := A2.cell 5
  have z4 := A2.cell 6
  have l1 := A1.lt
  have l2 := A2.lt
  clear A1 A2
  obtain ⟨U, hU⟩ : ∃ U, U = (w.alloc (.cells #[.int .u8 k, .int .i64 v, .int .i64 f, .int .i64 t, .slice sa na ca, .slice sb nb cb, .slice sc nc cc] 66)).alloc (.cells #[.int .u8 k, .int .i64 v, .int .i64 f, .int .i64 t, .slice sa' na' ca', .slice sb' nb' cb', .slice sc' nc' cc'] 66) := ⟨_, rfl⟩
  rw [← hU] at z1 z2 z3 z4 l1 l2 B2
  replace hU := hid hU
  have C1 := fun (u : World) (hq : Below U.heap.size U u) => (hq.cell (p := ⟨w.heap.size, 5, none⟩) l1).trans z1
  have C2 := fun (u : World) (hq : Below U.heap.size U u) => (hq.cell (p := ⟨w.heap.size, 6, none⟩) l1).trans z2
  have C3 := fun (u : World) (hq : Below U.heap.size U u) => (hq.cell (p := ⟨w.heap.size + 1, 5, none⟩) l2).trans z3
  have C4 := fun (u : World) (hq : Below U.heap.size U u) => (hq.cell (p := ⟨w.heap.size + 1, 6, none⟩) l2).trans z4
  replace C1 := hid C1
  replace C2 := hid C2
  replace C3 := hid C3
  replace C4 := hid C4
  cases b1
  · go_enter Tryd.func39, Tryd.ntmps39
    go_wp2_with (first
      | (go_at_call 52; go_must (rw [← hU.out]; refine (h1 U B2).mono ?_; rintro e w1 ⟨rfl, d1⟩; have x1 := C1.out w1 d1; have x2 := C2.out w1 d1; have x3 := C3.out w1 d1; have x4 := C4.out w1 d1))
      | (have hgd := d2; clear hgd; go_at_call 38; go_must (refine (h3 _ (B2.trans (d2.mono B2.size))).mono ?_; rintro e w3 ⟨rfl, d3⟩; have d4 := d2.trans (d3.mono d2.size)))
      | (go_at_call 38; go_must (refine (h2 _ (B2.trans (d1.mono B2.size))).mono ?_; rintro e w2 ⟨rfl, d2'⟩; have d2 := d1.trans (d2'.mono d1.size); have x5 := C1.out w2 d2; have x6 := C2.out w2 d2; have x7 := C3.out w2 d2; have x8 := C4.out w2 d2)))
    go_ret
    exact ⟨rfl, B2.trans (d1.mono B2.size)⟩
  cases b2
  · go_enter Tryd.func39, Tryd.ntmps39
    go_wp2_with (first
      | (go_at_call 52; go_must (rw [← hU.out]; refine (h1 U B2).mono ?_; rintro e w1 ⟨rfl, d1⟩; have x1 := C1.out w1 d1; have x2 := C2.out w1 d1; have x3 := C3.out w1 d1; have x4 := C4.out w1 d1))
      | (have hgd := d2; clear hgd; go_at_call 38; go_must (refine (h3 _ (B2.trans (d2.mono B2.size))).mono ?_; rintro e w3 ⟨rfl, d3⟩; have d4 := d2.trans (d3.mono d2.size)))
      | (go_at_call 38; go_must (refine (h2 _ (B2.trans (d1.mono B2.size))).mono ?_; rintro e w2 ⟨rfl, d2'⟩; have d2 := d1.trans (d2'.mono d1.size); have x5 := C1.out w2 d2; have x6 := C2.out w2 d2; have x7 := C3.out w2 d2; have x8 := C4.out w2 d2)))
    go_ret
    exact ⟨rfl, B2.trans (d2.mono B2.size)⟩
  cases b3
  · go_enter Tryd.func39, Tryd.ntmps39
    go_wp2_with (first
      | (go_at_call 52; go_must (rw [← hU.out]; refine (h1 U B2).mono ?_; rintro e w1 ⟨rfl, d1⟩; have x1 := C1.out w1 d1; have x2 := C2.out w1 d1; have x3 := C3.out w1 d1; have x4 := C4.out w1 d1))
      | (have hgd := d2; clear hgd; go_at_call 38; go_must (refine (h3 _ (B2.trans (d2.mono B2.size))).mono ?_; rintro e w3 ⟨rfl, d3⟩; have d4 := d2.trans (d3.mono d2.size)))
      | (go_at_call 38; go_must (refine (h2 _ (B2.trans (d1.mono B2.size))).mono ?_; rintro e w2 ⟨rfl, d2'⟩; have d2 := d1.trans (d2'.mono d1.size); have x5 := C1.out w2 d2; have x6 := C2.out w2 d2; have x7 := C3.out w2 d2; have x8 := C4.out w2 d2)))
    go_ret
    exact ⟨rfl, B2.trans (d4.mono B2.size)⟩
  · go_enter Tryd.func39, Tryd.ntmps39
    go_wp2_with (first
      | (go_at_call 52; go_must (rw [← hU.out]; refine (h1 U B2).mono ?_; rintro e w1 ⟨rfl, d1⟩; have x1 := C1.out w1 d1; have x2 := C2.out w1 d1; have x3 := C3.out w1 d1; have x4 := C4.out w1 d1))
      | (have hgd := d2; clear hgd; go_at_call 38; go_must (refine (h3 _ (B2.trans (d2.mono B2.size))).mono ?_; rintro e w3 ⟨rfl, d3⟩; have d4 := d2.trans (d3.mono d2.size)))
      | (go_at_call 38; go_must (refine (h2 _ (B2.trans (d1.mono B2.size))).mono ?_; rintro e w2 ⟨rfl, d2'⟩; have d2 := d1.trans (d2'.mono d1.size); have x5 := C1.out w2 d2; have x6 := C2.out w2 d2; have x7 := C3.out w2 d2; have x8 := C4.out w2 d2)))
    go_ret
    exact ⟨rfl, B2.trans (d4.mono B2.size)⟩
theorem sy_any (N : Nat) : ∀ d, SY N d
  | 0 => fun _ _ _ _ _ _ _ _ _ _ _ h => by cases h
  | d + 1 => sy_s (sy_any N d)
end Go.Proofs.YtoopgppahfnncaaDoor
/- Layer ir: functions are held against each other. -/
namespace Go.Proofs.YtoopgppahfnncaaDoor
open Go.RowKit
set_option maxRecDepth 100000
set_option linter.unusedVariables false
set_option linter.unusedSimpArgs false


theorem fu_cells {N : Nat} {w : World} {cs : List Value} {f : FuT} (h : FuM N w cs f) : ∃ p v s m c, cs = fuC p v (.slice s m c) := let ⟨sp, m, cap, h1, _, _⟩ := h; ⟨_, _, sp, m, cap, h1⟩

set_option maxHeartbeats 2000000 in
theorem eq27 {N : Nat} {sp sp' : Option Addr} {n cap n' cap' : Nat} {l l' : List (FuT)} (w : World) (hS : RS N w 3 (FuM N w) sp n cap l) (hS' : RS N w 3 (FuM N w) sp' n' cap' l') (hN : N ≤ w.heap.size) (b : Bool) (hb : b = true ↔ l = l')
    (hc : ∀ (u : World) (cs cs' : List Value) (t t' : FuT) (b : Bool), t ∈ l → t' ∈ l' → Below w.heap.size w u → FuM N u cs t → FuM N u cs' t' → (b = true ↔ t = t') → Calls Tryd.prog 28 #[.agg cs.toArray, .agg cs'.toArray] u (BoP b u)) :
    Calls Tryd.prog 27 #[.slice sp n cap, .slice sp' n' cap', .func (Fn.func 28) #[] #[]] w (BoP b w) := by
  have hlen := hS.len
  have hlen' := hS'.len
  have hsm := hS.small
  have hsm' := hS'.small
  unfold BoP at hc ⊢
  by_cases hnn : n = n'
  · subst hnn
    have hll : Hid (l.length = l'.length) := hid (hlen.out.symm.trans hlen'.out)
    replace hb := hid hb
    go_enter Tryd.func27, Tryd.ntmps27
    go_upto_region 4 with fail
    go_loopw [17] (fun i wr => ∃ (j : Nat), i = .int .i64 (j : Int) ∧ j ≤ n ∧ Hid (l.take j = l'.take j) ∧ Below w.heap.size w wr)
      (fun i _ => n - (intOf i).toNat)
    case atStart => exact ⟨0, rfl, by omega, hid rfl, Below.refl _ _⟩
    case round =>
      obtain ⟨j, rfl, hj, hf, hbw⟩ := hrel
      by_cases hlt : j < n
      · obtain ⟨t, ht⟩ : ∃ t, l[j]? = some t := ⟨l[j]'(by rw [← hlen.out]; exact hlt), List.getElem?_eq_getElem _⟩
        obtain ⟨t', ht'⟩ : ∃ t, l'[j]? = some t := ⟨l'[j]'(by rw [← hlen'.out]; exact hlt), List.getElem?_eq_getElem _⟩
        obtain ⟨g, off, rfl, hg, hR⟩ := hS.at0 (by omega)
        obtain ⟨g', off', rfl, hg', hR'⟩ := hS'.at0 (by omega)
        obtain ⟨cs, hrg, hM⟩ := hR j t ht
        obtain ⟨cs', hrg', hM'⟩ := hR' j t' ht'
        have hrg2 := rb hrg hbw (by omega)
        have hrg2' := rb hrg' hbw (by omega)
        have hM2 := FuM.below (hbw.mono hN) _ t hM
        have hM2' := FuM.below (hbw.mono hN) _ t' hM'
        obtain ⟨fp, fv, fs, fm, fc, rfl⟩ := fu_cells hM
        obtain ⟨fp', fv', fs', fm', fc', rfl⟩ := fu_cells hM'
        have c0 := hrg2 0 _ rfl
        have c1 := hrg2 1 _ rfl
        have c2 := hrg2 2 _ rfl
        have e0 := hrg2' 0 _ rfl
        have e1 := hrg2' 1 _ rfl
        have e2 := hrg2' 2 _ rfl
        simp only [Nat.add_zero] at c0 e0
        have hgl := block_lt_of_cell c0
        have hgl' := block_lt_of_cell e0
        have hlt' : (j : Int) < n := by omega
        have h0 : (0 : Int) ≤ j := by omega
        have hB1 := hbw.alloc hbw.size (.cells (fuC fp fv (.slice fs fm fc)).toArray 40)
        have hB2 := hB1.alloc hB1.size (.cells (fuC fp' fv' (.slice fs' fm' fc')).toArray 40)
        have hgl2 : g < wr.heap.size + 1 := Nat.lt_succ_of_lt hgl
        have hgl2' : g' < wr.heap.size + 1 := Nat.lt_succ_of_lt hgl'
        obtain ⟨b0, hb0⟩ := bx (t = t')
        have hq := (ab wr (.cells (fuC fp fv (.slice fs fm fc)).toArray 40)).trans ((ab (wr.alloc (.cells (fuC fp fv (.slice fs fm fc)).toArray 40)) (.cells (fuC fp' fv' (.slice fs' fm' fc')).toArray 40)).mono (ab wr _).size)
        have hNq : N ≤ wr.heap.size := Nat.le_trans hN hbw.size
        have hcc := hc ((wr.alloc (.cells (fuC fp fv (.slice fs fm fc)).toArray 40)).alloc (.cells (fuC fp' fv' (.slice fs' fm' fc')).toArray 40)) _ _ t t' b0 (List.mem_of_getElem? ht) (List.mem_of_getElem? ht') hB2
          (FuM.below (hq.mono hNq) _ t hM2) (FuM.below (hq.mono hNq) _ t' hM2') hb0
        have hns : b0 = false → b = false := fun h => bf hb.out (fun e => by
          subst e
          have : t = t' := Option.some.inj (ht.symm.trans ht')
          rw [bt hb0 this] at h; cases h)
        have hys : b0 = true → Hid (l.take (j + 1) = l'.take (j + 1)) := fun h => hid (take_eq hf.out ht (by rw [ht', hb0.1 h]))
        clear hS hS' hR hR' hrg hrg' hrg2 hrg2' hM hM' hM2 hM2' hc hlen hlen' ht ht' hb hb0 hf hll hq hNq
        cases b0 with
        | false =>
          have hbf := hns rfl
          subst hbf
          clear hns hys
          unfold fuC at *
          go_wp2_with (go_at_call 28; go_must (refine hcc.mono ?_; rintro e w1 ⟨rfl, hb1⟩))
          go_ret
          exact ⟨rfl, hB2.trans (hb1.mono hB2.size)⟩
        | true =>
          have hy := hys rfl
          clear hns hys
          unfold fuC at *
          go_wp2_with (go_at_call 28; go_must (refine hcc.mono ?_; rintro e w1 ⟨rfl, hb1⟩))
          go_roundw
          case rel => exact ⟨j + 1, rfl, by omega, hy, hB2.trans (hb1.mono hB2.size)⟩
          case measure => simp [intOf]; omega
      · obtain rfl : j = n := by omega
        have hbt : b = true := bt hb.out (at_take hll.out (by rw [← hlen.out]; exact hf.out))
        subst hbt
        clear hS hS' hc hf hlen hlen' hb hll
        go_wp2_with fail
        go_ret
        exact ⟨rfl, hbw⟩
  · have hbf : b = false := bf hb (fun e => hnn (by rw [hlen.out, hlen'.out, e]))
    subst hbf
    have hnz : ¬ ((n : Int) = (n' : Int)) := by omega
    clear hS hS' hc hlen hlen' hb
    go_enter Tryd.func27, Tryd.ntmps27
    go_wp2_with fail
    go_ret
    exact ⟨rfl, Below.refl _ _⟩

set_option maxHeartbeats 4000000 in
theorem sf_any {N : Nat} (w : World) (cs cs' : List Value) (t t' : FuT) (b : Bool) (hN : N ≤ w.heap.size) (hM : FuM N w cs t) (hM' : FuM N w cs' t') (hok : okF t) (hok' : okF t') (hb : b = true ↔ t = t') : Calls Tryd.prog 28 #[.agg cs.toArray, .agg cs'.toArray] w (BoP b w) := by
  obtain ⟨sp, m, cap, rfl, -, hS⟩ := hM
  obtain ⟨sp', m', cap', rfl, -, hS'⟩ := hM'
  have hl := hok.b
  have hl' := hok'.b
  obtain ⟨k, v, l⟩ := t
  obtain ⟨k', v', l'⟩ := t'
  simp only at hS hS' hl hl'
  show Calls Tryd.prog 28 #[.agg #[.int .i64 k, .int .i64 v, .slice sp m cap], .agg #[.int .i64 k', .int .i64 v', .slice sp' m' cap']] w (BoP b w)
  rw [FuT.mk.injEq] at hb
  have B1 := ab w (.cells #[.int .i64 k, .int .i64 v, .slice sp m cap] 40)
  have B2 := B1.alloc B1.size (.cells #[.int .i64 k', .int .i64 v', .slice sp' m' cap'] 40)
  unfold BoP
  by_cases hwk : k = k'
  rotate_left
  · have hbf : b = false := bf hb (fun e => hwk e.1)
    subst hbf
    clear hb hS hS' hl hl' hok hok'
    go_enter Tryd.func28, Tryd.ntmps28
    go_wp2_with fail
    go_ret
    exact ⟨rfl, B2⟩
  subst hwk
  by_cases hwv : v = v'
  rotate_left
  · have hbf : b = false := bf hb (fun e => hwv e.2.1)
    subst hbf
    clear hb hS hS' hl hl' hok hok'
    go_enter Tryd.func28, Tryd.ntmps28
    go_wp2_with fail
    go_ret
    exact ⟨rfl, B2⟩
  subst hwv
  have hb2 : b = true ↔ l = l' := ⟨fun e => (hb.1 e).2.2, fun e => hb.2 ⟨rfl, rfl, e⟩⟩
  have h52 := fun (u : World) (hB : Below w.heap.size w u) => eq38 (N := N) (d := 8) u (hS.imp (hB.mono hN) (StM.below (hB.mono hN) 8)) (hS'.imp (hB.mono hN) (StM.below (hB.mono hN) 8)) (Nat.le_trans hN hB.size) b hb2
    (fun u' cs cs' t t' b ht ht' hB' hM hM' hb => sy_any N 8 u' cs cs' t t' v v b (Nat.le_trans hN (Nat.le_trans hB.size hB'.size)) hM hM' (hl t ht) (hl' t' ht') hb)
  clear hb hb2 hS hS' hl hl' hok hok'
  unfold BoP at h52
  go_enter Tryd.func28, Tryd.ntmps28
  go_wp2_with (go_at_call 38; go_must (refine (h52 _ B2).mono ?_; rintro e w1 ⟨rfl, hb1⟩))
  go_ret
  exact ⟨rfl, B2.trans (hb1.mono B2.size)⟩
end Go.Proofs.YtoopgppahfnncaaDoor
/- Layer ir, pure: an expression's text is of one expression alone. -/
namespace Go.Proofs.YtoopgppahfnncaaDoor
open Go.RowKit
set_option maxRecDepth 100000
set_option linter.unusedVariables false
set_option linter.unusedSimpArgs false


/-- What begins with a blank or a line's end. -/
def Dl (r : List UInt8) : Prop := ∃ c s, r = c :: s ∧ (c = 32 ∨ c = 10)
def Wd (l : List UInt8) : Prop := ∀ c ∈ l, c ≠ 32 ∧ c ≠ 10
theorem wd_inj : ∀ {l l' r r' : List UInt8}, Wd l → Wd l' → Dl r → Dl r' → l ++ r = l' ++ r' → l = l' ∧ r = r'
  | [], [], _, _, _, _, _, _, h => ⟨rfl, h⟩
  | [], c :: l', r, r', _, h2, hr, _, h => by
    obtain ⟨d, s, rfl, hd⟩ := hr
    simp only [List.nil_append, List.cons_append, List.cons.injEq] at h
    have := h2 c (List.mem_cons_self ..)
    rw [← h.1] at this
    exact (hd.elim this.1 this.2).elim
  | c :: l, [], r, r', h1, _, _, hr, h => by
    obtain ⟨d, s, rfl, hd⟩ := hr
    simp only [List.nil_append, List.cons_append, List.cons.injEq] at h
    have := h1 c (List.mem_cons_self ..)
    rw [h.1] at this
    exact (hd.elim this.1 this.2).elim
  | c :: l, c' :: l', r, r', h1, h2, hr, hr', h => by
    simp only [List.cons_append, List.cons.injEq] at h
    obtain ⟨rfl, h⟩ := h
    obtain ⟨rfl, e⟩ := wd_inj (fun d hd => h1 d (List.mem_cons_of_mem _ hd)) (fun d hd => h2 d (List.mem_cons_of_mem _ hd)) hr hr' h
    exact ⟨rfl, e⟩
theorem dl32 (s : List UInt8) : Dl (32 :: s) := ⟨32, s, rfl, .inl rfl⟩
theorem dl10 (s : List UInt8) : Dl (10 :: s) := ⟨10, s, rfl, .inr rfl⟩
theorem dd_digit (u : Nat) : ∀ c ∈ Lib.decDigits u, 48 ≤ c.toNat ∧ c.toNat ≤ 57 := by
  induction u using Nat.strongRecOn with
  | _ u ih =>
    intro c hc
    rw [Lib.decDigits] at hc
    split at hc
    · rw [List.mem_singleton] at hc
      subst hc
      rw [UInt8.toNat_ofNat']
      omega
    · rcases List.mem_append.1 hc with hc | hc
      · exact ih (u / 10) (by omega) c hc
      · rw [List.mem_singleton] at hc
        subst hc
        rw [UInt8.toNat_ofNat']
        omega
def dv (l : List UInt8) : Nat := l.foldl (fun a c => a * 10 + (c.toNat - 48)) 0
theorem dv_dd (u : Nat) : dv (Lib.decDigits u) = u := by
  induction u using Nat.strongRecOn with
  | _ u ih =>
    rw [Lib.decDigits]
    split
    · simp only [dv, List.foldl_cons, List.foldl_nil, UInt8.toNat_ofNat']; omega
    · have h := ih (u / 10) (by omega)
      unfold dv at h ⊢
      rw [List.foldl_append, h]
      simp only [List.foldl_cons, List.foldl_nil, UInt8.toNat_ofNat']
      omega
theorem dd_inj {u v : Nat} (h : Lib.decDigits u = Lib.decDigits v) : u = v := by rw [← dv_dd u, ← dv_dd v, h]
theorem dd_head (u : Nat) : ∃ c s, Lib.decDigits u = c :: s ∧ 48 ≤ c.toNat ∧ c.toNat ≤ 57 := by
  cases h : Lib.decDigits u with
  | nil => have := Lib.decDigits_length u; have := Lib.nDigits_pos u; rw [h] at *; simp at *; omega
  | cons c s => exact ⟨c, s, rfl, dd_digit u c (by rw [h]; exact List.mem_cons_self ..)⟩
theorem ne_of_toNat {c d : UInt8} (h : c.toNat ≠ d.toNat) : c ≠ d := fun e => h (by rw [e])
theorem dd_wd (u : Nat) : Wd (Lib.decDigits u) := fun c hc => by
  have := dd_digit u c hc
  exact ⟨ne_of_toNat (by have e : (32 : UInt8).toNat = 32 := rfl; omega), ne_of_toNat (by have e : (10 : UInt8).toNat = 10 := rfl; omega)⟩
theorem io_wd (n : Int) : Wd (Lib.itoa n) := by
  unfold Lib.itoa
  split
  · intro c hc
    rcases List.mem_cons.1 hc with rfl | hc
    · decide
    · exact dd_wd _ c hc
  · exact dd_wd _
theorem io_inj {m n : Int} (h : Lib.itoa m = Lib.itoa n) : m = n := by
  unfold Lib.itoa at h
  split at h
  next h1 =>
    split at h
    next h2 =>
      simp only [List.cons.injEq, true_and] at h
      have := dd_inj h
      omega
    next h2 =>
      obtain ⟨c, s, e, h3, h4⟩ := dd_head n.toNat
      rw [e] at h
      simp only [List.cons.injEq] at h
      rw [← h.1] at h3
      exact absurd h3 (by decide)
  next h1 =>
    split at h
    next h2 =>
      obtain ⟨c, s, e, h3, h4⟩ := dd_head m.toNat
      rw [e] at h
      simp only [List.cons.injEq] at h
      rw [h.1] at h3
      exact absurd h3 (by decide)
    next h2 => have := dd_inj h; omega
theorem sgF : ∀ i j : Fin 12, sgn (5 + (i.val : Int)) = sgn (5 + (j.val : Int)) → i = j := by decide
theorem sgW : ∀ i : Fin 12, ∀ c ∈ sgn (5 + (i.val : Int)), c ≠ 32 ∧ c ≠ 10 := by decide
theorem sg_inj {o o' : Int} (h1 : 5 ≤ o) (h2 : o ≤ 16) (h3 : 5 ≤ o') (h4 : o' ≤ 16) (h : sgn o = sgn o') : o = o' := by
  have e : o = 5 + (((⟨(o - 5).toNat, by omega⟩ : Fin 12).val : Nat) : Int) := by simp; omega
  have e' : o' = 5 + (((⟨(o' - 5).toNat, by omega⟩ : Fin 12).val : Nat) : Int) := by simp; omega
  rw [e, e'] at h
  have := sgF _ _ h
  simp at this
  omega
theorem sg_wd {o : Int} (h1 : 5 ≤ o) (h2 : o ≤ 16) : Wd (sgn o) := by
  have e : o = 5 + (((⟨(o - 5).toNat, by omega⟩ : Fin 12).val : Nat) : Int) := by simp; omega
  rw [e]; exact sgW _
/-- The kind of an expression, out of its text's first byte. -/
def hc : List UInt8 → Int
  | [] => 0
  | c :: _ => if c.toNat = 118 then 2 else if c.toNat = 40 then 3 else if c.toNat = 91 then 4 else if 48 ≤ c.toNat ∧ c.toNat ≤ 57 then 1 else 0
theorem mayE_cases {α : Type} {vs : Int} {t : ExN α} (h : mayE vs t = true) :
    (t.k = 1 ∧ t.l = [] ∧ t.v = 0 ∧ t.o = 0) ∨ (t.k = 2 ∧ t.l = [] ∧ t.n = 0 ∧ t.o = 0) ∨ (t.k = 3 ∧ 5 ≤ t.o ∧ t.o ≤ 16 ∧ (∃ a b, t.l = [a, b]) ∧ t.n = 0 ∧ t.v = 0) ∨ (t.k = 4 ∧ (∃ a, t.l = [a]) ∧ t.n = 0 ∧ t.v = 0 ∧ t.o = 0) := by
  unfold mayE at h
  split at h
  next hk =>
    simp only [decide_eq_true_eq] at h
    exact .inl ⟨hk, List.eq_nil_of_length_eq_zero (by omega), h.2.1, h.2.2⟩
  next =>
    split at h
    next hk =>
      simp only [decide_eq_true_eq] at h
      exact .inr (.inl ⟨hk, List.eq_nil_of_length_eq_zero (by omega), h.2.2.1, h.2.2.2⟩)
    next =>
      split at h
      next hk =>
        simp only [decide_eq_true_eq] at h
        refine .inr (.inr (.inl ⟨hk, h.1, h.2.1, ?_, h.2.2.2.1, h.2.2.2.2⟩))
        match hl : t.l with
        | [] => rw [hl] at h; simp at h
        | [a] => rw [hl] at h; simp at h
        | [a, b] => exact ⟨a, b, rfl⟩
        | a :: b :: c :: r => rw [hl] at h; simp at h; omega
      next =>
        split at h
        next hk =>
          simp only [decide_eq_true_eq] at h
          refine .inr (.inr (.inr ⟨hk, ?_, h.2.1, h.2.2.1, h.2.2.2⟩))
          match hl : t.l with
          | [] => rw [hl] at h; simp at h
          | [a] => exact ⟨a, rfl⟩
          | a :: b :: r => rw [hl] at h; simp at h; omega
        next => cases h
theorem x1 {α : Type} (X : α → List UInt8) (n v o : Int) (l : List α) : xTn X ⟨1, n, v, o, l⟩ = Lib.decDigits n.toNat := by simp [xTn]
theorem x2 {α : Type} (X : α → List UInt8) (n v o : Int) (l : List α) : xTn X ⟨2, n, v, o, l⟩ = 118 :: Lib.itoa v := by simp [xTn]
theorem x3 {α : Type} (X : α → List UInt8) (n v o : Int) (a b : α) (r : List UInt8) : xTn X ⟨3, n, v, o, [a, b]⟩ ++ r = 40 :: 32 :: (X a ++ 32 :: (sgn o ++ 32 :: (X b ++ 32 :: 41 :: r))) := by simp [xTn]
theorem x4 {α : Type} (X : α → List UInt8) (n v o : Int) (a : α) (r : List UInt8) : xTn X ⟨4, n, v, o, [a]⟩ ++ r = 91 :: 32 :: (X a ++ 32 :: 93 :: r) := by simp [xTn]
theorem hc_x {α : Type} (X : α → List UInt8) {vs : Int} (t : ExN α) (h : mayE vs t = true) (r : List UInt8) : hc (xTn X t ++ r) = t.k := by
  obtain ⟨k, n, v, o, l⟩ := t
  rcases mayE_cases h with ⟨h1, h2, -, -⟩ | ⟨h1, h2, -, -⟩ | ⟨h1, -, -, ⟨a, b, h2⟩, -, -⟩ | ⟨h1, ⟨a, h2⟩, -, -, -⟩ <;> simp only at h1 h2 <;> subst h1 <;> subst h2
  · rw [x1]
    obtain ⟨c, s, e, h3, h4⟩ := dd_head n.toNat
    rw [e, List.cons_append]
    show (if c.toNat = 118 then (2 : Int) else if c.toNat = 40 then 3 else if c.toNat = 91 then 4 else if 48 ≤ c.toNat ∧ c.toNat ≤ 57 then 1 else 0) = 1
    rw [if_neg (by omega), if_neg (by omega), if_neg (by omega), if_pos ⟨h3, h4⟩]
  · rw [x2]; rfl
  · rw [x3]; rfl
  · rw [x4]; rfl
theorem xn_inj {α : Type} (X : α → List UInt8) {vs vs' : Int} (t t' : ExN α) (hm : mayE vs t = true) (hm' : mayE vs' t' = true) (hn : 0 ≤ t.n) (hn' : 0 ≤ t'.n)
    (ih : ∀ a ∈ t.l, ∀ a' ∈ t'.l, ∀ r r', Dl r → Dl r' → X a ++ r = X a' ++ r' → a = a' ∧ r = r') (r r' : List UInt8) (hr : Dl r) (hr' : Dl r') (h : xTn X t ++ r = xTn X t' ++ r') : t = t' ∧ r = r' := by
  have hk : t.k = t'.k := by rw [← hc_x X t hm r, ← hc_x X t' hm' r', h]
  obtain ⟨k, n, v, o, l⟩ := t
  obtain ⟨k', n', v', o', l'⟩ := t'
  simp only at hk hn hn'
  subst hk
  rcases mayE_cases hm with ⟨h1, h2, h3, h4⟩ | ⟨h1, h2, h3, h4⟩ | ⟨h1, o1, o2, ⟨a, b, h2⟩, h3, h4⟩ | ⟨h1, ⟨a, h2⟩, h3, h4, h5⟩ <;> simp only at h1 h2 h3 h4
  · rcases mayE_cases hm' with ⟨g1, g2, g3, g4⟩ | ⟨g1, g2, g3, g4⟩ | ⟨g1, p1, p2, ⟨a', b', g2⟩, g3, g4⟩ | ⟨g1, ⟨a', g2⟩, g3, g4, g5⟩ <;> simp only at g1 g2 g3 g4 <;> try omega
    subst h1; subst h2; subst h3; subst h4; subst g2; subst g3; subst g4
    rw [x1, x1] at h
    obtain ⟨e, e2⟩ := wd_inj (dd_wd _) (dd_wd _) hr hr' h
    have := dd_inj e
    obtain rfl : n = n' := by omega
    exact ⟨rfl, e2⟩
  · rcases mayE_cases hm' with ⟨g1, g2, g3, g4⟩ | ⟨g1, g2, g3, g4⟩ | ⟨g1, p1, p2, ⟨a', b', g2⟩, g3, g4⟩ | ⟨g1, ⟨a', g2⟩, g3, g4, g5⟩ <;> simp only at g1 g2 g3 g4 <;> try omega
    subst h1; subst h2; subst h3; subst h4; subst g2; subst g3; subst g4
    rw [x2, x2, List.cons_append, List.cons_append, List.cons.injEq] at h
    obtain ⟨e, e2⟩ := wd_inj (io_wd _) (io_wd _) hr hr' h.2
    obtain rfl := io_inj e
    exact ⟨rfl, e2⟩
  · rcases mayE_cases hm' with ⟨g1, g2, g3, g4⟩ | ⟨g1, g2, g3, g4⟩ | ⟨g1, p1, p2, ⟨a', b', g2⟩, g3, g4⟩ | ⟨g1, ⟨a', g2⟩, g3, g4, g5⟩ <;> simp only at g1 g2 g3 g4 <;> try omega
    subst h1; subst h2; subst h3; subst h4; subst g2; subst g3; subst g4
    rw [x3, x3] at h
    simp only [List.cons.injEq, true_and] at h
    obtain ⟨rfl, ha⟩ := ih a (by simp) a' (by simp) _ _ (dl32 _) (dl32 _) h
    simp only [List.cons.injEq, true_and] at ha
    obtain ⟨e, he⟩ := wd_inj (sg_wd o1 o2) (sg_wd p1 p2) (dl32 _) (dl32 _) ha
    obtain rfl := sg_inj o1 o2 p1 p2 e
    simp only [List.cons.injEq, true_and] at he
    obtain ⟨rfl, hf⟩ := ih b (by simp) b' (by simp) _ _ (dl32 _) (dl32 _) he
    simp only [List.cons.injEq, true_and] at hf
    exact ⟨rfl, hf⟩
  · rcases mayE_cases hm' with ⟨g1, g2, g3, g4⟩ | ⟨g1, g2, g3, g4⟩ | ⟨g1, p1, p2, ⟨a', b', g2⟩, g3, g4⟩ | ⟨g1, ⟨a', g2⟩, g3, g4, g5⟩ <;> simp only at g1 g2 g3 g4 <;> try omega
    simp only at h5 g5
    subst h1; subst h2; subst h3; subst h4; subst h5; subst g2; subst g3; subst g4; subst g5
    rw [x4, x4] at h
    simp only [List.cons.injEq, true_and] at h
    obtain ⟨rfl, ha⟩ := ih a (by simp) a' (by simp) _ _ (dl32 _) (dl32 _) h
    simp only [List.cons.injEq, true_and] at ha
    exact ⟨rfl, ha⟩
theorem x_inj {vs vs' : Int} : ∀ (d : Nat) (t t' : ExT d), okT vs d t → okT vs' d t' → ∀ r r', Dl r → Dl r' → xT d t ++ r = xT d t' ++ r' → t = t' ∧ r = r'
  | 0, _, _, h, _, _, _, _, _, _ => by cases h
  | d + 1, t, t', h, h', r, r', hr, hr', e => xn_inj (xT d) (t : ExN (ExT d)) (t' : ExN (ExT d)) h.1 h'.1 h.2.1.n.1 h'.2.1.n.1 (fun a ha a' ha' => x_inj d a a' (h.2.2 a ha) (h'.2.2 a' ha')) r r' hr hr' e
theorem hc_xT {vs : Int} : ∀ (d : Nat) (t : ExT d), okT vs d t → ∀ r, 1 ≤ hc (xT d t ++ r)
  | 0, _, h, _ => by cases h
  | d + 1, t, h, r => by
    have e := hc_x (xT d) (t : ExN (ExT d)) h.1 r
    show 1 ≤ hc (xTn (xT d) (t : ExN (ExT d)) ++ r)
    rw [e]
    rcases mayE_cases h.1 with ⟨h1, -⟩ | ⟨h1, -⟩ | ⟨h1, -⟩ | ⟨h1, -⟩ <;> (have h2 : ExN.k (α := ExT d) t = _ := h1; omega)
end Go.Proofs.YtoopgppahfnncaaDoor
