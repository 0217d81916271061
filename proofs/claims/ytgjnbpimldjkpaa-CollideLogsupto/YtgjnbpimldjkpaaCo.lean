/- Layer collide: two paths side by side. -/
import Derived.Test.YtgjnbpimldjkpaaCn
namespace Go.Proofs.Ytgjnbpimldjkpaa
open Go.RowKit Go.Shelf
set_option linter.unusedVariables false
set_option linter.unusedSimpArgs false
attribute [local go_sem] Oper.semAt_some

/-- A climber that is not told yet. -/
def z34 : Array Value := (.nilFunc :: .int .i64 0 :: by8 Z32).toArray
theorem CL.whole {w : World} {g : Nat} {m : Int} {X : List Int} (h : CL w g m X) : w.rangeAt g 0 (clm m X) := fun j v hv => by
  rw [Nat.zero_add]
  match j, hv with
  | 0, hv => simp [clm] at hv; subst hv; exact h.c0
  | 1, hv => simp [clm] at hv; subst hv; exact h.c1
  | j + 2, hv =>
    have := h.rg j v (by simpa [clm] using hv)
    rwa [Nat.add_comm 2 j] at this
theorem y64 {ops : Array Oper} {S : World → Prop} {op : Oper} {a : Act} (hw : Region.wanted op (yielded ops a.tmps) = true) (x : Operand) (ho : op.op = .load 64 x)
    (b o : Nat) (hx : a.eval x = .pointer (some ⟨b, o, none⟩)) (m : Int) (X : List Int) (hX : X.length = 32) (hS : ∀ w, S w → w.rangeAt b o (clm m X)) : YieldsIf Try.prog ops S op (.agg (clA m X)) a :=
  yieldsIf_load_mid hw 64 x ho b o hx (clm m X) _ hS Try.underlying64 rfl (by rw [clm_len hX]; exact size64)
set_option maxRecDepth 100000 in
set_option maxHeartbeats 400000 in
theorem side_any (m : Int) (A B : List Int) (sp sp' : Option Addr) (n cap n' cap' : Nat) (w : World) :
    Calls Try.prog 30 #[.agg (clA m A), .slice sp n cap, .agg (clA m B), .slice sp' n' cap'] w fun e w' => e = .returned (.func (Fn.func 46) #[] #[.pointer (some ⟨w.heap.size, 0, none⟩), .pointer (some ⟨w.heap.size + 1 + 1, 0, none⟩), .pointer (some ⟨w.heap.size + 1, 0, none⟩), .pointer (some ⟨w.heap.size + 1 + 1 + 1, 0, none⟩)]) ∧ w' = (((w.alloc (.cells (clA m A) 64)).alloc (.cells #[.slice sp n cap] 30)).alloc (.cells (clA m B) 64)).alloc (.cells #[.slice sp' n' cap'] 30) := by
  have hmf : ∀ (fn : Fn) (first cap : Array Value) (w : World), (Instr.makeFunc fn first cap).run Try.prog w = .ok (.func fn first cap) w := fun _ _ _ _ => rfl
  go_enter Try.func30, Try.ntmps30
  go_wp2
  go_ret
  exact ⟨rfl, rfl⟩
/-- A region's way out, said ahead. -/
theorem cut_reg {m id : Nat} {ops : Array Oper} {b : Bool} {Q : Exit → Act → World → Prop} {a : Act} {w : World} (Post : Act → World → Prop) (h1 : (Code.region id ops b).wpIn Fence.wide m Try.prog (fun e a' w' => e = .normal ∧ Post a' w') a w) (h2 : ∀ a' w', Post a' w' → Q .normal a' w') : (Code.region id ops b).wpIn Fence.wide m Try.prog Q a w :=
  wpIn_mono h1 (fun e a' w' h => by obtain ⟨rfl, h⟩ := h; exact h2 a' w' h)
/-- What the iterator's variables are. -/
structure SI (b1 b2 b3 b4 : Nat) (m : Int) (A B : List Int) (sp sp' : Option Addr) (n cap cap' : Nat) (ls ls' : List (List Int)) (S0 : Nat) (W : World) : Prop where
  c1 : CL W b1 m A
  c2 : CL W b2 m B
  c3 : W.cell? ⟨b3, 0, none⟩ = some (.slice sp n cap)
  c4 : W.cell? ⟨b4, 0, none⟩ = some (.slice sp' n cap')
  s1 : HS S0 W sp n cap ls
  s2 : HS S0 W sp' n cap' ls'
  sz : S0 ≤ W.heap.size
/-- An entry of a path that was just made. -/
structure EP (S0 : Nat) (W : World) (e : En) (L : List Int) : Prop where
  ok : EnOK W.heap.size W e
  ap : ∀ b off, e.sp = some ⟨b, off, none⟩ → S0 ≤ b
  bs : e.bs = L
  sm : e.sm = shl L
theorem step_wantIn {P : Program} {F : Fence} {n : Nat} {ops : Array Oper} {o : Oper} {a : Act} {w : World} {K : Act → World → Prop} {Q : Exit → Act → World → Prop} {E : Prop} (hg : o.guard = none) (h : Oper.wpIn F n P o a w K Q) :
    if Region.wanted o (yielded ops a.tmps) = true then Oper.wpIn F n P o a w K Q else E := by
  rw [if_pos (by simp [Region.wanted, hg])]; exact h
theorem yield_op {k lp : Nat} {o : Oper} {a : Act} {w : World} {K : Act → World → Prop} {Q : Exit → Act → World → Prop} (x y z : Operand) (ts : Array TypeId) (ho : o.op = .call { callee := .value x, args := #[y, z], argTypes := ts }) (hx : a.eval x = .func (.yield lp) #[] #[]) (v u : Value) (hy : a.eval y = v) (hz : a.eval z = u) {R : Ending → World → Prop} (hY : YieldAt Fence.wide (k - 1) Try.prog lp #[v, u] w R) (h : ∀ r W', R r W' → ∃ b, r = .returned b ∧ K (a.put o.dst b) W') : o.wpIn Fence.wide k Try.prog a w K Q := by
  obtain ⟨fn, tmps, assign, body, hr, hR⟩ := hY
  refine ⟨fun _ _ => trivial, ?_⟩
  rw [Oper.semAt_plain _ _ _ (by rw [ho]; intro c hc; cases hc)]
  have he : (execOp a.eval o).run Try.prog w = .ok (.round lp fn tmps assign body) w := by
    unfold execOp
    simp only [ho, resolve, hx, List.map_toArray, List.map_cons, List.map_nil, hy, hz]
    simp [go_sem, hr]
  rw [he]
  refine ⟨(fun h => by cases h), hR.mono ?_⟩
  intro r W' hr
  obtain ⟨b, rfl, hk⟩ := h r W' hr
  exact hk
theorem CL.block {w w' : World} {g : Nat} {m : Int} {X : List Int} (h : CL w g m X) (hb : w'.heap[g]? = w.heap[g]?) : CL w' g m X := by
  refine ⟨(World.cell?_of_block (w := w) (a := ⟨g, 0, none⟩) hb).trans h.c0, (World.cell?_of_block (w := w) (a := ⟨g, 1, none⟩) hb).trans h.c1, fun j v hv => (World.cell?_of_block (w := w) (a := ⟨g, 2 + j, none⟩) hb).trans (h.rg j v hv), fun j hj => ⟨?_, ?_⟩⟩
  · rw [World.cell?_of_block (w := w) (a := ⟨g, 0 + j, none⟩) hb]; exact (h.th j hj).1
  · have h2 := (h.th j hj).2; simp only [World.frozen?] at h2 ⊢; rw [hb]; exact h2
set_option maxRecDepth 100000 in
set_option maxHeartbeats 4000000 in
theorem side_in (k lp S0 b1 b2 b3 b4 m : Nat) (A B : List Int) (sp sp' : Option Addr) (n cap cap' : Nat) (ls ls' : List (List Int)) (hA : A.length = 32) (hB : B.length = 32) (bA : Bts A) (bB : Bts B) (bl : ∀ Y ∈ ls, Bts Y) (bl' : ∀ Y ∈ ls', Bts Y) (hm : m ≤ 9223372036854775807) (hn : n ≤ 16)
    (hb : b1 < S0 ∧ b2 < S0 ∧ b3 < S0 ∧ b4 < S0) (J : Nat → World → Prop) (X : World → Prop)
    (hJ : ∀ j W, J j W → SI b1 b2 b3 b4 m A B sp sp' n cap cap' ls ls' S0 W)
    (hJB : ∀ j W W', J j W → Below S0 W W' → J j W')
    (hY : ∀ j W e f, J j W → (∃ Y, ls[j]? = some Y ∧ EP S0 W e (pb (m / 2 ^ j) (nd m A ls j) Y)) → (∃ Y, ls'[j]? = some Y ∧ EP S0 W f (pb (m / 2 ^ j) (nd m B ls' j) Y)) →
      YieldAt Fence.wide (k - 1) Try.prog lp #[.agg e.arr, .agg f.arr] W fun r W' => (r = .returned (.bool true) ∧ J (j + 1) W' ∧ (∀ b, S0 ≤ b → b < W.heap.size → W'.heap[b]? = W.heap[b]?)) ∨ (r = .returned (.bool false) ∧ X W'))
    (W : World) (h0 : J 0 W) :
    CallsIn Fence.wide k Try.prog 46 #[.func (.yield lp) #[] #[], .pointer (some ⟨b1, 0, none⟩), .pointer (some ⟨b2, 0, none⟩), .pointer (some ⟨b3, 0, none⟩), .pointer (some ⟨b4, 0, none⟩)] W fun e W' => (∃ v, e = .returned v) ∧ (J n W' ∨ X W') := by
  refine callsIn_of_wp Try.func46 rfl trivial ?_ rfl
  simp only [Try.ntmps46, List.size_toArray, List.length_cons, List.length_nil, Nat.reduceAdd, Nat.reduceSub, Array.replicate_succ, Array.replicate_zero, List.push_toArray, List.append_toArray, List.nil_append, List.cons_append]
  obtain ⟨hb1, hb2, hb3, hb4⟩ := hb
  obtain ⟨c1, c2, c3, c4, s1, s2, hsz⟩ := hJ 0 W h0
  have hl := s1.len
  have hl' := s2.len
  gi_wp2
  refine cut_reg (fun a' wc => ∃ ga gb, a' = { tmps := #[.func (.yield lp) #[] #[], .pointer (some ⟨b1, 0, none⟩), .pointer (some ⟨b2, 0, none⟩), .pointer (some ⟨b3, 0, none⟩), .pointer (some ⟨b4, 0, none⟩), undef, .pointer (some ⟨ga, 0, none⟩), .pointer (some ⟨gb, 0, none⟩), undef, undef, .agg (clA m A), .agg (clA m B), undef, undef, undef, undef, undef, undef, undef, undef, undef, undef, undef, undef, undef, undef, undef, undef, undef, undef], defers := [] } ∧ ga ≠ gb ∧ W.heap.size ≤ ga ∧ W.heap.size ≤ gb ∧ Arr wc ga 64 (clA m A) ∧ Arr wc gb 64 (clA m B) ∧ Below W.heap.size W wc) ?reg ?rest
  case reg =>
    refine region_wide (S := fun u => Below W.heap.size W u) (by kernel_rfl) ((Below.refl _ _).drew) (fun hHeld => ?_)
    refine wpAnyH_take (i := 0) (oi := ⟨_, _, _, _, _, _⟩) rfl (by kernel_rfl) (by kernel_rfl) (by kernel_rfl) (fun _ _ _ h => h) (y64 (by rfl) (.tmp 1) rfl (b1) 0 rfl m A hA (fun u hu => range_below (c1.whole) hu (by omega))) (by assumption) ?_
    try simp only [Act.put, List.setIfInBounds_toArray, List.set_cons_zero, List.set_cons_succ]
    refine wpAnyH_take (i := 1) (oi := ⟨_, _, _, _, _, _⟩) rfl (by kernel_rfl) (by kernel_rfl) (by kernel_rfl) (fun _ _ _ h => h) (y64 (by rfl) (.tmp 2) rfl (b2) 0 rfl m B hB (fun u hu => range_below (c2.whole) hu (by omega))) (by assumption) ?_
    try simp only [Act.put, List.setIfInBounds_toArray, List.set_cons_zero, List.set_cons_succ]
    refine wpAnyH_ready (rs := [2, 3]) (by kernel_rfl) (by simp) ?_
    refine AllReadyH.cons (o := ⟨_, _, _, _, _, _⟩) rfl (fun K hK => ?_) (AllReadyH.cons (o := ⟨_, _, _, _, _, _⟩) rfl (fun K hK => ?_) AllReadyH.nil)
    · have hb1 : Below W.heap.size W (W.drew.alloc (.cells z34 64)) := (Below.refl W.heap.size W).drew.alloc (by simp) _
      have ha2 : Arr (W.drew.alloc (.cells z34 64)) W.heap.size 64 z34 := Arr.new W.drew 64 z34
      go_simp
      go_wp2_with fail
      refine hK.out _ _ hb1 (fun hHeld => ?_)
      clear hK K
      try simp only [Act.put, List.setIfInBounds_toArray, List.set_cons_zero, List.set_cons_succ]
      refine wpAnyH_ready (rs := [3]) (by kernel_rfl) (by simp) ?_
      refine AllReadyH.cons (o := ⟨_, _, _, _, _, _⟩) rfl (fun K hK => ?_) AllReadyH.nil
      have hb3 : Below W.heap.size W ((W.drew.alloc (.cells z34 64)).alloc (.cells z34 64)) := hb1.alloc (by simp) _
      have ha4 : Arr ((W.drew.alloc (.cells z34 64)).alloc (.cells z34 64)) (W.heap.size + 1) 64 z34 := by have h := Arr.new (W.drew.alloc (.cells z34 64)) 64 z34; rw [show (W.drew.alloc (.cells z34 64)).heap.size = W.heap.size + 1 by simp] at h; exact h
      have hc5 := Arr.alloc ha2 (.cells z34 64)
      go_simp
      go_wp2_with fail
      refine hK.out _ _ hb3 (fun hHeld => ?_)
      clear hK K
      try simp only [Act.put, List.setIfInBounds_toArray, List.set_cons_zero, List.set_cons_succ]
      refine wpAnyH_ready (rs := [4]) (by kernel_rfl) (by simp) ?_
      refine AllReadyH.cons (o := ⟨_, _, _, _, _, _⟩) rfl (fun K hK => ?_) AllReadyH.nil
      have hb6 : Below W.heap.size W (((W.drew.alloc (.cells z34 64)).alloc (.cells z34 64)).setRow W.heap.size (clA m A)) := below_setRow hb3 (by omega) _
      have ha7 := Arr.setRow hc5 (clA m A)
      have hc8 := Arr.setRowOther ha4 (k := W.heap.size) (clA m A) (by omega)
      refine step_want rfl (wp_store_row 64 (.tmp 6) (.tmp 10) rfl W.heap.size (clA m A) rfl rfl 64 _ hc5 (s64 hA) (clm_sz hA).symm (clm_all _ _) ?_)
      refine hK.out _ _ hb6 (fun hHeld => ?_)
      clear hK K
      try simp only [Act.put, List.setIfInBounds_toArray, List.set_cons_zero, List.set_cons_succ]
      refine wpAnyH_ready (rs := [5]) (by kernel_rfl) (by simp) ?_
      refine AllReadyH.cons (o := ⟨_, _, _, _, _, _⟩) rfl (fun K hK => ?_) AllReadyH.nil
      have hb9 : Below W.heap.size W ((((W.drew.alloc (.cells z34 64)).alloc (.cells z34 64)).setRow W.heap.size (clA m A)).setRow (W.heap.size + 1) (clA m B)) := below_setRow hb6 (by omega) _
      have ha10 := Arr.setRow hc8 (clA m B)
      have hc11 := Arr.setRowOther ha7 (k := (W.heap.size + 1)) (clA m B) (by omega)
      refine step_want rfl (wp_store_row 64 (.tmp 7) (.tmp 11) rfl (W.heap.size + 1) (clA m B) rfl rfl 64 _ hc8 (s64 hB) (clm_sz hB).symm (clm_all _ _) ?_)
      refine hK.out _ _ hb9 (fun hHeld => ?_)
      clear hK K
      try simp only [Act.put, List.setIfInBounds_toArray, List.set_cons_zero, List.set_cons_succ]
      refine wpAnyH_done (by kernel_rfl) ?_ _
      exact ⟨rfl, _, _, rfl, by omega, by omega, by omega, hc11, ha10, hb9⟩
    · have hb12 : Below W.heap.size W (W.drew.alloc (.cells z34 64)) := (Below.refl W.heap.size W).drew.alloc (by simp) _
      have ha13 : Arr (W.drew.alloc (.cells z34 64)) W.heap.size 64 z34 := Arr.new W.drew 64 z34
      go_simp
      go_wp2_with fail
      refine hK.out _ _ hb12 (fun hHeld => ?_)
      clear hK K
      try simp only [Act.put, List.setIfInBounds_toArray, List.set_cons_zero, List.set_cons_succ]
      refine wpAnyH_ready (rs := [2]) (by kernel_rfl) (by simp) ?_
      refine AllReadyH.cons (o := ⟨_, _, _, _, _, _⟩) rfl (fun K hK => ?_) AllReadyH.nil
      have hb14 : Below W.heap.size W ((W.drew.alloc (.cells z34 64)).alloc (.cells z34 64)) := hb12.alloc (by simp) _
      have ha15 : Arr ((W.drew.alloc (.cells z34 64)).alloc (.cells z34 64)) (W.heap.size + 1) 64 z34 := by have h := Arr.new (W.drew.alloc (.cells z34 64)) 64 z34; rw [show (W.drew.alloc (.cells z34 64)).heap.size = W.heap.size + 1 by simp] at h; exact h
      have hc16 := Arr.alloc ha13 (.cells z34 64)
      go_simp
      go_wp2_with fail
      refine hK.out _ _ hb14 (fun hHeld => ?_)
      clear hK K
      try simp only [Act.put, List.setIfInBounds_toArray, List.set_cons_zero, List.set_cons_succ]
      refine wpAnyH_ready (rs := [4]) (by kernel_rfl) (by simp) ?_
      refine AllReadyH.cons (o := ⟨_, _, _, _, _, _⟩) rfl (fun K hK => ?_) AllReadyH.nil
      have hb17 : Below W.heap.size W (((W.drew.alloc (.cells z34 64)).alloc (.cells z34 64)).setRow (W.heap.size + 1) (clA m A)) := below_setRow hb14 (by omega) _
      have ha18 := Arr.setRow ha15 (clA m A)
      have hc19 := Arr.setRowOther hc16 (k := (W.heap.size + 1)) (clA m A) (by omega)
      refine step_want rfl (wp_store_row 64 (.tmp 6) (.tmp 10) rfl (W.heap.size + 1) (clA m A) rfl rfl 64 _ ha15 (s64 hA) (clm_sz hA).symm (clm_all _ _) ?_)
      refine hK.out _ _ hb17 (fun hHeld => ?_)
      clear hK K
      try simp only [Act.put, List.setIfInBounds_toArray, List.set_cons_zero, List.set_cons_succ]
      refine wpAnyH_ready (rs := [5]) (by kernel_rfl) (by simp) ?_
      refine AllReadyH.cons (o := ⟨_, _, _, _, _, _⟩) rfl (fun K hK => ?_) AllReadyH.nil
      have hb20 : Below W.heap.size W ((((W.drew.alloc (.cells z34 64)).alloc (.cells z34 64)).setRow (W.heap.size + 1) (clA m A)).setRow W.heap.size (clA m B)) := below_setRow hb17 (by omega) _
      have ha21 := Arr.setRow hc19 (clA m B)
      have hc22 := Arr.setRowOther ha18 (k := W.heap.size) (clA m B) (by omega)
      refine step_want rfl (wp_store_row 64 (.tmp 7) (.tmp 11) rfl W.heap.size (clA m B) rfl rfl 64 _ hc19 (s64 hB) (clm_sz hB).symm (clm_all _ _) ?_)
      refine hK.out _ _ hb20 (fun hHeld => ?_)
      clear hK K
      try simp only [Act.put, List.setIfInBounds_toArray, List.set_cons_zero, List.set_cons_succ]
      refine wpAnyH_done (by kernel_rfl) ?_ _
      exact ⟨rfl, _, _, rfl, by omega, by omega, by omega, hc22, ha21, hb20⟩

  case rest =>
    rintro a' wc ⟨ga, gb, rfl, hab, hga, hgb, CA, CB, hWc⟩
    have hJ0 := hJB 0 W _ h0 (hWc.mono hsz)
    have hla := CA.lt
    have hlb := CB.lt
    have CA := CL.of_arr CA hA
    have CB := CL.of_arr CB hB
    clear c1 c2 s1 s2
    have c3 := (hJ 0 wc hJ0).c3
    gi_wp2
    gi_loopw [14] (fun d wr => ∃ j : Nat, d = .int .i64 (j : Int) ∧ j ≤ n ∧ J j wr ∧ CL wr ga ((m / 2 ^ j : Nat) : Int) (nd m A ls j) ∧ CL wr gb ((m / 2 ^ j : Nat) : Int) (nd m B ls' j)) (fun d _ => n - (intOf d).toNat)
    case atStart => exact ⟨0, rfl, by omega, hJ0, by simpa [nd] using CA, by simpa [nd] using CB⟩
    case round =>
      obtain ⟨j, rfl, hj, hJj, DA, DB⟩ := hrel
      clear CA CB hJ0 c3 c4 h0
      obtain ⟨-, -, -, c4, s1, s2, hszr⟩ := hJ j wr hJj
      by_cases hlt : j < n
      · have hI : (j : Int) < n := by omega
        obtain ⟨g, off, rfl, hgN, hR⟩ := s1.at0 (by omega)
        obtain ⟨g', off', rfl, hgN', hR'⟩ := s2.at0 (by omega)
        obtain ⟨Y, hY0⟩ : ∃ Y, ls[j]? = some Y := ⟨ls[j]'(by rw [← hl.out]; exact hlt), List.getElem?_eq_getElem _⟩
        obtain ⟨Z, hZ0⟩ : ∃ Y, ls'[j]? = some Y := ⟨ls'[j]'(by rw [← hl'.out]; exact hlt), List.getElem?_eq_getElem _⟩
        have hY32 := s1.l32 Y (List.mem_of_getElem? hY0)
        have hZ32 := s2.l32 Z (List.mem_of_getElem? hZ0)
        have bY := bl Y (List.mem_of_getElem? hY0)
        have bZ := bl' Z (List.mem_of_getElem? hZ0)
        have hRY := hR j Y hY0
        have hRZ := hR' j Z hZ0
        gi_wp2_with (first
          | (refine li24w (by rfl) _ (by rfl) g (off + j * 32) (by rfl) Y hY32 hRY ?_)
          | (refine si24nw (by rfl) _ _ (by rfl) wr wr.heap.size rfl (by rfl) Y (by rfl) (by rfl) hY32 ?_))
        simp only [Act.put]
        have hbV := alloc_bel' wr (.cells (h8 Y) 29)
        have AY := Arr.new wr 29 (h8 Y)
        have hsV : (wr.alloc (.cells (h8 Y) 29)).heap.size = wr.heap.size + 1 := by simp
        have hgar := DA.lt
        have hgbr := DB.lt
        have hnA := Hid.mk' (nd_succ (m := m) (X := A) hY0)
        have hnB := Hid.mk' (nd_succ (m := m) (X := B) hZ0)
        have hdv := Hid.mk' (div_succ m j)
        have hq : m / 2 ^ j ≤ 9223372036854775807 := Nat.le_trans (Nat.div_le_self _ _) hm
        have hXA := nd_len (m := m) (ls := ls) hA j
        have hXB := nd_len (m := m) (ls := ls') hB j
        have bXA := nd_bts (m := m) (ls := ls) bA j
        have bXB := nd_bts (m := m) (ls := ls') bB j
        obtain ⟨q, hqe0⟩ : ∃ q, q = m / 2 ^ j := ⟨_, rfl⟩
        obtain ⟨XA, hXAe0⟩ : ∃ X, X = nd m A ls j := ⟨_, rfl⟩
        obtain ⟨XB, hXBe0⟩ : ∃ X, X = nd m B ls' j := ⟨_, rfl⟩
        rw [← hqe0, ← hXAe0] at DA hnA
        rw [← hqe0, ← hXBe0] at DB hnB
        rw [← hqe0] at hdv hq
        rw [← hXAe0] at hXA bXA
        rw [← hXBe0] at hXB bXB
        have hqe := Hid.mk' hqe0
        have hXAe := Hid.mk' hXAe0
        have hXBe := Hid.mk' hXBe0
        obtain ⟨LA, hLA0⟩ : ∃ L, L = pb q XA Y := ⟨_, rfl⟩
        obtain ⟨LB, hLB0⟩ : ∃ L, L = pb q XB Z := ⟨_, rfl⟩
        rw [← hLA0] at hnA
        rw [← hLB0] at hnB
        have hLA := Hid.mk' hLA0
        have hLB := Hid.mk' hLB0
        clear hqe0 hXAe0 hXBe0 hLA0 hLB0
        have DA0 : CL (wr.alloc (.cells (h8 Y) 29)).drew ga (q : Int) XA := DA.below hbV.drew hgar
        have DB0 : CL (wr.alloc (.cells (h8 Y) 29)).drew gb (q : Int) XB := DB.below hbV.drew hgbr
        have c40 : (wr.alloc (.cells (h8 Y) 29)).drew.cell? ⟨b4, 0, none⟩ = some (.slice (some ⟨g', off', none⟩) n cap') := (hbV.drew.cell (p := ⟨b4, 0, none⟩) (by show b4 < _; omega)).trans c4
        have RZ0 : (wr.alloc (.cells (h8 Y) 29)).drew.rangeAt g' (off' + j * 32) (by8 Z) := range_below hRZ hbV.drew (by omega)
        have RY0 : (wr.alloc (.cells (h8 Y) 29)).drew.rangeAt wr.heap.size 0 (by8 Y) := AY.drew.range
        have hJV : J j (wr.alloc (.cells (h8 Y) 29)).drew := hJB j wr _ hJj (hbV.drew.mono hszr)
        have hsVd : (wr.alloc (.cells (h8 Y) 29)).drew.heap.size = wr.heap.size + 1 := by simp
        replace hY0 := Hid.mk' hY0
        replace hZ0 := Hid.mk' hZ0
        replace hY := Hid.mk' hY
        replace hR := Hid.mk' hR
        replace hR' := Hid.mk' hR'
        replace bl := Hid.mk' bl
        replace bl' := Hid.mk' bl'
        generalize wr.alloc (.cells (h8 Y) 29) = V at *
        have htail0 : ∀ w5 w7 sp5 cp5 sp7 cp7, BS w5.heap.size w5 sp5 65 cp5 LA → (∀ g off, sp5 = some ⟨g, off, none⟩ → V.drew.heap.size ≤ g) → CL w5 ga ((q / 2 : Nat) : Int) (shl LA) → V.drew.grownBy w5 (some ga) → BS w7.heap.size w7 sp7 65 cp7 LB → (∀ g off, sp7 = some ⟨g, off, none⟩ → w5.heap.size ≤ g) → w5.grownBy w7 (some gb) → J j w7 ∧ EP S0 w7 ⟨sp5, 65, cp5, LA, shl LA⟩ LA ∧ EP S0 w7 ⟨sp7, 65, cp7, LB, shl LB⟩ LB ∧ CL w7 ga ((q / 2 : Nat) : Int) (shl LA) := by
          intro w5 w7 sp5 cp5 sp7 cp7 hb5 hg5 DA5 hG5 hb7 hg7 hG7
          have hs5 := hG5.size
          have hs7 := hG7.size
          refine ⟨hJB j V.drew w7 hJV ⟨hG7.os.trans hG5.os, hG7.tape.trans hG5.tape, hG7.output.trans hG5.output, Nat.le_trans hG5.size hG7.size, fun b hb => ?_⟩, ⟨⟨(hb5.grown hG7 (fun b o e => by have := hg5 b o e; omega)).mono hG7.size, shl_len _⟩, (fun b o e => by have := hg5 b o e; omega), rfl, rfl⟩, ⟨⟨hb7, shl_len _⟩, (fun b o e => by have := hg7 b o e; omega), rfl, rfl⟩, DA5.grown hG7 hab⟩
          rw [hG7.block b (by omega) (fun e => by have := Option.some.inj e; omega), hG5.block b (by omega) (fun e => by have := Option.some.inj e; omega)]
        have hfin0 : ∀ W3 w7 : World, CL w7 ga ((q / 2 : Nat) : Int) (shl LA) → CL w7 gb ((q / 2 : Nat) : Int) (shl LB) → (∀ b, S0 ≤ b → b < w7.heap.size → W3.heap[b]? = w7.heap[b]?) → CL W3 ga ((m / 2 ^ (j + 1) : Nat) : Int) (nd m A ls (j + 1)) ∧ CL W3 gb ((m / 2 ^ (j + 1) : Nat) : Int) (nd m B ls' (j + 1)) := by
          intro W3 w7 DA7 DB7 hk
          rw [hdv.out, hnA.out, hnB.out]
          exact ⟨DA7.block (hk ga (by omega) DA7.lt), DB7.block (hk gb (by omega) DB7.lt)⟩
        have htail := fun w5 w7 sp5 cp5 sp7 cp7 h1 h2 h3 h4 h5 h6 h7 => htail0 w5 w7 sp5 cp5 sp7 cp7 h1 h2 h3 h4 h5 h6 h7
        have hfin := fun W3 w7 h1 h2 h3 => hfin0 W3 w7 h1 h2 h3
        clear hJV
        refine cut_reg (fun a' w' => ∃ (e f : En) (r : Bool), a' = { tmps := #[.func (.yield lp) #[] #[], .pointer (some ⟨b1, 0, none⟩), .pointer (some ⟨b2, 0, none⟩), .pointer (some ⟨b3, 0, none⟩), .pointer (some ⟨b4, 0, none⟩), undef, .pointer (some ⟨ga, 0, none⟩), .pointer (some ⟨gb, 0, none⟩), .int .i64 (j : Int), .pointer (some ⟨wr.heap.size, 0, none⟩), .agg (clA m A), .agg (clA m B), .slice (some ⟨g, off, none⟩) n cap, .int .i64 (n : Int), .int .i64 (j : Int), .bool true, .int .i64 (j : Int), .pointer (some ⟨g, off + j * 32, none⟩), .agg (h8 Y), .func (.yield lp) #[] #[], .agg (h8 Y), .agg e.arr, (.slice (some ⟨g', off', none⟩) n cap'), .int .i64 (j : Int), (.pointer (some ⟨g', off' + j * 32, none⟩)), .agg (h8 Z), .agg f.arr, .bool r, .bool (!r), u29], defers := [] } ∧ ((r = true ∧ J (j + 1) w' ∧ CL w' ga ((m / 2 ^ (j + 1) : Nat) : Int) (nd m A ls (j + 1)) ∧ CL w' gb ((m / 2 ^ (j + 1) : Nat) : Int) (nd m B ls' (j + 1))) ∨ (r = false ∧ X w'))) ?reg4 ?rest4
        case reg4 =>
          refine wpIn_region_any (by kernel_rfl) ?_
          show wpAnyIn Fence.wide k Try.prog .any _ _ _ _ _ V.drew
          refine wpAnyIn_take (i := 0) (oi := ⟨_, _, _, _, _, _⟩) (v := ?_) rfl rfl (by kernel_rfl) (by kernel_rfl) (by kernel_rfl) (fun c a w h => by cases h.1) ⟨Or.inl ⟨by rfl, ?_⟩, fun w => by rfl⟩ ?_
          rotate_left
          · intro u
            go_simp
            try (with_reducible rfl)
          try simp only [Act.put, List.setIfInBounds_toArray, List.set_cons_zero, List.set_cons_succ]
          refine wpAnyIn_take (i := 4) (oi := ⟨_, _, _, _, _, _⟩) (v := ?_) rfl rfl (by kernel_rfl) (by kernel_rfl) (by kernel_rfl) (fun c a w h => by cases h.1) ⟨Or.inl ⟨by rfl, ?_⟩, fun w => by rfl⟩ ?_
          rotate_left
          · intro u
            go_simp
            try (with_reducible rfl)
          try simp only [Act.put, List.setIfInBounds_toArray, List.set_cons_zero, List.set_cons_succ]
          refine wpAnyIn_ready (rs := [1, 3]) (by kernel_rfl) (by simp) ?_
          refine AllReadyIn.cons (o := ⟨_, _, _, _, _, _⟩) rfl (fun K hK => ?_) (AllReadyIn.cons (o := ⟨_, _, _, _, _, _⟩) rfl (fun K hK => ?_) (AllReadyIn.nil))
          · refine step_wantIn rfl (opInw (by intro c hc; cases hc) (wp_load_mid 29 (.tmp 9) rfl wr.heap.size 0 rfl (by8 Y) _ RY0 Try.underlying29 rfl (by rw [by8_len, hY32]; exact size24) (hK _ _ ?_)))
            clear hK K
            try simp only [Act.put, List.setIfInBounds_toArray, List.set_cons_zero, List.set_cons_succ]
            refine wpAnyIn_ready (rs := [2, 3]) (by kernel_rfl) (by simp) ?_
            refine AllReadyIn.cons (o := ⟨_, _, _, _, _, _⟩) rfl (fun K hK => ?_) (AllReadyIn.cons (o := ⟨_, _, _, _, _, _⟩) rfl (fun K hK => ?_) (AllReadyIn.nil))
            · refine step_wantIn rfl (opInw (by intro c hc; cases hc) ?_)
              go_simp
              refine (up_any ga q XA Y _ DA0 hXA hY32 bXA bY hq).mono ?_
              rintro rr w5 ⟨sp5, cp5, rfl, hb5, hg5, DA5, hG5⟩
              rw [← hLA.out] at DA5 hb5 ⊢
              have DB5 := DB0.grown hG5 (Ne.symm hab)
              have c45 := (World.cell?_of_block (w := V.drew) (a := ⟨b4, 0, none⟩) (hG5.block b4 (block_lt_of_cell c40) (fun e' => by have := Option.some.inj e'; omega))).trans c40
              have RZ5 : w5.rangeAt g' (off' + j * 32) (by8 Z) := fun x v hv => (World.cell?_of_block (w := V.drew) (a := ⟨g', off' + j * 32 + x, none⟩) (hG5.block g' (block_lt_of_cell (RZ0 x v hv)) (fun e' => by have := Option.some.inj e'; omega))).trans (RZ0 x v hv)
              go_wp2_with fail
              try (refine hK _ _ ?_)
              try clear hK
              try clear K
              try simp only [Act.put, List.setIfInBounds_toArray, List.set_cons_zero, List.set_cons_succ]
              refine wpAnyIn_ready (rs := [3]) (by kernel_rfl) (by simp) ?_
              refine AllReadyIn.cons (o := ⟨_, _, _, _, _, _⟩) rfl (fun K hK => ?_) (AllReadyIn.nil)
              refine step_wantIn rfl (opInw (by intro c hc; cases hc) ?_)
              have cc := c45
              go_simp
              go_wp2_with fail
              try (refine hK _ _ ?_)
              try clear hK
              try clear K
              clear cc
              try simp only [Act.put, List.setIfInBounds_toArray, List.set_cons_zero, List.set_cons_succ]
              refine wpAnyIn_take (i := 5) (oi := ⟨_, _, _, _, _, _⟩) (v := ?_) rfl rfl (by kernel_rfl) (by kernel_rfl) (by kernel_rfl) (fun c a w h => by cases h.1) ⟨Or.inl ⟨by rfl, ?_⟩, fun w => by rfl⟩ ?_
              rotate_left
              · intro u
                go_simp
                try (with_reducible rfl)
              try simp only [Act.put, List.setIfInBounds_toArray, List.set_cons_zero, List.set_cons_succ]
              refine wpAnyIn_ready (rs := [6]) (by kernel_rfl) (by simp) ?_
              refine AllReadyIn.cons (o := ⟨_, _, _, _, _, _⟩) rfl (fun K hK => ?_) (AllReadyIn.nil)
              refine step_wantIn rfl (opInw (by intro c hc; cases hc) (wp_load_mid 29 (.tmp 24) rfl g' (off' + j * 32) rfl (by8 Z) _ RZ5 Try.underlying29 rfl (by rw [by8_len, hZ32]; exact size24) (hK _ _ ?_)))
              clear hK K
              try simp only [Act.put, List.setIfInBounds_toArray, List.set_cons_zero, List.set_cons_succ]
              refine wpAnyIn_ready (rs := [7]) (by kernel_rfl) (by simp) ?_
              refine AllReadyIn.cons (o := ⟨_, _, _, _, _, _⟩) rfl (fun K hK => ?_) AllReadyIn.nil
              refine step_wantIn rfl (opInw (by intro c hc; cases hc) ?_)
              go_simp
              refine (up_any gb q XB Z _ DB5 hXB hZ32 bXB bZ hq).mono ?_
              rintro rr w7 ⟨sp7, cp7, rfl, hb7, hg7, DB7, hG7⟩
              rw [← hLB.out] at DB7 hb7 ⊢
              obtain ⟨hJ7, hE7, hF7, DA7⟩ := htail w5 w7 sp5 cp5 sp7 cp7 hb5 hg5 DA5 hG5 hb7 hg7 hG7
              have hYY := hY.out j w7 ⟨sp5, 65, cp5, LA, shl LA⟩ ⟨sp7, 65, cp7, LB, shl LB⟩ hJ7 ⟨Y, hY0.out, by rw [← hqe.out, ← hXAe.out, ← hLA.out]; exact hE7⟩ ⟨Z, hZ0.out, by rw [← hqe.out, ← hXBe.out, ← hLB.out]; exact hF7⟩
              go_wp2_with fail
              try (refine hK _ _ ?_)
              try clear hK
              try clear K
              try simp only [Act.put, List.setIfInBounds_toArray, List.set_cons_zero, List.set_cons_succ]
              refine wpAnyIn_ready (rs := [8]) (by kernel_rfl) (by simp) ?_
              refine AllReadyIn.cons (o := ⟨_, _, _, _, _, _⟩) rfl (fun K hK => ?_) AllReadyIn.nil
              refine step_wantIn rfl (yield_op (.tmp 19) (.tmp 21) (.tmp 26) _ rfl rfl _ _ rfl rfl hYY ?_)
              rintro rr W3 (⟨rfl, hJ3, hk3⟩ | ⟨rfl, hX3⟩)
              · refine ⟨_, rfl, hK _ _ ?_⟩
                clear hK K
                try simp only [Act.put, List.setIfInBounds_toArray, List.set_cons_zero, List.set_cons_succ]
                refine wpAnyIn_take (i := 9) (oi := ⟨_, _, _, _, _, _⟩) (v := ?_) rfl rfl (by kernel_rfl) (by kernel_rfl) (by kernel_rfl) (fun c a w h => by cases h.1) ⟨Or.inl ⟨by rfl, ?_⟩, fun w => by rfl⟩ ?_
                rotate_left
                · intro u
                  go_simp
                  try (with_reducible rfl)
                try simp only [Act.put, List.setIfInBounds_toArray, List.set_cons_zero, List.set_cons_succ]
                refine wpAnyIn_done (by kernel_rfl) ?_ _
                refine ⟨rfl, ⟨sp5, 65, cp5, LA, shl LA⟩, ⟨sp7, 65, cp7, LB, shl LB⟩, true, rfl, .inl ⟨rfl, hJ3, hfin W3 w7 DA7 DB7 hk3⟩⟩
              · refine ⟨_, rfl, hK _ _ ?_⟩
                clear hK K
                try simp only [Act.put, List.setIfInBounds_toArray, List.set_cons_zero, List.set_cons_succ]
                refine wpAnyIn_take (i := 9) (oi := ⟨_, _, _, _, _, _⟩) (v := ?_) rfl rfl (by kernel_rfl) (by kernel_rfl) (by kernel_rfl) (fun c a w h => by cases h.1) ⟨Or.inl ⟨by rfl, ?_⟩, fun w => by rfl⟩ ?_
                rotate_left
                · intro u
                  go_simp
                  try (with_reducible rfl)
                try simp only [Act.put, List.setIfInBounds_toArray, List.set_cons_zero, List.set_cons_succ]
                refine wpAnyIn_done (by kernel_rfl) ?_ _
                exact ⟨rfl, ⟨sp5, 65, cp5, LA, shl LA⟩, ⟨sp7, 65, cp7, LB, shl LB⟩, false, rfl, .inr ⟨rfl, hX3⟩⟩
            · refine step_wantIn rfl (opInw (by intro c hc; cases hc) ?_)
              have cc := c40
              go_simp
              go_wp2_with fail
              try (refine hK _ _ ?_)
              try clear hK
              try clear K
              clear cc
              try simp only [Act.put, List.setIfInBounds_toArray, List.set_cons_zero, List.set_cons_succ]
              refine wpAnyIn_take (i := 5) (oi := ⟨_, _, _, _, _, _⟩) (v := ?_) rfl rfl (by kernel_rfl) (by kernel_rfl) (by kernel_rfl) (fun c a w h => by cases h.1) ⟨Or.inl ⟨by rfl, ?_⟩, fun w => by rfl⟩ ?_
              rotate_left
              · intro u
                go_simp
                try (with_reducible rfl)
              try simp only [Act.put, List.setIfInBounds_toArray, List.set_cons_zero, List.set_cons_succ]
              refine wpAnyIn_ready (rs := [2, 6]) (by kernel_rfl) (by simp) ?_
              refine AllReadyIn.cons (o := ⟨_, _, _, _, _, _⟩) rfl (fun K hK => ?_) (AllReadyIn.cons (o := ⟨_, _, _, _, _, _⟩) rfl (fun K hK => ?_) (AllReadyIn.nil))
              · refine step_wantIn rfl (opInw (by intro c hc; cases hc) ?_)
                go_simp
                refine (up_any ga q XA Y _ DA0 hXA hY32 bXA bY hq).mono ?_
                rintro rr w5 ⟨sp5, cp5, rfl, hb5, hg5, DA5, hG5⟩
                rw [← hLA.out] at DA5 hb5 ⊢
                have DB5 := DB0.grown hG5 (Ne.symm hab)
                have c45 := (World.cell?_of_block (w := V.drew) (a := ⟨b4, 0, none⟩) (hG5.block b4 (block_lt_of_cell c40) (fun e' => by have := Option.some.inj e'; omega))).trans c40
                have RZ5 : w5.rangeAt g' (off' + j * 32) (by8 Z) := fun x v hv => (World.cell?_of_block (w := V.drew) (a := ⟨g', off' + j * 32 + x, none⟩) (hG5.block g' (block_lt_of_cell (RZ0 x v hv)) (fun e' => by have := Option.some.inj e'; omega))).trans (RZ0 x v hv)
                go_wp2_with fail
                try (refine hK _ _ ?_)
                try clear hK
                try clear K
                try simp only [Act.put, List.setIfInBounds_toArray, List.set_cons_zero, List.set_cons_succ]
                refine wpAnyIn_ready (rs := [6]) (by kernel_rfl) (by simp) ?_
                refine AllReadyIn.cons (o := ⟨_, _, _, _, _, _⟩) rfl (fun K hK => ?_) (AllReadyIn.nil)
                refine step_wantIn rfl (opInw (by intro c hc; cases hc) (wp_load_mid 29 (.tmp 24) rfl g' (off' + j * 32) rfl (by8 Z) _ RZ5 Try.underlying29 rfl (by rw [by8_len, hZ32]; exact size24) (hK _ _ ?_)))
                clear hK K
                try simp only [Act.put, List.setIfInBounds_toArray, List.set_cons_zero, List.set_cons_succ]
                refine wpAnyIn_ready (rs := [7]) (by kernel_rfl) (by simp) ?_
                refine AllReadyIn.cons (o := ⟨_, _, _, _, _, _⟩) rfl (fun K hK => ?_) AllReadyIn.nil
                refine step_wantIn rfl (opInw (by intro c hc; cases hc) ?_)
                go_simp
                refine (up_any gb q XB Z _ DB5 hXB hZ32 bXB bZ hq).mono ?_
                rintro rr w7 ⟨sp7, cp7, rfl, hb7, hg7, DB7, hG7⟩
                rw [← hLB.out] at DB7 hb7 ⊢
                obtain ⟨hJ7, hE7, hF7, DA7⟩ := htail w5 w7 sp5 cp5 sp7 cp7 hb5 hg5 DA5 hG5 hb7 hg7 hG7
                have hYY := hY.out j w7 ⟨sp5, 65, cp5, LA, shl LA⟩ ⟨sp7, 65, cp7, LB, shl LB⟩ hJ7 ⟨Y, hY0.out, by rw [← hqe.out, ← hXAe.out, ← hLA.out]; exact hE7⟩ ⟨Z, hZ0.out, by rw [← hqe.out, ← hXBe.out, ← hLB.out]; exact hF7⟩
                go_wp2_with fail
                try (refine hK _ _ ?_)
                try clear hK
                try clear K
                try simp only [Act.put, List.setIfInBounds_toArray, List.set_cons_zero, List.set_cons_succ]
                refine wpAnyIn_ready (rs := [8]) (by kernel_rfl) (by simp) ?_
                refine AllReadyIn.cons (o := ⟨_, _, _, _, _, _⟩) rfl (fun K hK => ?_) AllReadyIn.nil
                refine step_wantIn rfl (yield_op (.tmp 19) (.tmp 21) (.tmp 26) _ rfl rfl _ _ rfl rfl hYY ?_)
                rintro rr W3 (⟨rfl, hJ3, hk3⟩ | ⟨rfl, hX3⟩)
                · refine ⟨_, rfl, hK _ _ ?_⟩
                  clear hK K
                  try simp only [Act.put, List.setIfInBounds_toArray, List.set_cons_zero, List.set_cons_succ]
                  refine wpAnyIn_take (i := 9) (oi := ⟨_, _, _, _, _, _⟩) (v := ?_) rfl rfl (by kernel_rfl) (by kernel_rfl) (by kernel_rfl) (fun c a w h => by cases h.1) ⟨Or.inl ⟨by rfl, ?_⟩, fun w => by rfl⟩ ?_
                  rotate_left
                  · intro u
                    go_simp
                    try (with_reducible rfl)
                  try simp only [Act.put, List.setIfInBounds_toArray, List.set_cons_zero, List.set_cons_succ]
                  refine wpAnyIn_done (by kernel_rfl) ?_ _
                  refine ⟨rfl, ⟨sp5, 65, cp5, LA, shl LA⟩, ⟨sp7, 65, cp7, LB, shl LB⟩, true, rfl, .inl ⟨rfl, hJ3, hfin W3 w7 DA7 DB7 hk3⟩⟩
                · refine ⟨_, rfl, hK _ _ ?_⟩
                  clear hK K
                  try simp only [Act.put, List.setIfInBounds_toArray, List.set_cons_zero, List.set_cons_succ]
                  refine wpAnyIn_take (i := 9) (oi := ⟨_, _, _, _, _, _⟩) (v := ?_) rfl rfl (by kernel_rfl) (by kernel_rfl) (by kernel_rfl) (fun c a w h => by cases h.1) ⟨Or.inl ⟨by rfl, ?_⟩, fun w => by rfl⟩ ?_
                  rotate_left
                  · intro u
                    go_simp
                    try (with_reducible rfl)
                  try simp only [Act.put, List.setIfInBounds_toArray, List.set_cons_zero, List.set_cons_succ]
                  refine wpAnyIn_done (by kernel_rfl) ?_ _
                  exact ⟨rfl, ⟨sp5, 65, cp5, LA, shl LA⟩, ⟨sp7, 65, cp7, LB, shl LB⟩, false, rfl, .inr ⟨rfl, hX3⟩⟩
              · refine step_wantIn rfl (opInw (by intro c hc; cases hc) (wp_load_mid 29 (.tmp 24) rfl g' (off' + j * 32) rfl (by8 Z) _ RZ0 Try.underlying29 rfl (by rw [by8_len, hZ32]; exact size24) (hK _ _ ?_)))
                clear hK K
                try simp only [Act.put, List.setIfInBounds_toArray, List.set_cons_zero, List.set_cons_succ]
                refine wpAnyIn_ready (rs := [2]) (by kernel_rfl) (by simp) ?_
                refine AllReadyIn.cons (o := ⟨_, _, _, _, _, _⟩) rfl (fun K hK => ?_) (AllReadyIn.nil)
                refine step_wantIn rfl (opInw (by intro c hc; cases hc) ?_)
                go_simp
                refine (up_any ga q XA Y _ DA0 hXA hY32 bXA bY hq).mono ?_
                rintro rr w5 ⟨sp5, cp5, rfl, hb5, hg5, DA5, hG5⟩
                rw [← hLA.out] at DA5 hb5 ⊢
                have DB5 := DB0.grown hG5 (Ne.symm hab)
                have c45 := (World.cell?_of_block (w := V.drew) (a := ⟨b4, 0, none⟩) (hG5.block b4 (block_lt_of_cell c40) (fun e' => by have := Option.some.inj e'; omega))).trans c40
                have RZ5 : w5.rangeAt g' (off' + j * 32) (by8 Z) := fun x v hv => (World.cell?_of_block (w := V.drew) (a := ⟨g', off' + j * 32 + x, none⟩) (hG5.block g' (block_lt_of_cell (RZ0 x v hv)) (fun e' => by have := Option.some.inj e'; omega))).trans (RZ0 x v hv)
                go_wp2_with fail
                try (refine hK _ _ ?_)
                try clear hK
                try clear K
                try simp only [Act.put, List.setIfInBounds_toArray, List.set_cons_zero, List.set_cons_succ]
                refine wpAnyIn_ready (rs := [7]) (by kernel_rfl) (by simp) ?_
                refine AllReadyIn.cons (o := ⟨_, _, _, _, _, _⟩) rfl (fun K hK => ?_) AllReadyIn.nil
                refine step_wantIn rfl (opInw (by intro c hc; cases hc) ?_)
                go_simp
                refine (up_any gb q XB Z _ DB5 hXB hZ32 bXB bZ hq).mono ?_
                rintro rr w7 ⟨sp7, cp7, rfl, hb7, hg7, DB7, hG7⟩
                rw [← hLB.out] at DB7 hb7 ⊢
                obtain ⟨hJ7, hE7, hF7, DA7⟩ := htail w5 w7 sp5 cp5 sp7 cp7 hb5 hg5 DA5 hG5 hb7 hg7 hG7
                have hYY := hY.out j w7 ⟨sp5, 65, cp5, LA, shl LA⟩ ⟨sp7, 65, cp7, LB, shl LB⟩ hJ7 ⟨Y, hY0.out, by rw [← hqe.out, ← hXAe.out, ← hLA.out]; exact hE7⟩ ⟨Z, hZ0.out, by rw [← hqe.out, ← hXBe.out, ← hLB.out]; exact hF7⟩
                go_wp2_with fail
                try (refine hK _ _ ?_)
                try clear hK
                try clear K
                try simp only [Act.put, List.setIfInBounds_toArray, List.set_cons_zero, List.set_cons_succ]
                refine wpAnyIn_ready (rs := [8]) (by kernel_rfl) (by simp) ?_
                refine AllReadyIn.cons (o := ⟨_, _, _, _, _, _⟩) rfl (fun K hK => ?_) AllReadyIn.nil
                refine step_wantIn rfl (yield_op (.tmp 19) (.tmp 21) (.tmp 26) _ rfl rfl _ _ rfl rfl hYY ?_)
                rintro rr W3 (⟨rfl, hJ3, hk3⟩ | ⟨rfl, hX3⟩)
                · refine ⟨_, rfl, hK _ _ ?_⟩
                  clear hK K
                  try simp only [Act.put, List.setIfInBounds_toArray, List.set_cons_zero, List.set_cons_succ]
                  refine wpAnyIn_take (i := 9) (oi := ⟨_, _, _, _, _, _⟩) (v := ?_) rfl rfl (by kernel_rfl) (by kernel_rfl) (by kernel_rfl) (fun c a w h => by cases h.1) ⟨Or.inl ⟨by rfl, ?_⟩, fun w => by rfl⟩ ?_
                  rotate_left
                  · intro u
                    go_simp
                    try (with_reducible rfl)
                  try simp only [Act.put, List.setIfInBounds_toArray, List.set_cons_zero, List.set_cons_succ]
                  refine wpAnyIn_done (by kernel_rfl) ?_ _
                  refine ⟨rfl, ⟨sp5, 65, cp5, LA, shl LA⟩, ⟨sp7, 65, cp7, LB, shl LB⟩, true, rfl, .inl ⟨rfl, hJ3, hfin W3 w7 DA7 DB7 hk3⟩⟩
                · refine ⟨_, rfl, hK _ _ ?_⟩
                  clear hK K
                  try simp only [Act.put, List.setIfInBounds_toArray, List.set_cons_zero, List.set_cons_succ]
                  refine wpAnyIn_take (i := 9) (oi := ⟨_, _, _, _, _, _⟩) (v := ?_) rfl rfl (by kernel_rfl) (by kernel_rfl) (by kernel_rfl) (fun c a w h => by cases h.1) ⟨Or.inl ⟨by rfl, ?_⟩, fun w => by rfl⟩ ?_
                  rotate_left
                  · intro u
                    go_simp
                    try (with_reducible rfl)
                  try simp only [Act.put, List.setIfInBounds_toArray, List.set_cons_zero, List.set_cons_succ]
                  refine wpAnyIn_done (by kernel_rfl) ?_ _
                  exact ⟨rfl, ⟨sp5, 65, cp5, LA, shl LA⟩, ⟨sp7, 65, cp7, LB, shl LB⟩, false, rfl, .inr ⟨rfl, hX3⟩⟩
          · refine step_wantIn rfl (opInw (by intro c hc; cases hc) ?_)
            have cc := c40
            go_simp
            go_wp2_with fail
            try (refine hK _ _ ?_)
            try clear hK
            try clear K
            clear cc
            try simp only [Act.put, List.setIfInBounds_toArray, List.set_cons_zero, List.set_cons_succ]
            refine wpAnyIn_take (i := 5) (oi := ⟨_, _, _, _, _, _⟩) (v := ?_) rfl rfl (by kernel_rfl) (by kernel_rfl) (by kernel_rfl) (fun c a w h => by cases h.1) ⟨Or.inl ⟨by rfl, ?_⟩, fun w => by rfl⟩ ?_
            rotate_left
            · intro u
              go_simp
              try (with_reducible rfl)
            try simp only [Act.put, List.setIfInBounds_toArray, List.set_cons_zero, List.set_cons_succ]
            refine wpAnyIn_ready (rs := [1, 6]) (by kernel_rfl) (by simp) ?_
            refine AllReadyIn.cons (o := ⟨_, _, _, _, _, _⟩) rfl (fun K hK => ?_) (AllReadyIn.cons (o := ⟨_, _, _, _, _, _⟩) rfl (fun K hK => ?_) (AllReadyIn.nil))
            · refine step_wantIn rfl (opInw (by intro c hc; cases hc) (wp_load_mid 29 (.tmp 9) rfl wr.heap.size 0 rfl (by8 Y) _ RY0 Try.underlying29 rfl (by rw [by8_len, hY32]; exact size24) (hK _ _ ?_)))
              clear hK K
              try simp only [Act.put, List.setIfInBounds_toArray, List.set_cons_zero, List.set_cons_succ]
              refine wpAnyIn_ready (rs := [2, 6]) (by kernel_rfl) (by simp) ?_
              refine AllReadyIn.cons (o := ⟨_, _, _, _, _, _⟩) rfl (fun K hK => ?_) (AllReadyIn.cons (o := ⟨_, _, _, _, _, _⟩) rfl (fun K hK => ?_) (AllReadyIn.nil))
              · refine step_wantIn rfl (opInw (by intro c hc; cases hc) ?_)
                go_simp
                refine (up_any ga q XA Y _ DA0 hXA hY32 bXA bY hq).mono ?_
                rintro rr w5 ⟨sp5, cp5, rfl, hb5, hg5, DA5, hG5⟩
                rw [← hLA.out] at DA5 hb5 ⊢
                have DB5 := DB0.grown hG5 (Ne.symm hab)
                have c45 := (World.cell?_of_block (w := V.drew) (a := ⟨b4, 0, none⟩) (hG5.block b4 (block_lt_of_cell c40) (fun e' => by have := Option.some.inj e'; omega))).trans c40
                have RZ5 : w5.rangeAt g' (off' + j * 32) (by8 Z) := fun x v hv => (World.cell?_of_block (w := V.drew) (a := ⟨g', off' + j * 32 + x, none⟩) (hG5.block g' (block_lt_of_cell (RZ0 x v hv)) (fun e' => by have := Option.some.inj e'; omega))).trans (RZ0 x v hv)
                go_wp2_with fail
                try (refine hK _ _ ?_)
                try clear hK
                try clear K
                try simp only [Act.put, List.setIfInBounds_toArray, List.set_cons_zero, List.set_cons_succ]
                refine wpAnyIn_ready (rs := [6]) (by kernel_rfl) (by simp) ?_
                refine AllReadyIn.cons (o := ⟨_, _, _, _, _, _⟩) rfl (fun K hK => ?_) (AllReadyIn.nil)
                refine step_wantIn rfl (opInw (by intro c hc; cases hc) (wp_load_mid 29 (.tmp 24) rfl g' (off' + j * 32) rfl (by8 Z) _ RZ5 Try.underlying29 rfl (by rw [by8_len, hZ32]; exact size24) (hK _ _ ?_)))
                clear hK K
                try simp only [Act.put, List.setIfInBounds_toArray, List.set_cons_zero, List.set_cons_succ]
                refine wpAnyIn_ready (rs := [7]) (by kernel_rfl) (by simp) ?_
                refine AllReadyIn.cons (o := ⟨_, _, _, _, _, _⟩) rfl (fun K hK => ?_) AllReadyIn.nil
                refine step_wantIn rfl (opInw (by intro c hc; cases hc) ?_)
                go_simp
                refine (up_any gb q XB Z _ DB5 hXB hZ32 bXB bZ hq).mono ?_
                rintro rr w7 ⟨sp7, cp7, rfl, hb7, hg7, DB7, hG7⟩
                rw [← hLB.out] at DB7 hb7 ⊢
                obtain ⟨hJ7, hE7, hF7, DA7⟩ := htail w5 w7 sp5 cp5 sp7 cp7 hb5 hg5 DA5 hG5 hb7 hg7 hG7
                have hYY := hY.out j w7 ⟨sp5, 65, cp5, LA, shl LA⟩ ⟨sp7, 65, cp7, LB, shl LB⟩ hJ7 ⟨Y, hY0.out, by rw [← hqe.out, ← hXAe.out, ← hLA.out]; exact hE7⟩ ⟨Z, hZ0.out, by rw [← hqe.out, ← hXBe.out, ← hLB.out]; exact hF7⟩
                go_wp2_with fail
                try (refine hK _ _ ?_)
                try clear hK
                try clear K
                try simp only [Act.put, List.setIfInBounds_toArray, List.set_cons_zero, List.set_cons_succ]
                refine wpAnyIn_ready (rs := [8]) (by kernel_rfl) (by simp) ?_
                refine AllReadyIn.cons (o := ⟨_, _, _, _, _, _⟩) rfl (fun K hK => ?_) AllReadyIn.nil
                refine step_wantIn rfl (yield_op (.tmp 19) (.tmp 21) (.tmp 26) _ rfl rfl _ _ rfl rfl hYY ?_)
                rintro rr W3 (⟨rfl, hJ3, hk3⟩ | ⟨rfl, hX3⟩)
                · refine ⟨_, rfl, hK _ _ ?_⟩
                  clear hK K
                  try simp only [Act.put, List.setIfInBounds_toArray, List.set_cons_zero, List.set_cons_succ]
                  refine wpAnyIn_take (i := 9) (oi := ⟨_, _, _, _, _, _⟩) (v := ?_) rfl rfl (by kernel_rfl) (by kernel_rfl) (by kernel_rfl) (fun c a w h => by cases h.1) ⟨Or.inl ⟨by rfl, ?_⟩, fun w => by rfl⟩ ?_
                  rotate_left
                  · intro u
                    go_simp
                    try (with_reducible rfl)
                  try simp only [Act.put, List.setIfInBounds_toArray, List.set_cons_zero, List.set_cons_succ]
                  refine wpAnyIn_done (by kernel_rfl) ?_ _
                  refine ⟨rfl, ⟨sp5, 65, cp5, LA, shl LA⟩, ⟨sp7, 65, cp7, LB, shl LB⟩, true, rfl, .inl ⟨rfl, hJ3, hfin W3 w7 DA7 DB7 hk3⟩⟩
                · refine ⟨_, rfl, hK _ _ ?_⟩
                  clear hK K
                  try simp only [Act.put, List.setIfInBounds_toArray, List.set_cons_zero, List.set_cons_succ]
                  refine wpAnyIn_take (i := 9) (oi := ⟨_, _, _, _, _, _⟩) (v := ?_) rfl rfl (by kernel_rfl) (by kernel_rfl) (by kernel_rfl) (fun c a w h => by cases h.1) ⟨Or.inl ⟨by rfl, ?_⟩, fun w => by rfl⟩ ?_
                  rotate_left
                  · intro u
                    go_simp
                    try (with_reducible rfl)
                  try simp only [Act.put, List.setIfInBounds_toArray, List.set_cons_zero, List.set_cons_succ]
                  refine wpAnyIn_done (by kernel_rfl) ?_ _
                  exact ⟨rfl, ⟨sp5, 65, cp5, LA, shl LA⟩, ⟨sp7, 65, cp7, LB, shl LB⟩, false, rfl, .inr ⟨rfl, hX3⟩⟩
              · refine step_wantIn rfl (opInw (by intro c hc; cases hc) (wp_load_mid 29 (.tmp 24) rfl g' (off' + j * 32) rfl (by8 Z) _ RZ0 Try.underlying29 rfl (by rw [by8_len, hZ32]; exact size24) (hK _ _ ?_)))
                clear hK K
                try simp only [Act.put, List.setIfInBounds_toArray, List.set_cons_zero, List.set_cons_succ]
                refine wpAnyIn_ready (rs := [2]) (by kernel_rfl) (by simp) ?_
                refine AllReadyIn.cons (o := ⟨_, _, _, _, _, _⟩) rfl (fun K hK => ?_) (AllReadyIn.nil)
                refine step_wantIn rfl (opInw (by intro c hc; cases hc) ?_)
                go_simp
                refine (up_any ga q XA Y _ DA0 hXA hY32 bXA bY hq).mono ?_
                rintro rr w5 ⟨sp5, cp5, rfl, hb5, hg5, DA5, hG5⟩
                rw [← hLA.out] at DA5 hb5 ⊢
                have DB5 := DB0.grown hG5 (Ne.symm hab)
                have c45 := (World.cell?_of_block (w := V.drew) (a := ⟨b4, 0, none⟩) (hG5.block b4 (block_lt_of_cell c40) (fun e' => by have := Option.some.inj e'; omega))).trans c40
                have RZ5 : w5.rangeAt g' (off' + j * 32) (by8 Z) := fun x v hv => (World.cell?_of_block (w := V.drew) (a := ⟨g', off' + j * 32 + x, none⟩) (hG5.block g' (block_lt_of_cell (RZ0 x v hv)) (fun e' => by have := Option.some.inj e'; omega))).trans (RZ0 x v hv)
                go_wp2_with fail
                try (refine hK _ _ ?_)
                try clear hK
                try clear K
                try simp only [Act.put, List.setIfInBounds_toArray, List.set_cons_zero, List.set_cons_succ]
                refine wpAnyIn_ready (rs := [7]) (by kernel_rfl) (by simp) ?_
                refine AllReadyIn.cons (o := ⟨_, _, _, _, _, _⟩) rfl (fun K hK => ?_) AllReadyIn.nil
                refine step_wantIn rfl (opInw (by intro c hc; cases hc) ?_)
                go_simp
                refine (up_any gb q XB Z _ DB5 hXB hZ32 bXB bZ hq).mono ?_
                rintro rr w7 ⟨sp7, cp7, rfl, hb7, hg7, DB7, hG7⟩
                rw [← hLB.out] at DB7 hb7 ⊢
                obtain ⟨hJ7, hE7, hF7, DA7⟩ := htail w5 w7 sp5 cp5 sp7 cp7 hb5 hg5 DA5 hG5 hb7 hg7 hG7
                have hYY := hY.out j w7 ⟨sp5, 65, cp5, LA, shl LA⟩ ⟨sp7, 65, cp7, LB, shl LB⟩ hJ7 ⟨Y, hY0.out, by rw [← hqe.out, ← hXAe.out, ← hLA.out]; exact hE7⟩ ⟨Z, hZ0.out, by rw [← hqe.out, ← hXBe.out, ← hLB.out]; exact hF7⟩
                go_wp2_with fail
                try (refine hK _ _ ?_)
                try clear hK
                try clear K
                try simp only [Act.put, List.setIfInBounds_toArray, List.set_cons_zero, List.set_cons_succ]
                refine wpAnyIn_ready (rs := [8]) (by kernel_rfl) (by simp) ?_
                refine AllReadyIn.cons (o := ⟨_, _, _, _, _, _⟩) rfl (fun K hK => ?_) AllReadyIn.nil
                refine step_wantIn rfl (yield_op (.tmp 19) (.tmp 21) (.tmp 26) _ rfl rfl _ _ rfl rfl hYY ?_)
                rintro rr W3 (⟨rfl, hJ3, hk3⟩ | ⟨rfl, hX3⟩)
                · refine ⟨_, rfl, hK _ _ ?_⟩
                  clear hK K
                  try simp only [Act.put, List.setIfInBounds_toArray, List.set_cons_zero, List.set_cons_succ]
                  refine wpAnyIn_take (i := 9) (oi := ⟨_, _, _, _, _, _⟩) (v := ?_) rfl rfl (by kernel_rfl) (by kernel_rfl) (by kernel_rfl) (fun c a w h => by cases h.1) ⟨Or.inl ⟨by rfl, ?_⟩, fun w => by rfl⟩ ?_
                  rotate_left
                  · intro u
                    go_simp
                    try (with_reducible rfl)
                  try simp only [Act.put, List.setIfInBounds_toArray, List.set_cons_zero, List.set_cons_succ]
                  refine wpAnyIn_done (by kernel_rfl) ?_ _
                  refine ⟨rfl, ⟨sp5, 65, cp5, LA, shl LA⟩, ⟨sp7, 65, cp7, LB, shl LB⟩, true, rfl, .inl ⟨rfl, hJ3, hfin W3 w7 DA7 DB7 hk3⟩⟩
                · refine ⟨_, rfl, hK _ _ ?_⟩
                  clear hK K
                  try simp only [Act.put, List.setIfInBounds_toArray, List.set_cons_zero, List.set_cons_succ]
                  refine wpAnyIn_take (i := 9) (oi := ⟨_, _, _, _, _, _⟩) (v := ?_) rfl rfl (by kernel_rfl) (by kernel_rfl) (by kernel_rfl) (fun c a w h => by cases h.1) ⟨Or.inl ⟨by rfl, ?_⟩, fun w => by rfl⟩ ?_
                  rotate_left
                  · intro u
                    go_simp
                    try (with_reducible rfl)
                  try simp only [Act.put, List.setIfInBounds_toArray, List.set_cons_zero, List.set_cons_succ]
                  refine wpAnyIn_done (by kernel_rfl) ?_ _
                  exact ⟨rfl, ⟨sp5, 65, cp5, LA, shl LA⟩, ⟨sp7, 65, cp7, LB, shl LB⟩, false, rfl, .inr ⟨rfl, hX3⟩⟩
            · refine step_wantIn rfl (opInw (by intro c hc; cases hc) (wp_load_mid 29 (.tmp 24) rfl g' (off' + j * 32) rfl (by8 Z) _ RZ0 Try.underlying29 rfl (by rw [by8_len, hZ32]; exact size24) (hK _ _ ?_)))
              clear hK K
              try simp only [Act.put, List.setIfInBounds_toArray, List.set_cons_zero, List.set_cons_succ]
              refine wpAnyIn_ready (rs := [1]) (by kernel_rfl) (by simp) ?_
              refine AllReadyIn.cons (o := ⟨_, _, _, _, _, _⟩) rfl (fun K hK => ?_) (AllReadyIn.nil)
              refine step_wantIn rfl (opInw (by intro c hc; cases hc) (wp_load_mid 29 (.tmp 9) rfl wr.heap.size 0 rfl (by8 Y) _ RY0 Try.underlying29 rfl (by rw [by8_len, hY32]; exact size24) (hK _ _ ?_)))
              clear hK K
              try simp only [Act.put, List.setIfInBounds_toArray, List.set_cons_zero, List.set_cons_succ]
              refine wpAnyIn_ready (rs := [2]) (by kernel_rfl) (by simp) ?_
              refine AllReadyIn.cons (o := ⟨_, _, _, _, _, _⟩) rfl (fun K hK => ?_) (AllReadyIn.nil)
              refine step_wantIn rfl (opInw (by intro c hc; cases hc) ?_)
              go_simp
              refine (up_any ga q XA Y _ DA0 hXA hY32 bXA bY hq).mono ?_
              rintro rr w5 ⟨sp5, cp5, rfl, hb5, hg5, DA5, hG5⟩
              rw [← hLA.out] at DA5 hb5 ⊢
              have DB5 := DB0.grown hG5 (Ne.symm hab)
              have c45 := (World.cell?_of_block (w := V.drew) (a := ⟨b4, 0, none⟩) (hG5.block b4 (block_lt_of_cell c40) (fun e' => by have := Option.some.inj e'; omega))).trans c40
              have RZ5 : w5.rangeAt g' (off' + j * 32) (by8 Z) := fun x v hv => (World.cell?_of_block (w := V.drew) (a := ⟨g', off' + j * 32 + x, none⟩) (hG5.block g' (block_lt_of_cell (RZ0 x v hv)) (fun e' => by have := Option.some.inj e'; omega))).trans (RZ0 x v hv)
              go_wp2_with fail
              try (refine hK _ _ ?_)
              try clear hK
              try clear K
              try simp only [Act.put, List.setIfInBounds_toArray, List.set_cons_zero, List.set_cons_succ]
              refine wpAnyIn_ready (rs := [7]) (by kernel_rfl) (by simp) ?_
              refine AllReadyIn.cons (o := ⟨_, _, _, _, _, _⟩) rfl (fun K hK => ?_) AllReadyIn.nil
              refine step_wantIn rfl (opInw (by intro c hc; cases hc) ?_)
              go_simp
              refine (up_any gb q XB Z _ DB5 hXB hZ32 bXB bZ hq).mono ?_
              rintro rr w7 ⟨sp7, cp7, rfl, hb7, hg7, DB7, hG7⟩
              rw [← hLB.out] at DB7 hb7 ⊢
              obtain ⟨hJ7, hE7, hF7, DA7⟩ := htail w5 w7 sp5 cp5 sp7 cp7 hb5 hg5 DA5 hG5 hb7 hg7 hG7
              have hYY := hY.out j w7 ⟨sp5, 65, cp5, LA, shl LA⟩ ⟨sp7, 65, cp7, LB, shl LB⟩ hJ7 ⟨Y, hY0.out, by rw [← hqe.out, ← hXAe.out, ← hLA.out]; exact hE7⟩ ⟨Z, hZ0.out, by rw [← hqe.out, ← hXBe.out, ← hLB.out]; exact hF7⟩
              go_wp2_with fail
              try (refine hK _ _ ?_)
              try clear hK
              try clear K
              try simp only [Act.put, List.setIfInBounds_toArray, List.set_cons_zero, List.set_cons_succ]
              refine wpAnyIn_ready (rs := [8]) (by kernel_rfl) (by simp) ?_
              refine AllReadyIn.cons (o := ⟨_, _, _, _, _, _⟩) rfl (fun K hK => ?_) AllReadyIn.nil
              refine step_wantIn rfl (yield_op (.tmp 19) (.tmp 21) (.tmp 26) _ rfl rfl _ _ rfl rfl hYY ?_)
              rintro rr W3 (⟨rfl, hJ3, hk3⟩ | ⟨rfl, hX3⟩)
              · refine ⟨_, rfl, hK _ _ ?_⟩
                clear hK K
                try simp only [Act.put, List.setIfInBounds_toArray, List.set_cons_zero, List.set_cons_succ]
                refine wpAnyIn_take (i := 9) (oi := ⟨_, _, _, _, _, _⟩) (v := ?_) rfl rfl (by kernel_rfl) (by kernel_rfl) (by kernel_rfl) (fun c a w h => by cases h.1) ⟨Or.inl ⟨by rfl, ?_⟩, fun w => by rfl⟩ ?_
                rotate_left
                · intro u
                  go_simp
                  try (with_reducible rfl)
                try simp only [Act.put, List.setIfInBounds_toArray, List.set_cons_zero, List.set_cons_succ]
                refine wpAnyIn_done (by kernel_rfl) ?_ _
                refine ⟨rfl, ⟨sp5, 65, cp5, LA, shl LA⟩, ⟨sp7, 65, cp7, LB, shl LB⟩, true, rfl, .inl ⟨rfl, hJ3, hfin W3 w7 DA7 DB7 hk3⟩⟩
              · refine ⟨_, rfl, hK _ _ ?_⟩
                clear hK K
                try simp only [Act.put, List.setIfInBounds_toArray, List.set_cons_zero, List.set_cons_succ]
                refine wpAnyIn_take (i := 9) (oi := ⟨_, _, _, _, _, _⟩) (v := ?_) rfl rfl (by kernel_rfl) (by kernel_rfl) (by kernel_rfl) (fun c a w h => by cases h.1) ⟨Or.inl ⟨by rfl, ?_⟩, fun w => by rfl⟩ ?_
                rotate_left
                · intro u
                  go_simp
                  try (with_reducible rfl)
                try simp only [Act.put, List.setIfInBounds_toArray, List.set_cons_zero, List.set_cons_succ]
                refine wpAnyIn_done (by kernel_rfl) ?_ _
                exact ⟨rfl, ⟨sp5, 65, cp5, LA, shl LA⟩, ⟨sp7, 65, cp7, LB, shl LB⟩, false, rfl, .inr ⟨rfl, hX3⟩⟩
        case rest4 =>
          rintro a' w' ⟨e, f, r, rfl, ⟨rfl, hJ1, DA1, DB1⟩ | ⟨rfl, hX1⟩⟩
          · have hs1 := DA1.lt
            gi_wp2
            go_roundw
            case rel => exact ⟨j + 1, by go_num, by omega, hJ1, DA1, DB1⟩
            case measure => simp [intOf]; omega
          · gi_wp2
            exact bodyPost_ret (results_none rfl _ _ _) rfl ⟨⟨_, rfl⟩, .inr hX1⟩
      · obtain rfl : j = n := by omega
        have hI : ¬ (j : Int) < j := by omega
        gi_wp2
        go_end0
        exact ⟨⟨_, rfl⟩, .inl hJj⟩
end Go.Proofs.Ytgjnbpimldjkpaa
