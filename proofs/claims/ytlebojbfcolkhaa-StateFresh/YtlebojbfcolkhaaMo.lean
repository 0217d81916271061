/- Layer merkle: Proof. -/
import Derived.Test.YtlebojbfcolkhaaA16
import Derived.Great.BuildSlice
import Derived.Great.FillDense
import Derived.Laws.OwnMore
namespace Go.Proofs.Ytlebojbfcolkhaa
open Go.RowKit Go.Shelf
set_option maxRecDepth 100000
set_option linter.unusedVariables false
set_option linter.unusedSimpArgs false
attribute [local go_sem] Oper.semAt_some

theorem q0 {Q : Exit → Act → World → Prop} {a : Act} {w : World} (h : Q .normal a w) : Q0 Q .normal a w := h
theorem info24 : (Try.prog.info? 24).map (fun i => (i.zero, i.size, i.bytes)) = some (some (.agg (h8 Z32)), 32, 32) := by kernel_rfl
/-- Sums one behind the other. -/
def flat32 (ls : List (List Int)) : List Value := (ls.map by8).flatten
theorem flat32_app (ls : List (List Int)) (X : List Int) : flat32 (ls ++ [X]) = flat32 ls ++ by8 X := by simp [flat32]
theorem wp_app24 {o : Oper} {a : Act} {w : World} {K : Act → World → Prop} {Q : Exit → Act → World → Prop} (s x : Operand) (ho : o.op = .call { callee := .builtin .append, args := #[s, x], argTypes := #[42, 42] })
    (base g k cap : Nat) (ls : List (List Int)) (X : List Int) (hs : a.eval s = .slice (some ⟨g, 0, none⟩) k cap) (hown : w.ownsRow base 24 32 (.slice (some ⟨g, 0, none⟩) k cap) k (flat32 ls))
    (gx c : Nat) (hx : a.eval x = .slice (some ⟨gx, 0, none⟩) 1 c) (hA : Arr w gx 24 (h8 X)) (hX : X.length = 32) (hk : k + 1 ≤ cap)
    (h : ∀ w', w'.ownsRow base 24 32 (.slice (some ⟨g, 0, none⟩) (k + 1) cap) (k + 1) (flat32 (ls ++ [X])) → w.grownBy w' (some g) → K (a.put o.dst (.slice (some ⟨g, 0, none⟩) (k + 1) cap)) w') : o.wp Try.prog a w K Q := by
  obtain ⟨i0, hi0, hz0, hz1, hz2⟩ := info_parts info24
  obtain ⟨w', hrun, r1, r2⟩ := run_append_fits (P := Try.prog) w base 42 o.type 24 i0 32 Try.underlying42 hi0 hz1 g k cap (flat32 ls) hown ⟨gx, 0, none⟩ 1 c (by8 X) (by rw [by8_len, hX]) (fun j u hj => by
    rw [Addr.add_mid]; exact hA.range j u hj) (by8_one X) hk
  unfold Oper.wp
  simp [execOp, ho, resolve, invoke, builtin, hs, hx, hrun, Result.andThen]
  exact h w' (by rw [flat32_app]; exact r1) r2
theorem wp_bld1 {o : Oper} {a : Act} {w : World} {K : Act → World → Prop} {Q : Exit → Act → World → Prop} (x : Operand) (ho : o.op = .buildSlice 42 1 #[(0, x)]) (X : List Int) (hx : a.eval x = .agg (h8 X)) (hX : X.length = 32)
    (h : K (a.put o.dst (.slice (some ⟨w.heap.size, 0, none⟩) 1 1)) (w.alloc (.cells (h8 X) 24))) : o.wp Try.prog a w K Q := by
  obtain ⟨i0, hi0, hz0, hz1, hz2⟩ := info_parts info24
  refine wp_buildSlice 42 24 1 _ ho (h8 X) i0 (.agg (h8 Z32)) Try.underlying42 hi0 hz0 (by rw [hz1]; omega) (by rw [hz1]; omega) ?_ h
  have e : (#[(0, x)].map fun (p : Nat × Operand) => (p.1, a.eval p.2)).toList = ([Value.agg (h8 X)].zipIdx 0).map fun x => (x.2, x.1) := by simp [hx]
  rw [hz1]
  refine Eq.trans (congrArg _ e) ?_
  rw [Great.fill_whole (s := 32) (by omega) [.agg (h8 X)] _ (fun v hv => by simp only [List.mem_singleton] at hv; rw [hv]; show (h8 X).size = 32; rw [h8_size, hX]) (by simp)]
  simp [Value.cells, h8]
theorem bi24 {l n : Nat} {ops : Array Oper} {rest : List Oper} {o : Oper} {a : Act} {w : World} {Q : Exit → Act → World → Prop} (hgd : o.guard = none) (x : Operand) (ho : o.op = .buildSlice 42 1 #[(0, x)]) (X : List Int) (hx : a.eval x = .agg (h8 X)) (hX : X.length = 32)
    (h : wpListIn (Fence.wide.inRound l) n Try.prog ops Q rest (a.put o.dst (.slice (some ⟨w.heap.size, 0, none⟩) 1 1)) (w.alloc (.cells (h8 X) 24))) : wpListIn (Fence.wide.inRound l) n Try.prog ops Q (o :: rest) a w :=
  wpListIn_plain hgd fun _ hK => opIn (by rw [ho]; intro c hc; cases hc) (wp_bld1 x ho X hx hX (hK _ _ h))
theorem ai24 {l n : Nat} {ops : Array Oper} {rest : List Oper} {o : Oper} {a : Act} {w : World} {Q : Exit → Act → World → Prop} (hgd : o.guard = none) (s x : Operand) (ho : o.op = .call { callee := .builtin .append, args := #[s, x], argTypes := #[42, 42] })
    (base g k cap : Nat) (ls : List (List Int)) (X : List Int) (hs : a.eval s = .slice (some ⟨g, 0, none⟩) k cap) (hown : w.ownsRow base 24 32 (.slice (some ⟨g, 0, none⟩) k cap) k (flat32 ls))
    (gx c : Nat) (hx : a.eval x = .slice (some ⟨gx, 0, none⟩) 1 c) (hA : Arr w gx 24 (h8 X)) (hX : X.length = 32) (hk : k + 1 ≤ cap)
    (h : ∀ w', w'.ownsRow base 24 32 (.slice (some ⟨g, 0, none⟩) (k + 1) cap) (k + 1) (flat32 (ls ++ [X])) → w.grownBy w' (some g) → wpListIn (Fence.wide.inRound l) n Try.prog ops Q rest (a.put o.dst (.slice (some ⟨g, 0, none⟩) (k + 1) cap)) w') : wpListIn (Fence.wide.inRound l) n Try.prog ops Q (o :: rest) a w :=
  wpListIn_plain hgd fun _ hK => opIn (by rw [ho]; intro c hc; cases hc) (wp_app24 s x ho base g k cap ls X hs hown gx c hx hA hX hk (fun w' h1 h2 => hK _ _ (h w' h1 h2)))
theorem own_same {w w' : World} {base n e s : Nat} {v : Value} {xs : List Value} (h : w.ownsRow base e s v n xs) (hk : ∀ k, v.ownBlock = some k → w'.heap[k]? = w.heap[k]?) : w'.ownsRow base e s v n xs := by
  refine ⟨h.1, ?_⟩
  rcases h.2 with hn | ⟨g, cap, cur, rfl, hb0, hgg, rest⟩
  · exact .inl hn
  · exact .inr ⟨g, cap, cur, rfl, hb0, by rw [hk g rfl]; exact hgg, rest⟩
/-- Proof's variables, when k levels are done. -/
structure PI (i d n cap : Nat) (sp : Option Addr) (ls : List (List Int)) (B : Nat) (w : World) (k : Nat) (W : World) : Prop where
  bel : Below w.heap.size w W
  a0 : Arr W w.heap.size 42 #[.slice sp n cap]
  a1 : Arr W (w.heap.size + 1) 3 #[.int .i64 i]
  own : W.ownsRow (w.heap.size + 2) 24 32 (.slice (some ⟨w.heap.size + 1 + 1, 0, none⟩) k d) k (flat32 (pf k ls i))
  a2 : Arr W B 42 #[.slice (some ⟨w.heap.size + 1 + 1, 0, none⟩) k d]
  a3 : Arr W (B + 1) 3 #[.int .i64 d]
theorem PI.below {i d n cap : Nat} {sp : Option Addr} {ls : List (List Int)} {B : Nat} {w : World} {k : Nat} {W W' : World} (h : PI i d n cap sp ls B w k W) (hB : w.heap.size + 3 ≤ B) (hb : Below (B + 2) W W') : PI i d n cap sp ls B w k W' :=
  ⟨h.bel.trans (hb.mono (by omega)), h.a0.below hb (by omega), h.a1.below hb (by omega), own_same h.own (fun k hk => hb.block k (by simp [Value.ownBlock] at hk; omega)), h.a2.below hb (by omega), h.a3.below hb (by omega)⟩
theorem own_mono' {w : World} {base base' e s n : Nat} {v : Value} {xs : List Value} (h : w.ownsRow base e s v n xs) (hb : base' ≤ base) : w.ownsRow base' e s v n xs := by
  refine ⟨h.1, ?_⟩
  rcases h.2 with hn | ⟨g, cap, cur, hv, hb0, rest⟩
  · exact .inl hn
  · exact .inr ⟨g, cap, cur, hv, Nat.le_trans hb hb0, rest⟩
theorem sib_le (j : Nat) : sib j ≤ j + 1 := by unfold sib; split <;> omega
set_option maxRecDepth 100000 in
set_option maxHeartbeats 1000000 in
theorem proof_ok (d i N : Nat) (sp : Option Addr) (n cap : Nat) (ls : List (List Int)) (w : World) (hd : d ≤ 16) (hi : i < 2 ^ d) (hn : n ≤ 2 ^ d) (hS : HS N w sp n cap ls) :
    Calls Try.prog 77 #[.int .i64 d, .slice sp n cap, .int .i64 i] w fun e w' => ∃ v, e = .returned (.tuple #[v, .int .i64 0]) ∧ w'.ownsRow w.heap.size 24 32 v d (flat32 (pf d ls i)) ∧ Below w.heap.size w w' := by
  have hS := hS.here
  have hsm := hS.small
  have hl := hS.len
  have hmd : ∀ w, Calls Try.prog 66 #[.int .i64 d] w fun e w' => e = .returned (.bool true) ∧ w' = w := fun w => by have h := mayDepth_any d w; rwa [decide_eq_true (by omega)] at h
  have hmp : ∀ w, Calls Try.prog 67 #[.int .i64 d, .int .i64 i] w fun e w' => e = .returned (.bool true) ∧ w' = w := fun w => by have h := mayPlace_any d hd i w; rwa [decide_eq_true (by omega)] at h
  have hwd := width_any d hd
  have hi17 : i < 65536 := by have := pow16 hd; omega
  obtain ⟨p, hp⟩ : ∃ p : Nat, p = 2 ^ d := ⟨_, rfl⟩
  rw [← hp] at hwd hn
  have hnI : ¬ (p : Int) < n := by omega
  clear hp
  replace hi := Hid.mk' hi
  refine (callsIn_wide (n := 3)).1 ?_
  refine callsIn_of_wp_marks Try.func77 rfl trivial ?_ rfl
  simp only [Try.ntmps77, List.size_toArray, List.length_cons, List.length_nil, Nat.reduceAdd, Nat.reduceSub, Array.replicate_succ, Array.replicate_zero, List.push_toArray, List.append_toArray, List.nil_append, List.cons_append]
  gi_wp2_with (first
    | (refine ⟨trivial, ?_⟩; gi_at_call 91; go_must (refine (callsIn_wide.2 (empties_any d _)).mono ?_; rintro e w1 ⟨rfl, rfl⟩))
    | (refine ⟨trivial, ?_⟩; gi_at_call 66; go_must (refine (callsIn_wide.2 (hmd _)).mono ?_; rintro e w1 ⟨rfl, rfl⟩))
    | (refine ⟨trivial, ?_⟩; gi_at_call 67; go_must (refine (callsIn_wide.2 (hmp _)).mono ?_; rintro e w1 ⟨rfl, rfl⟩))
    | (refine ⟨trivial, ?_⟩; gi_at_call 88; go_must (refine (callsIn_wide.2 (hwd _)).mono ?_; rintro e w1 ⟨rfl, rfl⟩)))
  have A0 := (Arr.new w 42 #[.slice sp n cap]).alloc (.cells #[.int .i64 i] 3)
  refine region_wide (S := fun u => Arr u w.heap.size 42 #[.slice sp n cap]) (by kernel_rfl) A0.drew (fun hHeld => ?_)
  refine wpAnyH_take (i := 0) (oi := ⟨_, _, _, _, _, _⟩) (v := ?_) rfl (by kernel_rfl) (by kernel_rfl) (by kernel_rfl) (fun _ _ _ h => h) (Or.inl ⟨by rfl, ?_⟩) (by assumption) ?_
  rotate_left
  · intro u hSw
    have cu := hSw.cell 0
    simp at cu
    go_simp
    try (with_reducible rfl)
  try simp only [Act.put, List.setIfInBounds_toArray, List.set_cons_zero, List.set_cons_succ]
  refine wpAnyH_take (i := 1) (oi := ⟨_, _, _, _, _, _⟩) (v := ?_) rfl (by kernel_rfl) (by kernel_rfl) (by kernel_rfl) (fun _ _ _ h => h) (Or.inl ⟨by rfl, ?_⟩) (by assumption) ?_
  rotate_left
  · intro u hSw
    go_simp
    try (with_reducible rfl)
  try simp only [Act.put, List.setIfInBounds_toArray, List.set_cons_zero, List.set_cons_succ]
  refine wpAnyH_take (i := 2) (oi := ⟨_, _, _, _, _, _⟩) (v := ?_) rfl (by kernel_rfl) (by kernel_rfl) (by kernel_rfl) (fun _ _ _ h => h) (Or.inl ⟨by rfl, ?_⟩) (by assumption) ?_
  rotate_left
  · intro u hSw
    go_simp
    try (with_reducible rfl)
  try simp only [Act.put, List.setIfInBounds_toArray, List.set_cons_zero, List.set_cons_succ]
  refine wpAnyH_ready (rs := [3]) (by kernel_rfl) (by simp) ?_
  refine AllReadyH.cons (o := ⟨_, _, _, _, _, _⟩) rfl (fun K hK => ?_) AllReadyH.nil
  go_simp
  refine (hwd _).mono ?_; rintro e w2 ⟨rfl, rfl⟩
  go_wp2_with fail
  refine hK.out _ _ A0.drew (fun hHeld => ?_)
  clear hK K
  try simp only [Act.put, List.setIfInBounds_toArray, List.set_cons_zero, List.set_cons_succ]
  refine wpAnyH_take (i := 4) (oi := ⟨_, _, _, _, _, _⟩) (v := ?_) rfl (by kernel_rfl) (by kernel_rfl) (by kernel_rfl) (fun _ _ _ h => h) (Or.inl ⟨by rfl, ?_⟩) (by assumption) ?_
  rotate_left
  · intro u hSw
    go_simp
    try (with_reducible rfl)
  try simp only [Act.put, List.setIfInBounds_toArray, List.set_cons_zero, List.set_cons_succ]
  refine wpAnyH_done (by kernel_rfl) ?_ _
  refine q0 ?_
  obtain ⟨i0, hi0, hz0, hz1, hz2⟩ := info_parts info24
  gi_wp2_with (first
    | (gi_at_make; go_must (refine wpListIn_make_own _ (by rfl) (.const (.int .i64 0)) (.tmp 27) 42 (by rfl) (w.heap.size + 2) 24 i0 (.agg (h8 Z32)) 32 Try.underlying42 hi0 hz0 hz1 .i64 .i64 _ d (by rfl) (by rfl) rfl (by rw [hz2]; omega) (Nat.le_trans (by omega) maxLen_ge) (by simp) ?_; intro w3 hown3 hg3; have hs3 := hg3.size; simp at hs3))
    | (refine ⟨trivial, ?_⟩; gi_at_call 91; go_must (refine (callsIn_wide.2 (empties_any d _)).mono ?_; rintro e w1 ⟨rfl, rfl⟩)))
  have hB3 : w.heap.size + 3 ≤ w3.heap.size := by
    obtain ⟨-, h | ⟨g, c', cur, e, hb0, hgg, -⟩⟩ := hown3
    · cases h.1
    · cases e
      have := (Array.getElem?_eq_some_iff.1 hgg).1
      simp at this; omega
  obtain ⟨B, hBe⟩ : ∃ B, B = w3.heap.size := ⟨_, rfl⟩
  have hI0 : PI i d n cap sp ls B w 0 ((w3.alloc (.cells #[.slice (some ⟨w.heap.size + 1 + 1, 0, none⟩) 0 d] 42)).alloc (.cells #[.int .i64 d] 3)) := by
    have hb3 : Below (w.heap.size + 2) ((w.alloc (.cells #[.slice sp n cap] 42)).alloc (.cells #[.int .i64 i] 3)).drew w3 := ⟨hg3.os, hg3.tape, hg3.output, by have := hg3.size; simpa using this, fun k hk => hg3.block k (by simp; omega) (by simp)⟩
    have hbw : Below w.heap.size w w3 := (((alloc_bel' w _).alloc (by simp) _).drew).trans (hb3.mono (by omega))
    have hw : (w.alloc (.cells #[.slice sp n cap] 42)).heap.size = w.heap.size + 1 := by simp
    have A1 := Arr.new (w.alloc (.cells #[.slice sp n cap] 42)) 3 #[.int .i64 i]
    rw [hw] at A1
    have A3 := Arr.new (w3.alloc (.cells #[.slice (some ⟨w.heap.size + 1 + 1, 0, none⟩) 0 d] 42)) 3 #[.int .i64 d]
    rw [World.size_alloc] at A3
    refine ⟨(hbw.alloc hbw.size _).alloc (by have := hbw.size; simp; omega) _, ((A0.drew.below hb3 (by omega)).alloc _).alloc _, ((A1.drew.below hb3 (by omega)).alloc _).alloc _, ?_, by rw [hBe]; exact (Arr.new w3 42 _).alloc _, by rw [hBe]; exact A3⟩
    have h := (hown3.alloc (.cells #[.slice (some ⟨w.heap.size + 1 + 1, 0, none⟩) 0 d] 42)).alloc (.cells #[.int .i64 d] 3)
    simpa [pf, flat32] using h
  have hB5 : ((w3.alloc (.cells #[.slice (some ⟨w.heap.size + 1 + 1, 0, none⟩) 0 d] 42)).alloc (.cells #[.int .i64 d] 3)).heap.size = B + 2 := by rw [hBe]; simp
  rw [← hBe] at hB3 ⊢
  replace hBe := Hid.mk' hBe
  refine range_emp (B + 1) d (B + 2) hB5 (by omega) rfl (by omega) (PI i d n cap sp ls B w) (fun j W W' h hb => h.below hB3 hb) (fun j W h => by simpa using h.a3.cell 0) hI0 ?round ?done
  case round =>
    intro j V hI hj hsz m
    clear hI0 hown3 hg3 hs3 hB5
    have hl24 := tr_len j [] (fun x h => by cases h)
    gi_wp2_with (refine si24n (by rfl) _ _ (by rfl) V V.heap.size rfl (by rfl) (tr j []) (by rfl) (by rfl) hl24 ?_)
    refine ⟨alloc_bel' V _, fun w2 hb2 hk2 hs2 => ?_⟩
    have E2 : Arr w2 V.heap.size 24 (h8 (tr j [])) := (hk2 _ (by omega)).trans (Arr.new V 24 (h8 (tr j [])))
    have hbV : Below (B + 2) V w2 := (alloc_bel' V _).mono (by omega) |>.trans (hb2.mono (by omega))
    obtain ⟨hbel, T0, T1, hown, T2, T3⟩ := hI.below hB3 hbV
    simp only [World.size_alloc] at hs2
    have c0 := T0.cell 0
    have c1 := T1.cell 0
    simp at c0 c1
    obtain ⟨b, hbe⟩ : ∃ b, b = sib (i / 2 ^ j) := ⟨_, rfl⟩
    have hb17 : b ≤ 131072 := by
      have h1 := sib_le (i / 2 ^ j)
      have h2 := Nat.div_le_self i (2 ^ j)
      omega
    have hxor : bits .xor .i64 ((i : Int) / 2 ^ j) 1 = (b : Int) := by
      rw [powc, ← Int.natCast_ediv, i64_xor1 _ (by have := Nat.div_le_self i (2 ^ j); omega), hbe]
    have hhalf := half_any j b w.heap.size sp n cap ls w2 (by omega) hb17 (hS.below hbel)
    have hpf : pf (j + 1) ls i = pf j ls i ++ [tr j ((ls.drop (b * 2 ^ j)).take (2 ^ j))] := by rw [pf_succ, tr_take, hbe]
    have hl32 : ∀ X ∈ (ls.drop (b * 2 ^ j)).take (2 ^ j), X.length = 32 := fun X hX => hS.l32 X (List.mem_of_mem_drop (List.mem_of_mem_take hX))
    have hlen : ((ls.drop (b * 2 ^ j)).take (2 ^ j)).length ≤ 2 ^ j := by rw [List.length_take]; omega
    generalize (ls.drop (b * 2 ^ j)).take (2 ^ j) = hl at *
    have ht32 := tr_len j hl hl32
    replace hbe := Hid.mk' hbe
    have hown4 : ∀ w4 : World, Below w2.heap.size w2.drew w4 → (w4.alloc (.cells (h8 (tr j hl)) 24)).ownsRow (w.heap.size + 2) 24 32 (.slice (some ⟨w.heap.size + 1 + 1, 0, none⟩) j d) j (flat32 (pf j ls i)) := fun w4 hb4 => (own_same hown (fun k hk => hb4.block k (by simp [Value.ownBlock] at hk; omega))).alloc _
    have hV2g : ∀ w5 w4 : World, Below w2.heap.size w2.drew w4 → (w4.alloc (.cells (h8 (tr j hl)) 24)).grownBy w5 (some (w.heap.size + 1 + 1)) → Arr w5 B 42 #[.slice (some ⟨w.heap.size + 1 + 1, 0, none⟩) j d] := fun w5 w4 hb4 hg5 => ((T2.drew.below hb4 (by omega)).alloc _).grown hg5 (by simp; omega)
    have fin : Hid (∀ w4 w5 : World, Below w2.heap.size w2.drew w4 → w5.ownsRow (w.heap.size + 2) 24 32 (.slice (some ⟨w.heap.size + 1 + 1, 0, none⟩) (j + 1) d) (j + 1) (flat32 (pf j ls i ++ [tr j hl])) → (w4.alloc (.cells (h8 (tr j hl)) 24)).grownBy w5 (some (w.heap.size + 1 + 1)) →
        PI i d n cap sp ls B w (j + 1) (w5.setCell ⟨B, 0, none⟩ (.slice (some ⟨w.heap.size + 1 + 1, 0, none⟩) (j + 1) d)) ∧ w2.heap.size ≤ (w5.setCell ⟨B, 0, none⟩ (.slice (some ⟨w.heap.size + 1 + 1, 0, none⟩) (j + 1) d)).heap.size ∧ ∀ b, B + 2 ≤ b → b < w2.heap.size → (w5.setCell ⟨B, 0, none⟩ (.slice (some ⟨w.heap.size + 1 + 1, 0, none⟩) (j + 1) d)).heap[b]? = w2.heap[b]?) := Hid.mk' (by
      intro w4 w5 hb4 hown5 hg5
      have h4 := hb4.size
      have h5 := hg5.size
      simp at h4 h5
      have same : ∀ k, k < w2.heap.size → k ≠ w.heap.size + 1 + 1 → w5.heap[k]? = w2.heap[k]? := fun k hk hne => by
        rw [hg5.block k (by simp; omega) (by simp; omega), Below.heap_alloc _ _ _ (by omega)]
        exact hb4.block k hk
      have T0' : Arr w5 w.heap.size 42 #[.slice sp n cap] := (same _ (by omega) (by omega)).trans T0
      have T1' : Arr w5 (w.heap.size + 1) 3 #[.int .i64 i] := (same _ (by omega) (by omega)).trans T1
      have T3' : Arr w5 (B + 1) 3 #[.int .i64 d] := (same _ (by omega) (by omega)).trans T3
      have T2' := hV2g w5 w4 hb4 hg5
      refine ⟨⟨?_, T0'.setOther (a := ⟨B, 0, none⟩) _ (by show w.heap.size ≠ B; omega), T1'.setOther (a := ⟨B, 0, none⟩) _ (by show w.heap.size + 1 ≠ B; omega), ?_, ?_, T3'.setOther (a := ⟨B, 0, none⟩) _ (by show B + 1 ≠ B; omega)⟩, by simp [World.setCell]; omega, fun b h1 h2 => ?_⟩
      · have hb5 : Below w.heap.size w w5 := ⟨hg5.os.trans (hb4.os.trans hbel.os), hg5.tape.trans (hb4.tape.trans hbel.tape), hg5.output.trans (hb4.output.trans hbel.output), by have := hbel.size; omega, fun k hk => (same k (by omega) (by omega)).trans (hbel.block k hk)⟩
        exact hb5.setCell (p := ⟨B, 0, none⟩) (by show w.heap.size ≤ B; omega) _
      · rw [hpf]
        exact own_same hown5 (fun k hk => Below.heap_setCell _ _ _ _ (by simp [Value.ownBlock] at hk; show k ≠ B; omega))
      · have := T2'.set 0 (.slice (some ⟨w.heap.size + 1 + 1, 0, none⟩) (j + 1) d)
        simpa using this
      · rw [Below.heap_setCell _ _ _ _ (by show b ≠ B; omega)]
        exact same b h2 (by omega))
    replace hpf := Hid.mk' hpf
    replace hlen := Hid.mk' hlen
    replace hown4 := hown4
    by_cases hh : 0 < hl.length
    · replace hh := Hid.mk' hh
      gi_wp2_with (first
        | (refine ⟨trivial, fun h => (by cases h), ?_⟩; gi_at_call 92; go_must (refine (callsIn_round hhalf).mono ?_; rintro e w2' ⟨sp', n', cap', rfl, hw2', hH2⟩; cases hw2'; have hn'3 := hH2.small; have hn'0 : (0 : Int) < n' := (by rw [hH2.len.out]; have := hh.out; omega); have hn'2 : Hid (n' ≤ 2 ^ j) := Hid.mk' (by rw [hH2.len.out]; exact hlen.out))))
      refine region_round (S := fun _ => True) (by kernel_rfl) (by kernel_rfl) trivial (fun hHeld => ?_)
      refine wpAnyH_take (i := 1) (oi := ⟨_, _, _, _, _, _⟩) (v := ?_) rfl (by kernel_rfl) (by kernel_rfl) (by kernel_rfl) (fun _ _ _ h => h) (Or.inl ⟨by rfl, ?_⟩) (by assumption) ?_
      rotate_left
      · intro u hSw
        go_simp
        try (with_reducible rfl)
      try simp only [Act.put, List.setIfInBounds_toArray, List.set_cons_zero, List.set_cons_succ]
      refine wpAnyH_take (i := 2) (oi := ⟨_, _, _, _, _, _⟩) (v := ?_) rfl (by kernel_rfl) (by kernel_rfl) (by kernel_rfl) (fun _ _ _ h => h) (Or.inl ⟨by rfl, ?_⟩) (by assumption) ?_
      rotate_left
      · intro u hSw
        go_simp
        try (with_reducible rfl)
      try simp only [Act.put, List.setIfInBounds_toArray, List.set_cons_zero, List.set_cons_succ]
      refine wpAnyH_ready (rs := [0, 3]) (by kernel_rfl) (by simp) ?_
      refine AllReadyH.cons (o := ⟨_, _, _, _, _, _⟩) rfl (fun K hK => ?_) (AllReadyH.cons (o := ⟨_, _, _, _, _, _⟩) rfl (fun K hK => ?_) AllReadyH.nil)
      · have c2 := T2.drew.cell 0; simp at c2
        go_simp
        go_wp2_with fail
        refine hK.out _ _ trivial (fun hHeld => ?_)
        clear hK K
        try simp only [Act.put, List.setIfInBounds_toArray, List.set_cons_zero, List.set_cons_succ]
        refine wpAnyH_ready (rs := [3]) (by kernel_rfl) (by simp) ?_
        refine AllReadyH.cons (o := ⟨_, _, _, _, _, _⟩) rfl (fun K hK => ?_) AllReadyH.nil
        go_simp
        have hH2d : HS w.heap.size w2.drew sp' n' cap' hl := hH2.below ((Below.refl _ _).drew); refine (build_any j _ sp' n' cap' _ _ (by omega) hH2d hn'2.out).mono ?_; rintro e w4 ⟨rfl, hb4⟩; have hs4 := hb4.size; simp at hs4; have U2 := T2.drew.below hb4 (by simp <;> omega)
        go_wp2_with fail
        refine hK.out _ _ trivial (fun hHeld => ?_)
        clear hK K
        try simp only [Act.put, List.setIfInBounds_toArray, List.set_cons_zero, List.set_cons_succ]
        refine wpAnyH_ready (rs := [4]) (by kernel_rfl) (by simp) ?_
        refine AllReadyH.cons (o := ⟨_, _, _, _, _, _⟩) rfl (fun K hK => ?_) AllReadyH.nil
        refine step_want rfl (wp_bld1 (.tmp 47) rfl (tr j hl) rfl ht32 ?_)
        refine hK.out _ _ trivial (fun hHeld => ?_)
        clear hK K
        try simp only [Act.put, List.setIfInBounds_toArray, List.set_cons_zero, List.set_cons_succ]
        have V2 := U2.alloc (.cells (h8 (tr j hl)) 24)
        refine wpAnyH_ready (rs := [5]) (by kernel_rfl) (by simp) ?_
        refine AllReadyH.cons (o := ⟨_, _, _, _, _, _⟩) rfl (fun K hK => ?_) AllReadyH.nil
        refine step_want rfl (wp_app24 (.tmp 44) (.tmp 48) rfl (w.heap.size + 2) (w.heap.size + 1 + 1) j d _ (tr j hl) rfl (hown4 w4 hb4) w4.heap.size _ rfl (Arr.new w4 24 (h8 (tr j hl))) ht32 (by omega) (fun w5 hown5 hg5 => ?_))
        refine hK.out _ _ trivial (fun hHeld => ?_)
        clear hK K
        try simp only [Act.put, List.setIfInBounds_toArray, List.set_cons_zero, List.set_cons_succ]
        have X2 := hV2g w5 w4 hb4 hg5
        refine wpAnyH_ready (rs := [6]) (by kernel_rfl) (by simp) ?_
        refine AllReadyH.cons (o := ⟨_, _, _, _, _, _⟩) rfl (fun K hK => ?_) AllReadyH.nil
        have c6 := X2.cell 0; have f6 := X2.frozen 0; simp at c6
        go_simp
        go_wp2_with fail
        refine hK.out _ _ trivial (fun hHeld => ?_)
        clear hK K
        try simp only [Act.put, List.setIfInBounds_toArray, List.set_cons_zero, List.set_cons_succ]
        refine wpAnyH_done (by kernel_rfl) ?_ _
        exact fin.out w4 w5 hb4 hown5 hg5
      · go_simp
        have hH2d : HS w.heap.size w2.drew sp' n' cap' hl := hH2.below ((Below.refl _ _).drew); refine (build_any j _ sp' n' cap' _ _ (by omega) hH2d hn'2.out).mono ?_; rintro e w4 ⟨rfl, hb4⟩; have hs4 := hb4.size; simp at hs4; have U2 := T2.drew.below hb4 (by simp <;> omega)
        go_wp2_with fail
        refine hK.out _ _ trivial (fun hHeld => ?_)
        clear hK K
        try simp only [Act.put, List.setIfInBounds_toArray, List.set_cons_zero, List.set_cons_succ]
        refine wpAnyH_ready (rs := [0, 4]) (by kernel_rfl) (by simp) ?_
        refine AllReadyH.cons (o := ⟨_, _, _, _, _, _⟩) rfl (fun K hK => ?_) (AllReadyH.cons (o := ⟨_, _, _, _, _, _⟩) rfl (fun K hK => ?_) AllReadyH.nil)
        · have c2 := U2.cell 0; simp at c2
          go_simp
          go_wp2_with fail
          refine hK.out _ _ trivial (fun hHeld => ?_)
          clear hK K
          try simp only [Act.put, List.setIfInBounds_toArray, List.set_cons_zero, List.set_cons_succ]
          refine wpAnyH_ready (rs := [4]) (by kernel_rfl) (by simp) ?_
          refine AllReadyH.cons (o := ⟨_, _, _, _, _, _⟩) rfl (fun K hK => ?_) AllReadyH.nil
          refine step_want rfl (wp_bld1 (.tmp 47) rfl (tr j hl) rfl ht32 ?_)
          refine hK.out _ _ trivial (fun hHeld => ?_)
          clear hK K
          try simp only [Act.put, List.setIfInBounds_toArray, List.set_cons_zero, List.set_cons_succ]
          have V2 := U2.alloc (.cells (h8 (tr j hl)) 24)
          refine wpAnyH_ready (rs := [5]) (by kernel_rfl) (by simp) ?_
          refine AllReadyH.cons (o := ⟨_, _, _, _, _, _⟩) rfl (fun K hK => ?_) AllReadyH.nil
          refine step_want rfl (wp_app24 (.tmp 44) (.tmp 48) rfl (w.heap.size + 2) (w.heap.size + 1 + 1) j d _ (tr j hl) rfl (hown4 w4 hb4) w4.heap.size _ rfl (Arr.new w4 24 (h8 (tr j hl))) ht32 (by omega) (fun w5 hown5 hg5 => ?_))
          refine hK.out _ _ trivial (fun hHeld => ?_)
          clear hK K
          try simp only [Act.put, List.setIfInBounds_toArray, List.set_cons_zero, List.set_cons_succ]
          have X2 := hV2g w5 w4 hb4 hg5
          refine wpAnyH_ready (rs := [6]) (by kernel_rfl) (by simp) ?_
          refine AllReadyH.cons (o := ⟨_, _, _, _, _, _⟩) rfl (fun K hK => ?_) AllReadyH.nil
          have c6 := X2.cell 0; have f6 := X2.frozen 0; simp at c6
          go_simp
          go_wp2_with fail
          refine hK.out _ _ trivial (fun hHeld => ?_)
          clear hK K
          try simp only [Act.put, List.setIfInBounds_toArray, List.set_cons_zero, List.set_cons_succ]
          refine wpAnyH_done (by kernel_rfl) ?_ _
          exact fin.out w4 w5 hb4 hown5 hg5
        · refine step_want rfl (wp_bld1 (.tmp 47) rfl (tr j hl) rfl ht32 ?_)
          refine hK.out _ _ trivial (fun hHeld => ?_)
          clear hK K
          try simp only [Act.put, List.setIfInBounds_toArray, List.set_cons_zero, List.set_cons_succ]
          have V2 := U2.alloc (.cells (h8 (tr j hl)) 24)
          refine wpAnyH_ready (rs := [0]) (by kernel_rfl) (by simp) ?_
          refine AllReadyH.cons (o := ⟨_, _, _, _, _, _⟩) rfl (fun K hK => ?_) AllReadyH.nil
          have c2 := V2.cell 0; simp at c2
          go_simp
          go_wp2_with fail
          refine hK.out _ _ trivial (fun hHeld => ?_)
          clear hK K
          try simp only [Act.put, List.setIfInBounds_toArray, List.set_cons_zero, List.set_cons_succ]
          refine wpAnyH_ready (rs := [5]) (by kernel_rfl) (by simp) ?_
          refine AllReadyH.cons (o := ⟨_, _, _, _, _, _⟩) rfl (fun K hK => ?_) AllReadyH.nil
          refine step_want rfl (wp_app24 (.tmp 44) (.tmp 48) rfl (w.heap.size + 2) (w.heap.size + 1 + 1) j d _ (tr j hl) rfl (hown4 w4 hb4) w4.heap.size _ rfl (Arr.new w4 24 (h8 (tr j hl))) ht32 (by omega) (fun w5 hown5 hg5 => ?_))
          refine hK.out _ _ trivial (fun hHeld => ?_)
          clear hK K
          try simp only [Act.put, List.setIfInBounds_toArray, List.set_cons_zero, List.set_cons_succ]
          have X2 := hV2g w5 w4 hb4 hg5
          refine wpAnyH_ready (rs := [6]) (by kernel_rfl) (by simp) ?_
          refine AllReadyH.cons (o := ⟨_, _, _, _, _, _⟩) rfl (fun K hK => ?_) AllReadyH.nil
          have c6 := X2.cell 0; have f6 := X2.frozen 0; simp at c6
          go_simp
          go_wp2_with fail
          refine hK.out _ _ trivial (fun hHeld => ?_)
          clear hK K
          try simp only [Act.put, List.setIfInBounds_toArray, List.set_cons_zero, List.set_cons_succ]
          refine wpAnyH_done (by kernel_rfl) ?_ _
          exact fin.out w4 w5 hb4 hown5 hg5
    · replace hh := Hid.mk' hh
      have c2 := T2.cell 0
      simp at c2
      have hnil : hl = [] := List.eq_nil_of_length_eq_zero (by have := hh.out; omega)
      rw [hnil] at hhalf ht32
      have hown2 : (w2.alloc (.cells (h8 (tr j [])) 24)).ownsRow (w.heap.size + 2) 24 32 (.slice (some ⟨w.heap.size + 1 + 1, 0, none⟩) j d) j (flat32 (pf j ls i)) := hown.alloc _
      have hb22 : Below w2.heap.size w2.drew w2 := ⟨rfl, rfl, rfl, Nat.le_refl _, fun _ _ => rfl⟩
      have fin2 : Hid (∀ w5 : World, w5.ownsRow (w.heap.size + 2) 24 32 (.slice (some ⟨w.heap.size + 1 + 1, 0, none⟩) (j + 1) d) (j + 1) (flat32 (pf j ls i ++ [tr j []])) → (w2.alloc (.cells (h8 (tr j [])) 24)).grownBy w5 (some (w.heap.size + 1 + 1)) → Arr w5 B 42 #[.slice (some ⟨w.heap.size + 1 + 1, 0, none⟩) j d] ∧
        PI i d n cap sp ls B w (j + 1) (w5.setCell ⟨B, 0, none⟩ (.slice (some ⟨w.heap.size + 1 + 1, 0, none⟩) (j + 1) d)) ∧ w2.heap.size ≤ (w5.setCell ⟨B, 0, none⟩ (.slice (some ⟨w.heap.size + 1 + 1, 0, none⟩) (j + 1) d)).heap.size ∧ ∀ b, B + 2 ≤ b → b < w2.heap.size → (w5.setCell ⟨B, 0, none⟩ (.slice (some ⟨w.heap.size + 1 + 1, 0, none⟩) (j + 1) d)).heap[b]? = w2.heap[b]?) := Hid.mk' (fun w5 h1 h2 => by
          subst hnil
          exact ⟨hV2g w5 w2 hb22 h2, fin.out w2 w5 hb22 h1 h2⟩)
      replace hnil := Hid.mk' hnil
      clear fin hV2g hown4 hpf hlen hl32
      have E3 := Arr.new w2 24 (h8 (tr j []))
      gi_wp2_with (first
        | (refine ⟨trivial, fun h => (by cases h), ?_⟩; gi_at_call 92; go_must (refine (callsIn_round hhalf).mono ?_; rintro e w2' ⟨sp', n', cap', rfl, hw2', hH2⟩; cases hw2'; have hn'3 := hH2.small; have hn'0 : ¬ (0 : Int) < n' := (by rw [hH2.len.out]; simp)))
        | (refine li24 (by rfl) _ (by rfl) V.heap.size 0 (by rfl) (tr j []) hl24 E2.range ?_)
        | (refine bi24 (by rfl) _ (by rfl) (tr j []) (by rfl) hl24 ?_)
        | (refine ai24 (by rfl) _ _ (by rfl) (w.heap.size + 2) (w.heap.size + 1 + 1) j d _ (tr j []) (by rfl) hown2 w2.heap.size 1 (by rfl) E3 hl24 (by omega) ?_; intro w5 hown5 hg5; obtain ⟨X2, fin5⟩ := fin2.out w5 hown5 hg5; have c6 := X2.cell 0; have f6 := X2.frozen 0; simp at c6; replace fin5 := Hid.mk' fin5))
      exact fin5.out
  case done =>
    intro V o hI hsz hdf
    obtain ⟨hbel, T0, T1, hown, T2, T3⟩ := hI.below hB3 (below_put (r := B + 2 + 1) (Below.refl (B + 2) V) (by omega) o)
    have hdf' : (V.putObj (B + 2 + 1) o).heap[B + 2]? = some (.deferred (some [])) := (World.putObj_heap_other (by omega)).trans hdf
    generalize V.putObj (B + 2 + 1) o = V2 at *
    have c2 := T2.cell 0
    simp at c2
    gi_wp2
    refine ⟨by simp, .inl ⟨_, _, rfl, run_takeDeferred hdf', ?_⟩⟩
    exact ⟨_, results_tmp2 rfl _ _ _, _, rfl, own_mono' (own_same hown (fun k hk => World.putObj_heap_other (by simp [Value.ownBlock] at hk; omega))) (by omega), below_put hbel (by omega) _⟩
end Go.Proofs.Ytlebojbfcolkhaa
