/- Layer rlp, the document's answer: form of bytes. -/
import Derived.Test.YtbjlmekafnpllabSa
import Derived.Test.YtbjlmekafnpllabRk
namespace Go.Proofs.Ytbjlmekafnpllab
open Go.RowKit
set_option linter.unusedVariables false
set_option linter.unusedSimpArgs false

/-- What form comes to. -/
def FormPost (left : Nat) (o : Option (List Int)) (w : World) (e : Ending) (w' : World) : Prop :=
  Below w.heap.size w w' ∧ ((∃ F v', o = some F ∧ F.length ≤ left + 9 ∧ e = .returned (.tuple #[v', .bool true]) ∧ w'.ownsRow w.heap.size 5 1 v' F.length (by8 F)) ∨ ((∀ F, o = some F → left < F.length) ∧ e = .returned (.tuple #[.slice none 0 0, .bool false])))

set_option maxRecDepth 100000 in
set_option maxHeartbeats 400000 in
theorem form_bad (sp : Option Addr) (n cap : Nat) (sq : Option Addr) (k cq left : Nat) (x : Int) (w : World) (h : (0 : Int) < k ∨ (left : Int) < n) :
    Calls Try.prog 43 #[.agg #[.bool false, .slice sp n cap, .slice sq k cq], .int .i64 left, .int .i64 x] w fun e w' => e = .returned (.tuple #[.slice none 0 0, .bool false]) ∧ Below w.heap.size w w' := by
  by_cases h0 : (0 : Int) < k
  · go_enter Try.func43, Try.ntmps43
    go_wp2
    go_ret2
    exact ⟨rfl, (Below.refl _ _).alloc (Nat.le_refl _) _⟩
  · have h1 : (left : Int) < n := by omega
    clear h
    go_enter Try.func43, Try.ntmps43
    go_wp2
    go_ret2
    exact ⟨rfl, (Below.refl _ _).alloc (Nat.le_refl _) _⟩

set_option maxRecDepth 100000 in
set_option maxHeartbeats 400000 in
theorem form_one (b off cap : Nat) (y : Int) (sq : Option Addr) (cq left : Nat) (x : Int) (N : Nat) (w : World) (hS : BS N w (some ⟨b, off, none⟩) 1 cap [y]) (hy : y < 128) (hl : 1 ≤ left) :
    Calls Try.prog 43 #[.agg #[.bool false, .slice (some ⟨b, off, none⟩) 1 cap, .slice sq 0 cq], .int .i64 left, .int .i64 x] w (FormPost left (some [y]) w) := by
  obtain ⟨b', off', e, -, hB⟩ := hS.at0 (by omega)
  cases e
  have hc : w.cell? ⟨b, off, none⟩ = some (.int .u8 y) := hB 0 (by omega)
  have hlt := block_lt_of_cell hc
  have hc' : ∀ o, (w.alloc o).cell? ⟨b, off, none⟩ = some (.int .u8 y) := fun o => by rw [World.cell?_alloc_lt _ _ _ hlt]; exact hc
  have hS1 : ∀ o, BS w.heap.size (w.alloc o) (some ⟨b, off, none⟩) 1 cap [y] := fun o => hS.here.below ((Below.refl _ _).alloc (Nat.le_refl _) _)
  have h1 : ¬ (left : Int) < 1 := by omega
  clear hB
  go_enter Try.func43, Try.ntmps43
  go_wp2_with (go_at_call 21; go_must (refine (copy01_any _ 1 cap [y] _ _ (hS1 _)).mono ?_; rintro e w2 ⟨v2, rfl, hown2, hb2⟩))
  go_ret2
  exact ⟨((Below.refl _ _).alloc (Nat.le_refl _) _).trans (hb2.mono (by simp)), .inl ⟨[y], v2, rfl, by simp, rfl, own_mono hown2 (by simp)⟩⟩

theorem step_want {P : Program} {ops : Array Oper} {o : Oper} {a : Act} {w : World} {K : Act → World → Prop} {Q : Exit → Act → World → Prop} {E : Prop} (hg : o.guard = none) (h : Oper.wp P o a w K Q) :
    if Region.wanted o (yielded ops a.tmps) = true then Oper.wp P o a w K Q else E := by
  rw [if_pos (by simp [Region.wanted, hg])]; exact h
/-- append of bytes in a region that draws its order. -/
theorem step_append_bytes {ops : Array Oper} {o : Oper} {a : Act} {w : World} {K : Act → World → Prop} {Q : Exit → Act → World → Prop} {E : Prop} (hgd : o.guard = none) (s x : Operand)
    (ho : o.op = .call { callee := .builtin .append, args := #[s, x], argTypes := #[23, 23] })
    (base : Nat) (v : Value) (n : Nat) (L : List Int) (hs : a.eval s = v) (hown : w.ownsRow base 5 1 v n (by8 L))
    (sp : Option Addr) (m c : Nat) (M : List Int) (hx : a.eval x = .slice sp m c) (hm : m = M.length) (hnil : sp = none → m = 0 ∧ c = 0) (hS : SlL w sp M) (hb : n + m ≤ 140737488355328) (hbase : base ≤ w.heap.size)
    (h : ∀ v' w', w'.ownsRow base 5 1 v' (n + m) (by8 (L ++ M)) → w.grownBy w' v.ownBlock → K (a.put o.dst v') w') :
    if Region.wanted o (yielded ops a.tmps) = true then Oper.wp Try.prog o a w K Q else E :=
  step_want hgd (wp_append_bytes s x ho base v n L hs hown sp m c M hx hm hnil hS hb hbase h)

set_option maxRecDepth 100000 in
set_option maxHeartbeats 400000 in
theorem form_many (sp : Option Addr) (n cap : Nat) (bs : List Int) (sq : Option Addr) (cq left : Nat) (x : Int) (N : Nat) (w : World) (hS : BS N w sp n cap bs) (hl6 : left ≤ 65536) (hn1 : ¬ n = 1) (hfit : n ≤ left) :
    Calls Try.prog 43 #[.agg #[.bool false, .slice sp n cap, .slice sq 0 cq], .int .i64 left, .int .i64 x] w (FormPost left (some (wrap false bs)) w) := by
  have hlen := hS.len
  have hni := hS.nil
  have hw' : Hid (wrap false bs = hd 128 n ++ bs) := by
    have := wrapF_app (bs := bs) (by rw [← hlen.out]; omega)
    rwa [← hlen.out] at this
  have hwl : (wrap false bs).length = (hd 128 n).length + n := by rw [hw'.out, List.length_append, ← hlen.out]
  have hdl := hd_len 128 n
  have hdb := hd_bts (m := 128) (.inl rfl) n
  have hn1I : ¬ ((n : Int) = 1) := by omega
  have hn1B : ((n : Int) == 1) = false := by simpa using hn1I
  have h1 : ¬ (left : Int) < n := by omega
  have hS1 : ∀ o, BS w.heap.size (w.alloc o) sp n cap bs := fun o => hS.here.below ((Below.refl _ _).alloc (Nat.le_refl _) _)
  go_enter Try.func43, Try.ntmps43
  go_wp2
  go_region_law (first
    | (refine step_append_bytes rfl (.tmp 43) (.tmp 45) rfl w.heap.size _ _ (hd 128 n) (by simp [Act.eval, Act.put]) hown2' sp n cap bs (by simp [Act.eval, Act.put]) hlen.out hni hS2.sl (by omega) (by omega) ?_; intro v3 w3 hown3 hg3)
    | (go_simp; go_at_call 58; refine (refHead_at 128 _ n _ rfl (by omega) (by omega)).mono ?_; rintro e w2 ⟨v2, rfl, hown2, hb2⟩; have X2 := Arr.below (Arr.drew (Arr.new w 59 #[.bool false, .slice sp n cap, .slice sq 0 cq])) hb2 (by simp); have x1 := X2.cell 1; simp at x1; have hS2 := (hS1 (.cells #[.bool false, .slice sp n cap, .slice sq 0 cq] 59)).below (w' := w2) ⟨hb2.os, hb2.tape, hb2.output, hb2.size, fun k hk => hb2.block k (by simp; omega)⟩; have hs2 := hb2.size; simp at hs2; have hown2' : w2.ownsRow w.heap.size 5 1 v2 (hd 128 n).length (by8 (hd 128 n)) := own_mono hown2 (by simp); go_simp))
  all_goals
    go_wp2
    go_ret2
    refine ⟨?_, .inl ⟨wrap false bs, v3, rfl, by omega, rfl, ?_⟩⟩
    · have hb0 : Below w.heap.size w w2 := (((Below.refl _ _).alloc (Nat.le_refl _) _).drew).trans (hb2.mono (by simp))
      exact hb0.grown hg3 hb0.size (fun j e => own_ge hown2' j e)
    · rw [hwl, hw'.out]; exact hown3
end Go.Proofs.Ytbjlmekafnpllab
