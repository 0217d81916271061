/- Layer frame, the document's answer: Join. -/
import Derived.Test.YtbjlmekafnpllabIb
namespace Go.Proofs.Ytbjlmekafnpllab
open Go.RowKit
set_option linter.unusedVariables false
set_option linter.unusedSimpArgs false

set_option maxRecDepth 100000 in
set_option maxHeartbeats 2000000 in
theorem refJoin_any (c : Int) (N : Nat) (sp : Option Addr) (n cap : Nat) (fs : List Fr) (w : World) (hF : FrS N w sp n cap fs) (hN : N ≤ w.heap.size) :
    Calls Try.prog 16 #[.int .u64 c, .slice sp n cap] w (JPost (jn c fs) w) := by
  go_enter Try.func16, Try.ntmps16
  go_wp2
  go_loopw [6, 7] (fun v i wr => ∃ (s : Nat) (D : List Int), i = .int .i64 (s : Int) ∧ s ≤ 1024 ∧ D.length ≤ s * 4096 ∧ Bts D ∧ wr.ownsRow w.heap.size 5 1 v D.length (by8 D) ∧ Hid (jn c fs = (jgo c fs (1024 - s) s).map (D ++ ·)) ∧ Below w.heap.size w wr)
    (fun _ i _ => 1024 - (intOf i).toNat)
  case atStart => exact ⟨0, [], rfl, by omega, by simp, Bts.nil, World.ownsRow_nil _ _ _ _, Hid.mk' (by simp [jn]), Below.refl _ _⟩
  case round =>
    obtain ⟨s, D, rfl, hs, hDl, hDb, hown, hjn, hbl⟩ := hrel
    have hsz := hbl.size
    by_cases hlt : s < 1024
    · have hI : (s : Int) < 1024 := by omega
      have hFr := hF.below (hbl.mono hN)
      have hcn := counts_any c (s : Int) N sp n cap fs wr hFr (by omega)
      cases hq : cnt c fs (s : Int) with
      | none =>
        have hb2 := Hid.mk' (hjn.out.trans (show (jgo c fs (1024 - s) s).map (D ++ ·) = none by rw [show 1024 - s = (1023 - s) + 1 by omega, jgo, hq]; rfl))
        replace hcn : Calls Try.prog 35 #[.int .u64 c, .slice sp n cap, .int .i64 (s : Int)] wr fun e w' => e = .returned (.tuple #[.agg #[.int .u64 0, .int .i64 0, .bool false, .slice none 0 0], .bool false]) ∧ Below wr.heap.size wr w' := hcn.mono fun e w' ⟨hb, h⟩ => by
          rcases h with ⟨-, he⟩ | ⟨f, hf, -⟩
          · exact ⟨he, hb⟩
          · rw [hq] at hf; cases hf
        replace hq := Hid.mk' hq
        go_wp2_with (first
          | (go_at_call 35; go_must (refine hcn.mono ?_; rintro e w2 ⟨rfl, hb2'⟩; have hs2 := hb2'.size; have Z2 := Arr.new w2 25 #[.int .u64 0, .int .i64 0, .bool false, .slice none 0 0]))
          | (refine wpList_store_arr (by rfl) 25 (.tmp 8) (.tmp 19) (by rfl) w2.heap.size #[.int .u64 0, .int .i64 0, .bool false, .slice none 0 0] (by rfl) (by rfl) 25 _ Z2 size25F rfl (one4 _ _ _ _ _ _) ?_))
        go_ret2
        exact ⟨below_row ((hbl.trans (hb2'.mono hsz)).alloc (by omega) _) (by omega) _, .inl ⟨hb2.out, rfl⟩⟩
      | some f =>
        have hf := cnt_some hq
        have hf3 := ((Fr.may_iff f).1 hf.1).2.2
        have hfo := hFr.ok f hf.2.2.2
        replace hcn : Calls Try.prog 35 #[.int .u64 c, .slice sp n cap, .int .i64 (s : Int)] wr fun e w' => e = .returned (.tuple #[.agg #[.int .u64 f.ch, .int .i64 f.seq, .bool f.last, .slice f.sp f.n f.cap], .bool true]) ∧ Below wr.heap.size wr w' := hcn.mono fun e w' ⟨hb, h⟩ => by
          rcases h with ⟨hno, -⟩ | ⟨f', hf', he⟩
          · rw [hq] at hno; cases hno
          · rw [hq] at hf'; cases hf'; exact ⟨he, hb⟩
        have hjg : jgo c fs (1024 - s) s = if f.last then some f.bs else (jgo c fs (1024 - (s + 1)) ((s : Int) + 1)).map (f.bs ++ ·) := by
          rw [show 1024 - s = (1024 - (s + 1)) + 1 by omega, jgo, hq]
        replace hjg := Hid.mk' hjg
        replace hq := Hid.mk' hq
        have hbs := hfo.body
        have hfn := hbs.len
        have hnil := hbs.nil
        clear hf hfo
        cases hla : f.last with
        | true =>
          rw [hla] at hcn
          have hj2 := Hid.mk' (show jn c fs = some (D ++ f.bs) by rw [hjn.out, hjg.out, hla]; rfl)
          go_wp2_with (first
            | (go_at_call 35; go_must (refine hcn.mono ?_; rintro e w2 ⟨rfl, hb2'⟩; have hs2 := hb2'.size; have Z2 := Arr.new w2 25 #[.int .u64 0, .int .i64 0, .bool false, .slice none 0 0]; have hb3 := below_row ((hbl.trans (hb2'.mono hsz)).alloc (by omega) (.cells #[.int .u64 0, .int .i64 0, .bool false, .slice none 0 0] 25)) (show w.heap.size ≤ w2.heap.size by omega) #[.int .u64 f.ch, .int .i64 f.seq, .bool true, .slice f.sp f.n f.cap]; have hb4 : Below wr.heap.size wr _ := below_row (hb2'.alloc (by omega) (.cells #[.int .u64 0, .int .i64 0, .bool false, .slice none 0 0] 25)) (show wr.heap.size ≤ w2.heap.size by omega) #[.int .u64 f.ch, .int .i64 f.seq, .bool true, .slice f.sp f.n f.cap]; have hB := hbs.here.below hb4; have hownA := own_of_block (w' := _) hown (fun b hb => hb4.block b (hown.lt b hb).2)))
            | (refine wpList_store_arr (by rfl) 25 (.tmp 8) (.tmp 19) (by rfl) w2.heap.size #[.int .u64 f.ch, .int .i64 f.seq, .bool true, .slice f.sp f.n f.cap] (by rfl) (by rfl) 25 _ Z2 size25F rfl (one4 _ _ _ _ _ _) ?_; have X2 := Z2.setRow #[.int .u64 f.ch, .int .i64 f.seq, .bool true, .slice f.sp f.n f.cap]; have x2 := X2.cell 2; have x3 := X2.cell 3; simp at x2 x3)
            | (at_builtin; go_must (refine append_bytes (by rfl) (.tmp 23) (.tmp 25) (by rfl) w.heap.size _ D.length D (by rfl) hownA f.sp f.n f.cap f.bs (by rfl) hfn.out hnil hB.sl (by omega) (by simp; omega) ?_; intro v4 w4 hown4 hg4; have X4 : Arr w4 w2.heap.size 25 #[.int .u64 f.ch, .int .i64 f.seq, .bool true, .slice f.sp f.n f.cap] := (hg4.block w2.heap.size (by simp) (fun e => by have := (hown.lt _ e.symm).2; omega)).trans X2; have y2 := X4.cell 2; simp at y2)))
          go_ret2
          exact ⟨hb3.grown hg4 (by simp; omega) (fun j e => own_ge hown j e), .inr ⟨D ++ f.bs, _, hj2.out, by rw [List.length_append, ← hfn.out]; omega, hDb.app hB.bts, rfl, by rw [List.length_append, ← hfn.out]; exact hown4⟩⟩
        | false =>
          rw [hla] at hcn
          have hj2 := Hid.mk' (show jn c fs = (jgo c fs (1024 - (s + 1)) ((s : Int) + 1)).map ((D ++ f.bs) ++ ·) by
            rw [hjn.out, hjg.out, hla]
            simp only [Bool.false_eq_true, if_false, Option.map_map]
            congr 1; funext X; simp)
          go_wp2_with (first
            | (go_at_call 35; go_must (refine hcn.mono ?_; rintro e w2 ⟨rfl, hb2'⟩; have hs2 := hb2'.size; have Z2 := Arr.new w2 25 #[.int .u64 0, .int .i64 0, .bool false, .slice none 0 0]; have hb3 := below_row ((hbl.trans (hb2'.mono hsz)).alloc (by omega) (.cells #[.int .u64 0, .int .i64 0, .bool false, .slice none 0 0] 25)) (show w.heap.size ≤ w2.heap.size by omega) #[.int .u64 f.ch, .int .i64 f.seq, .bool false, .slice f.sp f.n f.cap]; have hb4 : Below wr.heap.size wr _ := below_row (hb2'.alloc (by omega) (.cells #[.int .u64 0, .int .i64 0, .bool false, .slice none 0 0] 25)) (show wr.heap.size ≤ w2.heap.size by omega) #[.int .u64 f.ch, .int .i64 f.seq, .bool false, .slice f.sp f.n f.cap]; have hB := hbs.here.below hb4; have hownA := own_of_block (w' := _) hown (fun b hb => hb4.block b (hown.lt b hb).2)))
            | (refine wpList_store_arr (by rfl) 25 (.tmp 8) (.tmp 19) (by rfl) w2.heap.size #[.int .u64 f.ch, .int .i64 f.seq, .bool false, .slice f.sp f.n f.cap] (by rfl) (by rfl) 25 _ Z2 size25F rfl (one4 _ _ _ _ _ _) ?_; have X2 := Z2.setRow #[.int .u64 f.ch, .int .i64 f.seq, .bool false, .slice f.sp f.n f.cap]; have x2 := X2.cell 2; have x3 := X2.cell 3; simp at x2 x3)
            | (at_builtin; go_must (refine append_bytes (by rfl) (.tmp 23) (.tmp 25) (by rfl) w.heap.size _ D.length D (by rfl) hownA f.sp f.n f.cap f.bs (by rfl) hfn.out hnil hB.sl (by omega) (by simp; omega) ?_; intro v4 w4 hown4 hg4; have X4 : Arr w4 w2.heap.size 25 #[.int .u64 f.ch, .int .i64 f.seq, .bool false, .slice f.sp f.n f.cap] := (hg4.block w2.heap.size (by simp) (fun e => by have := (hown.lt _ e.symm).2; omega)).trans X2; have y2 := X4.cell 2; simp at y2)))
          go_roundw
          case rel =>
            refine ⟨s + 1, D ++ f.bs, by go_num, by omega, by rw [List.length_append, ← hfn.out]; omega, hDb.app hB.bts, by rw [List.length_append, ← hfn.out]; exact hown4, Hid.mk' (by rw [hj2.out]; push_cast; rfl), hb3.grown hg4 (by simp; omega) (fun j e => own_ge hown j e)⟩
          case measure => simp [intOf]; omega
    · obtain rfl : s = 1024 := by omega
      have hI : ¬ ((1024 : Int) < 1024) := by omega
      have hj2 := Hid.mk' (show jn c fs = none by rw [hjn.out, Nat.sub_self]; rfl)
      go_wp2
      go_ret2
      exact ⟨hbl, .inl ⟨hj2.out, rfl⟩⟩
end Go.Proofs.Ytbjlmekafnpllab
