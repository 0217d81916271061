/- Layer frame: bodies, one behind the other. -/
import Derived.Test.YtbjlmekafnpllabFd
import Derived.Test.YtbjlmekafnpllabRi
namespace Go.Proofs.Ytbjlmekafnpllab
open Go.RowKit
set_option linter.unusedVariables false
set_option linter.unusedSimpArgs false

/-- Bytes and whether they are there. -/
def JPost (o : Option (List Int)) (w : World) (e : Ending) (w' : World) : Prop :=
  Below w.heap.size w w' ∧ ((o = none ∧ e = .returned (.tuple #[.slice none 0 0, .bool false])) ∨ ∃ D v, o = some D ∧ D.length ≤ 4198400 ∧ Bts D ∧ e = .returned (.tuple #[v, .bool true]) ∧ w'.ownsRow w.heap.size 5 1 v D.length (by8 D))
theorem bod_none {c : Int} {l : List Fr} {k : Nat} {s : Int} (h : cnt c l s = none) : bod c l (k + 1) s = none := by rw [bod, h]
theorem bod_some {c : Int} {l : List Fr} {k : Nat} {s : Int} {f : Fr} (h : cnt c l s = some f) : bod c l (k + 1) s = (bod c l k (s + 1)).map (f.bs ++ ·) := by rw [bod, h]

set_option maxRecDepth 100000 in
set_option maxHeartbeats 1000000 in
theorem bodies_any (c : Int) (fs : List Fr) (N r : Nat) (E : Nat) (w : World) (hM : MapAt w r (fun k => (cnt c fs k).map Fr.val)) (hN : N ≤ w.heap.size) (hok : ∀ f ∈ fs, FrOK N w f) (hE : E ≤ 1024) :
    Calls Try.prog 34 #[.map (some r), .int .i64 (E : Int)] w (JPost (bod c fs (E + 1) 0) w) := by
  have hrl := hM.lt
  replace hok := Hid.mk' hok
  have hEw : (E : Int) + 1 ≤ 1025 := by omega
  go_enter Try.func34, Try.ntmps34
  go_wp2
  go_loopw [6, 12] (fun v i wr => ∃ (s : Nat) (D : List Int), i = .int .i64 (s : Int) ∧ s ≤ E + 1 ∧ D.length ≤ s * 4096 ∧ Bts D ∧ wr.ownsRow w.heap.size 5 1 v D.length (by8 D) ∧ Hid (bod c fs (E + 1) 0 = (bod c fs (E + 1 - s) s).map (D ++ ·)) ∧ Below w.heap.size w wr)
    (fun _ i _ => E + 1 - (intOf i).toNat)
  case atStart => exact ⟨0, [], rfl, by omega, by simp, Bts.nil, World.ownsRow_nil _ _ _ _, Hid.mk' (by simp), Below.refl _ _⟩
  case round =>
    obtain ⟨s, D, rfl, hs, hDl, hDb, hown, hbod, hbl⟩ := hrel
    have hsz := hbl.size
    by_cases hlt : s < E + 1
    · have hI : (s : Int) < (E : Int) + 1 := by omega
      have hMr := hM.same (hbl.block r hrl)
      have hl := run_lookup hMr (s : Int)
      cases hq : cnt c fs (s : Int) with
      | none =>
        rw [hq] at hl
        simp only [Option.map_none, Option.getD_none, zeroF, Option.isSome_none] at hl
        have hb2 := Hid.mk' (hbod.out.trans (show (bod c fs (E + 1 - s) s).map (D ++ ·) = none by rw [show E + 1 - s = (E - s) + 1 by omega, bod_none hq]; rfl))
        replace hq := Hid.mk' hq
        go_wp2
        go_ret2
        exact ⟨hbl.alloc hsz _, .inl ⟨hb2.out, rfl⟩⟩
      | some f =>
        rw [hq] at hl
        simp only [Option.map_some, Option.getD_some, Fr.val, Option.isSome_some] at hl
        have hf := cnt_some hq
        have hfo := (hok.out f hf.2.2.2)
        have hf3 := ((Fr.may_iff f).1 hf.1).2.2
        have hB := (hfo.body.below (hbl.mono hN)).here.below (alloc_bel' wr (.cells #[.int .u64 f.ch, .int .i64 f.seq, .bool f.last, .slice f.sp f.n f.cap] 25))
        have hbn := Hid.mk' (show bod c fs (E + 1) 0 = (bod c fs (E + 1 - (s + 1)) ((s : Int) + 1)).map ((D ++ f.bs) ++ ·) by
          rw [hbod.out, show E + 1 - s = (E + 1 - (s + 1)) + 1 by omega, bod_some hq, Option.map_map]
          congr 1; funext X; simp)
        have hfn := hB.len
        replace hq := Hid.mk' hq
        replace hfo := Hid.mk' hfo
        clear hf
        have hownA := hown.alloc (.cells #[.int .u64 f.ch, .int .i64 f.seq, .bool f.last, .slice f.sp f.n f.cap] 25)
        have hnil := hB.nil
        go_wp2_with (at_builtin; go_must (refine append_bytes (by rfl) (.tmp 23) (.tmp 25) (by rfl) w.heap.size _ D.length D (by rfl) hownA f.sp f.n f.cap f.bs (by rfl) hfn.out hnil hB.sl (by omega) (by simp; omega) ?_; intro v4 w4 hown4 hg4))
        go_roundw
        case rel =>
          refine ⟨s + 1, D ++ f.bs, by go_num, by omega, by rw [List.length_append, ← hfn.out]; omega, hDb.app hB.bts, by rw [List.length_append, ← hfn.out]; exact hown4, Hid.mk' hbn.out, (hbl.alloc hsz _).grown hg4 (by simp; omega) (fun j e => own_ge hown j e)⟩
        case measure => simp [intOf]; omega
    · obtain rfl : s = E + 1 := by omega
      have hI : ¬ (((E + 1 : Nat) : Int) < (E : Int) + 1) := by omega
      have hb2 := Hid.mk' (hbod.out.trans (show (bod c fs (E + 1 - (E + 1)) ((E + 1 : Nat) : Int)).map (D ++ ·) = some D by rw [Nat.sub_self]; simp [bod]))
      go_wp2
      go_ret2
      exact ⟨hbl, .inr ⟨D, _, hb2.out, by omega, hDb, rfl, hown⟩⟩
end Go.Proofs.Ytbjlmekafnpllab
