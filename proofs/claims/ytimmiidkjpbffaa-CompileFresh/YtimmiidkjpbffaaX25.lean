/- Ig, Kx, Kz, Ua. -/
import Derived.Test.YtimmiidkjpbffaaX01
import Derived.Test.YtimmiidkjpbffaaX02
import Derived.Test.YtimmiidkjpbffaaX16
import Derived.Test.YtimmiidkjpbffaaX03
import Derived.Test.YtimmiidkjpbffaaX09
import Derived.Test.YtimmiidkjpbffaaX20
import Derived.Test.YtimmiidkjpbffaaX24
import Derived.BigQuiet
import Derived.BigRegion
import Derived.ChangeKeysEq
import Derived.Deep.DeepCutAuto
import Derived.Deep.DrawnRows
import Derived.Deep.MidRow
import Derived.Deep.QuietTactic
import Derived.Deep.RegionHeld3
import Derived.Deep.RegionLaw
import Derived.Deep.RegionWith
import Derived.Deep.WholeRow
import Derived.DeepKeys3
import Derived.Great.BuildSlice
import Derived.Handy
import Derived.Laws.AppendOwnNone
import Derived.Laws.BitsLemmas
import Derived.Laws.BytesArg
import Derived.Laws.CopyOwn
import Derived.Laws.ResultCell
import Derived.Laws.Tables
import Derived.Lib.SlBytesConst
import Derived.LoopIn
import Derived.LoopNIn
import Derived.LoopTactic
import Derived.Maps.AppendAt
import Derived.OwnWalkIn
import Derived.RangeFuncBound
import Derived.RangeFuncCalls
import Derived.RangeFuncLeaves
import Derived.RangeFuncNested
import Derived.RangeFuncRecord
import Derived.Shelf.Abstract
import Derived.Shelf.RegionOpen
import Derived.SizedLaws
import Derived.TacticsInMore
import Derived.WalkKit
import Derived.WalkLawsBesides
import Derived.WalkSpells
import Derived.Test.YtimmiidkjpbffaaX19
import Derived.Test.YtimmiidkjpbffaaX22
import Derived.Test.YtimmiidkjpbffaaX06
/- Layer compile: what the layers below give. -/
namespace Go.Proofs.Ytimmiidkjpbffaa
open Go.RowKit
set_option maxRecDepth 100000
set_option linter.unusedVariables false
set_option linter.unusedSimpArgs false

theorem fnN_drop {l : List FuT} {j : Nat} {f : FuT} (h : l[j]? = some f) (k : Nat) : fnN (l.drop j) ((l.take j).map FuT.p) k = if 0 ≤ f.v ∧ f.v ≤ 64 ∧ 0 ≤ f.p ∧ f.p ≤ f.v then (fld (stN ((l.take j).map FuT.p) f.v 8) f.b k).bind (fnN (l.drop (j + 1)) ((l.take (j + 1)).map FuT.p)) else none := by
  obtain ⟨hj, rfl⟩ := List.getElem?_eq_some_iff.1 h
  rw [List.drop_eq_getElem_cons hj, fnN]
  rw [show (l.take (j + 1)).map FuT.p = (l.take j).map FuT.p ++ [l[j].p] by rw [List.take_succ_eq_append_getElem hj, List.map_append]; rfl]
set_option maxHeartbeats 2000000 in
theorem nodes_any {N : Nat} {cs : List Value} (p : PgT) (w : World) (hM : PgM N w cs p) (hN : N ≤ w.heap.size) :
    Calls Try.prog 39 #[.agg cs.toArray] w (CtP ((pgN p).map (4096 - ·)) w) := by
  obtain ⟨sp, n, cap, rfl, hda, hS⟩ := hM
  have b0 := ab w (.cells #[.slice sp n cap, .int .i64 p.da] 47)
  have A := Arr.new w 47 #[.slice sp n cap, .int .i64 p.da]
  have hbg := beg_any p (w.alloc (.cells #[.slice sp n cap, .int .i64 p.da] 47)) (hS.imp (b0.mono hN) (FuM.below (b0.mono hN))) (by simp; omega)
  unfold BoP at hbg
  cases hb : begB p with
  | false =>
    have e : pgN p = none := by unfold pgN; rw [hb, if_neg (by decide)]
    rw [e]
    rw [hb] at hbg
    clear hS hda
    go_enter Try.func39, Try.ntmps39
    go_wp2_with (go_at_call 47; go_must (refine hbg.mono ?_; rintro e w1 ⟨rfl, hb1⟩))
    go_ret2
    exact ⟨rfl, b0.trans (hb1.mono b0.size)⟩
  | true =>
    have e : pgN p = fnN p.fs [] 4096 := by unfold pgN; rw [hb, if_pos rfl]
    rw [e]
    rw [hb] at hbg
    have hlen := hS.len
    have hsm := hS.small
    obtain ⟨r, hr⟩ : ∃ r, r = fnN p.fs [] 4096 := ⟨_, rfl⟩
    rw [← hr]
    replace hr := hid hr
    go_enter Try.func39, Try.ntmps39
    go_upto_region 5 with (go_at_call 47; go_must (refine hbg.mono ?_; rintro e w1 ⟨rfl, hb1⟩; have A1 := A.bl hb1; have k0 := A1.cell 0))
    have B1 := b0.trans (hb1.mono b0.size)
    have hw1 : w.heap.size < w1.heap.size := A1.lt
    clear hbg hb
    go_loopw [4, 16] (fun a i wr => ∃ (j k : Nat), a = .int .i64 (k : Int) ∧ i = .int .i64 (j : Int) ∧ j ≤ n ∧ k ≤ 4096 ∧ Hid (r = fnN (p.fs.drop j) ((p.fs.take j).map FuT.p) k) ∧ Below w1.heap.size w1 wr)
      (fun _ i _ => n - (intOf i).toNat)
    case atStart => exact ⟨0, 4096, rfl, rfl, by omega, by omega, hr, Below.refl _ _⟩
    case round =>
      obtain ⟨j, k, rfl, rfl, hj, hk, hf, hbw⟩ := hrel
      have A2 := A1.bl hbw
      have B2 := B1.trans (hbw.mono B1.size)
      by_cases hlt : j < n
      · obtain ⟨f, ht⟩ : ∃ t, p.fs[j]? = some t := ⟨p.fs[j]'(by rw [← hlen.out]; exact hlt), List.getElem?_eq_getElem _⟩
        have hfd := fnN_drop ht k
        have hS2 := hS.imp (B2.mono hN) (FuM.below (B2.mono hN))
        obtain ⟨g, off, rfl, hg, hR⟩ := hS2.at0 (by omega)
        obtain ⟨cs, hrg, hM⟩ := hR j f ht
        obtain ⟨sq, m, cq, rfl, ⟨hfp, hfv⟩, hSb⟩ := hM
        have c0 := hrg 0 _ rfl
        have c1 := hrg 1 _ rfl
        have c2 := hrg 2 _ rfl
        simp only [Nat.add_zero] at c0
        have hlt' : (j : Int) < n := by omega
        have h0 : (0 : Int) ≤ j := by omega
        by_cases hcond : 0 ≤ f.v ∧ f.v ≤ 64 ∧ 0 ≤ f.p ∧ f.p ≤ f.v
        · rw [if_pos hcond] at hfd
          obtain ⟨d1, d2, d3, d4⟩ := hcond
          have n1 : ¬ f.v < 0 := by omega
          have n2 : ¬ 64 < f.v := by omega
          have n3 : ¬ f.p < 0 := by omega
          have n4 : ¬ f.v < f.p := by omega
          have hcj : j ≤ cap := by have := hS.le; omega
          have hcj' : (j : Int) ≤ cap := by omega
          have A3 := A2.alloc (.cells (fuC f.p f.v (.slice sq m cq)).toArray 85)
          have F3 := Arr.new wr 85 (fuC f.p f.v (.slice sq m cq)).toArray
          have p0 := A3.cell 0
          have p1 := F3.cell 1
          have p2 := fun o => (A3.alloc o).cell 0
          have p3 := fun o => (F3.alloc o).cell 1
          have hB3 : Below w1.heap.size w1 (wr.alloc (.cells (fuC f.p f.v (.slice sq m cq)).toArray 85)) := hbw.alloc hbw.size _
          clear hR hrg
          unfold fuC at *
          go_upto_region 9 with fail
          go_region
          have hNw : N ≤ wr.heap.size := by have := B2.size; omega
          have hW4 : Below wr.heap.size wr ((wr.alloc (.cells #[.int .i64 f.p, .int .i64 f.v, .slice sq m cq] 85)).alloc (.cells #[.slice (some ⟨g, off, none⟩) j cap, .int .i64 f.v] 114)).drew := dw1 ((ab wr _).alloc (by simp) _)
          have S4 : Arr ((wr.alloc (.cells #[.int .i64 f.p, .int .i64 f.v, .slice sq m cq] 85)).alloc (.cells #[.slice (some ⟨g, off, none⟩) j cap, .int .i64 f.v] 114)).drew (wr.heap.size + 1) 114 #[.slice (some ⟨g, off, none⟩) j cap, .int .i64 f.v] := by
            have h := (Arr.new (wr.alloc (.cells #[.int .i64 f.p, .int .i64 f.v, .slice sq m cq] 85)) 114 #[.slice (some ⟨g, off, none⟩) j cap, .int .i64 f.v]).drew
            simp only [World.size_alloc] at h
            exact h
          have F4 := (F3.alloc (.cells #[.slice (some ⟨g, off, none⟩) j cap, .int .i64 f.v] 114)).drew
          have hB4 : Below w1.heap.size w1 ((wr.alloc (.cells #[.int .i64 f.p, .int .i64 f.v, .slice sq m cq] 85)).alloc (.cells #[.slice (some ⟨g, off, none⟩) j cap, .int .i64 f.v] 114)).drew := hbw.trans (hW4.mono hbw.size)
          have hst := stmts34 (stmt_any (N := N) (es := some ⟨g, off, none⟩) (en := j) (ec := cap) (fs := p.fs.take j) (vs := f.v) 8 (by omega)) _ (hSb.imp (hW4.mono hNw) (StM.below (hW4.mono hNw) 8)) (by have := hW4.size; omega) ((hS2.take (by omega)).imp (hW4.mono hNw) (FuM.below (hW4.mono hNw))) _ _ k rfl rfl hk
          generalize ((wr.alloc (.cells #[.int .i64 f.p, .int .i64 f.v, .slice sq m cq] 85)).alloc (.cells #[.slice (some ⟨g, off, none⟩) j cap, .int .i64 f.v] 114)).drew = W4 at *
          have q0 := S4.cell 0
          have q1 := S4.cell 1
          have q2 := F4.cell 2
          unfold CtP at hst
          clear p0 p1 p2 p3 A3 F3 hS hS2 hSb hB3 S4 F4 hW4 c0 c1 c2 ht
          cases hx : fld (stN ((p.fs.take j).map FuT.p) f.v 8) f.b k with
          | none =>
            rw [hx] at hst hfd
            have hrn : Hid (r = none) := hid (hf.out.trans hfd)
            clear hx hfd hf
            go_wp2_with (go_at_call 48; go_must (refine hst.mono ?_; rintro e w5 ⟨rfl, hb5⟩))
            go_ret2
            rw [hrn.out]
            have B4 := B1.trans (hB4.mono B1.size)
            exact ⟨rfl, B4.trans (hb5.mono B4.size)⟩
          | some k' =>
            have hk' : k' ≤ k := fld_le (stN_le 8) _ _ _ hx
            rw [hx] at hst hfd
            have hrn : Hid (r = fnN (p.fs.drop (j + 1)) ((p.fs.take (j + 1)).map FuT.p) k') := hid (hf.out.trans hfd)
            clear hx hfd hf
            go_wp2_with (go_at_call 48; go_must (refine hst.mono ?_; rintro e w5 ⟨rfl, hb5⟩))
            go_roundw
            case rel => exact ⟨j + 1, k', rfl, by go_num, by omega, by omega, hrn, hB4.trans (hb5.mono hB4.size)⟩
            case measure => simp [intOf]; omega
        · rw [if_neg hcond] at hfd
          have hrn : Hid (r = none) := hid (hf.out.trans hfd)
          have hc2 : Hid (¬ (0 ≤ f.v ∧ f.v ≤ 64 ∧ 0 ≤ f.p ∧ f.p ≤ f.v)) := hid hcond
          have hB3 := fun o => B2.alloc B2.size o
          clear hR hrg hfd hf hcond hS hS2 hSb ht
          unfold fuC at *
          go_upto_region 7 with fail
          by_cases d1 : f.v < 0
          · go_wp2_with fail
            go_ret2
            rw [hrn.out]
            exact ⟨rfl, hB3 _⟩
          by_cases d2 : 64 < f.v
          · go_wp2_with fail
            go_ret2
            rw [hrn.out]
            exact ⟨rfl, hB3 _⟩
          by_cases d3 : f.p < 0
          · go_wp2_with fail
            go_ret2
            rw [hrn.out]
            exact ⟨rfl, hB3 _⟩
          have d4 : f.v < f.p := by have := hc2.out; omega
          go_wp2_with fail
          go_ret2
          rw [hrn.out]
          exact ⟨rfl, hB3 _⟩
      · obtain rfl : j = n := by omega
        have hrn : Hid (r = some k) := hid (by rw [hf.out, hlen.out, List.drop_length]; rfl)
        have hsub : IntKind.i64.wrap (4096 - (k : Int)) = ((4096 - k : Nat) : Int) := by rw [IntKind.wrap_i64]; omega
        clear hS hf hlen
        go_wp2_with fail
        go_ret2
        rw [hrn.out]
        exact ⟨rfl, B2⟩
theorem may_any {N : Nat} {cs : List Value} (p : PgT) (w : World) (hM : PgM N w cs p) (hN : N ≤ w.heap.size) :
    Calls Try.prog 27 #[.agg cs.toArray] w (BoP (pgN p).isSome w) := by
  obtain ⟨sp, n, cap, rfl, hda, hS⟩ := id hM
  have b0 := ab w (.cells #[.slice sp n cap, .int .i64 p.da] 47)
  have hn := nodes_any p (w.alloc (.cells #[.slice sp n cap, .int .i64 p.da] 47)) (PgM.below (b0.mono hN) _ p hM) (by simp; omega)
  unfold CtP at hn
  rw [show ((pgN p).map (4096 - ·)).isSome = (pgN p).isSome by cases pgN p <;> rfl] at hn
  generalize (pgN p).isSome = r at *
  clear hM hS
  go_enter Try.func27, Try.ntmps27
  go_wp2_with (go_at_call 39; go_must (refine hn.mono ?_; rintro e w1 ⟨rfl, hb1⟩))
  go_ret
  exact ⟨rfl, b0.trans (hb1.mono b0.size)⟩
end Go.Proofs.Ytimmiidkjpbffaa
/- Layer compile: Compile, up to its memory. -/
namespace Go.Proofs.Ytimmiidkjpbffaa
open Go.RowKit
set_option maxRecDepth 100000
set_option linter.unusedVariables false
set_option linter.unusedSimpArgs false

variable {N : Nat}
theorem pgOk_of {w : World} {cs : List Value} {p : PgT} {m : Nat} (hM : PgM N w cs p) (h : pgN p = some m) : PgOk p ∧ fnN p.fs [] 4096 = some m := by
  unfold pgN at h
  by_cases hb : begB p = true
  · rw [if_pos hb] at h
    have hl := of_decide_eq_true (show decide _ = true from hb)
    have key : ∀ (l : List FuT) (ps : List Int) (n : Nat), (fnN l ps n).isSome = true → ∀ i f, l[i]? = some f → (0 ≤ f.v ∧ f.v ≤ 64 ∧ 0 ≤ f.p ∧ f.p ≤ f.v) ∧ ∀ b ∈ f.b, okS (ps ++ (l.take i).map FuT.p) f.v 8 b := by
      intro l
      induction l with
      | nil => intro ps n _ i f hf; simp at hf
      | cons a r ih =>
        intro ps n hs i f hf
        unfold fnN at hs
        split at hs
        · next hc =>
          cases hq : fld (stN ps a.v 8) a.b n with
          | none => rw [hq] at hs; cases hs
          | some m =>
            rw [hq] at hs
            replace hs : (fnN r (ps ++ [a.p]) m).isSome = true := hs
            cases i with
            | zero =>
              simp at hf
              subst hf
              refine ⟨hc, fun b hb => ?_⟩
              have := fld_all _ _ _ hq b hb
              rw [List.take_zero, List.map_nil, List.append_nil]
              exact this
            | succ i =>
              simp at hf
              obtain ⟨g1, g2⟩ := ih _ _ hs i f hf
              refine ⟨g1, fun b hb => ?_⟩
              have := g2 b hb
              simpa using this
        · cases hs
    refine ⟨⟨fun i f hf => by simpa using key p.fs [] 4096 (by rw [h]; rfl) i f hf, fun g hg b hb => ?_, ⟨hl.1, hl.2.1⟩, hl.2.2.2⟩, h⟩
    obtain ⟨sp, k, cap, -, -, hS⟩ := hM
    obtain ⟨cg, sp2, k2, cap2, -, -, hS2⟩ := hS.mem hg
    obtain ⟨cb, hcb⟩ := hS2.mem hb
    exact StM.cu 8 cb b hcb
  · rw [if_neg hb] at h
    cases h
theorem kProg_is {p : PgT} {ft : FuT} (h : p.fs.getLast? = some ft) : kProg p = kFns (kEnv p) p.fs 0 (kBegin (kEnv p) ((p.fs.length : Int) - 1) ft.b k0) := by
  unfold kProg; rw [h]
end Go.Proofs.Ytimmiidkjpbffaa
/- Layer compile: Compile, a trial. -/
namespace Go.Proofs.Ytimmiidkjpbffaa
open Go.RowKit
set_option maxRecDepth 100000
set_option linter.unusedVariables false
set_option linter.unusedSimpArgs false

variable {N : Nat}
theorem resI {f : Func} {w : World} {tmps : Array Value} {g : Nat} {C : Array Value} {v : Value} (hf : f.results = #[.cell 2 24, .tmp 3]) (hp : tmps.getD 2 undef = .pointer (some ⟨g, 0, none⟩)) (hk : tmps.getD 3 undef = v) (hC : C.size = 3) (hA : Arr w g 24 C) :
    (results f tmps).run Try.prog w = .ok (.tuple #[.agg C, v]) w := by
  have hl := run_loadVar_mid (P := Try.prog) w g 0 24 C.toList _ (fun j u hu => by rw [Nat.zero_add, hA.cell]; simpa using hu) Try.underlying24 rfl (by rw [Array.length_toList, hC]; kernel_rfl)
  have hp' : tmps[2]?.getD undef = .pointer (some ⟨g, 0, none⟩) := by simpa using hp
  have hk' : tmps[3]?.getD undef = v := by simpa using hk
  simp [results, hf, hp', hk', asAddr, hl]
/-- No image, and why. -/
def CmNo (c : Int) (w : World) (e : Ending) (w' : World) : Prop := e = .returned (.tuple #[.agg #[.slice none 0 0, .int .i64 0, .int .i64 0], .int .i64 c]) ∧ Below w.heap.size w w'
set_option maxHeartbeats 2000000 in
theorem compile_bad {p : PgT} {da : Int} {sp : Option Addr} {k cap : Nat} (w : World) (hN : N ≤ w.heap.size) (hM : PgM N w [.slice sp k cap, .int .i64 da] p) (hp : pgN p = none) :
    Calls Try.prog 15 #[.agg #[.slice sp k cap, .int .i64 da]] w (CmNo 2 w) := by
  have b0 : Below w.heap.size w ((w.alloc (.cells #[.slice sp k cap, .int .i64 da] 47)).alloc (.cells #[.slice none 0 0, .int .i64 0, .int .i64 0] 24)) := (ab w _).alloc (by simp) _
  have hmy := may_any p _ (PgM.below (b0.mono hN) _ p hM) (by have := b0.size; omega)
  rw [hp] at hmy
  unfold BoP at hmy
  have A0 := (Arr.new w 47 #[.slice sp k cap, .int .i64 da]).alloc (.cells #[.slice none 0 0, .int .i64 0, .int .i64 0] 24)
  have A1 := Arr.new (w.alloc (.cells #[.slice sp k cap, .int .i64 da] 47)) 24 #[.slice none 0 0, .int .i64 0, .int .i64 0]
  simp only [World.size_alloc] at A1
  clear hM hp
  replace hmy := hid hmy
  go_enter Try.func15, Try.ntmps15
  go_wp2_with (go_at_call 27; go_must (refine hmy.out.mono ?_; rintro e w1 ⟨rfl, hb1⟩; have A01 := A0.bl hb1; have A11 := A1.bl hb1; have a0 := A11.cell 0; have a1 := A11.cell 1; have a2 := A11.cell 2; have f0 := A11.frozen 0; have f1 := A11.frozen 1; have f2 := A11.frozen 2))
  have A4 := ((A11.set 0 (.slice none 0 0)).set 1 (.int .i64 0)).set 2 (.int .i64 0)
  have C1 : Ch (fun _ => False) w w1 := Ch.ob (b0.trans (hb1.mono (by simp; omega)))
  have B4 := (((C1.st (g := w.heap.size + 1) (j := 0) (.slice none 0 0) (fun h => by omega)).st (g := w.heap.size + 1) (j := 1) (.int .i64 0) (fun h => by omega)).st (g := w.heap.size + 1) (j := 2) (.int .i64 0) (fun h => by omega)).bl (N := w.heap.size) (fun i hi => ⟨hi, id⟩)
  exact bodyPost_ret (v := .tuple #[.agg #[.slice none 0 0, .int .i64 0, .int .i64 0], .int .i64 2]) (resI Try.results15 rfl rfl rfl A4) rfl ⟨rfl, B4⟩
end Go.Proofs.Ytimmiidkjpbffaa
/- Layer compile: what the layers below give. -/
namespace Go.Proofs.Ytimmiidkjpbffaa
open Go.RowKit
set_option maxRecDepth 100000
set_option linter.unusedVariables false
set_option linter.unusedSimpArgs false

set_option maxRecDepth 100000 in
set_option maxHeartbeats 1000000 in
theorem kays_any (w : World) :
    Calls Try.prog 97 #[] w fun e w' => e = .returned (.agg kCells) ∧ Below w.heap.size w w' := by
  have s46 : (Try.prog.info? 155).map (·.size) = some kCells.size := by rw [kCells_size]; exact size46
  have o46 := one_ints kCells_size kCells_get
  go_enter Try.func97, Try.ntmps97
  go_wp2_with ((refine wpList_store_new w _ 155 (by rfl) 155 (.tmp 0) (.tmp 1) (by rfl) kCells (by rfl) (by rfl) s46 (Eq.trans (by rfl) kCells_size.symm) o46 ?_))
  exact bodyPost_ret (v := .agg kCells) (results_cell_row Try.results97 _ _ w.heap.size 155 _ (0, 0) _ rfl (Arr.new w 155 kCells) Try.underlying155 rfl s46) rfl ⟨rfl, (Below.refl _ _).alloc (Nat.le_refl _) _⟩
set_option maxRecDepth 100000 in
set_option maxHeartbeats 400000 in
theorem turn_any (x n : Int) (w : World) (h0 : 0 ≤ n) (h1 : n ≤ 31) :
    Calls Try.prog 98 #[.int .u32 x, .int .u64 n] w fun e w' => e = .returned (.int .u32 (rotr x n.toNat)) ∧ w' = w := by
  have e : (32 - n).toNat = 32 - n.toNat := by omega
  have E : Hid ((32 - n).toNat = 32 - n.toNat) := e
  clear e
  go_enter Try.func98, Try.ntmps98
  go_wp2
  go_ret
  refine ⟨?_, rfl⟩
  unfold rotr
  rw [← E.out]; rfl
theorem wrap32_nat (v : BitVec 32) : IntKind.u32.wrap (v.toNat : Int) = v.toNat := by
  have := v.isLt
  simp only [IntKind.wrap, IntKind.bits, IntKind.signed]; simp; omega
theorem of_nat32 (v : BitVec 32) : BitVec.ofInt 32 (v.toNat : Int) = v := by
  rw [BitVec.ofInt_natCast, BitVec.ofNat_toNat]; simp
theorem bits_and (x y : Int) : bits .and .u32 x y = ((BitVec.ofInt 32 x &&& BitVec.ofInt 32 y).toNat : Int) := wrap32_nat _
theorem bits_or (x y : Int) : bits .or .u32 x y = ((BitVec.ofInt 32 x ||| BitVec.ofInt 32 y).toNat : Int) := wrap32_nat _
theorem bits_xor (x y : Int) : bits .xor .u32 x y = ((BitVec.ofInt 32 x ^^^ BitVec.ofInt 32 y).toNat : Int) := wrap32_nat _
theorem cho_xor (x y z : Int) : bits .xor .u32 (bits .and .u32 x y) (bits .and .u32 (bits .xor .u32 IntKind.u32.max x) z) = cho x y z := by
  unfold cho
  simp only [bits_and, bits_or, bits_xor, of_nat32]
  have hm : BitVec.ofInt 32 IntKind.u32.max = BitVec.allOnes 32 := by decide
  rw [hm]
  congr 2
  ext i hi
  simp only [BitVec.getElem_xor, BitVec.getElem_and, BitVec.getElem_or, BitVec.getElem_allOnes]
  generalize (BitVec.ofInt 32 x)[i] = a
  generalize (BitVec.ofInt 32 y)[i] = b
  generalize (BitVec.ofInt 32 z)[i] = c
  cases a <;> cases b <;> cases c <;> rfl
theorem maj_xor (x y z : Int) : bits .xor .u32 (bits .xor .u32 (bits .and .u32 x y) (bits .and .u32 x z)) (bits .and .u32 y z) = maj x y z := by
  unfold maj
  simp only [bits_and, bits_or, bits_xor, of_nat32]
  congr 2
  ext i hi
  simp only [BitVec.getElem_xor, BitVec.getElem_and, BitVec.getElem_or]
  generalize (BitVec.ofInt 32 x)[i] = a
  generalize (BitVec.ofInt 32 y)[i] = b
  generalize (BitVec.ofInt 32 z)[i] = c
  cases a <;> cases b <;> cases c <;> rfl
end Go.Proofs.Ytimmiidkjpbffaa
