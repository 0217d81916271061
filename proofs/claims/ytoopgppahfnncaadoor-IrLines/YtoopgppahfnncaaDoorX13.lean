/- Pk, Pl, Kz2, Pm, Pn0. -/
import Derived.Test.YtoopgppahfnncaaDoorX08
import Derived.Test.YtoopgppahfnncaaDoorX12
import Derived.Test.YtoopgppahfnncaaDoorX09
import Derived.LoopNIn
import Derived.LoopIn
import Derived.LoopTactic
import Derived.Test.YtoopgppahfnncaaDoorX02
import Derived.Test.YtoopgppahfnncaaDoorX04
import Derived.BigQuiet
import Derived.BigRegion
import Derived.ChangeKeysEq
import Derived.ChangeOld
import Derived.Deep.DeepCutAuto
import Derived.Deep.DrawnRows
import Derived.Deep.MidRow
import Derived.Deep.OwnRows
import Derived.Deep.QuietTactic
import Derived.Deep.RegionHeld3
import Derived.Deep.RegionLaw
import Derived.Deep.RegionWith
import Derived.Deep.WholeRow
import Derived.DeepKeys3
import Derived.Great.BuildSlice
import Derived.Great.FillDense
import Derived.Handy
import Derived.Laws.AppendOwn
import Derived.Laws.AppendOwnNone
import Derived.Laws.BitsLemmas
import Derived.Laws.BytesArg
import Derived.Laws.CopyOwn
import Derived.Laws.CopyRow
import Derived.Laws.DeepBits32
import Derived.Laws.MakeOwn
import Derived.Laws.OwnMore
import Derived.Laws.ResultCell
import Derived.Laws.Tables
import Derived.Lib.AppendZeros
import Derived.Lib.SlBytesConst
import Derived.Maps.AppendAt
import Derived.OpenShut
import Derived.OwnWalk
import Derived.OwnWalkIn
import Derived.ProofKit
import Derived.RangeFuncBound
import Derived.RangeFuncCalls
import Derived.RangeFuncLeaves
import Derived.RangeFuncNested
import Derived.RangeFuncRecord
import Derived.Recover
import Derived.Shelf.Abstract
import Derived.Shelf.RegionOpen
import Derived.ShutString
import Derived.SizedLaws
import Derived.TacticsInMore
import Derived.WalkKit
import Derived.WalkLawsBesides
import Derived.WalkSpells
import Derived.Test.YtoopgppahfnncaaDoorX03
/- Layer ir: the document's text of a program. -/
namespace Go.Proofs.YtoopgppahfnncaaDoor
open Go.Shelf Go.RowKit Go.Sort
set_option maxRecDepth 100000
set_option linter.unusedVariables false
set_option linter.unusedSimpArgs false


structure okF (f : FuT) : Prop where
  p : I64 f.p
  v : I64 f.v
  b : ∀ s ∈ f.b, okS f.v 8 s
theorem fn_all {N : Nat} {w : World} : ∀ (fs : List FuT) (ps : List Int) (n m : Nat), (∀ q ∈ ps, q ≤ 64) → (∀ f ∈ fs, ∃ cs, FuM N w cs f) → fnN fs ps n = some m → (∀ f ∈ fs, okF f) ∧ ((fs.map fT).flatten.length + 64 * m ≤ 64 * n + 60 * fs.length)
  | [], _, n, m, _, _, h => by cases h; simp
  | f :: r, ps, n, m, hps, hM, h => by
    unfold fnN at h
    split at h
    next hc =>
      cases h1 : fld (stN ps f.v 8) f.b n with
      | none => rw [h1] at h; cases h
      | some k =>
        rw [h1] at h
        replace h : fnN r (ps ++ [f.p]) k = some m := h
        obtain ⟨cs, sp, bn, bc, -, ⟨hp, hv⟩, hB⟩ := hM f (List.mem_cons_self ..)
        have ho : ∀ s ∈ f.b, okS f.v 8 s := fun a ha => by
          obtain ⟨n', m', h'⟩ := fld_mem _ _ _ h1 a ha
          obtain ⟨i, hi⟩ := List.getElem?_of_mem ha
          have hlt : i < f.b.length := (List.getElem?_eq_some_iff.1 hi).1
          obtain ⟨g, off, -, -, hR⟩ := hB.at0 (by have := hB.len.out; omega)
          obtain ⟨cs', -, hM'⟩ := hR i a hi
          exact okS_of hps 8 a n' m' cs' h' hM'
        obtain ⟨i1, i2⟩ := fn_all r (ps ++ [f.p]) k m (fun q hq => by
          rcases List.mem_append.1 hq with hq | hq
          · exact hps q hq
          · simp at hq; omega) (fun g hg => hM g (List.mem_cons_of_mem _ hg)) h
        have i3 := fld_sum (g := fun a => (sT 8 a).length) f.b n k (fun a ha n m h => st_len 8 a n m (ho a ha) h) h1
        have lp := itoa_len f.p hp
        have lv := itoa_len f.v hv
        refine ⟨fun g hg => ?_, ?_⟩
        · rcases List.mem_cons.1 hg with rfl | hg
          · exact ⟨hp, hv, ho⟩
          · exact i1 g hg
        · rw [← flat_len] at i3
          have e : (fT f).length = 5 + (Lib.itoa f.p).length + 1 + (Lib.itoa f.v).length + 1 + (sL 8 f.b).length + 4 := by
            simp [fT, ln, Lib.join_cons, Lib.joinTail]
            omega
          have e2 : (sL 8 f.b).length = ((f.b.map (sT 8)).flatten).length := rfl
          simp only [List.map_cons, List.flatten_cons, List.length_append, List.length_cons]
          omega
    · cases h
theorem pg_all {N : Nat} {w : World} {cs : List Value} {p : PgT} {m : Nat} (hM : PgM N w cs p) (h : pgN p = some m) : (∀ f ∈ p.fs, okF f) ∧ (pT p).length ≤ 1000000 := by
  obtain ⟨sp, n, cap, -, hda, hS⟩ := hM
  unfold pgN at h
  split at h
  next hb =>
    obtain ⟨i1, i2⟩ := fn_all (N := N) (w := w) p.fs [] 4096 m (fun q hq => by cases hq) (fun f hf => by
      obtain ⟨i, hi⟩ := List.getElem?_of_mem hf
      have hlt : i < p.fs.length := (List.getElem?_eq_some_iff.1 hi).1
      obtain ⟨g, off, -, -, hR⟩ := hS.at0 (by have := hS.len.out; omega)
      obtain ⟨cs', -, hM'⟩ := hR i f hi
      exact ⟨cs', hM'⟩) h
    refine ⟨i1, ?_⟩
    unfold begB at hb
    simp only [decide_eq_true_eq] at hb
    have ld := itoa_len p.da hda
    have e : (pT p).length = 5 + (Lib.itoa p.da).length + 1 + ((p.fs.map fT).flatten).length := by
      unfold pT ln
      rw [List.length_append, List.length_append, Lib.join_cons]
      simp [Lib.joinTail]
      omega
    omega
  · cases h
/-- What a text's call comes to. -/
def pTx (p : PgT) : List UInt8 := if (pgN p).isSome then pT p else []
def PTx (p : PgT) (w : World) (e : Ending) (w' : World) : Prop := e = .returned (.tuple #[.string (tx (pTx p)), .int .i64 (if (pgN p).isSome then 0 else 2)]) ∧ Below w.heap.size w w'
theorem fl_drop {l : List FuT} {j : Nat} {a : FuT} (h : l[j]? = some a) : ((l.drop j).map fT).flatten = fT a ++ ((l.drop (j + 1)).map fT).flatten := by
  obtain ⟨hj, rfl⟩ := List.getElem?_eq_some_iff.1 h
  rw [List.drop_eq_getElem_cons hj]
  rfl

set_option maxHeartbeats 4000000 in
theorem text7_any {N : Nat} {sp : Option Addr} {n cap : Nat} (p : PgT) (w : World) (hM : PgM N w [.slice sp n cap, .int .i64 p.da] p) (hN : N ≤ w.heap.size) (hT : Tb w) :
    Calls Tryd.prog 7 #[.agg #[.slice sp n cap, .int .i64 p.da]] w (PTx p w) := by
  have b0 := ab w (.cells #[.slice sp n cap, .int .i64 p.da] 24)
  have A := Arr.new w 24 #[.slice sp n cap, .int .i64 p.da]
  have hMU := PgM.below (b0.mono hN) _ p hM
  have hNU : N ≤ (w.alloc (.cells #[.slice sp n cap, .int .i64 p.da] 24)).heap.size := Nat.le_trans hN b0.size
  have hmay := refMay_any p _ hMU hNU
  have htU := hT.bl b0
  unfold BoP at hmay
  unfold PTx pTx
  have a0 := A.cell 0
  have a1 := A.cell 1
  cases hp : pgN p with
  | none =>
    rw [hp] at hmay
    simp only [Option.isSome_none, Bool.false_eq_true, if_false] at hmay ⊢
    clear hM hMU hp
    go_enter Tryd.func7, Tryd.ntmps7
    go_wp2_with (first
      | (go_at_call 11; go_must (refine hmay.mono ?_; rintro e w1 ⟨rfl, hb1⟩)))
    go_ret2
    exact ⟨rfl, b0.trans (hb1.mono b0.size)⟩
  | some m =>
    rw [hp] at hmay
    simp only [Option.isSome_some, if_true] at hmay ⊢
    obtain ⟨hokf, hpl⟩ := pg_all hMU hp
    obtain ⟨sp', n', cap', he', hda, hS⟩ := hMU
    simp only [List.cons.injEq, Value.slice.injEq, and_true] at he'
    obtain ⟨rfl, rfl, rfl⟩ := he'
    have hnl := hS.len
    have hsm := hS.small
    obtain ⟨r, hr⟩ : ∃ r, r = pT p := ⟨_, rfl⟩
    rw [← hr] at hpl ⊢
    have hr0 : Hid (r = ([100, 97, 116, 97, 32] ++ Lib.itoa p.da ++ [10]) ++ ((p.fs.drop 0).map fT).flatten) := hid (by rw [hr]; simp [pT, ln, Lib.join_cons, Lib.joinTail])
    have hap : Hid (tx ([100, 97, 116, 97, 32] ++ Lib.itoa p.da ++ [10]) = ⟨#[100, 97, 116, 97, 32]⟩ ++ tx (Lib.itoa p.da) ++ ⟨#[10]⟩) := hid (by simp only [← tx_app]; rfl)
    have hda20 := fun u (hu : Tb u) => itoa_any p.da u hda hu
    have lda := itoa_len p.da hda
    rw [← tx_size] at lda
    unfold TxP at hda20
    generalize hD : tx (Lib.itoa p.da) = sD at *
    have q1 : ¬ 9223372036854775807 < 5 + sD.size := by omega
    have q2 : ¬ 9223372036854775807 < 5 + sD.size + 1 := by omega
    replace hD := hid hD
    clear hr hM hp lda
    go_enter Tryd.func7, Tryd.ntmps7
    go_upto_region 5 with (first
      | (go_at_call 11; go_must (refine hmay.mono ?_; rintro e w1 ⟨rfl, hb1⟩; have A1 := A.bl hb1; have k0 := A1.cell 0; have k1 := A1.cell 1))
      | (go_at_call 20; go_must (refine (hda20 _ (htU.bl hb1)).mono ?_; rintro e w2 ⟨rfl, hb2⟩)))
    generalize hU : w.alloc (.cells #[.slice sp n cap, .int .i64 p.da] 24) = U at *
    have hBU := hb1.trans (hb2.mono hb1.size)
    have hwU : w.heap.size < U.heap.size := A.lt
    clear hU hb1 hb2 hmay k0 k1 A1
    go_loopw [4, 5] (fun s i wr => ∃ (j : Nat) (c : List UInt8), s = .string (tx c) ∧ i = .int .i64 (j : Int) ∧ j ≤ n ∧ Hid (r = c ++ ((p.fs.drop j).map fT).flatten) ∧ Below U.heap.size U wr)
      (fun _ i _ => n - (intOf i).toNat)
    case atStart => exact ⟨0, _, by rw [hap.out], rfl, by omega, hr0, hBU⟩
    case round =>
      obtain ⟨j, c, rfl, rfl, hj, hf, hb⟩ := hrel
      have k0 := (hb.cell hwU).trans a0
      by_cases hlt : j < n
      · obtain ⟨f, ht⟩ : ∃ f, p.fs[j]? = some f := ⟨p.fs[j]'(by rw [← hnl.out]; exact hlt), List.getElem?_eq_getElem _⟩
        obtain ⟨g, off, rfl, hg, hR⟩ := hS.at0 (by omega)
        obtain ⟨cs, hrg, hMf⟩ := hR j f ht
        have hbN := hb.mono hNU
        have hrg2 := rb hrg hbN hg
        have hMf2 := FuM.below hbN cs f hMf
        have hokt := hokf f (List.mem_of_getElem? ht)
        obtain ⟨bp, bn, bc, rfl, -, hfb⟩ := hMf2
        have c0 := hrg2 0 _ rfl
        have c1 := hrg2 1 _ rfl
        have c2 := hrg2 2 _ rfl
        simp only [Nat.add_zero] at c0
        have hlt' : (j : Int) < n := by omega
        have h0 : (0 : Int) ≤ j := by omega
        have hfd := hf.out
        rw [fl_drop ht, ← List.append_assoc] at hfd
        have hln : c.length + (fT f).length ≤ 1000000 := by
          have := congrArg List.length hfd
          rw [List.length_append, List.length_append] at this
          omega
        have hw1 : IntKind.i64.wrap ((j : Int) + 1) = ((j + 1 : Nat) : Int) := by rw [IntKind.wrap_i64]; omega
        have hap1 : Hid (tx (c ++ fT f) = tx c ++ (⟨#[102, 117, 110, 99, 32]⟩ ++ tx (Lib.itoa f.p) ++ ⟨#[32]⟩ ++ tx (Lib.itoa f.v) ++ ⟨#[10]⟩ ++ tx (sL 8 f.b) ++ ⟨#[101, 110, 100, 10]⟩)) := hid (by
          have e : fT f = [102, 117, 110, 99, 32] ++ Lib.itoa f.p ++ [32] ++ Lib.itoa f.v ++ [10] ++ sL 8 f.b ++ [101, 110, 100, 10] := by simp [fT, ln, Lib.join_cons, Lib.joinTail]
          rw [e]
          simp only [← tx_app]
          rfl)
        have lfl : (sL 8 f.b).length ≤ 1000000 := by
          have : (sL 8 f.b).length ≤ (fT f).length := by simp [fT]; omega
          omega
        have B0 := ab wr (.cells #[.int .i64 f.p, .int .i64 f.v, .slice bp bn bc] 40)
        have AF := Arr.new wr 40 #[.int .i64 f.p, .int .i64 f.v, .slice bp bn bc]
        have m0 := AF.cell 0
        have m1 := AF.cell 1
        have m2 := AF.cell 2
        have hTr := htU.bl hb
        have hp20 := fun u (hu : Tb u) => itoa_any f.p u hokt.p hu
        have hv20 := fun u (hu : Tb u) => itoa_any f.v u hokt.v hu
        have lp := itoa_len f.p hokt.p
        have lv := itoa_len f.v hokt.v
        have hNr : N ≤ wr.heap.size := Nat.le_trans hNU hb.size
        have hst := fun u (hub : Below wr.heap.size wr u) => dsl_any (dsx_any N f.v 8) u (hfb.imp (hub.mono hNr) (StM.below (hub.mono hNr) 8)) hokt.b (Nat.le_trans hNr hub.size) (hTr.bl hub) (by omega)
        rw [← tx_size] at lp lv lfl
        have lc : (tx c).size ≤ 1000000 := by rw [tx_size]; omega
        replace hfd := hid hfd
        clear hS hR hrg hrg2 hMf hokf hnl ht hf hokt hln hfb
        unfold TxP at hp20 hv20 hst
        generalize hA1 : tx (Lib.itoa f.p) = sP at *
        generalize hA2 : tx (Lib.itoa f.v) = sV at *
        generalize hA3 : tx (sL 8 f.b) = sB at *
        generalize hA4 : tx c = sS at *
        have q1 : ¬ 9223372036854775807 < 5 + sP.size := by omega
        have q2 : ¬ 9223372036854775807 < 5 + sP.size + 1 := by omega
        have q3 : ¬ 9223372036854775807 < 5 + sP.size + 1 + sV.size := by omega
        have q4 : ¬ 9223372036854775807 < 5 + sP.size + 1 + sV.size + 1 := by omega
        have q5 : ¬ 9223372036854775807 < 5 + sP.size + 1 + sV.size + 1 + sB.size := by omega
        have q6 : ¬ 9223372036854775807 < 5 + sP.size + 1 + sV.size + 1 + sB.size + 4 := by omega
        have q9 : ¬ 9223372036854775807 < sS.size + (5 + sP.size + 1 + sV.size + 1 + sB.size + 4) := by omega
        replace hA1 := hid hA1
        replace hA2 := hid hA2
        replace hA3 := hid hA3
        replace hA4 := hid hA4
        unfold fuC at *
        go_upto_region 8 with fail
        generalize hV : wr.alloc (.cells #[.int .i64 f.p, .int .i64 f.v, .slice bp bn bc] 40) = V at *
        have hwV : wr.heap.size < V.heap.size := AF.lt
        have hTV := hTr.bl B0
        have hS0 : ∀ u, Below V.heap.size V u → u.cell? ⟨wr.heap.size, 0, none⟩ = some (.int .i64 f.p) ∧ u.cell? ⟨wr.heap.size, 1, none⟩ = some (.int .i64 f.v) ∧ u.cell? ⟨wr.heap.size, 2, none⟩ = some (.slice bp bn bc) := fun u hb => ⟨(hb.cell hwV).trans m0, (hb.cell hwV).trans m1, (hb.cell hwV).trans m2⟩
        have hD0 : Below V.heap.size V V.drew := (Below.refl _ _).drew
        refine rgn (fun u => u.cell? ⟨wr.heap.size, 0, none⟩ = some (.int .i64 f.p) ∧ u.cell? ⟨wr.heap.size, 1, none⟩ = some (.int .i64 f.v) ∧ u.cell? ⟨wr.heap.size, 2, none⟩ = some (.slice bp bn bc)) (hS0 _ hD0) (fun hSw => ?_)
        refine tk3 0 rfl ?_
        refine tk3 1 rfl ?_
        refine tk3 2 rfl ?_
        refine tk3 6 rfl ?_
        refine tk3 7 rfl ?_
        refine tk3 11 rfl ?_
        refine tk3 12 rfl ?_
        refine rd 3 rfl (fun K hK => ?_)
        go_simp
        refine (hp20 _ (hTV.bl hD0)).mono ?_
        rintro e w3 ⟨rfl, hbw3⟩
        have hw3 := hD0.trans (hbw3.mono hD0.size)
        go_wp2_with fail
        refine hK.out _ _ (hS0 _ hw3) (fun hSw3 => ?_)
        clear hK K
        try simp only [Act.put, List.setIfInBounds_toArray, List.set_cons_zero, List.set_cons_succ]
        refine tk3 4 rfl ?_
        refine tk3 5 rfl ?_
        refine rd 8 rfl (fun K hK => ?_)
        go_simp
        refine (hv20 _ (hTV.bl hw3)).mono ?_
        rintro e w4 ⟨rfl, hbw4⟩
        have hw4 := hw3.trans (hbw4.mono hw3.size)
        go_wp2_with fail
        refine hK.out _ _ (hS0 _ hw4) (fun hSw4 => ?_)
        clear hK K
        try simp only [Act.put, List.setIfInBounds_toArray, List.set_cons_zero, List.set_cons_succ]
        refine tk3 9 rfl ?_
        refine tk3 10 rfl ?_
        refine rd 13 rfl (fun K hK => ?_)
        go_simp
        refine (hst _ (B0.trans (hw4.mono B0.size))).mono ?_
        rintro e w5 ⟨rfl, hbw5⟩
        have hw5 := hw4.trans (hbw5.mono hw4.size)
        go_wp2_with fail
        refine hK.out _ _ (hS0 _ hw5) (fun hSw5 => ?_)
        clear hK K
        try simp only [Act.put, List.setIfInBounds_toArray, List.set_cons_zero, List.set_cons_succ]
        refine tk3 14 rfl ?_
        refine tk3 15 rfl ?_
        refine tk3 16 rfl ?_
        refine tk3 17 rfl ?_
        refine dn ?_
        go_wp2_with fail
        go_roundw
        case rel => exact ⟨j + 1, c ++ fT f, by rw [hap1.out], by go_num, by omega, hfd, (hb.trans (B0.mono hb.size)).trans (hw5.mono (Nat.le_trans hb.size B0.size))⟩
        case measure => simp [intOf]; omega
      · obtain rfl : j = n := by omega
        have hrn : r = c := by rw [hf.out, hnl.out, List.drop_length]; simp
        clear hS hokf hf hnl
        subst hrn
        go_wp2_with fail
        go_ret2
        exact ⟨rfl, b0.trans (hb.mono b0.size)⟩
end Go.Proofs.YtoopgppahfnncaaDoor
/- Layer ir: the text of a program. -/
namespace Go.Proofs.YtoopgppahfnncaaDoor
open Go.Shelf Go.RowKit Go.Sort
set_option maxRecDepth 100000
set_option linter.unusedVariables false
set_option linter.unusedSimpArgs false


theorem bx_new {N : Nat} (w : World) (hN : N ≤ w.heap.size) : BX N w.heap.size [] (w.alloc (.cells #[.pointer none, .slice none 0 0] 44)) :=
  .inl ⟨hN, .slice none 0 0, heap_alloc_new w _, World.ownsRowF_nil _ _ _ _, by simp [Value.ownBlock]⟩
set_option maxHeartbeats 4000000 in
theorem text6_any {N : Nat} {sp : Option Addr} {n cap : Nat} (p : PgT) (w : World) (hM : PgM N w [.slice sp n cap, .int .i64 p.da] p) (hN : N ≤ w.heap.size) (hT : TN N w) :
    Calls Tryd.prog 6 #[.agg #[.slice sp n cap, .int .i64 p.da]] w fun e w' => e = .returned (.tuple #[.string (tx (pTx p)), .int .i64 (if (pgN p).isSome then 0 else 2)]) ∧ Below N w w' := by
  have b0 := ab w (.cells #[.slice sp n cap, .int .i64 p.da] 24)
  have A := Arr.new w 24 #[.slice sp n cap, .int .i64 p.da]
  have hMU := PgM.below (b0.mono hN) _ p hM
  have hNU : N ≤ (w.alloc (.cells #[.slice sp n cap, .int .i64 p.da] 24)).heap.size := Nat.le_trans hN b0.size
  have hmay := may_any p _ hMU hNU
  have htU := hT.bl (b0.mono hN)
  unfold BoP at hmay
  unfold pTx
  have a0 := A.cell 0
  have a1 := A.cell 1
  cases hp : pgN p with
  | none =>
    rw [hp] at hmay
    simp only [Option.isSome_none, Bool.false_eq_true, if_false] at hmay ⊢
    clear hM hMU hp
    go_enter Tryd.func6, Tryd.ntmps6
    go_wp2_with (first
      | (go_at_call 10; go_must (refine hmay.mono ?_; rintro e w1 ⟨rfl, hb1⟩)))
    go_ret2
    exact ⟨rfl, (b0.trans (hb1.mono b0.size)).mono hN⟩
  | some m =>
    rw [hp] at hmay
    simp only [Option.isSome_some, if_true] at hmay ⊢
    obtain ⟨hokf, hpl⟩ := pg_all hMU hp
    obtain ⟨sp', n', cap', he', hda, hS⟩ := hMU
    simp only [List.cons.injEq, Value.slice.injEq, and_true] at he'
    obtain ⟨rfl, rfl, rfl⟩ := he'
    have hnl := hS.len
    have hsm := hS.small
    obtain ⟨r, hr⟩ : ∃ r, r = pT p := ⟨_, rfl⟩
    rw [← hr] at hpl ⊢
    have hr0 : Hid (r = ([] ++ ln [[100, 97, 116, 97], Lib.itoa p.da]) ++ ((p.fs.drop 0).map fT).flatten) := hid (by rw [hr]; rfl)
    have hl0 : Hid (([] : List UInt8).length + (ln [[100, 97, 116, 97], Lib.itoa p.da]).length ≤ 1000000000) := hid (by
      have := congrArg List.length hr0.out
      simp only [List.length_append] at this ⊢
      omega)
    have hda20 := fun u (hu : Tb u) => itoa_any p.da u hda hu
    have hmf : ∀ (fn : Fn) (first cap : Array Value) (w : World), (Instr.makeFunc fn first cap).run Tryd.prog w = .ok (.func fn first cap) w := fun _ _ _ _ => rfl
    unfold TxP at hda20
    clear hr hM hp
    go_enter Tryd.func6, Tryd.ntmps6
    go_upto_region 3 with (first
      | (go_at_call 10; go_must (refine hmay.mono ?_; rintro e w1 ⟨rfl, hb1⟩; have A1 := A.bl hb1; have k0 := A1.cell 0; have k1 := A1.cell 1)))
    have hb01 := b0.trans (hb1.mono b0.size)
    have hN1 : N ≤ w1.heap.size := Nat.le_trans hN hb01.size
    have hX0 := bx_new w1 hN1
    have bb := ab w1 (.cells #[.pointer none, .slice none 0 0] 44)
    have hN2 := Nat.le_trans hN1 bb.size
    have A2 := A1.bl bb
    have k2 := A2.cell 0
    have k3 := A2.cell 1
    have hTd := ((htU.bl (hb1.mono hNU)).bl (bb.mono hN1)).tb
    have hbl := hX0.bl
    have hwb : w.heap.size ≠ w1.heap.size := by have := A1.lt; omega
    go_upto_region 7 with (first
      | (go_at_call 20; go_must (refine (hda20 _ hTd).mono ?_; rintro e w2 ⟨rfl, hb2⟩; have hX2 := hX0.keep hb2; have hN3 := Nat.le_trans hN2 hb2.size; have hK2 := BK.ob hN2 hb2 (b := w1.heap.size)))
      | (go_at_call 16; go_must (refine (put_lit (ws := [[100, 97, 116, 97], Lib.itoa p.da]) w2 hX2 hN3 _ rfl rfl (by simp) hl0.out).mono ?_; rintro e w3 ⟨rfl, hX3, hK3⟩; have hK23 := hK2.trans hK3; have A3 := hK23.arr A2 hwb (by decide); have k4 := A3.cell 0; have k5 := A3.cell 1)))
    generalize hc0 : [] ++ ln [[100, 97, 116, 97], Lib.itoa p.da] = c0 at *
    have hB3 : Below N (w.alloc (.cells #[.slice sp n cap, .int .i64 p.da] 24)) w3 := (hb1.mono hNU).trans ((bb.mono hN1).trans hK23.bl)
    have hbw3 := hX3.bl
    generalize hbb : w1.heap.size = b at *
    clear hmay k0 k1 k2 k3 k4 k5 A1 A2 hK2 hK3 hX2 hN3 hb2 hX0 hTd
    go_loopw [21] (fun i wr => ∃ (j : Nat) (c : List UInt8), i = .int .i64 (j : Int) ∧ j ≤ n ∧ Hid (r = c ++ ((p.fs.drop j).map fT).flatten) ∧ BX N b c wr ∧ BK N b w3 wr)
      (fun i _ => n - (intOf i).toNat)
    case atStart => exact ⟨0, c0, rfl, by omega, hr0, hX3, BK.ob (Nat.le_trans hNU hB3.size) (Below.refl _ _)⟩
    case round =>
      obtain ⟨j, c, rfl, hj, hf, hX, hb⟩ := hrel
      have hb3 := hB3.trans hb.bl
      by_cases hlt : j < n
      · obtain ⟨f, ht⟩ : ∃ f, p.fs[j]? = some f := ⟨p.fs[j]'(by rw [← hnl.out]; exact hlt), List.getElem?_eq_getElem _⟩
        obtain ⟨g, off, rfl, hg, hR⟩ := hS.at0 (by omega)
        obtain ⟨cs, hrg, hMf⟩ := hR j f ht
        have hrg2 := rb hrg hb3 hg
        have hMf2 := FuM.below hb3 cs f hMf
        have hokt := hokf f (List.mem_of_getElem? ht)
        obtain ⟨bp, bn, bc, rfl, -, hfb⟩ := hMf2
        have d0 := hrg2 0 _ rfl
        have d1 := hrg2 1 _ rfl
        have d2 := hrg2 2 _ rfl
        simp only [Nat.add_zero] at d0
        have hlt' : (j : Int) < n := by omega
        have h0 : (0 : Int) ≤ j := by omega
        have hfd := hf.out
        rw [fl_drop ht, ← List.append_assoc] at hfd
        have hln : c.length + (fT f).length ≤ 1000000 := by
          have := congrArg List.length hfd
          rw [List.length_append, List.length_append] at this
          omega
        have hw1 : IntKind.i64.wrap ((j : Int) + 1) = ((j + 1 : Nat) : Int) := by rw [IntKind.wrap_i64]; omega
        have hcf : Hid (c ++ fT f = ((c ++ ln [[102, 117, 110, 99], Lib.itoa f.p, Lib.itoa f.v]) ++ sL 8 f.b) ++ ln [[101, 110, 100]]) := hid (by simp [fT])
        have e1 : (fT f).length = (ln [[102, 117, 110, 99], Lib.itoa f.p, Lib.itoa f.v]).length + (sL 8 f.b).length + (ln [[101, 110, 100]]).length := by simp [fT]; omega
        have l1 : Hid (c.length + (ln [[102, 117, 110, 99], Lib.itoa f.p, Lib.itoa f.v]).length ≤ 1000000000) := hid (by omega)
        have l2 : Hid ((c ++ ln [[102, 117, 110, 99], Lib.itoa f.p, Lib.itoa f.v]).length + (sL 8 f.b).length ≤ 1000000000) := hid (by rw [List.length_append]; omega)
        have l3 : Hid (((c ++ ln [[102, 117, 110, 99], Lib.itoa f.p, Lib.itoa f.v]) ++ sL 8 f.b).length + (ln [[101, 110, 100]]).length ≤ 1000000000) := hid (by rw [List.length_append, List.length_append]; omega)
        have B0 := ab wr (.cells #[.int .i64 f.p, .int .i64 f.v, .slice bp bn bc] 40)
        have AF := Arr.new wr 40 #[.int .i64 f.p, .int .i64 f.v, .slice bp bn bc]
        have m0 := AF.cell 0
        have m1 := AF.cell 1
        have m2 := AF.cell 2
        have hNr : N ≤ wr.heap.size := Nat.le_trans hNU hb3.size
        have hTr := htU.bl (hb3.trans (B0.mono hNr))
        have hp20 := fun u (hu : Tb u) => itoa_any f.p u hokt.p hu
        have hv20 := fun u (hu : Tb u) => itoa_any f.v u hokt.v hu
        have hst := fun u (c' : List UInt8) (hub : Below N wr u) (hXu : BX N b c' u) (hlu : c'.length + (sL 8 f.b).length ≤ 1000000000) => putAll_any (puS_any N b f.v 8) u c' hXu (Nat.le_trans hNr hub.size) (htU.bl (hb3.trans hub)) (hfb.imp hub (StM.below hub 8)) hokt.b hlu
        have hwrb : wr.heap.size ≠ b := by have := hX.bl; omega
        replace hfd := hid hfd
        clear hS hR hrg hrg2 hMf hokf hnl ht hf hokt hln hfb e1
        unfold TxP at hp20 hv20
        unfold PuP at hst
        unfold fuC at *
        go_upto_region 9 with fail
        generalize hV : wr.alloc (.cells #[.int .i64 f.p, .int .i64 f.v, .slice bp bn bc] 40) = V at *
        have hXV := hX.keep B0
        have hNV : N ≤ V.heap.size := Nat.le_trans hNr B0.size
        have hS0 : ∀ u, BK N b V u → u.cell? ⟨wr.heap.size, 0, none⟩ = some (.int .i64 f.p) ∧ u.cell? ⟨wr.heap.size, 1, none⟩ = some (.int .i64 f.v) ∧ u.cell? ⟨wr.heap.size, 2, none⟩ = some (.slice bp bn bc) := fun u hb => ⟨hb.cell AF hwrb (by decide) m0, hb.cell AF hwrb (by decide) m1, hb.cell AF hwrb (by decide) m2⟩
        have hD0 : Below V.heap.size V V.drew := (Below.refl _ _).drew
        refine rgn (fun u => u.cell? ⟨wr.heap.size, 0, none⟩ = some (.int .i64 f.p) ∧ u.cell? ⟨wr.heap.size, 1, none⟩ = some (.int .i64 f.v) ∧ u.cell? ⟨wr.heap.size, 2, none⟩ = some (.slice bp bn bc)) (hS0 _ (BK.ob hNV hD0)) (fun hSw => ?_)
        refine tk3 0 rfl ?_
        refine tk3 1 rfl ?_
        refine tk3 2 rfl ?_
        refine tk3 4 rfl ?_
        refine tk3 5 rfl ?_
        refine rd 3 rfl (fun K hK => ?_)
        go_simp
        refine (hp20 _ (hTr.tb.bl hD0)).mono ?_
        rintro e w4 ⟨rfl, hbw4⟩
        have hw4 := hD0.trans (hbw4.mono hD0.size)
        go_wp2_with fail
        refine hK.out _ _ (hS0 _ (BK.ob hNV hw4)) (fun hSw4 => ?_)
        clear hK K
        try simp only [Act.put, List.setIfInBounds_toArray, List.set_cons_zero, List.set_cons_succ]
        refine rd 6 rfl (fun K hK => ?_)
        go_simp
        refine (hv20 _ (hTr.tb.bl hw4)).mono ?_
        rintro e w5 ⟨rfl, hbw5⟩
        have hw5 := hw4.trans (hbw5.mono hw4.size)
        go_wp2_with fail
        refine hK.out _ _ (hS0 _ (BK.ob hNV hw5)) (fun hSw5 => ?_)
        clear hK K
        try simp only [Act.put, List.setIfInBounds_toArray, List.set_cons_zero, List.set_cons_succ]
        have hX5 := hXV.keep hw5
        have hN5 := Nat.le_trans hNV hw5.size
        refine rd 7 rfl (fun K hK => ?_)
        go_simp
        go_wp2_with fail
        refine hK.out _ _ (hS0 _ ((BK.ob hNV hw5).trans (BK.ob hN5 (ab w5 _)))) (fun hSz => ?_)
        clear hK K
        try simp only [Act.put, List.setIfInBounds_toArray, List.set_cons_zero, List.set_cons_succ]
        refine rd 8 rfl (fun K hK => ?_)
        go_simp
        refine (put_lit (ws := [[102, 117, 110, 99], Lib.itoa f.p, Lib.itoa f.v]) w5 hX5 hN5 _ rfl rfl (by simp) l1.out).mono ?_
        rintro e w6 ⟨rfl, hX6, hKw6⟩
        go_wp2_with fail
        refine hK.out _ _ (hS0 _ ((BK.ob hNV hw5).trans hKw6)) (fun hSy => ?_)
        clear hK K
        try simp only [Act.put, List.setIfInBounds_toArray, List.set_cons_zero, List.set_cons_succ]
        refine dn ?_
        have hKw := (BK.ob hNV hw5 (b := b)).trans hKw6
        have hBw6 : Below N wr w6 := (B0.mono hNr).trans hKw.bl
        obtain ⟨-, -, y2⟩ := hS0 _ hKw
        have hN6 := Nat.le_trans hNr hBw6.size
        go_wp2_with (first
          | (go_at_call 21; go_must (refine (hst w6 _ hBw6 hX6 l2.out).mono ?_; rintro e w7 ⟨rfl, hX7, hK7⟩; have hN7 := Nat.le_trans hN6 hK7.bl.size))
          | (go_at_call 16; go_must (refine (put_lit (ws := [[101, 110, 100]]) w7 hX7 hN7 _ rfl rfl (by simp) l3.out).mono ?_; rintro e w8 ⟨rfl, hX8, hK8⟩)))
        go_roundw
        case rel => exact ⟨j + 1, c ++ fT f, by go_num, by omega, hfd, by rw [hcf.out]; exact hX8, hb.trans ((BK.ob hNr B0).trans (hKw.trans (hK7.trans hK8)))⟩
        case measure => simp [intOf]; omega
      · obtain rfl : j = n := by omega
        have hrn : r = c := by rw [hf.out, hnl.out, List.drop_length]; simp
        have hNr : N ≤ wr.heap.size := Nat.le_trans hNU hb3.size
        have hstr := Tryd.Builder_String_any_f N b c wr hX hNr
        clear hS hokf hf hnl
        subst hrn
        go_wp2_with (go_at_call 22; go_must (refine hstr.mono ?_; rintro e w9 ⟨rfl, -, hb9⟩))
        go_ret2
        exact ⟨rfl, (b0.mono hN).trans (hb3.trans hb9)⟩
end Go.Proofs.YtoopgppahfnncaaDoor
/- Layer ir: what the layers below give. -/
namespace Go.Proofs.YtoopgppahfnncaaDoor
open Go.RowKit
set_option maxRecDepth 100000
set_option linter.unusedVariables false
set_option linter.unusedSimpArgs false

/-- How many nodes a program that may be has. -/
def nN (p : PgT) : Option Nat := (pgN p).map (4096 - ·)
def nE (p : PgT) : Int := if (nN p).isSome then 0 else 2
set_option maxHeartbeats 1000000 in
theorem nodes25_any {N : Nat} {sp : Option Addr} {k cap : Nat} {da : Int} (p : PgT) (w : World) (hM : PgM N w [.slice sp k cap, .int .i64 da] p) (hN : N ≤ w.heap.size) :
    Calls Tryd.prog 8 #[.agg #[.slice sp k cap, .int .i64 da]] w fun e w' => e = .returned (.tuple #[.int .i64 (((nN p).getD 0 : Nat) : Int), .int .i64 (nE p)]) ∧ Below w.heap.size w w' := by
  have b0 := ab w (.cells #[.slice sp k cap, .int .i64 da] 24)
  have A := Arr.new w 24 #[.slice sp k cap, .int .i64 da]
  have hn := hid (nodes_any p _ (PgM.below (b0.mono hN) _ p hM) (by have := b0.size; omega))
  have hf : Hid ((pgN p).map (4096 - ·) = nN p) := hid rfl
  rw [hf.out] at hn
  have hz : Hid (nE p = if (nN p).isSome then 0 else 2) := hid rfl
  generalize nE p = z at *
  clear hM hf
  unfold CtP at hn
  cases hnn : nN p with
  | none =>
    rw [hnn] at hn hz
    have hz : z = 2 := hz.out
    subst hz
    clear hnn
    go_enter Tryd.func8, Tryd.ntmps8
    go_wp2_with (first
      | (go_at_call 24; go_must (refine hn.out.mono ?_; rintro e w1 ⟨rfl, hb1⟩; simp only [Option.isSome_none, Option.getD_none])))
    go_ret2
    exact ⟨rfl, b0.trans (hb1.mono b0.size)⟩
  | some n =>
    rw [hnn] at hn hz
    have hz : z = 0 := hz.out
    subst hz
    clear hnn
    go_enter Tryd.func8, Tryd.ntmps8
    go_wp2_with (first
      | (go_at_call 24; go_must (refine hn.out.mono ?_; rintro e w1 ⟨rfl, hb1⟩; simp only [Option.isSome_some, Option.getD_some])))
    go_ret2
    exact ⟨rfl, b0.trans (hb1.mono b0.size)⟩
set_option maxHeartbeats 1000000 in
theorem nodes26_any {N : Nat} {sp : Option Addr} {k cap : Nat} {da : Int} (p : PgT) (w : World) (hM : PgM N w [.slice sp k cap, .int .i64 da] p) (hN : N ≤ w.heap.size) :
    Calls Tryd.prog 9 #[.agg #[.slice sp k cap, .int .i64 da]] w fun e w' => e = .returned (.tuple #[.int .i64 (((nN p).getD 0 : Nat) : Int), .int .i64 (nE p)]) ∧ Below w.heap.size w w' := by
  have b0 := ab w (.cells #[.slice sp k cap, .int .i64 da] 24)
  have A := Arr.new w 24 #[.slice sp k cap, .int .i64 da]
  have hn := hid (used_any p _ (PgM.below (b0.mono hN) _ p hM) (by have := b0.size; omega))
  have hf : Hid ((pgN p).map (4096 - ·) = nN p) := hid rfl
  rw [hf.out] at hn
  have hz : Hid (nE p = if (nN p).isSome then 0 else 2) := hid rfl
  generalize nE p = z at *
  clear hM hf
  unfold DoP at hn
  cases hnn : nN p with
  | none =>
    rw [hnn] at hn hz
    have hz : z = 2 := hz.out
    subst hz
    have hd : doR (none : Option Nat) = -1 := rfl
    rw [hd] at hn
    clear hnn
    go_enter Tryd.func9, Tryd.ntmps9
    go_wp2_with (first
      | (go_at_call 25; go_must (refine hn.out.mono ?_; rintro e w1 ⟨rfl, hb1⟩)))
    go_ret2
    exact ⟨rfl, b0.trans (hb1.mono b0.size)⟩
  | some n =>
    rw [hnn] at hn hz
    have hz : z = 0 := hz.out
    subst hz
    have hd : doR (some n) = (n : Int) := rfl
    rw [hd] at hn
    have h0 : (0 : Int) ≤ n := by omega
    clear hnn
    go_enter Tryd.func9, Tryd.ntmps9
    go_wp2_with (first
      | (go_at_call 25; go_must (refine hn.out.mono ?_; rintro e w1 ⟨rfl, hb1⟩)))
    go_ret2
    exact ⟨rfl, b0.trans (hb1.mono b0.size)⟩
end Go.Proofs.YtoopgppahfnncaaDoor
/- Layer ir: the law of texts, given its anchor. -/
namespace Go.Proofs.YtoopgppahfnncaaDoor
open Go.Shelf Go.RowKit Go.Sort
set_option maxRecDepth 100000
set_option linter.unusedVariables false
set_option linter.unusedSimpArgs false


theorem rs_mono {α : Type} {N N' : Nat} {w : World} {sz : Nat} {R R' : List Value → α → Prop} {sp : Option Addr} {n cap : Nat} {l : List α} (hN : N ≤ N') (h : RS N w sz R sp n cap l) (hR : ∀ cs a, R cs a → R' cs a) : RS N' w sz R' sp n cap l :=
  ⟨h.len, h.nil, h.le, h.big, h.small, fun h0 => let ⟨b, off, e, hbN, hB⟩ := h.at0 h0; ⟨b, off, e, by omega, fun i a hX => let ⟨cs, h1, h2⟩ := hB i a hX; ⟨cs, h1, hR cs a h2⟩⟩⟩
theorem ex_mono {N N' : Nat} {w : World} (hN : N ≤ N') : ∀ (d : Nat) (cs : List Value) (t : ExT d), ExM N w d cs t → ExM N' w d cs t
  | 0, _, _, h => h
  | d + 1, _, _, h => let ⟨sp, m, cap, h1, h2, h3⟩ := h; ⟨sp, m, cap, h1, h2, rs_mono hN h3 (ex_mono hN d)⟩
theorem st_mono {N N' : Nat} {w : World} (hN : N ≤ N') : ∀ (d : Nat) (cs : List Value) (t : StT d), StM N w d cs t → StM N' w d cs t
  | 0, _, _, h => h
  | d + 1, _, _, h => let ⟨sa, na, ca, sb, nb, cb, sc, nc, cc, h1, h2, h3, h4, h5⟩ := h; ⟨sa, na, ca, sb, nb, cb, sc, nc, cc, h1, h2, rs_mono hN h3 (ex_mono hN 8), rs_mono hN h4 (st_mono hN d), rs_mono hN h5 (st_mono hN d)⟩
theorem pg_mono {N N' : Nat} {w : World} {cs : List Value} {p : PgT} (hN : N ≤ N') (h : PgM N w cs p) : PgM N' w cs p :=
  let ⟨sp, m, cap, h1, h2, h3⟩ := h
  ⟨sp, m, cap, h1, h2, rs_mono hN h3 fun _ _ h => let ⟨a, b, c, e1, e2, e3⟩ := h; ⟨a, b, c, e1, e2, rs_mono hN e3 (st_mono hN 8)⟩⟩

set_option maxHeartbeats 4000000 in
theorem mays_walk {sp : Option Addr} {n cap : Nat} (p : PgT) (w : World) (hM : PgM w.heap.size w [.slice sp n cap, .int .i64 p.da] p) (hT : Tb w) (hA : ∀ u, Tb u → Calls Tryd.prog 12 #[] u (BoP true u)) :
    Calls Tryd.prog 3 #[.agg #[.slice sp n cap, .int .i64 p.da]] w (BoP true w) := by
  have b0 := ab w (.cells #[.slice sp n cap, .int .i64 p.da] 24)
  have A := Arr.new w 24 #[.slice sp n cap, .int .i64 p.da]
  have hMU := PgM.below b0 _ p hM
  have htU := hT.bl b0
  have a0 := A.cell 0
  have a1 := A.cell 1
  generalize hU : w.alloc (.cells #[.slice sp n cap, .int .i64 p.da] 24) = U at *
  have hwU : w.heap.size < U.heap.size := A.lt
  have hMM := fun u (hb : Below U.heap.size U u) => pg_mono (Nat.le_of_lt hwU) (PgM.below (hb.mono (Nat.le_of_lt hwU)) _ p hMU)
  have h6 := fun u (hb : Below U.heap.size U u) => text6_any p u (hMM u hb) hb.size ⟨U, rfl, htU, hb⟩
  have h7 := fun u (hb : Below U.heap.size U u) => text7_any p u (hMM u hb) hb.size (htU.bl hb)
  have h8 := fun u (hb : Below U.heap.size U u) => nodes25_any p u (hMM u hb) hb.size
  have h9 := fun u (hb : Below U.heap.size U u) => nodes26_any p u (hMM u hb) hb.size
  have h10 := fun u (hb : Below U.heap.size U u) => may_any p u (hMM u hb) hb.size
  have h11 := fun u (hb : Below U.heap.size U u) => refMay_any p u (hMM u hb) hb.size
  have h12 := fun u (hb : Below U.heap.size U u) => hA u (htU.bl hb)
  unfold PTx at h7
  unfold BoP at h10 h11 h12
  generalize (if (pgN p).isSome then (0 : Int) else 2) = z at *
  generalize (((nN p).getD 0 : Nat) : Int) = nn at *
  generalize nE p = ne at *
  generalize tx (pTx p) = s at *
  generalize (pgN p).isSome = bb at *
  clear hM hMU hMM hA
  have hr := Below.refl U.heap.size U
  subst hU
  unfold BoP
  go_enter Tryd.func3, Tryd.ntmps3
  go_upto_region 5 with (first
    | (go_at_call 6; go_must (refine (h6 _ hr).mono ?_; rintro e w1 ⟨rfl, hb1⟩; have x1 := (hb1.cell hwU).trans a0; have y1 := (hb1.cell hwU).trans a1))
    | (go_at_call 7; go_must (refine (h7 w1 hb1).mono ?_; rintro e w2 ⟨rfl, hc2⟩; have hb2 := hb1.trans (hc2.mono hb1.size); have x2 := (hb2.cell hwU).trans a0; have y2 := (hb2.cell hwU).trans a1))
    | (go_at_call 8; go_must (refine (h8 w2 hb2).mono ?_; rintro e w3 ⟨rfl, hc3⟩; have hb3 := hb2.trans (hc3.mono hb2.size); have x3 := (hb3.cell hwU).trans a0; have y3 := (hb3.cell hwU).trans a1))
    | (go_at_call 9; go_must (refine (h9 w3 hb3).mono ?_; rintro e w4 ⟨rfl, hc4⟩; have hb4 := hb3.trans (hc4.mono hb3.size); have x4 := (hb4.cell hwU).trans a0; have y4 := (hb4.cell hwU).trans a1)))
  generalize hU : w.alloc (.cells #[.slice sp n cap, .int .i64 p.da] 24) = U at *
  have hD0 := hb4.drew
  have hS0 : ∀ u, Below U.heap.size U u → u.cell? ⟨w.heap.size, 0, none⟩ = some (.slice sp n cap) ∧ u.cell? ⟨w.heap.size, 1, none⟩ = some (.int .i64 p.da) := fun u hb => ⟨(hb.cell hwU).trans a0, (hb.cell hwU).trans a1⟩
  refine rgn (fun u => u.cell? ⟨w.heap.size, 0, none⟩ = some (.slice sp n cap) ∧ u.cell? ⟨w.heap.size, 1, none⟩ = some (.int .i64 p.da)) (hS0 _ hD0) (fun hSw => ?_)
  refine tk2 0 rfl ?_
  refine tk2 2 rfl ?_
  refine rd 1 rfl (fun K hK => ?_)
  go_simp
  refine (h10 _ hD0).mono ?_
  rintro e v1 ⟨rfl, hbv1⟩
  have hv1 := hD0.trans (hbv1.mono hD0.size)
  go_wp2_with fail
  refine hK.out _ _ (hS0 _ hv1) (fun hSv1 => ?_)
  clear hK K
  try simp only [Act.put, List.setIfInBounds_toArray, List.set_cons_zero, List.set_cons_succ]
  refine rd 3 rfl (fun K hK => ?_)
  go_simp
  refine (h11 _ hv1).mono ?_
  rintro e v2 ⟨rfl, hbv2⟩
  have hv2 := hv1.trans (hbv2.mono hv1.size)
  go_wp2_with fail
  refine hK.out _ _ (hS0 _ hv2) (fun hSv2 => ?_)
  clear hK K
  try simp only [Act.put, List.setIfInBounds_toArray, List.set_cons_zero, List.set_cons_succ]
  refine tk2 4 rfl ?_
  refine tk2 5 rfl ?_
  refine tk2 6 rfl ?_
  refine tk2 7 rfl ?_
  refine tk2 8 rfl ?_
  refine tk2 9 rfl ?_
  refine tk2 10 rfl ?_
  refine tk2 11 rfl ?_
  refine tk2 12 rfl ?_
  refine tk2 13 rfl ?_
  refine tk2 14 rfl ?_
  refine tk2 15 rfl ?_
  refine tk2 16 rfl ?_
  refine tk2 17 rfl ?_
  refine tk2 18 rfl ?_
  refine tk2 19 rfl ?_
  refine tk2 20 rfl ?_
  refine tk2 21 rfl ?_
  refine tk2 22 rfl ?_
  refine tk2 23 rfl ?_
  refine tk2 24 rfl ?_
  refine tk2 25 rfl ?_
  refine rd 26 rfl (fun K hK => ?_)
  go_simp
  refine (h12 _ hv2).mono ?_
  rintro e v3 ⟨rfl, hbv3⟩
  have hv3 := hv2.trans (hbv3.mono hv2.size)
  go_wp2_with fail
  refine hK.out _ _ (hS0 _ hv3) (fun hSv3 => ?_)
  clear hK K
  try simp only [Act.put, List.setIfInBounds_toArray, List.set_cons_zero, List.set_cons_succ]
  refine tk2 27 rfl ?_
  refine tk2 28 rfl ?_
  refine dn ?_
  go_wp2_with fail
  go_ret
  exact ⟨rfl, b0.trans (hv3.mono (Nat.le_of_lt hwU))⟩
end Go.Proofs.YtoopgppahfnncaaDoor
/- Layer ir: the anchor's small program as it lies. -/
namespace Go.Proofs.YtoopgppahfnncaaDoor
open Go.RowKit
set_option maxRecDepth 100000
set_option linter.unusedVariables false
set_option linter.unusedSimpArgs false


theorem rs_arr {α : Type} {N : Nat} {w : World} {sz : Nat} {R : List Value → α → Prop} {g ty : Nat} {C : Array Value} {n : Nat} {l : List α} (hA : Arr w g ty C) (hg : g < N) (hn : n = l.length) (hn' : n ≤ 100)
    (h : ∀ i a, l[i]? = some a → ∃ cs, (∀ j v, cs[j]? = some v → C[0 + i * sz + j]? = some v) ∧ R cs a) : RS N w sz R (some ⟨g, 0, none⟩) n n l :=
  ⟨hn, (fun h => by cases h), by omega, by omega, by omega, fun _ => ⟨_, _, rfl, hg, fun i a ha => let ⟨cs, h1, h2⟩ := h i a ha; ⟨cs, fun j v hv => (hA.cell _).trans (h1 j v hv), h2⟩⟩⟩
def qX (k n v o : Int) : ExT 8 := (⟨k, n, v, o, []⟩ : ExN (ExT 7))
def qX' (k n v o : Int) : ExT 7 := (⟨k, n, v, o, []⟩ : ExN (ExT 6))
def qB : ExT 8 := (⟨3, 0, 0, 5, [qX' 2 0 0 0, qX' 1 1 0 0]⟩ : ExN (ExT 7))
def qS (k v : Int) (l : List (ExT 8)) : StT 8 := (⟨k, v, 0, 0, l, [], []⟩ : StN (StT 7))
def qF : FuT := ⟨1, 2, [qS 1 1 [qB], qS 5 0 [qX 2 0 1 0]]⟩
def qG : FuT := ⟨0, 1, [qS 6 0 [qX 1 7 0 0], qS 2 0 [qX 1 0 0 0, qX 2 0 0 0]]⟩
/-- The anchor's program. -/
def qP : PgT := ⟨[qF, qG], 4⟩
theorem qu8 (x : Int) (h : 0 ≤ x ∧ x < 256) : U8 x := h
theorem qi64 (x : Int) (h : 0 ≤ x ∧ x < 256) : I64 x := by unfold I64; omega
theorem q_ex {N : Nat} {w : World} (k n v o : Int) (hk : 0 ≤ k ∧ k < 256) (hn : U64 n) (hv : 0 ≤ v ∧ v < 256) (ho : 0 ≤ o ∧ o < 256) : ExM N w 8 (exC k n v o (.slice none 0 0)) (qX k n v o) :=
  ⟨none, 0, 0, rfl, ⟨qu8 k hk, hn, qi64 v hv, qu8 o ho⟩, RS.nil0 _ _ _ _⟩
theorem q_ex' {N : Nat} {w : World} (k n v o : Int) (hk : 0 ≤ k ∧ k < 256) (hn : U64 n) (hv : 0 ≤ v ∧ v < 256) (ho : 0 ≤ o ∧ o < 256) : ExM N w 7 (exC k n v o (.slice none 0 0)) (qX' k n v o) :=
  ⟨none, 0, 0, rfl, ⟨qu8 k hk, hn, qi64 v hv, qu8 o ho⟩, RS.nil0 _ _ _ _⟩
theorem qu0 (n : Int) (h : 0 ≤ n ∧ n < 256) : U64 n := by unfold U64; omega
theorem q_st {N : Nat} {w : World} (k v : Int) {sa : Option Addr} {na ca : Nat} {l : List (ExT 8)} (hk : 0 ≤ k ∧ k < 256) (hv : 0 ≤ v ∧ v < 256) (h : RS N w 5 (ExM N w 8) sa na ca l) : StM N w 8 (stC k v 0 0 (.slice sa na ca) (.slice none 0 0) (.slice none 0 0)) (qS k v l) :=
  ⟨_, _, _, _, _, _, _, _, _, rfl, ⟨qu8 k hk, qi64 v hv, qi64 0 (by omega), qi64 0 (by omega)⟩, h, RS.nil0 _ _ _ _, RS.nil0 _ _ _ _⟩

theorem q_pg {N : Nat} {w : World} {A B C D F G H J : Nat} (hA : Arr w A 80 #[.int .u8 2, .int .u64 0, .int .i64 0, .int .u8 0, .slice none 0 0, .int .u8 1, .int .u64 1, .int .i64 0, .int .u8 0, .slice none 0 0]) (hB : Arr w B 80 #[.int .u8 3, .int .u64 0, .int .i64 0, .int .u8 5, .slice (some ⟨A, 0, none⟩) 2 2]) (hC : Arr w C 80 #[.int .u8 2, .int .u64 0, .int .i64 1, .int .u8 0, .slice none 0 0]) (hD : Arr w D 66 #[.int .u8 1, .int .i64 1, .int .i64 0, .int .i64 0, .slice (some ⟨B, 0, none⟩) 1 1, .slice none 0 0, .slice none 0 0, .int .u8 5, .int .i64 0, .int .i64 0, .int .i64 0, .slice (some ⟨C, 0, none⟩) 1 1, .slice none 0 0, .slice none 0 0])
    (hF : Arr w F 80 #[.int .u8 1, .int .u64 7, .int .i64 0, .int .u8 0, .slice none 0 0]) (hG : Arr w G 80 #[.int .u8 1, .int .u64 0, .int .i64 0, .int .u8 0, .slice none 0 0, .int .u8 2, .int .u64 0, .int .i64 0, .int .u8 0, .slice none 0 0]) (hH : Arr w H 66 #[.int .u8 6, .int .i64 0, .int .i64 0, .int .i64 0, .slice (some ⟨F, 0, none⟩) 1 1, .slice none 0 0, .slice none 0 0, .int .u8 2, .int .i64 0, .int .i64 0, .int .i64 0, .slice (some ⟨G, 0, none⟩) 2 2, .slice none 0 0, .slice none 0 0]) (hJ : Arr w J 40 #[.int .i64 1, .int .i64 2, .slice (some ⟨D, 0, none⟩) 2 2, .int .i64 0, .int .i64 1, .slice (some ⟨H, 0, none⟩) 2 2])
    (lA : A < N) (lB : B < N) (lC : C < N) (lD : D < N) (lF : F < N) (lG : G < N) (lH : H < N) (lJ : J < N) :
    PgM N w [.slice (some ⟨J, 0, none⟩) 2 2, .int .i64 4] qP := by
  have x0 : RS N w 5 (ExM N w 7) (some ⟨A, 0, none⟩) 2 2 [qX' 2 0 0 0, qX' 1 1 0 0] :=
    rs_arr hA lA rfl (by decide) fun i a ha => match i, ha with
      | 0, ha => by
        obtain rfl : qX' 2 0 0 0 = a := Option.some.inj ha
        exact ⟨exC 2 0 0 0 (.slice none 0 0), (fun j v hv => by
          match j, hv with
          | 0, hv => exact hv
          | 1, hv => exact hv
          | 2, hv => exact hv
          | 3, hv => exact hv
          | 4, hv => exact hv
          | j + 5, hv => cases hv), q_ex' 2 0 0 0 (by decide) (qu0 0 (by decide)) (by decide) (by decide)⟩
      | 1, ha => by
        obtain rfl : qX' 1 1 0 0 = a := Option.some.inj ha
        exact ⟨exC 1 1 0 0 (.slice none 0 0), (fun j v hv => by
          match j, hv with
          | 0, hv => exact hv
          | 1, hv => exact hv
          | 2, hv => exact hv
          | 3, hv => exact hv
          | 4, hv => exact hv
          | j + 5, hv => cases hv), q_ex' 1 1 0 0 (by decide) (qu0 1 (by decide)) (by decide) (by decide)⟩
      | i + 2, ha => by cases ha
  have x1 : RS N w 5 (ExM N w 8) (some ⟨B, 0, none⟩) 1 1 [qB] :=
    rs_arr hB lB rfl (by decide) fun i a ha => match i, ha with
      | 0, ha => by
        obtain rfl : qB = a := Option.some.inj ha
        exact ⟨exC 3 0 0 5 (.slice (some ⟨A, 0, none⟩) 2 2), (fun j v hv => by
          match j, hv with
          | 0, hv => exact hv
          | 1, hv => exact hv
          | 2, hv => exact hv
          | 3, hv => exact hv
          | 4, hv => exact hv
          | j + 5, hv => cases hv), ⟨_, _, _, rfl, ⟨qu8 3 (by decide), qu0 0 (by decide), qi64 0 (by decide), qu8 5 (by decide)⟩, x0⟩⟩
      | i + 1, ha => by cases ha
  have x2 : RS N w 5 (ExM N w 8) (some ⟨C, 0, none⟩) 1 1 [qX 2 0 1 0] :=
    rs_arr hC lC rfl (by decide) fun i a ha => match i, ha with
      | 0, ha => by
        obtain rfl : qX 2 0 1 0 = a := Option.some.inj ha
        exact ⟨exC 2 0 1 0 (.slice none 0 0), (fun j v hv => by
          match j, hv with
          | 0, hv => exact hv
          | 1, hv => exact hv
          | 2, hv => exact hv
          | 3, hv => exact hv
          | 4, hv => exact hv
          | j + 5, hv => cases hv), q_ex 2 0 1 0 (by decide) (qu0 0 (by decide)) (by decide) (by decide)⟩
      | i + 1, ha => by cases ha
  have x3 : RS N w 7 (StM N w 8) (some ⟨D, 0, none⟩) 2 2 [qS 1 1 [qB], qS 5 0 [qX 2 0 1 0]] :=
    rs_arr hD lD rfl (by decide) fun i a ha => match i, ha with
      | 0, ha => by
        obtain rfl : qS 1 1 [qB] = a := Option.some.inj ha
        exact ⟨stC 1 1 0 0 (.slice (some ⟨B, 0, none⟩) 1 1) (.slice none 0 0) (.slice none 0 0), (fun j v hv => by
          match j, hv with
          | 0, hv => exact hv
          | 1, hv => exact hv
          | 2, hv => exact hv
          | 3, hv => exact hv
          | 4, hv => exact hv
          | 5, hv => exact hv
          | 6, hv => exact hv
          | j + 7, hv => cases hv), q_st 1 1 (by decide) (by decide) x1⟩
      | 1, ha => by
        obtain rfl : qS 5 0 [qX 2 0 1 0] = a := Option.some.inj ha
        exact ⟨stC 5 0 0 0 (.slice (some ⟨C, 0, none⟩) 1 1) (.slice none 0 0) (.slice none 0 0), (fun j v hv => by
          match j, hv with
          | 0, hv => exact hv
          | 1, hv => exact hv
          | 2, hv => exact hv
          | 3, hv => exact hv
          | 4, hv => exact hv
          | 5, hv => exact hv
          | 6, hv => exact hv
          | j + 7, hv => cases hv), q_st 5 0 (by decide) (by decide) x2⟩
      | i + 2, ha => by cases ha
  have x4 : RS N w 5 (ExM N w 8) (some ⟨F, 0, none⟩) 1 1 [qX 1 7 0 0] :=
    rs_arr hF lF rfl (by decide) fun i a ha => match i, ha with
      | 0, ha => by
        obtain rfl : qX 1 7 0 0 = a := Option.some.inj ha
        exact ⟨exC 1 7 0 0 (.slice none 0 0), (fun j v hv => by
          match j, hv with
          | 0, hv => exact hv
          | 1, hv => exact hv
          | 2, hv => exact hv
          | 3, hv => exact hv
          | 4, hv => exact hv
          | j + 5, hv => cases hv), q_ex 1 7 0 0 (by decide) (qu0 7 (by decide)) (by decide) (by decide)⟩
      | i + 1, ha => by cases ha
  have x5 : RS N w 5 (ExM N w 8) (some ⟨G, 0, none⟩) 2 2 [qX 1 0 0 0, qX 2 0 0 0] :=
    rs_arr hG lG rfl (by decide) fun i a ha => match i, ha with
      | 0, ha => by
        obtain rfl : qX 1 0 0 0 = a := Option.some.inj ha
        exact ⟨exC 1 0 0 0 (.slice none 0 0), (fun j v hv => by
          match j, hv with
          | 0, hv => exact hv
          | 1, hv => exact hv
          | 2, hv => exact hv
          | 3, hv => exact hv
          | 4, hv => exact hv
          | j + 5, hv => cases hv), q_ex 1 0 0 0 (by decide) (qu0 0 (by decide)) (by decide) (by decide)⟩
      | 1, ha => by
        obtain rfl : qX 2 0 0 0 = a := Option.some.inj ha
        exact ⟨exC 2 0 0 0 (.slice none 0 0), (fun j v hv => by
          match j, hv with
          | 0, hv => exact hv
          | 1, hv => exact hv
          | 2, hv => exact hv
          | 3, hv => exact hv
          | 4, hv => exact hv
          | j + 5, hv => cases hv), q_ex 2 0 0 0 (by decide) (qu0 0 (by decide)) (by decide) (by decide)⟩
      | i + 2, ha => by cases ha
  have x6 : RS N w 7 (StM N w 8) (some ⟨H, 0, none⟩) 2 2 [qS 6 0 [qX 1 7 0 0], qS 2 0 [qX 1 0 0 0, qX 2 0 0 0]] :=
    rs_arr hH lH rfl (by decide) fun i a ha => match i, ha with
      | 0, ha => by
        obtain rfl : qS 6 0 [qX 1 7 0 0] = a := Option.some.inj ha
        exact ⟨stC 6 0 0 0 (.slice (some ⟨F, 0, none⟩) 1 1) (.slice none 0 0) (.slice none 0 0), (fun j v hv => by
          match j, hv with
          | 0, hv => exact hv
          | 1, hv => exact hv
          | 2, hv => exact hv
          | 3, hv => exact hv
          | 4, hv => exact hv
          | 5, hv => exact hv
          | 6, hv => exact hv
          | j + 7, hv => cases hv), q_st 6 0 (by decide) (by decide) x4⟩
      | 1, ha => by
        obtain rfl : qS 2 0 [qX 1 0 0 0, qX 2 0 0 0] = a := Option.some.inj ha
        exact ⟨stC 2 0 0 0 (.slice (some ⟨G, 0, none⟩) 2 2) (.slice none 0 0) (.slice none 0 0), (fun j v hv => by
          match j, hv with
          | 0, hv => exact hv
          | 1, hv => exact hv
          | 2, hv => exact hv
          | 3, hv => exact hv
          | 4, hv => exact hv
          | 5, hv => exact hv
          | 6, hv => exact hv
          | j + 7, hv => cases hv), q_st 2 0 (by decide) (by decide) x5⟩
      | i + 2, ha => by cases ha
  have x7 : RS N w 3 (FuM N w) (some ⟨J, 0, none⟩) 2 2 [qF, qG] :=
    rs_arr hJ lJ rfl (by decide) fun i a ha => match i, ha with
      | 0, ha => by
        obtain rfl : qF = a := Option.some.inj ha
        exact ⟨fuC 1 2 (.slice (some ⟨D, 0, none⟩) 2 2), (fun j v hv => by
          match j, hv with
          | 0, hv => exact hv
          | 1, hv => exact hv
          | 2, hv => exact hv
          | j + 3, hv => cases hv), ⟨_, _, _, rfl, ⟨qi64 1 (by decide), qi64 2 (by decide)⟩, x3⟩⟩
      | 1, ha => by
        obtain rfl : qG = a := Option.some.inj ha
        exact ⟨fuC 0 1 (.slice (some ⟨H, 0, none⟩) 2 2), (fun j v hv => by
          match j, hv with
          | 0, hv => exact hv
          | 1, hv => exact hv
          | 2, hv => exact hv
          | j + 3, hv => cases hv), ⟨_, _, _, rfl, ⟨qi64 0 (by decide), qi64 1 (by decide)⟩, x6⟩⟩
      | i + 2, ha => by cases ha
  exact ⟨_, _, _, rfl, qi64 4 (by decide), x7⟩
end Go.Proofs.YtoopgppahfnncaaDoor
