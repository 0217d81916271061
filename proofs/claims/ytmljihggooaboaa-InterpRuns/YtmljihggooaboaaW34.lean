/- Layer interp: InterpAlone. -/
import Derived.Test.YtmljihggooaboaaW33
import Derived.Test.YtmljihggooaboaaW31
import Derived.Test.YtmljihggooaboaaW14
import Derived.Test.YtmljihggooaboaaW17
import Derived.Handy
import Derived.BigQuiet
import Derived.BigRegion
import Derived.Laws.AppendOwnNone
namespace Go.Proofs.Ytmljihggooaboaa
open Go.RowKit
set_option maxRecDepth 100000
set_option linter.unusedVariables false
set_option linter.unusedSimpArgs false

theorem by64_get {L : List Int} {j : Nat} (h : j < L.length) : (by64 L)[j]? = some (.int .u64 (L.getD j 0)) := by simp [by64, List.getElem?_eq_getElem h, List.getD]
theorem by64_one (L : List Int) : ∀ v ∈ by64 L, v.oneCell' = true := by
  intro v hv
  simp only [by64, List.mem_map] at hv
  obtain ⟨x, -, rfl⟩ := hv
  rfl
theorem append_words {N : Nat} {ops : Array Oper} {rest : List Oper} {o : Oper} {a : Act} {w : World} {Q : Exit → Act → World → Prop} (hgd : Region.wanted o (yielded ops a.tmps) = true) (s x : Operand)
    (ho : o.op = .call { callee := .builtin .append, args := #[s, x], argTypes := #[25, 25] })
    (base : Nat) (v : Value) (hs : a.eval s = v) (hown : w.ownsRow base 30 1 v 0 (by64 []))
    (sp : Option Addr) (n c : Nat) (L : List Int) (hx : a.eval x = .slice sp n c) (hS : MS N w sp n c L) (hbase : base ≤ w.heap.size)
    (h : ∀ v' w', w'.ownsRow base 30 1 v' n (by64 L) → w.grownBy w' v.ownBlock → wpList Try.prog ops Q rest (a.put o.dst v') w') : wpList Try.prog ops Q (o :: rest) a w := by
  obtain ⟨i0, hi, hz0, hz1, hz2⟩ := info_parts info30
  refine wpList_want hgd fun K hK => ?_
  have hl := hS.len.out
  cases sp with
  | none =>
    obtain ⟨rfl, rfl⟩ := hS.nil rfl
    obtain rfl : L = [] := List.eq_nil_of_length_eq_zero hl.symm
    have hrun := run_append_owned_none (P := Try.prog) (w := w) base 25 o.type 30 i0 1 Try.underlying25 hi v 0 _ hown
    unfold Oper.wp
    simp [execOp, ho, resolve, invoke, builtin, hs, hx, hrun, Result.andThen]
    exact hK _ _ (h v w hown ⟨rfl, rfl, rfl, Nat.le_refl _, fun _ _ _ => rfl⟩)
  | some ad =>
    have hsm := hS.small
    refine wp_append_own w s x 25 ho base 30 i0 (.int .u64 0) 1 8 Try.underlying25 hi hz0 hz1 hz2 rfl (by omega) v 0 _ hs hown ad n c (by64 L) hx (by rw [by64_len]; omega) ?_ (by64_one L) (by unfold maxLen; omega) (by omega) hbase ?_
    · intro j u hj
      have hjl : j < L.length := by have := (List.getElem?_eq_some_iff.1 hj).1; rwa [by64_len] at this
      obtain ⟨b, off, e, -, hB⟩ := hS.at0 (by omega)
      obtain rfl := Option.some.inj e
      rw [by64_get hjl] at hj
      rw [Addr.add_mid, hB j (by omega)]; exact hj
    · intro v' w' h1 h2 _
      exact hK _ _ (h v' w' (by simpa [by64] using h1) h2)
/-- What was copied. -/
theorem own_ag {w : World} {base n : Nat} {v : Value} {D : List Int} (h : w.ownsRow base 30 1 v n (by64 D)) : ∃ sp cap, v = .slice sp n cap ∧ AG sp n D w ∧ (0 < n → ∃ g, sp = some ⟨g, 0, none⟩ ∧ base ≤ g ∧ g < w.heap.size ∧ ∀ i x, D[i]? = some x → w.cell? ⟨g, i, none⟩ = some (.int .u64 x)) := by
  obtain ⟨hl, h | ⟨g, cap, cur, rfl, hg, hh, hn, hm, hc, ht⟩⟩ := h
  · obtain ⟨rfl, rfl⟩ := h
    rw [by64_len] at hl
    exact ⟨none, 0, rfl, ⟨hid (by omega), fun h => by omega⟩, fun h => by omega⟩
  · rw [by64_len, Nat.mul_one] at hl
    have hc2 : ∀ i x, D[i]? = some x → w.cell? ⟨g, i, none⟩ = some (.int .u64 x) := fun i x hx => by
      have hi := (List.getElem?_eq_some_iff.1 hx).1
      rw [cell_of_row w g i cur 30 (0, 0) hh, ← Array.getElem?_toList, ← List.getElem?_take_of_lt (show i < n * 1 by omega), ht, by64, List.getElem?_map, hx]
      rfl
    exact ⟨_, cap, rfl, ⟨hid hl, fun _ => ⟨_, rfl, fun i x hx => (adr0 g i).symm ▸ hc2 i x hx⟩⟩, fun _ => ⟨g, rfl, hg, (Array.getElem?_eq_some_iff.1 hh).1, hc2⟩⟩
theorem rnV_c (p : PgT) (es : List En) (D : List Int) (fuel : Int) : (rnV p es D fuel).c = rnC p D.length fuel := by
  unfold rnV
  split
  · next h => rw [h]; split <;> rfl
  · rfl
/-- Nothing is asked for: what is known does not matter. -/
theorem rnV_na {p : PgT} {es : List En} {D : List Int} {fuel : Int} (hm : (pgN p).isSome = true) (h : (p.fs.any fun f => f.b.any (prT 8)) = false) : rnV p es D fuel = rnV p [] D fuel := by
  obtain ⟨hb, hF0, f, hf, hv, hv2, hol⟩ := pgN_parts hm
  unfold rnV
  split
  · rw [hf]
    have hfs : ∀ f ∈ p.fs, f.b.any (prT 8) = false := fun f hf => any_no h hf
    have hfo : ∀ f ∈ p.fs, ∀ b ∈ f.b, ∃ ps vs, okS ps vs 8 b := fun g hg b hb => by
      obtain ⟨i, hi⟩ := List.getElem?_of_mem hg
      exact ⟨_, _, (hF0 i g hi).2 b hb⟩
    have hfm : f ∈ p.fs := List.mem_of_getLast? hf
    have key : ∀ (l : List (StT 8)) (s : SS), (∀ a ∈ l, ∃ ps vs, okS ps vs 8 a) → l.any (prT 8) = false → runL (stm (EV p.fs es) fuel.toNat 8) l s = runL (stm (EV p.fs []) fuel.toNat 8) l s := by
      intro l
      induction l with
      | nil => intro s _ _; rfl
      | cons a r ih =>
        intro s ho hl
        obtain ⟨ps', vs', ho1⟩ := ho a (by simp)
        have ha := stm_na hfs hfo (es := es) (es' := []) fuel.toNat 8 a s ps' vs' ho1 (any_no hl (by simp))
        have hr : r.any (prT 8) = false := by simp only [List.any_cons, Bool.or_eq_false_iff] at hl; exact hl.2
        show (if _ then _ else _) = (if _ then _ else _)
        rw [ha, ih _ (fun b hb => ho b (by simp [hb])) hr]
    have e : rnR p es f D fuel.toNat = rnR p [] f D fuel.toNat := key f.b _ (fun a ha => hfo f hfm a ha) (hfs f hfm)
    simp only [e]
  · rfl
theorem rnV_few (p : PgT) (es : List En) (D : List Int) (fuel : Int) : (rnV p es D fuel).W.length ≤ 1024 := by
  by_cases h : rnC p D.length fuel = 0
  · have hc := h
    unfold rnC at hc
    split at hc
    · cases hc
    split at hc
    · cases hc
    next g1 g2 =>
    have hmay : (pgN p).isSome = true := by
      cases h : pgN p with
      | none => exact absurd (.inl h) g1
      | some q => rfl
    obtain ⟨hb, -⟩ := pgN_parts hmay
    have hda := of_decide_eq_true (show decide _ = true from hb)
    have := (fuel_facts (es := es) h 0 (by omega)).2.2.2.1
    omega
  · unfold rnV
    rw [if_neg h]
    show 0 ≤ 1024
    omega
theorem sk {P : Program} {ops : Array Oper} {Q : Exit → Act → World → Prop} {md : Region.Mode} {S : World → Prop} (i : Nat) {dst : Option Tmp} {op : Op} {ty : TypeId} {pos : String} {af : Array Edge} {gd : Option (Nat × Bool)} {fuel : Nat} {listed : Array Bool} {a a' : Act} {w : World} (hi : ops[i]? = some ⟨dst, op, ty, pos, af, gd⟩)
    (h : wpAnyH P md ops Q S fuel (listed.setIfInBounds i true) a' w)
    (hs : Region.noSelect ops = true := by kernel_rfl) (hf : Region.free md ops listed i = true := by kernel_rfl) (hr : (Region.ready md ops listed).contains i = true := by kernel_rfl)
    (hw : Region.wanted ⟨dst, op, ty, pos, af, gd⟩ (yielded ops a.tmps) = false := by rfl)
    (hQ : ∀ c a w, Q (.panic c) (a.put dst undef) w → Q (.panic c) a w := by exact fun _ _ _ h => h)
    (ha : a.put dst undef = a' := by (conv => (lhs; try simp only [Act.put, List.setIfInBounds_toArray, List.set_cons_zero, List.set_cons_succ])); (try rfl)) (hS : S w := by assumption) : wpAnyH P md ops Q S (fuel + 1) listed a w :=
  wpAnyH_take (v := undef) hi hs hf hr hQ (Or.inr ⟨hw, rfl⟩) hS (by rw [ha]; exact h)
variable {N : Nat} {p : PgT} {fp : Option Addr} {fm fc : Nat} {sd : Option Addr} {nd cd : Nat} {D : List Int} {kp : Option Addr} {kn kc : Nat} {es : List En}
set_option maxHeartbeats 4000000 in
theorem alone_walk {fuel0 : Int} (w : World) (hN : N ≤ w.heap.size) (hM : PgM N w [.slice fp fm fc, .int .i64 p.da] p) (hD : AG sd nd D w) (hDU : ∀ x ∈ D, U64 x) (hMS : MS N w sd nd cd D) (hE : ES N w kp kn kc es) :
    Calls Try.prog 6 #[.agg #[.slice fp fm fc, .int .i64 p.da], .agg #[.slice sd nd cd, .int .i64 fuel0], .slice kp kn kc] w (BoP true w) := by
  have hnd : nd = D.length := hD.1.out.symm
  subst hnd
  have b0 : Below w.heap.size w ((w.alloc (.cells #[.slice fp fm fc, .int .i64 p.da] 24)).alloc (.cells #[.slice sd D.length cd, .int .i64 fuel0] 27)) := (ab w _).alloc (by simp) _
  have hrE : Hid (∀ (fuel : Int) (s : Option Addr) (c : Nat) (u : World), Below w.heap.size w u → AG s D.length D u → Calls Try.prog 7 #[.agg #[.slice fp fm fc, .int .i64 p.da], .slice s D.length c, .slice kp kn kc, .int .i64 fuel] u (RnP (rnV p es D fuel) u)) := hid fun fuel s c u hb hA => run_any (N := N) u (by have := hb.size; omega) (PgM.below (hb.mono hN) _ p hM) hA hDU (hE.below (hb.mono hN))
  have hrN : Hid (∀ (fuel : Int) (s : Option Addr) (c : Nat) (u : World), Below w.heap.size w u → AG s D.length D u → Calls Try.prog 7 #[.agg #[.slice fp fm fc, .int .i64 p.da], .slice s D.length c, .slice none 0 0, .int .i64 fuel] u (RnP (rnV p [] D fuel) u)) := hid fun fuel s c u hb hA => run_any (N := N) u (by have := hb.size; omega) (PgM.below (hb.mono hN) _ p hM) hA hDU ⟨hid rfl, fun _ => ⟨rfl, rfl⟩, Nat.le_refl _, by omega, by omega, fun h => by omega, fun e he => by cases he⟩
  have hmy := refMay_any p _ (PgM.below (b0.mono hN) _ p hM) (by have := b0.size; omega)
  have han := hid fun (u : World) => anchored_any u
  have A0 := (Arr.new w 24 #[.slice fp fm fc, .int .i64 p.da]).alloc (.cells #[.slice sd D.length cd, .int .i64 fuel0] 27)
  have A1 := Arr.new (w.alloc (.cells #[.slice fp fm fc, .int .i64 p.da] 24)) 27 #[.slice sd D.length cd, .int .i64 fuel0]
  simp only [World.size_alloc] at A1
  have v00 := A0.cell 0
  have v01 := A0.cell 1
  have v11 := A1.cell 1
  unfold BoP at hmy han
  replace hD := hid hD
  replace hE := hid hE
  replace hMS := hid hMS
  replace hDU := hid hDU
  obtain ⟨fp', fm', fc', ecs, -, hFS⟩ := hM
  cases ecs
  by_cases hmay : (pgN p).isSome = true
  rotate_left
  · rw [Bool.eq_false_iff.2 hmay] at hmy
    have hpn : pgN p = none := by
      cases h : pgN p with
      | none => rfl
      | some q => rw [h] at hmay; exact absurd rfl hmay
    replace hmy := hid hmy
    clear hFS
    go_enter Try.func6, Try.ntmps6
    go_upto_region 2 with fail
    generalize hfu : (if (2000 : Int) < fuel0 then (2000 : Int) else fuel0) = fuel
    clear hfu
    have hc2 : ((rnV p es D fuel).c == 2) = true := by rw [rnV_c]; unfold rnC; rw [if_pos (.inl hpn)]; rfl
    obtain ⟨x, hx⟩ : ∃ x, rnV p es D fuel = x := ⟨_, rfl⟩
    rw [hx] at hc2
    replace hx := hid hx
    clear hpn hmay
    go_upto_region 4 with (first
      | (go_at_call 13; go_must (refine hmy.out.mono ?_; rintro e w1 ⟨rfl, hb1⟩; have B1 := b0.trans (hb1.mono b0.size); have c00 := (A0.bl hb1).cell 0; have c01 := (A0.bl hb1).cell 1; have c10 := (A1.bl hb1).cell 0; have hq := hrE.out fuel sd cd w1 B1 (hD.out.bl B1); rw [hx.out] at hq; replace hq := hid hq))
      | (go_at_call 7; go_must (refine hq.out.mono ?_; rintro e w2 ⟨sx, nx, rfl, hox, hb2⟩)))
    have BV : Below w.heap.size w (w2.alloc (.cells #[.int .u8 x.st, .int .u64 x.va, .slice sx nx nx, .int .i64 x.sp] 32)) := (B1.trans (hb2.mono B1.size)).alloc (by have := B1.size; have := hb2.size; omega) _
    clear hox hrE hrN hq hmy
    generalize w2.alloc (.cells #[.int .u8 x.st, .int .u64 x.va, .slice sx nx nx, .int .i64 x.sp] 32) = V at *
    go_wp2_with (go_at_call 10; go_must (refine (han.out _).mono ?_; rintro e w5 ⟨rfl, hb5⟩))
    go_ret
    exact ⟨rfl, BV.trans (hb5.mono BV.size)⟩
  rw [hmay] at hmy
  replace hmy := hid hmy
  obtain ⟨-, hF0, -⟩ := pgN_parts hmay
  have hflen := hFS.len
  have hfsm := hFS.small
  go_enter Try.func6, Try.ntmps6
  go_upto_region 2 with fail
  generalize hfu : (if (2000 : Int) < fuel0 then (2000 : Int) else fuel0) = fuel
  clear hfu
  go_upto_region 7 with (go_at_call 13; go_must (refine hmy.out.mono ?_; rintro e w1 ⟨rfl, hb1⟩))
  have B1 := b0.trans (hb1.mono b0.size)
  have A0V := A0.bl hb1
  have A1V := A1.bl hb1
  clear hmy A0 A1 hb1 b0 v00 v01 v11
  obtain ⟨aB, haB⟩ : ∃ aB, (p.fs.any fun f => f.b.any (prT 8)) = aB := ⟨_, rfl⟩
  go_loopw [10, 11] (fun q i wr => ∃ (j : Nat) (b : Bool), i = .int .i64 (j : Int) ∧ q = .bool b ∧ j ≤ fm ∧ Below w1.heap.size w1 wr ∧ Hid ((b || ((p.fs.drop j).any fun f => f.b.any (prT 8))) = aB)) (fun _ i _ => fm - (intOf i).toNat)
  case atStart => exact ⟨0, false, rfl, rfl, by omega, Below.refl _ _, hid (by simpa using haB)⟩
  case round =>
    obtain ⟨j, b, rfl, rfl, hj, hbl, hbb⟩ := hrel
    have c00 := (A0V.bl hbl).cell 0
    by_cases hlt : j < fm
    · have hlt' : (j : Int) < fm := by omega
      obtain ⟨f, hf⟩ : ∃ f, p.fs[j]? = some f := ⟨p.fs[j]'(by rw [← hflen.out]; exact hlt), List.getElem?_eq_getElem _⟩
      have hBw : Below w.heap.size w wr := B1.trans (hbl.mono B1.size)
      obtain ⟨g, off, rfl, hg, hR⟩ := hFS.at0 (by omega)
      obtain ⟨cs, hrg, hMf⟩ := hR j f hf
      have hrg2 := rb hrg (hBw.mono hN) hg
      obtain ⟨sb, nb, cb, rfl, -, hSb⟩ := FuM.below (hBw.mono hN) cs f hMf
      have c2 : wr.cell? ⟨g, off + j * 3 + 2, none⟩ = some (.slice sb nb cb) := hrg2 2 _ rfl
      have hpre := hid (pre_any 8 wr (by have := hBw.size; omega) hSb (hF0 j f hf).2)
      have hdr : ((p.fs.drop j).any fun f => f.b.any (prT 8)) = (f.b.any (prT 8) || ((p.fs.drop (j + 1)).any fun f => f.b.any (prT 8))) := by
        obtain ⟨hj2, rfl⟩ := List.getElem?_eq_some_iff.1 hf
        rw [List.drop_eq_getElem_cons hj2, List.any_cons]
      have hn := hbb.out
      rw [hdr] at hn
      replace hg := hid hg
      unfold BoP at hpre
      clear hR hrg hrg2 hMf hSb hdr hbb hf hFS
      cases b with
      | true =>
        replace hn : Hid ((true || ((p.fs.drop (j + 1)).any fun f => f.b.any (prT 8))) = aB) := hid (by simpa using hn)
        go_wp2_with fail
        go_roundw
        case rel => exact ⟨j + 1, true, by go_num, rfl, by omega, hbl, hn⟩
        case measure => simp [intOf]; omega
      | false =>
        replace hn : Hid ((f.b.any (prT 8) || ((p.fs.drop (j + 1)).any fun f => f.b.any (prT 8))) = aB) := hid (by simpa using hn)
        generalize f.b.any (prT 8) = b2 at *
        go_wp2_with (go_at_call 14; go_must (refine hpre.out.mono ?_; rintro e w2 ⟨rfl, hw2⟩))
        go_roundw
        case rel => exact ⟨j + 1, b2, by go_num, rfl, by omega, hbl.trans (hw2.mono hbl.size), hn⟩
        case measure => simp [intOf]; omega
    · obtain rfl : j = fm := by omega
      have hn := hbb.out
      rw [List.drop_eq_nil_of_le (by rw [hflen.out]; exact Nat.le_refl _)] at hn
      obtain rfl : b = aB := by simpa using hn
      have haB2 := hid haB
      clear hFS hbb hn hflen hfsm haB
      have B2 : Below w.heap.size w wr := B1.trans (hbl.mono B1.size)
      have A0W := A0V.bl hbl
      have A1W := A1V.bl hbl
      clear A0V A1V hbl B1 c00 hF0
      generalize wr = U at *
      have A1U := A1W.alloc (.cells #[] 30)
      have c10 := A1U.cell 0
      have c0u := A0W.cell 0
      have hlit : (U.alloc (.cells #[] 30)).ownsRow U.heap.size 30 1 (.slice (some ⟨U.heap.size, 0, none⟩) 0 0) 0 (by64 []) := World.ownsRow_lit _ _ _ (Nat.le_refl _) (by unfold maxLen; omega) rfl
      have B2a : Below w.heap.size w (U.alloc (.cells #[] 30)) := B2.alloc B2.size _
      have hMS2 := hid (hMS.out.below (B2a.mono hN))
      go_upto_region 11 with (at_builtin; go_must (refine append_words (N := N) (by rfl) (.tmp 59) (.tmp 61) (by rfl) U.heap.size _ (by rfl) hlit sd D.length cd D (by rfl) hMS2.out (by simp) ?_; intro v1 w2 hown1 hg1))
      have hB2 : Below U.heap.size U w2 := (ab U (.cells #[] 30)).grown hg1 (by simp) (fun k e => own_ge hlit k e)
      obtain ⟨s12, c12, rfl, hA12, hd12⟩ := own_ag hown1
      have B3 : Below w.heap.size w w2 := B2.trans (hB2.mono B2.size)
      have A0T := A0W.bl hB2
      have A1T := A1W.bl hB2
      have hUs := B2.size
      have hs2 := hB2.size
      clear A0W A1W A1U c10 c0u hlit B2a hMS2 hown1 hg1 hB2 B2
      have c00 := A0T.cell 0
      have c01 := A0T.cell 1
      obtain ⟨x, hx⟩ : ∃ x, rnV p es D fuel = x := ⟨_, rfl⟩
      obtain ⟨y, hy⟩ : ∃ y, rnV p [] D fuel = y := ⟨_, rfl⟩
      have hxy : (x.c == y.c) = true := by rw [← hx, ← hy, rnV_c, rnV_c]; simp
      have hxz : Hid (b = false → x = y) := hid fun hb => by rw [← hx, ← hy]; exact rnV_na hmay (by rw [haB2.out, hb])
      have hq := hrE.out fuel s12 c12 w2 B3 hA12
      rw [hx] at hq
      replace hq := hid hq
      replace hx := hid hx
      replace hy := hid hy
      clear hmay haB2
      have hw0 := A0T.lt
      go_upto_region 12 with (go_at_call 7; go_must (refine hq.out.mono ?_; rintro e w3 ⟨sx, nx, rfl, hox, hb3⟩))
      have AX := Arr.new w3 32 #[.int .u8 x.st, .int .u64 x.va, .slice sx nx nx, .int .i64 x.sp]
      have A0S := (A0T.bl hb3).alloc (.cells #[.int .u8 x.st, .int .u64 x.va, .slice sx nx nx, .int .i64 x.sp] 32)
      have A1S := (A1T.bl hb3).alloc (.cells #[.int .u8 x.st, .int .u64 x.va, .slice sx nx nx, .int .i64 x.sp] 32)
      have hbS : Below w2.heap.size w2 (w3.alloc (.cells #[.int .u8 x.st, .int .u64 x.va, .slice sx nx nx, .int .i64 x.sp] 32)) := hb3.alloc hb3.size _
      have B4 : Below w.heap.size w (w3.alloc (.cells #[.int .u8 x.st, .int .u64 x.va, .slice sx nx nx, .int .i64 x.sp] 32)) := B3.trans (hbS.mono B3.size)
      have hA13 := hA12.bl hbS
      have hoxS : OD w2.heap.size (w3.alloc (.cells #[.int .u8 x.st, .int .u64 x.va, .slice sx nx nx, .int .i64 x.sp] 32)) sx nx x.W := ⟨hox.len, fun h => let ⟨g, e, hg, hA⟩ := hox.at0 h; ⟨g, e, hg, hA.alloc _⟩, hox.nil⟩
      have hs3 := hb3.size
      have hd13 : Hid (0 < D.length → ∃ g, s12 = some ⟨g, 0, none⟩ ∧ g < w2.heap.size ∧ ∀ i q, D[i]? = some q → (w3.alloc (.cells #[.int .u8 x.st, .int .u64 x.va, .slice sx nx nx, .int .i64 x.sp] 32)).cell? ⟨g, i, none⟩ = some (.int .u64 q)) := hid fun h => let ⟨g, e, _, hl, hc⟩ := hd12 h; ⟨g, e, hl, fun i x hx => (hbS.cell (p := ⟨g, i, none⟩) hl).trans (hc i x hx)⟩
      clear A0T A1T hbS hb3 hq hox hA12 c00 c01 B3 hd12
      generalize hVV : w3.alloc (.cells #[.int .u8 x.st, .int .u64 x.va, .slice sx nx nx, .int .i64 x.sp] 32) = T1 at *
      generalize hgx : w3.heap.size = gx at *
      have hT1 : gx < T1.heap.size := AX.lt
      clear hVV hgx
      have c00 := A0S.cell 0
      have c01 := A0S.cell 1
      have hq := hrN.out fuel s12 c12 T1 B4 hA13
      rw [hy.out] at hq
      replace hq := hid hq
      go_upto_region 14 with (go_at_call 7; go_must (refine hq.out.mono ?_; rintro e w4 ⟨sy, ny, rfl, hoy, hb4⟩))
      have AY := Arr.new w4 32 #[.int .u8 y.st, .int .u64 y.va, .slice sy ny ny, .int .i64 y.sp]
      have hbR : Below T1.heap.size T1 (w4.alloc (.cells #[.int .u8 y.st, .int .u64 y.va, .slice sy ny ny, .int .i64 y.sp] 32)) := hb4.alloc hb4.size _
      have hs4 := hb4.size
      obtain ⟨gq, hgq, hgq1⟩ : ∃ gq, (0 < ny → sy = some ⟨gq, 0, none⟩ ∧ Arr (w4.alloc (.cells #[.int .u8 y.st, .int .u64 y.va, .slice sy ny ny, .int .i64 y.sp] 32)) gq 30 (uA y.W)) ∧ T1.heap.size ≤ gq ∧ gq ≠ w4.heap.size := by
        by_cases h : 0 < ny
        · obtain ⟨g, e, hg, hA⟩ := hoy.at0 h
          exact ⟨g, fun _ => ⟨e, hA.alloc _⟩, hg, by have := hA.lt; omega⟩
        · exact ⟨w4.heap.size + 1, fun h' => absurd h' h, by omega, by omega⟩
      have hyl := hoy.len
      have hfew : ny ≤ 1024 := by rw [← hyl.out, ← hy.out]; exact rnV_few _ _ _ _
      clear hb4 hq hoy c00 c01
      generalize hVV : w4.alloc (.cells #[.int .u8 y.st, .int .u64 y.va, .slice sy ny ny, .int .i64 y.sp] 32) = T2 at *
      generalize hgy : w4.heap.size = gy at *
      have hT2 : gy < T2.heap.size := AY.lt
      clear hVV hgy
      go_loopw [17] (fun i wr => ∃ (j : Nat) (C : Array Value), i = .int .i64 (j : Int) ∧ j ≤ ny ∧ Ch (fun k => k = gq) T2 wr ∧ (0 < ny → Arr wr gq 30 C ∧ C.size = ny)) (fun i _ => ny - (intOf i).toNat)
      case atStart => exact ⟨0, _, rfl, by omega, Ch.refl _ _, fun h => ⟨(hgq h).2, by rw [uA_size]; exact hyl.out⟩⟩
      case round =>
        obtain ⟨j, C, rfl, hj, hch, hC⟩ := hrel
        have AYr := hch.arr AY (by omega)
        have y2 := AYr.cell 2
        by_cases hlt : j < ny
        · have hlt' : (j : Int) < ny := by omega
          obtain ⟨rfl, -⟩ := hgq (by omega)
          obtain ⟨hCA, hCs⟩ := hC (by omega)
          obtain ⟨v1, c1⟩ := hCA.got (j := j) (by omega)
          have f1 := hCA.frozen j
          have hC2 := hCA.set j (.int .u64 9)
          have hch2 := hch.st (g := gq) (j := j) (.int .u64 9) (fun _ => rfl)
          clear hC hgq
          go_wp2_with fail
          go_roundw
          case rel => exact ⟨j + 1, _, by go_num, by omega, hch2, fun _ => ⟨hC2, by simpa using hCs⟩⟩
          case measure => simp [intOf]; omega
        · obtain rfl : j = ny := by omega
          have hbQ : Ch (fun k => k = gq) T1 wr := (Ch.ob hbR).trans hch
          have A0R := hbQ.arr A0S (by omega)
          have A1R := hbQ.arr A1S (by omega)
          have AXR := hbQ.arr AX (by omega)
          have B5 : Below w.heap.size w wr := B4.trans (hbQ.bl fun i hi => ⟨by have := B4.size; omega, by omega⟩)
          have hd15 : Hid (0 < D.length → ∃ g, s12 = some ⟨g, 0, none⟩ ∧ g < w2.heap.size ∧ ∀ i q, D[i]? = some q → wr.cell? ⟨g, i, none⟩ = some (.int .u64 q)) := hid fun h => let ⟨g, e, hl, hc⟩ := hd13.out h; ⟨g, e, hl, fun i x hx => (World.cell?_of_block (hbQ.block g (by omega) (by omega))).trans (hc i x hx)⟩
          have hA15 : AG s12 D.length D wr := ⟨hid rfl, fun h => let ⟨g, e, _, hc⟩ := hd15.out h; ⟨_, e, fun i x hx => (adr0 g i).symm ▸ hc i x hx⟩⟩
          have hoxR : OD w2.heap.size wr sx nx x.W := ⟨hoxS.len, fun h => let ⟨g, e, hg, hA⟩ := hoxS.at0 h; ⟨g, e, hg, hbQ.arr hA (by have := hA.lt; omega)⟩, hoxS.nil⟩
          have hs5 := hbQ.size
          clear hC hch AYr hgq hgq1 hbR hbQ A0S A1S AX AY B4 hA13 hoxS hd13 hyl
          have c00 := A0R.cell 0
          have c01 := A0R.cell 1
          have hq := hrN.out fuel s12 c12 wr B5 hA15
          rw [hy.out] at hq
          replace hq := hid hq
          go_upto_region 19 with (go_at_call 7; go_must (refine hq.out.mono ?_; rintro e w5 ⟨sz, nz, rfl, hoz, hb5⟩))
          have AZ := Arr.new w5 32 #[.int .u8 y.st, .int .u64 y.va, .slice sz nz nz, .int .i64 y.sp]
          have hbP : Below wr.heap.size wr (w5.alloc (.cells #[.int .u8 y.st, .int .u64 y.va, .slice sz nz nz, .int .i64 y.sp] 32)) := hb5.alloc hb5.size _
          have AXP := AXR.bl hbP
          have A1P := A1R.bl hbP
          have B6 : Below w.heap.size w (w5.alloc (.cells #[.int .u8 y.st, .int .u64 y.va, .slice sz nz nz, .int .i64 y.sp] 32)) := B5.trans (hbP.mono B5.size)
          have hd16 : Hid (0 < D.length → ∃ g, s12 = some ⟨g, 0, none⟩ ∧ ∀ i q, D[i]? = some q → (w5.alloc (.cells #[.int .u8 y.st, .int .u64 y.va, .slice sz nz nz, .int .i64 y.sp] 32)).cell? ⟨g, i, none⟩ = some (.int .u64 q)) := hid fun h => let ⟨g, e, hl, hc⟩ := hd15.out h; ⟨g, e, fun i x hx => (hbP.cell (p := ⟨g, i, none⟩) (by show g < _; omega)).trans (hc i x hx)⟩
          have hoxP : OD w2.heap.size (w5.alloc (.cells #[.int .u8 y.st, .int .u64 y.va, .slice sz nz nz, .int .i64 y.sp] 32)) sx nx x.W := ⟨hoxR.len, fun h => let ⟨g, e, hg, hA⟩ := hoxR.at0 h; ⟨g, e, hg, hA.bl hbP⟩, hoxR.nil⟩
          have hozP : OD w2.heap.size (w5.alloc (.cells #[.int .u8 y.st, .int .u64 y.va, .slice sz nz nz, .int .i64 y.sp] 32)) sz nz y.W := ⟨hoz.len, fun h => let ⟨g, e, hg, hA⟩ := hoz.at0 h; ⟨g, e, by omega, hA.alloc _⟩, hoz.nil⟩
          clear hb5 hq hoz hoxR A0R A1R AXR hbP B5 hA15 hd15 c00 c01 y2
          generalize hVV : w5.alloc (.cells #[.int .u8 y.st, .int .u64 y.va, .slice sz nz nz, .int .i64 y.sp] 32) = T4 at *
          generalize hgz : w5.heap.size = gz at *
          clear hVV hgz hrE hrN
          go_loopw [20] (fun i wr => ∃ (j : Nat), i = .int .i64 (j : Int) ∧ j ≤ D.length ∧ Below T4.heap.size T4 wr) (fun i _ => D.length - (intOf i).toNat)
          case atStart => exact ⟨0, rfl, by omega, Below.refl _ _⟩
          case round =>
            obtain ⟨j, rfl, hj, hbl⟩ := hrel
            by_cases hlt : j < D.length
            · have hlt' : (j : Int) < D.length := by omega
              have hsm := hMS.out.small
              obtain ⟨g, rfl, hc⟩ := hd16.out (by omega)
              obtain ⟨gs, os, rfl, hgs, hcs⟩ := hMS.out.at0 (by omega)
              have s1 : wr.cell? ⟨g, j, none⟩ = some (.int .u64 (D.getD j 0)) := by
                have := hc j (D.getD j 0) (by rw [List.getD_eq_getElem?_getD, List.getElem?_eq_getElem hlt]; rfl)
                exact (hbl.cell (p := ⟨g, j, none⟩) (block_lt_of_cell this)).trans this
              have s2 : wr.cell? ⟨w.heap.size + 1, 0, none⟩ = some (.slice (some ⟨gs, os, none⟩) D.length cd) := (A1P.bl hbl).cell 0
              have s3 : wr.cell? ⟨gs, os + j, none⟩ = some (.int .u64 (D.getD j 0)) := ((B6.trans (hbl.mono B6.size)).cell (p := ⟨gs, os + j, none⟩) (by show gs < _; omega)).trans (hcs j hlt)
              clear hc hcs
              generalize D.getD j 0 = dj at *
              go_upto_region 21 with fail
              refine rgn (fun u => u.cell? ⟨g, j, none⟩ = some (.int .u64 dj) ∧ u.cell? ⟨w.heap.size + 1, 0, none⟩ = some (.slice (some ⟨gs, os, none⟩) D.length cd) ∧ u.cell? ⟨gs, os + j, none⟩ = some (.int .u64 dj)) ⟨s1, s2, s3⟩ (fun hS => ?_)
              refine tk3 0 rfl ?_
              refine tk3 1 rfl ?_
              refine tk3 2 rfl ?_
              refine tk3 3 rfl ?_
              refine tk3 4 rfl ?_
              refine tk3 5 rfl ?_
              refine tk3 6 rfl ?_
              refine tk3 7 rfl ?_
              refine tk3 8 rfl ?_
              refine tk3 9 rfl ?_
              refine dn ?_
              go_wp2_with fail
              go_roundw
              case rel => exact ⟨j + 1, by go_num, by omega, dw1 hbl⟩
              case measure => simp [intOf]; omega
            · obtain rfl : j = D.length := by omega
              have AZP := AZ.bl hbl
              have AXQ := AXP.bl hbl
              have B7 := B6.trans (hbl.mono B6.size)
              have hsm : b = false → Hid (∀ u, Below wr.heap.size wr u → Calls Try.prog 9 #[.agg #[.int .u8 x.st, .int .u64 x.va, .slice sx nx nx, .int .i64 x.sp], .agg #[.int .u8 y.st, .int .u64 y.va, .slice sz nz nz, .int .i64 y.sp]] u (BoP true u)) := fun hb => hid fun u hbu => by
                have e := hxz.out hb
                subst e
                have hnx : nx ≤ 1024 := by rw [← hoxP.len.out, ← hx.out]; exact rnV_few _ _ _ _
                have hnz : nz ≤ 1024 := by rw [← hozP.len.out, ← hx.out]; exact rnV_few _ _ _ _
                have := same_any (s1 := x.st) (v1 := x.va) (k1 := x.sp) (s2 := x.st) (v2 := x.va) (k2 := x.sp) (c1 := nx) (c2 := nz) u ((hoxP.ds hnx).bl (hbl.trans (hbu.mono hbl.size))) ((hozP.ds hnz).bl (hbl.trans (hbu.mono hbl.size)))
                simpa [ouA] using this
              replace hsm := hid hsm
              have hE7 := hid (hE.out.below (B7.mono hN))
              have hkl := hE.out.len
              have hks := hE.out.small
              clear hbl AZ AXP B6 A1P hd16 hoxP hozP hxz hMS
              generalize wr = T5 at *
              go_upto_region 24 with fail
              go_loopw [21] (fun i wr => ∃ (j : Nat), i = .int .i64 (j : Int) ∧ j ≤ kn ∧ Below T5.heap.size T5 wr) (fun i _ => kn - (intOf i).toNat)
              case atStart => exact ⟨0, rfl, by omega, Below.refl _ _⟩
              case round =>
                obtain ⟨j, rfl, hj, hbl⟩ := hrel
                have BW := B7.trans (hbl.mono B7.size)
                by_cases hlt : j < kn
                · have hlt' : (j : Int) < kn := by omega
                  have hE8 := hE7.out.below ((hbl.mono (by have := B7.size; omega)))
                  obtain ⟨g, off, rfl, hgN, hR⟩ := hE8.at0 (by omega)
                  obtain ⟨en, hen⟩ : ∃ en, es[j]? = some en := ⟨es[j]'(by rw [← hkl.out]; exact hlt), List.getElem?_eq_getElem _⟩
                  have hR2 := hR j en hen
                  have c0 := range_c0 hR2
                  have cS := range_sm hR2
                  have he32 := (hE8.ok en (List.mem_of_getElem? hen)).s32
                  have heq := eq_sum [] en.sm he32
                  have hgl := block_lt_of_cell c0
                  clear hR hE8 hen hR2
                  generalize decide (shl [] = en.sm) = bb at *
                  by_cases hn0 : 0 < en.n
                  · have g0 : decide ((0 : Int) < (en.n : Int)) = true := by simp; omega
                    go_upto_region 26 with fail
                    refine rgn (fun u => u.cell? ⟨g, off + j * 33, none⟩ = some (.slice en.sp en.n en.cap) ∧ u.rangeAt g (off + j * 33 + 1) (by8 en.sm)) ⟨c0, cS⟩ (fun hS => ?_)
                    refine tk2 0 rfl ?_
                    refine tk2 1 rfl ?_
                    refine tk2 2 rfl ?_
                    refine tk2 3 rfl ?_
                    refine tk2 4 rfl ?_
                    refine tk2 5 rfl ?_
                    refine tk2 6 rfl ?_
                    refine tk2 7 rfl ?_
                    refine tk2 9 rfl ?_
                    refine tk2 10 rfl ?_
                    refine tk2 11 rfl ?_
                    refine tk2 12 rfl ?_
                    refine tl 13 rfl (y24 (by rfl) (.tmp 130) rfl g (off + j * 33 + 1) rfl en.sm he32 (fun u hu => hu.2)) ?_
                    refine rd 8 rfl (fun K hK => ?_)
                    go_simp
                    refine (refSum_any none 0 0 [] _ rfl (fun _ => ⟨rfl, rfl⟩) (by intro h; cases h) (by omega)).mono ?_
                    rintro e w6 ⟨rfl, hb6⟩
                    have hb7 : Below wr.heap.size wr w6 := (dw1 (Below.refl _ wr)).trans hb6
                    have S6 : w6.cell? ⟨g, off + j * 33, none⟩ = some (.slice en.sp en.n en.cap) ∧ w6.rangeAt g (off + j * 33 + 1) (by8 en.sm) := ⟨(hb7.cell (p := ⟨g, off + j * 33, none⟩) hgl).trans c0, rb cS hb7 hgl⟩
                    go_wp2_with fail
                    refine hK.out _ _ S6 (fun hS6 => ?_)
                    clear hK K
                    try simp only [Act.put, List.setIfInBounds_toArray, List.set_cons_zero, List.set_cons_succ]
                    refine tk2 14 rfl ?_
                    refine tk2 15 rfl ?_
                    refine dn ?_
                    have hbl2 := hbl.trans (hb7.mono hbl.size)
                    have BW2 := B7.trans (hbl2.mono B7.size)
                    clear heq
                    cases bb with
                    | true =>
                      go_wp2_with (go_at_call 10; go_must (refine (han.out _).mono ?_; rintro e w8 ⟨rfl, hb8⟩))
                      go_ret
                      exact ⟨rfl, BW2.trans (hb8.mono BW2.size)⟩
                    | false =>
                      go_wp2_with fail
                      go_roundw
                      case rel => exact ⟨j + 1, by go_num, by omega, hbl2⟩
                      case measure => simp [intOf]; omega
                  · have g0 : decide ((0 : Int) < (en.n : Int)) = false := by simp; omega
                    go_upto_region 26 with fail
                    refine rgn (fun u => u.cell? ⟨g, off + j * 33, none⟩ = some (.slice en.sp en.n en.cap) ∧ u.rangeAt g (off + j * 33 + 1) (by8 en.sm)) ⟨c0, cS⟩ (fun hS => ?_)
                    refine tk2 0 rfl ?_
                    refine tk2 1 rfl ?_
                    refine tk2 2 rfl ?_
                    refine tk2 3 rfl ?_
                    refine tk2 4 rfl ?_
                    refine tk2 5 rfl ?_
                    refine tk2 6 rfl ?_
                    refine tk2 7 rfl ?_
                    refine sk 8 rfl ?_
                    refine sk 9 rfl ?_
                    refine sk 10 rfl ?_
                    refine sk 11 rfl ?_
                    refine sk 12 rfl ?_
                    refine sk 13 rfl ?_
                    refine sk 14 rfl ?_
                    refine tk2 15 rfl ?_
                    refine dn ?_
                    go_wp2_with fail
                    go_roundw
                    case rel => exact ⟨j + 1, by go_num, by omega, dw1 hbl⟩
                    case measure => simp [intOf]; omega
                · obtain rfl : j = kn := by omega
                  have AZR := AZP.bl hbl
                  have AXR := AXQ.bl hbl
                  clear hE7
                  cases b with
                  | true =>
                    clear hsm
                    go_wp2_with (go_at_call 10; go_must (refine (han.out _).mono ?_; rintro e w8 ⟨rfl, hb8⟩))
                    go_ret
                    exact ⟨rfl, BW.trans (hb8.mono BW.size)⟩
                  | false =>
                    have hs9 := hsm.out rfl
                    unfold BoP at hs9
                    clear hsm
                    go_wp2_with (first
                      | (go_at_call 10; go_must (refine (han.out _).mono ?_; rintro e w8 ⟨rfl, hb8⟩; have X8 := AXR.bl hb8; have Z8 := AZR.bl hb8; have p0 := X8.cell 0; have p1 := X8.cell 1; have p2 := X8.cell 2; have p3 := X8.cell 3; have r0 := Z8.cell 0; have r1 := Z8.cell 1; have r2 := Z8.cell 2; have r3 := Z8.cell 3; have hb9 := hbl.trans (hb8.mono hbl.size)))
                      | (go_at_call 9; go_must (refine (hs9.out _ hb9).mono ?_; rintro e w9 ⟨rfl, hb10⟩)))
                    go_ret
                    exact ⟨rfl, BW.trans ((hb8.trans (hb10.mono hb8.size)).mono BW.size)⟩
end Go.Proofs.Ytmljihggooaboaa
