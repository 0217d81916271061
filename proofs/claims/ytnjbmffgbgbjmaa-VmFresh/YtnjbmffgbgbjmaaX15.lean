/- Vi, Vj, Vk, Vl. -/
import Derived.Test.YtnjbmffgbgbjmaaX14
import Derived.Test.YtnjbmffgbgbjmaaX07
import Derived.Laws.CopyOwn
import Derived.Test.YtnjbmffgbgbjmaaX06
/- Layer vm: Preimage, and that of the shelf. -/
namespace Go.Proofs.Ytnjbmffgbgbjmaa
open Go.RowKit
set_option maxRecDepth 100000
set_option linter.unusedVariables false
set_option linter.unusedSimpArgs false


theorem own_mono {w : World} {b b' e s n : Nat} {v : Value} {xs : List Value} (h : w.ownsRow b e s v n xs) (hb : b' ≤ b) : w.ownsRow b' e s v n xs := by
  obtain ⟨hl, h' | ⟨g, cap, cur, e1, hg, r⟩⟩ := h
  · exact ⟨hl, .inl h'⟩
  · exact ⟨hl, .inr ⟨g, cap, cur, e1, by omega, r⟩⟩
/-- What was found stands where it was found. -/
def FI (es : List En) (f : List Int → Option Int) : Prop := ∀ X i, X.length = 32 → f X = some i → ∃ (j : Nat) (e : En), i = j ∧ Fst es X j e ∧ shl e.bs = X
theorem FI.nil (es : List En) : FI es (fun _ => none) := fun X i _ h => by cases h
/-- What Preimage answers. -/
def PrPost (es : List En) (X : List Int) (w : World) (r : Ending) (w' : World) : Prop := Below w.heap.size w w' ∧
  ((∃ e v, pre es X = some e ∧ r = .returned (.tuple #[v, .bool true]) ∧ w'.ownsRow w.heap.size 5 1 v e.n (by8 e.bs)) ∨ (pre es X = none ∧ r = .returned (.tuple #[.slice none 0 0, .bool false])))
set_option maxHeartbeats 1000000 in
theorem preimage_any (sp : Option Addr) (n cap : Nat) (es : List En) (X : List Int) (N : Nat) (w : World) (hS : ES N w sp n cap es) (hX : X.length = 32) :
    Calls Try.prog 11 #[.slice sp n cap, .agg (h8 X)] w (PrPost es X w) := by
  have hl := hS.len
  have hS0 := hS.here
  have hS := hS0.below (alloc_bel' w (.cells (h8 X) 31))
  have hr := (Arr.new w 31 (h8 X)).range
  go_enter Try.func11, Try.ntmps11
  go_upto_region 2 with (first
    | (refine ld24 (by rfl) (.tmp 3) (by rfl) w.heap.size 0 (by rfl) X hX hr ?_)
    | (go_at_call 28; go_must (refine (place_any sp n cap es X _ _ hS hX).mono ?_; rintro r w1 ⟨hb1, ⟨i, e, hF, rfl⟩ | ⟨hno, rfl⟩⟩)))
  · have hb := (alloc_bel' w (.cells (h8 X) 31)).trans (hb1.mono (by simp))
    have hp := hF.pre
    have hi : i < n := by rw [hl.out]; exact (List.getElem?_eq_some_iff.1 hF.here).1
    have hI : (i : Int) < n := by omega
    have hS1 := hS0.below hb
    obtain ⟨g, off, rfl, hgN, hR⟩ := hS1.at0 (by omega)
    have c0 := range_c0 (hR i e hF.here)
    have hB := (hS1.ok e (List.mem_of_getElem? hF.here)).body
    by_cases hq : shl e.bs = X
    · rw [if_pos hq] at hp
      have hd : decide (shl e.bs = X) = true := by simpa using hq
      rw [hd]
      clear hd hq hF hR hS1 hS hS0
      replace hp := Hid.mk' hp
      go_wp2_with (go_at_call 29; go_must (refine (clone_any e.sp e.n e.cap e.bs _ _ hB).mono ?_; rintro r w2 ⟨v, rfl, ho, hb2⟩))
      go_ret2
      exact ⟨hb.trans (hb2.mono hb.size), .inl ⟨e, v, hp.out, rfl, own_mono ho hb.size⟩⟩
    · rw [if_neg hq] at hp
      have hd : decide (shl e.bs = X) = false := by simpa using hq
      rw [hd]
      clear hd hq hF hR hS1 hS hS0
      replace hp := Hid.mk' hp
      go_wp2_with fail
      go_ret2
      exact ⟨hb, .inr ⟨hp.out, rfl⟩⟩
  · have hb := (alloc_bel' w (.cells (h8 X) 31)).trans (hb1.mono (by simp))
    have hp := Hid.mk' (pre_none hno)
    clear hno
    go_wp2_with fail
    go_ret2
    exact ⟨hb, .inr ⟨hp.out, rfl⟩⟩
/-- The shelf's: in the memory that was handed in. -/
def ShPost (es : List En) (X : List Int) (N gp : Nat) (w : World) (r : Ending) (w' : World) : Prop :=
  (∃ f, MapH w' gp f ∧ FI es f) ∧ w.heap.size ≤ w'.heap.size ∧ w'.os = w.os ∧ w'.tape = w.tape ∧ w'.output = w.output ∧ (∀ b, b < w.heap.size → b ≠ gp → w'.heap[b]? = w.heap[b]?) ∧
  ((∃ e, pre es X = some e ∧ e ∈ es ∧ r = .returned (.slice e.sp e.n e.cap)) ∨ (pre es X = none ∧ r = .panicked trapV))
theorem shP {es : List En} {X : List Int} {N gp : Nat} {w w' : World} {r : Ending} (hM : ∃ f, MapH w' gp f ∧ FI es f) (hb : Below w.heap.size w w')
    (h : (∃ e, pre es X = some e ∧ e ∈ es ∧ r = .returned (.slice e.sp e.n e.cap)) ∨ (pre es X = none ∧ r = .panicked trapV)) : ShPost es X N gp w r w' :=
  ⟨hM, hb.size, hb.os, hb.tape, hb.output, fun b hlt _ => hb.block b hlt, h⟩
def shA (sp : Option Addr) (n cap gp : Nat) : Array Value := #[.slice sp n cap, .map (some gp)]
set_option maxHeartbeats 1000000 in
theorem shelf_any (sp : Option Addr) (n cap : Nat) (es : List En) (X : List Int) (N gp : Nat) (w : World) (hS : ES N w sp n cap es) (hN : N ≤ gp) (hX : X.length = 32) {f : List Int → Option Int} (hM : MapH w gp f) (hf : FI es f) :
    Calls Try.prog 54 #[.agg #[.slice sp n cap, .map (some gp)], .agg (h8 X)] w (ShPost es X N gp w) := by
  have hl := hS.len
  have hgl := hM.lt
  have b1 := alloc_bel' w (.cells #[.slice sp n cap, .map (some gp)] 79)
  have b2 := b1.trans ((alloc_bel' (w.alloc (.cells #[.slice sp n cap, .map (some gp)] 79)) (.cells (h8 X) 31)).mono (by simp))
  have hS2 := hS.here.below b2
  have hM2 := hM.same (b2.block gp hgl)
  have A0 := (Arr.new w 79 #[.slice sp n cap, .map (some gp)]).alloc (.cells (h8 X) 31)
  have A1 := Arr.new (w.alloc (.cells #[.slice sp n cap, .map (some gp)] 79)) 31 (h8 X)
  simp only [World.size_alloc] at A1
  have hr := A1.range
  have hlk := run_lookupH hM2 X hX
  cases hq : f X with
  | some i0 =>
    obtain ⟨i, e, rfl, hF, hsh⟩ := hf X i0 hX hq
    rw [hq] at hlk
    simp only [Option.getD_some, Option.isSome_some] at hlk
    have hp := hF.pre
    rw [if_pos hsh] at hp
    have hi : i < n := by rw [hl.out]; exact (List.getElem?_eq_some_iff.1 hF.here).1
    have hI : (i : Int) < n := by omega
    obtain ⟨g, off, rfl, hgN, hR⟩ := hS2.at0 (by omega)
    have c0 := range_c0 (hR i e hF.here)
    have hfin := Hid.mk' (shP (N := N) (r := .returned (.slice e.sp e.n e.cap)) ⟨f, hM2, hf⟩ b2 (.inl ⟨e, hp, List.mem_of_getElem? hF.here, rfl⟩))
    clear hq hF hR hS2 hS hp hsh hf hM2 hM A1
    go_enter Try.func54, Try.ntmps54
    go_wp2_with (refine ld24 (by rfl) _ (by rfl) (w.heap.size + 1) 0 (by rfl) X hX hr ?_)
    go_ret
    exact hfin.out
  | none =>
    rw [hq] at hlk
    simp only [Option.getD_none, Option.isSome_none] at hlk
    go_enter Try.func54, Try.ntmps54
    go_upto_region 4 with (first
      | (refine ld24 (by rfl) (.tmp 3) (by rfl) (w.heap.size + 1) 0 (by rfl) X hX hr ?_)
      | (go_at_call 28; go_must (refine (place_any sp n cap es X _ _ hS2 hX).mono ?_; rintro r w1 ⟨hb1, ⟨i, e, hF, rfl⟩ | ⟨hno, rfl⟩⟩)))
    · have hb := b2.trans (hb1.mono (by simp; omega))
      have hp := hF.pre
      have hi : i < n := by rw [hl.out]; exact (List.getElem?_eq_some_iff.1 hF.here).1
      have hI : (i : Int) < n := by omega
      have hS3 := hS.here.below hb
      have hM3 := hM.same (hb.block gp hgl)
      have A03 := A0.below hb1 (by simp; omega)
      have A13 := A1.below hb1 (by simp)
      have hr3 := A13.range
      by_cases hqq : shl e.bs = X
      · rw [if_pos hqq] at hp
        have hd : decide (shl e.bs = X) = true := by simpa using hqq
        rw [hd]
        obtain ⟨o, hup, hM4⟩ := run_updateH hM3 X hX (i : Int) hq
        have A04 : Arr (w1.putObj gp o) w.heap.size 79 #[.slice sp n cap, .map (some gp)] := by
          have : (w1.putObj gp o).heap[w.heap.size]? = w1.heap[w.heap.size]? := by simp [World.putObj, Array.getElem?_setIfInBounds, show gp ≠ w.heap.size by omega]
          exact this.trans A03
        obtain ⟨g, off, rfl, hgN, hR⟩ := hS3.at0 (by omega)
        have c0' := range_c0 (hR i e hF.here)
        have hgb : g ≠ gp := by
          obtain ⟨g', off', e', hg', -⟩ := hS.at0 (by omega)
          cases e'
          omega
        have c0 : (w1.putObj gp o).cell? ⟨g, off + i * 33, none⟩ = some (.slice e.sp e.n e.cap) := by
          rw [World.cell?_of_block (w := w1) (a := ⟨g, off + i * 33, none⟩) (by simp [World.putObj, Array.getElem?_setIfInBounds, Ne.symm hgb])]
          exact c0'
        have hfin : Hid (ShPost es X N gp w (.returned (.slice e.sp e.n e.cap)) (w1.putObj gp o)) := Hid.mk' ⟨⟨_, hM4, fun Y j hY hj => by
            by_cases hYX : Y = X
            · subst hYX
              simp at hj
              exact ⟨i, e, hj.symm, hF, hqq⟩
            · simp [hYX] at hj
              exact hf Y j hY hj⟩, by simpa [World.putObj] using hb.size, hb.os, hb.tape, hb.output, fun b hlt hne => by
            have : (w1.putObj gp o).heap[b]? = w1.heap[b]? := by simp [World.putObj, Array.getElem?_setIfInBounds, Ne.symm hne]
            exact this.trans (hb.block b hlt), .inl ⟨e, hp, List.mem_of_getElem? hF.here, rfl⟩⟩
        have d0 := A03.cell 0
        have d1 := A03.cell 1
        have e0 := A04.cell 0
        have e1 := A04.cell 1
        simp at d0 d1 e0 e1
        clear hd hqq hF hR hS2 hS3 hS hp hf hM2 hM hM3 hM4 A1 A0 A03 A04 A13 hlk c0' hq
        go_wp2_with (refine ld24 (by rfl) (.tmp 3) (by rfl) (w.heap.size + 1) 0 (by rfl) X hX hr3 ?_)
        go_ret
        exact hfin.out
      · rw [if_neg hqq] at hp
        have hd : decide (shl e.bs = X) = false := by simpa using hqq
        rw [hd]
        have hfin := Hid.mk' (shP (N := N) (r := .panicked trapV) ⟨f, hM3, hf⟩ hb (.inr ⟨hp, rfl⟩))
        clear hd hqq hF hS2 hS3 hS hp hf hM2 hM hM3 A1 A0 A03 A13 hlk hq
        go_wp2_with fail
        exact ⟨rfl, hfin.out⟩
    · have hb := b2.trans (hb1.mono (by simp; omega))
      have hM3 := hM.same (hb.block gp hgl)
      have hfin := Hid.mk' (shP (N := N) (r := .panicked trapV) ⟨f, hM3, hf⟩ hb (.inr ⟨pre_none hno, rfl⟩))
      clear hno hS2 hS hf hM2 hM hM3 A1 A0 hlk hq
      go_wp2_with fail
      exact ⟨rfl, hfin.out⟩
end Go.Proofs.Ytnjbmffgbgbjmaa
/- Layer vm: the bytes that a HASH sums. -/
namespace Go.Proofs.Ytnjbmffgbgbjmaa
open Go.RowKit
set_option maxRecDepth 100000
set_option linter.unusedVariables false
set_option linter.unusedSimpArgs false

/-- The byte ahead. -/
def mkL (i : Int) : Option (List Int) := if i = 0 then some [] else if 256 ≤ i ∧ i ≤ 511 then some [i - 256] else none
set_option maxHeartbeats 400000 in
theorem mark_ok {i : Int} {L : List Int} (w : World) (hi : 0 ≤ i ∧ i < 4294967296) (hL : mkL i = some L) :
    Calls Try.prog 68 #[.int .u32 i] w fun e w' => ∃ v, e = .returned v ∧ w'.ownsRow w.heap.size 5 1 v L.length (by8 L) ∧ Below w.heap.size w w' := by
  unfold mkL at hL
  by_cases h0 : i = 0
  · rw [if_pos h0] at hL
    cases hL
    subst h0
    go_enter Try.func68, Try.ntmps68
    go_wp2
    go_ret
    exact ⟨_, rfl, World.ownsRow_nil _ _ _ _, Below.refl _ _⟩
  · rw [if_neg h0] at hL
    by_cases h1 : 256 ≤ i ∧ i ≤ 511
    · rw [if_pos h1] at hL
      cases hL
      have a1 : (i == 0) = false := by simpa using h0
      have a2 : ¬ i < 256 := by omega
      have a3 : ¬ 511 < i := by omega
      have a4 : IntKind.u8.wrap (i - 256) = i - 256 := wrap8_of (by omega) (by omega)
      have a5 : IntKind.u32.wrap (i - 256) = i - 256 := by rw [w32]; omega
      clear h1 h0 hi
      have hlit : (w.alloc (.cells #[.int .u8 (i - 256)] 5)).ownsRow w.heap.size 5 1 (.slice (some ⟨w.heap.size, 0, none⟩) 1 1) 1 (by8 [i - 256]) := World.ownsRow_lit _ _ _ (Nat.le_refl _) (by unfold maxLen; omega) rfl
      go_enter Try.func68, Try.ntmps68
      go_wp2
      go_ret
      exact ⟨_, rfl, hlit, alloc_bel' _ _⟩
    · rw [if_neg h1] at hL
      cases hL
set_option maxHeartbeats 400000 in
theorem mark_no {i : Int} (w : World) (hi : 0 ≤ i ∧ i < 4294967296) (hL : mkL i = none) :
    Calls Try.prog 68 #[.int .u32 i] w fun e w' => e = .panicked trapV ∧ w' = w := by
  unfold mkL at hL
  by_cases h0 : i = 0
  · rw [if_pos h0] at hL
    cases hL
  · rw [if_neg h0] at hL
    by_cases h1 : 256 ≤ i ∧ i ≤ 511
    · rw [if_pos h1] at hL
      cases hL
    · have a1 : (i == 0) = false := by simpa using h0
      by_cases h2 : i < 256
      · go_enter Try.func68, Try.ntmps68
        go_wp2
        exact ⟨rfl, rfl, rfl⟩
      · have h3 : 511 < i := by omega
        go_enter Try.func68, Try.ntmps68
        go_wp2
        exact ⟨rfl, rfl, rfl⟩
/-- The first bytes of words. -/
def fbL (W : Nat → Int) (s : Nat) : List Int := (List.range s).map (fromB W)
theorem fbL_len (W : Nat → Int) (s : Nat) : (fbL W s).length = s := by simp [fbL]
theorem fbL_succ (W : Nat → Int) (s : Nat) : fbL W s ++ [fromB W s] = fbL W (s + 1) := by simp [fbL, List.range_succ]
theorem fbL_bts (W : Nat → Int) (s : Nat) : Bts (fbL W s) := by
  intro x hx
  simp only [fbL, List.mem_map] at hx
  obtain ⟨t, -, rfl⟩ := hx
  unfold fromB
  omega
set_option maxHeartbeats 1000000 in
theorem firstBytes_any {sp : Option Addr} {c cap s : Nat} {y : Int} {W : Nat → Int} (w : World) (hy : y = (s : Int)) (hs : s ≤ 128) (hW : ∀ t, U64 (W t)) (hc : s ≤ 8 * c) (hcc : c ≤ cap) (hb : c ≤ 4096)
    (hw : 0 < c → ∃ gm k, sp = some ⟨gm, k, none⟩ ∧ gm < w.heap.size ∧ ∀ t, t < c → w.cell? ⟨gm, k + t, none⟩ = some (.int .u64 (W t))) :
    Calls Try.prog 69 #[.slice sp c cap, .int .u64 y] w fun e w' => ∃ v, e = .returned v ∧ w'.ownsRow w.heap.size 5 1 v s (by8 (fbL W s)) ∧ Below w.heap.size w w' := by
  subst hy
  obtain ⟨i0, hi, hz0, hz1, hz2⟩ := info_parts info5
  go_enter Try.func69, Try.ntmps69
  go_wp2_with (at_make; go_must (refine wpList_make_own _ (by rfl) (.const (.int .i64 0)) (.tmp 7) 34 (by rfl) w.heap.size 5 i0 (.int .u8 0) 1 Try.underlying34 hi hz0 hz1 .i64 .u64 _ s (by rfl) (by rfl) (by omega) (by rw [hz2]; omega) (Nat.le_trans (by omega) maxLen_ge) (Nat.le_refl _) ?_; intro w1 hown1 hg1))
  have hB1 : Below w.heap.size w w1 := (Below.refl _ _).grown hg1 (Nat.le_refl _) (fun k e => by cases e)
  go_loopw [5, 10] (fun v q wr => ∃ (k : Nat), q = .int .u64 (k : Int) ∧ k ≤ s ∧ wr.ownsRow w.heap.size 5 1 v k (by8 (fbL W k)) ∧ Below w.heap.size w wr)
    (fun _ q _ => s - (intOf q).toNat)
  case atStart => exact ⟨0, rfl, by omega, hown1, hB1⟩
  case round =>
    clear hown1 hB1 hg1
    obtain ⟨k, rfl, hk, hown, hbl⟩ := hrel
    by_cases hlt : k < s
    · have hI : (k : Int) < s := by omega
      obtain ⟨gm, o, rfl, hgl, hcell⟩ := hw (by omega)
      have hcl : wr.cell? ⟨gm, o + k / 8, none⟩ = some (.int .u64 (W (k / 8))) := (hbl.cell (p := ⟨gm, o + k / 8, none⟩) hgl).trans (hcell (k / 8) (by omega))
      have hki : ((k : Int) / 8) < c := by omega
      have hkn : ((k : Int) / 8).toNat = k / 8 := by omega
      have hU := hW (k / 8)
      have hU1 := hU.1
      have hU2 := hU.2
      have m8 : (k : Int) % 8 < 8 := by omega
      have m0 : 0 ≤ (k : Int) % 8 := by omega
      have e2 : (56 - 8 * ((k : Int) % 8)).toNat = 56 - 8 * (k % 8) := by omega
      go_upto_region 6 with (at_builtin; go_must (refine append_bytes (by rfl) (.tmp 13) (.tmp 25) (by rfl) w.heap.size _ k (fbL W k) (by rfl) (hown.alloc _) (some ⟨wr.heap.size, 0, none⟩) 1 1 [fromB W k] (by rfl) (by rfl) (fun h => by cases h) (Arr.sl (Arr.new wr 5 _)) (by omega) (by have := hbl.size; simp; omega) ?_; intro v3 w3 hown3 hg3))
      have hB3 : Below w.heap.size w w3 := (hbl.alloc hbl.size _).grown hg3 (by have := hbl.size; simp; omega) (fun k e => own_ge hown k e)
      go_wp2_with fail
      go_roundw
      case rel => exact ⟨k + 1, by go_num, by omega, by rw [← fbL_succ]; exact hown3, hB3⟩
      case measure => simp [intOf]; omega
    · obtain rfl : k = s := by omega
      go_wp2_with fail
      go_ret
      exact ⟨_, rfl, hown, hbl⟩
end Go.Proofs.Ytnjbmffgbgbjmaa
/- Layer vm: eight bytes of a preimage. -/
namespace Go.Proofs.Ytnjbmffgbgbjmaa
open Go.RowKit
set_option maxRecDepth 100000
set_option linter.unusedVariables false
set_option linter.unusedSimpArgs false


/-- The number of the first k of eight bytes. -/
def pcN (bs : List Int) (p : Nat) : Nat → Int
  | 0 => 0
  | k + 1 => pcN bs p k * 256 + bat bs (p + k)
theorem bat_rg {bs : List Int} (h : Bts bs) (t : Nat) : 0 ≤ bat bs t ∧ bat bs t ≤ 255 := by
  unfold bat
  by_cases ht : t < bs.length
  · rw [List.getD_eq_getElem?_getD, List.getElem?_eq_getElem ht]
    exact h _ (List.getElem_mem ht)
  · rw [List.getD_eq_getElem?_getD, List.getElem?_eq_none (by omega)]
    simp
theorem pcN_rg {bs : List Int} (h : Bts bs) (p : Nat) : ∀ k, 0 ≤ pcN bs p k ∧ pcN bs p k < 256 ^ k
  | 0 => by simp [pcN]
  | k + 1 => by
    have ih := pcN_rg h p k
    have hb := bat_rg h (p + k)
    have e : (256 : Int) ^ (k + 1) = 256 ^ k * 256 := by rw [Int.pow_succ]
    simp only [pcN, e]; omega
theorem pow256 {k : Nat} (h : k < 8) : (256 : Int) ^ k ≤ 72057594037927936 := by
  match k, h with
  | 0, _ => decide
  | 1, _ => decide
  | 2, _ => decide
  | 3, _ => decide
  | 4, _ => decide
  | 5, _ => decide
  | 6, _ => decide
  | 7, _ => decide
theorem pcN_u {bs : List Int} (h : Bts bs) (p : Nat) : U64 (pcN bs p 8) := by
  have := pcN_rg h p 8
  unfold U64
  have e : (256 : Int) ^ 8 = 18446744073709551616 := by decide
  rw [e] at this
  exact this
theorem pcN_step {bs : List Int} (h : Bts bs) (p : Nat) {k : Nat} (hk : k < 8) : bits .or .u64 (IntKind.u64.wrap (pcN bs p k * 256)) (IntKind.u64.wrap (bat bs (p + k))) = pcN bs p (k + 1) := by
  have h1 := pcN_rg h p k
  have h2 := pow256 hk
  have hb := bat_rg h (p + k)
  rw [wrap64_of (by omega) (by omega), wrap64_of (by omega) (by omega), or8 _ _ (by omega) (by omega) hb.1 hb.2]
  rfl
theorem size119 : (Try.prog.info? 119).map (·.size) = some 8 := by kernel_rfl
theorem index119 (C : Array Value) (f : Nat → Int) (h : ∀ t, t < 8 → C[t]? = some (.int .u8 (f t))) (k : Nat) (hk : k < 8) (w : World) : (Instr.index 119 (.agg C) (.int .i64 (k : Int))).run Try.prog w = .ok (.int .u8 (f k)) w := by
  have e : C[k]? = some (.int .u8 (f k)) := h k hk
  simp [Instr.index, asIntOf, run_underlying Try.underlying119, Try.sizeOf5, part, Try.isAgg5, hk, e]
/-- What is copied. -/
def pcL (bs : List Int) (p : Nat) : List Int := (bs.drop p).take 8
def zero8 : List Value := [.int .u8 0, .int .u8 0, .int .u8 0, .int .u8 0, .int .u8 0, .int .u8 0, .int .u8 0, .int .u8 0]
theorem pcL_row (bs : List Int) (p : Nat) : ∀ t, t < 8 → (splice zero8 0 (by8 (pcL bs p))).toArray[t]? = some (.int .u8 (bat bs (p + t))) := by
  intro t ht
  have hl : (by8 (pcL bs p)).length = min 8 (bs.length - p) := by rw [by8_len, pcL, List.length_take, List.length_drop]
  rw [List.getElem?_toArray, splice]
  simp only [List.take_zero, List.nil_append, Nat.zero_add]
  by_cases h : t < min 8 (bs.length - p)
  · rw [List.getElem?_append_left (by rw [hl]; exact h), by8_get (by rw [← by8_len, hl]; exact h)]
    congr 2
    simp only [bat, pcL, List.getD_eq_getElem?_getD, List.getElem?_take_of_lt ht, List.getElem?_drop]
  · rw [List.getElem?_append_right (by rw [hl]; omega), List.getElem?_drop, hl]
    have e : min 8 (bs.length - p) + (t - min 8 (bs.length - p)) = t := by omega
    rw [e]
    have : bat bs (p + t) = 0 := by
      simp only [bat, List.getD_eq_getElem?_getD]
      rw [List.getElem?_eq_none (by omega)]
      rfl
    rw [this]
    match t, ht with
    | 0, _ => rfl
    | 1, _ => rfl
    | 2, _ => rfl
    | 3, _ => rfl
    | 4, _ => rfl
    | 5, _ => rfl
    | 6, _ => rfl
    | 7, _ => rfl
theorem pcL_len (bs : List Int) (p : Nat) : (by8 (pcL bs p)).length = min (bs.length - p) 8 := by rw [by8_len, pcL, List.length_take, List.length_drop, Nat.min_comm]

set_option maxHeartbeats 1000000 in
theorem piece_in {N g off n cap p : Nat} {bs : List Int} {x : Int} (w : World) (hB : BS N w (some ⟨g, off, none⟩) n cap bs) (hx : x = (p : Int)) (hp : p < n) :
    Calls Try.prog 53 #[.slice (some ⟨g, off, none⟩) n cap, .int .u64 x] w fun e w' => e = .returned (.int .u64 (pcN bs p 8)) ∧ Below w.heap.size w w' := by
  subst hx
  have hl := hB.len
  have hle := hB.le
  have hsm := hB.small
  have hbig := hB.big
  have a1 : (p : Int) < n := by omega
  have a2 : ¬ cap = p := by omega
  have a3 : (p : Int) ≤ n := by omega
  have a4 : ¬ (n : Int) < p := by omega
  have a5 : IntKind.u64.wrap (n : Int) = n := wrap64_of (by omega) (by omega)
  have hsl := hB.here.below (alloc_bel' w (.cells zero8.toArray 119))
  obtain ⟨b, o, e, -, hby⟩ := hsl.at0 (by omega)
  cases e
  have hsrc : ∀ j v, (by8 (pcL bs p))[j]? = some v → (w.alloc (.cells zero8.toArray 119)).drew.cell? ((⟨g, off + p, none⟩ : Addr).add j) = some v := fun j v hv => by
    have hj : j < (pcL bs p).length := by have := (List.getElem?_eq_some_iff.1 hv).1; rwa [by8_len] at this
    rw [by8_get hj] at hv
    have hj2 : j < min (bs.length - p) 8 := by rw [← pcL_len, by8_len]; exact hj
    have hn := hl.out
    rw [Addr.add_mid, Nat.add_assoc]
    have := hby (p + j) (by omega)
    rw [← hv]
    refine Eq.trans this ?_
    congr 2
    simp only [bat, pcL, List.getD_eq_getElem?_getD]
    rw [List.getElem?_take_of_lt (by omega), List.getElem?_drop]
  clear hby hsl
  replace hsrc := Hid.mk' hsrc
  go_enter Try.func53, Try.ntmps53
  go_upto_region 2 with fail
  refine wp_region_held_drew (S := fun _ => True) (by kernel_rfl) (trivial) (fun hHeld => ?_)
  refine wpAnyH_take (i := 0) (oi := ⟨_, _, _, _, _, _⟩) (v := ?_) rfl (by kernel_rfl) (by kernel_rfl) (by kernel_rfl) (fun _ _ _ h => h) (Or.inl ⟨by rfl, ?_⟩) (by assumption) ?_
  rotate_left
  · intro u hSw
    go_simp
    try (with_reducible rfl)
  try simp only [Act.put, List.setIfInBounds_toArray, List.set_cons_zero, List.set_cons_succ]
  refine wpAnyH_take (i := 1) (oi := ⟨_, _, _, _, _, _⟩) (v := ?_) rfl (by kernel_rfl) (by kernel_rfl) (by kernel_rfl) (fun _ _ _ h => h) (Or.inl ⟨by rfl, ?_⟩) (by assumption) ?_
  rotate_left
  · intro u hSw
    go_simp
    try (with_reducible rfl)
  try simp only [Act.put, List.setIfInBounds_toArray, List.set_cons_zero, List.set_cons_succ]
  refine wpAnyH_take (i := 2) (oi := ⟨_, _, _, _, _, _⟩) (v := ?_) rfl (by kernel_rfl) (by kernel_rfl) (by kernel_rfl) (fun _ _ _ h => h) (Or.inl ⟨by rfl, ?_⟩) (by assumption) ?_
  rotate_left
  · intro u hSw
    go_simp
    try (with_reducible rfl)
  try simp only [Act.put, List.setIfInBounds_toArray, List.set_cons_zero, List.set_cons_succ]
  refine wpAnyH_take (i := 3) (oi := ⟨_, _, _, _, _, _⟩) (v := ?_) rfl (by kernel_rfl) (by kernel_rfl) (by kernel_rfl) (fun _ _ _ h => h) (Or.inl ⟨by rfl, ?_⟩) (by assumption) ?_
  rotate_left
  · intro u hSw
    go_simp
    try (with_reducible rfl)
  try simp only [Act.put, List.setIfInBounds_toArray, List.set_cons_zero, List.set_cons_succ]
  refine wpAnyH_take (i := 4) (oi := ⟨_, _, _, _, _, _⟩) (v := ?_) rfl (by kernel_rfl) (by kernel_rfl) (by kernel_rfl) (fun _ _ _ h => h) (Or.inl ⟨by rfl, ?_⟩) (by assumption) ?_
  rotate_left
  · intro u hSw
    go_simp
    try (with_reducible rfl)
  try simp only [Act.put, List.setIfInBounds_toArray, List.set_cons_zero, List.set_cons_succ]
  refine wpAnyH_take (i := 5) (oi := ⟨_, _, _, _, _, _⟩) (v := ?_) rfl (by kernel_rfl) (by kernel_rfl) (by kernel_rfl) (fun _ _ _ h => h) (Or.inl ⟨by rfl, ?_⟩) (by assumption) ?_
  rotate_left
  · intro u hSw
    go_simp
    try (with_reducible rfl)
  try simp only [Act.put, List.setIfInBounds_toArray, List.set_cons_zero, List.set_cons_succ]
  refine wpAnyH_take (i := 6) (oi := ⟨_, _, _, _, _, _⟩) (v := ?_) rfl (by kernel_rfl) (by kernel_rfl) (by kernel_rfl) (fun _ _ _ h => h) (Or.inl ⟨by rfl, ?_⟩) (by assumption) ?_
  rotate_left
  · intro u hSw
    go_simp
    try (with_reducible rfl)
  try simp only [Act.put, List.setIfInBounds_toArray, List.set_cons_zero, List.set_cons_succ]
  refine wpAnyH_take (i := 7) (oi := ⟨_, _, _, _, _, _⟩) (v := ?_) rfl (by kernel_rfl) (by kernel_rfl) (by kernel_rfl) (fun _ _ _ h => h) (Or.inl ⟨by rfl, ?_⟩) (by assumption) ?_
  rotate_left
  · intro u hSw
    go_simp
    try (with_reducible rfl)
  try simp only [Act.put, List.setIfInBounds_toArray, List.set_cons_zero, List.set_cons_succ]
  refine wpAnyH_ready (rs := [8]) (by kernel_rfl) (by simp) ?_
  refine AllReadyH.cons (o := ⟨_, _, _, _, _, _⟩) rfl (fun K hK => ?_) AllReadyH.nil
  refine step_copy_splice rfl (.tmp 9) (.tmp 16) 34 34 rfl 5 Try.underlying34 size5 _ _ 8 8 (n - p) _ (by rfl) (by rfl) w.heap.size 0 zero8 119 (Arr.new w 119 _) (by8 (pcL bs p)) (by rw [pcL_len, ← hl.out]) (fun _ => ⟨rfl, _, rfl, hsrc.out⟩) (by rw [pcL_len, Nat.zero_add]; exact Nat.min_le_right _ _) (by8_one _) w.heap.size w ((alloc_bel' w _).drew) (Nat.le_refl _) ?_
  intro w1 H1 hb1
  refine hK.out _ _ trivial (fun hHeld => ?_)
  clear hK K
  try simp only [Act.put, List.setIfInBounds_toArray, List.set_cons_zero, List.set_cons_succ]
  refine wpAnyH_done (by kernel_rfl) ?_ _
  have A1 : Arr w1 w.heap.size 119 (splice zero8 0 (by8 (pcL bs p))).toArray := H1.out
  have hix := index119 _ _ (pcL_row bs p)
  have hs8 : (splice zero8 0 (by8 (pcL bs p))).toArray.size = 8 := by simp only [List.size_toArray]; rw [length_splice _ _ _ (by rw [pcL_len, Nat.zero_add]; exact Nat.min_le_right _ _)]; rfl
  generalize (splice zero8 0 (by8 (pcL bs p))).toArray = C at A1 hix hs8
  clear H1 hHeld
  go_wp2_with (refine wpList_load_row (by rfl) 119 (.tmp 5) (by rfl) w.heap.size (by rfl) 119 C (0, 0) _ A1 Try.underlying119 rfl (by rw [hs8]; exact size119) ?_)
  go_loopw [6, 19] (fun v q wr => wr = w1 ∧ ∃ (k : Nat), q = .int .i64 (k : Int) ∧ k ≤ 8 ∧ v = .int .u64 (pcN bs p k))
    (fun _ q _ => 8 - (intOf q).toNat)
  case atStart => exact ⟨rfl, 0, rfl, by omega, rfl⟩
  case round =>
    obtain ⟨rfl, k, rfl, hk, rfl⟩ := hrel
    by_cases hlt : k < 8
    · have hI : (k : Int) < 8 := by omega
      have hx := hix k hlt
      have hst := pcN_step hB.bts p hlt
      go_wp2_with fail
      go_roundw
      case rel => exact ⟨by trivial, k + 1, by go_num, by omega, by first | rfl | (rw [← hst]) | (simp only [pcN])⟩
      case measure => simp [intOf]; omega
    · obtain rfl : k = 8 := by omega
      go_wp2_with fail
      go_ret
      exact ⟨rfl, hb1⟩

set_option maxHeartbeats 1000000 in
theorem piece_o1 {N n cap : Nat} {ad : Addr} {bs : List Int} {x : Int} (w : World) (hB : BS N w (some ad) n cap bs) (hx : U64 x) (hp : (n : Int) ≤ x) (hc : ¬ cap = n) :
    Calls Try.prog 53 #[.slice (some ad) n cap, .int .u64 x] w fun e w' => e = .returned (.int .u64 (pcN bs x.toNat 8)) ∧ Below w.heap.size w w' := by
  have hl := hB.len
  have hle := hB.le
  have hsm := hB.small
  have hbig := hB.big
  have hx1 := hx.1
  have hx2 := hx.2
  obtain ⟨p, hpp⟩ : ∃ p, p = x.toNat := ⟨_, rfl⟩
  rw [← hpp]
  have hz : by8 (pcL bs p) = [] := by
    have := hl.out
    apply List.eq_nil_of_length_eq_zero
    rw [pcL_len]; omega
  replace hz := Hid.mk' hz
  clear hpp
  have a5 : IntKind.u64.wrap (n : Int) = n := wrap64_of (by omega) (by omega)
  have a6 : (if (n : Int) < x then (n : Int) else x) = n := by split <;> omega

  go_enter Try.func53, Try.ntmps53
  go_upto_region 2 with fail
  refine wp_region_held_drew (S := fun _ => True) (by kernel_rfl) (trivial) (fun hHeld => ?_)
  refine wpAnyH_take (i := 0) (oi := ⟨_, _, _, _, _, _⟩) (v := ?_) rfl (by kernel_rfl) (by kernel_rfl) (by kernel_rfl) (fun _ _ _ h => h) (Or.inl ⟨by rfl, ?_⟩) (by assumption) ?_
  rotate_left
  · intro u hSw
    go_simp
    try (with_reducible rfl)
  try simp only [Act.put, List.setIfInBounds_toArray, List.set_cons_zero, List.set_cons_succ]
  refine wpAnyH_take (i := 1) (oi := ⟨_, _, _, _, _, _⟩) (v := ?_) rfl (by kernel_rfl) (by kernel_rfl) (by kernel_rfl) (fun _ _ _ h => h) (Or.inl ⟨by rfl, ?_⟩) (by assumption) ?_
  rotate_left
  · intro u hSw
    go_simp
    try (with_reducible rfl)
  try simp only [Act.put, List.setIfInBounds_toArray, List.set_cons_zero, List.set_cons_succ]
  refine wpAnyH_take (i := 2) (oi := ⟨_, _, _, _, _, _⟩) (v := ?_) rfl (by kernel_rfl) (by kernel_rfl) (by kernel_rfl) (fun _ _ _ h => h) (Or.inl ⟨by rfl, ?_⟩) (by assumption) ?_
  rotate_left
  · intro u hSw
    go_simp
    try (with_reducible rfl)
  try simp only [Act.put, List.setIfInBounds_toArray, List.set_cons_zero, List.set_cons_succ]
  refine wpAnyH_take (i := 3) (oi := ⟨_, _, _, _, _, _⟩) (v := ?_) rfl (by kernel_rfl) (by kernel_rfl) (by kernel_rfl) (fun _ _ _ h => h) (Or.inl ⟨by rfl, ?_⟩) (by assumption) ?_
  rotate_left
  · intro u hSw
    go_simp
    try (with_reducible rfl)
  try simp only [Act.put, List.setIfInBounds_toArray, List.set_cons_zero, List.set_cons_succ]
  refine wpAnyH_take (i := 4) (oi := ⟨_, _, _, _, _, _⟩) (v := ?_) rfl (by kernel_rfl) (by kernel_rfl) (by kernel_rfl) (fun _ _ _ h => h) (Or.inl ⟨by rfl, ?_⟩) (by assumption) ?_
  rotate_left
  · intro u hSw
    go_simp
    try (with_reducible rfl)
  try simp only [Act.put, List.setIfInBounds_toArray, List.set_cons_zero, List.set_cons_succ]
  refine wpAnyH_take (i := 5) (oi := ⟨_, _, _, _, _, _⟩) (v := ?_) rfl (by kernel_rfl) (by kernel_rfl) (by kernel_rfl) (fun _ _ _ h => h) (Or.inl ⟨by rfl, ?_⟩) (by assumption) ?_
  rotate_left
  · intro u hSw
    go_simp
    try (with_reducible rfl)
  try simp only [Act.put, List.setIfInBounds_toArray, List.set_cons_zero, List.set_cons_succ]
  refine wpAnyH_take (i := 6) (oi := ⟨_, _, _, _, _, _⟩) (v := ?_) rfl (by kernel_rfl) (by kernel_rfl) (by kernel_rfl) (fun _ _ _ h => h) (Or.inl ⟨by rfl, ?_⟩) (by assumption) ?_
  rotate_left
  · intro u hSw
    go_simp
    try (with_reducible rfl)
  try simp only [Act.put, List.setIfInBounds_toArray, List.set_cons_zero, List.set_cons_succ]
  refine wpAnyH_take (i := 7) (oi := ⟨_, _, _, _, _, _⟩) (v := ?_) rfl (by kernel_rfl) (by kernel_rfl) (by kernel_rfl) (fun _ _ _ h => h) (Or.inl ⟨by rfl, ?_⟩) (by assumption) ?_
  rotate_left
  · intro u hSw
    go_simp
    try (with_reducible rfl)
  try simp only [Act.put, List.setIfInBounds_toArray, List.set_cons_zero, List.set_cons_succ]
  refine wpAnyH_ready (rs := [8]) (by kernel_rfl) (by simp) ?_
  refine AllReadyH.cons (o := ⟨_, _, _, _, _, _⟩) rfl (fun K hK => ?_) AllReadyH.nil
  refine step_copy_splice rfl (.tmp 9) (.tmp 16) 34 34 rfl 5 Try.underlying34 size5 _ _ 8 8 0 _ (by rfl) (by rfl) w.heap.size 0 zero8 119 (Arr.new w 119 _) (by8 (pcL bs p)) (by rw [hz.out]; simp) (fun h0 => absurd h0 (by rw [hz.out]; simp)) (by rw [pcL_len, Nat.zero_add]; exact Nat.min_le_right _ _) (by8_one _) w.heap.size w ((alloc_bel' w _).drew) (Nat.le_refl _) ?_
  intro w1 H1 hb1
  refine hK.out _ _ trivial (fun hHeld => ?_)
  clear hK K
  try simp only [Act.put, List.setIfInBounds_toArray, List.set_cons_zero, List.set_cons_succ]
  refine wpAnyH_done (by kernel_rfl) ?_ _
  have A1 : Arr w1 w.heap.size 119 (splice zero8 0 (by8 (pcL bs p))).toArray := H1.out
  have hix := index119 _ _ (pcL_row bs p)
  have hs8 : (splice zero8 0 (by8 (pcL bs p))).toArray.size = 8 := by simp only [List.size_toArray]; rw [length_splice _ _ _ (by rw [pcL_len, Nat.zero_add]; exact Nat.min_le_right _ _)]; rfl
  generalize (splice zero8 0 (by8 (pcL bs p))).toArray = C at A1 hix hs8
  clear H1 hHeld
  go_wp2_with (refine wpList_load_row (by rfl) 119 (.tmp 5) (by rfl) w.heap.size (by rfl) 119 C (0, 0) _ A1 Try.underlying119 rfl (by rw [hs8]; exact size119) ?_)
  go_loopw [6, 19] (fun v q wr => wr = w1 ∧ ∃ (k : Nat), q = .int .i64 (k : Int) ∧ k ≤ 8 ∧ v = .int .u64 (pcN bs p k))
    (fun _ q _ => 8 - (intOf q).toNat)
  case atStart => exact ⟨rfl, 0, rfl, by omega, rfl⟩
  case round =>
    obtain ⟨rfl, k, rfl, hk, rfl⟩ := hrel
    by_cases hlt : k < 8
    · have hI : (k : Int) < 8 := by omega
      have hx := hix k hlt
      have hst := pcN_step hB.bts p hlt
      go_wp2_with fail
      go_roundw
      case rel => exact ⟨by trivial, k + 1, by go_num, by omega, by first | rfl | (rw [← hst]) | (simp only [pcN])⟩
      case measure => simp [intOf]; omega
    · obtain rfl : k = 8 := by omega
      go_wp2_with fail
      go_ret
      exact ⟨rfl, hb1⟩

set_option maxHeartbeats 1000000 in
theorem piece_o2 {N n : Nat} {ad : Addr} {bs : List Int} {x : Int} (w : World) (hB : BS N w (some ad) n n bs) (hx : U64 x) (hp : (n : Int) ≤ x) :
    Calls Try.prog 53 #[.slice (some ad) n n, .int .u64 x] w fun e w' => e = .returned (.int .u64 (pcN bs x.toNat 8)) ∧ Below w.heap.size w w' := by
  have hl := hB.len
  have hle := hB.le
  have hsm := hB.small
  have hbig := hB.big
  have hx1 := hx.1
  have hx2 := hx.2
  obtain ⟨p, hpp⟩ : ∃ p, p = x.toNat := ⟨_, rfl⟩
  rw [← hpp]
  have hz : by8 (pcL bs p) = [] := by
    have := hl.out
    apply List.eq_nil_of_length_eq_zero
    rw [pcL_len]; omega
  replace hz := Hid.mk' hz
  clear hpp
  have a5 : IntKind.u64.wrap (n : Int) = n := wrap64_of (by omega) (by omega)
  have a6 : (if (n : Int) < x then (n : Int) else x) = n := by split <;> omega

  go_enter Try.func53, Try.ntmps53
  go_upto_region 2 with fail
  refine wp_region_held_drew (S := fun _ => True) (by kernel_rfl) (trivial) (fun hHeld => ?_)
  refine wpAnyH_take (i := 0) (oi := ⟨_, _, _, _, _, _⟩) (v := ?_) rfl (by kernel_rfl) (by kernel_rfl) (by kernel_rfl) (fun _ _ _ h => h) (Or.inl ⟨by rfl, ?_⟩) (by assumption) ?_
  rotate_left
  · intro u hSw
    go_simp
    try (with_reducible rfl)
  try simp only [Act.put, List.setIfInBounds_toArray, List.set_cons_zero, List.set_cons_succ]
  refine wpAnyH_take (i := 1) (oi := ⟨_, _, _, _, _, _⟩) (v := ?_) rfl (by kernel_rfl) (by kernel_rfl) (by kernel_rfl) (fun _ _ _ h => h) (Or.inl ⟨by rfl, ?_⟩) (by assumption) ?_
  rotate_left
  · intro u hSw
    go_simp
    try (with_reducible rfl)
  try simp only [Act.put, List.setIfInBounds_toArray, List.set_cons_zero, List.set_cons_succ]
  refine wpAnyH_take (i := 2) (oi := ⟨_, _, _, _, _, _⟩) (v := ?_) rfl (by kernel_rfl) (by kernel_rfl) (by kernel_rfl) (fun _ _ _ h => h) (Or.inl ⟨by rfl, ?_⟩) (by assumption) ?_
  rotate_left
  · intro u hSw
    go_simp
    try (with_reducible rfl)
  try simp only [Act.put, List.setIfInBounds_toArray, List.set_cons_zero, List.set_cons_succ]
  refine wpAnyH_take (i := 3) (oi := ⟨_, _, _, _, _, _⟩) (v := ?_) rfl (by kernel_rfl) (by kernel_rfl) (by kernel_rfl) (fun _ _ _ h => h) (Or.inl ⟨by rfl, ?_⟩) (by assumption) ?_
  rotate_left
  · intro u hSw
    go_simp
    try (with_reducible rfl)
  try simp only [Act.put, List.setIfInBounds_toArray, List.set_cons_zero, List.set_cons_succ]
  refine wpAnyH_take (i := 4) (oi := ⟨_, _, _, _, _, _⟩) (v := ?_) rfl (by kernel_rfl) (by kernel_rfl) (by kernel_rfl) (fun _ _ _ h => h) (Or.inl ⟨by rfl, ?_⟩) (by assumption) ?_
  rotate_left
  · intro u hSw
    go_simp
    try (with_reducible rfl)
  try simp only [Act.put, List.setIfInBounds_toArray, List.set_cons_zero, List.set_cons_succ]
  refine wpAnyH_take (i := 5) (oi := ⟨_, _, _, _, _, _⟩) (v := ?_) rfl (by kernel_rfl) (by kernel_rfl) (by kernel_rfl) (fun _ _ _ h => h) (Or.inl ⟨by rfl, ?_⟩) (by assumption) ?_
  rotate_left
  · intro u hSw
    go_simp
    try (with_reducible rfl)
  try simp only [Act.put, List.setIfInBounds_toArray, List.set_cons_zero, List.set_cons_succ]
  refine wpAnyH_take (i := 6) (oi := ⟨_, _, _, _, _, _⟩) (v := ?_) rfl (by kernel_rfl) (by kernel_rfl) (by kernel_rfl) (fun _ _ _ h => h) (Or.inl ⟨by rfl, ?_⟩) (by assumption) ?_
  rotate_left
  · intro u hSw
    go_simp
    try (with_reducible rfl)
  try simp only [Act.put, List.setIfInBounds_toArray, List.set_cons_zero, List.set_cons_succ]
  refine wpAnyH_take (i := 7) (oi := ⟨_, _, _, _, _, _⟩) (v := ?_) rfl (by kernel_rfl) (by kernel_rfl) (by kernel_rfl) (fun _ _ _ h => h) (Or.inl ⟨by rfl, ?_⟩) (by assumption) ?_
  rotate_left
  · intro u hSw
    go_simp
    try (with_reducible rfl)
  try simp only [Act.put, List.setIfInBounds_toArray, List.set_cons_zero, List.set_cons_succ]
  refine wpAnyH_ready (rs := [8]) (by kernel_rfl) (by simp) ?_
  refine AllReadyH.cons (o := ⟨_, _, _, _, _, _⟩) rfl (fun K hK => ?_) AllReadyH.nil
  refine step_copy_splice rfl (.tmp 9) (.tmp 16) 34 34 rfl 5 Try.underlying34 size5 _ _ 8 8 0 _ (by rfl) (by rfl) w.heap.size 0 zero8 119 (Arr.new w 119 _) (by8 (pcL bs p)) (by rw [hz.out]; simp) (fun h0 => absurd h0 (by rw [hz.out]; simp)) (by rw [pcL_len, Nat.zero_add]; exact Nat.min_le_right _ _) (by8_one _) w.heap.size w ((alloc_bel' w _).drew) (Nat.le_refl _) ?_
  intro w1 H1 hb1
  refine hK.out _ _ trivial (fun hHeld => ?_)
  clear hK K
  try simp only [Act.put, List.setIfInBounds_toArray, List.set_cons_zero, List.set_cons_succ]
  refine wpAnyH_done (by kernel_rfl) ?_ _
  have A1 : Arr w1 w.heap.size 119 (splice zero8 0 (by8 (pcL bs p))).toArray := H1.out
  have hix := index119 _ _ (pcL_row bs p)
  have hs8 : (splice zero8 0 (by8 (pcL bs p))).toArray.size = 8 := by simp only [List.size_toArray]; rw [length_splice _ _ _ (by rw [pcL_len, Nat.zero_add]; exact Nat.min_le_right _ _)]; rfl
  generalize (splice zero8 0 (by8 (pcL bs p))).toArray = C at A1 hix hs8
  clear H1 hHeld
  go_wp2_with (refine wpList_load_row (by rfl) 119 (.tmp 5) (by rfl) w.heap.size (by rfl) 119 C (0, 0) _ A1 Try.underlying119 rfl (by rw [hs8]; exact size119) ?_)
  go_loopw [6, 19] (fun v q wr => wr = w1 ∧ ∃ (k : Nat), q = .int .i64 (k : Int) ∧ k ≤ 8 ∧ v = .int .u64 (pcN bs p k))
    (fun _ q _ => 8 - (intOf q).toNat)
  case atStart => exact ⟨rfl, 0, rfl, by omega, rfl⟩
  case round =>
    obtain ⟨rfl, k, rfl, hk, rfl⟩ := hrel
    by_cases hlt : k < 8
    · have hI : (k : Int) < 8 := by omega
      have hx := hix k hlt
      have hst := pcN_step hB.bts p hlt
      go_wp2_with fail
      go_roundw
      case rel => exact ⟨by trivial, k + 1, by go_num, by omega, by first | rfl | (rw [← hst]) | (simp only [pcN])⟩
      case measure => simp [intOf]; omega
    · obtain rfl : k = 8 := by omega
      go_wp2_with fail
      go_ret
      exact ⟨rfl, hb1⟩

set_option maxHeartbeats 1000000 in
theorem piece_o3 {N n : Nat} {ad : Addr} {bs : List Int} {x : Int} (w : World) (hB : BS N w none n n bs) (hx : U64 x) (hp : (n : Int) ≤ x) :
    Calls Try.prog 53 #[.slice none n n, .int .u64 x] w fun e w' => e = .returned (.int .u64 (pcN bs x.toNat 8)) ∧ Below w.heap.size w w' := by
  have hl := hB.len
  have hle := hB.le
  have hsm := hB.small
  have hbig := hB.big
  have hx1 := hx.1
  have hx2 := hx.2
  obtain ⟨p, hpp⟩ : ∃ p, p = x.toNat := ⟨_, rfl⟩
  rw [← hpp]
  have hz : by8 (pcL bs p) = [] := by
    have := hl.out
    apply List.eq_nil_of_length_eq_zero
    rw [pcL_len]; omega
  replace hz := Hid.mk' hz
  clear hpp
  have a5 : IntKind.u64.wrap (n : Int) = n := wrap64_of (by omega) (by omega)
  have a6 : (if (n : Int) < x then (n : Int) else x) = n := by split <;> omega
  obtain ⟨rfl, -⟩ := hB.nil rfl
  have a7 : (if IntKind.u64.wrap 0 < x then IntKind.u64.wrap 0 else x) = 0 := by rw [wrap_mod]; split <;> omega
  go_enter Try.func53, Try.ntmps53
  go_upto_region 2 with fail
  refine wp_region_held_drew (S := fun _ => True) (by kernel_rfl) (trivial) (fun hHeld => ?_)
  refine wpAnyH_take (i := 0) (oi := ⟨_, _, _, _, _, _⟩) (v := ?_) rfl (by kernel_rfl) (by kernel_rfl) (by kernel_rfl) (fun _ _ _ h => h) (Or.inl ⟨by rfl, ?_⟩) (by assumption) ?_
  rotate_left
  · intro u hSw
    go_simp
    try (with_reducible rfl)
  try simp only [Act.put, List.setIfInBounds_toArray, List.set_cons_zero, List.set_cons_succ]
  refine wpAnyH_take (i := 1) (oi := ⟨_, _, _, _, _, _⟩) (v := ?_) rfl (by kernel_rfl) (by kernel_rfl) (by kernel_rfl) (fun _ _ _ h => h) (Or.inl ⟨by rfl, ?_⟩) (by assumption) ?_
  rotate_left
  · intro u hSw
    go_simp
    try (with_reducible rfl)
  try simp only [Act.put, List.setIfInBounds_toArray, List.set_cons_zero, List.set_cons_succ]
  refine wpAnyH_take (i := 2) (oi := ⟨_, _, _, _, _, _⟩) (v := ?_) rfl (by kernel_rfl) (by kernel_rfl) (by kernel_rfl) (fun _ _ _ h => h) (Or.inl ⟨by rfl, ?_⟩) (by assumption) ?_
  rotate_left
  · intro u hSw
    go_simp
    try (with_reducible rfl)
  try simp only [Act.put, List.setIfInBounds_toArray, List.set_cons_zero, List.set_cons_succ]
  refine wpAnyH_take (i := 3) (oi := ⟨_, _, _, _, _, _⟩) (v := ?_) rfl (by kernel_rfl) (by kernel_rfl) (by kernel_rfl) (fun _ _ _ h => h) (Or.inl ⟨by rfl, ?_⟩) (by assumption) ?_
  rotate_left
  · intro u hSw
    go_simp
    try (with_reducible rfl)
  try simp only [Act.put, List.setIfInBounds_toArray, List.set_cons_zero, List.set_cons_succ]
  refine wpAnyH_take (i := 4) (oi := ⟨_, _, _, _, _, _⟩) (v := ?_) rfl (by kernel_rfl) (by kernel_rfl) (by kernel_rfl) (fun _ _ _ h => h) (Or.inl ⟨by rfl, ?_⟩) (by assumption) ?_
  rotate_left
  · intro u hSw
    go_simp
    try (with_reducible rfl)
  try simp only [Act.put, List.setIfInBounds_toArray, List.set_cons_zero, List.set_cons_succ]
  refine wpAnyH_take (i := 5) (oi := ⟨_, _, _, _, _, _⟩) (v := ?_) rfl (by kernel_rfl) (by kernel_rfl) (by kernel_rfl) (fun _ _ _ h => h) (Or.inl ⟨by rfl, ?_⟩) (by assumption) ?_
  rotate_left
  · intro u hSw
    go_simp
    try (with_reducible rfl)
  try simp only [Act.put, List.setIfInBounds_toArray, List.set_cons_zero, List.set_cons_succ]
  refine wpAnyH_take (i := 6) (oi := ⟨_, _, _, _, _, _⟩) (v := ?_) rfl (by kernel_rfl) (by kernel_rfl) (by kernel_rfl) (fun _ _ _ h => h) (Or.inl ⟨by rfl, ?_⟩) (by assumption) ?_
  rotate_left
  · intro u hSw
    go_simp
    try (with_reducible rfl)
  try simp only [Act.put, List.setIfInBounds_toArray, List.set_cons_zero, List.set_cons_succ]
  refine wpAnyH_take (i := 7) (oi := ⟨_, _, _, _, _, _⟩) (v := ?_) rfl (by kernel_rfl) (by kernel_rfl) (by kernel_rfl) (fun _ _ _ h => h) (Or.inl ⟨by rfl, ?_⟩) (by assumption) ?_
  rotate_left
  · intro u hSw
    go_simp
    try (with_reducible rfl)
  try simp only [Act.put, List.setIfInBounds_toArray, List.set_cons_zero, List.set_cons_succ]
  refine wpAnyH_ready (rs := [8]) (by kernel_rfl) (by simp) ?_
  refine AllReadyH.cons (o := ⟨_, _, _, _, _, _⟩) rfl (fun K hK => ?_) AllReadyH.nil
  refine step_copy_splice rfl (.tmp 9) (.tmp 16) 34 34 rfl 5 Try.underlying34 size5 _ _ 8 8 0 _ (by rfl) (by rfl) w.heap.size 0 zero8 119 (Arr.new w 119 _) (by8 (pcL bs p)) (by rw [hz.out]; simp) (fun h0 => absurd h0 (by rw [hz.out]; simp)) (by rw [pcL_len, Nat.zero_add]; exact Nat.min_le_right _ _) (by8_one _) w.heap.size w ((alloc_bel' w _).drew) (Nat.le_refl _) ?_
  intro w1 H1 hb1
  refine hK.out _ _ trivial (fun hHeld => ?_)
  clear hK K
  try simp only [Act.put, List.setIfInBounds_toArray, List.set_cons_zero, List.set_cons_succ]
  refine wpAnyH_done (by kernel_rfl) ?_ _
  have A1 : Arr w1 w.heap.size 119 (splice zero8 0 (by8 (pcL bs p))).toArray := H1.out
  have hix := index119 _ _ (pcL_row bs p)
  have hs8 : (splice zero8 0 (by8 (pcL bs p))).toArray.size = 8 := by simp only [List.size_toArray]; rw [length_splice _ _ _ (by rw [pcL_len, Nat.zero_add]; exact Nat.min_le_right _ _)]; rfl
  generalize (splice zero8 0 (by8 (pcL bs p))).toArray = C at A1 hix hs8
  clear H1 hHeld
  go_wp2_with (refine wpList_load_row (by rfl) 119 (.tmp 5) (by rfl) w.heap.size (by rfl) 119 C (0, 0) _ A1 Try.underlying119 rfl (by rw [hs8]; exact size119) ?_)
  go_loopw [6, 19] (fun v q wr => wr = w1 ∧ ∃ (k : Nat), q = .int .i64 (k : Int) ∧ k ≤ 8 ∧ v = .int .u64 (pcN bs p k))
    (fun _ q _ => 8 - (intOf q).toNat)
  case atStart => exact ⟨rfl, 0, rfl, by omega, rfl⟩
  case round =>
    obtain ⟨rfl, k, rfl, hk, rfl⟩ := hrel
    by_cases hlt : k < 8
    · have hI : (k : Int) < 8 := by omega
      have hx := hix k hlt
      have hst := pcN_step hB.bts p hlt
      go_wp2_with fail
      go_roundw
      case rel => exact ⟨by trivial, k + 1, by go_num, by omega, by first | rfl | (rw [← hst]) | (simp only [pcN])⟩
      case measure => simp [intOf]; omega
    · obtain rfl : k = 8 := by omega
      go_wp2_with fail
      go_ret
      exact ⟨rfl, hb1⟩
end Go.Proofs.Ytnjbmffgbgbjmaa
/- Layer vm: a step, as numbers. -/
namespace Go.Proofs.Ytnjbmffgbgbjmaa
open Go.RowKit
set_option maxRecDepth 100000
set_option linter.unusedVariables false
set_option linter.unusedSimpArgs false

theorem piece_any {N n cap : Nat} {sp : Option Addr} {bs : List Int} {x : Int} (w : World) (hB : BS N w sp n cap bs) (hx : U64 x) :
    Calls Try.prog 53 #[.slice sp n cap, .int .u64 x] w fun e w' => e = .returned (.int .u64 (pcN bs x.toNat 8)) ∧ Below w.heap.size w w' := by
  have h1 := hx.1
  by_cases hp : x < n
  · obtain ⟨g, off, rfl, -⟩ := hB.at0 (by omega)
    exact piece_in w hB (by omega) (by omega)
  · cases sp with
    | none =>
      obtain ⟨rfl, rfl⟩ := hB.nil rfl
      exact piece_o3 (ad := ⟨0, 0, none⟩) w hB hx (by omega)
    | some a =>
      by_cases hc : cap = n
      · subst hc; exact piece_o2 w hB hx (by omega)
      · exact piece_o1 w hB hx (by omega) hc
/-- A register; a register set, and on. -/
def Mc.get (m : Mc) (a : Nat) : Int := m.rg.getD a 0
def Mc.nxt (m : Mc) : Mc := { m with pc := IntKind.u64.wrap (m.pc + 1) }
def Mc.put (m : Mc) (a : Nat) (x : Int) : Mc := { m with rg := m.rg.set a x, pc := IntKind.u64.wrap (m.pc + 1) }
/-- The words from an address on. -/
def Mc.wds (m : Mc) (b : Nat) (t : Nat) : Int := m.me.getD (b + t) 0
/-- The words of a sum. -/
def wsu (L : List Int) (j : Nat) : Int := wacc (shaB (bat L) L.length) j 8
def put4 (L : List Int) (a : Nat) (W : Nat → Int) : List Int := (((L.set a (W 0)).set (a + 1) (W 1)).set (a + 2) (W 2)).set (a + 3) (W 3)
/-- HASH. -/
def hs (m : Mc) (i ra rb rc : Int) : Option Mc :=
  if 128 < rc then none else if ¬ ra + 4 ≤ m.me.length then none else if ¬ (rc = 0 ∨ rb + (rc + 7) / 8 ≤ m.me.length) then none else
  match mkL i with
  | none => none
  | some P => some { m.nxt with me := put4 m.me ra.toNat (wsu (P ++ fbL (m.wds rb.toNat) rc.toNat)) }
/-- The preimage of a sum in memory. -/
def prm (es : List En) (m : Mc) (rb : Int) : Option En := if rb + 4 ≤ m.me.length then pre es (fmL (m.wds rb.toNat)) else none
/-- What an instruction does; none: a trap. -/
def ex (es : List En) (m : Mc) (o : Int) (a b c : Nat) (i : Int) : Option Mc :=
  if o = 1 then some { m with st := 1 }
  else if o = 2 then some (m.put a i)
  else if o = 3 then some (m.put a (bits .or .u64 (IntKind.u64.wrap (m.get a * 4294967296)) i))
  else if o = 4 then some (m.put a (m.get b))
  else if o = 17 then (if IntKind.u64.wrap (m.get b + i) < m.me.length then some (m.put a (m.me.getD (IntKind.u64.wrap (m.get b + i)).toNat 0)) else none)
  else if o = 18 then (if IntKind.u64.wrap (m.get b + i) < m.me.length then some { m.nxt with me := m.me.set (IntKind.u64.wrap (m.get b + i)).toNat (m.get a) } else none)
  else if o = 19 then some { m with pc := i }
  else if o = 20 then (if m.get a = 0 then some { m with pc := i } else some m.nxt)
  else if o = 21 then (if m.get a = 0 then some m.nxt else some { m with pc := i })
  else if o = 22 then some { m with pc := m.get a }
  else if o = 23 then hs m i (m.get a) (m.get b) (m.get c)
  else if o = 24 then (prm es m (m.get b)).map (fun e => m.put a (pcN e.bs (m.get c).toNat 8))
  else if o = 25 then (prm es m (m.get b)).map (fun e => m.put a e.n)
  else (rk o (m.get b) (m.get c)).map (m.put a)
/-- A step of a machine that runs; none: a trap. -/
def stp (es : List En) (m : Mc) : Option Mc :=
  if m.pc < m.me.length then (if dOk (m.me.getD m.pc.toNat 0) = true then ex es m (dOp (m.me.getD m.pc.toNat 0)) (dA (m.me.getD m.pc.toNat 0)).toNat (dB (m.me.getD m.pc.toNat 0)).toNat (dC (m.me.getD m.pc.toNat 0)).toNat (dI (m.me.getD m.pc.toNat 0)) else none) else none
def tick (es : List En) (m : Mc) : Mc := (stp es m).getD { m with st := 2 }
/-- Steps until it is not running, at most so many; and how many. -/
def rn (es : List En) : Nat → Mc → Mc × Nat
  | 0, m => (m, 0)
  | k + 1, m => if m.st = 0 then ((rn es k (tick es m)).1, (rn es k (tick es m)).2 + 1) else (m, 0)
theorem Mc.ok.put {m : Mc} (h : m.ok) {a : Nat} (ha : a < 16) {x : Int} (hx : U64 x) : (m.put a x).ok :=
  ⟨U64.wrap _, by simpa [Mc.put] using h.r16, fun k => by
    show U64 ((m.rg.set a x).getD k 0)
    rw [getD_set _ _ _ _ (by rw [h.r16]; exact ha)]; split; exact hx; exact h.rg k, h.st, h.me⟩
theorem Chg.drew {S : Nat → Prop} {a b : World} (h : Chg S a b) : Chg S a b.drew := ⟨h.os, h.tape, h.output, h.size, h.block⟩
theorem Chg.mono {S S' : Nat → Prop} {a b : World} (h : Chg S a b) (hs : ∀ k, S k → S' k) : Chg S' a b := ⟨h.os, h.tape, h.output, h.size, fun i hi hn => h.block i hi (fun e => hn (hs i e))⟩
end Go.Proofs.Ytnjbmffgbgbjmaa
