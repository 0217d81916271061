import Derived.Test.YtfmjapopnomkkaaTo
import Derived.Deep.RegionHeld3
namespace Go.Proofs.Ytfmjapopnomkkaa
open Go.RowKit

def by64 (L : List Int) : List Value := L.map (Value.int .u64)
theorem by64_len (L : List Int) : (by64 L).length = L.length := by simp [by64]
theorem by64_get {L : List Int} {t : Nat} (h : t < L.length) : (by64 L)[t]? = some (.int .u64 (bat L t)) := by
  simp [by64, bat, List.getElem?_eq_getElem h]
theorem by8_u8s {X : List Int} (h : X.length = 32) : (by8 X).toArray = u8s 32 (bat X) :=
  arr_eq (by simp [by8_len, h]) (fun t ht => by simpa using by8_get (L := X) (by omega))
theorem by64_u64s {X : List Int} (h : X.length = 4) : (by64 X).toArray = u64s 4 (bat X) :=
  arr_eq (by simp [by64_len, h]) (fun t ht => by simpa using by64_get (L := X) (by omega))
theorem bat_u8 {X : List Int} (h : ∀ x ∈ X, (Lit.int .u8 x).wf = true) (t : Nat) : 0 ≤ bat X t ∧ bat X t ≤ 255 := by
  unfold bat
  by_cases ht : t < X.length
  · have := h X[t] (List.getElem_mem ht)
    simp [List.getD, List.getElem?_eq_getElem ht, Lit.wf, IntKind.min, IntKind.max, IntKind.signed, IntKind.bits] at this ⊢
    omega
  · simp [List.getD, List.getElem?_eq_none (Nat.le_of_not_lt ht)]
theorem bat_u64 {X : List Int} (h : ∀ x ∈ X, (Lit.int .u64 x).wf = true) (t : Nat) : 0 ≤ bat X t ∧ bat X t < 18446744073709551616 := by
  unfold bat
  by_cases ht : t < X.length
  · have := h X[t] (List.getElem_mem ht)
    simp [List.getD, List.getElem?_eq_getElem ht, Lit.wf, IntKind.min, IntKind.max, IntKind.signed, IntKind.bits] at this ⊢
    omega
  · simp [List.getD, List.getElem?_eq_none (Nat.le_of_not_lt ht)]
theorem u8s_congr {n : Nat} {f g : Nat → Int} (h : ∀ t, t < n → f t = g t) : u8s n f = u8s n g := arr_eq (u8s_size _ _) fun t ht => by rw [u8s_get ht, h t ht]
theorem u64s_congr {n : Nat} {f g : Nat → Int} (h : ∀ t, t < n → f t = g t) : u64s n f = u64s n g := arr_eq (u64s_size _ _) fun t ht => by rw [u64s_get ht, h t ht]

theorem dok_hexc {v : Int} (h0 : 0 ≤ v) (h1 : v < 16) : dok (hexc v) = true ∧ dval (hexc v) = v := by
  unfold dok dval hexc; split <;> simp <;> omega
theorem hexc_range {v : Int} (h0 : 0 ≤ v) (h1 : v < 16) : 0 ≤ hexc v ∧ hexc v ≤ 255 := by
  unfold hexc; split <;> omega
theorem hexS_size (H : Nat → Int) : (hexS H).size = 64 := by simp [hexS, strOfNums_size]
theorem hexAt_of {H : Nat → Int} (hH : ∀ t, 0 ≤ H t ∧ H t ≤ 255) (t : Nat) : ∃ v, 0 ≤ v ∧ v < 16 ∧ hexAt H t = hexc v ∧ v = if t % 2 = 0 then H (t / 2) / 16 else H (t / 2) % 16 := by
  have := hH (t / 2)
  unfold hexAt
  split
  · exact ⟨_, by omega, by omega, rfl, rfl⟩
  · exact ⟨_, by omega, by omega, rfl, rfl⟩
theorem sc_hexS {H : Nat → Int} (hH : ∀ t, 0 ≤ H t ∧ H t ≤ 255) {t : Nat} (ht : t < 64) : sc (hexS H) t = hexAt H t := by
  obtain ⟨v, h0, h1, e, -⟩ := hexAt_of hH t
  have hr := hexc_range h0 h1
  have hg : (hexS H).data.getD t 0 = UInt8.ofNat (hexAt H t).toNat := by
    simp [hexS, strOfNums, Array.getD, ht]
  unfold sc
  rw [hg, e]
  simp
  omega
theorem unhex_back {X : List Int} (w : World) (hX : X.length = 32) (hH : ∀ t, 0 ≤ bat X t ∧ bat X t ≤ 255) :
    Calls Try.prog 16 #[.string (hexS (bat X))] w fun e w' => e = .returned (.tuple #[.agg (by8 X).toArray, .int .i64 0]) ∧ Below w.heap.size w w' := by
  refine (unhex_any (hexS (bat X)) w (by rw [hexS_size]; omega)).mono ?_
  rintro e w' ⟨rfl, hb⟩
  refine ⟨?_, hb⟩
  have hg : good (hexS (bat X)) = true := good_yes (hexS_size _) fun i hi => by
    obtain ⟨v, h0, h1, e, -⟩ := hexAt_of hH i
    rw [sc_hexS hH hi, e]; exact (dok_hexc h0 h1).1
  rw [unhexV, if_pos hg, by8_u8s hX]
  refine congrArg (fun z => Ending.returned (.tuple #[.agg z, .int .i64 0])) (u8s_congr fun t ht => ?_)
  obtain ⟨v, h0, h1, e, ev⟩ := hexAt_of hH (2 * t)
  obtain ⟨v', h0', h1', e', ev'⟩ := hexAt_of hH (2 * t + 1)
  unfold unB
  rw [sc_hexS hH (by omega), sc_hexS hH (by omega), e, e', (dok_hexc h0 h1).2, (dok_hexc h0' h1').2, ev, ev']
  rw [if_pos (by omega), if_neg (by omega), show 2 * t / 2 = t by omega, show (2 * t + 1) / 2 = t by omega]
  omega
theorem hex_by8 {X : List Int} (w : World) (hX : X.length = 32) (hH : ∀ t, 0 ≤ bat X t ∧ bat X t ≤ 255) :
    Calls Try.prog 22 #[.agg (by8 X).toArray] w fun e w' => e = .returned (.string (hexS (bat X))) ∧ Below w.heap.size w w' := by
  rw [by8_u8s hX]; exact hex_u8s _ w (fun t _ => hH t)
theorem words_by8 {X : List Int} (w : World) (hX : X.length = 32) (hH : ∀ t, 0 ≤ bat X t ∧ bat X t ≤ 255) :
    Calls Try.prog 18 #[.agg (by8 X).toArray] w fun e w' => e = .returned (.agg (wordsOf (bat X))) ∧ Below w.heap.size w w' := by
  rw [by8_u8s hX]; exact words_any _ _ w (u8s_size _ _) (fun _ h => u8s_get h) (fun t _ => hH t)
theorem from_words_by8 {X : List Int} (w : World) (hX : X.length = 32) (hH : ∀ t, 0 ≤ bat X t ∧ bat X t ≤ 255) :
    Calls Try.prog 20 #[.agg (wordsOf (bat X))] w fun e w' => e = .returned (.agg (by8 X).toArray) ∧ Below w.heap.size w w' := by
  refine (from_any (wordsOf (bat X)) _ w (fun _ h => u64s_get h)).mono ?_
  rintro e w' ⟨rfl, hb⟩
  refine ⟨?_, hb⟩
  rw [by8_u8s hX, u8s_congr fun t ht => from_words (fun t _ => hH t) ht]
theorem from_by64 {V : List Int} (w : World) (hV : V.length = 4) :
    Calls Try.prog 20 #[.agg (by64 V).toArray] w fun e w' => e = .returned (.agg (u8s 32 (fromB (bat V)))) ∧ Below w.heap.size w w' := by
  rw [by64_u64s hV]; exact from_any _ _ w (fun _ h => u64s_get h)
theorem fromB_range (W : Nat → Int) (t : Nat) : 0 ≤ fromB W t ∧ fromB W t ≤ 255 := by unfold fromB; omega
theorem words_from_by64 {V : List Int} (w : World) (hV : V.length = 4) (hW : ∀ t, 0 ≤ bat V t ∧ bat V t < 18446744073709551616) :
    Calls Try.prog 18 #[.agg (u8s 32 (fromB (bat V)))] w fun e w' => e = .returned (.agg (by64 V).toArray) ∧ Below w.heap.size w w' := by
  refine (words_any _ _ w (u8s_size _ _) (fun _ h => u8s_get h) (fun t _ => fromB_range _ t)).mono ?_
  rintro e w' ⟨rfl, hb⟩
  refine ⟨?_, hb⟩
  rw [by64_u64s hV, wordsOf, u64s_congr fun t _ => words_from (hW t).1 (hW t).2]

theorem info29 : (Try.prog.info? 29).map (fun i => (i.zero, i.size, i.bytes)) = some (some (.int .u64 0), 1, 8) := by kernel_rfl
theorem eq24b {X : List Int} (hX : X.length = 32) (w : World) : (Op.equalIn 10000 24 (.agg (by8 X).toArray) (.agg (by8 X).toArray)).run Try.prog w = .ok true w := by
  rw [by8_u8s hX]; exact eq24 _ w
theorem eq30b {X : List Int} (hX : X.length = 4) (w : World) : (Op.equalIn 10000 30 (.agg (by64 X).toArray) (.agg (by64 X).toArray)).run Try.prog w = .ok true w := by
  rw [by64_u64s hX]
  obtain ⟨i0, hi, -⟩ := info_parts info29
  have hc : Try.prog.cellsOf 29 = 1 := by kernel_rfl
  rw [run_equalIn_array w 9999 _ _ Try.underlying30 hi, hc, eqItems_same w 9998 Try.underlying29 Try.isAgg29 _ (bat X) (List.range 4) (fun i h => u64s_get (by simpa using h))]
theorem range_bel {w w' : World} {b o : Nat} {cs : List Value} (hb : Below w.heap.size w w') (h : w.rangeAt b o cs) : w'.rangeAt b o cs := fun j v hv => by
  rw [hb.cell (p := ⟨b, o + j, none⟩) (block_lt_of_cell (h j v hv))]; exact h j v hv
theorem Arr.range {w : World} {g ty : Nat} {cs : List Value} (h : Arr w g ty cs.toArray) : w.rangeAt g 0 cs := fun j v hv => by
  rw [Nat.zero_add, h.cell]; simpa using hv
end Go.Proofs.Ytfmjapopnomkkaa
