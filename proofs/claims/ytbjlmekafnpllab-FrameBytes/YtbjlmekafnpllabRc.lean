/- Layer rlp: bounded, cut, bytes.Clone, bytes.Equal, number. -/
import Derived.Test.YtbjlmekafnpllabRb
namespace Go.Proofs.Ytbjlmekafnpllab
open Go.RowKit
set_option linter.unusedVariables false
set_option linter.unusedSimpArgs false

/-- What leaves the recursions. -/
def wrong (e : Int) : List PanicEntry := [{ v := .iface 96 (.agg #[.int .i64 e]), recovered := false }]

set_option maxRecDepth 100000 in
set_option maxHeartbeats 400000 in
theorem bounded_ok (sp : Option Addr) (n cap : Nat) (w : World) (h : ¬ (65536 : Int) < n) :
    Calls Try.prog 56 #[.slice sp n cap] w fun e w' => e = .returned (.slice sp n cap) ∧ w' = w := by
  go_enter Try.func56, Try.ntmps56
  go_wp2
  go_ret
  exact ⟨rfl, rfl⟩
set_option maxRecDepth 100000 in
set_option maxHeartbeats 400000 in
theorem bounded_no (sp : Option Addr) (n cap : Nat) (w : World) (h : (65536 : Int) < n) :
    Calls Try.prog 56 #[.slice sp n cap] w fun e w' => e = .panicked (wrong 2) ∧ w' = w := by
  go_enter Try.func56, Try.ntmps56
  go_wp2
  exact ⟨rfl, rfl, rfl⟩

/-- The address of a part. -/
def spAt (sp : Option Addr) (l m : Nat) : Option Addr := if m = l then sp else sp.map (·.add l)
theorem run_slice_lhm (sp : Option Addr) (n cap l h m : Nat) (hlh : l ≤ h) (hhm : h ≤ m) (hm : m ≤ cap) (u : World) :
    (Instr.slice 23 (.slice sp n cap) (some (.int .i64 l)) (some (.int .i64 h)) (some (.int .i64 m))).run Try.prog u = .ok (.slice (spAt sp l m) (h - l) (m - l)) u := by
  simp [Instr.slice, Instr.sliceBounds, Instr.sliceBound, asIntOf, run_underlying Try.underlying23, Try.sizeOf5, hlh, hhm, hm, go_sem, spAt]
theorem run_slice_hm (sp : Option Addr) (n cap h m : Nat) (hhm : h ≤ m) (hm : m ≤ cap) (u : World) :
    (Instr.slice 23 (.slice sp n cap) none (some (.int .i64 h)) (some (.int .i64 m))).run Try.prog u = .ok (.slice (spAt sp 0 m) h m) u := by
  simp [Instr.slice, Instr.sliceBounds, Instr.sliceBound, asIntOf, run_underlying Try.underlying23, Try.sizeOf5, hhm, hm, go_sem, spAt]
theorem BS.part {N : Nat} {w : World} {sp : Option Addr} {n cap : Nat} {L : List Int} (h : BS N w sp n cap L) (l k m : Nat) (hk : l + k ≤ n) (hkm : l + k ≤ m) (hm : m ≤ cap) : BS N w (spAt sp l m) k (m - l) ((L.drop l).take k) := by
  have hl := h.len.out
  have hs := h.small
  have hb := h.big
  refine ⟨show _ = _ by rw [List.length_take, List.length_drop]; omega, fun e => ?_, by omega, by omega, by omega, fun h0 => ?_, (h.bts.drop _).take _⟩
  · cases sp with
    | none => have := h.nil rfl; omega
    | some a => unfold spAt at e; split at e <;> simp at e
  · obtain ⟨b, off, rfl, hbN, hB⟩ := h.at0 (by omega)
    refine ⟨b, off + l, ?_, hbN, fun t ht => ?_⟩
    · unfold spAt; rw [if_neg (by omega), Option.map_some, Addr.add_mid]
    · rw [Nat.add_assoc, hB (l + t) (by omega)]
      unfold bat
      rw [List.getD_eq_getElem?_getD, List.getD_eq_getElem?_getD, List.getElem?_take_of_lt ht, List.getElem?_drop]

set_option maxRecDepth 100000 in
set_option maxHeartbeats 400000 in
theorem cut_ok (N : Nat) (sp : Option Addr) (n cap k : Nat) (L : List Int) (w : World) (hS : BS N w sp n cap L) (hk : k ≤ n) :
    Calls Try.prog 66 #[.slice sp n cap, .int .i64 k] w fun e w' => ∃ sp1 sp2, e = .returned (.tuple #[.slice sp1 k k, .slice sp2 (n - k) (n - k)]) ∧ BS N w' sp1 k k (L.take k) ∧ BS N w' sp2 (n - k) (n - k) (L.drop k) ∧ Below w.heap.size w w' := by
  have hc := hS.le
  have e1 := run_slice_hm sp n cap k k (Nat.le_refl _) (by omega)
  have e2 := run_slice_lhm sp n cap k n n hk (Nat.le_refl _) hc
  have hkI : ¬ (n : Int) < k := by omega
  have p1 := hS.part 0 k k (by omega) (by omega) (by omega)
  have p2 := hS.part k (n - k) n (by omega) (by omega) (by omega)
  go_enter Try.func66, Try.ntmps66
  go_wp2
  go_quiet (fail)
  go_wp2
  go_ret2
  refine ⟨_, _, rfl, ?_, ?_, ?_⟩
  · simpa using p1.below (w' := w.drewN nq) ⟨rfl, rfl, rfl, Nat.le_refl _, fun _ _ => rfl⟩
  · have e : List.take (n - k) (List.drop k L) = List.drop k L := List.take_of_length_le (by rw [List.length_drop, ← hS.len.out]; omega)
    rw [e] at p2
    exact p2.below (w' := w.drewN nq) ⟨rfl, rfl, rfl, Nat.le_refl _, fun _ _ => rfl⟩
  · exact ⟨rfl, rfl, rfl, Nat.le_refl _, fun _ _ => rfl⟩

set_option maxRecDepth 100000 in
set_option maxHeartbeats 400000 in
theorem cut_no (sp : Option Addr) (n cap : Nat) (k : Nat) (w : World) (hk : (n : Int) < k) :
    Calls Try.prog 66 #[.slice sp n cap, .int .i64 k] w fun e w' => e = .panicked (wrong 7) ∧ w' = w := by
  go_enter Try.func66, Try.ntmps66
  go_wp2
  exact ⟨rfl, rfl, rfl⟩

set_option maxRecDepth 100000 in
set_option maxHeartbeats 400000 in
/-- bytes.Clone. -/
theorem clone_any (sp : Option Addr) (n cap : Nat) (L : List Int) (N : Nat) (w : World) (hS : BS N w sp n cap L) :
    Calls Try.prog 37 #[.slice sp n cap] w fun e w' => ∃ v, e = .returned v ∧ w'.ownsRow w.heap.size 5 1 v n (by8 L) ∧ Below w.heap.size w w' := by
  have hn := hS.len
  have hsm := hS.small
  have q22 : ∀ (w : World) (a : Option Addr) (n c n' c' : Nat), (binOp .eql 23 (.slice a n c) (.slice none n' c')).run Try.prog w = .ok (.bool a.isNone) w := fun w a n c n' c' => Lib.run_eql_slice_nil w _ _ a n c n' c' Try.underlying23
  cases sp with
  | none =>
    obtain ⟨rfl, rfl⟩ := hS.nil rfl
    go_enter Try.func37, Try.ntmps37
    go_wp2
    go_ret
    obtain rfl : L = [] := List.eq_nil_of_length_eq_zero hn.out.symm
    exact ⟨_, rfl, World.ownsRow_nil _ _ _ _, Below.refl _ _⟩
  | some ad =>
    have hlit : (w.alloc (.cells #[] 5)).ownsRow w.heap.size 5 1 (.slice (some ⟨w.heap.size, 0, none⟩) 0 0) 0 (by8 []) := World.ownsRow_lit _ _ _ (Nat.le_refl _) (by unfold maxLen; omega) rfl
    have hS' := (hS.here.below ((Below.refl _ _).alloc (Nat.le_refl _) (.cells #[] 5))).sl
    go_enter Try.func37, Try.ntmps37
    go_wp2_with (at_builtin; go_must (refine append_bytes (by rfl) (.tmp 5) (.tmp 6) (by rfl) w.heap.size _ 0 [] (by rfl) hlit (some ad) n cap L (by rfl) hn.out (fun e => by cases e) hS' (by omega) (by simp) ?_; intro v1 w1 hown1 hg1))
    go_ret
    refine ⟨v1, rfl, ?_, ((Below.refl _ _).alloc (Nat.le_refl _) _).grown hg1 (by simp) (fun k e => by simp [Value.ownBlock] at e; omega)⟩
    simpa using hown1

theorem conv_bytes (sp : Option Addr) (n cap : Nat) (L : List Int) (w : World) (hn : n = L.length) (hnil : sp = none → n = 0 ∧ cap = 0) (hS : SlL w sp L) :
    (convert 23 9 (.slice sp n cap)).run Try.prog w = .ok (.string (strOfNums L)) w := by
  subst hn
  cases sp with
  | none =>
    obtain ⟨h1, rfl⟩ := hnil rfl
    obtain rfl : L = [] := List.eq_nil_of_length_eq_zero h1
    exact run_convert_bytes_nil w 23 5 Try.underlying23 Try.underlying5 0 0 9 Try.underlying9
  | some ad =>
    by_cases h0 : 0 < L.length
    · obtain ⟨b, off, e, hB⟩ := hS h0
      obtain rfl := Option.some.inj e
      exact run_convert_bytes_arg w 23 5 Try.underlying23 Try.underlying5 b off L.length cap L rfl hB 9 Try.underlying9
    · obtain rfl : L = [] := List.eq_nil_of_length_eq_zero (by omega)
      rw [run_convert_bytes_string w 23 9 5 _ _ cap Try.underlying23 Try.underlying5 Try.underlying9]
      have hl : (loadCells ad 0).run Try.prog w = .ok ((([] : List Int).map (Value.int .u8)).toArray) w := by simp [loadCells, loadCellsFrom]
      have := run_bytesToString w ad 0 cap [] hl
      exact this
theorem str_inj {L M : List Int} (hL : Bts L) (hM : Bts M) (h : (strOfNums L).toList = (strOfNums M).toList) : L = M := by
  have h1 : (L.map fun n => UInt8.ofNat n.toNat) = M.map fun n => UInt8.ofNat n.toNat := by
    rw [← strOfNums_data, ← strOfNums_data, ← ByteArray.toList_eq, ← ByteArray.toList_eq, h]
  have hl : L.length = M.length := by simpa using congrArg List.length h1
  refine List.ext_getElem hl fun i h2 h3 => ?_
  have h4 : (L.map fun n => UInt8.ofNat n.toNat)[i]? = (M.map fun n => UInt8.ofNat n.toNat)[i]? := by rw [h1]
  rw [List.getElem?_map, List.getElem?_map, List.getElem?_eq_getElem h2, List.getElem?_eq_getElem h3] at h4
  simp only [Option.map_some, Option.some.injEq] at h4
  have a := hL _ (List.getElem_mem h2)
  have b := hM _ (List.getElem_mem h3)
  have h5 := congrArg UInt8.toNat h4
  simp only [UInt8.toNat_ofNat'] at h5
  omega
theorem str_eq {L M : List Int} (hL : Bts L) (hM : Bts M) : ((strOfNums L).toList == (strOfNums M).toList) = decide (L = M) := by
  by_cases h : L = M
  · subst h; simp
  · rw [decide_eq_false h]
    exact beq_eq_false_iff_ne.2 fun e => h (str_inj hL hM e)

set_option maxRecDepth 100000 in
set_option maxHeartbeats 400000 in
theorem same01_any (sp sp' : Option Addr) (n n' cap cap' : Nat) (L M : List Int) (N N' : Nat) (w : World) (hS : BS N w sp n cap L) (hS' : BS N' w sp' n' cap' M) :
    Calls Try.prog 12 #[.slice sp n cap, .slice sp' n' cap'] w fun e w' => e = .returned (.bool (decide (L = M))) ∧ w' = w := by
  have c1 := conv_bytes sp n cap L w hS.len.out hS.nil hS.sl
  have c2 := conv_bytes sp' n' cap' M w hS'.len.out hS'.nil hS'.sl
  have E := Hid.mk' (str_eq hS.bts hS'.bts)
  go_enter Try.func12, Try.ntmps12
  go_wp2
  go_ret
  exact ⟨by rw [← E.out]; rfl, rfl⟩
set_option maxRecDepth 100000 in
set_option maxHeartbeats 400000 in
/-- The reference's Copy. -/
theorem copy01_any (sp : Option Addr) (n cap : Nat) (L : List Int) (N : Nat) (w : World) (hS : BS N w sp n cap L) :
    Calls Try.prog 21 #[.slice sp n cap] w fun e w' => ∃ v, e = .returned v ∧ w'.ownsRow w.heap.size 5 1 v n (by8 L) ∧ Below w.heap.size w w' := by
  have hn := hS.len
  have hsm := hS.small
  have hni := hS.nil
  have hlit : (w.alloc (.cells #[] 5)).ownsRow w.heap.size 5 1 (.slice (some ⟨w.heap.size, 0, none⟩) 0 0) 0 (by8 []) := World.ownsRow_lit _ _ _ (Nat.le_refl _) (by unfold maxLen; omega) rfl
  have hS' := (hS.here.below ((Below.refl _ _).alloc (Nat.le_refl _) (.cells #[] 5))).sl
  go_enter Try.func21, Try.ntmps21
  go_wp2_with (at_builtin; go_must (refine append_bytes (by rfl) (.tmp 3) (.tmp 4) (by rfl) w.heap.size _ 0 [] (by rfl) hlit sp n cap L (by rfl) hn.out hni hS' (by omega) (by simp) ?_; intro v1 w1 hown1 hg1))
  go_ret
  refine ⟨v1, rfl, ?_, ((Below.refl _ _).alloc (Nat.le_refl _) _).grown hg1 (by simp) (fun k e => by simp [Value.ownBlock] at e; omega)⟩
  simpa using hown1
end Go.Proofs.Ytbjlmekafnpllab
