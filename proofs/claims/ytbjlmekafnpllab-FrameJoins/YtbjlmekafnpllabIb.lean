/- Layer frame, the document's answer: which frame counts; Join. -/
import Derived.Test.YtbjlmekafnpllabHa
import Derived.Test.YtbjlmekafnpllabFf
namespace Go.Proofs.Ytbjlmekafnpllab
open Go.RowKit
set_option linter.unusedVariables false
set_option linter.unusedSimpArgs false

theorem cnt_take_no {c s : Int} {fs : List Fr} {i : Nat} {f : Fr} (h : cnt c (fs.take i) s = none) (hf : fs[i]? = some f) (hno : (f.may && f.ch == c && f.seq == s) = false) : cnt c (fs.take (i + 1)) s = none := by
  rw [List.take_add_one, hf, Option.toList_some, cnt_snoc, h, hno]; rfl
theorem cnt_take_yes {c s : Int} {fs : List Fr} {i : Nat} {f : Fr} (h : cnt c (fs.take i) s = none) (hf : fs[i]? = some f) (hy : (f.may && f.ch == c && f.seq == s) = true) : cnt c fs s = some f := by
  have hi := (List.getElem?_eq_some_iff.1 hf).1
  have e : fs = fs.take i ++ (f :: fs.drop (i + 1)) := by
    conv => lhs; rw [← List.take_append_drop i fs, List.drop_eq_getElem_cons hi]
    rw [List.getElem?_eq_getElem hi] at hf; cases hf; rfl
  rw [e]
  unfold cnt at h ⊢
  rw [List.find?_append, h, Option.none_or, List.find?_cons, hy]

theorem resC {w : World} {tmps : Array Value} {g : Nat} {a b c d v : Value} (hp : tmps.getD 6 undef = .pointer (some ⟨g, 0, none⟩)) (he : tmps.getD 7 undef = v) (hA : Arr w g 25 #[a, b, c, d]) :
    (results Try.f35 tmps).run Try.prog w = .ok (.tuple #[.agg #[a, b, c, d], v]) w := by
  have c0 := hA.cell 0
  have c1 := hA.cell 1
  have c2 := hA.cell 2
  have c3 := hA.cell 3
  simp at c0 c1 c2 c3
  have hp' : tmps[6]?.getD undef = .pointer (some ⟨g, 0, none⟩) := by simpa using hp
  have he' : tmps[7]?.getD undef = v := by simpa using he
  simp [results, Try.results35, go_sem, hp', he', c0, c1, c2, c3]
set_option maxRecDepth 100000 in
set_option maxHeartbeats 2000000 in
theorem counts_any (c s : Int) (N : Nat) (sp : Option Addr) (n cap : Nat) (fs : List Fr) (w : World) (hF : FrS N w sp n cap fs) (hN : N ≤ w.heap.size) :
    Calls Try.prog 35 #[.int .u64 c, .slice sp n cap, .int .i64 s] w fun e w' => Below w.heap.size w w' ∧ ((cnt c fs s = none ∧ e = .returned (.tuple #[.agg #[.int .u64 0, .int .i64 0, .bool false, .slice none 0 0], .bool false])) ∨ ∃ f, cnt c fs s = some f ∧ e = .returned (.tuple #[f.val, .bool true])) := by
  have hsm := hF.small
  have hl := hF.len
  go_enter Try.func35, Try.ntmps35
  go_wp2
  go_loopw [8] (fun d wr => ∃ j : Nat, d = .int .i64 (j : Int) ∧ j ≤ n ∧ Hid (cnt c (fs.take j) s = none) ∧ Below w.heap.size w wr ∧ Arr wr w.heap.size 25 #[.int .u64 0, .int .i64 0, .bool false, .slice none 0 0])
    (fun d _ => n - (intOf d).toNat)
  case atStart => exact ⟨0, rfl, by omega, Hid.mk' rfl, alloc_bel' w _, Arr.new w 25 _⟩
  case round =>
    obtain ⟨j, rfl, hj, hno, hbl, hR⟩ := hrel
    have hsz := hbl.size
    have hRl := hR.lt
    by_cases hlt : j < n
    · have hI : (j : Int) < n := by omega
      have hFr := hF.below (hbl.mono hN)
      obtain ⟨f, hf⟩ : ∃ f, fs[j]? = some f := ⟨fs[j]'(by rw [← hl.out]; exact hlt), List.getElem?_eq_getElem _⟩
      obtain ⟨g, off, rfl, hgN, hc⟩ := hFr.at0 (by omega)
      obtain ⟨f0, f1, f2, f3⟩ := hc j f hf
      have hcl : ∀ u, Below wr.heap.size wr u → u.cell? ⟨g, off + j * 4, none⟩ = some (.int .u64 f.ch) ∧ u.cell? ⟨g, off + j * 4 + 1, none⟩ = some (.int .i64 f.seq) ∧ u.cell? ⟨g, off + j * 4 + 2, none⟩ = some (.bool f.last) ∧ u.cell? ⟨g, off + j * 4 + 3, none⟩ = some (.slice f.sp f.n f.cap) := fun u hu => by
        refine ⟨?_, ?_, ?_, ?_⟩ <;> (rw [World.cell?_of_block (w := wr) (hu.block g (by omega))]; assumption)
      have hfn := (hF.ok f (List.mem_of_getElem? hf)).body.small
      have hmay := refMayF_any f wr hfn
      have hnx : (f.may && f.ch == c && f.seq == s) = false → Hid (cnt c (fs.take (j + 1)) s = none) := fun h => Hid.mk' (cnt_take_no hno.out hf h)
      have hyx : (f.may && f.ch == c && f.seq == s) = true → Hid (cnt c fs s = some f) := fun h => Hid.mk' (cnt_take_yes hno.out hf h)
      clear hc hFr
      cases hm : f.may with
      | false =>
        rw [hm] at hmay
        have hnx := hnx (by simp [hm])
        go_wp2_with (go_at_call 20; go_must (refine hmay.mono ?_; rintro e w2 ⟨rfl, hb2⟩; have hs2 := hb2.size; obtain ⟨q0, q1, q2, q3⟩ := hcl w2 hb2; have hR2 := hR.below hb2 hRl))
        go_roundw
        case rel => exact ⟨j + 1, by go_num, by omega, hnx, hbl.trans (hb2.mono hsz), hR2⟩
        case measure => simp [intOf]; omega
      | true =>
        rw [hm] at hmay
        by_cases h1 : f.ch = c
        · have e1 : (f.ch == c) = true := by simpa using h1
          clear h1
          by_cases h2 : f.seq = s
          · have e2 : (f.seq == s) = true := by simpa using h2
            clear h2
            have hyx := hyx (by simp [hm, e1, e2])
            clear hnx
            go_wp2_with (first
              | (go_at_call 20; go_must (refine hmay.mono ?_; rintro e w2 ⟨rfl, hb2⟩; have hs2 := hb2.size; obtain ⟨q0, q1, q2, q3⟩ := hcl w2 hb2; have hR2 := hR.below hb2 hRl))
              | (refine wpList_store_arr (by rfl) 25 (.tmp 6) (.tmp 41) (by rfl) w.heap.size #[.int .u64 f.ch, .int .i64 f.seq, .bool f.last, .slice f.sp f.n f.cap] (by rfl) (by rfl) 25 _ hR2 size25F rfl (one4 _ _ _ _ _ _) ?_))
            exact bodyPost_ret (v := .tuple #[f.val, .bool true]) (resC rfl rfl (hR2.setRow _)) rfl ⟨below_row (hbl.trans (hb2.mono hsz)) (Nat.le_refl _) _, .inr ⟨f, hyx.out, rfl⟩⟩
          · have e2 : (f.seq == s) = false := by simpa using h2
            clear h2
            have hnx := hnx (by simp [e2])
            go_wp2_with (go_at_call 20; go_must (refine hmay.mono ?_; rintro e w2 ⟨rfl, hb2⟩; have hs2 := hb2.size; obtain ⟨q0, q1, q2, q3⟩ := hcl w2 hb2; have hR2 := hR.below hb2 hRl))
            go_roundw
            case rel => exact ⟨j + 1, by go_num, by omega, hnx, hbl.trans (hb2.mono hsz), hR2⟩
            case measure => simp [intOf]; omega
        · have e1 : (f.ch == c) = false := by simpa using h1
          clear h1
          have hnx := hnx (by simp [e1])
          go_wp2_with (go_at_call 20; go_must (refine hmay.mono ?_; rintro e w2 ⟨rfl, hb2⟩; have hs2 := hb2.size; obtain ⟨q0, q1, q2, q3⟩ := hcl w2 hb2; have hR2 := hR.below hb2 hRl))
          go_roundw
          case rel => exact ⟨j + 1, by go_num, by omega, hnx, hbl.trans (hb2.mono hsz), hR2⟩
          case measure => simp [intOf]; omega
    · obtain rfl : j = n := by omega
      have hI : ¬ (j : Int) < j := by omega
      have hnn := Hid.mk' (show cnt c fs s = none by have := hno.out; rwa [hl.out, List.take_length] at this)
      go_wp2_with (refine wpList_store_arr (by rfl) 25 (.tmp 6) (.tmp 42) (by rfl) w.heap.size #[.int .u64 0, .int .i64 0, .bool false, .slice none 0 0] (by rfl) (by rfl) 25 _ hR size25F rfl (one4 _ _ _ _ _ _) ?_)
      exact bodyPost_ret (v := .tuple #[.agg #[.int .u64 0, .int .i64 0, .bool false, .slice none 0 0], .bool false]) (resC rfl rfl (hR.setRow _)) rfl ⟨below_row hbl (Nat.le_refl _) _, .inl ⟨hnn.out, rfl⟩⟩
end Go.Proofs.Ytbjlmekafnpllab
