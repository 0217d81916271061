/- Layer interp: what SHash does, by the document, where it does. -/
import Derived.Test.YtmljihggooaboaaW41
import Derived.Handy
import Derived.BigQuiet
import Derived.BigRegion
import Derived.Laws.MakeOwn
import Derived.Laws.CopyOwn
namespace Go.Proofs.Ytmljihggooaboaa
open Go.RowKit
set_option maxRecDepth 100000
set_option linter.unusedVariables false
set_option linter.unusedSimpArgs false

variable {gr gw n : Nat} {p0 p1 kv : Value} {W : List Int} {fu st va : Int}
theorem DunI.cw {en : Int} {w : World} (h : DunI gr gw n p0 p1 kv W fu st en va w) {t : Nat} (ht : t < n) : w.cell? ⟨gw, t, none⟩ = some (.int .u64 (W.getD t 0)) := (h.aw.cell t).trans (uA_get (by rw [h.len.out]; exact ht))
set_option maxHeartbeats 4000000 in
theorem dhash_1 {i ta frm y : Int} {ka s c : Nat} (w : World) (hI : DunI gr gw n p0 p1 kv W fu st 0 va w) (hi : 0 ≤ i ∧ i ≤ 256) (hi2 : i < 256) (hta : ta = (ka : Int)) (hk : ka + 4 ≤ n) (hf : U64 frm) (hy : y = (s : Int)) (hs : s ≤ 128) (hc : c = (s + 7) / 8) (hc0 : 0 < c) (hfr : c = 0 ∨ frm + c ≤ n) :
    Calls Try.prog 52 #[.pointer (some ⟨gr, 0, none⟩), .int .i64 i, .int .u64 ta, .int .u64 frm, .int .u64 y] w fun e w' => e = .returned (.tuple #[]) ∧ DunI gr gw n p0 p1 kv (put4 W ka (wsu (tgL i ++ fbL (fun t => W.getD (frm.toNat + t) 0) s))) fu st 0 va w' ∧ Ch (fun k => k = gr ∨ k = gw) w w' := by
  subst hta hy
  have hn := hI.n10
  have hf0 := hf.1
  have hh1 := hid (dhas_any (x := frm) (y := (c : Int)) (c := c) w hI hf rfl (by omega))
  rw [decide_eq_true hfr] at hh1
  have hh2 := hid (dhas_any (x := (ka : Int)) (y := 4) (c := 4) w hI (by unfold U64; omega) rfl (by omega))
  rw [decide_eq_true (show (4 = 0 ∨ (ka : Int) + (4 : Nat) ≤ n) by omega)] at hh2
  have a0 : ¬ (128 : Int) < s := by omega
  have a1 : IntKind.u64.wrap ((s : Int) + 7) = (s : Int) + 7 := wrap64_of (by omega) (by omega)
  have a2 : IntKind.i64.wrap ((s : Int) + 7) = (s : Int) + 7 := by rw [IntKind.wrap_i64]; omega
  have hc8 : ((s : Int) + 7) / 8 = (c : Int) := by omega
  have hc9 : Int.tdiv ((s : Int) + 7) 8 = (c : Int) := by rw [Int.tdiv_eq_ediv_of_nonneg (by omega)]; exact hc8
  have hWU : ∀ t, U64 (W.getD (frm.toNat + t) 0) := fun t => U64_getD hI.wU _
  have hPl : (tgL i ++ fbL (fun t => W.getD (frm.toNat + t) 0) s).length = (tgL i).length + s := by simp [fbL_len]
  have hPb : Bts (tgL i ++ fbL (fun t => W.getD (frm.toNat + t) 0) s) := btsApp (tgL_bts hi.1) (fbL_bts _ _)
  have htl := tgL_len i
  have hDw := hid fun (u : World) (hb : Below w.heap.size w u) => hI.bl hb
  have hmk : mkL (256 + i) = some (tgL i) := by unfold mkL tgL; rw [if_neg (by omega), if_pos (by omega), if_neg (by omega)]; congr 2; omega
  have i1 : IntKind.i64.wrap (256 + i) = 256 + i := by rw [IntKind.wrap_i64]; omega
  have i2 : IntKind.u32.wrap (256 + i) = 256 + i := by simp only [IntKind.wrap, IntKind.bits, IntKind.signed]; simp; omega
  obtain ⟨kf, hkf⟩ : ∃ kf : Nat, frm = kf := ⟨frm.toNat, by omega⟩
  subst hkf
  have hfn : kf + c ≤ n := by omega
  rw [Int.toNat_natCast] at *
  have a3 : IntKind.u64.wrap (c : Int) = c := wrap64_of (by omega) (by omega)
  have a5 : IntKind.u64.wrap ((kf : Int) + c) = ((kf + c : Nat) : Int) := by rw [wrap64_of (by omega) (by omega)]; omega
  have a6 : ¬ n = kf := by omega
  have a7 : ((kf + c : Nat) : Int) ≤ n := by omega
  have a8 : (kf : Int) ≤ ((kf + c : Nat) : Int) := by omega
  have a9 : kf + c - kf = c := by omega
  have c3 := hI.ar.cell 3
  have e0 : decide ((0 : Int) < (c : Int)) = true := by simp; omega
  have hsm := hid (summed_ok (i := (256 + i)) (P := tgL i) (sp := some ⟨gw, kf, none⟩) (c := c) (cap := n - kf) (s := s) (y := (s : Int)) (W := fun t => W.getD (kf + t) 0) w (by omega) hmk rfl hs hWU (by omega) (by omega) (by omega) (fun _ => ⟨gw, kf, rfl, hI.aw.lt, fun t ht => hI.cw (by omega)⟩))
  generalize hLL : (tgL i ++ fbL (fun t => W.getD (kf + t) 0) s) = LL at *
  replace hLL := hid hLL
  replace hPl := hid hPl
  replace hc := hid hc
  replace hc0 := hid hc0
  have htl2 := hid htl
  clear hWU hfr htl hmk
  go_enter Try.func52, Try.ntmps52
  go_upto_region 11 with (first
    | (go_at_call 50; have hq := hh1; clear hh1; go_must (refine hq.out.mono ?_; rintro e w2 ⟨rfl, h⟩; replace h := h.symm; subst h))
    | (go_at_call 50; go_must (refine hh2.out.mono ?_; rintro e w2 ⟨rfl, h⟩; replace h := h.symm; subst h))
    | (go_at_call 67; go_must (refine hsm.out.mono ?_; rintro e w3 ⟨v3, rfl, ho3, hb3⟩; obtain ⟨sp3, cp3, rfl, hB3, -⟩ := own_bs ho3 hPb (by have := htl2.out; omega)))
    | (go_at_call 15; go_must (refine (refSum_any sp3 _ cp3 LL w3 hPl.out.symm hB3.nil hB3.sl (by have := htl2.out; omega)).mono ?_; rintro e w4 ⟨rfl, hb4⟩))
    | (go_at_call 68; go_must (refine (refWords_any (sha LL) (shaB (bat LL) LL.length) w4 (sha_get LL) (fun t _ => shaB_range _ _ t)).mono ?_; rintro e w5 ⟨rfl, hb5⟩; rw [wordsOf_four]))
    | (refine wpList_store_new w5 _ 126 (by rfl) 126 (.tmp 15) (.tmp 65) (by rfl) (four (wsu LL)).toArray (by rfl) (by rfl) s126 (by rfl) (all_oneCell_toArray (four_one _)) ?_))
  have hbW : Below w.heap.size w w5 := (hb3.trans (hb4.mono hb3.size)).trans (hb5.mono (by have := hb3.size; have := hb4.size; omega))
  have hbV := hbW.alloc hbW.size (.cells (four (wsu LL)).toArray 126)
  have hDV := hDw.out _ hbV
  have AF := Arr.new w5 126 (four (wsu LL)).toArray
  have hs5 := hbW.size
  have hgwl := hI.aw.lt
  have hgrl := hI.ar.lt
  clear hsm hh2 hDw ho3 hB3 hb3 hb4 hb5 hI
  generalize hVV : w5.alloc (.cells (four (wsu LL)).toArray 126) = T at *
  generalize hgg : w5.heap.size = gt at *
  clear hVV hgg
  go_upto_region 12 with fail
  go_loopw [16] (fun q wr => ∃ (j : Nat), q = .int .i64 (j : Int) ∧ j ≤ 4 ∧ DunI gr gw n p0 p1 kv (pt W ka (wsu LL) j) fu st 0 va wr ∧ Ch (fun k => k = gw) T wr) (fun q _ => 4 - (intOf q).toNat)
  case atStart => exact ⟨0, rfl, by omega, hDV, Ch.refl _ _⟩
  case round =>
    obtain ⟨j, rfl, hj, hDj, hcj⟩ := hrel
    by_cases hlt : j < 4
    · have hlt' : (j : Int) < 4 := by omega
      have s1 : wr.cell? ⟨gr, 3, none⟩ = some (.slice (some ⟨gw, 0, none⟩) n n) := hDj.ar.cell 3
      have s2 : wr.cell? ⟨gt, j, none⟩ = some (.int .u64 (wsu LL j)) := ((hcj.arr AF (by omega)).cell j).trans (four_get _ j hlt)
      have b1 : IntKind.u64.wrap (j : Int) = j := wrap64_of (by omega) (by omega)
      have b2 : IntKind.u64.wrap ((ka : Int) + (j : Int)) = ((ka + j : Nat) : Int) := by rw [wrap64_of (by omega) (by omega)]; omega
      have b3 : ((ka + j : Nat) : Int) < n := by omega
      have vc := (hDj.aw.cell (ka + j)).trans (uA_get (by rw [hDj.len.out]; omega))
      have vf := hDj.aw.frozen (ka + j)
      have hD2 : DunI gr gw n p0 p1 kv (pt W ka (wsu LL) (j + 1)) fu st 0 va (wr.setCell ⟨gw, ka + j, none⟩ (.int .u64 (wsu LL j))).drew := ⟨(hDj.ar.setOther _ hDj.ne).drew, by show Arr _ gw 30 (uA ((pt W ka (wsu LL) j).set (ka + j) (wsu LL j))); rw [← uA_set]; exact (hDj.aw.set (ka + j) _).drew, hDj.ne, hid (by rw [pt_len, ← pt_len W ka (wsu LL) j]; exact hDj.len.out), hDj.n10, U_set hDj.wU (wsu_u _ hlt)⟩
      have hc2 := (hcj.st (g := gw) (j := ka + j) (.int .u64 (wsu LL j)) (fun _ => rfl)).dw
      have hne : gt ≠ gw := by omega
      have hne2 : gr ≠ gw := hDj.ne
      clear hDj hcj
      generalize (pt W ka (wsu LL) j).getD (ka + j) 0 = old at *
      generalize wsu LL j = wj at *
      generalize hkj : ka + j = kj at *
      go_upto_region 14 with fail
      go_region
      go_wp2_with fail
      go_roundw
      case rel => exact ⟨j + 1, by go_num, by omega, hD2, hc2⟩
      case measure => simp [intOf]; omega
    · obtain rfl : j = 4 := by omega
      have hfin := hid (And.intro hDj ((Ch.ob (S := fun k => k = gr ∨ k = gw) hbV).trans (hcj.imp fun k hk => .inr hk)))
      clear hDj hcj
      go_wp2_with fail
      go_end0
      exact ⟨rfl, hfin.out⟩
set_option maxHeartbeats 4000000 in
theorem dhash_2 {i ta frm y : Int} {ka s c : Nat} (w : World) (hI : DunI gr gw n p0 p1 kv W fu st 0 va w) (hi : 0 ≤ i ∧ i ≤ 256) (hi2 : i < 256) (hta : ta = (ka : Int)) (hk : ka + 4 ≤ n) (hf : U64 frm) (hy : y = (s : Int)) (hs : s ≤ 128) (hc : c = (s + 7) / 8) (hc0 : c = 0) (hfr : c = 0 ∨ frm + c ≤ n) :
    Calls Try.prog 52 #[.pointer (some ⟨gr, 0, none⟩), .int .i64 i, .int .u64 ta, .int .u64 frm, .int .u64 y] w fun e w' => e = .returned (.tuple #[]) ∧ DunI gr gw n p0 p1 kv (put4 W ka (wsu (tgL i ++ fbL (fun t => W.getD (frm.toNat + t) 0) s))) fu st 0 va w' ∧ Ch (fun k => k = gr ∨ k = gw) w w' := by
  subst hta hy
  have hn := hI.n10
  have hf0 := hf.1
  have hh1 := hid (dhas_any (x := frm) (y := (c : Int)) (c := c) w hI hf rfl (by omega))
  rw [decide_eq_true hfr] at hh1
  have hh2 := hid (dhas_any (x := (ka : Int)) (y := 4) (c := 4) w hI (by unfold U64; omega) rfl (by omega))
  rw [decide_eq_true (show (4 = 0 ∨ (ka : Int) + (4 : Nat) ≤ n) by omega)] at hh2
  have a0 : ¬ (128 : Int) < s := by omega
  have a1 : IntKind.u64.wrap ((s : Int) + 7) = (s : Int) + 7 := wrap64_of (by omega) (by omega)
  have a2 : IntKind.i64.wrap ((s : Int) + 7) = (s : Int) + 7 := by rw [IntKind.wrap_i64]; omega
  have hc8 : ((s : Int) + 7) / 8 = (c : Int) := by omega
  have hc9 : Int.tdiv ((s : Int) + 7) 8 = (c : Int) := by rw [Int.tdiv_eq_ediv_of_nonneg (by omega)]; exact hc8
  have hWU : ∀ t, U64 (W.getD (frm.toNat + t) 0) := fun t => U64_getD hI.wU _
  have hPl : (tgL i ++ fbL (fun t => W.getD (frm.toNat + t) 0) s).length = (tgL i).length + s := by simp [fbL_len]
  have hPb : Bts (tgL i ++ fbL (fun t => W.getD (frm.toNat + t) 0) s) := btsApp (tgL_bts hi.1) (fbL_bts _ _)
  have htl := tgL_len i
  have hDw := hid fun (u : World) (hb : Below w.heap.size w u) => hI.bl hb
  have hmk : mkL (256 + i) = some (tgL i) := by unfold mkL tgL; rw [if_neg (by omega), if_pos (by omega), if_neg (by omega)]; congr 2; omega
  have i1 : IntKind.i64.wrap (256 + i) = 256 + i := by rw [IntKind.wrap_i64]; omega
  have i2 : IntKind.u32.wrap (256 + i) = 256 + i := by simp only [IntKind.wrap, IntKind.bits, IntKind.signed]; simp; omega
  obtain rfl : s = 0 := by omega
  subst hc0
  have a4 : IntKind.u64.wrap (7 : Int) = 7 := by rw [wrap64_of (by omega) (by omega)]
  have a5 : IntKind.i64.wrap (7 : Int) = 7 := by rw [IntKind.wrap_i64]; rfl
  have hc0 : (0 : Nat) = 0 := rfl
  have hsm := hid (summed_ok (i := (256 + i)) (P := tgL i) (sp := none) (c := 0) (cap := 0) (s := 0) (y := ((0 : Nat) : Int)) (W := fun t => W.getD (frm.toNat + t) 0) w (by omega) hmk rfl hs hWU (by omega) (by omega) (by omega) (fun h => by omega))
  generalize hLL : (tgL i ++ fbL (fun t => W.getD (frm.toNat + t) 0) 0) = LL at *
  replace hLL := hid hLL
  replace hPl := hid hPl
  replace hc := hid hc
  replace hc0 := hid hc0
  have htl2 := hid htl
  clear hWU hfr htl hmk
  go_enter Try.func52, Try.ntmps52
  go_upto_region 11 with (first
    | (go_at_call 50; have hq := hh1; clear hh1; go_must (refine hq.out.mono ?_; rintro e w2 ⟨rfl, h⟩; replace h := h.symm; subst h))
    | (go_at_call 50; go_must (refine hh2.out.mono ?_; rintro e w2 ⟨rfl, h⟩; replace h := h.symm; subst h))
    | (go_at_call 67; go_must (refine hsm.out.mono ?_; rintro e w3 ⟨v3, rfl, ho3, hb3⟩; obtain ⟨sp3, cp3, rfl, hB3, -⟩ := own_bs ho3 hPb (by have := htl2.out; omega)))
    | (go_at_call 15; go_must (refine (refSum_any sp3 _ cp3 LL w3 hPl.out.symm hB3.nil hB3.sl (by have := htl2.out; omega)).mono ?_; rintro e w4 ⟨rfl, hb4⟩))
    | (go_at_call 68; go_must (refine (refWords_any (sha LL) (shaB (bat LL) LL.length) w4 (sha_get LL) (fun t _ => shaB_range _ _ t)).mono ?_; rintro e w5 ⟨rfl, hb5⟩; rw [wordsOf_four]))
    | (refine wpList_store_new w5 _ 126 (by rfl) 126 (.tmp 15) (.tmp 65) (by rfl) (four (wsu LL)).toArray (by rfl) (by rfl) s126 (by rfl) (all_oneCell_toArray (four_one _)) ?_))
  have hbW : Below w.heap.size w w5 := (hb3.trans (hb4.mono hb3.size)).trans (hb5.mono (by have := hb3.size; have := hb4.size; omega))
  have hbV := hbW.alloc hbW.size (.cells (four (wsu LL)).toArray 126)
  have hDV := hDw.out _ hbV
  have AF := Arr.new w5 126 (four (wsu LL)).toArray
  have hs5 := hbW.size
  have hgwl := hI.aw.lt
  have hgrl := hI.ar.lt
  clear hsm hh2 hDw ho3 hB3 hb3 hb4 hb5 hI
  generalize hVV : w5.alloc (.cells (four (wsu LL)).toArray 126) = T at *
  generalize hgg : w5.heap.size = gt at *
  clear hVV hgg
  go_upto_region 12 with fail
  go_loopw [16] (fun q wr => ∃ (j : Nat), q = .int .i64 (j : Int) ∧ j ≤ 4 ∧ DunI gr gw n p0 p1 kv (pt W ka (wsu LL) j) fu st 0 va wr ∧ Ch (fun k => k = gw) T wr) (fun q _ => 4 - (intOf q).toNat)
  case atStart => exact ⟨0, rfl, by omega, hDV, Ch.refl _ _⟩
  case round =>
    obtain ⟨j, rfl, hj, hDj, hcj⟩ := hrel
    by_cases hlt : j < 4
    · have hlt' : (j : Int) < 4 := by omega
      have s1 : wr.cell? ⟨gr, 3, none⟩ = some (.slice (some ⟨gw, 0, none⟩) n n) := hDj.ar.cell 3
      have s2 : wr.cell? ⟨gt, j, none⟩ = some (.int .u64 (wsu LL j)) := ((hcj.arr AF (by omega)).cell j).trans (four_get _ j hlt)
      have b1 : IntKind.u64.wrap (j : Int) = j := wrap64_of (by omega) (by omega)
      have b2 : IntKind.u64.wrap ((ka : Int) + (j : Int)) = ((ka + j : Nat) : Int) := by rw [wrap64_of (by omega) (by omega)]; omega
      have b3 : ((ka + j : Nat) : Int) < n := by omega
      have vc := (hDj.aw.cell (ka + j)).trans (uA_get (by rw [hDj.len.out]; omega))
      have vf := hDj.aw.frozen (ka + j)
      have hD2 : DunI gr gw n p0 p1 kv (pt W ka (wsu LL) (j + 1)) fu st 0 va (wr.setCell ⟨gw, ka + j, none⟩ (.int .u64 (wsu LL j))).drew := ⟨(hDj.ar.setOther _ hDj.ne).drew, by show Arr _ gw 30 (uA ((pt W ka (wsu LL) j).set (ka + j) (wsu LL j))); rw [← uA_set]; exact (hDj.aw.set (ka + j) _).drew, hDj.ne, hid (by rw [pt_len, ← pt_len W ka (wsu LL) j]; exact hDj.len.out), hDj.n10, U_set hDj.wU (wsu_u _ hlt)⟩
      have hc2 := (hcj.st (g := gw) (j := ka + j) (.int .u64 (wsu LL j)) (fun _ => rfl)).dw
      have hne : gt ≠ gw := by omega
      have hne2 : gr ≠ gw := hDj.ne
      clear hDj hcj
      generalize (pt W ka (wsu LL) j).getD (ka + j) 0 = old at *
      generalize wsu LL j = wj at *
      generalize hkj : ka + j = kj at *
      go_upto_region 14 with fail
      go_region
      go_wp2_with fail
      go_roundw
      case rel => exact ⟨j + 1, by go_num, by omega, hD2, hc2⟩
      case measure => simp [intOf]; omega
    · obtain rfl : j = 4 := by omega
      have hfin := hid (And.intro hDj ((Ch.ob (S := fun k => k = gr ∨ k = gw) hbV).trans (hcj.imp fun k hk => .inr hk)))
      clear hDj hcj
      go_wp2_with fail
      go_end0
      exact ⟨rfl, hfin.out⟩
set_option maxHeartbeats 4000000 in
theorem dhash_3 {i ta frm y : Int} {ka s c : Nat} (w : World) (hI : DunI gr gw n p0 p1 kv W fu st 0 va w) (hi : 0 ≤ i ∧ i ≤ 256) (hi2 : ¬ i < 256) (hta : ta = (ka : Int)) (hk : ka + 4 ≤ n) (hf : U64 frm) (hy : y = (s : Int)) (hs : s ≤ 128) (hc : c = (s + 7) / 8) (hc0 : 0 < c) (hfr : c = 0 ∨ frm + c ≤ n) :
    Calls Try.prog 52 #[.pointer (some ⟨gr, 0, none⟩), .int .i64 i, .int .u64 ta, .int .u64 frm, .int .u64 y] w fun e w' => e = .returned (.tuple #[]) ∧ DunI gr gw n p0 p1 kv (put4 W ka (wsu (tgL i ++ fbL (fun t => W.getD (frm.toNat + t) 0) s))) fu st 0 va w' ∧ Ch (fun k => k = gr ∨ k = gw) w w' := by
  subst hta hy
  have hn := hI.n10
  have hf0 := hf.1
  have hh1 := hid (dhas_any (x := frm) (y := (c : Int)) (c := c) w hI hf rfl (by omega))
  rw [decide_eq_true hfr] at hh1
  have hh2 := hid (dhas_any (x := (ka : Int)) (y := 4) (c := 4) w hI (by unfold U64; omega) rfl (by omega))
  rw [decide_eq_true (show (4 = 0 ∨ (ka : Int) + (4 : Nat) ≤ n) by omega)] at hh2
  have a0 : ¬ (128 : Int) < s := by omega
  have a1 : IntKind.u64.wrap ((s : Int) + 7) = (s : Int) + 7 := wrap64_of (by omega) (by omega)
  have a2 : IntKind.i64.wrap ((s : Int) + 7) = (s : Int) + 7 := by rw [IntKind.wrap_i64]; omega
  have hc8 : ((s : Int) + 7) / 8 = (c : Int) := by omega
  have hc9 : Int.tdiv ((s : Int) + 7) 8 = (c : Int) := by rw [Int.tdiv_eq_ediv_of_nonneg (by omega)]; exact hc8
  have hWU : ∀ t, U64 (W.getD (frm.toNat + t) 0) := fun t => U64_getD hI.wU _
  have hPl : (tgL i ++ fbL (fun t => W.getD (frm.toNat + t) 0) s).length = (tgL i).length + s := by simp [fbL_len]
  have hPb : Bts (tgL i ++ fbL (fun t => W.getD (frm.toNat + t) 0) s) := btsApp (tgL_bts hi.1) (fbL_bts _ _)
  have htl := tgL_len i
  have hDw := hid fun (u : World) (hb : Below w.heap.size w u) => hI.bl hb
  have hmk : mkL 0 = some (tgL i) := by unfold mkL tgL; rw [if_pos rfl, if_pos (by omega)]
  obtain ⟨kf, hkf⟩ : ∃ kf : Nat, frm = kf := ⟨frm.toNat, by omega⟩
  subst hkf
  have hfn : kf + c ≤ n := by omega
  rw [Int.toNat_natCast] at *
  have a3 : IntKind.u64.wrap (c : Int) = c := wrap64_of (by omega) (by omega)
  have a5 : IntKind.u64.wrap ((kf : Int) + c) = ((kf + c : Nat) : Int) := by rw [wrap64_of (by omega) (by omega)]; omega
  have a6 : ¬ n = kf := by omega
  have a7 : ((kf + c : Nat) : Int) ≤ n := by omega
  have a8 : (kf : Int) ≤ ((kf + c : Nat) : Int) := by omega
  have a9 : kf + c - kf = c := by omega
  have c3 := hI.ar.cell 3
  have e0 : decide ((0 : Int) < (c : Int)) = true := by simp; omega
  have hsm := hid (summed_ok (i := 0) (P := tgL i) (sp := some ⟨gw, kf, none⟩) (c := c) (cap := n - kf) (s := s) (y := (s : Int)) (W := fun t => W.getD (kf + t) 0) w (by omega) hmk rfl hs hWU (by omega) (by omega) (by omega) (fun _ => ⟨gw, kf, rfl, hI.aw.lt, fun t ht => hI.cw (by omega)⟩))
  generalize hLL : (tgL i ++ fbL (fun t => W.getD (kf + t) 0) s) = LL at *
  replace hLL := hid hLL
  replace hPl := hid hPl
  replace hc := hid hc
  replace hc0 := hid hc0
  have htl2 := hid htl
  clear hWU hfr htl hmk
  go_enter Try.func52, Try.ntmps52
  go_upto_region 11 with (first
    | (go_at_call 50; have hq := hh1; clear hh1; go_must (refine hq.out.mono ?_; rintro e w2 ⟨rfl, h⟩; replace h := h.symm; subst h))
    | (go_at_call 50; go_must (refine hh2.out.mono ?_; rintro e w2 ⟨rfl, h⟩; replace h := h.symm; subst h))
    | (go_at_call 67; go_must (refine hsm.out.mono ?_; rintro e w3 ⟨v3, rfl, ho3, hb3⟩; obtain ⟨sp3, cp3, rfl, hB3, -⟩ := own_bs ho3 hPb (by have := htl2.out; omega)))
    | (go_at_call 15; go_must (refine (refSum_any sp3 _ cp3 LL w3 hPl.out.symm hB3.nil hB3.sl (by have := htl2.out; omega)).mono ?_; rintro e w4 ⟨rfl, hb4⟩))
    | (go_at_call 68; go_must (refine (refWords_any (sha LL) (shaB (bat LL) LL.length) w4 (sha_get LL) (fun t _ => shaB_range _ _ t)).mono ?_; rintro e w5 ⟨rfl, hb5⟩; rw [wordsOf_four]))
    | (refine wpList_store_new w5 _ 126 (by rfl) 126 (.tmp 15) (.tmp 65) (by rfl) (four (wsu LL)).toArray (by rfl) (by rfl) s126 (by rfl) (all_oneCell_toArray (four_one _)) ?_))
  have hbW : Below w.heap.size w w5 := (hb3.trans (hb4.mono hb3.size)).trans (hb5.mono (by have := hb3.size; have := hb4.size; omega))
  have hbV := hbW.alloc hbW.size (.cells (four (wsu LL)).toArray 126)
  have hDV := hDw.out _ hbV
  have AF := Arr.new w5 126 (four (wsu LL)).toArray
  have hs5 := hbW.size
  have hgwl := hI.aw.lt
  have hgrl := hI.ar.lt
  clear hsm hh2 hDw ho3 hB3 hb3 hb4 hb5 hI
  generalize hVV : w5.alloc (.cells (four (wsu LL)).toArray 126) = T at *
  generalize hgg : w5.heap.size = gt at *
  clear hVV hgg
  go_upto_region 12 with fail
  go_loopw [16] (fun q wr => ∃ (j : Nat), q = .int .i64 (j : Int) ∧ j ≤ 4 ∧ DunI gr gw n p0 p1 kv (pt W ka (wsu LL) j) fu st 0 va wr ∧ Ch (fun k => k = gw) T wr) (fun q _ => 4 - (intOf q).toNat)
  case atStart => exact ⟨0, rfl, by omega, hDV, Ch.refl _ _⟩
  case round =>
    obtain ⟨j, rfl, hj, hDj, hcj⟩ := hrel
    by_cases hlt : j < 4
    · have hlt' : (j : Int) < 4 := by omega
      have s1 : wr.cell? ⟨gr, 3, none⟩ = some (.slice (some ⟨gw, 0, none⟩) n n) := hDj.ar.cell 3
      have s2 : wr.cell? ⟨gt, j, none⟩ = some (.int .u64 (wsu LL j)) := ((hcj.arr AF (by omega)).cell j).trans (four_get _ j hlt)
      have b1 : IntKind.u64.wrap (j : Int) = j := wrap64_of (by omega) (by omega)
      have b2 : IntKind.u64.wrap ((ka : Int) + (j : Int)) = ((ka + j : Nat) : Int) := by rw [wrap64_of (by omega) (by omega)]; omega
      have b3 : ((ka + j : Nat) : Int) < n := by omega
      have vc := (hDj.aw.cell (ka + j)).trans (uA_get (by rw [hDj.len.out]; omega))
      have vf := hDj.aw.frozen (ka + j)
      have hD2 : DunI gr gw n p0 p1 kv (pt W ka (wsu LL) (j + 1)) fu st 0 va (wr.setCell ⟨gw, ka + j, none⟩ (.int .u64 (wsu LL j))).drew := ⟨(hDj.ar.setOther _ hDj.ne).drew, by show Arr _ gw 30 (uA ((pt W ka (wsu LL) j).set (ka + j) (wsu LL j))); rw [← uA_set]; exact (hDj.aw.set (ka + j) _).drew, hDj.ne, hid (by rw [pt_len, ← pt_len W ka (wsu LL) j]; exact hDj.len.out), hDj.n10, U_set hDj.wU (wsu_u _ hlt)⟩
      have hc2 := (hcj.st (g := gw) (j := ka + j) (.int .u64 (wsu LL j)) (fun _ => rfl)).dw
      have hne : gt ≠ gw := by omega
      have hne2 : gr ≠ gw := hDj.ne
      clear hDj hcj
      generalize (pt W ka (wsu LL) j).getD (ka + j) 0 = old at *
      generalize wsu LL j = wj at *
      generalize hkj : ka + j = kj at *
      go_upto_region 14 with fail
      go_region
      go_wp2_with fail
      go_roundw
      case rel => exact ⟨j + 1, by go_num, by omega, hD2, hc2⟩
      case measure => simp [intOf]; omega
    · obtain rfl : j = 4 := by omega
      have hfin := hid (And.intro hDj ((Ch.ob (S := fun k => k = gr ∨ k = gw) hbV).trans (hcj.imp fun k hk => .inr hk)))
      clear hDj hcj
      go_wp2_with fail
      go_end0
      exact ⟨rfl, hfin.out⟩
set_option maxHeartbeats 4000000 in
theorem dhash_4 {i ta frm y : Int} {ka s c : Nat} (w : World) (hI : DunI gr gw n p0 p1 kv W fu st 0 va w) (hi : 0 ≤ i ∧ i ≤ 256) (hi2 : ¬ i < 256) (hta : ta = (ka : Int)) (hk : ka + 4 ≤ n) (hf : U64 frm) (hy : y = (s : Int)) (hs : s ≤ 128) (hc : c = (s + 7) / 8) (hc0 : c = 0) (hfr : c = 0 ∨ frm + c ≤ n) :
    Calls Try.prog 52 #[.pointer (some ⟨gr, 0, none⟩), .int .i64 i, .int .u64 ta, .int .u64 frm, .int .u64 y] w fun e w' => e = .returned (.tuple #[]) ∧ DunI gr gw n p0 p1 kv (put4 W ka (wsu (tgL i ++ fbL (fun t => W.getD (frm.toNat + t) 0) s))) fu st 0 va w' ∧ Ch (fun k => k = gr ∨ k = gw) w w' := by
  subst hta hy
  have hn := hI.n10
  have hf0 := hf.1
  have hh1 := hid (dhas_any (x := frm) (y := (c : Int)) (c := c) w hI hf rfl (by omega))
  rw [decide_eq_true hfr] at hh1
  have hh2 := hid (dhas_any (x := (ka : Int)) (y := 4) (c := 4) w hI (by unfold U64; omega) rfl (by omega))
  rw [decide_eq_true (show (4 = 0 ∨ (ka : Int) + (4 : Nat) ≤ n) by omega)] at hh2
  have a0 : ¬ (128 : Int) < s := by omega
  have a1 : IntKind.u64.wrap ((s : Int) + 7) = (s : Int) + 7 := wrap64_of (by omega) (by omega)
  have a2 : IntKind.i64.wrap ((s : Int) + 7) = (s : Int) + 7 := by rw [IntKind.wrap_i64]; omega
  have hc8 : ((s : Int) + 7) / 8 = (c : Int) := by omega
  have hc9 : Int.tdiv ((s : Int) + 7) 8 = (c : Int) := by rw [Int.tdiv_eq_ediv_of_nonneg (by omega)]; exact hc8
  have hWU : ∀ t, U64 (W.getD (frm.toNat + t) 0) := fun t => U64_getD hI.wU _
  have hPl : (tgL i ++ fbL (fun t => W.getD (frm.toNat + t) 0) s).length = (tgL i).length + s := by simp [fbL_len]
  have hPb : Bts (tgL i ++ fbL (fun t => W.getD (frm.toNat + t) 0) s) := btsApp (tgL_bts hi.1) (fbL_bts _ _)
  have htl := tgL_len i
  have hDw := hid fun (u : World) (hb : Below w.heap.size w u) => hI.bl hb
  have hmk : mkL 0 = some (tgL i) := by unfold mkL tgL; rw [if_pos rfl, if_pos (by omega)]
  obtain rfl : s = 0 := by omega
  subst hc0
  have a4 : IntKind.u64.wrap (7 : Int) = 7 := by rw [wrap64_of (by omega) (by omega)]
  have a5 : IntKind.i64.wrap (7 : Int) = 7 := by rw [IntKind.wrap_i64]; rfl
  have hc0 : (0 : Nat) = 0 := rfl
  have hsm := hid (summed_ok (i := 0) (P := tgL i) (sp := none) (c := 0) (cap := 0) (s := 0) (y := ((0 : Nat) : Int)) (W := fun t => W.getD (frm.toNat + t) 0) w (by omega) hmk rfl hs hWU (by omega) (by omega) (by omega) (fun h => by omega))
  generalize hLL : (tgL i ++ fbL (fun t => W.getD (frm.toNat + t) 0) 0) = LL at *
  replace hLL := hid hLL
  replace hPl := hid hPl
  replace hc := hid hc
  replace hc0 := hid hc0
  have htl2 := hid htl
  clear hWU hfr htl hmk
  go_enter Try.func52, Try.ntmps52
  go_upto_region 11 with (first
    | (go_at_call 50; have hq := hh1; clear hh1; go_must (refine hq.out.mono ?_; rintro e w2 ⟨rfl, h⟩; replace h := h.symm; subst h))
    | (go_at_call 50; go_must (refine hh2.out.mono ?_; rintro e w2 ⟨rfl, h⟩; replace h := h.symm; subst h))
    | (go_at_call 67; go_must (refine hsm.out.mono ?_; rintro e w3 ⟨v3, rfl, ho3, hb3⟩; obtain ⟨sp3, cp3, rfl, hB3, -⟩ := own_bs ho3 hPb (by have := htl2.out; omega)))
    | (go_at_call 15; go_must (refine (refSum_any sp3 _ cp3 LL w3 hPl.out.symm hB3.nil hB3.sl (by have := htl2.out; omega)).mono ?_; rintro e w4 ⟨rfl, hb4⟩))
    | (go_at_call 68; go_must (refine (refWords_any (sha LL) (shaB (bat LL) LL.length) w4 (sha_get LL) (fun t _ => shaB_range _ _ t)).mono ?_; rintro e w5 ⟨rfl, hb5⟩; rw [wordsOf_four]))
    | (refine wpList_store_new w5 _ 126 (by rfl) 126 (.tmp 15) (.tmp 65) (by rfl) (four (wsu LL)).toArray (by rfl) (by rfl) s126 (by rfl) (all_oneCell_toArray (four_one _)) ?_))
  have hbW : Below w.heap.size w w5 := (hb3.trans (hb4.mono hb3.size)).trans (hb5.mono (by have := hb3.size; have := hb4.size; omega))
  have hbV := hbW.alloc hbW.size (.cells (four (wsu LL)).toArray 126)
  have hDV := hDw.out _ hbV
  have AF := Arr.new w5 126 (four (wsu LL)).toArray
  have hs5 := hbW.size
  have hgwl := hI.aw.lt
  have hgrl := hI.ar.lt
  clear hsm hh2 hDw ho3 hB3 hb3 hb4 hb5 hI
  generalize hVV : w5.alloc (.cells (four (wsu LL)).toArray 126) = T at *
  generalize hgg : w5.heap.size = gt at *
  clear hVV hgg
  go_upto_region 12 with fail
  go_loopw [16] (fun q wr => ∃ (j : Nat), q = .int .i64 (j : Int) ∧ j ≤ 4 ∧ DunI gr gw n p0 p1 kv (pt W ka (wsu LL) j) fu st 0 va wr ∧ Ch (fun k => k = gw) T wr) (fun q _ => 4 - (intOf q).toNat)
  case atStart => exact ⟨0, rfl, by omega, hDV, Ch.refl _ _⟩
  case round =>
    obtain ⟨j, rfl, hj, hDj, hcj⟩ := hrel
    by_cases hlt : j < 4
    · have hlt' : (j : Int) < 4 := by omega
      have s1 : wr.cell? ⟨gr, 3, none⟩ = some (.slice (some ⟨gw, 0, none⟩) n n) := hDj.ar.cell 3
      have s2 : wr.cell? ⟨gt, j, none⟩ = some (.int .u64 (wsu LL j)) := ((hcj.arr AF (by omega)).cell j).trans (four_get _ j hlt)
      have b1 : IntKind.u64.wrap (j : Int) = j := wrap64_of (by omega) (by omega)
      have b2 : IntKind.u64.wrap ((ka : Int) + (j : Int)) = ((ka + j : Nat) : Int) := by rw [wrap64_of (by omega) (by omega)]; omega
      have b3 : ((ka + j : Nat) : Int) < n := by omega
      have vc := (hDj.aw.cell (ka + j)).trans (uA_get (by rw [hDj.len.out]; omega))
      have vf := hDj.aw.frozen (ka + j)
      have hD2 : DunI gr gw n p0 p1 kv (pt W ka (wsu LL) (j + 1)) fu st 0 va (wr.setCell ⟨gw, ka + j, none⟩ (.int .u64 (wsu LL j))).drew := ⟨(hDj.ar.setOther _ hDj.ne).drew, by show Arr _ gw 30 (uA ((pt W ka (wsu LL) j).set (ka + j) (wsu LL j))); rw [← uA_set]; exact (hDj.aw.set (ka + j) _).drew, hDj.ne, hid (by rw [pt_len, ← pt_len W ka (wsu LL) j]; exact hDj.len.out), hDj.n10, U_set hDj.wU (wsu_u _ hlt)⟩
      have hc2 := (hcj.st (g := gw) (j := ka + j) (.int .u64 (wsu LL j)) (fun _ => rfl)).dw
      have hne : gt ≠ gw := by omega
      have hne2 : gr ≠ gw := hDj.ne
      clear hDj hcj
      generalize (pt W ka (wsu LL) j).getD (ka + j) 0 = old at *
      generalize wsu LL j = wj at *
      generalize hkj : ka + j = kj at *
      go_upto_region 14 with fail
      go_region
      go_wp2_with fail
      go_roundw
      case rel => exact ⟨j + 1, by go_num, by omega, hD2, hc2⟩
      case measure => simp [intOf]; omega
    · obtain rfl : j = 4 := by omega
      have hfin := hid (And.intro hDj ((Ch.ob (S := fun k => k = gr ∨ k = gw) hbV).trans (hcj.imp fun k hk => .inr hk)))
      clear hDj hcj
      go_wp2_with fail
      go_end0
      exact ⟨rfl, hfin.out⟩
end Go.Proofs.Ytmljihggooaboaa
