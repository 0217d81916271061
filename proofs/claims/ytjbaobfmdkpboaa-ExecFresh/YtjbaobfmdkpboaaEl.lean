/- Layer exec: the law ExecFresh. -/
import Derived.Test.YtjbaobfmdkpboaaX31
namespace Go.Proofs.Ytjbaobfmdkpboaa
set_option linter.unusedSectionVars false
set_option maxHeartbeats 1000000
open Go.RowKit
set_option maxRecDepth 100000
set_option linter.unusedVariables false
set_option linter.unusedSimpArgs false

variable [DecidableEq Ac] [DecidableEq Ou] [DecidableEq Mg]
theorem copy01_any (sp : Option Addr) (n cap : Nat) (L : List Int) (N : Nat) (w : World) (hS : BS N w sp n cap L) :
    Calls Try.prog 20 #[.slice sp n cap] w fun e w' => ∃ s c, e = .returned (.slice s n c) ∧ BS w'.heap.size w' s n c L ∧ Below w.heap.size w w' := by
  have hn := hS.len
  have hsm := hS.small
  have hni := hS.nil
  have hbt := hS.bts
  have hlit : (w.alloc (.cells #[] 5)).ownsRow w.heap.size 5 1 (.slice (some ⟨w.heap.size, 0, none⟩) 0 0) 0 (by8 []) := World.ownsRow_lit _ _ _ (Nat.le_refl _) (by unfold maxLen; omega) rfl
  have hS' := (hS.here.below ((Below.refl _ _).alloc (Nat.le_refl _) (.cells #[] 5))).sl
  go_enter Try.func20, Try.ntmps20
  go_wp2_with (at_builtin; go_must (refine append_bytes (by rfl) (.tmp 3) (.tmp 4) (by rfl) w.heap.size _ 0 [] (by rfl) hlit sp n cap L (by rfl) hn.out hni hS' (by omega) (by simp) ?_; intro v1 w1 hown1 hg1))
  go_ret
  rw [Nat.zero_add, List.nil_append] at hown1
  obtain ⟨s, c, rfl, hB, -⟩ := own_bs hown1 hbt hsm
  exact ⟨s, c, rfl, hB, ((Below.refl _ _).alloc (Nat.le_refl _) _).grown hg1 (by simp) (fun k e => by simp [Value.ownBlock] at e; omega)⟩
theorem same01_self (sp sp' : Option Addr) (n n' cap cap' : Nat) (L : List Int) (N N' : Nat) (w : World) (hS : BS N w sp n cap L) (hS' : BS N' w sp' n' cap' L) : Calls Try.prog 21 #[.slice sp n cap, .slice sp' n' cap'] w fun e w' => e = .returned (.bool true) ∧ w' = w := by
  have h := same01_any sp sp' n n' cap cap' L L N N' w hS hS'
  rw [decide_eq_true rfl] at h
  exact h
theorem own_thereO {w : World} {base n cap : Nat} {sp : Option Addr} {xs : List Value} (h : w.ownsRow base 50 2 (.slice sp n cap) n xs) (h0 : 0 < n) : ∃ g, sp = some ⟨g, 0, none⟩ ∧ base ≤ g ∧ g < w.heap.size ∧ w.there g 0 (n * 2) := by
  obtain ⟨-, h | ⟨g, cap', cur, e, hg, hh, hnc, hcm, hc, ht⟩⟩ := h
  · have := h.2; omega
  · cases e
    refine ⟨g, rfl, hg, (Array.getElem?_eq_some_iff.1 hh).1, fun j hj => ⟨?_, ?_⟩⟩
    · rw [Nat.zero_add, cell_of_row w g _ cur 50 (0, 0) hh, Array.getElem?_eq_getElem (by have := Nat.mul_le_mul_right 2 hnc; omega)]
      rfl
    · simp [World.frozen?, hh]
theorem built50p : Try.prog.built 50 [(0, .int .u64 99)] = some (Ou.arr ⟨99, 0⟩) := by kernel_rfl
theorem there_block {w w' : World} {g o k : Nat} (h : w.there g o k) (hb : w'.heap[g]? = w.heap[g]?) : w'.there g o k := fun j hj => by
  have h := h j hj
  have hc := (World.cell?_of_block (w := w) (a := ⟨g, o + j, none⟩) hb)
  have hf : w'.frozen? ⟨g, o + j, none⟩ = w.frozen? ⟨g, o + j, none⟩ := by simp only [World.frozen?, hb]
  exact ⟨by rw [hc]; exact h.1, by rw [hf]; exact h.2⟩
set_option maxHeartbeats 4000000 in
theorem fresh_walk (ps : List Ac) (sp : Option Addr) (n cap : Nat) (os : List Ou) (sb : Option Addr) (nb cb : Nat) (L : List Int) (w : World) (hS : SS w.heap.size w ps sp n cap os) (hL : BS w.heap.size w sb nb cb L) (h16 : n * 16 ≤ 140737488351232) :
    Calls Try.prog 7 #[.agg (stA ps sp n cap), .slice sb nb cb] w fun e w' => e = .returned (.bool true) ∧ Below w.heap.size w w' := by
  have h1 := hS.a32.out
  have h2 := hS.l32
  have hoo := hS.outs.ok
  have hlen := hS.outs.len
  have hnsm := hS.outs.small
  have hz30 := zeroValue30
  have hzsz : (stA zs none 0 0).size = 1089 := stA_size zs_len zs_l32
  generalize stA zs none 0 0 = Z at hz30 hzsz
  have A0 := Arr.new w 30 (stA ps sp n cap)
  have B0 := alloc_bel' w (.cells (stA ps sp n cap) 30)
  have hD := Hid.mk' (fun N sp cap sb cb Nb u h h' => delta_x ps N sp n cap os sb nb cb L Nb u h h')
  have hE := Hid.mk' (fun u h h' => refDelta_x ps w.heap.size sp n cap os sb nb cb L w.heap.size u h h')
  obtain ⟨hq1, hq3, hq4⟩ := xP_ok (os := os) hL.bts h1 hS.ok.out hS.outs.ok
  have hq2 : ∀ a ∈ xP ps os L, a.lk.length = 32 := fun a ha => (hq3 a ha).l32
  have hxl := xO_len ps os L
  have hsame := Hid.mk' (smB_self (xP ps os L) (xO ps os L))
  have hsame2 := Hid.mk' (smB_self ps os)
  unfold DX at hD hE
  generalize xP ps os L = Q at *
  generalize xO ps os L = O at *
  generalize xD ps os L = d at *
  generalize xE ps os = e at *
  have hee : (e == e) = true := by simp
  have hb50 := built50p
  go_enter Try.func7, Try.ntmps7
  go_upto_region 2 with (first
    | (refine atL 30 (.tmp 2) ?_; refine ld30 (by rfl) _ (by rfl) w.heap.size 30 (by rfl) ps sp n cap h1 h2 A0 ?_)
    | (go_at_call 19; go_must (refine (copyO_any ps _ sp n cap os _ (hS.below B0) h16).mono ?_; rintro r w1 ⟨s1, c1, rfl, own1, hb1⟩; have B1 := B0.trans (hb1.mono (by simp))))
    | (go_at_call 20; go_must (refine (copy01_any sb nb cb L _ _ (hL.below B1)).mono ?_; rintro r w2 ⟨sc, cc, rfl, hc, hb2⟩))
    | (refine atS 30 (.tmp 5) (.tmp 18) ?_; refine st30n (by rfl) _ _ (by rfl) w2 w2.heap.size rfl hzsz ps s1 n c1 (by rfl) (by rfl) h1 h2 ?_))
  have hz1 : w.heap.size + 1 ≤ w1.heap.size := by have := hb1.size; simpa using this
  have hz2 := hb2.size
  have O1 := os_own own1 hlen.out hnsm hoo
  have bb2 := alloc_bel' w2 (.cells (stA ps s1 n c1) 30)
  have S2 : SS w2.heap.size (w2.alloc (.cells (stA ps s1 n c1) 30)) ps s1 n c1 os := ⟨hS.a32, hS.ok, ((O1.below hb2).mono hz2).below bb2⟩
  have L2 := hc.below bb2
  have A2 := ((A0.below hb1 A0.lt).below hb2 (by omega)).alloc (.cells (stA ps s1 n c1) 30)
  have T2 := Arr.new w2 30 (stA ps s1 n c1)
  have B2 := (B1.trans (hb2.mono B1.size)).alloc (by omega) (.cells (stA ps s1 n c1) 30)
  have hW2 : (w2.alloc (.cells (stA ps s1 n c1) 30)).heap.size = w2.heap.size + 1 := by simp
  replace hW2 := Hid.mk' hW2
  generalize w2.alloc (.cells (stA ps s1 n c1) 30) = W2 at *
  generalize w2.heap.size = G2 at *
  have hg2 : w.heap.size < G2 := by omega
  clear A0 B0 B1 hb1 hb2 own1 O1 bb2 hc
  go_upto_region 3 with (first
    | (refine atL 30 (.tmp 5) ?_; refine ld30 (by rfl) _ (by rfl) G2 30 (by rfl) ps s1 n c1 h1 h2 T2 ?_)
    | (go_at_call 8; go_must (refine (hD.out _ _ _ _ _ _ _ S2 L2).mono ?_; rintro r w3 ⟨s3, n3, c3, rfl, S3, own3, hb3⟩))
    | (refine atS 30 (.tmp 7) (.tmp 25) ?_; refine st30n (by rfl) _ _ (by rfl) w3 w3.heap.size rfl hzsz Q s3 n3 c3 (by rfl) (by rfl) hq1 hq2 ?_))
  have hz3 := hb3.size
  have hn3 : n3 ≤ 33 := by have := S3.outs.len.out; omega
  have hn3c := S3.outs.le
  have hn3b := S3.outs.big
  have bb3 := alloc_bel' w3 (.cells (stA Q s3 n3 c3) 30)
  have hp0 : 0 < n3 → ∃ g, s3 = some ⟨g, 0, none⟩ ∧ W2.heap.size ≤ g ∧ g < w3.heap.size ∧ w3.there g 0 (n3 * 2) := own_thereO own3
  have hth3 : ∀ g, w3.there g 0 (n3 * 2) → g < w3.heap.size → (w3.alloc (.cells (stA Q s3 n3 c3) 30)).there g 0 (n3 * 2) := fun g h hg => there_block h (bb3.block g hg)
  have A3 := (A2.below hb3 A2.lt).alloc (.cells (stA Q s3 n3 c3) 30)
  have T3 := (T2.below hb3 T2.lt).alloc (.cells (stA Q s3 n3 c3) 30)
  have U3 := Arr.new w3 30 (stA Q s3 n3 c3)
  have B3 := (B2.trans (hb3.mono B2.size)).alloc (Nat.le_trans B2.size hz3) (.cells (stA Q s3 n3 c3) 30)
  have hW2' := hW2.out
  have S23 := (S2.below (hb3.mono (by omega))).below (bb3.mono (by omega))
  have L23 := (L2.below (hb3.mono (by omega))).below (bb3.mono (by omega))
  have hW3 : w3.heap.size < (w3.alloc (.cells (stA Q s3 n3 c3) 30)).heap.size := by simp
  generalize w3.alloc (.cells (stA Q s3 n3 c3) 30) = W3 at *
  generalize w3.heap.size = G3 at *
  clear A2 T2 B2 S2 L2 hb3 bb3 own3 S3 hW2'
  have hW2b : G2 < W2.heap.size := by have := hW2.out; omega
  go_wp2_with fail
  go_loopw [10] (fun q wr => ∃ j : Nat, q = .int .i64 (j : Int) ∧ j ≤ n3 ∧ Chg (fun b => 0 < n3 ∧ s3 = some ⟨b, 0, none⟩) W3 wr ∧ (∀ g, W3.there g 0 (n3 * 2) → wr.there g 0 (n3 * 2))) (fun q _ => n3 - (intOf q).toNat)
  case atStart => exact ⟨0, rfl, by omega, Chg.refl _ _, fun _ h => h⟩
  case round =>
    obtain ⟨j, rfl, hj, hch, hth⟩ := hrel
    have hSb : ∀ b, (0 < n3 ∧ s3 = some ⟨b, 0, none⟩) → W2.heap.size ≤ b ∧ b < G3 := fun b ⟨h0, e⟩ => by
      obtain ⟨g, e', a1, a2, -⟩ := hp0 h0
      rw [e] at e'; cases e'
      exact ⟨a1, a2⟩
    have U4 := hch.arr U3 (fun h => by have := hSb _ h; omega)
    have cU := U4.stOut hq1 hq2
    by_cases hlt : j < n3
    · have hI : (j : Int) < n3 := by omega
      obtain ⟨g, rfl, hg, hg2', ht⟩ := hp0 (by omega)
      have ht' := hth g (hth3 g ht hg2')
      have ht2 : wr.there g (j * 2) (Ou.arr ⟨99, 0⟩).size := fun t h => by
        have := ht' (j * 2 + t) (by have h : t < 2 := h; omega)
        rwa [Nat.zero_add] at this
      replace hp0 := Hid.mk' hp0
      replace hSb := Hid.mk' hSb
      go_wp2_with (first
        | (refine atB 50 ?_; refine bdT (by rfl) 50 #[(0, .const (.int .u64 99))] (by rfl) (by rfl) hb50 ?_)
        | (refine atS 50 (.tmp 39) (.tmp 38) ?_; refine wpList_store_mid (by rfl) 50 (.tmp 39) (.tmp 38) (by rfl) g (j * 2) (Ou.arr ⟨99, 0⟩) (by rfl) (by rfl) ht2 (s53 _) (Ou.oneA _) ?_))
      go_roundw
      case rel => exact ⟨j + 1, by go_num, by omega, Chg.setCells _ hch (fun _ => ⟨by omega, rfl⟩), fun g' h' => World.there_setCells (hth g' h') _ _ _⟩
      case measure => simp [intOf]; omega
    · obtain rfl : j = n3 := by omega
      have hI : ¬ (j : Int) < j := by omega
      generalize wr = w4 at *
      have hz4 := hch.size
      have A4 := hch.arr A3 (fun h => by have := hSb _ h; omega)
      have T4 := hch.arr T3 (fun h => by have := hSb _ h; omega)
      have b34 : Below W2.heap.size W3 w4 := hch.below (fun i hi => ⟨by omega, fun h => by have := hSb _ h; omega⟩)
      have S24 := S23.below (b34.mono (by omega))
      have L24 := L23.below (b34.mono (by omega))
      have B4 := B3.trans (b34.mono (by omega))
      clear A3 T3 B3 S23 L23 hth hth3 b34 hch hSb hp0 U3
      go_upto_region 8 with (first
        | (refine atL 30 (.tmp 5) ?_; refine ld30 (by rfl) _ (by rfl) G2 30 (by rfl) ps s1 n c1 h1 h2 T4 ?_)
        | (go_at_call 8; go_must (refine (hD.out _ _ _ _ _ _ _ S24 L24).mono ?_; rintro r w5 ⟨s5, n5, c5, rfl, S5, -, hb5⟩))
        | (refine atS 30 (.tmp 11) (.tmp 44) ?_; refine st30n (by rfl) _ _ (by rfl) w5 w5.heap.size rfl hzsz Q s5 n5 c5 (by rfl) (by rfl) hq1 hq2 ?_))
      have hz5 := hb5.size
      have bb5 := alloc_bel' w5 (.cells (stA Q s5 n5 c5) 30)
      have A5 := (A4.below hb5 A4.lt).alloc (.cells (stA Q s5 n5 c5) 30)
      have T5 := (T4.below hb5 T4.lt).alloc (.cells (stA Q s5 n5 c5) 30)
      have V5 := Arr.new w5 30 (stA Q s5 n5 c5)
      have B5 := (B4.trans (hb5.mono B4.size)).alloc (Nat.le_trans B4.size hz5) (.cells (stA Q s5 n5 c5) 30)
      have S25 := (S24.below (hb5.mono (by omega))).below (bb5.mono (by omega))
      have L25 := (L24.below (hb5.mono (by omega))).below (bb5.mono (by omega))
      have S5' := S5.below bb5
      have hW5 : w5.heap.size < (w5.alloc (.cells (stA Q s5 n5 c5) 30)).heap.size := by simp
      generalize w5.alloc (.cells (stA Q s5 n5 c5) 30) = W5 at *
      generalize w5.heap.size = G5 at *
      clear A4 T4 B4 S24 L24 hb5 bb5 S5 cU U4
      go_upto_region 9 with (first
        | (refine atL 30 (.tmp 2) ?_; refine ld30 (by rfl) _ (by rfl) w.heap.size 30 (by rfl) ps sp n cap h1 h2 A5 ?_)
        | (go_at_call 9; go_must (refine (hE.out _ (hS.below B5) (hL.below B5)).mono ?_; rintro r w6 ⟨s6, n6, c6, rfl, S6, -, hb6⟩))
        | (refine atS 30 (.tmp 14) (.tmp 51) ?_; refine st30n (by rfl) _ _ (by rfl) w6 w6.heap.size rfl hzsz Q s6 n6 c6 (by rfl) (by rfl) hq1 hq2 ?_))
      have hz6 := hb6.size
      have bb6 := alloc_bel' w6 (.cells (stA Q s6 n6 c6) 30)
      have A6 := (A5.below hb6 A5.lt).alloc (.cells (stA Q s6 n6 c6) 30)
      have T6 := (T5.below hb6 T5.lt).alloc (.cells (stA Q s6 n6 c6) 30)
      have V6 := (V5.below hb6 V5.lt).alloc (.cells (stA Q s6 n6 c6) 30)
      have X6 := Arr.new w6 30 (stA Q s6 n6 c6)
      have B6 := (B5.trans (hb6.mono B5.size)).alloc (Nat.le_trans B5.size hz6) (.cells (stA Q s6 n6 c6) 30)
      have S26 := (S25.below (hb6.mono (by omega))).below (bb6.mono (by omega))
      have L26 := (L25.below (hb6.mono (by omega))).below (bb6.mono (by omega))
      have S56 := (S5'.below (hb6.mono (by omega))).below (bb6.mono (by omega))
      have S66 := S6.below bb6
      have hW6 : w6.heap.size < (w6.alloc (.cells (stA Q s6 n6 c6) 30)).heap.size := by simp
      generalize w6.alloc (.cells (stA Q s6 n6 c6) 30) = W6 at *
      generalize w6.heap.size = G6 at *
      clear A5 T5 V5 B5 S25 L25 hb6 bb6 S5' S6
      have tok : Hid (0 = 0) := Hid.mk' rfl
      go_wp2_with (first
        | (go_at_call 13; go_must (refine (anchored_any _).mono ?_; rintro r w7 ⟨rfl, hb7⟩; have hz7 := hb7.size; have B7 := B6.trans (hb7.mono B6.size); have A7 := A6.below hb7 A6.lt; have T7 := T6.below hb7 T6.lt; have V7 := V6.below hb7 V6.lt; have X7 := X6.below hb7 X6.lt; have S27 := S26.below (hb7.mono (by omega)); have L27 := L26.below (hb7.mono (by omega)); have S57 := S56.below (hb7.mono (by omega)); have S67 := S66.below (hb7.mono (by omega))))
        | (refine atL 30 (.tmp 2) ?_; refine ld30g (by rfl) _ (by rfl) w.heap.size 30 (by rfl) ps sp n cap h1 h2 A7 ?_)
        | (refine atL 30 (.tmp 5) ?_; refine ld30g (by rfl) _ (by rfl) G2 30 (by rfl) ps s1 n c1 h1 h2 T7 ?_)
        | (refine atL 30 (.tmp 11) ?_; refine ld30g (by rfl) _ (by rfl) G5 30 (by rfl) Q s5 n5 c5 hq1 hq2 V8 ?_)
        | (refine atL 30 (.tmp 14) ?_; refine ld30g (by rfl) _ (by rfl) G6 30 (by rfl) Q s6 n6 c6 hq1 hq2 X8 ?_)
        | (go_at_call 21; go_must (refine (same01_self sb sc nb nb cb cc L _ _ _ (hL.below B8) L28).mono ?_; rintro r w9 ⟨rfl, rfl⟩))
        | (go_at_call 12; (first
          | (have hzz := tok; clear tok hzz; refine (refSsame_any ps _ sp n cap os ps _ s1 n c1 os _ (hS.below B7) S27).mono ?_; rw [hsame2.out]; rintro r w8 ⟨rfl, hb8⟩; have B8 := B7.trans (hb8.mono B7.size); have V8 := V7.below hb8 V7.lt; have X8 := X7.below hb8 X7.lt; have L28 := L27.below (hb8.mono (by omega)); have S58 := S57.below (hb8.mono (by omega)); have S68 := S67.below (hb8.mono (by omega)))
          | (refine (refSsame_any Q _ s5 n5 c5 O Q _ s6 n6 c6 O _ S58 S68).mono ?_; rw [hsame.out]; rintro r w10 ⟨rfl, hb10⟩; have B10 := B8.trans (hb10.mono B8.size)))))
      go_ret
      exact ⟨rfl, B10⟩
end Go.Proofs.Ytjbaobfmdkpboaa
