/- Layer frame, the document's answer: Split, the walk. -/
import Derived.Test.YtbjlmekafnpllabHc
namespace Go.Proofs.Ytbjlmekafnpllab
open Go.RowKit
set_option linter.unusedVariables false
set_option linter.unusedSimpArgs false

set_option maxRecDepth 100000 in
set_option maxHeartbeats 4000000 in
theorem refSplit_good (c : Int) (z : Nat) (sp : Option Addr) (n cap : Nat) (L : List Int) (w : World) (hS : BS w.heap.size w sp n cap L) (hc0 : 0 ≤ c) (hc1 : c ≤ 18446744073709551615) (h1 : 1 ≤ z) (h2 : z ≤ 4096) (h3 : n ≤ z * 1024) :
    Calls Try.prog 18 #[.int .u64 c, .slice sp n cap, .int .i64 (z : Int)] w (SPost c z L w) := by
  have hln := hS.len
  have hbtL := Hid.mk' hS.bts
  have t1 : ¬ (z : Int) < 1 := by omega
  have t2 : ¬ (4096 : Int) < z := by omega
  have hw : IntKind.i64.wrap ((z : Int) * 1024) = (z : Int) * 1024 := by rw [IntKind.wrap_i64]; omega
  have t3 : ¬ (z : Int) * 1024 < n := by omega
  have hn22 : n ≤ 4194304 := by omega
  go_enter Try.func18, Try.ntmps18
  go_wp2
  go_loopw [8, 9] (fun v d wr => ∃ (i g cq q : Nat) (X : List Fr) (f : Fr), d = .int .i64 (i : Int) ∧ i ≤ n ∧ v = .slice (some ⟨g, 0, none⟩) (q + 1) cq ∧ Hid (X.length = q) ∧ Hid (RSt c z L w i g cq X f wr) ∧ (q < i ∨ q = 0) ∧ Hid (q = 0 ∨ 0 < f.n))
    (fun _ d _ => n - (intOf d).toNat)
  case atStart =>
    refine ⟨0, w.heap.size, 1, 0, [], ⟨c, 0, false, none, 0, 0, []⟩, rfl, by omega, rfl, Hid.mk' rfl, Hid.mk' ⟨⟨(fun j g h => by simp at h), rfl, rfl, rfl, by simp, by simp⟩, ?_, World.ownsRow_nil _ _ _ _, (fun b h => by cases h), (fun x hx => by simp at hx), by simp, alloc_bel' w _⟩, .inr rfl, Hid.mk' (.inl rfl)⟩
    exact World.ownsRow_lit w #[.int .u64 c, .int .i64 0, .bool false, .slice none 0 0] 1 (Nat.le_refl _) (by unfold maxLen; omega) rfl
  case round =>
    obtain ⟨i, g, cq, q, X, f, rfl, hi, rfl, hq, hR, hqi, hp⟩ := hrel
    have hbl := hR.out.bel
    have hsz := hbl.size
    have hgl := hR.out.own.lt g rfl
    obtain ⟨f0, f1, f2, f3⟩ := own_cellF hR.out.own (show (X ++ [f])[X.length]? = some f by simp)
    rw [hq.out] at f0 f1 f2 f3
    have hfr : ∀ j, wr.frozen? ⟨g, j, none⟩ = false := fun j => own_frozen hR.out.own
    have hw1 : IntKind.i64.wrap (q : Int) = q := by rw [IntKind.wrap_i64]; omega
    have hw2 : IntKind.i64.wrap ((q : Int) + 1 - 1) = q := by rw [IntKind.wrap_i64]; omega
    have hw3 : ¬ ((q : Int) + 1 ≤ q) := by omega
    have hw4 : (0 : Int) ≤ q := by omega
    have hw5 : ((q : Int) + 1 - 1).toNat = q := by omega
    have hw6 : (0 : Int) ≤ (q : Int) + 1 - 1 := by omega
    have hw7 : (q : Int) + 1 - 1 < (q : Int) + 1 := by omega
    have hqI : (q : Int) < (q : Int) + 1 := by omega
    by_cases hlt : i < n
    · have hI : (i : Int) < n := by omega
      have hSr := hS.below hbl
      obtain ⟨sb, so, rfl, -, hSy⟩ := hSr.at0 (by omega)
      have c0 := hSy i (by omega)
      have hiL : i < L.length := by have := hln.out; omega
      have hfn : f.n ≤ z := by have := hR.out.mid.fle; have := own_lenF hR.out.body; omega
      by_cases hfull : f.n = z
      · have hfb : ((f.n : Int) == z) = true := by simp [hfull]
        have hqlt : q < i := by
          rcases hqi with h | h
          · exact h
          · have ha := hR.out.mid.all
            have hX : X = [] := List.length_eq_zero_iff.1 (by rw [hq.out]; exact h)
            have hfl := own_lenF hR.out.body
            rw [hX] at ha
            have : f.bs.length = (L.take i).length := by rw [← ha]; simp
            rw [List.length_take] at this
            omega
        have hw8 : IntKind.i64.wrap ((q : Int) + 1) = (q : Int) + 1 := by rw [IntKind.wrap_i64]; omega
        have hNew := Arr.new wr 25 #[.int .u64 c, .int .i64 ((q : Int) + 1), .bool false, .slice none 0 0]
        have hownA := hR.out.own.alloc (.cells #[.int .u64 c, .int .i64 ((q : Int) + 1), .bool false, .slice none 0 0] 25)
        rw [hq.out] at hownA
        go_wp2_with (at_builtin; go_must (refine append_frame (by rfl) (.tmp 42) (.tmp 47) (by rfl) w.heap.size (.slice (some ⟨g, 0, none⟩) (q + 1) cq) (q + 1) (X ++ [f]) (by rfl) hownA wr.heap.size 1 (Fr.mk c ((q : Int) + 1) false none 0 0 []) (by rfl) hNew (by omega) (by simp; omega) ?_; intro v3 w3 hown3 hg3 hob3; obtain ⟨g3, c3, rfl⟩ := own_someF hown3 (by omega)))
        have hR3 : Hid (RSt c z L w i g3 c3 (X ++ [f]) ⟨c, (q : Int) + 1, false, none, 0, 0, []⟩ w3) := Hid.mk' (by
          have hqq := hq.out
          have := hR.out.next hbtL.out hfull h1 h2 hc0 hc1 (by omega) (by omega) (b4 := g3) (c4 := c3) (w4 := w3) (by rw [hqq]; push_cast; exact hown3) hg3 (by
            rcases hob3 with e | e
            · left; simpa [Value.ownBlock] using e
            · right; simpa [Value.ownBlock] using e)
          rw [hqq] at this; push_cast at this; exact this)
        obtain ⟨q1, hq1⟩ : ∃ q1, q + 1 = q1 := ⟨_, rfl⟩
        have hqX : Hid ((X ++ [f]).length = q1) := Hid.mk' (by rw [List.length_append, hq.out]; exact hq1)
        have hq1i : q1 ≤ i := by omega
        rw [hq1]
        clear hown3 hg3 hob3 hR f0 f1 f2 f3 hfr hw1 hw2 hw3 hw4 hw5 hw6 hw8 hNew hownA c0 hSy hSr hp hfb
        have hbl := hR3.out.bel
        have hsz := hbl.size
        have hgl := hR3.out.own.lt g3 rfl
        obtain ⟨f0, f1, f2, f3⟩ := own_cellF hR3.out.own (show ((X ++ [f]) ++ [Fr.mk c ((q : Int) + 1) false none 0 0 []])[(X ++ [f]).length]? = some (Fr.mk c ((q : Int) + 1) false none 0 0 []) by simp)
        rw [hqX.out] at f0 f1 f2 f3
        have hfr : ∀ j, w3.frozen? ⟨g3, j, none⟩ = false := fun j => own_frozen hR3.out.own
        have hw1 : IntKind.i64.wrap (q1 : Int) = q1 := by rw [IntKind.wrap_i64]; omega
        have hw2 : IntKind.i64.wrap ((q1 : Int) + 1 - 1) = q1 := by rw [IntKind.wrap_i64]; omega
        have hw3 : ¬ ((q1 : Int) + 1 ≤ q1) := by omega
        have hw4 : (0 : Int) ≤ q1 := by omega
        have hw5 : ((q1 : Int) + 1 - 1).toNat = q1 := by omega
        have hw6 : (0 : Int) ≤ (q1 : Int) + 1 - 1 := by omega
        have hw7 : (q1 : Int) + 1 - 1 < (q1 : Int) + 1 := by omega
        have hqI : (q1 : Int) < (q1 : Int) + 1 := by omega
        have hSr := hS.below hbl
        have c0 : w3.cell? ⟨sb, so + i, none⟩ = some (.int .u8 (bat L i)) := by
          obtain ⟨sb', so', e, -, hSy⟩ := hSr.at0 (by omega)
          cases e
          exact hSy i (by omega)
        have B1 := Arr.new w3 5 #[.int .u8 (bat L i)]
        have hsl : SlL (w3.alloc (.cells #[.int .u8 (bat L i)] 5)) (some ⟨w3.heap.size, 0, none⟩) [bat L i] := fun _ => ⟨_, 0, rfl, fun t ht => by
          obtain rfl : t = 0 := by have : t < 1 := ht; omega
          exact B1.cell 0⟩
        have hbodyA := hR3.out.body.alloc (.cells #[.int .u8 (bat L i)] 5)
        go_region_law (refine step_append_at rfl (.tmp 59) (.tmp 64) rfl (w3.alloc (.cells #[.int .u8 (bat L i)] 5)) (by exact ⟨rfl, rfl, rfl, rfl⟩) w.heap.size (.slice none 0 0) 0 [] (by simp [Act.eval, Act.put]) hbodyA ⟨w3.heap.size, 0, none⟩ (bat L i) (by simp [Act.eval, Act.put]) hsl (by omega) (by simp <;> omega) ?_; intro v4 w4 hown4 hg4 hob4; obtain ⟨b4, c4, rfl⟩ := own_someF hown4 (by omega); obtain ⟨hG4, hC4⟩ := hR3.out.keep hqX.out hg4)
        all_goals (
          go_wp2
          go_roundw
          case rel => exact ⟨i + 1, g3, c3, q1, X ++ [f], _, rfl, by omega, rfl, hqX, Hid.mk' (hR3.out.fill hiL (by show 0 < z; omega) hqX.out hown4 hg4 hob4), by omega, Hid.mk' (.inr (Nat.succ_pos _))⟩
          case measure => simp [intOf]; omega)
      · have hfb : ((f.n : Int) == z) = false := by simp; omega
        have B1 := Arr.new wr 5 #[.int .u8 (bat L i)]
        have hsl : SlL (wr.alloc (.cells #[.int .u8 (bat L i)] 5)) (some ⟨wr.heap.size, 0, none⟩) [bat L i] := fun _ => ⟨_, 0, rfl, fun t ht => by
          obtain rfl : t = 0 := by have : t < 1 := ht; omega
          exact B1.cell 0⟩
        have hbodyA := hR.out.body.alloc (.cells #[.int .u8 (bat L i)] 5)
        go_wp2
        go_region_law (refine step_append_at rfl (.tmp 59) (.tmp 64) rfl (wr.alloc (.cells #[.int .u8 (bat L i)] 5)) (by exact ⟨rfl, rfl, rfl, rfl⟩) w.heap.size _ f.n f.bs (by simp [Act.eval, Act.put]) hbodyA ⟨wr.heap.size, 0, none⟩ (bat L i) (by simp [Act.eval, Act.put]) hsl (by omega) (by simp <;> omega) ?_; intro v4 w4 hown4 hg4 hob4; obtain ⟨b4, c4, rfl⟩ := own_someF hown4 (by omega); obtain ⟨hG4, hC4⟩ := hR.out.keep hq.out hg4)
        all_goals (
          go_wp2
          go_roundw
          case rel => exact ⟨i + 1, g, cq, q, X, _, rfl, by omega, rfl, hq, Hid.mk' (hR.out.fill hiL (by omega) hq.out hown4 hg4 hob4), by omega, Hid.mk' (.inr (Nat.succ_pos _))⟩
          case measure => simp [intOf]; omega)
    · obtain rfl : i = n := by omega
      have hI : ¬ (i : Int) < i := by omega
      go_wp2
      go_ret2
      have hsetO : ∀ b, b ≠ g → (wr.setCell ⟨g, q * 4 + 2, none⟩ (.bool true)).heap[b]? = wr.heap[b]? := fun b hb => Below.heap_setCell _ _ _ _ hb
      have hiL : i = L.length := hln.out
      have hown' := own_setLast hR.out.own rfl hq.out.symm true
      have hfl := own_lenF hR.out.body
      rw [hq.out] at hown'
      refine ⟨hbl.setCell (p := ⟨g, q * 4 + 2, none⟩) hgl.1 _, .inr ⟨by rw [← hiL]; omega, some ⟨g, 0, none⟩, q + 1, cq, X ++ [⟨f.ch, f.seq, true, f.sp, f.n, f.cap, f.bs⟩], rfl, by simp [hq.out], hown', fun x hx => ?_, ?_, by simp [hq.out]; omega⟩⟩
      · rcases List.mem_append.1 hx with hx | hx
        · have h2 := (hR.out.of x hx).agree (w' := wr.setCell ⟨g, q * 4 + 2, none⟩ (.bool true)) ⟨by simp [World.setCell], fun b hb h => hsetO b h.2.1⟩
          exact h2.mono fun b _ h => ⟨h.1, fun e => h.2.1 (by simpa [Value.ownBlock] using e)⟩
        · simp at hx; subst hx
          have hm := hR.out.mid
          have hmle := hm.fle
          obtain ⟨s', c', e', hB, hge⟩ := own_bs hR.out.body (hm.bts hbtL.out) (by omega)
          cases e'
          have h1 : BSs (fun b => w.heap.size ≤ b ∧ b ≠ g) wr f.sp f.n f.cap f.bs := ⟨hB, own_mono hR.out.body (Nat.zero_le _), fun b off e => ⟨(hge b off e).1, hR.out.ne b (by rw [e]; rfl)⟩⟩
          have h2 := h1.agree (w' := wr.setCell ⟨g, q * 4 + 2, none⟩ (.bool true)) ⟨by simp [World.setCell], fun b hb h => hsetO b h.2⟩
          have hqq := hq.out
          refine ⟨by show 0 ≤ f.ch; rw [hm.fch]; exact hc0, by show f.ch ≤ _; rw [hm.fch]; exact hc1, by show _ ≤ f.seq; rw [hm.fseq]; omega, by show f.seq ≤ _; rw [hm.fseq]; omega, h2.mono fun b _ h => ⟨h.1, fun e => h.2 (by simpa [Value.ownBlock] using e)⟩⟩
      · subst hiL
        rw [Int.toNat_natCast]
        refine (hR.out.mid.mid ?_).done h1 _ rfl
        rcases hp.out with e | e
        · left
          have := hq.out
          exact List.length_eq_zero_iff.1 (by omega)
        · right; omega

theorem refSplit_any (c z : Int) (sp : Option Addr) (n cap : Nat) (L : List Int) (N : Nat) (w : World) (hS : BS N w sp n cap L) (hc0 : 0 ≤ c) (hc1 : c ≤ 18446744073709551615) (hz0 : -9223372036854775808 ≤ z) (hz1 : z ≤ 9223372036854775807) :
    Calls Try.prog 18 #[.int .u64 c, .slice sp n cap, .int .i64 z] w (SPost c z L w) := by
  by_cases h : z < 1 ∨ 4096 < z ∨ z * 1024 < L.length
  · exact refSplit_bad c z sp n cap L N w hS hz0 hz1 h
  · obtain ⟨k, rfl⟩ : ∃ k : Nat, z = k := ⟨z.toNat, by omega⟩
    have hl := hS.len.out
    exact refSplit_good c k sp n cap L w hS.here hc0 hc1 (by omega) (by omega) (by omega)
end Go.Proofs.Ytbjlmekafnpllab
