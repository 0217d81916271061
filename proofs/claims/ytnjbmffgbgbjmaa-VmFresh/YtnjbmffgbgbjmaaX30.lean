/- Vq, Yb, Vr, Vs, Vt. -/
import Derived.Test.YtnjbmffgbgbjmaaX19
import Derived.Test.YtnjbmffgbgbjmaaX20
import Derived.Test.YtnjbmffgbgbjmaaX21
import Derived.Test.YtnjbmffgbgbjmaaX22
import Derived.Test.YtnjbmffgbgbjmaaX23
import Derived.Test.YtnjbmffgbgbjmaaX24
import Derived.Test.YtnjbmffgbgbjmaaX25
import Derived.Test.YtnjbmffgbgbjmaaX26
import Derived.Test.YtnjbmffgbgbjmaaX27
import Derived.Test.YtnjbmffgbgbjmaaX28
import Derived.Test.YtnjbmffgbgbjmaaX29
import Derived.Recover
import Derived.Test.YtnjbmffgbgbjmaaX18
import Derived.Test.YtnjbmffgbgbjmaaX08
/- Layer vm: what catches a trap; a step of whatever machine. -/
namespace Go.Proofs.Ytnjbmffgbgbjmaa
open Go.RowKit
set_option maxRecDepth 100000
set_option linter.unusedVariables false
set_option linter.unusedSimpArgs false

theorem nil20 (w : World) : (binOp .eql 20 .nilIface .nilIface).run Try.prog w = .ok (.bool true) w := by rfl
theorem some20 (w : World) : (binOp .eql 20 (.iface 90 (.agg #[])) .nilIface).run Try.prog w = .ok (.bool false) w := by rfl
theorem assert90 (w : World) : (Instr.typeAssert (.iface 90 (.agg #[])) 20 90 true).run Try.prog w = .ok (.tuple #[.agg #[], .bool true]) w := by kernel_rfl
theorem catch_idle (p : Addr) (w : World) :
    CallsD Try.prog 41 #[.pointer (some p)] .returning w fun e u' w' => e = .returned (.tuple #[]) ∧ u' = .returning ∧ w' = w := by
  have h1 := nil20
  refine callsD_of_wpS Try.func41 rfl fun c₀ cs hu => ?_
  apply wpS_seq
  apply wpS_region
  simp [wpOpsS, go_sem, recoverD, hu, Try.ntmps41, Exit.thenS]
  refine wpS_of_wp ?_
  go_wp2
  cases c₀
  simp_all [bodyPostS, results, Try.results41]
set_option maxHeartbeats 1000000 in
theorem catch_trap (q g : Nat) (w : World) (hq : Arr w q 88 #[.pointer (some ⟨g, 0, none⟩)]) (c17 : ∃ x, w.cell? ⟨g, 17, none⟩ = some x) (fz : w.frozen? ⟨g, 17, none⟩ = false) (hg : g < w.heap.size) :
    CallsD Try.prog 41 #[.pointer (some ⟨q, 0, none⟩)] (.panicking trapV) w fun e u' w' => e = .returned (.tuple #[]) ∧ u' = .panicking [{ v := .iface 90 (.agg #[]), recovered := true }] ∧ w' = (w.setCell ⟨g, 17, none⟩ (.int .u8 2)).alloc (.cells #[] 90) := by
  have h1 := some20
  have h2 := assert90
  have hc : ∀ o, (w.alloc o).cell? ⟨q, 0, none⟩ = some (.pointer (some ⟨g, 0, none⟩)) := fun o => (hq.alloc o).cell 0
  obtain ⟨x, hx⟩ := c17
  have hc2 : ∀ o, (w.alloc o).cell? ⟨g, 17, none⟩ = some x := fun o => (World.cell?_alloc_lt _ _ _ hg).trans hx
  have hz : ∀ o, (w.alloc o).frozen? ⟨g, 17, none⟩ = false := fun o => by
    simp only [World.frozen?] at fz ⊢
    rw [Below.heap_alloc _ _ _ hg]
    exact fz
  refine callsD_of_wpS Try.func41 rfl fun c₀ cs hu => ?_
  apply wpS_seq
  apply wpS_region
  simp [wpOpsS, go_sem, recoverD, hu, Try.ntmps41, Exit.thenS, trapV]
  refine wpS_of_wp ?_
  change Code.wp _ _ _ { tmps := #[.pointer (some ⟨q, 0, none⟩), undef, undef, undef, .iface 90 (.agg #[]), undef, undef, undef, undef, undef, undef, undef, undef, undef], defers := [] } _
  go_wp2
  exact ⟨rfl, _, rfl, _, results_none Try.results41 _ _ _, rfl, rfl, rfl⟩
variable {N : Nat} {es : List En} {g gm gp n cap : Nat} {sp : Option Addr} {nk ck : Nat} {m : Mc}
set_option maxHeartbeats 1000000 in
theorem step_t0 (w : World) (hV : VM N es w g gm gp n cap sp nk ck m) (hp : (n : Int) ≤ m.pc) : Calls Try.prog 42 #[.pointer (some ⟨g, 0, none⟩)] w (StPost N es g gm gp n cap sp nk ck m (stp es m) w) := by
  have hex : stp es m = none := by unfold stp; rw [if_neg (by rw [← hV.en.len.out]; omega)]
  have c0 := hV.en.c0
  have c18 := hV.en.c18
  have hn := hV.en.small
  replace hex := Hid.mk' hex
  go_enter Try.func42, Try.ntmps42
  go_wp2_with (go_at_call 51; go_must (refine (word_no w c18 hn hp).mono ?_; rintro e w1 ⟨rfl, h⟩; replace h := h.symm; subst h))
  exact ⟨rfl, stNo hV hex.out (Below.refl _ _)⟩
set_option maxHeartbeats 1000000 in
theorem step_t1 (w : World) (hV : VM N es w g gm gp n cap sp nk ck m) {pN : Nat} {x : Int} (hp : m.pc = (pN : Int)) (hpn : pN < n) (hx : m.me.getD pN 0 = x) (hd : dOk x = false) : Calls Try.prog 42 #[.pointer (some ⟨g, 0, none⟩)] w (StPost N es g gm gp n cap sp nk ck m (stp es m) w) := by
  have hex : stp es m = none := by
    unfold stp
    rw [hp, Int.toNat_natCast, hx, hd]
    simp
  have c0 := hV.en.c0
  have c18 := hV.en.c18
  have hn := hV.en.small
  have cx := hV.en.cm hpn
  rw [hx] at cx
  have hU : U64 x := by rw [← hx]; exact hV.en.ok.me _
  have hv := dV_no hd
  replace hv := Hid.mk' hv
  replace hd := Hid.mk' hd
  replace hp := Hid.mk' hp
  replace hex := Hid.mk' hex
  clear hx
  go_enter Try.func42, Try.ntmps42
  go_wp2_with (first
    | (go_at_call 51; go_must (refine (word_ok w c18 hn hp.out hpn).mono ?_; rintro e w1 ⟨rfl, h⟩; replace h := h.symm; subst h))
    | (go_at_call 9; go_must (refine (decode_any w hU).mono ?_; rintro e w2 ⟨rfl, hb2⟩; rw [hv.out, hd.out]; unfold cdA)))
  exact ⟨rfl, stNo hV hex.out (hb2.alloc hb2.size _)⟩
theorem ops25 {o : Int} (h : 1 ≤ o ∧ o ≤ 25) : o = 1 ∨ o = 2 ∨ o = 3 ∨ o = 4 ∨ (5 ≤ o ∧ o ≤ 16) ∨ o = 17 ∨ o = 18 ∨ o = 19 ∨ o = 20 ∨ o = 21 ∨ o = 22 ∨ o = 23 ∨ o = 24 ∨ o = 25 := by omega
theorem step_any (w : World) (hV : VM N es w g gm gp n cap sp nk ck m) : Calls Try.prog 42 #[.pointer (some ⟨g, 0, none⟩)] w (StPost N es g gm gp n cap sp nk ck m (stp es m) w) := by
  have hp0 := hV.en.ok.pc.1
  by_cases hp : m.pc < n
  · obtain ⟨pN, hpN⟩ : ∃ k : Nat, m.pc = k := ⟨m.pc.toNat, by omega⟩
    have hpn : pN < n := by omega
    obtain ⟨x, hx⟩ : ∃ x, m.me.getD pN 0 = x := ⟨_, rfl⟩
    have hU : U64 x := by rw [← hx]; exact hV.en.ok.me _
    cases hd : dOk x with
    | false => exact step_t1 w hV hpN hpn hx hd
    | true =>
      have hR := dRg hU
      obtain ⟨a, ha⟩ : ∃ k : Nat, dA x = k := ⟨(dA x).toNat, by omega⟩
      obtain ⟨b, hb⟩ : ∃ k : Nat, dB x = k := ⟨(dB x).toNat, by omega⟩
      obtain ⟨c, hc⟩ : ∃ k : Nat, dC x = k := ⟨(dC x).toNat, by omega⟩
      have hst : stp es m = ex es m (dOp x) a b c (dI x) := by
        unfold stp
        rw [hpN, Int.toNat_natCast, hx, hd, ha, hb, hc, if_pos (by rw [← hV.en.len.out]; omega), if_pos rfl]
        simp
      rw [hst]
      have ho25 : 1 ≤ dOp x ∧ dOp x ≤ 25 := by
        unfold dOk at hd
        have := of_decide_eq_true hd
        exact ⟨this.1, this.2.1⟩
      obtain ⟨i, hi⟩ : ∃ i, dI x = i := ⟨_, rfl⟩
      obtain ⟨o, ho⟩ : ∃ o, dOp x = o := ⟨_, rfl⟩
      rw [hi, ho]
      rw [ho] at ho25
      rcases ops25 ho25 with rfl | rfl | rfl | rfl | h5 | rfl | rfl | rfl | rfl | rfl | rfl | rfl | rfl | rfl
      · exact step_1 w hV hpN hpn hx hd ho ha hb hc hi
      · exact step_2 w hV hpN hpn hx hd ho ha hb hc hi
      · exact step_3 w hV hpN hpn hx hd ho ha hb hc hi
      · exact step_4 w hV hpN hpn hx hd ho ha hb hc hi
      · exact step_o w hV hpN hpn hx hd ho ha hb hc hi h5
      · exact step_17 w hV hpN hpn hx hd ho ha hb hc hi
      · exact step_18 w hV hpN hpn hx hd ho ha hb hc hi
      · exact step_19 w hV hpN hpn hx hd ho ha hb hc hi
      · exact step_20 w hV hpN hpn hx hd ho ha hb hc hi
      · exact step_21 w hV hpN hpn hx hd ho ha hb hc hi
      · exact step_22 w hV hpN hpn hx hd ho ha hb hc hi
      · exact step_23 w hV hpN hpn hx hd ho ha hb hc hi
      · exact step_24 w hV hpN hpn hx hd ho ha hb hc hi
      · exact step_25 w hV hpN hpn hx hd ho ha hb hc hi
  · exact step_t0 w hV (by omega)
end Go.Proofs.Ytnjbmffgbgbjmaa
/- Layer vm, the document's step: a machine in place. -/
namespace Go.Proofs.Ytnjbmffgbgbjmaa
open Go.RowKit
set_option maxRecDepth 100000
set_option linter.unusedVariables false
set_option linter.unusedSimpArgs false

/-- A machine of the document's, and what is known to it. -/
structure DM (N : Nat) (es : List En) (w : World) (g gm n cap : Nat) (sp : Option Addr) (nk ck : Nat) (m : Mc) : Prop where
  en : EN w g 45 [] gm n cap m
  known : ES N w sp nk ck es
  le : N ≤ g ∧ N ≤ gm
variable {N : Nat} {es : List En} {w w' : World} {g gm n cap : Nat} {sp : Option Addr} {nk ck : Nat} {m m' : Mc}
theorem DM.bel (h : DM N es w g gm n cap sp nk ck m) (hb : Below w.heap.size w w') : DM N es w' g gm n cap sp nk ck m := by
  have h1 := h.en.lt
  have h2 := h.le
  exact ⟨h.en.bel hb, h.known.below (hb.mono (by omega)), h.le⟩
theorem DM.setCell (h : DM N es w g gm n cap sp nk ck m) {a : Addr} {v : Value} (ha : a.block = g ∨ a.block = gm) (he : EN (w.setCell a v) g 45 [] gm n cap m') : DM N es (w.setCell a v) g gm n cap sp nk ck m' := by
  have h2 := h.le
  exact ⟨he, h.known.below ((Below.refl N w).setCell (by rcases ha with e | e <;> rw [e] <;> omega) v), h.le⟩
def C2 (g gm k : Nat) : Prop := k = g ∨ k = gm
theorem Chg.g2 {a b : World} (h : Chg (C2 g gm) a b) (j : Nat) (v : Value) : Chg (C2 g gm) a (b.setCell ⟨g, j, none⟩ v) := h.setCell v (fun _ => .inl rfl)
theorem Chg.m2 {a b : World} (h : Chg (C2 g gm) a b) (j : Nat) (v : Value) : Chg (C2 g gm) a (b.setCell ⟨gm, j, none⟩ v) := h.setCell v (fun _ => .inr rfl)
/-- What the document's step comes to. -/
def DoPost (N : Nat) (es : List En) (g gm n cap : Nat) (sp : Option Addr) (nk ck : Nat) (m : Mc) (o : Option Mc) (w : World) (e : Ending) (w' : World) : Prop :=
  Chg (C2 g gm) w w' ∧ w.heap.size ≤ w'.heap.size ∧ ((∃ m', o = some m' ∧ e = .returned (.bool true) ∧ DM N es w' g gm n cap sp nk ck m') ∨ (o = none ∧ e = .returned (.bool false) ∧ DM N es w' g gm n cap sp nk ck m))
theorem doYes {o : Option Mc} {W : World} (hW : Below w.heap.size w W) {m' : Mc} (ho : o = some m') (hb : Chg (C2 g gm) W w') (hs : W.heap.size ≤ w'.heap.size) (hV' : DM N es w' g gm n cap sp nk ck m') : DoPost N es g gm n cap sp nk ck m o w (.returned (.bool true)) w' :=
  ⟨(Chg.of_below hW).trans hb, Nat.le_trans hW.size hs, .inl ⟨m', ho, rfl, hV'⟩⟩
theorem doNo {o : Option Mc} (hV : DM N es w g gm n cap sp nk ck m) (ho : o = none) (hW : Below w.heap.size w w') : DoPost N es g gm n cap sp nk ck m o w (.returned (.bool false)) w' :=
  ⟨Chg.of_below hW, hW.size, .inr ⟨ho, rfl, hV.bel hW⟩⟩
theorem DM.setReg (h : DM N es w g gm n cap sp nk ck m) {a : Nat} (ha : a < 16) {x : Int} (hx : U64 x) : DM N es (w.setCell ⟨g, 1 + a, none⟩ (.int .u64 x)) g gm n cap sp nk ck { m with rg := m.rg.set a x } := h.setCell (.inl rfl) (h.en.setReg ha hx)
theorem DM.setPc (h : DM N es w g gm n cap sp nk ck m) {x : Int} (hx : U64 x) : DM N es (w.setCell ⟨g, 0, none⟩ (.int .u64 x)) g gm n cap sp nk ck { m with pc := x } := h.setCell (.inl rfl) (h.en.setPc hx)
theorem DM.setSt (h : DM N es w g gm n cap sp nk ck m) {x : Int} (hx : 0 ≤ x ∧ x < 256) : DM N es (w.setCell ⟨g, 17, none⟩ (.int .u8 x)) g gm n cap sp nk ck { m with st := x } := h.setCell (.inl rfl) (h.en.setSt hx)
theorem DM.setMem (h : DM N es w g gm n cap sp nk ck m) {k : Nat} (hk : k < n) {x : Int} (hx : U64 x) : DM N es (w.setCell ⟨gm, k, none⟩ (.int .u64 x)) g gm n cap sp nk ck { m with me := m.me.set k x } := h.setCell (.inr rfl) (h.en.setMem hk hx)
theorem DM.put (h : DM N es w g gm n cap sp nk ck m) {a : Nat} (ha : a < 16) {x : Int} (hx : U64 x) : DM N es ((w.setCell ⟨g, 1 + a, none⟩ (.int .u64 x)).setCell ⟨g, 0, none⟩ (.int .u64 (IntKind.u64.wrap (m.pc + 1)))) g gm n cap sp nk ck (m.put a x) := (h.setReg ha hx).setPc (U64.wrap _)
end Go.Proofs.Ytnjbmffgbgbjmaa
/- Layer vm: run. -/
namespace Go.Proofs.Ytnjbmffgbgbjmaa
open Go.RowKit
set_option maxRecDepth 100000
set_option linter.unusedVariables false
set_option linter.unusedSimpArgs false

theorem rn_stop {es : List En} {m : Mc} (h : m.st ≠ 0) (k : Nat) : rn es k m = (m, 0) := by
  cases k with
  | zero => rfl
  | succ k => simp [rn, h]
theorem rn_go {es : List En} {m : Mc} (h : m.st = 0) (k : Nat) : rn es (k + 1) m = ((rn es k (tick es m)).1, (rn es k (tick es m)).2 + 1) := by simp [rn, h]
theorem rn_next {es : List En} {m mk : Mc} {F k : Nat} (hk : k < F) (h0 : mk.st = 0) (h : rn es F m = ((rn es (F - k) mk).1, (rn es (F - k) mk).2 + k)) : rn es F m = ((rn es (F - (k + 1)) (tick es mk)).1, (rn es (F - (k + 1)) (tick es mk)).2 + (k + 1)) := by
  rw [h, show F - k = (F - (k + 1)) + 1 by omega, rn_go h0]
  simp only [Prod.mk.injEq, true_and]
  omega
variable {N : Nat} {es : List En} {g gm gp n cap : Nat} {sp : Option Addr} {nk ck : Nat} {m : Mc}
/-- What run comes to. -/
def RuPost (N : Nat) (es : List En) (g gm gp n cap : Nat) (sp : Option Addr) (nk ck : Nat) (r : Mc × Nat) (w : World) (e : Ending) (w' : World) : Prop :=
  e = .returned (.int .i64 (r.2 : Int)) ∧ Chg (C3 g gm gp) w w' ∧ VM N es w' g gm gp n cap sp nk ck r.1
theorem VM.oth {w w' : World} (hV : VM N es w g gm gp n cap sp nk ck m) {q : Nat} {C : Array Value} {t : TypeId} (hq : Arr w q t C) (ht : t ≠ 82) (ht2 : t ≠ 26) (hc : Chg (C3 g gm gp) w w') : Arr w' q t C := by
  refine (hc.block q hq.lt ?_).trans hq
  rintro (e | e | e)
  · subst e
    have h1 := hV.en.eng
    rw [Arr, hq] at h1
    cases h1
    exact ht rfl
  · subst e
    obtain ⟨D, h1, -⟩ := hV.en.mem
    rw [Arr, hq] at h1
    cases h1
    exact ht2 rfl
  · subst e
    obtain ⟨f, ⟨L, ck', h1, -⟩, -⟩ := hV.map
    rw [Arr, h1] at hq
    cases hq
set_option maxHeartbeats 2000000 in
theorem run_any (w : World) (hV : VM N es w g gm gp n cap sp nk ck m) {F : Nat} {x : Int} (hx : x = (F : Int)) (hF : F ≤ 4194304) :
    Calls Try.prog 36 #[.pointer (some ⟨g, 0, none⟩), .int .i64 x] w (RuPost N es g gm gp n cap sp nk ck (rn es F m) w) := by
  subst hx
  have hmf : ∀ (fn : Fn) (first cap : Array Value) (w : World), (Instr.makeFunc fn first cap).run Try.prog w = .ok (.func fn first cap) w := fun _ _ _ _ => rfl
  have hV1 := hV.bel (alloc_bel' w (.cells #[.pointer (some ⟨g, 0, none⟩)] 88))
  go_enter_defers Try.func36, Try.ntmps36
  go_wp2_with fail
  go_loopw [4] (fun v wr => ∃ (k : Nat) (mk : Mc), v = .int .i64 (k : Int) ∧ k ≤ F ∧ VM N es wr g gm gp n cap sp nk ck mk ∧ Chg (C3 g gm gp) w wr ∧ Arr wr w.heap.size 88 #[.pointer (some ⟨g, 0, none⟩)] ∧ Hid (rn es F m = ((rn es (F - k) mk).1, (rn es (F - k) mk).2 + k)))
    (fun v _ => F - (intOf v).toNat)
  case atStart => exact ⟨0, m, rfl, by omega, hV1, Chg.of_below (alloc_bel' _ _), Arr.new _ _ _, Hid.mk' (by simp)⟩
  case round =>
    clear hV1
    obtain ⟨k, mk, rfl, hk, hVr, hcg, hA, hrn⟩ := hrel
    have qc : wr.cell? ⟨w.heap.size, 0, none⟩ = some (.pointer (some ⟨g, 0, none⟩)) := hA.cell 0
    have c17 := hVr.en.c17
    by_cases hlt : k < F
    · have hI : (k : Int) < F := by omega
      by_cases hst : mk.st = 0
      · have hst' : (mk.st == 0) = true := by simpa using hst
        have hnx := Hid.mk' (rn_next hlt hst hrn.out)
        replace hst := Hid.mk' hst
        go_wp2_with (go_at_call 42; go_must (refine (step_any wr hVr).mono ?_; rintro e w1 ⟨hc1, hs1, ⟨m', hm', rfl, hV1⟩ | ⟨hm', rfl, hV1⟩⟩))
        · have A1 := hVr.oth hA (by decide) (by decide) hc1
          have ht : tick es mk = m' := by unfold tick; rw [hm']; rfl
          rw [ht] at hnx
          clear hm' ht
          go_roundw
          case rel => exact ⟨k + 1, m', by go_num, by omega, hV1, hcg.trans hc1, A1, hnx⟩
          case measure => simp [intOf]; omega
        · have A1 := hVr.oth hA (by decide) (by decide) hc1
          have ht : tick es mk = { mk with st := 2 } := by unfold tick; rw [hm']; rfl
          have hfin : rn es F m = ({ mk with st := 2 }, k + 1) := by
            rw [hnx.out, ht, rn_stop (by simp)]
            simp
          refine leaves_cons (f := 41) (args := #[.pointer (some ⟨w.heap.size, 0, none⟩)]) (by simp) (by simp [go_sem]) ?_
          refine (catch_trap w.heap.size g w1 A1 ⟨_, hV1.en.c17⟩ (hV1.en.fz 17) hV1.en.lt).mono ?_
          rintro e u' w'' ⟨rfl, rfl, rfl⟩
          refine ⟨.int .i64 ((k : Int) + 1), by simp [results, Try.results36, go_sem], ?_⟩
          unfold RuPost
          rw [hfin]
          have hV2 := hV1.setSt (x := 2) (by omega)
          exact ⟨by simp, ((hcg.trans hc1).sg _ _).alloc _, hV2.bel (alloc_bel' _ _)⟩
      · have hst' : (mk.st == 0) = false := by simpa using hst
        have hfin : Hid (rn es F m = (mk, k)) := Hid.mk' (by rw [hrn.out, rn_stop hst]; simp)
        replace hst := Hid.mk' hst
        go_wp2_with fail
        refine leaves_cons (f := 41) (args := #[.pointer (some ⟨w.heap.size, 0, none⟩)]) (by simp) (by simp [go_sem]) ?_
        refine (catch_idle ⟨w.heap.size, 0, none⟩ _).mono ?_
        rintro e u' w'' ⟨rfl, rfl, rfl⟩
        refine ⟨.int .i64 (k : Int), by simp [results, Try.results36, go_sem], ?_⟩
        unfold RuPost
        rw [hfin.out]
        exact ⟨rfl, hcg, hVr⟩
    · obtain rfl : k = F := by omega
      have hI : ¬ (k : Int) < k := by omega
      have hfin : Hid (rn es k m = (mk, k)) := Hid.mk' (by rw [hrn.out]; simp [rn])
      go_wp2_with fail
      refine leaves_cons (f := 41) (args := #[.pointer (some ⟨w.heap.size, 0, none⟩)]) (by simp) (by simp [go_sem]) ?_
      refine (catch_idle ⟨w.heap.size, 0, none⟩ _).mono ?_
      rintro e u' w'' ⟨rfl, rfl, rfl⟩
      refine ⟨.int .i64 (k : Int), by simp [results, Try.results36, go_sem], ?_⟩
      unfold RuPost
      rw [hfin.out]
      exact ⟨rfl, hcg, hVr⟩
end Go.Proofs.Ytnjbmffgbgbjmaa
/- Layer vm: machines as values; which may be; their words copied. -/
namespace Go.Proofs.Ytnjbmffgbgbjmaa
open Go.RowKit
set_option maxRecDepth 100000
set_option linter.unusedVariables false
set_option linter.unusedSimpArgs false

/-- Words in memory, wherever. -/
structure MS (N : Nat) (w : World) (sp : Option Addr) (n cap : Nat) (L : List Int) : Prop where
  len : Hid (n = L.length)
  nil : sp = none → n = 0 ∧ cap = 0
  le : n ≤ cap
  big : cap ≤ 9223372036854775807
  small : n ≤ 17592186044416
  at0 : 0 < n → ∃ g off, sp = some ⟨g, off, none⟩ ∧ g < N ∧ ∀ t, t < n → w.cell? ⟨g, off + t, none⟩ = some (.int .u64 (L.getD t 0))
theorem MS.mono {N N' : Nat} {w : World} {sp : Option Addr} {n cap : Nat} {L : List Int} (h : MS N w sp n cap L) (hN : N ≤ N') : MS N' w sp n cap L :=
  ⟨h.len, h.nil, h.le, h.big, h.small, fun h0 => let ⟨b, off, e, hb, hB⟩ := h.at0 h0; ⟨b, off, e, by omega, hB⟩⟩
theorem MS.below {N : Nat} {w w' : World} {sp : Option Addr} {n cap : Nat} {L : List Int} (h : MS N w sp n cap L) (hb : Below N w w') : MS N w' sp n cap L :=
  ⟨h.len, h.nil, h.le, h.big, h.small, fun h0 => let ⟨b, off, e, hbN, hB⟩ := h.at0 h0; ⟨b, off, e, hbN, fun t ht => (hb.cell (p := ⟨b, off + t, none⟩) hbN).trans (hB t ht)⟩⟩
theorem MS.here {N : Nat} {w : World} {sp : Option Addr} {n cap : Nat} {L : List Int} (h : MS N w sp n cap L) : MS w.heap.size w sp n cap L :=
  ⟨h.len, h.nil, h.le, h.big, h.small, fun h0 => let ⟨b, off, e, hb, hB⟩ := h.at0 h0; ⟨b, off, e, block_lt_of_cell (hB 0 h0), hB⟩⟩
theorem MS.nil0 (N : Nat) (w : World) : MS N w none 0 0 [] := ⟨rfl, fun _ => ⟨rfl, rfl⟩, Nat.le_refl _, by omega, by omega, fun h => absurd h (by omega)⟩
theorem MW.ms {w : World} {gm n cap : Nat} {L : List Int} (h : MW w gm L) (hl : n = L.length) (hn : n ≤ 17592186044416) (hc : n ≤ cap ∧ cap ≤ 9223372036854775807) : MS w.heap.size w (some ⟨gm, 0, none⟩) n cap L :=
  ⟨hl, (fun e => by cases e), hc.1, hc.2, hn, fun _ => ⟨gm, 0, rfl, h.lt, fun t ht => by rw [Nat.zero_add]; exact h.cell (by omega)⟩⟩
/-- A machine by value. -/
def mcA (m : Mc) (sp : Option Addr) (n cap : Nat) : Array Value := (mcL m (.slice sp n cap)).toArray
theorem mcA_size {m : Mc} (h : m.rg.length = 16) (sp : Option Addr) (n cap : Nat) : (mcA m sp n cap).size = 19 := by simp [mcA, mcL_len h]
theorem mcA_one (m : Mc) (sp : Option Addr) (n cap : Nat) : (mcA m sp n cap).all (·.oneCell') = true := all_oneCell_toArray (by
  intro v hv
  simp only [mcL, by64, List.mem_cons, List.mem_append, List.mem_map, List.not_mem_nil, or_false] at hv
  rcases hv with rfl | ⟨x, -, rfl⟩ | rfl | rfl <;> rfl)
theorem mcA_0 (m : Mc) (sp : Option Addr) (n cap : Nat) : (mcA m sp n cap)[0]? = some (.int .u64 m.pc) := rfl
theorem mcA_r {m : Mc} (h : m.rg.length = 16) (sp : Option Addr) (n cap : Nat) {a : Nat} (ha : a < 16) : (mcA m sp n cap)[1 + a]? = some (.int .u64 (m.get a)) := by
  have := mcL_reg h (.slice sp n cap) [] ha
  rw [List.append_nil] at this
  simp only [mcA, List.getElem?_toArray]
  exact this
theorem mcA_17 {m : Mc} (h : m.rg.length = 16) (sp : Option Addr) (n cap : Nat) : (mcA m sp n cap)[17]? = some (.int .u8 m.st) := by
  have := mcL_st h (.slice sp n cap) []
  rw [List.append_nil] at this
  simpa [mcA] using this
theorem mcA_18 {m : Mc} (h : m.rg.length = 16) (sp : Option Addr) (n cap : Nat) : (mcA m sp n cap)[18]? = some (.slice sp n cap) := by
  have := mcL_me h (.slice sp n cap) []
  rw [List.append_nil] at this
  simpa [mcA] using this
theorem size45 : (Try.prog.info? 45).map (·.size) = some 19 := by kernel_rfl
theorem ld45 {ops : Array Oper} {rest : List Oper} {o : Oper} {a : Act} {w : World} {Q : Exit → Act → World → Prop} (hgd : o.guard = none) (x : Operand) (ho : o.op = .load 45 x)
    (g : Nat) (hx : a.eval x = .pointer (some ⟨g, 0, none⟩)) (C : Array Value) (hC : C.size = 19) (hA : Arr w g 45 C)
    (h : wpList Try.prog ops Q rest (a.put o.dst (.agg C)) w) : wpList Try.prog ops Q (o :: rest) a w :=
  wpList_load_row hgd 45 x ho g hx 45 C (0, 0) _ hA Try.underlying45 rfl (by rw [hC]; exact size45) h
theorem ld45g {ops : Array Oper} {rest : List Oper} {o : Oper} {a : Act} {w : World} {Q : Exit → Act → World → Prop} (hgd : Region.wanted o (yielded ops a.tmps) = true) (x : Operand) (ho : o.op = .load 45 x)
    (g : Nat) (hx : a.eval x = .pointer (some ⟨g, 0, none⟩)) (C : Array Value) (hC : C.size = 19) (hA : Arr w g 45 C)
    (h : wpList Try.prog ops Q rest (a.put o.dst (.agg C)) w) : wpList Try.prog ops Q (o :: rest) a w :=
  wpList_want hgd fun _ hK => wp_load_mid 45 x ho g 0 hx C.toList _ (fun j v hv => by rw [Nat.zero_add, hA.cell]; simpa using hv) Try.underlying45 rfl (by rw [Array.length_toList, hC]; exact size45) (hK _ _ (by simpa using h))
theorem st45 {ops : Array Oper} {rest : List Oper} {o : Oper} {a : Act} {w : World} {Q : Exit → Act → World → Prop} (hgd : o.guard = none) (x y : Operand) (ho : o.op = .store 45 x y)
    (g : Nat) (C : Array Value) (hx : a.eval x = .pointer (some ⟨g, 0, none⟩)) (hy : a.eval y = .agg C) (hC : C.size = 19) (h1 : C.all (·.oneCell') = true) (D : Array Value) (hD : D.size = 19) (hA : Arr w g 45 D)
    (h : wpList Try.prog ops Q rest (a.put o.dst undef) (w.setRow g C)) : wpList Try.prog ops Q (o :: rest) a w :=
  wpList_store_arr hgd 45 x y ho g C hx hy 45 D hA (by rw [hC]; exact size45) (by rw [hC, hD]) h1 h
theorem st45n {ops : Array Oper} {rest : List Oper} {o : Oper} {a : Act} {Q : Exit → Act → World → Prop} (hgd : o.guard = none) (x y : Operand) (ho : o.op = .store 45 x y) (W : World) (g : Nat) (hgW : W.heap.size = g) {z : Array Value} (hz : z.size = 19)
    (C : Array Value) (hx : a.eval x = .pointer (some ⟨g, 0, none⟩)) (hy : a.eval y = .agg C) (hC : C.size = 19) (h1 : C.all (·.oneCell') = true)
    (h : wpList Try.prog ops Q rest (a.put o.dst undef) (W.alloc (.cells C 45))) : wpList Try.prog ops Q (o :: rest) a (W.alloc (.cells z 45)) := by
  subst hgW
  exact wpList_store_new W z 45 hgd 45 x y ho C hx hy (by rw [hC]; exact size45) (by rw [hz, hC]) h1 h
theorem res45 {f : Func} {w : World} {tmps : Array Value} {g t k l : Nat} {C : Array Value} {v u : Value} (hf : f.results = #[.cell t 45, .tmp k, .tmp l]) (hp : tmps.getD t undef = .pointer (some ⟨g, 0, none⟩)) (hk : tmps.getD k undef = v) (hl : tmps.getD l undef = u) (hC : C.size = 19) (hA : Arr w g 45 C) :
    (results f tmps).run Try.prog w = .ok (.tuple #[.agg C, v, u]) w := by
  have hr := run_loadVar_mid (P := Try.prog) w g 0 45 C.toList _ (fun j v hv => by rw [Nat.zero_add, hA.cell]; simpa using hv) Try.underlying45 rfl (by rw [Array.length_toList, hC]; exact size45)
  have hp' : tmps[t]?.getD undef = .pointer (some ⟨g, 0, none⟩) := by simpa using hp
  have hk' : tmps[k]?.getD undef = v := by simpa using hk
  have hl' : tmps[l]?.getD undef = u := by simpa using hl
  simp [results, hf, hp', hk', hl', asAddr, hr]
theorem res45b {f : Func} {w : World} {tmps : Array Value} {g t k : Nat} {C : Array Value} {v : Value} (hf : f.results = #[.cell t 45, .tmp k]) (hp : tmps.getD t undef = .pointer (some ⟨g, 0, none⟩)) (hk : tmps.getD k undef = v) (hC : C.size = 19) (hA : Arr w g 45 C) :
    (results f tmps).run Try.prog w = .ok (.tuple #[.agg C, v]) w := by
  have hr := run_loadVar_mid (P := Try.prog) w g 0 45 C.toList _ (fun j v hv => by rw [Nat.zero_add, hA.cell]; simpa using hv) Try.underlying45 rfl (by rw [Array.length_toList, hC]; exact size45)
  have hp' : tmps[t]?.getD undef = .pointer (some ⟨g, 0, none⟩) := by simpa using hp
  have hk' : tmps[k]?.getD undef = v := by simpa using hk
  simp [results, hf, hp', hk', asAddr, hr]
theorem res45c {f : Func} {w : World} {tmps : Array Value} {g t : Nat} {C : Array Value} (hf : f.results = #[.cell t 45]) (hp : tmps.getD t undef = .pointer (some ⟨g, 0, none⟩)) (hC : C.size = 19) (hA : Arr w g 45 C) :
    (results f tmps).run Try.prog w = .ok (.agg C) w := results_cell_row hf _ _ g 45 _ (0, 0) _ hp hA Try.underlying45 rfl (by rw [hC]; exact size45)
/-- A memory of so many words may be. -/
def szB (n : Nat) : Bool := (List.range 13).any (fun k => n == 2 ^ k)
theorem szB_all : ((List.range 4097).all fun n => (decide (1 ≤ n) && (n &&& (n - 1) == 0)) == szB n) = true := by decide +kernel
theorem szB_and {n : Nat} (h : n ≤ 4096) : (decide (1 ≤ n) && (n &&& (n - 1) == 0)) = szB n := by
  have := szB_all
  rw [List.all_eq_true] at this
  have h2 := this n (by simp; omega)
  simpa using h2
theorem szB_le {n : Nat} (h : szB n = true) : 1 ≤ n ∧ n ≤ 4096 := by
  unfold szB at h
  rw [List.any_eq_true] at h
  obtain ⟨k, hk, e⟩ := h
  simp at hk e
  subst e
  have h1 : 0 < 2 ^ k := Nat.pow_pos (by omega)
  have h2 : 2 ^ k ≤ 2 ^ 12 := Nat.pow_le_pow_right (by omega) (by omega)
  omega
theorem and_i64 {a b : Nat} (ha : a < 4611686018427387904) (hb : b < 4611686018427387904) : bits .and .i64 (a : Int) (b : Int) = ((a &&& b : Nat) : Int) := by
  have e1 : (BitVec.ofInt 64 (a : Int)).toNat = a := by rw [BitVec.ofInt_natCast, BitVec.toNat_ofNat]; exact Nat.mod_eq_of_lt (by omega)
  have e2 : (BitVec.ofInt 64 (b : Int)).toNat = b := by rw [BitVec.ofInt_natCast, BitVec.toNat_ofNat]; exact Nat.mod_eq_of_lt (by omega)
  show IntKind.i64.wrap ((BitVec.ofInt 64 (a : Int) &&& BitVec.ofInt 64 (b : Int)).toNat : Int) = _
  rw [BitVec.toNat_and, e1, e2, IntKind.wrap_i64]
  have := Nat.and_le_left (n := a) (m := b)
  omega
/-- May this number of words be? of whatever number. -/
def szI (x : Int) : Bool := decide (0 ≤ x) && szB x.toNat
theorem szI_nat (n : Nat) : szI (n : Int) = szB n := by simp [szI]
set_option maxHeartbeats 400000 in
theorem maySize_any (x : Int) (w : World) (hx : -9223372036854775808 ≤ x ∧ x ≤ 9223372036854775807) : Calls Try.prog 31 #[.int .i64 x] w fun e w' => e = .returned (.bool (szI x)) ∧ w' = w := by
  by_cases h1 : 1 ≤ x
  · by_cases h2 : x ≤ 4096
    · obtain ⟨n, rfl⟩ : ∃ n : Nat, x = n := ⟨x.toNat, by omega⟩
      have hb := and_i64 (a := n) (b := n - 1) (by omega) (by omega)
      rw [show ((n - 1 : Nat) : Int) = (n : Int) - 1 by omega] at hb
      have hs := szB_and (n := n) (by omega)
      have hf : ((((n &&& (n - 1) : Nat) : Int)) == 0) = szI (n : Int) := by
        rw [szI_nat, ← hs, Bool.eq_iff_iff]
        simp
        omega
      replace hf := Hid.mk' hf
      clear hs
      go_enter Try.func31, Try.ntmps31
      go_wp2
      go_ret
      exact ⟨by rw [← hf.out]; rfl, rfl⟩
    · have hf : szI x = false := by
        cases h : szI x with
        | false => rfl
        | true =>
          unfold szI at h
          have := szB_le (by simpa using (Bool.and_eq_true_iff.1 h).2)
          omega
      rw [hf]
      clear hf
      go_enter Try.func31, Try.ntmps31
      go_wp2
      go_ret
      exact ⟨rfl, rfl⟩
  · have hf : szI x = false := by
      cases h : szI x with
      | false => rfl
      | true =>
        unfold szI at h
        have := szB_le (by simpa using (Bool.and_eq_true_iff.1 h).2)
        omega
    rw [hf]
    clear hf
    go_enter Try.func31, Try.ntmps31
    go_wp2
    go_ret
    exact ⟨rfl, rfl⟩
/-- May this machine be? -/
def mayM (m : Mc) : Bool := szB m.me.length && decide (m.st ≤ 2)
set_option maxHeartbeats 400000 in
theorem may_any (m : Mc) (sp : Option Addr) (n cap : Nat) (w : World) (hok : m.ok) (hl : Hid (n = m.me.length)) (hn : n ≤ 17592186044416) :
    Calls Try.prog 20 #[.agg (mcA m sp n cap)] w fun e w' => e = .returned (.bool (mayM m)) ∧ Below w.heap.size w w' := by
  have A0 := Arr.new w 45 (mcA m sp n cap)
  have c17 := (A0.cell 17).trans (mcA_17 hok.r16 sp n cap)
  have c18 := (A0.cell 18).trans (mcA_18 hok.r16 sp n cap)
  have hz : szI (n : Int) = szB m.me.length := by rw [szI_nat, hl.out]
  have hz := Hid.mk' hz
  unfold mayM
  generalize szB m.me.length = b at *
  generalize mcA m sp n cap = C at *
  cases b
  · go_enter Try.func20, Try.ntmps20
    go_wp2_with (go_at_call 31; go_must (refine (maySize_any _ _ (by omega)).mono ?_; rintro e w1 ⟨rfl, h⟩; subst h; rw [hz.out]))
    go_ret
    exact ⟨rfl, alloc_bel' _ _⟩
  · go_enter Try.func20, Try.ntmps20
    go_wp2_with (go_at_call 31; go_must (refine (maySize_any _ _ (by omega)).mono ?_; rintro e w1 ⟨rfl, h⟩; subst h; rw [hz.out]))
    go_ret
    exact ⟨rfl, alloc_bel' _ _⟩
end Go.Proofs.Ytnjbmffgbgbjmaa
/- Layer vm: a memory copied, a new shelf. -/
namespace Go.Proofs.Ytnjbmffgbgbjmaa
open Go.RowKit
set_option maxRecDepth 100000
set_option linter.unusedVariables false
set_option linter.unusedSimpArgs false

theorem info26 : (Try.prog.info? 26).map (fun i => (i.zero, i.size, i.bytes)) = some (some (.int .u64 0), 1, 8) := by kernel_rfl
theorem by64_one (L : List Int) : ∀ v ∈ by64 L, v.oneCell' = true := by
  intro v hv
  simp only [by64, List.mem_map] at hv
  obtain ⟨x, -, rfl⟩ := hv
  rfl
theorem append_words {N : Nat} {ops : Array Oper} {rest : List Oper} {o : Oper} {a : Act} {w : World} {Q : Exit → Act → World → Prop} (hgd : Region.wanted o (yielded ops a.tmps) = true) (s x : Operand)
    (ho : o.op = .call { callee := .builtin .append, args := #[s, x], argTypes := #[43, 43] })
    (base : Nat) (v : Value) (hs : a.eval s = v) (hown : w.ownsRow base 26 1 v 0 (by64 []))
    (sp : Option Addr) (n c : Nat) (L : List Int) (hx : a.eval x = .slice sp n c) (hS : MS N w sp n c L) (hbase : base ≤ w.heap.size)
    (h : ∀ v' w', w'.ownsRow base 26 1 v' n (by64 L) → w.grownBy w' v.ownBlock → wpList Try.prog ops Q rest (a.put o.dst v') w') : wpList Try.prog ops Q (o :: rest) a w := by
  obtain ⟨i0, hi, hz0, hz1, hz2⟩ := info_parts info26
  refine wpList_want hgd fun K hK => ?_
  have hl := hS.len.out
  cases sp with
  | none =>
    obtain ⟨rfl, rfl⟩ := hS.nil rfl
    obtain rfl : L = [] := List.eq_nil_of_length_eq_zero hl.symm
    have hrun := run_append_owned_none (P := Try.prog) (w := w) base 43 o.type 26 i0 1 Try.underlying43 hi v 0 _ hown
    unfold Oper.wp
    simp [execOp, ho, resolve, invoke, builtin, hs, hx, hrun, Result.andThen]
    exact hK _ _ (h v w hown ⟨rfl, rfl, rfl, Nat.le_refl _, fun _ _ _ => rfl⟩)
  | some ad =>
    have hsm := hS.small
    refine wp_append_own w s x 43 ho base 26 i0 (.int .u64 0) 1 8 Try.underlying43 hi hz0 hz1 hz2 rfl (by omega) v 0 _ hs hown ad n c (by64 L) hx (by rw [by64_len]; omega) ?_ (by64_one L) (by unfold maxLen; omega) (by omega) hbase ?_
    · intro j u hj
      have hjl : j < L.length := by have := (List.getElem?_eq_some_iff.1 hj).1; rwa [by64_len] at this
      obtain ⟨b, off, e, -, hB⟩ := hS.at0 (by omega)
      obtain rfl := Option.some.inj e
      rw [by64_get hjl] at hj
      rw [Addr.add_mid, hB j (by omega)]; exact hj
    · intro v' w' h1 h2 _
      exact hK _ _ (h v' w' (by simpa [by64] using h1) h2)
theorem own64 {w : World} {base n : Nat} {v : Value} {L : List Int} (h : w.ownsRow base 26 1 v n (by64 L)) (h0 : 0 < n) :
    ∃ gm cap, v = .slice (some ⟨gm, 0, none⟩) n cap ∧ n = L.length ∧ base ≤ gm ∧ n ≤ cap ∧ cap ≤ 9223372036854775807 ∧ MW w gm L := by
  obtain ⟨hl, h | ⟨g, cap, cur, rfl, hg, hh, hn, hm, hc, ht⟩⟩ := h
  · omega
  · rw [by64_len, Nat.mul_one] at hl
    subst hl
    refine ⟨g, cap, rfl, rfl, hg, hn, by unfold maxLen at hm; omega, cur, hh, fun t htl => ?_⟩
    rw [← Array.getElem?_toList, ← List.getElem?_take_of_lt (show t < L.length * 1 by omega), ht, by64_get htl]
set_option maxHeartbeats 400000 in
theorem clone64_any (sp : Option Addr) (n cap : Nat) (L : List Int) (N : Nat) (w : World) (hS : MS N w sp n cap L) (h0 : 0 < n) :
    Calls Try.prog 34 #[.slice sp n cap] w fun e w' => ∃ gm cap', e = .returned (.slice (some ⟨gm, 0, none⟩) n cap') ∧ w.heap.size ≤ gm ∧ n ≤ cap' ∧ cap' ≤ 9223372036854775807 ∧ MW w' gm L ∧ Below w.heap.size w w' := by
  have q22 : ∀ (w : World) (a : Option Addr) (n c n' c' : Nat), (binOp .eql 43 (.slice a n c) (.slice none n' c')).run Try.prog w = .ok (.bool a.isNone) w := fun w a n c n' c' => Lib.run_eql_slice_nil w _ _ a n c n' c' Try.underlying43
  obtain ⟨g, off, rfl, -⟩ := hS.at0 h0
  have hlit : (w.alloc (.cells #[] 26)).ownsRow w.heap.size 26 1 (.slice (some ⟨w.heap.size, 0, none⟩) 0 0) 0 (by64 []) := World.ownsRow_lit _ _ _ (Nat.le_refl _) (by unfold maxLen; omega) rfl
  have hS' := hS.here.below (alloc_bel' w (.cells #[] 26))
  go_enter Try.func34, Try.ntmps34
  go_wp2_with (at_builtin; go_must (refine append_words (by rfl) (.tmp 5) (.tmp 6) (by rfl) w.heap.size _ (by rfl) hlit (some ⟨g, off, none⟩) n cap L (by rfl) hS' (by simp) ?_; intro v1 w1 hown1 hg1))
  obtain ⟨gm, cap', rfl, -, hb, hc1, hc2, hM⟩ := own64 hown1 h0
  go_ret
  exact ⟨gm, cap', rfl, hb, hc1, hc2, hM, ((Below.refl _ _).alloc (Nat.le_refl _) _).grown hg1 (by simp) (fun k e => by simp [Value.ownBlock] at e; omega)⟩
set_option maxHeartbeats 400000 in
theorem newShelf_any (v : Value) (sp : Option Addr) (n cap : Nat) (hv : v = .slice sp n cap) (w : World) :
    Calls Try.prog 35 #[v] w fun e w' => ∃ gp, e = .returned (.agg #[.slice sp n cap, .map (some gp)]) ∧ w.heap.size ≤ gp ∧ MapH w' gp (fun _ => none) ∧ Below w.heap.size w w' := by
  subst hv
  have hmm := @run_makeMap Try.prog
  go_enter Try.func35, Try.ntmps35
  go_wp2
  exact bodyPost_ret (v := .agg #[.slice sp n cap, .map (some (w.heap.size + 1))]) (results_cell_row Try.results35 _ _ w.heap.size 79 _ (0, 0) _ rfl ((Arr.new w 79 _).alloc _) Try.underlying79 rfl (by kernel_rfl)) rfl ⟨_, rfl, by omega, by simpa using MapH.new (w.alloc (.cells #[.slice sp n cap, .map (some (w.heap.size + 1))] 79)), (alloc_bel' _ _).alloc (by simp) _⟩
end Go.Proofs.Ytnjbmffgbgbjmaa
