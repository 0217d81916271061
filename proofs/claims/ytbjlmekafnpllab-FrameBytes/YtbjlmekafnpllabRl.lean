/- Layer rlp: guarded over bytes, Encode, May. -/
import Derived.Test.YtbjlmekafnpllabRk
namespace Go.Proofs.Ytbjlmekafnpllab
open Go.RowKit
set_option linter.unusedVariables false
set_option linter.unusedSimpArgs false

set_option maxRecDepth 100000 in
theorem nil20 (w : World) : (binOp .eql 20 .nilIface .nilIface).run Try.prog w = .ok (.bool true) w := by rfl
set_option maxRecDepth 100000 in
theorem some20 (x : Int) (w : World) : (binOp .eql 20 (.iface 96 (.agg #[.int .i64 x])) .nilIface).run Try.prog w = .ok (.bool false) w := by rfl
set_option maxRecDepth 100000 in
theorem assert65 (x : Int) (w : World) : (Instr.typeAssert (.iface 96 (.agg #[.int .i64 x])) 20 96 true).run Try.prog w = .ok (.tuple #[.agg #[.int .i64 x], .bool true]) w := by kernel_rfl

set_option maxRecDepth 100000 in
theorem catch_idle39 (p : Addr) (w : World) :
    CallsD Try.prog 53 #[.pointer (some p)] .returning w fun e u' w' => e = .returned (.tuple #[]) ∧ u' = .returning ∧ w' = w := by
  have h1 := nil20
  refine callsD_of_wpS Try.func53 rfl fun c₀ cs hu => ?_
  apply wpS_seq
  apply wpS_region
  simp [wpOpsS, go_sem, recoverD, hu, Try.ntmps53, Exit.thenS]
  refine wpS_of_wp ?_
  go_wp2
  cases c₀
  simp_all [bodyPostS, results, Try.results53]
set_option maxRecDepth 100000 in
set_option maxHeartbeats 1000000 in
theorem catch_wrong39 (g : Nat) (x y : Int) (w : World) (hA : Arr w g 26 #[.int .i64 y]) :
    CallsD Try.prog 53 #[.pointer (some ⟨g, 0, none⟩)] (.panicking (wrong x)) w fun e u' w' => e = .returned (.tuple #[]) ∧ u' = .panicking [{ v := .iface 96 (.agg #[.int .i64 x]), recovered := true }] ∧ w' = (w.setCell ⟨g, 0, none⟩ (.int .i64 x)).alloc (.cells #[.int .i64 x] 96) := by
  have h1 := some20
  have h2 := assert65
  have hlt := hA.lt
  have hc : ∀ o, (w.alloc o).cell? ⟨g, 0, none⟩ = some (.int .i64 y) := fun o => (hA.alloc o).cell 0
  have hz : ∀ o, (w.alloc o).frozen? ⟨g, 0, none⟩ = false := fun o => (hA.alloc o).frozen 0
  refine callsD_of_wpS Try.func53 rfl fun c₀ cs hu => ?_
  apply wpS_seq
  apply wpS_region
  simp [wpOpsS, go_sem, recoverD, hu, Try.ntmps53, Exit.thenS, wrong]
  refine wpS_of_wp ?_
  change Code.wp _ _ _ { tmps := #[.pointer (some ⟨g, 0, none⟩), undef, undef, undef, .iface 96 (.agg #[.int .i64 x]), undef, undef, undef, undef, undef, undef, undef], defers := [] } _
  go_wp2
  exact ⟨rfl, _, rfl, _, results_none Try.results53 _ _ _, rfl, rfl, rfl⟩
set_option maxRecDepth 100000 in
theorem catch_idle45 (p : Addr) (w : World) :
    CallsD Try.prog 60 #[.pointer (some p)] .returning w fun e u' w' => e = .returned (.tuple #[]) ∧ u' = .returning ∧ w' = w := by
  have h1 := nil20
  refine callsD_of_wpS Try.func60 rfl fun c₀ cs hu => ?_
  apply wpS_seq
  apply wpS_region
  simp [wpOpsS, go_sem, recoverD, hu, Try.ntmps60, Exit.thenS]
  refine wpS_of_wp ?_
  go_wp2
  cases c₀
  simp_all [bodyPostS, results, Try.results60]
set_option maxRecDepth 100000 in
set_option maxHeartbeats 1000000 in
theorem catch_wrong45 (g : Nat) (x y : Int) (w : World) (hA : Arr w g 26 #[.int .i64 y]) :
    CallsD Try.prog 60 #[.pointer (some ⟨g, 0, none⟩)] (.panicking (wrong x)) w fun e u' w' => e = .returned (.tuple #[]) ∧ u' = .panicking [{ v := .iface 96 (.agg #[.int .i64 x]), recovered := true }] ∧ w' = (w.setCell ⟨g, 0, none⟩ (.int .i64 x)).alloc (.cells #[.int .i64 x] 96) := by
  have h1 := some20
  have h2 := assert65
  have hlt := hA.lt
  have hc : ∀ o, (w.alloc o).cell? ⟨g, 0, none⟩ = some (.int .i64 y) := fun o => (hA.alloc o).cell 0
  have hz : ∀ o, (w.alloc o).frozen? ⟨g, 0, none⟩ = false := fun o => (hA.alloc o).frozen 0
  refine callsD_of_wpS Try.func60 rfl fun c₀ cs hu => ?_
  apply wpS_seq
  apply wpS_region
  simp [wpOpsS, go_sem, recoverD, hu, Try.ntmps60, Exit.thenS, wrong]
  refine wpS_of_wp ?_
  change Code.wp _ _ _ { tmps := #[.pointer (some ⟨g, 0, none⟩), undef, undef, undef, .iface 96 (.agg #[.int .i64 x]), undef, undef, undef, undef, undef, undef, undef], defers := [] } _
  go_wp2
  exact ⟨rfl, _, rfl, _, results_none Try.results60 _ _ _, rfl, rfl, rfl⟩

set_option maxRecDepth 100000 in
set_option maxHeartbeats 1000000 in
theorem encode1_any (N b : Nat) (x : Value) (l : Bool) (sp : Option Addr) (n cap : Nat) (sq : Option Addr) (k cq : Nat) (o : Option (List Int)) (w : World) (hx : Hid (x = .agg #[.bool l, .slice sp n cap, .slice sq k cq])) (hA : Arr w b 59 #[.bool l, .slice sp n cap, .slice sq k cq]) (hN : N ≤ w.heap.size) (hI : Is N w 16 x o) :
    Calls Try.prog 39 #[.pointer (some ⟨b, 0, none⟩)] w (Grew w.heap.size w 0 [] o) := by
  have c0 := hA.cell 0
  have c1 := hA.cell 1
  have c2 := hA.cell 2
  simp at c0 c1 c2
  have hI' := hI
  rw [hx.out] at hI'
  have hI' := Hid.mk' hI'
  have h0 : w.ownsRow w.heap.size 5 1 (.slice none 0 0) 0 (by8 []) := World.ownsRow_nil _ _ _ _
  have hG := grow_any 16 (Nat.le_refl _)
  go_enter Try.func39, Try.ntmps39
  go_wp2_with (go_at_call 40; go_must (refine (hG w.heap.size N _ _ 0 [] o w h0 Bts.nil (by omega) (Nat.le_refl _) hN hI'.out).mono ?_; rintro e w2 ⟨hb2, ⟨F, v2, rfl, hle, rfl, hown2⟩ | ⟨hno, rfl⟩⟩; rotate_left; exact ⟨rfl, hb2, Or.inr ⟨hno, rfl⟩⟩))
  go_ret
  exact ⟨hb2, .inl ⟨F, v2, rfl, hle, rfl, hown2⟩⟩

set_option maxRecDepth 100000 in
set_option maxHeartbeats 1000000 in
/-- guarded, over what encodes. -/
theorem guarded27 (N b : Nat) (x : Value) (l : Bool) (sp : Option Addr) (n cap : Nat) (sq : Option Addr) (k cq : Nat) (o : Option (List Int)) (w : World) (hx : Hid (x = .agg #[.bool l, .slice sp n cap, .slice sq k cq])) (hA : Arr w b 59 #[.bool l, .slice sp n cap, .slice sq k cq]) (hN : N ≤ w.heap.size) (hI : Is N w 16 x o) :
    Calls Try.prog 38 #[.func (Fn.func 39) #[] #[.pointer (some ⟨b, 0, none⟩)]] w fun e w' => Below w.heap.size w w' ∧ ((∃ F v', o = some F ∧ F.length ≤ 65536 ∧ e = .returned (.tuple #[v', .int .i64 0]) ∧ w'.ownsRow w.heap.size 5 1 v' F.length (by8 F)) ∨ ((∀ F, o = some F → 65536 < F.length) ∧ e = .returned (.tuple #[.slice none 0 0, .int .i64 2]))) := by
  have hmf : ∀ (fn : Fn) (first cap : Array Value) (w : World), (Instr.makeFunc fn first cap).run Try.prog w = .ok (.func fn first cap) w := fun _ _ _ _ => rfl
  have hI1 : ∀ ob, Is N (w.alloc ob) 16 x o := fun ob => hI.below (((Below.refl _ _).alloc (Nat.le_refl _) _).mono hN)
  go_enter_defers Try.func38, Try.ntmps38
  go_wp2_with (go_at_call 39; go_must (refine (encode1_any N b x l sp n cap sq k cq o _ hx (hA.alloc _) (by simp; omega) (hI1 _)).mono ?_; rintro e w2 ⟨hb2, hres⟩; have E2 := (Arr.new w 26 #[.int .i64 0]).below hb2 (by simp); have c2 := E2.cell 0; have f2 := E2.frozen 0; have hbw := ((Below.refl _ _).alloc (Nat.le_refl _) _).trans (hb2.mono (by simp)); rcases hres with ⟨F, v2, rfl, hle, rfl, hown2⟩ | ⟨hno, rfl⟩))
  · refine leaves_cons (f := 53) (args := #[.pointer (some ⟨w.heap.size, 0, none⟩)]) (by simp) (by simp [go_sem]) ?_
    refine (catch_idle39 ⟨w.heap.size, 0, none⟩ _).mono ?_
    rintro e u' w'' ⟨rfl, rfl, rfl⟩
    have c3 : (w2.setCell ⟨w.heap.size, 0, none⟩ (.int .i64 0)).cell? ⟨w.heap.size, 0, none⟩ = some (.int .i64 0) := (E2.set 0 (.int .i64 0)).cell 0
    refine ⟨.tuple #[v2, .int .i64 0], by simp [results, Try.results38, go_sem, c3], hbw.setCell (Nat.le_refl _) _, .inl ⟨F, v2, rfl, by omega, rfl, ?_⟩⟩
    have h := ownsRow_setCell_below hown2 (a := ⟨w.heap.size, 0, none⟩) (by simp) (.int .i64 0)
    simpa using own_mono h (by simp)
  · refine leaves_cons (f := 53) (args := #[.pointer (some ⟨w.heap.size, 0, none⟩)]) (by simp) (by simp [go_sem]) ?_
    refine (catch_wrong39 w.heap.size 2 0 w2 E2).mono ?_
    rintro e u' w'' ⟨rfl, rfl, rfl⟩
    have c3 : ((w2.setCell ⟨w.heap.size, 0, none⟩ (.int .i64 2)).alloc (.cells #[.int .i64 2] 96)).cell? ⟨w.heap.size, 0, none⟩ = some (.int .i64 2) := ((E2.set 0 (.int .i64 2)).alloc _).cell 0
    refine ⟨.tuple #[.slice none 0 0, .int .i64 2], by simp [results, Try.results38, go_sem, c3], (hbw.setCell (Nat.le_refl _) _).alloc (by simpa using hbw.size) _, .inr ⟨fun F hF => by have := hno F hF; omega, rfl⟩⟩

/-- What Encode answers. -/
def Enc (w : World) (o : Option (List Int)) (e : Ending) (w' : World) : Prop :=
  Below w.heap.size w w' ∧ ((∃ F v', o = some F ∧ F.length ≤ 65536 ∧ e = .returned (.tuple #[v', .int .i64 0]) ∧ w'.ownsRow w.heap.size 5 1 v' F.length (by8 F)) ∨ ((∀ F, o = some F → 65536 < F.length) ∧ e = .returned (.tuple #[.slice none 0 0, .int .i64 2])))

set_option maxRecDepth 100000 in
set_option maxHeartbeats 1000000 in
theorem encode_any (N : Nat) (x : Value) (o : Option (List Int)) (w : World) (hI : Is N w 16 x o) : Calls Try.prog 24 #[x] w (Enc w o) := by
  have hI := hI.here
  have hmf : ∀ (fn : Fn) (first cap : Array Value) (w : World), (Instr.makeFunc fn first cap).run Try.prog w = .ok (.func fn first cap) w := fun _ _ _ _ => rfl
  obtain ⟨l, sp, n, cap, bs, sq, k, cq, vs, hs⟩ := hI.sh
  have hx := Hid.mk' hs.eq
  have hI1 : ∀ ob, Is w.heap.size (w.alloc ob) 16 x o := fun ob => hI.below ((Below.refl _ _).alloc (Nat.le_refl _) _)
  rw [hs.eq]
  clear hs hI
  go_enter Try.func24, Try.ntmps24
  go_wp2_with (go_at_call 38; go_must (refine (guarded27 w.heap.size w.heap.size x l sp n cap sq k cq o _ hx (Arr.new w 59 _) (by simp) (hI1 _)).mono ?_; rintro e w2 ⟨hb2, ⟨F, v2, rfl, hle, rfl, hown2⟩ | ⟨hno, rfl⟩⟩))
  · go_ret2
    exact ⟨((Below.refl _ _).alloc (Nat.le_refl _) _).trans (hb2.mono (by simp)), .inl ⟨F, v2, rfl, hle, rfl, own_mono hown2 (by simp)⟩⟩
  · go_ret2
    exact ⟨((Below.refl _ _).alloc (Nat.le_refl _) _).trans (hb2.mono (by simp)), .inr ⟨hno, rfl⟩⟩
/-- Whether an item may be. -/
def may (o : Option (List Int)) : Bool := match o with
  | some F => decide (F.length ≤ 65536)
  | none => false
set_option maxRecDepth 100000 in
theorem may_yes {F : List Int} (h : F.length ≤ 65536) : may (some F) = true := by simp [may, h]
set_option maxRecDepth 100000 in
theorem may_no {o : Option (List Int)} (h : ∀ F, o = some F → 65536 < F.length) : may o = false := by
  cases o with
  | none => rfl
  | some F => have := h F rfl; simp [may]; omega
set_option maxRecDepth 100000 in
theorem may_some {o : Option (List Int)} (h : may o = true) : ∃ F, o = some F ∧ F.length ≤ 65536 := by
  cases o with
  | none => simp [may] at h
  | some F => exact ⟨F, rfl, by simpa [may] using h⟩

end Go.Proofs.Ytbjlmekafnpllab
