/- Package furrow: told, which recovers. -/
import Derived.Test.YtjdeplehhmhpcaaFU
namespace Go.Proofs.Ytjdeplehhmhpcaa
open Go.RowKit En

theorem as29 (v : Value) (w : World) : (Instr.typeAssert (.iface 29 v) 20 29 true).run Try.prog w = .ok (.tuple #[v, .bool true]) w := by kernel_rfl
set_option maxRecDepth 100000 in
set_option maxHeartbeats 4000000 in
theorem reasonK (n : Int) (w : World) : Gives Try.prog 75 [.iface 29 (.int .i64 n)] w (.int .i64 n) := by
  refine .mk <| enter (n := 12) Try.func75 rfl rfl rfl (by repeat (first | exact Fill.nil | apply Fill.cons)) ?_
  refine cw_seq ?_
  refine cw_region ?_
  refine lstepB rfl rfl rfl (run_assign .const) ?_
  refine lnil ?_
  refine xw_then ?_
  refine cw_seq ?_
  refine cw_seq ?_
  refine cw_region ?_
  refine lstepB rfl rfl rfl (run_move (.tmp rfl)) ?_
  refine lstepB rfl rfl rfl (run_typeAssert (.tmp rfl) (as29 _)) ?_
  refine lstepB rfl rfl rfl (run_move (.tmp rfl)) ?_
  refine lstepB rfl rfl rfl (run_extract (.tmp rfl) rfl) ?_
  refine lstepB rfl rfl rfl (run_extract (.tmp rfl) rfl) ?_
  refine lstepB rfl rfl rfl (run_assign (.tmp rfl)) ?_
  refine lstepB rfl rfl rfl (run_assign (.tmp rfl)) ?_
  refine lnil ?_
  refine xw_then ?_
  refine cw_seq ?_
  refine cw_region ?_
  refine lstepB rfl rfl rfl (run_move (.tmp rfl)) ?_
  refine lnil ?_
  refine xw_then ?_
  refine cw_cond_true (.tmp rfl) ?_
  refine cw_seq ?_
  refine cw_region ?_
  refine lstepB rfl rfl rfl (run_move (.tmp rfl)) ?_
  refine lstepB rfl rfl rfl (run_assign (.tmp rfl)) ?_
  refine lnil ?_
  refine xw_then ?_
  refine cw_ret ?_
  refine xw_then_ret ?_
  refine xw_ret1 Try.results75 rfl (fun w hS => ⟨rfl, hS.kept⟩)
theorem nilEq29 (v : Value) (w : World) : (binOp .neq 20 (.iface 29 v) .nilIface).run Try.prog w = .ok (.bool true) w := by kernel_rfl
theorem nilEq (w : World) : (binOp .neq 20 .nilIface .nilIface).run Try.prog w = .ok (.bool false) w := by kernel_rfl
theorem own_one {w : World} {b : Nat} {o : Obj} (h : w.heap[b]? = some o) : St w (fun k => k = b) [(b, o)] w := ⟨rfl, rfl, rfl, Nat.le_refl _, fun _ _ _ => rfl, fun z hz => by rw [List.mem_singleton] at hz; subst hz; exact ⟨h, .inr rfl⟩, List.pairwise_singleton _ _⟩
theorem run_eq_at {E : Env} {w0 : World} {T : Nat → Prop} {H : Heap} {d : Option Tmp} {tx ty tyy : TypeId} {pos : String} {af : Array Edge} {g : Option (Nat × Bool)} {x y : Operand} {u v : Value} {r : Bool} (hx : Ev E x u) (hy : Ev E y v) (h : ∀ w, (binOp .neq tx u v).run Try.prog w = .ok (.bool r) w)
    (hg : ∀ w, (eqGuard .neq tx x y u v).run Try.prog w = .ok () w := by intro w; kernel_rfl) : RunB Try.prog E w0 T H ⟨d, .binOp .neq tx x y tyy, ty, pos, af, g⟩ (.bool r) := fun ρ w hρ hS => by
  refine doneO rfl ?_
  have e1 := hρ x _ (by simp [Op.operands]) hx
  have e2 := hρ y _ (by simp [Op.operands]) hy
  simp [execOp, e1, e2, Done, go_sem, h, hg, Below.refl]
set_option maxRecDepth 100000 in
set_option maxHeartbeats 4000000 in
theorem idle74 (b : Nat) (w : World) : CallsDIn (FF Try.prog none) 0 Try.prog 74 [.pointer (some ⟨b, 0, none⟩)].toArray .returning w fun e u' w' => (∃ v, e = .returned v) ∧ settle u' = .returning ∧ St w NoT [] w' := by
  refine callsDIn_of_wpSIn Try.func74 rfl (callB_some cb74) fun c₀ cs hu => ?_
  apply wpSIn_seq
  apply wpSIn_region
  simp [wpOpsSIn, go_sem, recoverD, hu, Try.ntmps74, Exit.thenS]
  refine wpSIn_of_wpIn rfl ?_
  refine (?_ : CW none [] Try.prog _ _ 7 [(1, .nilIface), (0, .pointer (some ⟨b, 0, none⟩))] w NoT []) _ w ⟨by simp, rfl, fun t v ht => by
      match t, ht with
      | 0, ht => rw [← Option.some.inj (show some (.pointer (some ⟨b, 0, none⟩)) = some v from ht)]; simp
      | 1, ht => rw [← Option.some.inj (show some (.nilIface) = some v from ht)]; simp
      | t + 2, ht => cases (show none = some v from ht)⟩ (St.init w _)
  refine cw_seq ?_
  refine cw_region ?_
  refine lstepB rfl rfl rfl (run_move (.tmp rfl)) ?_
  refine lstepB rfl rfl rfl (run_eq_at (.tmp rfl) .const (fun w => nilEq w)) ?_
  refine lnil ?_
  refine xw_then ?_
  refine cw_cond_false (.tmp rfl) ?_
  refine cw_skip ?_
  intro a w' hF hS
  exact ⟨hF.defers, .returning, by rw [← hu], _, res0 Try.results74 w', ⟨_, rfl⟩, rfl, hS⟩
set_option maxRecDepth 100000 in
set_option maxHeartbeats 4000000 in
theorem catch74 (b : Nat) (x n : Int) (w : World) (hc : w.heap[b]? = some (.cells [.int .i64 x].toArray 29 (0, 0))) : CallsDIn (FF Try.prog none) 0 Try.prog 74 [.pointer (some ⟨b, 0, none⟩)].toArray (.panicking [errP n]) w fun e u' w' => (∃ v, e = .returned v) ∧ settle u' = .returning ∧ St w (fun k => k = b) [(b, Obj.cells [.int .i64 n].toArray 29 (0, 0))] w' := by
  refine callsDIn_of_wpSIn Try.func74 rfl (callB_some cb74) fun c₀ cs hu => ?_
  apply wpSIn_seq
  apply wpSIn_region
  simp [wpOpsSIn, go_sem, recoverD, hu, Try.ntmps74, Exit.thenS, errP]
  refine wpSIn_of_wpIn rfl ?_
  refine (?_ : CW none [] Try.prog _ _ 7 [(1, .iface 29 (.int .i64 n)), (0, .pointer (some ⟨b, 0, none⟩))] w (fun k => k = b) [(b, Obj.cells [.int .i64 x].toArray 29 (0, 0))]) _ w ⟨by simp, rfl, fun t v ht => by
      match t, ht with
      | 0, ht => rw [← Option.some.inj (show some (.pointer (some ⟨b, 0, none⟩)) = some v from ht)]; simp
      | 1, ht => rw [← Option.some.inj (show some (.iface 29 (.int .i64 n)) = some v from ht)]; simp
      | t + 2, ht => cases (show none = some v from ht)⟩ (own_one hc)
  refine cw_seq ?_
  refine cw_region ?_
  refine lstepB rfl rfl rfl (run_move (.tmp rfl)) ?_
  refine lstepB rfl rfl rfl (run_eq_at (.tmp rfl) .const (fun w => nilEq29 _ w)) ?_
  refine lnil ?_
  refine xw_then ?_
  refine cw_cond_true (.tmp rfl) ?_
  refine cw_region ?_
  refine lstepB rfl rfl rfl (run_move (.tmp rfl)) ?_
  refine lstepB rfl rfl rfl (run_call1 cb75 (.cons (.tmp rfl) .nil) (fun w _ => reasonK n w)) ?_
  refine lstep0 rfl rfl (run_store1 (.tmp rfl) (.tmp rfl) rfl sz29 (by repeat (first | exact Upd.here | apply Upd.there)) (by repeat (first | exact Put.done | apply Put.put | apply Put.skip))) ?_
  refine lnil ?_
  intro a w' hF hS
  exact ⟨hF.defers, _, rfl, _, res0 Try.results74 w', ⟨_, rfl⟩, rfl, hS⟩
set_option maxRecDepth 100000 in
set_option maxHeartbeats 4000000 in
theorem idle88 (b : Nat) (w : World) : CallsDIn (FF Try.prog none) 0 Try.prog 88 [.pointer (some ⟨b, 0, none⟩)].toArray .returning w fun e u' w' => (∃ v, e = .returned v) ∧ settle u' = .returning ∧ St w NoT [] w' := by
  refine callsDIn_of_wpSIn Try.func88 rfl (callB_some cb88) fun c₀ cs hu => ?_
  apply wpSIn_seq
  apply wpSIn_region
  simp [wpOpsSIn, go_sem, recoverD, hu, Try.ntmps88, Exit.thenS]
  refine wpSIn_of_wpIn rfl ?_
  refine (?_ : CW none [] Try.prog _ _ 7 [(1, .nilIface), (0, .pointer (some ⟨b, 0, none⟩))] w NoT []) _ w ⟨by simp, rfl, fun t v ht => by
      match t, ht with
      | 0, ht => rw [← Option.some.inj (show some (.pointer (some ⟨b, 0, none⟩)) = some v from ht)]; simp
      | 1, ht => rw [← Option.some.inj (show some (.nilIface) = some v from ht)]; simp
      | t + 2, ht => cases (show none = some v from ht)⟩ (St.init w _)
  refine cw_seq ?_
  refine cw_region ?_
  refine lstepB rfl rfl rfl (run_move (.tmp rfl)) ?_
  refine lstepB rfl rfl rfl (run_eq_at (.tmp rfl) .const (fun w => nilEq w)) ?_
  refine lnil ?_
  refine xw_then ?_
  refine cw_cond_false (.tmp rfl) ?_
  refine cw_skip ?_
  intro a w' hF hS
  exact ⟨hF.defers, .returning, by rw [← hu], _, res0 Try.results88 w', ⟨_, rfl⟩, rfl, hS⟩
set_option maxRecDepth 100000 in
set_option maxHeartbeats 4000000 in
theorem catch88 (b : Nat) (x n : Int) (w : World) (hc : w.heap[b]? = some (.cells [.int .i64 x].toArray 29 (0, 0))) : CallsDIn (FF Try.prog none) 0 Try.prog 88 [.pointer (some ⟨b, 0, none⟩)].toArray (.panicking [errP n]) w fun e u' w' => (∃ v, e = .returned v) ∧ settle u' = .returning ∧ St w (fun k => k = b) [(b, Obj.cells [.int .i64 n].toArray 29 (0, 0))] w' := by
  refine callsDIn_of_wpSIn Try.func88 rfl (callB_some cb88) fun c₀ cs hu => ?_
  apply wpSIn_seq
  apply wpSIn_region
  simp [wpOpsSIn, go_sem, recoverD, hu, Try.ntmps88, Exit.thenS, errP]
  refine wpSIn_of_wpIn rfl ?_
  refine (?_ : CW none [] Try.prog _ _ 7 [(1, .iface 29 (.int .i64 n)), (0, .pointer (some ⟨b, 0, none⟩))] w (fun k => k = b) [(b, Obj.cells [.int .i64 x].toArray 29 (0, 0))]) _ w ⟨by simp, rfl, fun t v ht => by
      match t, ht with
      | 0, ht => rw [← Option.some.inj (show some (.pointer (some ⟨b, 0, none⟩)) = some v from ht)]; simp
      | 1, ht => rw [← Option.some.inj (show some (.iface 29 (.int .i64 n)) = some v from ht)]; simp
      | t + 2, ht => cases (show none = some v from ht)⟩ (own_one hc)
  refine cw_seq ?_
  refine cw_region ?_
  refine lstepB rfl rfl rfl (run_move (.tmp rfl)) ?_
  refine lstepB rfl rfl rfl (run_eq_at (.tmp rfl) .const (fun w => nilEq29 _ w)) ?_
  refine lnil ?_
  refine xw_then ?_
  refine cw_cond_true (.tmp rfl) ?_
  refine cw_region ?_
  refine lstepB rfl rfl rfl (run_move (.tmp rfl)) ?_
  refine lstepB rfl rfl rfl (run_call1 cb75 (.cons (.tmp rfl) .nil) (fun w _ => reasonK n w)) ?_
  refine lstep0 rfl rfl (run_store1 (.tmp rfl) (.tmp rfl) rfl sz29 (by repeat (first | exact Upd.here | apply Upd.there)) (by repeat (first | exact Put.done | apply Put.put | apply Put.skip))) ?_
  refine lnil ?_
  intro a w' hF hS
  exact ⟨hF.defers, _, rfl, _, res0 Try.results88 w', ⟨_, rfl⟩, rfl, hS⟩
set_option maxRecDepth 100000 in
set_option maxHeartbeats 4000000 in
theorem idle90 (b : Nat) (w : World) : CallsDIn (FF Try.prog none) 0 Try.prog 90 [.pointer (some ⟨b, 0, none⟩)].toArray .returning w fun e u' w' => (∃ v, e = .returned v) ∧ settle u' = .returning ∧ St w NoT [] w' := by
  refine callsDIn_of_wpSIn Try.func90 rfl (callB_some cb90) fun c₀ cs hu => ?_
  apply wpSIn_seq
  apply wpSIn_region
  simp [wpOpsSIn, go_sem, recoverD, hu, Try.ntmps90, Exit.thenS]
  refine wpSIn_of_wpIn rfl ?_
  refine (?_ : CW none [] Try.prog _ _ 7 [(1, .nilIface), (0, .pointer (some ⟨b, 0, none⟩))] w NoT []) _ w ⟨by simp, rfl, fun t v ht => by
      match t, ht with
      | 0, ht => rw [← Option.some.inj (show some (.pointer (some ⟨b, 0, none⟩)) = some v from ht)]; simp
      | 1, ht => rw [← Option.some.inj (show some (.nilIface) = some v from ht)]; simp
      | t + 2, ht => cases (show none = some v from ht)⟩ (St.init w _)
  refine cw_seq ?_
  refine cw_region ?_
  refine lstepB rfl rfl rfl (run_move (.tmp rfl)) ?_
  refine lstepB rfl rfl rfl (run_eq_at (.tmp rfl) .const (fun w => nilEq w)) ?_
  refine lnil ?_
  refine xw_then ?_
  refine cw_cond_false (.tmp rfl) ?_
  refine cw_skip ?_
  intro a w' hF hS
  exact ⟨hF.defers, .returning, by rw [← hu], _, res0 Try.results90 w', ⟨_, rfl⟩, rfl, hS⟩
set_option maxRecDepth 100000 in
set_option maxHeartbeats 4000000 in
theorem catch90 (b : Nat) (x n : Int) (w : World) (hc : w.heap[b]? = some (.cells [.int .i64 x].toArray 29 (0, 0))) : CallsDIn (FF Try.prog none) 0 Try.prog 90 [.pointer (some ⟨b, 0, none⟩)].toArray (.panicking [errP n]) w fun e u' w' => (∃ v, e = .returned v) ∧ settle u' = .returning ∧ St w (fun k => k = b) [(b, Obj.cells [.int .i64 n].toArray 29 (0, 0))] w' := by
  refine callsDIn_of_wpSIn Try.func90 rfl (callB_some cb90) fun c₀ cs hu => ?_
  apply wpSIn_seq
  apply wpSIn_region
  simp [wpOpsSIn, go_sem, recoverD, hu, Try.ntmps90, Exit.thenS, errP]
  refine wpSIn_of_wpIn rfl ?_
  refine (?_ : CW none [] Try.prog _ _ 7 [(1, .iface 29 (.int .i64 n)), (0, .pointer (some ⟨b, 0, none⟩))] w (fun k => k = b) [(b, Obj.cells [.int .i64 x].toArray 29 (0, 0))]) _ w ⟨by simp, rfl, fun t v ht => by
      match t, ht with
      | 0, ht => rw [← Option.some.inj (show some (.pointer (some ⟨b, 0, none⟩)) = some v from ht)]; simp
      | 1, ht => rw [← Option.some.inj (show some (.iface 29 (.int .i64 n)) = some v from ht)]; simp
      | t + 2, ht => cases (show none = some v from ht)⟩ (own_one hc)
  refine cw_seq ?_
  refine cw_region ?_
  refine lstepB rfl rfl rfl (run_move (.tmp rfl)) ?_
  refine lstepB rfl rfl rfl (run_eq_at (.tmp rfl) .const (fun w => nilEq29 _ w)) ?_
  refine lnil ?_
  refine xw_then ?_
  refine cw_cond_true (.tmp rfl) ?_
  refine cw_region ?_
  refine lstepB rfl rfl rfl (run_move (.tmp rfl)) ?_
  refine lstepB rfl rfl rfl (run_call1 cb75 (.cons (.tmp rfl) .nil) (fun w _ => reasonK n w)) ?_
  refine lstep0 rfl rfl (run_store1 (.tmp rfl) (.tmp rfl) rfl sz29 (by repeat (first | exact Upd.here | apply Upd.there)) (by repeat (first | exact Put.done | apply Put.put | apply Put.skip))) ?_
  refine lnil ?_
  intro a w' hF hS
  exact ⟨hF.defers, _, rfl, _, res0 Try.results90 w', ⟨_, rfl⟩, rfl, hS⟩
set_option maxRecDepth 100000 in
set_option maxHeartbeats 4000000 in
theorem idle95 (b : Nat) (w : World) : CallsDIn (FF Try.prog none) 0 Try.prog 95 [.pointer (some ⟨b, 0, none⟩)].toArray .returning w fun e u' w' => (∃ v, e = .returned v) ∧ settle u' = .returning ∧ St w NoT [] w' := by
  refine callsDIn_of_wpSIn Try.func95 rfl (callB_some cb95) fun c₀ cs hu => ?_
  apply wpSIn_seq
  apply wpSIn_region
  simp [wpOpsSIn, go_sem, recoverD, hu, Try.ntmps95, Exit.thenS]
  refine wpSIn_of_wpIn rfl ?_
  refine (?_ : CW none [] Try.prog _ _ 7 [(1, .nilIface), (0, .pointer (some ⟨b, 0, none⟩))] w NoT []) _ w ⟨by simp, rfl, fun t v ht => by
      match t, ht with
      | 0, ht => rw [← Option.some.inj (show some (.pointer (some ⟨b, 0, none⟩)) = some v from ht)]; simp
      | 1, ht => rw [← Option.some.inj (show some (.nilIface) = some v from ht)]; simp
      | t + 2, ht => cases (show none = some v from ht)⟩ (St.init w _)
  refine cw_seq ?_
  refine cw_region ?_
  refine lstepB rfl rfl rfl (run_move (.tmp rfl)) ?_
  refine lstepB rfl rfl rfl (run_eq_at (.tmp rfl) .const (fun w => nilEq w)) ?_
  refine lnil ?_
  refine xw_then ?_
  refine cw_cond_false (.tmp rfl) ?_
  refine cw_skip ?_
  intro a w' hF hS
  exact ⟨hF.defers, .returning, by rw [← hu], _, res0 Try.results95 w', ⟨_, rfl⟩, rfl, hS⟩
set_option maxRecDepth 100000 in
set_option maxHeartbeats 4000000 in
theorem catch95 (b : Nat) (x n : Int) (w : World) (hc : w.heap[b]? = some (.cells [.int .i64 x].toArray 29 (0, 0))) : CallsDIn (FF Try.prog none) 0 Try.prog 95 [.pointer (some ⟨b, 0, none⟩)].toArray (.panicking [errP n]) w fun e u' w' => (∃ v, e = .returned v) ∧ settle u' = .returning ∧ St w (fun k => k = b) [(b, Obj.cells [.int .i64 n].toArray 29 (0, 0))] w' := by
  refine callsDIn_of_wpSIn Try.func95 rfl (callB_some cb95) fun c₀ cs hu => ?_
  apply wpSIn_seq
  apply wpSIn_region
  simp [wpOpsSIn, go_sem, recoverD, hu, Try.ntmps95, Exit.thenS, errP]
  refine wpSIn_of_wpIn rfl ?_
  refine (?_ : CW none [] Try.prog _ _ 7 [(1, .iface 29 (.int .i64 n)), (0, .pointer (some ⟨b, 0, none⟩))] w (fun k => k = b) [(b, Obj.cells [.int .i64 x].toArray 29 (0, 0))]) _ w ⟨by simp, rfl, fun t v ht => by
      match t, ht with
      | 0, ht => rw [← Option.some.inj (show some (.pointer (some ⟨b, 0, none⟩)) = some v from ht)]; simp
      | 1, ht => rw [← Option.some.inj (show some (.iface 29 (.int .i64 n)) = some v from ht)]; simp
      | t + 2, ht => cases (show none = some v from ht)⟩ (own_one hc)
  refine cw_seq ?_
  refine cw_region ?_
  refine lstepB rfl rfl rfl (run_move (.tmp rfl)) ?_
  refine lstepB rfl rfl rfl (run_eq_at (.tmp rfl) .const (fun w => nilEq29 _ w)) ?_
  refine lnil ?_
  refine xw_then ?_
  refine cw_cond_true (.tmp rfl) ?_
  refine cw_region ?_
  refine lstepB rfl rfl rfl (run_move (.tmp rfl)) ?_
  refine lstepB rfl rfl rfl (run_call1 cb75 (.cons (.tmp rfl) .nil) (fun w _ => reasonK n w)) ?_
  refine lstep0 rfl rfl (run_store1 (.tmp rfl) (.tmp rfl) rfl sz29 (by repeat (first | exact Upd.here | apply Upd.there)) (by repeat (first | exact Put.done | apply Put.put | apply Put.skip))) ?_
  refine lnil ?_
  intro a w' hF hS
  exact ⟨hF.defers, _, rfl, _, res0 Try.results95 w', ⟨_, rfl⟩, rfl, hS⟩
set_option maxRecDepth 100000 in
set_option maxHeartbeats 4000000 in
theorem told40_ok {F : FuncId} {cs : List Value} {w : World} {a c : Int} (hF : callB Try.prog F = true) (h : ∀ w2, Below w.heap.size w w2 → Gives Try.prog F cs w2 (.agg [.int .i64 a, .int .i64 c].toArray)) : Gives Try.prog 40 [.func (.func F) #[] cs.toArray] w (.tuple #[.agg [.int .i64 a, .int .i64 c].toArray, .int .i64 0]) := by
  refine .mk <| enter (n := 7) Try.func40 rfl rfl rfl (by repeat (first | exact Fill.nil | apply Fill.cons)) ?_
  refine cw_seq ?_
  refine cw_region ?_
  refine lstep rfl rfl rfl (run_alloc zr28) ?_
  intro b2 _
  refine lstep rfl rfl rfl (run_alloc zr29) ?_
  intro b3 _
  refine lnil ?_
  refine xw_then ?_
  refine cw_seq ?_
  refine cw_region ?_
  refine lstepB rfl rfl rfl (En.run_makeFunc .nil (.cons (.tmp rfl) .nil)) ?_
  refine ldefer (.tmp rfl) ?_
  refine lnil ?_
  refine xw_then ?_
  refine cw_seq ?_
  refine cw_region ?_
  refine lstepB rfl rfl rfl (run_move (.tmp rfl)) ?_
  refine lstepB rfl rfl rfl (run_callv1 hF (.tmp rfl) .nil rfl (fun w2 hS => h w2 hS.kept)) ?_
  refine lstep0 rfl rfl (run_storeN (.tmp rfl) (.tmp rfl) rfl sz28 rfl (by repeat (first | exact Upd.here | apply Upd.there)) (by repeat (first | exact Put.done | apply Put.put | apply Put.skip))) ?_
  refine lstep0 rfl rfl (run_store1 (.tmp rfl) .const rfl sz29 (by repeat (first | exact Upd.here | apply Upd.there)) (by repeat (first | exact Put.done | apply Put.put | apply Put.skip))) ?_
  refine lnil ?_
  refine xw_then ?_
  refine cw_ret ?_
  refine xw_retT cb74 (Idles.at (fun b w => idle74 b w) b3) (fun a w hF hS => ⟨_, resCC Try.results40 rfl rfl hF (load_own hS kd28 sz28 (by repeat (first | exact List.Mem.head _ | apply List.Mem.tail)) (by repeat (first | exact Sub.done | apply Sub.take | apply Sub.skip))) (load_own1 kd29 (hS.cell (by repeat (first | exact List.Mem.head _ | apply List.Mem.tail)) rfl)), rfl, hS.kept⟩)
set_option maxRecDepth 100000 in
set_option maxHeartbeats 4000000 in
theorem told40_bad {F : FuncId} {cs : List Value} {w : World} {n : Int} (hF : callB Try.prog F = true) (h : ∀ w2, Below w.heap.size w w2 → Pans Try.prog F cs w2 [errP n]) : Gives Try.prog 40 [.func (.func F) #[] cs.toArray] w (.tuple #[.agg [.int .i64 0, .int .i64 0].toArray, .int .i64 n]) := by
  refine .mk <| enter (n := 7) Try.func40 rfl rfl rfl (by repeat (first | exact Fill.nil | apply Fill.cons)) ?_
  refine cw_seq ?_
  refine cw_region ?_
  refine lstep rfl rfl rfl (run_alloc zr28) ?_
  intro b2 _
  refine lstep rfl rfl rfl (run_alloc zr29) ?_
  intro b3 _
  refine lnil ?_
  refine xw_then ?_
  refine cw_seq ?_
  refine cw_region ?_
  refine lstepB rfl rfl rfl (En.run_makeFunc .nil (.cons (.tmp rfl) .nil)) ?_
  refine ldefer (.tmp rfl) ?_
  refine lnil ?_
  refine xw_then ?_
  refine cw_seq ?_
  refine cw_region ?_
  refine lstepB rfl rfl rfl (run_move (.tmp rfl)) ?_
  refine lpansv rfl hF (.tmp rfl) .nil rfl (fun w2 hS => h w2 hS.kept) ?_
  refine xw_then_panic ?_
  refine xw_panicT cb74 (CatchesP.at (fun b w hb => catch74 b 0 n w hb) (by repeat (first | exact Upd.here | apply Upd.there))) (fun a w hF hS => ⟨_, resCC Try.results40 rfl rfl hF (load_own hS kd28 sz28 (by repeat (first | exact List.Mem.head _ | apply List.Mem.tail)) (by repeat (first | exact Sub.done | apply Sub.take | apply Sub.skip))) (load_own1 kd29 (hS.cell (by repeat (first | exact List.Mem.head _ | apply List.Mem.tail)) rfl)), rfl, hS.kept⟩)
set_option maxRecDepth 100000 in
set_option maxHeartbeats 4000000 in
theorem told56_ok {F : FuncId} {cs : List Value} {w : World} {a c : Int} (hF : callB Try.prog F = true) (h : ∀ w2, Below w.heap.size w w2 → Gives Try.prog F cs w2 (.agg [.int .i64 a, .int .i64 c].toArray)) : Gives Try.prog 56 [.func (.func F) #[] cs.toArray] w (.tuple #[.agg [.int .i64 a, .int .i64 c].toArray, .int .i64 0]) := by
  refine .mk <| enter (n := 7) Try.func56 rfl rfl rfl (by repeat (first | exact Fill.nil | apply Fill.cons)) ?_
  refine cw_seq ?_
  refine cw_region ?_
  refine lstep rfl rfl rfl (run_alloc zr81) ?_
  intro b2 _
  refine lstep rfl rfl rfl (run_alloc zr29) ?_
  intro b3 _
  refine lnil ?_
  refine xw_then ?_
  refine cw_seq ?_
  refine cw_region ?_
  refine lstepB rfl rfl rfl (En.run_makeFunc .nil (.cons (.tmp rfl) .nil)) ?_
  refine ldefer (.tmp rfl) ?_
  refine lnil ?_
  refine xw_then ?_
  refine cw_seq ?_
  refine cw_region ?_
  refine lstepB rfl rfl rfl (run_move (.tmp rfl)) ?_
  refine lstepB rfl rfl rfl (run_callv1 hF (.tmp rfl) .nil rfl (fun w2 hS => h w2 hS.kept)) ?_
  refine lstep0 rfl rfl (run_storeN (.tmp rfl) (.tmp rfl) rfl sz81 rfl (by repeat (first | exact Upd.here | apply Upd.there)) (by repeat (first | exact Put.done | apply Put.put | apply Put.skip))) ?_
  refine lstep0 rfl rfl (run_store1 (.tmp rfl) .const rfl sz29 (by repeat (first | exact Upd.here | apply Upd.there)) (by repeat (first | exact Put.done | apply Put.put | apply Put.skip))) ?_
  refine lnil ?_
  refine xw_then ?_
  refine cw_ret ?_
  refine xw_retT cb90 (Idles.at (fun b w => idle90 b w) b3) (fun a w hF hS => ⟨_, resCC Try.results56 rfl rfl hF (load_own hS kd81 sz81 (by repeat (first | exact List.Mem.head _ | apply List.Mem.tail)) (by repeat (first | exact Sub.done | apply Sub.take | apply Sub.skip))) (load_own1 kd29 (hS.cell (by repeat (first | exact List.Mem.head _ | apply List.Mem.tail)) rfl)), rfl, hS.kept⟩)
set_option maxRecDepth 100000 in
set_option maxHeartbeats 4000000 in
theorem told56_bad {F : FuncId} {cs : List Value} {w : World} {n : Int} (hF : callB Try.prog F = true) (h : ∀ w2, Below w.heap.size w w2 → Pans Try.prog F cs w2 [errP n]) : Gives Try.prog 56 [.func (.func F) #[] cs.toArray] w (.tuple #[.agg [.int .i64 0, .int .i64 0].toArray, .int .i64 n]) := by
  refine .mk <| enter (n := 7) Try.func56 rfl rfl rfl (by repeat (first | exact Fill.nil | apply Fill.cons)) ?_
  refine cw_seq ?_
  refine cw_region ?_
  refine lstep rfl rfl rfl (run_alloc zr81) ?_
  intro b2 _
  refine lstep rfl rfl rfl (run_alloc zr29) ?_
  intro b3 _
  refine lnil ?_
  refine xw_then ?_
  refine cw_seq ?_
  refine cw_region ?_
  refine lstepB rfl rfl rfl (En.run_makeFunc .nil (.cons (.tmp rfl) .nil)) ?_
  refine ldefer (.tmp rfl) ?_
  refine lnil ?_
  refine xw_then ?_
  refine cw_seq ?_
  refine cw_region ?_
  refine lstepB rfl rfl rfl (run_move (.tmp rfl)) ?_
  refine lpansv rfl hF (.tmp rfl) .nil rfl (fun w2 hS => h w2 hS.kept) ?_
  refine xw_then_panic ?_
  refine xw_panicT cb90 (CatchesP.at (fun b w hb => catch90 b 0 n w hb) (by repeat (first | exact Upd.here | apply Upd.there))) (fun a w hF hS => ⟨_, resCC Try.results56 rfl rfl hF (load_own hS kd81 sz81 (by repeat (first | exact List.Mem.head _ | apply List.Mem.tail)) (by repeat (first | exact Sub.done | apply Sub.take | apply Sub.skip))) (load_own1 kd29 (hS.cell (by repeat (first | exact List.Mem.head _ | apply List.Mem.tail)) rfl)), rfl, hS.kept⟩)
set_option maxRecDepth 100000 in
set_option maxHeartbeats 4000000 in
theorem told60_ok {F : FuncId} {cs : List Value} {w : World} {a : Int} (hF : callB Try.prog F = true) (h : ∀ w2, Below w.heap.size w w2 → Gives Try.prog F cs w2 ((.int .i64 a))) : Gives Try.prog 60 [.func (.func F) #[] cs.toArray] w (.tuple #[(.int .i64 a), .int .i64 0]) := by
  refine .mk <| enter (n := 7) Try.func60 rfl rfl rfl (by repeat (first | exact Fill.nil | apply Fill.cons)) ?_
  refine cw_seq ?_
  refine cw_region ?_
  refine lstepB rfl rfl rfl (run_assign .const) ?_
  refine lstep rfl rfl rfl (run_alloc zr29) ?_
  intro b3 _
  refine lnil ?_
  refine xw_then ?_
  refine cw_seq ?_
  refine cw_region ?_
  refine lstepB rfl rfl rfl (En.run_makeFunc .nil (.cons (.tmp rfl) .nil)) ?_
  refine ldefer (.tmp rfl) ?_
  refine lnil ?_
  refine xw_then ?_
  refine cw_seq ?_
  refine cw_region ?_
  refine lstepB rfl rfl rfl (run_move (.tmp rfl)) ?_
  refine lstepB rfl rfl rfl (run_callv1 hF (.tmp rfl) .nil rfl (fun w2 hS => h w2 hS.kept)) ?_
  refine lstepB rfl rfl rfl (run_assign (.tmp rfl)) ?_
  refine lstep0 rfl rfl (run_store1 (.tmp rfl) .const rfl sz29 (by repeat (first | exact Upd.here | apply Upd.there)) (by repeat (first | exact Put.done | apply Put.put | apply Put.skip))) ?_
  refine lnil ?_
  refine xw_then ?_
  refine cw_ret ?_
  refine xw_retT cb95 (Idles.at (fun b w => idle95 b w) b3) (fun a w hF hS => ⟨_, resTC Try.results60 rfl rfl hF (load_own1 kd29 (hS.cell (by repeat (first | exact List.Mem.head _ | apply List.Mem.tail)) rfl)), rfl, hS.kept⟩)
set_option maxRecDepth 100000 in
set_option maxHeartbeats 4000000 in
theorem told60_bad {F : FuncId} {cs : List Value} {w : World} {n : Int} (hF : callB Try.prog F = true) (h : ∀ w2, Below w.heap.size w w2 → Pans Try.prog F cs w2 [errP n]) : Gives Try.prog 60 [.func (.func F) #[] cs.toArray] w (.tuple #[(.int .i64 0), .int .i64 n]) := by
  refine .mk <| enter (n := 7) Try.func60 rfl rfl rfl (by repeat (first | exact Fill.nil | apply Fill.cons)) ?_
  refine cw_seq ?_
  refine cw_region ?_
  refine lstepB rfl rfl rfl (run_assign .const) ?_
  refine lstep rfl rfl rfl (run_alloc zr29) ?_
  intro b3 _
  refine lnil ?_
  refine xw_then ?_
  refine cw_seq ?_
  refine cw_region ?_
  refine lstepB rfl rfl rfl (En.run_makeFunc .nil (.cons (.tmp rfl) .nil)) ?_
  refine ldefer (.tmp rfl) ?_
  refine lnil ?_
  refine xw_then ?_
  refine cw_seq ?_
  refine cw_region ?_
  refine lstepB rfl rfl rfl (run_move (.tmp rfl)) ?_
  refine lpansv rfl hF (.tmp rfl) .nil rfl (fun w2 hS => h w2 hS.kept) ?_
  refine xw_then_panic ?_
  refine xw_panicT cb95 (CatchesP.at (fun b w hb => catch95 b 0 n w hb) (by repeat (first | exact Upd.here | apply Upd.there))) (fun a w hF hS => ⟨_, resTC Try.results60 rfl rfl hF (load_own1 kd29 (hS.cell (by repeat (first | exact List.Mem.head _ | apply List.Mem.tail)) rfl)), rfl, hS.kept⟩)
theorem updB {H H' : Heap} {b : Nat} {o o' : Obj} : ∀ (B : Heap), Upd H b o o' H' → Upd (B ++ H) b o o' (B ++ H')
  | [], h => h
  | _ :: r, h => .there (updB r h)
set_option maxRecDepth 100000 in
set_option maxHeartbeats 4000000 in
theorem told53_ok {F : FuncId} {cs : List Value} {w : World} {X : Type} {F0 : X → Prop} {rv : X → Value} {B : X → Heap} (hF : callB Try.prog F = true) (h : ∀ w2, Below w.heap.size w w2 → CallsF Try.prog F cs.toArray w2 fun e w' => ∃ s, F0 s ∧ e = .returned (rv s) ∧ St w2 NoT (B s) w') : CallsF Try.prog 53 ([.func (.func F) #[] cs.toArray] : List Value).toArray w fun e w' => ∃ s, F0 s ∧ e = .returned (.tuple #[rv s, .int .i64 0]) ∧ St w NoT (B s) w' := by
  refine enter (n := 7) Try.func53 rfl rfl rfl (by repeat (first | exact Fill.nil | apply Fill.cons)) ?_
  refine cw_seq ?_
  refine cw_region ?_
  refine lstepB rfl rfl rfl (run_assign .const) ?_
  refine lstep rfl rfl rfl (run_alloc zr29) ?_
  intro b3 _
  refine lnil ?_
  refine xw_then ?_
  refine cw_seq ?_
  refine cw_region ?_
  refine lstepB rfl rfl rfl (En.run_makeFunc .nil (.cons (.tmp rfl) .nil)) ?_
  refine ldefer (.tmp rfl) ?_
  refine lnil ?_
  refine xw_then ?_
  refine cw_seq ?_
  refine cw_region ?_
  refine lstepB rfl rfl rfl (run_move (.tmp rfl)) ?_
  refine lstep rfl rfl rfl (LR.runs (R := []) (A := []) (lr_callv (F := F0) (r := rv) (A := []) (B := B) hF (.tmp rfl) .nil rfl (fun w2 hS _ => (h w2 hS.kept).mono fun e w' ⟨s, h1, h2, h3⟩ => ⟨s, h1, h2, tr_new h3⟩)) (by repeat (first | exact Pick.nil | (apply Pick.cons; focus (repeat (first | exact Del.here | apply Del.there))))) (by repeat (first | exact Dels.nil | (apply Dels.cons; focus (repeat (first | exact Del.here | apply Del.there)))))) ?_
  intro s hs
  refine lstepB rfl rfl rfl (run_assign (.tmp rfl)) ?_
  refine lstep0 rfl rfl (run_store1 (.tmp rfl) .const rfl sz29 (updB _ (Upd.here)) (by repeat (first | exact Put.done | apply Put.put | apply Put.skip))) ?_
  refine lnil ?_
  refine xw_then ?_
  refine cw_ret ?_
  refine xw_retT cb88 (Idles.at (fun b w => idle88 b w) b3) (fun a w hF hS => ⟨_, resTC Try.results53 rfl rfl hF (load_own1 kd29 (hS.cell (List.mem_append_right _ (List.Mem.head _)) rfl)), s, hs, rfl, hS.less (List.sublist_append_left _ _)⟩)
set_option maxRecDepth 100000 in
set_option maxHeartbeats 4000000 in
theorem told53_bad {F : FuncId} {cs : List Value} {w : World} {n : Int} (hF : callB Try.prog F = true) (h : ∀ w2, Below w.heap.size w w2 → Pans Try.prog F cs w2 [errP n]) : Gives Try.prog 53 [.func (.func F) #[] cs.toArray] w (.tuple #[(.slice none 0 0), .int .i64 n]) := by
  refine .mk <| enter (n := 7) Try.func53 rfl rfl rfl (by repeat (first | exact Fill.nil | apply Fill.cons)) ?_
  refine cw_seq ?_
  refine cw_region ?_
  refine lstepB rfl rfl rfl (run_assign .const) ?_
  refine lstep rfl rfl rfl (run_alloc zr29) ?_
  intro b3 _
  refine lnil ?_
  refine xw_then ?_
  refine cw_seq ?_
  refine cw_region ?_
  refine lstepB rfl rfl rfl (En.run_makeFunc .nil (.cons (.tmp rfl) .nil)) ?_
  refine ldefer (.tmp rfl) ?_
  refine lnil ?_
  refine xw_then ?_
  refine cw_seq ?_
  refine cw_region ?_
  refine lstepB rfl rfl rfl (run_move (.tmp rfl)) ?_
  refine lpansv rfl hF (.tmp rfl) .nil rfl (fun w2 hS => h w2 hS.kept) ?_
  refine xw_then_panic ?_
  refine xw_panicT cb88 (CatchesP.at (fun b w hb => catch88 b 0 n w hb) (by repeat (first | exact Upd.here | apply Upd.there))) (fun a w hF hS => ⟨_, resTC Try.results53 rfl rfl hF (load_own1 kd29 (hS.cell (by repeat (first | exact List.Mem.head _ | apply List.Mem.tail)) rfl)), rfl, hS.kept⟩)
end Go.Proofs.Ytjdeplehhmhpcaa
