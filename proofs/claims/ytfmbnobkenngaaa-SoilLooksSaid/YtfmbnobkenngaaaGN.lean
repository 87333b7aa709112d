/- Package soil: told, which recovers. -/
import Derived.Test.YtfmbnobkenngaaaGM
import Derived.Test.YtfmbnobkenngaaaET
namespace Go.Proofs.Ytfmbnobkenngaaa
open Go.RowKit En

theorem as29 (v : Value) (w : World) : (Instr.typeAssert (.iface 29 v) 20 29 true).run Try.prog w = .ok (.tuple #[v, .bool true]) w := by kernel_rfl
set_option maxRecDepth 100000 in
set_option maxHeartbeats 4000000 in
theorem reasonK (n : Int) (w : World) : Gives Try.prog 79 [.iface 29 (.int .i64 n)] w (.int .i64 n) := by
  refine .mk <| enter (n := 12) Try.func79 rfl rfl rfl (by repeat (first | exact Fill.nil | apply Fill.cons)) ?_
  refine cw_seq ?_
  refine cw_region ?_
  refine lstepB rfl rfl rfl (run_assign .const) ?_
  refine lnil ?_
  refine xw_then ?_
  refine cw_seq ?_
  refine cw_seq ?_
  refine cw_region ?_
  refine lstepB rfl rfl rfl (run_move (.tmp rfl)) ?_
  refine lstepB rfl rfl rfl (run_typeAssert (.tmp rfl) (as29 _)) ?_
  refine lstepB rfl rfl rfl (run_move (.tmp rfl)) ?_
  refine lstepB rfl rfl rfl (run_extract (.tmp rfl) rfl) ?_
  refine lstepB rfl rfl rfl (run_extract (.tmp rfl) rfl) ?_
  refine lstepB rfl rfl rfl (run_assign (.tmp rfl)) ?_
  refine lstepB rfl rfl rfl (run_assign (.tmp rfl)) ?_
  refine lnil ?_
  refine xw_then ?_
  refine cw_seq ?_
  refine cw_region ?_
  refine lstepB rfl rfl rfl (run_move (.tmp rfl)) ?_
  refine lnil ?_
  refine xw_then ?_
  refine cw_cond_true (.tmp rfl) ?_
  refine cw_seq ?_
  refine cw_region ?_
  refine lstepB rfl rfl rfl (run_move (.tmp rfl)) ?_
  refine lstepB rfl rfl rfl (run_assign (.tmp rfl)) ?_
  refine lnil ?_
  refine xw_then ?_
  refine cw_ret ?_
  refine xw_then_ret ?_
  refine xw_ret1 Try.results79 rfl (fun w hS => ⟨rfl, hS.kept⟩)
theorem nilEq29 (v : Value) (w : World) : (binOp .neq 20 (.iface 29 v) .nilIface).run Try.prog w = .ok (.bool true) w := by kernel_rfl
theorem nilEq (w : World) : (binOp .neq 20 .nilIface .nilIface).run Try.prog w = .ok (.bool false) w := by kernel_rfl
theorem own_one {w : World} {b : Nat} {o : Obj} (h : w.heap[b]? = some o) : St w (fun k => k = b) [(b, o)] w := ⟨rfl, rfl, rfl, Nat.le_refl _, fun _ _ _ => rfl, fun z hz => by rw [List.mem_singleton] at hz; subst hz; exact ⟨h, .inr rfl⟩, List.pairwise_singleton _ _⟩
theorem run_eq_at {E : Env} {w0 : World} {T : Nat → Prop} {H : Heap} {d : Option Tmp} {tx ty tyy : TypeId} {pos : String} {af : Array Edge} {g : Option (Nat × Bool)} {x y : Operand} {u v : Value} {r : Bool} (hx : Ev E x u) (hy : Ev E y v) (h : ∀ w, (binOp .neq tx u v).run Try.prog w = .ok (.bool r) w)
    (hg : ∀ w, (eqGuard .neq tx x y u v).run Try.prog w = .ok () w := by intro w; kernel_rfl) : RunB Try.prog E w0 T H ⟨d, .binOp .neq tx x y tyy, ty, pos, af, g⟩ (.bool r) := fun ρ w hρ hS => by
  refine doneO rfl ?_
  have e1 := hρ x _ (by simp [Op.operands]) hx
  have e2 := hρ y _ (by simp [Op.operands]) hy
  simp [execOp, e1, e2, Done, go_sem, h, hg, Below.refl]
set_option maxRecDepth 100000 in
set_option maxHeartbeats 4000000 in
theorem idle78 (b : Nat) (w : World) : CallsDIn (FF Try.prog none) 0 Try.prog 78 [.pointer (some ⟨b, 0, none⟩)].toArray .returning w fun e u' w' => (∃ v, e = .returned v) ∧ settle u' = .returning ∧ St w NoT [] w' := by
  refine callsDIn_of_wpSIn Try.func78 rfl (callB_some cb78) fun c₀ cs hu => ?_
  apply wpSIn_seq
  apply wpSIn_region
  simp [wpOpsSIn, go_sem, recoverD, hu, Try.ntmps78, Exit.thenS]
  refine wpSIn_of_wpIn rfl ?_
  refine (?_ : CW none [] Try.prog _ _ 7 [(1, .nilIface), (0, .pointer (some ⟨b, 0, none⟩))] w NoT []) _ w ⟨by simp, rfl, fun t v ht => by
      match t, ht with
      | 0, ht => rw [← Option.some.inj (show some (.pointer (some ⟨b, 0, none⟩)) = some v from ht)]; simp
      | 1, ht => rw [← Option.some.inj (show some (.nilIface) = some v from ht)]; simp
      | t + 2, ht => cases (show none = some v from ht)⟩ (St.init w _)
  refine cw_seq ?_
  refine cw_region ?_
  refine lstepB rfl rfl rfl (run_move (.tmp rfl)) ?_
  refine lstepB rfl rfl rfl (run_eq_at (.tmp rfl) .const (fun w => nilEq w)) ?_
  refine lnil ?_
  refine xw_then ?_
  refine cw_cond_false (.tmp rfl) ?_
  refine cw_skip ?_
  intro a w' hF hS
  exact ⟨hF.defers, .returning, by rw [← hu], _, res0 Try.results78 w', ⟨_, rfl⟩, rfl, hS⟩
set_option maxRecDepth 100000 in
set_option maxHeartbeats 4000000 in
theorem catch78 (b : Nat) (x n : Int) (w : World) (hc : w.heap[b]? = some (.cells [.int .i64 x].toArray 29 (0, 0))) : CallsDIn (FF Try.prog none) 0 Try.prog 78 [.pointer (some ⟨b, 0, none⟩)].toArray (.panicking [errP n]) w fun e u' w' => (∃ v, e = .returned v) ∧ settle u' = .returning ∧ St w (fun k => k = b) [(b, Obj.cells [.int .i64 n].toArray 29 (0, 0))] w' := by
  refine callsDIn_of_wpSIn Try.func78 rfl (callB_some cb78) fun c₀ cs hu => ?_
  apply wpSIn_seq
  apply wpSIn_region
  simp [wpOpsSIn, go_sem, recoverD, hu, Try.ntmps78, Exit.thenS, errP]
  refine wpSIn_of_wpIn rfl ?_
  refine (?_ : CW none [] Try.prog _ _ 7 [(1, .iface 29 (.int .i64 n)), (0, .pointer (some ⟨b, 0, none⟩))] w (fun k => k = b) [(b, Obj.cells [.int .i64 x].toArray 29 (0, 0))]) _ w ⟨by simp, rfl, fun t v ht => by
      match t, ht with
      | 0, ht => rw [← Option.some.inj (show some (.pointer (some ⟨b, 0, none⟩)) = some v from ht)]; simp
      | 1, ht => rw [← Option.some.inj (show some (.iface 29 (.int .i64 n)) = some v from ht)]; simp
      | t + 2, ht => cases (show none = some v from ht)⟩ (own_one hc)
  refine cw_seq ?_
  refine cw_region ?_
  refine lstepB rfl rfl rfl (run_move (.tmp rfl)) ?_
  refine lstepB rfl rfl rfl (run_eq_at (.tmp rfl) .const (fun w => nilEq29 _ w)) ?_
  refine lnil ?_
  refine xw_then ?_
  refine cw_cond_true (.tmp rfl) ?_
  refine cw_region ?_
  refine lstepB rfl rfl rfl (run_move (.tmp rfl)) ?_
  refine lstepB rfl rfl rfl (run_call1 cb79 (.cons (.tmp rfl) .nil) (fun w _ => reasonK n w)) ?_
  refine lstep0 rfl rfl (run_store1 (.tmp rfl) (.tmp rfl) rfl sz29 (by repeat (first | exact Upd.here | apply Upd.there)) (by repeat (first | exact Put.done | apply Put.put | apply Put.skip))) ?_
  refine lnil ?_
  intro a w' hF hS
  exact ⟨hF.defers, _, rfl, _, res0 Try.results78 w', ⟨_, rfl⟩, rfl, hS⟩
set_option maxRecDepth 100000 in
set_option maxHeartbeats 4000000 in
theorem idle84 (b : Nat) (w : World) : CallsDIn (FF Try.prog none) 0 Try.prog 84 [.pointer (some ⟨b, 0, none⟩)].toArray .returning w fun e u' w' => (∃ v, e = .returned v) ∧ settle u' = .returning ∧ St w NoT [] w' := by
  refine callsDIn_of_wpSIn Try.func84 rfl (callB_some cb84) fun c₀ cs hu => ?_
  apply wpSIn_seq
  apply wpSIn_region
  simp [wpOpsSIn, go_sem, recoverD, hu, Try.ntmps84, Exit.thenS]
  refine wpSIn_of_wpIn rfl ?_
  refine (?_ : CW none [] Try.prog _ _ 7 [(1, .nilIface), (0, .pointer (some ⟨b, 0, none⟩))] w NoT []) _ w ⟨by simp, rfl, fun t v ht => by
      match t, ht with
      | 0, ht => rw [← Option.some.inj (show some (.pointer (some ⟨b, 0, none⟩)) = some v from ht)]; simp
      | 1, ht => rw [← Option.some.inj (show some (.nilIface) = some v from ht)]; simp
      | t + 2, ht => cases (show none = some v from ht)⟩ (St.init w _)
  refine cw_seq ?_
  refine cw_region ?_
  refine lstepB rfl rfl rfl (run_move (.tmp rfl)) ?_
  refine lstepB rfl rfl rfl (run_eq_at (.tmp rfl) .const (fun w => nilEq w)) ?_
  refine lnil ?_
  refine xw_then ?_
  refine cw_cond_false (.tmp rfl) ?_
  refine cw_skip ?_
  intro a w' hF hS
  exact ⟨hF.defers, .returning, by rw [← hu], _, res0 Try.results84 w', ⟨_, rfl⟩, rfl, hS⟩
set_option maxRecDepth 100000 in
set_option maxHeartbeats 4000000 in
theorem catch84 (b : Nat) (x n : Int) (w : World) (hc : w.heap[b]? = some (.cells [.int .i64 x].toArray 29 (0, 0))) : CallsDIn (FF Try.prog none) 0 Try.prog 84 [.pointer (some ⟨b, 0, none⟩)].toArray (.panicking [errP n]) w fun e u' w' => (∃ v, e = .returned v) ∧ settle u' = .returning ∧ St w (fun k => k = b) [(b, Obj.cells [.int .i64 n].toArray 29 (0, 0))] w' := by
  refine callsDIn_of_wpSIn Try.func84 rfl (callB_some cb84) fun c₀ cs hu => ?_
  apply wpSIn_seq
  apply wpSIn_region
  simp [wpOpsSIn, go_sem, recoverD, hu, Try.ntmps84, Exit.thenS, errP]
  refine wpSIn_of_wpIn rfl ?_
  refine (?_ : CW none [] Try.prog _ _ 7 [(1, .iface 29 (.int .i64 n)), (0, .pointer (some ⟨b, 0, none⟩))] w (fun k => k = b) [(b, Obj.cells [.int .i64 x].toArray 29 (0, 0))]) _ w ⟨by simp, rfl, fun t v ht => by
      match t, ht with
      | 0, ht => rw [← Option.some.inj (show some (.pointer (some ⟨b, 0, none⟩)) = some v from ht)]; simp
      | 1, ht => rw [← Option.some.inj (show some (.iface 29 (.int .i64 n)) = some v from ht)]; simp
      | t + 2, ht => cases (show none = some v from ht)⟩ (own_one hc)
  refine cw_seq ?_
  refine cw_region ?_
  refine lstepB rfl rfl rfl (run_move (.tmp rfl)) ?_
  refine lstepB rfl rfl rfl (run_eq_at (.tmp rfl) .const (fun w => nilEq29 _ w)) ?_
  refine lnil ?_
  refine xw_then ?_
  refine cw_cond_true (.tmp rfl) ?_
  refine cw_region ?_
  refine lstepB rfl rfl rfl (run_move (.tmp rfl)) ?_
  refine lstepB rfl rfl rfl (run_call1 cb79 (.cons (.tmp rfl) .nil) (fun w _ => reasonK n w)) ?_
  refine lstep0 rfl rfl (run_store1 (.tmp rfl) (.tmp rfl) rfl sz29 (by repeat (first | exact Upd.here | apply Upd.there)) (by repeat (first | exact Put.done | apply Put.put | apply Put.skip))) ?_
  refine lnil ?_
  intro a w' hF hS
  exact ⟨hF.defers, _, rfl, _, res0 Try.results84 w', ⟨_, rfl⟩, rfl, hS⟩
set_option maxRecDepth 100000 in
set_option maxHeartbeats 4000000 in
theorem idle86 (b : Nat) (w : World) : CallsDIn (FF Try.prog none) 0 Try.prog 86 [.pointer (some ⟨b, 0, none⟩)].toArray .returning w fun e u' w' => (∃ v, e = .returned v) ∧ settle u' = .returning ∧ St w NoT [] w' := by
  refine callsDIn_of_wpSIn Try.func86 rfl (callB_some cb86) fun c₀ cs hu => ?_
  apply wpSIn_seq
  apply wpSIn_region
  simp [wpOpsSIn, go_sem, recoverD, hu, Try.ntmps86, Exit.thenS]
  refine wpSIn_of_wpIn rfl ?_
  refine (?_ : CW none [] Try.prog _ _ 7 [(1, .nilIface), (0, .pointer (some ⟨b, 0, none⟩))] w NoT []) _ w ⟨by simp, rfl, fun t v ht => by
      match t, ht with
      | 0, ht => rw [← Option.some.inj (show some (.pointer (some ⟨b, 0, none⟩)) = some v from ht)]; simp
      | 1, ht => rw [← Option.some.inj (show some (.nilIface) = some v from ht)]; simp
      | t + 2, ht => cases (show none = some v from ht)⟩ (St.init w _)
  refine cw_seq ?_
  refine cw_region ?_
  refine lstepB rfl rfl rfl (run_move (.tmp rfl)) ?_
  refine lstepB rfl rfl rfl (run_eq_at (.tmp rfl) .const (fun w => nilEq w)) ?_
  refine lnil ?_
  refine xw_then ?_
  refine cw_cond_false (.tmp rfl) ?_
  refine cw_skip ?_
  intro a w' hF hS
  exact ⟨hF.defers, .returning, by rw [← hu], _, res0 Try.results86 w', ⟨_, rfl⟩, rfl, hS⟩
set_option maxRecDepth 100000 in
set_option maxHeartbeats 4000000 in
theorem catch86 (b : Nat) (x n : Int) (w : World) (hc : w.heap[b]? = some (.cells [.int .i64 x].toArray 29 (0, 0))) : CallsDIn (FF Try.prog none) 0 Try.prog 86 [.pointer (some ⟨b, 0, none⟩)].toArray (.panicking [errP n]) w fun e u' w' => (∃ v, e = .returned v) ∧ settle u' = .returning ∧ St w (fun k => k = b) [(b, Obj.cells [.int .i64 n].toArray 29 (0, 0))] w' := by
  refine callsDIn_of_wpSIn Try.func86 rfl (callB_some cb86) fun c₀ cs hu => ?_
  apply wpSIn_seq
  apply wpSIn_region
  simp [wpOpsSIn, go_sem, recoverD, hu, Try.ntmps86, Exit.thenS, errP]
  refine wpSIn_of_wpIn rfl ?_
  refine (?_ : CW none [] Try.prog _ _ 7 [(1, .iface 29 (.int .i64 n)), (0, .pointer (some ⟨b, 0, none⟩))] w (fun k => k = b) [(b, Obj.cells [.int .i64 x].toArray 29 (0, 0))]) _ w ⟨by simp, rfl, fun t v ht => by
      match t, ht with
      | 0, ht => rw [← Option.some.inj (show some (.pointer (some ⟨b, 0, none⟩)) = some v from ht)]; simp
      | 1, ht => rw [← Option.some.inj (show some (.iface 29 (.int .i64 n)) = some v from ht)]; simp
      | t + 2, ht => cases (show none = some v from ht)⟩ (own_one hc)
  refine cw_seq ?_
  refine cw_region ?_
  refine lstepB rfl rfl rfl (run_move (.tmp rfl)) ?_
  refine lstepB rfl rfl rfl (run_eq_at (.tmp rfl) .const (fun w => nilEq29 _ w)) ?_
  refine lnil ?_
  refine xw_then ?_
  refine cw_cond_true (.tmp rfl) ?_
  refine cw_region ?_
  refine lstepB rfl rfl rfl (run_move (.tmp rfl)) ?_
  refine lstepB rfl rfl rfl (run_call1 cb79 (.cons (.tmp rfl) .nil) (fun w _ => reasonK n w)) ?_
  refine lstep0 rfl rfl (run_store1 (.tmp rfl) (.tmp rfl) rfl sz29 (by repeat (first | exact Upd.here | apply Upd.there)) (by repeat (first | exact Put.done | apply Put.put | apply Put.skip))) ?_
  refine lnil ?_
  intro a w' hF hS
  exact ⟨hF.defers, _, rfl, _, res0 Try.results86 w', ⟨_, rfl⟩, rfl, hS⟩
set_option maxRecDepth 100000 in
set_option maxHeartbeats 4000000 in
theorem idle91 (b : Nat) (w : World) : CallsDIn (FF Try.prog none) 0 Try.prog 91 [.pointer (some ⟨b, 0, none⟩)].toArray .returning w fun e u' w' => (∃ v, e = .returned v) ∧ settle u' = .returning ∧ St w NoT [] w' := by
  refine callsDIn_of_wpSIn Try.func91 rfl (callB_some cb91) fun c₀ cs hu => ?_
  apply wpSIn_seq
  apply wpSIn_region
  simp [wpOpsSIn, go_sem, recoverD, hu, Try.ntmps91, Exit.thenS]
  refine wpSIn_of_wpIn rfl ?_
  refine (?_ : CW none [] Try.prog _ _ 7 [(1, .nilIface), (0, .pointer (some ⟨b, 0, none⟩))] w NoT []) _ w ⟨by simp, rfl, fun t v ht => by
      match t, ht with
      | 0, ht => rw [← Option.some.inj (show some (.pointer (some ⟨b, 0, none⟩)) = some v from ht)]; simp
      | 1, ht => rw [← Option.some.inj (show some (.nilIface) = some v from ht)]; simp
      | t + 2, ht => cases (show none = some v from ht)⟩ (St.init w _)
  refine cw_seq ?_
  refine cw_region ?_
  refine lstepB rfl rfl rfl (run_move (.tmp rfl)) ?_
  refine lstepB rfl rfl rfl (run_eq_at (.tmp rfl) .const (fun w => nilEq w)) ?_
  refine lnil ?_
  refine xw_then ?_
  refine cw_cond_false (.tmp rfl) ?_
  refine cw_skip ?_
  intro a w' hF hS
  exact ⟨hF.defers, .returning, by rw [← hu], _, res0 Try.results91 w', ⟨_, rfl⟩, rfl, hS⟩
set_option maxRecDepth 100000 in
set_option maxHeartbeats 4000000 in
theorem catch91 (b : Nat) (x n : Int) (w : World) (hc : w.heap[b]? = some (.cells [.int .i64 x].toArray 29 (0, 0))) : CallsDIn (FF Try.prog none) 0 Try.prog 91 [.pointer (some ⟨b, 0, none⟩)].toArray (.panicking [errP n]) w fun e u' w' => (∃ v, e = .returned v) ∧ settle u' = .returning ∧ St w (fun k => k = b) [(b, Obj.cells [.int .i64 n].toArray 29 (0, 0))] w' := by
  refine callsDIn_of_wpSIn Try.func91 rfl (callB_some cb91) fun c₀ cs hu => ?_
  apply wpSIn_seq
  apply wpSIn_region
  simp [wpOpsSIn, go_sem, recoverD, hu, Try.ntmps91, Exit.thenS, errP]
  refine wpSIn_of_wpIn rfl ?_
  refine (?_ : CW none [] Try.prog _ _ 7 [(1, .iface 29 (.int .i64 n)), (0, .pointer (some ⟨b, 0, none⟩))] w (fun k => k = b) [(b, Obj.cells [.int .i64 x].toArray 29 (0, 0))]) _ w ⟨by simp, rfl, fun t v ht => by
      match t, ht with
      | 0, ht => rw [← Option.some.inj (show some (.pointer (some ⟨b, 0, none⟩)) = some v from ht)]; simp
      | 1, ht => rw [← Option.some.inj (show some (.iface 29 (.int .i64 n)) = some v from ht)]; simp
      | t + 2, ht => cases (show none = some v from ht)⟩ (own_one hc)
  refine cw_seq ?_
  refine cw_region ?_
  refine lstepB rfl rfl rfl (run_move (.tmp rfl)) ?_
  refine lstepB rfl rfl rfl (run_eq_at (.tmp rfl) .const (fun w => nilEq29 _ w)) ?_
  refine lnil ?_
  refine xw_then ?_
  refine cw_cond_true (.tmp rfl) ?_
  refine cw_region ?_
  refine lstepB rfl rfl rfl (run_move (.tmp rfl)) ?_
  refine lstepB rfl rfl rfl (run_call1 cb79 (.cons (.tmp rfl) .nil) (fun w _ => reasonK n w)) ?_
  refine lstep0 rfl rfl (run_store1 (.tmp rfl) (.tmp rfl) rfl sz29 (by repeat (first | exact Upd.here | apply Upd.there)) (by repeat (first | exact Put.done | apply Put.put | apply Put.skip))) ?_
  refine lnil ?_
  intro a w' hF hS
  exact ⟨hF.defers, _, rfl, _, res0 Try.results91 w', ⟨_, rfl⟩, rfl, hS⟩
set_option maxRecDepth 100000 in
set_option maxHeartbeats 4000000 in
theorem idle106 (b : Nat) (w : World) : CallsDIn (FF Try.prog none) 0 Try.prog 106 [.pointer (some ⟨b, 0, none⟩)].toArray .returning w fun e u' w' => (∃ v, e = .returned v) ∧ settle u' = .returning ∧ St w NoT [] w' := by
  refine callsDIn_of_wpSIn Try.func106 rfl (callB_some cb106) fun c₀ cs hu => ?_
  apply wpSIn_seq
  apply wpSIn_region
  simp [wpOpsSIn, go_sem, recoverD, hu, Try.ntmps106, Exit.thenS]
  refine wpSIn_of_wpIn rfl ?_
  refine (?_ : CW none [] Try.prog _ _ 7 [(1, .nilIface), (0, .pointer (some ⟨b, 0, none⟩))] w NoT []) _ w ⟨by simp, rfl, fun t v ht => by
      match t, ht with
      | 0, ht => rw [← Option.some.inj (show some (.pointer (some ⟨b, 0, none⟩)) = some v from ht)]; simp
      | 1, ht => rw [← Option.some.inj (show some (.nilIface) = some v from ht)]; simp
      | t + 2, ht => cases (show none = some v from ht)⟩ (St.init w _)
  refine cw_seq ?_
  refine cw_region ?_
  refine lstepB rfl rfl rfl (run_move (.tmp rfl)) ?_
  refine lstepB rfl rfl rfl (run_eq_at (.tmp rfl) .const (fun w => nilEq w)) ?_
  refine lnil ?_
  refine xw_then ?_
  refine cw_cond_false (.tmp rfl) ?_
  refine cw_skip ?_
  intro a w' hF hS
  exact ⟨hF.defers, .returning, by rw [← hu], _, res0 Try.results106 w', ⟨_, rfl⟩, rfl, hS⟩
set_option maxRecDepth 100000 in
set_option maxHeartbeats 4000000 in
theorem catch106 (b : Nat) (x n : Int) (w : World) (hc : w.heap[b]? = some (.cells [.int .i64 x].toArray 29 (0, 0))) : CallsDIn (FF Try.prog none) 0 Try.prog 106 [.pointer (some ⟨b, 0, none⟩)].toArray (.panicking [errP n]) w fun e u' w' => (∃ v, e = .returned v) ∧ settle u' = .returning ∧ St w (fun k => k = b) [(b, Obj.cells [.int .i64 n].toArray 29 (0, 0))] w' := by
  refine callsDIn_of_wpSIn Try.func106 rfl (callB_some cb106) fun c₀ cs hu => ?_
  apply wpSIn_seq
  apply wpSIn_region
  simp [wpOpsSIn, go_sem, recoverD, hu, Try.ntmps106, Exit.thenS, errP]
  refine wpSIn_of_wpIn rfl ?_
  refine (?_ : CW none [] Try.prog _ _ 7 [(1, .iface 29 (.int .i64 n)), (0, .pointer (some ⟨b, 0, none⟩))] w (fun k => k = b) [(b, Obj.cells [.int .i64 x].toArray 29 (0, 0))]) _ w ⟨by simp, rfl, fun t v ht => by
      match t, ht with
      | 0, ht => rw [← Option.some.inj (show some (.pointer (some ⟨b, 0, none⟩)) = some v from ht)]; simp
      | 1, ht => rw [← Option.some.inj (show some (.iface 29 (.int .i64 n)) = some v from ht)]; simp
      | t + 2, ht => cases (show none = some v from ht)⟩ (own_one hc)
  refine cw_seq ?_
  refine cw_region ?_
  refine lstepB rfl rfl rfl (run_move (.tmp rfl)) ?_
  refine lstepB rfl rfl rfl (run_eq_at (.tmp rfl) .const (fun w => nilEq29 _ w)) ?_
  refine lnil ?_
  refine xw_then ?_
  refine cw_cond_true (.tmp rfl) ?_
  refine cw_region ?_
  refine lstepB rfl rfl rfl (run_move (.tmp rfl)) ?_
  refine lstepB rfl rfl rfl (run_call1 cb79 (.cons (.tmp rfl) .nil) (fun w _ => reasonK n w)) ?_
  refine lstep0 rfl rfl (run_store1 (.tmp rfl) (.tmp rfl) rfl sz29 (by repeat (first | exact Upd.here | apply Upd.there)) (by repeat (first | exact Put.done | apply Put.put | apply Put.skip))) ?_
  refine lnil ?_
  intro a w' hF hS
  exact ⟨hF.defers, _, rfl, _, res0 Try.results106 w', ⟨_, rfl⟩, rfl, hS⟩
set_option maxRecDepth 100000 in
set_option maxHeartbeats 4000000 in
theorem told42_ok {F : FuncId} {cs : List Value} {w : World} {a c : Int} (hF : callB Try.prog F = true) (h : ∀ w2, Below w.heap.size w w2 → Gives Try.prog F cs w2 (.agg [.int .i64 a, .int .i64 c].toArray)) : Gives Try.prog 42 [.func (.func F) #[] cs.toArray] w (.tuple #[.agg [.int .i64 a, .int .i64 c].toArray, .int .i64 0]) := by
  refine .mk <| enter (n := 7) Try.func42 rfl rfl rfl (by repeat (first | exact Fill.nil | apply Fill.cons)) ?_
  refine cw_seq ?_
  refine cw_region ?_
  refine lstep rfl rfl rfl (run_alloc zr28) ?_
  intro b2 _
  refine lstep rfl rfl rfl (run_alloc zr29) ?_
  intro b3 _
  refine lnil ?_
  refine xw_then ?_
  refine cw_seq ?_
  refine cw_region ?_
  refine lstepB rfl rfl rfl (En.run_makeFunc .nil (.cons (.tmp rfl) .nil)) ?_
  refine ldefer (.tmp rfl) ?_
  refine lnil ?_
  refine xw_then ?_
  refine cw_seq ?_
  refine cw_region ?_
  refine lstepB rfl rfl rfl (run_move (.tmp rfl)) ?_
  refine lstepB rfl rfl rfl (run_callv1 hF (.tmp rfl) .nil rfl (fun w2 hS => h w2 hS.kept)) ?_
  refine lstep0 rfl rfl (run_storeN (.tmp rfl) (.tmp rfl) rfl sz28 rfl (by repeat (first | exact Upd.here | apply Upd.there)) (by repeat (first | exact Put.done | apply Put.put | apply Put.skip))) ?_
  refine lstep0 rfl rfl (run_store1 (.tmp rfl) .const rfl sz29 (by repeat (first | exact Upd.here | apply Upd.there)) (by repeat (first | exact Put.done | apply Put.put | apply Put.skip))) ?_
  refine lnil ?_
  refine xw_then ?_
  refine cw_ret ?_
  refine xw_retT cb78 (Idles.at (fun b w => idle78 b w) b3) (fun a w hF hS => ⟨_, resCC Try.results42 rfl rfl hF (load_own hS kd28 sz28 (by repeat (first | exact List.Mem.head _ | apply List.Mem.tail)) (by repeat (first | exact Sub.done | apply Sub.take | apply Sub.skip))) (load_own1 kd29 (hS.cell (by repeat (first | exact List.Mem.head _ | apply List.Mem.tail)) rfl)), rfl, hS.kept⟩)
set_option maxRecDepth 100000 in
set_option maxHeartbeats 4000000 in
theorem told42_bad {F : FuncId} {cs : List Value} {w : World} {n : Int} (hF : callB Try.prog F = true) (h : ∀ w2, Below w.heap.size w w2 → Pans Try.prog F cs w2 [errP n]) : Gives Try.prog 42 [.func (.func F) #[] cs.toArray] w (.tuple #[.agg [.int .i64 0, .int .i64 0].toArray, .int .i64 n]) := by
  refine .mk <| enter (n := 7) Try.func42 rfl rfl rfl (by repeat (first | exact Fill.nil | apply Fill.cons)) ?_
  refine cw_seq ?_
  refine cw_region ?_
  refine lstep rfl rfl rfl (run_alloc zr28) ?_
  intro b2 _
  refine lstep rfl rfl rfl (run_alloc zr29) ?_
  intro b3 _
  refine lnil ?_
  refine xw_then ?_
  refine cw_seq ?_
  refine cw_region ?_
  refine lstepB rfl rfl rfl (En.run_makeFunc .nil (.cons (.tmp rfl) .nil)) ?_
  refine ldefer (.tmp rfl) ?_
  refine lnil ?_
  refine xw_then ?_
  refine cw_seq ?_
  refine cw_region ?_
  refine lstepB rfl rfl rfl (run_move (.tmp rfl)) ?_
  refine lpansv rfl hF (.tmp rfl) .nil rfl (fun w2 hS => h w2 hS.kept) ?_
  refine xw_then_panic ?_
  refine xw_panicT cb78 (CatchesP.at (fun b w hb => catch78 b 0 n w hb) (by repeat (first | exact Upd.here | apply Upd.there))) (fun a w hF hS => ⟨_, resCC Try.results42 rfl rfl hF (load_own hS kd28 sz28 (by repeat (first | exact List.Mem.head _ | apply List.Mem.tail)) (by repeat (first | exact Sub.done | apply Sub.take | apply Sub.skip))) (load_own1 kd29 (hS.cell (by repeat (first | exact List.Mem.head _ | apply List.Mem.tail)) rfl)), rfl, hS.kept⟩)
set_option maxRecDepth 100000 in
set_option maxHeartbeats 4000000 in
theorem told49_ok {F : FuncId} {cs : List Value} {w : World} {a0 a1 a2 a3 a4 a5 : Int} (hF : callB Try.prog F = true) (h : ∀ w2, Below w.heap.size w w2 → Gives Try.prog F cs w2 (.agg [.int .i64 a0, .int .i64 a1, .int .i64 a2, .int .i64 a3, .int .i64 a4, .int .i64 a5].toArray)) : Gives Try.prog 49 [.func (.func F) #[] cs.toArray] w (.tuple #[.agg [.int .i64 a0, .int .i64 a1, .int .i64 a2, .int .i64 a3, .int .i64 a4, .int .i64 a5].toArray, .int .i64 0]) := by
  refine .mk <| enter (n := 7) Try.func49 rfl rfl rfl (by repeat (first | exact Fill.nil | apply Fill.cons)) ?_
  refine cw_seq ?_
  refine cw_region ?_
  refine lstep rfl rfl rfl (run_alloc zr85) ?_
  intro b2 _
  refine lstep rfl rfl rfl (run_alloc zr29) ?_
  intro b3 _
  refine lnil ?_
  refine xw_then ?_
  refine cw_seq ?_
  refine cw_region ?_
  refine lstepB rfl rfl rfl (En.run_makeFunc .nil (.cons (.tmp rfl) .nil)) ?_
  refine ldefer (.tmp rfl) ?_
  refine lnil ?_
  refine xw_then ?_
  refine cw_seq ?_
  refine cw_region ?_
  refine lstepB rfl rfl rfl (run_move (.tmp rfl)) ?_
  refine lstepB rfl rfl rfl (run_callv1 hF (.tmp rfl) .nil rfl (fun w2 hS => h w2 hS.kept)) ?_
  refine lstep0 rfl rfl (run_storeN (.tmp rfl) (.tmp rfl) rfl sz85 rfl (by repeat (first | exact Upd.here | apply Upd.there)) (by repeat (first | exact Put.done | apply Put.put | apply Put.skip))) ?_
  refine lstep0 rfl rfl (run_store1 (.tmp rfl) .const rfl sz29 (by repeat (first | exact Upd.here | apply Upd.there)) (by repeat (first | exact Put.done | apply Put.put | apply Put.skip))) ?_
  refine lnil ?_
  refine xw_then ?_
  refine cw_ret ?_
  refine xw_retT cb84 (Idles.at (fun b w => idle84 b w) b3) (fun a w hF hS => ⟨_, resCC Try.results49 rfl rfl hF (load_own hS kd85 sz85 (by repeat (first | exact List.Mem.head _ | apply List.Mem.tail)) (by repeat (first | exact Sub.done | apply Sub.take | apply Sub.skip))) (load_own1 kd29 (hS.cell (by repeat (first | exact List.Mem.head _ | apply List.Mem.tail)) rfl)), rfl, hS.kept⟩)
set_option maxRecDepth 100000 in
set_option maxHeartbeats 4000000 in
theorem told49_bad {F : FuncId} {cs : List Value} {w : World} {n : Int} (hF : callB Try.prog F = true) (h : ∀ w2, Below w.heap.size w w2 → Pans Try.prog F cs w2 [errP n]) : Gives Try.prog 49 [.func (.func F) #[] cs.toArray] w (.tuple #[.agg [.int .i64 0, .int .i64 0, .int .i64 0, .int .i64 0, .int .i64 0, .int .i64 0].toArray, .int .i64 n]) := by
  refine .mk <| enter (n := 7) Try.func49 rfl rfl rfl (by repeat (first | exact Fill.nil | apply Fill.cons)) ?_
  refine cw_seq ?_
  refine cw_region ?_
  refine lstep rfl rfl rfl (run_alloc zr85) ?_
  intro b2 _
  refine lstep rfl rfl rfl (run_alloc zr29) ?_
  intro b3 _
  refine lnil ?_
  refine xw_then ?_
  refine cw_seq ?_
  refine cw_region ?_
  refine lstepB rfl rfl rfl (En.run_makeFunc .nil (.cons (.tmp rfl) .nil)) ?_
  refine ldefer (.tmp rfl) ?_
  refine lnil ?_
  refine xw_then ?_
  refine cw_seq ?_
  refine cw_region ?_
  refine lstepB rfl rfl rfl (run_move (.tmp rfl)) ?_
  refine lpansv rfl hF (.tmp rfl) .nil rfl (fun w2 hS => h w2 hS.kept) ?_
  refine xw_then_panic ?_
  refine xw_panicT cb84 (CatchesP.at (fun b w hb => catch84 b 0 n w hb) (by repeat (first | exact Upd.here | apply Upd.there))) (fun a w hF hS => ⟨_, resCC Try.results49 rfl rfl hF (load_own hS kd85 sz85 (by repeat (first | exact List.Mem.head _ | apply List.Mem.tail)) (by repeat (first | exact Sub.done | apply Sub.take | apply Sub.skip))) (load_own1 kd29 (hS.cell (by repeat (first | exact List.Mem.head _ | apply List.Mem.tail)) rfl)), rfl, hS.kept⟩)
set_option maxRecDepth 100000 in
set_option maxHeartbeats 4000000 in
theorem told54_ok {F : FuncId} {cs : List Value} {w : World} {a : Int} (hF : callB Try.prog F = true) (h : ∀ w2, Below w.heap.size w w2 → Gives Try.prog F cs w2 ((.int .i64 a))) : Gives Try.prog 54 [.func (.func F) #[] cs.toArray] w (.tuple #[(.int .i64 a), .int .i64 0]) := by
  refine .mk <| enter (n := 7) Try.func54 rfl rfl rfl (by repeat (first | exact Fill.nil | apply Fill.cons)) ?_
  refine cw_seq ?_
  refine cw_region ?_
  refine lstepB rfl rfl rfl (run_assign .const) ?_
  refine lstep rfl rfl rfl (run_alloc zr29) ?_
  intro b3 _
  refine lnil ?_
  refine xw_then ?_
  refine cw_seq ?_
  refine cw_region ?_
  refine lstepB rfl rfl rfl (En.run_makeFunc .nil (.cons (.tmp rfl) .nil)) ?_
  refine ldefer (.tmp rfl) ?_
  refine lnil ?_
  refine xw_then ?_
  refine cw_seq ?_
  refine cw_region ?_
  refine lstepB rfl rfl rfl (run_move (.tmp rfl)) ?_
  refine lstepB rfl rfl rfl (run_callv1 hF (.tmp rfl) .nil rfl (fun w2 hS => h w2 hS.kept)) ?_
  refine lstepB rfl rfl rfl (run_assign (.tmp rfl)) ?_
  refine lstep0 rfl rfl (run_store1 (.tmp rfl) .const rfl sz29 (by repeat (first | exact Upd.here | apply Upd.there)) (by repeat (first | exact Put.done | apply Put.put | apply Put.skip))) ?_
  refine lnil ?_
  refine xw_then ?_
  refine cw_ret ?_
  refine xw_retT cb86 (Idles.at (fun b w => idle86 b w) b3) (fun a w hF hS => ⟨_, resTC Try.results54 rfl rfl hF (load_own1 kd29 (hS.cell (by repeat (first | exact List.Mem.head _ | apply List.Mem.tail)) rfl)), rfl, hS.kept⟩)
set_option maxRecDepth 100000 in
set_option maxHeartbeats 4000000 in
theorem told54_bad {F : FuncId} {cs : List Value} {w : World} {n : Int} (hF : callB Try.prog F = true) (h : ∀ w2, Below w.heap.size w w2 → Pans Try.prog F cs w2 [errP n]) : Gives Try.prog 54 [.func (.func F) #[] cs.toArray] w (.tuple #[(.int .i64 0), .int .i64 n]) := by
  refine .mk <| enter (n := 7) Try.func54 rfl rfl rfl (by repeat (first | exact Fill.nil | apply Fill.cons)) ?_
  refine cw_seq ?_
  refine cw_region ?_
  refine lstepB rfl rfl rfl (run_assign .const) ?_
  refine lstep rfl rfl rfl (run_alloc zr29) ?_
  intro b3 _
  refine lnil ?_
  refine xw_then ?_
  refine cw_seq ?_
  refine cw_region ?_
  refine lstepB rfl rfl rfl (En.run_makeFunc .nil (.cons (.tmp rfl) .nil)) ?_
  refine ldefer (.tmp rfl) ?_
  refine lnil ?_
  refine xw_then ?_
  refine cw_seq ?_
  refine cw_region ?_
  refine lstepB rfl rfl rfl (run_move (.tmp rfl)) ?_
  refine lpansv rfl hF (.tmp rfl) .nil rfl (fun w2 hS => h w2 hS.kept) ?_
  refine xw_then_panic ?_
  refine xw_panicT cb86 (CatchesP.at (fun b w hb => catch86 b 0 n w hb) (by repeat (first | exact Upd.here | apply Upd.there))) (fun a w hF hS => ⟨_, resTC Try.results54 rfl rfl hF (load_own1 kd29 (hS.cell (by repeat (first | exact List.Mem.head _ | apply List.Mem.tail)) rfl)), rfl, hS.kept⟩)
set_option maxRecDepth 100000 in
set_option maxHeartbeats 4000000 in
theorem told65_ok {F : FuncId} {cs : List Value} {w : World} {a c : Int} (hF : callB Try.prog F = true) (h : ∀ w2, Below w.heap.size w w2 → Gives Try.prog F cs w2 (.agg [.int .i64 a, .int .i64 c].toArray)) : Gives Try.prog 65 [.func (.func F) #[] cs.toArray] w (.tuple #[.agg [.int .i64 a, .int .i64 c].toArray, .int .i64 0]) := by
  refine .mk <| enter (n := 7) Try.func65 rfl rfl rfl (by repeat (first | exact Fill.nil | apply Fill.cons)) ?_
  refine cw_seq ?_
  refine cw_region ?_
  refine lstep rfl rfl rfl (run_alloc zr104) ?_
  intro b2 _
  refine lstep rfl rfl rfl (run_alloc zr29) ?_
  intro b3 _
  refine lnil ?_
  refine xw_then ?_
  refine cw_seq ?_
  refine cw_region ?_
  refine lstepB rfl rfl rfl (En.run_makeFunc .nil (.cons (.tmp rfl) .nil)) ?_
  refine ldefer (.tmp rfl) ?_
  refine lnil ?_
  refine xw_then ?_
  refine cw_seq ?_
  refine cw_region ?_
  refine lstepB rfl rfl rfl (run_move (.tmp rfl)) ?_
  refine lstepB rfl rfl rfl (run_callv1 hF (.tmp rfl) .nil rfl (fun w2 hS => h w2 hS.kept)) ?_
  refine lstep0 rfl rfl (run_storeN (.tmp rfl) (.tmp rfl) rfl sz104 rfl (by repeat (first | exact Upd.here | apply Upd.there)) (by repeat (first | exact Put.done | apply Put.put | apply Put.skip))) ?_
  refine lstep0 rfl rfl (run_store1 (.tmp rfl) .const rfl sz29 (by repeat (first | exact Upd.here | apply Upd.there)) (by repeat (first | exact Put.done | apply Put.put | apply Put.skip))) ?_
  refine lnil ?_
  refine xw_then ?_
  refine cw_ret ?_
  refine xw_retT cb91 (Idles.at (fun b w => idle91 b w) b3) (fun a w hF hS => ⟨_, resCC Try.results65 rfl rfl hF (load_own hS kd104 sz104 (by repeat (first | exact List.Mem.head _ | apply List.Mem.tail)) (by repeat (first | exact Sub.done | apply Sub.take | apply Sub.skip))) (load_own1 kd29 (hS.cell (by repeat (first | exact List.Mem.head _ | apply List.Mem.tail)) rfl)), rfl, hS.kept⟩)
set_option maxRecDepth 100000 in
set_option maxHeartbeats 4000000 in
theorem told65_bad {F : FuncId} {cs : List Value} {w : World} {n : Int} (hF : callB Try.prog F = true) (h : ∀ w2, Below w.heap.size w w2 → Pans Try.prog F cs w2 [errP n]) : Gives Try.prog 65 [.func (.func F) #[] cs.toArray] w (.tuple #[.agg [.int .i64 0, .int .i64 0].toArray, .int .i64 n]) := by
  refine .mk <| enter (n := 7) Try.func65 rfl rfl rfl (by repeat (first | exact Fill.nil | apply Fill.cons)) ?_
  refine cw_seq ?_
  refine cw_region ?_
  refine lstep rfl rfl rfl (run_alloc zr104) ?_
  intro b2 _
  refine lstep rfl rfl rfl (run_alloc zr29) ?_
  intro b3 _
  refine lnil ?_
  refine xw_then ?_
  refine cw_seq ?_
  refine cw_region ?_
  refine lstepB rfl rfl rfl (En.run_makeFunc .nil (.cons (.tmp rfl) .nil)) ?_
  refine ldefer (.tmp rfl) ?_
  refine lnil ?_
  refine xw_then ?_
  refine cw_seq ?_
  refine cw_region ?_
  refine lstepB rfl rfl rfl (run_move (.tmp rfl)) ?_
  refine lpansv rfl hF (.tmp rfl) .nil rfl (fun w2 hS => h w2 hS.kept) ?_
  refine xw_then_panic ?_
  refine xw_panicT cb91 (CatchesP.at (fun b w hb => catch91 b 0 n w hb) (by repeat (first | exact Upd.here | apply Upd.there))) (fun a w hF hS => ⟨_, resCC Try.results65 rfl rfl hF (load_own hS kd104 sz104 (by repeat (first | exact List.Mem.head _ | apply List.Mem.tail)) (by repeat (first | exact Sub.done | apply Sub.take | apply Sub.skip))) (load_own1 kd29 (hS.cell (by repeat (first | exact List.Mem.head _ | apply List.Mem.tail)) rfl)), rfl, hS.kept⟩)
end Go.Proofs.Ytfmbnobkenngaaa
