/- Package furrow: way, hasWay, asked. -/
import Derived.Test.YtjdeplehhmhpcaaFH
import Derived.Test.YtjdeplehhmhpcaaFD
namespace Go.Proofs.Ytjdeplehhmhpcaa
open Go.RowKit En

theorem tr_new {w w' : World} {B : Heap} (h : St w NoT B w') : Tr w w' [] B :=
  ⟨h.os, h.tape, h.output, h.size, fun k hk _ => h.old k hk (fun h => h), fun x hx => (h.own x hx).1, fun x hx => .inr ((h.own x hx).2.resolve_right (fun h => h)), h.apart⟩
theorem lr_gives {E : Env} {w0 : World} {T : Nat → Prop} {R : Heap} {d : Option Tmp} {ty : TypeId} {pos : String} {af : Array Edge} {gd : Option (Nat × Bool)} {f : FuncId} {xs : List Operand} {vs : List Value} {ts : Array TypeId} {X : Type} {F : X → Prop} {r : X → Value} {B : X → Heap} (hc : callB Try.prog f = true) (ha : Evs E xs vs)
    (h : ∀ w, St w0 T R w → CallsF Try.prog f vs.toArray w fun e w' => ∃ s, F s ∧ e = .returned (r s) ∧ St w NoT (B s) w') : LR Try.prog E w0 T R [] ⟨d, .call ⟨.value (.func f), xs.toArray, ts⟩, ty, pos, af, gd⟩ F r B :=
  lr_call hc ha fun w hS _ => (h w hS).mono fun _ _ ⟨s, h1, h2, h3⟩ => ⟨s, h1, h2, tr_new h3⟩
theorem lr_makeInts {E : Env} {w0 : World} {T : Nat → Prop} {R : Heap} {d : Option Tmp} {ty : TypeId} {pos : String} {af : Array Edge} {g : Option (Nat × Bool)} {x y : Operand} {n : Nat} (hx : Ev E x (.int .i64 (n : Int))) (hy : Ev E y (.int .i64 (n : Int))) (hb : n ≤ 100) :
    LR Try.prog E w0 T R [] ⟨d, .makeSlice 33 x y, ty, pos, af, g⟩ (fun _ : Nat => True) (fun b => .slice (some ⟨b, 0, none⟩) n n) (fun b => [(b, Obj.cells (intsV (List.replicate n 0)).toArray 3 (0, 0))]) := by
  have h := lr_make0 (E := E) (w0 := w0) (T := T) (R := R) (d := d) (ty := ty) (pos := pos) (af := af) (g := g) (t := 33) ap33 (z0 := .int .i64 0) (sz := 1) zr3 (by omega) hx hy (by omega) (by unfold maxLen; omega)
  have e : intsV (List.replicate n 0) = List.replicate (n * 1) (Value.int .i64 0) := by simp [intsV]
  rw [e]
  exact h
/-- The first offsets that suit. -/
def wayL (l : List SpotD) : Option (List Int) := goes l l.length 0 0 0
section
variable {P : Program} {n : Nat} {E : Env} {w0 w : World} {T : Nat → Prop} {H : Heap} {fn : Func} {R : Ending → World → Prop} {b : Nat}
theorem xw_retCT {ds : List Deferred} {tp tu ty1 : Nat} {v1 v2 : Value} (hds : ds = []) (hr : fn.results = #[.cell tp ty1, .tmp tu]) (hp : En.look tp E = some (.pointer (some ⟨b, 0, none⟩))) (hu : En.look tu E = some v2)
    (h1 : ∀ w, St w0 T H w → (loadVar ty1 ⟨b, 0, none⟩).run P w = .ok v1 w) (kk : ∀ w, St w0 T H w → R (.returned (.tuple #[v1, v2])) w) : XW ds (bodyPostM (FF P none) 0 P fn R) .ret n E w0 T H := by
  subst hds
  refine xw_retM (Ds := []) fun a w hF hS => ⟨_, ?_, kk w hS⟩
  have e1 := hF.get _ _ hp
  have e2 := hF.get _ _ hu
  simp only [results, hr]
  rw [← e2]
  simp only [Array.getD_eq_getD_getElem?] at e1
  simp [e1, asAddr, h1 w hS]
end
set_option maxRecDepth 100000 in
set_option maxHeartbeats 4000000 in
theorem wayK (l : List SpotD) (sa : Option Addr) (sc : Nat) (w : World) (hl : ∀ s ∈ l, SpotOk w s) (hp : SpotsAt w sa l) (hn : l.length ≤ 100) :
    CallsF Try.prog 89 (([.slice sa l.length sc] : List Value)).toArray w fun e w' => ∃ s : Nat × List Int, (s.2.length = l.length ∧ ∀ t, wayL l = some t → s.2 = t) ∧ e = .returned (.tuple #[.slice (some ⟨s.1, 0, none⟩) l.length l.length, .bool (wayL l).isSome]) ∧ St w NoT [(s.1, Obj.cells (intsV s.2).toArray 3 (0, 0))] w' := by
  refine enter (n := 16) Try.func89 rfl rfl rfl (by repeat (first | exact Fill.nil | apply Fill.cons)) ?_
  refine cw_seq ?_
  refine cw_region ?_
  refine lstep rfl rfl rfl (run_box1 (.tmp rfl) rfl) ?_
  intro b1 _
  refine lstep rfl rfl rfl (run_alloc zr33) ?_
  intro b2 _
  refine lstepB rfl rfl rfl (run_assign .const) ?_
  refine lnil ?_
  refine xw_then ?_
  refine cw_seq ?_
  refine cw_region ?_
  refine lstepB rfl rfl rfl (run_load1 (.tmp rfl) kd108 (by repeat (first | exact List.Mem.head _ | apply List.Mem.tail)) (by exact rfl)) ?_
  refine lstepB rfl rfl rfl (run_len (.tmp rfl) sl108) ?_
  refine lstep rfl rfl rfl (LR.runs (R := []) (A := []) (lr_makeInts (.tmp rfl) (.tmp rfl) hn) (by repeat (first | exact Pick.nil | (apply Pick.cons; focus (repeat (first | exact Del.here | apply Del.there))))) (by repeat (first | exact Dels.nil | (apply Dels.cons; focus (repeat (first | exact Del.here | apply Del.there)))))) ?_
  intro b8 _
  refine lstep0 rfl rfl (run_store1 (.tmp rfl) (.tmp rfl) rfl sz33 (by repeat (first | exact Upd.here | apply Upd.there)) (by repeat (first | exact Put.done | apply Put.put | apply Put.skip))) ?_
  refine lnil ?_
  refine xw_then ?_
  refine cw_seq ?_
  refine cw_region ?_
  refine lstep rfl rfl rfl (run_makeMap (mt := 125) (kt := 129) (fun w => by kernel_rfl)) ?_
  intro b9 _
  refine lstep rfl rfl rfl (run_alloc zr125) ?_
  intro b4 _
  refine lstep0 rfl rfl (run_store1 (.tmp rfl) (.tmp rfl) rfl sz125 (by repeat (first | exact Upd.here | apply Upd.there)) (by repeat (first | exact Put.done | apply Put.put | apply Put.skip))) ?_
  refine lnil ?_
  refine xw_then ?_
  refine cw_seq ?_
  refine cw_region ?_
  refine lstep rfl rfl rfl (run_alloc zr126) ?_
  intro b5 _
  refine lnil ?_
  refine xw_then ?_
  refine cw_seq ?_
  refine cw_region ?_
  refine lstepB rfl rfl rfl (En.run_makeFunc .nil (.cons (.tmp rfl) (.cons (.tmp rfl) (.cons (.tmp rfl) (.cons (.tmp rfl) .nil))))) ?_
  refine lstep0 rfl rfl (run_store1 (.tmp rfl) (.tmp rfl) rfl sz126 (by repeat (first | exact Upd.here | apply Upd.there)) (by repeat (first | exact Put.done | apply Put.put | apply Put.skip))) ?_
  refine lnil ?_
  refine xw_then ?_
  refine cw_seq ?_
  refine cw_region ?_
  refine lstepB rfl rfl rfl (run_load1 (.tmp rfl) kd126 (by repeat (first | exact List.Mem.head _ | apply List.Mem.tail)) (by exact rfl)) ?_
  refine lstepB rfl rfl rfl (run_build_at .nil (fun w => bd129_ w)) ?_
  have hcon : ∀ w2, St w NoT [(b5, Obj.cells [.func (.func 102) #[] [ptrV b1, ptrV b4, ptrV b2, ptrV b5].toArray].toArray 126 (0, 0)), (b4, Obj.cells [.map (some b9)].toArray 125 (0, 0)), (b9, Obj.map #[] 0), (b8, Obj.cells (intsV (List.replicate l.length 0)).toArray 3 (0, 0)), (b2, Obj.cells [.slice (some ⟨b8, 0, none⟩) l.length l.length].toArray 33 (0, 0)), (b1, Obj.cells [.slice sa l.length sc].toArray 108 (0, 0))] w2 → CallsF Try.prog 102 ((placeK 0 0 0 :: [ptrV b1, ptrV b4, ptrV b2, ptrV b5] : List Value)).toArray w2 fun e w' => ∃ s : List Int × Array MapEntry × Nat × List PlaceD, After l l.length 0 0 0 (List.replicate l.length 0) [] s ∧ e = .returned (.bool (wayL l).isSome) ∧ Tr w2 w' [(b8, Obj.cells (intsV (List.replicate l.length 0)).toArray 3 (0, 0)), (b9, Obj.map #[] 0)] [(b8, Obj.cells (intsV s.1).toArray 3 (0, 0)), (b9, Obj.map s.2.1 s.2.2.1)] := fun w2 hS => by
    have hne := hS.apart
    simp only [List.pairwise_cons, List.mem_cons, List.not_mem_nil, or_false, forall_eq_or_imp, forall_eq] at hne
    obtain ⟨⟨n1, n2, n3, n4, n5⟩, ⟨n6, n7, n8, n9⟩, ⟨n10, n11, n12⟩, ⟨n13, n14⟩, n15, _⟩ := hne
    have s8 := (hS.own (b8, _) (by repeat (first | exact List.Mem.head _ | apply List.Mem.tail))).2.resolve_right (fun h => h)
    have s9 := (hS.own (b9, _) (by repeat (first | exact List.Mem.head _ | apply List.Mem.tail))).2.resolve_right (fun h => h)
    exact goOnK (q := ⟨b1, b4, b2, b5, sa, sc, b8, b9, l.length⟩) ⟨⟨n14, n7.symm, n13, n3.symm, s8⟩, ⟨n12, n6.symm, n11, n2.symm, s9⟩, n10.symm⟩ hl hp hn l.length 0 0 0 w2 _ _ _ [] (by omega) (by omega) (by omega)
      ⟨hS.kept, hS.cell (by repeat (first | exact List.Mem.head _ | apply List.Mem.tail)) rfl, hS.cell (by repeat (first | exact List.Mem.head _ | apply List.Mem.tail)) rfl, hS.cell (by repeat (first | exact List.Mem.head _ | apply List.Mem.tail)) rfl, hS.cell (by repeat (first | exact List.Mem.head _ | apply List.Mem.tail)) rfl⟩ (hS.mem (by repeat (first | exact List.Mem.head _ | apply List.Mem.tail))) (hS.mem (by repeat (first | exact List.Mem.head _ | apply List.Mem.tail))) (by simp) rfl (fun p hp => by cases hp)
  refine lstep rfl rfl rfl (LR.runs (R := [(b5, _), (b4, _), (b9, _), (b8, _), (b2, _), (b1, _)]) (A := [(b8, _), (b9, _)]) (lr_callv (F := fun s => After l l.length 0 0 0 (List.replicate l.length 0) [] s) (r := fun _ => .bool (wayL l).isSome) (A := [(b8, _), (b9, _)]) (B := fun s => [(b8, Obj.cells (intsV s.1).toArray 3 (0, 0)), (b9, Obj.map s.2.1 s.2.2.1)]) cb102 (.tmp rfl) (.cons (.tmp rfl) .nil) rfl (fun w2 hS hA => hcon w2 hS)) (by repeat (first | exact Pick.nil | (apply Pick.cons; focus (repeat (first | exact Del.here | apply Del.there))))) (by repeat (first | exact Dels.nil | (apply Dels.cons; focus (repeat (first | exact Del.here | apply Del.there)))))) ?_
  intro ⟨o2, es2, ck2, R2⟩ hA2
  refine lstepB rfl rfl rfl (run_assign (.tmp rfl)) ?_
  refine lnil ?_
  refine xw_then ?_
  refine cw_seq ?_
  refine cw_region ?_
  refine lstepB rfl rfl rfl (run_load1 (.tmp rfl) kd33 (by repeat (first | exact List.Mem.head _ | apply List.Mem.tail)) (by exact rfl)) ?_
  refine lstepB rfl rfl rfl (run_move (.tmp rfl)) ?_
  refine lstep0 rfl rfl (run_store1 (.tmp rfl) (.tmp rfl) rfl sz33 (by repeat (first | exact Upd.here | apply Upd.there)) (by repeat (first | exact Put.done | apply Put.put | apply Put.skip))) ?_
  refine lstepB rfl rfl rfl (run_assign (.tmp rfl)) ?_
  refine lnil ?_
  refine xw_then ?_
  refine cw_ret ?_
  refine xw_retCT rfl Try.results89 rfl rfl (fun w2 hS => load_own1 kd33 (hS.cell (by repeat (first | exact List.Mem.head _ | apply List.Mem.tail)) rfl)) (fun w2 hS => ⟨(b8, o2), ⟨by simpa using hA2.len, fun t ht => by simpa using hA2.some_ t ht⟩, rfl, hS.pick (by repeat (first | exact Pick.nil | (apply Pick.cons; focus (repeat (first | exact Del.here | apply Del.there)))))⟩)
end Go.Proofs.Ytjdeplehhmhpcaa
