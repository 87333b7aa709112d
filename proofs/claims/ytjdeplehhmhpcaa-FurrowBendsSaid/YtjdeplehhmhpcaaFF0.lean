/- Package furrow: places as keys of a map. -/
import Derived.Test.YtjdeplehhmhpcaaFE
namespace Go.Proofs.Ytjdeplehhmhpcaa
open Go.RowKit En

theorem eqI (m : Nat) (a b : Int) (w : World) : (Op.equalIn (m + 1) 3 (.int .i64 a) (.int .i64 b)).run Try.prog w = .ok (decide (a = b)) w := by
  unfold Op.equalIn
  rw [Sem.run_bind, show (underlying 3).run Try.prog w = .ok (.int .i64) w from by kernel_rfl]
  by_cases h : a = b <;> simp [Result.andThen, Sem.run_pure, h]
set_option maxHeartbeats 4000000 in
theorem eq127 (m : Nat) (a1 a2 b1 b2 : Int) (w : World) : (Op.equalIn (m + 2) 127 (.agg #[.int .i64 a1, .int .i64 a2]) (.agg #[.int .i64 b1, .int .i64 b2])).run Try.prog w = .ok (decide (a1 = b1) && decide (a2 = b2)) w := by
  unfold Op.equalIn
  rw [Sem.run_bind, show (underlying 127).run Try.prog w = .ok (.array 2 3) w from by kernel_rfl]
  have hz : ∀ w, (sizeOf 3).run Try.prog w = .ok 1 w := fun w => by kernel_rfl
  have p1 : ∀ (x y : Int) w, (part 3 #[.int .i64 x, .int .i64 y] 0).run Try.prog w = .ok (.int .i64 x) w := fun x y w => by kernel_rfl
  have p2 : ∀ (x y : Int) w, (part 3 #[.int .i64 x, .int .i64 y] 1).run Try.prog w = .ok (.int .i64 y) w := fun x y w => by kernel_rfl
  by_cases h1 : a1 = b1 <;> by_cases h2 : a2 = b2 <;> simp [Result.andThen, Sem.run_bind, Sem.run_pure, hz, p1, p2, eqI m, h1, h2, go_sem, Std.Legacy.Range.forIn_eq_forIn_range', Std.Legacy.Range.size, List.range'] 
theorem of_pureB {q : Result Bool} {b : Bool} {w : World} (h : (q.andThen fun a w' => Result.ok (Value.bool a) w') = .ok (.bool b) w) : q = .ok b w := by
  cases q with
  | ok c w' => simpa [Result.andThen] using h
  | halt x w' => simp [Result.andThen] at h
set_option maxHeartbeats 4000000 in
theorem eq129a (a0 a1 a2 b0 b1 b2 : Int) (w : World) : (Op.equal 129 (.agg [.int .i64 a0, .int .i64 a1, .int .i64 a2].toArray) (.agg [.int .i64 b0, .int .i64 b1, .int .i64 b2].toArray)).run Try.prog w = .ok (decide (a0 = b0) && (decide (a1 = b1) && decide (a2 = b2))) w := by
  have h : (binOp .eql 129 (.agg [.int .i64 a0, .int .i64 a1, .int .i64 a2].toArray) (.agg [.int .i64 b0, .int .i64 b1, .int .i64 b2].toArray)).run Try.prog w = .ok (.bool (decide (a0 = b0) && (decide (a1 = b1) && decide (a2 = b2)))) w := by
    have e := eq127 9997 a1 a2 b1 b2
    by_cases h0 : a0 = b0 <;> by_cases h1 : a1 = b1 <;> by_cases h2 : a2 = b2 <;> simp [h1, h2] at e <;> simp [go_sem, h0, h1, h2, e]
  simp only [binOp, Sem.run_bind, Sem.run_pure] at h
  exact of_pureB h
theorem place_eq (p q : PlaceD) : decide (p = q) = (decide (p.k = q.k) && (decide (p.a = q.a) && decide (p.b = q.b))) := by
  obtain ⟨a0, a1, a2⟩ := p
  obtain ⟨b0, b1, b2⟩ := q
  by_cases h0 : a0 = b0 <;> by_cases h1 : a1 = b1 <;> by_cases h2 : a2 = b2 <;> simp [h0, h1, h2]
theorem eq129 (p q : PlaceD) (w : World) : (Op.equal 129 (placeV p) (placeV q)).run Try.prog w = .ok (decide (p = q)) w := by
  rw [place_eq]
  exact eq129a p.k p.a p.b q.k q.a q.b w
theorem keyT : KeyT Try.prog 125 129 placeV where
  map := fun w => by kernel_rfl
  slow := fun p => ⟨(Try.prog.underlying 129).getD .bool, fun w => by kernel_rfl, fun q => by kernel_rfl⟩
  eq := eq129
  ok := fun e p w => by kernel_rfl
  zero := fun w => by kernel_rfl
theorem tr_blk {w w' : World} {A B : Heap} (h : St w (blk A) B w') : Tr w w' A B :=
  ⟨h.os, h.tape, h.output, h.size, fun k hk hne => h.old k hk (fun ⟨x, hx, e⟩ => hne x hx e), fun _ hx => (h.own _ hx).1, fun _ hx => ((h.own _ hx).2).elim .inr (fun ⟨y, hy, e⟩ => .inl ⟨y, hy, e⟩), h.apart⟩
theorem enterH {P : Program} {fn : Func} {f : FuncId} {c : Code} {l : List Value} {n : Nat} {H : Heap} {E : Env} {w : World} {R : Ending → World → Prop} (hf : P.funcs[f]? = some fn) (hb : fn.body = some c) (hn : fn.ntmps = n) (hl : Nat.ble l.length n = true) (hE : Fill 0 l E) (hS : St w (blk H) H w)
    (k : CW none [] P (bodyPostM (FF P none) 0 P fn R) c n E w (blk H) H) : CallsF P f l.toArray w R := by
  have hl' : l.length ≤ n := by simpa using hl
  refine (callsIn_of_wp_marks hf hb (show (P.funcs[f]?).isSome = true by rw [hf]; rfl) (k _ w ⟨by simp [hn]; omega, rfl, fun t v ht => ?_⟩ hS) rfl)
  obtain ⟨_, h2⟩ := hE.get t v ht
  simp only [Nat.sub_zero] at h2
  have hlt : t < l.length := (List.getElem?_eq_some_iff.1 h2).1
  simp [Array.getD_eq_getD_getElem?, Array.getElem?_append_left (show t < l.toArray.size by simpa using hlt), h2]
end Go.Proofs.Ytjdeplehhmhpcaa
