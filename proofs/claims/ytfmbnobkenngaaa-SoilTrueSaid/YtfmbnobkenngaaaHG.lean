/- Soil: what the laws' calls give, on a ground that is valid. -/
import Derived.Test.YtfmbnobkenngaaaHF
import Derived.Test.YtfmbnobkenngaaaGX
namespace Go.Proofs.Ytfmbnobkenngaaa
open Go.RowKit En

section
variable {P : Program} {E : Env} {w0 : World} {T : Nat → Prop} {H : Heap} {x y z : Operand} {d : Option Tmp} {ty : TypeId} {pos : String} {af : Array Edge} {gd : Option (Nat × Bool)}
theorem run_min3 {k : IntKind} {a b c r : Int} {ts : Array TypeId} (hx : Ev E x (.int k a)) (hy : Ev E y (.int k b)) (hz : Ev E z (.int k c)) (h : min (min a b) c = r) : RunB P E w0 T H ⟨d, .call ⟨.builtin .min, [x, y, z].toArray, ts⟩, ty, pos, af, gd⟩ (.int k r) := fun ρ w hρ _ => by
  refine doneO rfl ?_
  have e := hρ x _ (by simp [Op.operands, Call.operands]) hx
  have e' := hρ y _ (by simp [Op.operands, Call.operands]) hy
  have e2 := hρ z _ (by simp [Op.operands, Call.operands]) hz
  subst h
  have h1 : (execOp ρ ⟨d, .call ⟨.builtin .min, [x, y, z].toArray, ts⟩, ty, pos, af, gd⟩).run P w = .ok (.value (.int k (min (min a b) c))) w := by
    simp [execOp, resolve, invoke, builtin, Builtin.min_, Builtin.min2, e, e', e2, go_sem]
    split <;> split <;> omega
  rw [h1]
  exact ⟨rfl, Below.refl _ _⟩
theorem run_max3 {k : IntKind} {a b c r : Int} {ts : Array TypeId} (hx : Ev E x (.int k a)) (hy : Ev E y (.int k b)) (hz : Ev E z (.int k c)) (h : max (max a b) c = r) : RunB P E w0 T H ⟨d, .call ⟨.builtin .max, [x, y, z].toArray, ts⟩, ty, pos, af, gd⟩ (.int k r) := fun ρ w hρ _ => by
  refine doneO rfl ?_
  have e := hρ x _ (by simp [Op.operands, Call.operands]) hx
  have e' := hρ y _ (by simp [Op.operands, Call.operands]) hy
  have e2 := hρ z _ (by simp [Op.operands, Call.operands]) hz
  subst h
  have h1 : (execOp ρ ⟨d, .call ⟨.builtin .max, [x, y, z].toArray, ts⟩, ty, pos, af, gd⟩).run P w = .ok (.value (.int k (max (max a b) c))) w := by
    simp [execOp, resolve, invoke, builtin, Builtin.max_, Builtin.max2, e, e', e2, go_sem]
    split <;> split <;> omega
  rw [h1]
  exact ⟨rfl, Below.refl _ _⟩
end
/-- The work from a place to another one, where there is a truth. -/
def sumR (g : GroundD) (x y : Int) : SpanD := sumS (midS (hardL g) x.toNat (y.toNat + 1))
def hardC (g : GroundD) (k : Int) : SpanD := commonS (voicesL g) ((k.toNat : Nat) : Int)
theorem work_ok {g : GroundD} (hv : validB g = true) {pa : Option Addr} {pc : Nat} {w : World} (hm : g.pits.length ≤ 1000000) (hp : PitsAt w pa g.pits) (ho : lookOk g = true) {x y : Int} (hx : 0 ≤ x) (hxy : x ≤ y) (hy : y ≤ g.long) : Gives Try.prog 19 [.agg [.int .i64 g.long, .int .i64 g.rise, .int .i64 g.change, .slice pa g.pits.length pc].toArray, .int .i64 x, .int .i64 y] w (.tuple #[.agg [.int .i64 (sumR g x y).lo, .int .i64 (sumR g x y).hi].toArray, .int .i64 0]) := by
  have := workK g x y pa pc w hm hp
  have e := workE_in hv hx hxy hy
  rw [ho, if_pos rfl] at e
  rw [workS, e, if_pos rfl] at this
  exact this
theorem work_clash {g : GroundD} (hv : validB g = true) {pa : Option Addr} {pc : Nat} {w : World} (hm : g.pits.length ≤ 1000000) (hp : PitsAt w pa g.pits) (ho : lookOk g = false) {x y : Int} (hx : 0 ≤ x) (hxy : x ≤ y) (hy : y ≤ g.long) : Gives Try.prog 19 [.agg [.int .i64 g.long, .int .i64 g.rise, .int .i64 g.change, .slice pa g.pits.length pc].toArray, .int .i64 x, .int .i64 y] w (.tuple #[.agg [.int .i64 0, .int .i64 0].toArray, .int .i64 10]) := by
  have := workK g x y pa pc w hm hp
  have e := workE_in hv hx hxy hy
  rw [ho, if_neg (by decide)] at e
  rw [workS, e, if_neg (by decide)] at this
  exact this
theorem work_back {g : GroundD} (hv : validB g = true) {pa : Option Addr} {pc : Nat} {w : World} (hm : g.pits.length ≤ 1000000) (hp : PitsAt w pa g.pits) {z : Int} : Gives Try.prog 19 [.agg [.int .i64 g.long, .int .i64 g.rise, .int .i64 g.change, .slice pa g.pits.length pc].toArray, .int .i64 (z + 1), .int .i64 z] w (.tuple #[.agg [.int .i64 0, .int .i64 0].toArray, .int .i64 2]) := by
  have := workK g (z + 1) z pa pc w hm hp
  rw [workS, workE_back hv, if_neg (by decide)] at this
  exact this
theorem hard_ok {g : GroundD} (hv : validB g = true) {pa : Option Addr} {pc : Nat} {w : World} (hm : g.pits.length ≤ 1000000) (hp : PitsAt w pa g.pits) (ho : lookOk g = true) {k : Int} (hk : 0 ≤ k) (hk2 : k ≤ g.long) : Gives Try.prog 13 [.agg [.int .i64 g.long, .int .i64 g.rise, .int .i64 g.change, .slice pa g.pits.length pc].toArray, .int .i64 k] w (.tuple #[.agg [.int .i64 (hardC g k).lo, .int .i64 (hardC g k).hi].toArray, .int .i64 0]) := by
  have := hardK g k pa pc w hm hp
  have e := hardE_in hv (l := [k]) (by intro n hn; simp at hn; omega)
  rw [ho, if_pos rfl] at e
  rw [hardS, e, if_pos rfl] at this
  exact this
theorem hard_clash {g : GroundD} (hv : validB g = true) {pa : Option Addr} {pc : Nat} {w : World} (hm : g.pits.length ≤ 1000000) (hp : PitsAt w pa g.pits) (ho : lookOk g = false) {k : Int} (hk : 0 ≤ k) (hk2 : k ≤ g.long) : Gives Try.prog 13 [.agg [.int .i64 g.long, .int .i64 g.rise, .int .i64 g.change, .slice pa g.pits.length pc].toArray, .int .i64 k] w (.tuple #[.agg [.int .i64 0, .int .i64 0].toArray, .int .i64 10]) := by
  have := hardK g k pa pc w hm hp
  have e := hardE_in hv (l := [k]) (by intro n hn; simp at hn; omega)
  rw [ho, if_neg (by decide)] at e
  rw [hardS, e, if_neg (by decide)] at this
  exact this
theorem class_ok {g : GroundD} (hv : validB g = true) {pa : Option Addr} {pc : Nat} {w : World} (hm : g.pits.length ≤ 1000000) (hp : PitsAt w pa g.pits) (ho : lookOk g = true) {k : Int} (hk : 0 ≤ k) (hk2 : k ≤ g.long) : Gives Try.prog 17 [.agg [.int .i64 g.long, .int .i64 g.rise, .int .i64 g.change, .slice pa g.pits.length pc].toArray, .int .i64 k] w (.tuple #[.int .i64 ((classesM ((soilsL g).getD k.toNat noMix) : Nat) : Int), .int .i64 0]) := by
  have := classK g k pa pc w hm hp
  have e := hardE_in hv (l := [k]) (by intro n hn; simp at hn; omega)
  rw [ho, if_pos rfl] at e
  rw [classV, e, if_pos rfl] at this
  exact this
theorem class_clash {g : GroundD} (hv : validB g = true) {pa : Option Addr} {pc : Nat} {w : World} (hm : g.pits.length ≤ 1000000) (hp : PitsAt w pa g.pits) (ho : lookOk g = false) {k : Int} (hk : 0 ≤ k) (hk2 : k ≤ g.long) : Gives Try.prog 17 [.agg [.int .i64 g.long, .int .i64 g.rise, .int .i64 g.change, .slice pa g.pits.length pc].toArray, .int .i64 k] w (.tuple #[.int .i64 0, .int .i64 10]) := by
  have := classK g k pa pc w hm hp
  have e := hardE_in hv (l := [k]) (by intro n hn; simp at hn; omega)
  rw [ho, if_neg (by decide)] at e
  rw [classV, e, if_neg (by decide)] at this
  exact this
theorem parts_ok {g : GroundD} (hv : validB g = true) {pa : Option Addr} {pc : Nat} {w : World} (hm : g.pits.length ≤ 1000000) (hp : PitsAt w pa g.pits) (ho : lookOk g = true) {k : Int} (hk : 0 ≤ k) (hk2 : k ≤ g.long) : Gives Try.prog 15 [.agg [.int .i64 g.long, .int .i64 g.rise, .int .i64 g.change, .slice pa g.pits.length pc].toArray, .int .i64 k] w (.tuple #[.agg [.int .i64 ((soilsL g).getD k.toNat noMix).sand.lo, .int .i64 ((soilsL g).getD k.toNat noMix).sand.hi].toArray, .agg [.int .i64 ((soilsL g).getD k.toNat noMix).silt.lo, .int .i64 ((soilsL g).getD k.toNat noMix).silt.hi].toArray, .agg [.int .i64 ((soilsL g).getD k.toNat noMix).clay.lo, .int .i64 ((soilsL g).getD k.toNat noMix).clay.hi].toArray, .int .i64 0]) := by
  have := partsK g k pa pc w hm hp
  have e := hardE_in hv (l := [k]) (by intro n hn; simp at hn; omega)
  rw [ho, if_pos rfl] at e
  rw [partsM, e, if_pos rfl] at this
  exact this
theorem parts_clash {g : GroundD} (hv : validB g = true) {pa : Option Addr} {pc : Nat} {w : World} (hm : g.pits.length ≤ 1000000) (hp : PitsAt w pa g.pits) (ho : lookOk g = false) {k : Int} (hk : 0 ≤ k) (hk2 : k ≤ g.long) : Gives Try.prog 15 [.agg [.int .i64 g.long, .int .i64 g.rise, .int .i64 g.change, .slice pa g.pits.length pc].toArray, .int .i64 k] w (.tuple #[.agg [.int .i64 0, .int .i64 0].toArray, .agg [.int .i64 0, .int .i64 0].toArray, .agg [.int .i64 0, .int .i64 0].toArray, .int .i64 10]) := by
  have := partsK g k pa pc w hm hp
  have e := hardE_in hv (l := [k]) (by intro n hn; simp at hn; omega)
  rw [ho, if_neg (by decide)] at e
  rw [partsM, e, if_neg (by decide)] at this
  exact this
theorem dig_ok {g : GroundD} (hv : validB g = true) {pa : Option Addr} {pc : Nat} {w : World} (hm : g.pits.length ≤ 1000000) (hp : PitsAt w pa g.pits) (ho : lookOk g = true) : Gives Try.prog 23 [.agg [.int .i64 g.long, .int .i64 g.rise, .int .i64 g.change, .slice pa g.pits.length pc].toArray] w (.tuple #[.int .i64 (widF (hardL g) (hardL g).length).1, .int .i64 (widF (hardL g) (hardL g).length).2, .int .i64 0]) := by
  have := digK g pa pc w hm hp
  have e := hardE_in hv (l := []) (by intro n hn; simp at hn)
  rw [ho, if_pos rfl] at e
  rw [digS, e, if_pos rfl] at this
  exact this
theorem dig_clash {g : GroundD} (hv : validB g = true) {pa : Option Addr} {pc : Nat} {w : World} (hm : g.pits.length ≤ 1000000) (hp : PitsAt w pa g.pits) (ho : lookOk g = false) : Gives Try.prog 23 [.agg [.int .i64 g.long, .int .i64 g.rise, .int .i64 g.change, .slice pa g.pits.length pc].toArray] w (.tuple #[.int .i64 0, .int .i64 0, .int .i64 10]) := by
  have := digK g pa pc w hm hp
  have e := hardE_in hv (l := []) (by intro n hn; simp at hn)
  rw [ho, if_neg (by decide)] at e
  rw [digS, e, if_neg (by decide)] at this
  exact this
theorem stretch_clash {g : GroundD} (hv : validB g = true) {pa : Option Addr} {pc : Nat} {w : World} (hm : g.pits.length ≤ 1000000) (hp : PitsAt w pa g.pits) (ho : lookOk g = false) {c : Int} (hc : 0 ≤ c ∧ c < 4) : Gives Try.prog 21 [.agg [.int .i64 g.long, .int .i64 g.rise, .int .i64 g.change, .slice pa g.pits.length pc].toArray, .int .i64 c] w (.tuple #[.int .i64 0, .int .i64 0, .int .i64 10]) := by
  have := stretchK g c pa pc w hm hp
  have e : stretchE g c = some 10 := by
    unfold stretchE
    rw [checkE_in hv (l := []) (by intro n hn; simp at hn)]
    simp only
    rw [if_neg (by omega), ho, if_neg (by decide)]
  rw [stretchS, e, if_neg (by decide)] at this
  exact this
theorem stretch_none {g : GroundD} (hv : validB g = true) {pa : Option Addr} {pc : Nat} {w : World} (hm : g.pits.length ≤ 1000000) (hp : PitsAt w pa g.pits) (ho : lookOk g = true) {c : Int} (hc : 0 ≤ c ∧ c < 4) (hz : ¬ 0 < (longG g c.toNat).2.2) : Gives Try.prog 21 [.agg [.int .i64 g.long, .int .i64 g.rise, .int .i64 g.change, .slice pa g.pits.length pc].toArray, .int .i64 c] w (.tuple #[.int .i64 0, .int .i64 0, .int .i64 4]) := by
  have := stretchK g c pa pc w hm hp
  have e : stretchE g c = some 4 := by
    unfold stretchE
    rw [checkE_in hv (l := []) (by intro n hn; simp at hn)]
    simp only
    rw [if_neg (by omega), ho, if_pos rfl, if_neg hz]
  rw [stretchS, e, if_neg (by decide)] at this
  exact this
theorem stretch_ok {g : GroundD} (hv : validB g = true) {pa : Option Addr} {pc : Nat} {w : World} (hm : g.pits.length ≤ 1000000) (hp : PitsAt w pa g.pits) (ho : lookOk g = true) {c : Int} (hc : 0 ≤ c ∧ c < 4) (hz : 0 < (longG g c.toNat).2.2) : Gives Try.prog 21 [.agg [.int .i64 g.long, .int .i64 g.rise, .int .i64 g.change, .slice pa g.pits.length pc].toArray, .int .i64 c] w (.tuple #[.int .i64 (longG g c.toNat).1, .int .i64 (longG g c.toNat).2.1, .int .i64 0]) := by
  have := stretchK g c pa pc w hm hp
  have e : stretchE g c = none := by
    unfold stretchE
    rw [checkE_in hv (l := []) (by intro n hn; simp at hn)]
    simp only
    rw [if_neg (by omega), ho, if_pos rfl, if_pos hz]
  rw [stretchS, e, if_pos rfl] at this
  exact this
theorem checkE_nil {g : GroundD} (hv : validB g = true) : checkE g [] = none := checkE_in hv (by intro n hn; simp at hn)
theorem odd_ok {g : GroundD} (hv : validB g = true) {pa : Option Addr} {pc : Nat} {w : World} (hm : g.pits.length ≤ 1000000) (hp : PitsAt w pa g.pits) (hcap : g.pits.length ≤ pc) (ho : lookOk g = false) : Gives Try.prog 25 [.agg [.int .i64 g.long, .int .i64 g.rise, .int .i64 g.change, .slice pa g.pits.length pc].toArray] w (.tuple #[.int .i64 ((oddF g g.pits.length : Nat) : Int), .int .i64 0]) := by
  have := oddK g pa pc w hm hcap hp
  have e : oddE g = none := by
    unfold oddE
    rw [checkE_nil hv]
    simp [ho]
  rw [oddV, e, if_pos rfl] at this
  exact this
theorem odd_none {g : GroundD} (hv : validB g = true) {pa : Option Addr} {pc : Nat} {w : World} (hm : g.pits.length ≤ 1000000) (hp : PitsAt w pa g.pits) (hcap : g.pits.length ≤ pc) (ho : lookOk g = true) : Gives Try.prog 25 [.agg [.int .i64 g.long, .int .i64 g.rise, .int .i64 g.change, .slice pa g.pits.length pc].toArray] w (.tuple #[.int .i64 0, .int .i64 4]) := by
  have := oddK g pa pc w hm hcap hp
  have e : oddE g = some 4 := by
    unfold oddE
    rw [checkE_nil hv]
    simp [ho]
  rw [oddV, e, if_neg (by decide)] at this
  exact this
section
variable {g : GroundD}
theorem hardL_get (k : Nat) (hk : k < placesN g) : (hardL g)[k]? = some (commonS (voicesL g) (k : Int)) := hardL_at hk
theorem sumR_one {k : Int} (h0 : 0 ≤ k) (h1 : k ≤ g.long) : sumR g k k = hardC g k := by
  unfold sumR hardC
  rw [midS_one (hardL_get k.toNat (by unfold placesN; omega)), sumS_one]
theorem sumR_split {x y z : Int} (h0 : 0 ≤ x) (h1 : x ≤ y) (h2 : y < z) : sumR g x z = ⟨(sumR g x y).lo + (sumR g (y + 1) z).lo, (sumR g x y).hi + (sumR g (y + 1) z).hi⟩ := by
  unfold sumR
  rw [midS_split (a := x.toNat) (b := y.toNat + 1) (c := z.toNat + 1) (by omega) (by omega), sumS_append, show (y + 1).toNat = y.toNat + 1 by omega]
theorem sumR_bound (hg : ValidG g) (x y : Int) (h0 : 0 ≤ x) (h1 : x ≤ y) (h2 : y ≤ g.long) : 0 ≤ (sumR g x y).lo ∧ (sumR g x y).lo ≤ 41000 ∧ 0 ≤ (sumR g x y).hi ∧ (sumR g x y).hi ≤ 41000 := by
  have hl := midS_length (l := hardL g) (lo := x.toNat) (hi := y.toNat + 1) (by omega) (by rw [hardL_length]; omega)
  have hlong := hg.long
  have := sumS_bound (l := midS (hardL g) x.toNat (y.toNat + 1)) (fun s hs => by
    obtain ⟨i, hi, rfl⟩ := List.getElem_of_mem hs
    exact hardL_in1000 hg _ (List.mem_of_getElem? (midS_at (List.getElem?_eq_getElem hi)))) (midS (hardL g) x.toNat (y.toNat + 1)).length
  rw [List.take_length, hl] at this
  unfold sumR
  omega
theorem hardC_bound (hg : ValidG g) (ho : lookOk g = true) {k : Int} (h0 : 0 ≤ k) (h1 : k ≤ g.long) : 0 ≤ (hardC g k).lo ∧ (hardC g k).lo ≤ (hardC g k).hi ∧ (hardC g k).hi ≤ 1000 := by
  have q1 := common_in1000 hg ((k.toNat : Nat) : Int) (by omega)
  have q2 := hardOk_at (lookOk_hard ho) (k := k.toNat) (by unfold placesN; omega)
  unfold in1000 at q1
  unfold hardC
  omega
theorem hardC_near (hg : ValidG g) {k m : Int} (h0 : 0 ≤ k) (h1 : 0 ≤ m) (h2 : k - m ≤ 1) (h3 : m - k ≤ 1) : (hardC g k).lo - (hardC g m).lo ≤ g.rise ∧ (hardC g k).hi - (hardC g m).hi ≤ g.rise := common_near hg.rise.1 (by omega) (by omega)
theorem wid_spec (hg : ValidG g) (ho : lookOk g = true) : (∀ k : Int, 0 ≤ k → k ≤ g.long → (hardC g k).hi - (hardC g k).lo ≤ (widF (hardL g) (hardL g).length).2 ∧ ((hardC g k).hi - (hardC g k).lo = (widF (hardL g) (hardL g).length).2 → (widF (hardL g) (hardL g).length).1 ≤ k) ∧ (k = (widF (hardL g) (hardL g).length).1 → (hardC g k).hi - (hardC g k).lo = (widF (hardL g) (hardL g).length).2)) ∧ 0 ≤ (widF (hardL g) (hardL g).length).1 ∧ (widF (hardL g) (hardL g).length).1 ≤ g.long := by
  have hlong := hg.long
  obtain ⟨h1, h2, _⟩ := widF_spec (L := hardL g) (fun s hs => by
    obtain ⟨i, hi, rfl⟩ := List.getElem_of_mem hs
    rw [hardL_length] at hi
    have := hardOk_at (lookOk_hard ho) (k := i) hi
    have e := hardL_get (g := g) i hi
    rw [List.getElem?_eq_getElem (by rw [hardL_length]; exact hi)] at e
    rw [Option.some.inj e]; exact this) _ (Nat.le_refl _)
  have h3 := h2 (by rw [hardL_length]; omega)
  refine ⟨fun k k0 k1 => ?_, h3.1, by have h4 := h3.2; have hl := hardL_length g; omega⟩
  have := h1 k.toNat (hardC g k) (by rw [hardL_length]; omega) (hardL_get _ (by unfold placesN; omega))
  rw [Int.toNat_of_nonneg k0] at this
  exact this
end
end Go.Proofs.Ytfmbnobkenngaaa
