/- Soil: a ground that is made, and its truth. -/
import Derived.Test.YtfmbnobkenngaaaHU
import Derived.Test.YtfmbnobkenngaaaHK
namespace Go.Proofs.Ytfmbnobkenngaaa
open Go.RowKit En

theorem bd112_0_1_2 {x0_p : Option Addr} {x1_p : Option Addr} {x2_p : Option Addr} (w : World) : (Instr.build 112 [(0, .pointer x0_p), (1, .pointer x1_p), (2, .pointer x2_p)].toArray).run Try.prog w = .ok (.agg [.pointer x0_p, .pointer x1_p, .pointer x2_p].toArray) w := by simp [go_sem]
theorem run_nilAt {P : Program} {E : Env} {w0 : World} {T : Nat → Prop} {H : Heap} {x : Operand} {d : Option Tmp} {ty : TypeId} {pos : String} {af : Array Edge} {gd : Option (Nat × Bool)} {a : Addr} (hx : Ev E x (.pointer (some a))) : RunB P E w0 T H ⟨d, .nilCheck x, ty, pos, af, gd⟩ (.pointer (some a)) := fun ρ w hρ hS => by
  refine doneO rfl ?_
  have e1 := hρ x _ (by simp [Op.operands]) hx
  simp [execOp, e1, Done, go_sem, asAddr, Below.refl]
theorem drawN (n c : Int) (b1 dC pb po cap : Nat) (l : List Int) (w : World) (hn : 1 ≤ n ∧ n ≤ 1000000) (hc : 0 ≤ c ∧ c ≤ 1000000) (hC : w.heap[dC]? = some (cntO c)) (hD : DrawOk w b1 dC pb po cap l) : CallsF Try.prog 74 (([.int .i64 n, .pointer (some ⟨dC, 0, none⟩), .pointer (some ⟨b1, 0, none⟩)] : List Value)).toArray w fun e w' => ∃ i : Nat, (i : Int) < n ∧ e = .returned (.int .i64 (i : Int)) ∧ Tr w w' [(dC, cntO c)] [(dC, cntO (c + 1))] :=
  (drawK n c b1 dC pb po cap l w hn hc hC hD).mono fun e w' ⟨r, ⟨r0, r1⟩, he, ht⟩ => ⟨r.toNat, by omega, by rw [he]; congr 2; omega, ht⟩
theorem ptr3 {b i : Nat} (h : i < 3) : [Value.pointer (some ⟨b, 1, none⟩), .pointer (some ⟨b, 2, none⟩), .pointer (some ⟨b, 3, none⟩)][0 + i * 1]? = some (.pointer (some ⟨b, 1 + i, none⟩)) := by
  obtain rfl | rfl | rfl : i = 0 ∨ i = 1 ∨ i = 2 := by omega
  all_goals rfl
theorem under111 : Try.prog.underlying 111 = some (.pointer 3) := by kernel_rfl
theorem eqIn111 (d : Nat) {b o o' : Nat} (w : World) : (Op.equalIn (d + 1) 111 (.pointer (some ⟨b, o, none⟩)) (.pointer (some ⟨b, o', none⟩))).run Try.prog w = .ok (decide (o = o')) w := by
  have h3 := sz3
  unfold sizeB at h3
  obtain ⟨j, hj, hz⟩ := Option.map_eq_some_iff.1 h3
  have hz' : j.size ≠ 0 := by omega
  by_cases h : o = o'
  · simp [Op.equalIn, run_underlying under111, sizeOf, typeInfo, hj, hz', sameAddr, h]
  · simp [Op.equalIn, run_underlying under111, sizeOf, typeInfo, hj, hz', sameAddr, h]
theorem eq111 {b o o' : Nat} (w : World) : (Op.equal 111 (.pointer (some ⟨b, o, none⟩)) (.pointer (some ⟨b, o', none⟩))).run Try.prog w = .ok (decide (o = o')) w := eqIn111 9999 w
theorem neq111 {b o o' : Nat} {r : Bool} (h : (!decide (o = o')) = r) (w : World) : (binOp .neq 111 (.pointer (some ⟨b, o, none⟩)) (.pointer (some ⟨b, o', none⟩))).run Try.prog w = .ok (.bool r) w := by
  subst h
  simp only [binOp]
  simp [go_sem, eq111]
theorem box_ne {w : World} {b dC : Nat} {k : Nat} {l : List Value} {c : Int} {fr : Nat × Nat} (h1 : w.heap[b]? = some (Obj.cells (.func (.func k) #[] l.toArray :: []).toArray 47 fr)) (h2 : w.heap[dC]? = some (cntO c)) : b ≠ dC := by
  rintro rfl
  rw [h1] at h2
  simp [cntO] at h2
theorem tr_of {w w' : World} {b : Nat} {o : Obj} {B : Heap} (h : St w (fun k => k = b) B w') : Tr w w' [(b, o)] B :=
  ⟨h.os, h.tape, h.output, h.size, fun k hk hne => h.old k hk (fun e => hne (b, o) (by simp) e.symm), fun _ hx => (h.own _ hx).1, fun _ hx => ((h.own _ hx).2).elim .inr (fun e => .inl ⟨(b, o), by simp, e.symm⟩), h.apart⟩
theorem inrow_some {sz n : Nat} {xs : List Value} (h : xs.length = n * sz) (hn : n ≤ maxLen) : ∃ q : Nat × Nat × List Value, InRow sz n q.2.1 q.2.2 xs := ⟨(0, n, xs), Nat.le_refl _, hn, h, by rw [← h]; exact List.take_length⟩
theorem own_cell1 {w : World} {b : Nat} {v : Value} {te : TypeId} {fr : Nat × Nat} (h : w.heap[b]? = some (.cells [v].toArray te fr)) : w.cell? ⟨b, 0, none⟩ = some v := by simp [World.cell?, h]
structure PlaceD where
  h : Int
  a : Int
  b : Int
  c : Int
abbrev plC (p : PlaceD) : List Value := [.int .i64 p.h, .int .i64 p.a, .int .i64 p.b, .int .i64 p.c]
abbrev plsC (l : List PlaceD) : List Value := l.flatMap plC
theorem plsC_append (a b : List PlaceD) : plsC (a ++ b) = plsC a ++ plsC b := List.flatMap_append ..
theorem plsC_length : ∀ l : List PlaceD, (plsC l).length = l.length * 4
  | [] => rfl
  | p :: r => by
    show ((plC p) ++ plsC r).length = _
    rw [List.length_append, plsC_length r]; simp only [List.length_cons, List.length_nil]; omega
theorem plsC_at : ∀ (l : List PlaceD) (i : Nat) (p : PlaceD), l[i]? = some p → ∀ j v, (plC p)[j]? = some v → (plsC l)[i * 4 + j]? = some v
  | [], i, p, h, _, _, _ => by cases h
  | a :: r, 0, p, h, j, v, hj => by
    cases h
    have hlt := (List.getElem?_eq_some_iff.1 hj).1
    show (plC a ++ plsC r)[0 * 4 + j]? = _
    rw [show 0 * 4 + j = j by omega, List.getElem?_append_left hlt]; exact hj
  | a :: r, i + 1, p, h, j, v, hj => by
    show (plC a ++ plsC r)[(i + 1) * 4 + j]? = _
    rw [List.getElem?_append_right (by simp only [List.length_cons, List.length_nil]; omega)]
    rw [show (i + 1) * 4 + j - (plC a).length = i * 4 + j by simp only [List.length_cons, List.length_nil]; omega]
    exact plsC_at r i p (by simpa using h) j v hj
def okP (p : PlaceD) : Prop := (0 ≤ p.h ∧ p.h ≤ 1000) ∧ 0 ≤ p.a ∧ 0 ≤ p.b ∧ 0 ≤ p.c ∧ p.a + p.b + p.c = 20
def nearP (rise change : Int) (p q : PlaceD) : Prop := (p.h - q.h ≤ rise ∧ q.h - p.h ≤ rise) ∧ (p.a - q.a ≤ change ∧ q.a - p.a ≤ change) ∧ (p.b - q.b ≤ change ∧ q.b - p.b ≤ change) ∧ (p.c - q.c ≤ change ∧ q.c - p.c ≤ change)
def spanH (s : SpanD) (m x : Int) : Prop := 0 ≤ s.lo ∧ s.lo ≤ x ∧ x ≤ s.hi ∧ s.hi ≤ m
def fitP (p : PitD) (q : PlaceD) : Prop := spanH p.hard 1000 q.h ∧ spanH p.sand 20 q.a ∧ spanH p.silt 20 q.b ∧ spanH p.clay 20 q.c
/-- What is made so far. -/
structure Made (rise change : Int) (n : Nat) (L : List PlaceD) (ps : List PitD) : Prop where
  len : L.length = n
  ok : ∀ (i : Nat) (p : PlaceD), L[i]? = some p → okP p
  near : ∀ (i : Nat) (p q : PlaceD), L[i]? = some p → L[i + 1]? = some q → nearP rise change p q
  pits : ∀ p ∈ ps, ∃ (i : Nat) (q : PlaceD), p.at_ = (i : Int) ∧ L[i]? = some q ∧ fitP p q
  ord : ps.Pairwise fun p q => p.at_ < q.at_
  few : ps.length ≤ 8
theorem Made.nil {rise change : Int} : Made rise change 0 [] [] := ⟨rfl, (fun i p h => by simp at h), (fun i p q h => by simp at h), (fun p h => by cases h), .nil, by simp⟩
theorem Made.grow {rise change : Int} {n : Nat} {L : List PlaceD} {ps : List PitD} {q : PlaceD} (h : Made rise change n L ps) (hq : okP q) (hn : ∀ p, 0 < n → L[n - 1]? = some p → nearP rise change p q) : Made rise change (n + 1) (L ++ [q]) ps := by
  have hl := h.len
  refine ⟨by simp [hl], fun i p hi => ?_, fun i p p2 hi hi2 => ?_, fun p hp => ?_, h.ord, h.few⟩
  · rcases Nat.lt_or_ge i L.length with c | c
    · rw [List.getElem?_append_left c] at hi; exact h.ok i p hi
    · rw [List.getElem?_append_right c] at hi
      obtain ⟨e1, e2⟩ := List.getElem?_eq_some_iff.1 hi
      simp at e1
      have : p = q := by rw [← e2]; simp [e1]
      subst this; exact hq
  · have c2 : i + 1 < L.length + 1 := by have := (List.getElem?_eq_some_iff.1 hi2).1; simpa using this
    rw [List.getElem?_append_left (by omega)] at hi
    rcases Nat.lt_or_ge (i + 1) L.length with c | c
    · rw [List.getElem?_append_left c] at hi2; exact h.near i p p2 hi hi2
    · rw [List.getElem?_append_right c] at hi2
      obtain ⟨e1, e2⟩ := List.getElem?_eq_some_iff.1 hi2
      have : p2 = q := by rw [← e2]; simp [show i + 1 - L.length = 0 by omega]
      subst this
      exact hn p (by omega) (by rw [show n - 1 = i by omega]; exact hi)
  · obtain ⟨i, q2, e, hi, hf⟩ := h.pits p hp
    exact ⟨i, q2, e, by rw [List.getElem?_append_left (List.getElem?_eq_some_iff.1 hi).1]; exact hi, hf⟩
theorem Made.dig {rise change : Int} {n : Nat} {L : List PlaceD} {ps : List PitD} {q : PlaceD} {p : PitD} (h : Made rise change n L ps) (h2 : Made rise change (n + 1) (L ++ [q]) ps) (he : p.at_ = (n : Int)) (hf : fitP p q) (h8 : ps.length < 8) : Made rise change (n + 1) (L ++ [q]) (ps ++ [p]) := by
  have hl := h.len
  refine ⟨h2.len, h2.ok, h2.near, fun o ho => ?_, ?_, by simp; omega⟩
  · rcases List.mem_append.1 ho with ho | ho
    · exact h2.pits o ho
    · rw [List.mem_singleton] at ho; subst ho
      exact ⟨n, q, he, by rw [List.getElem?_append_right (by omega)]; simp [hl], hf⟩
  · rw [List.pairwise_append]
    refine ⟨h.ord, List.pairwise_singleton _ _, fun a ha b hb => ?_⟩
    rw [List.mem_singleton] at hb; subst hb
    obtain ⟨i, q2, e, hi, _⟩ := h.pits a ha
    have := (List.getElem?_eq_some_iff.1 hi).1
    rw [e, he]; omega
theorem Made.last {rise change : Int} {n : Nat} {L : List PlaceD} {ps : List PitD} {q : PlaceD} (h : Made rise change n L ps) : (L ++ [q])[n + 1 - 1]? = some q := by
  rw [List.getElem?_append_right (by have := h.len; omega)]; simp [h.len]
/-- A ground and the truth that it was made of. -/
structure Truly (g : GroundD) (L : List PlaceD) : Prop where
  m : Made g.rise g.change L.length L g.pits
  len : (L.length : Int) = g.long + 1
  long : 0 ≤ g.long ∧ g.long ≤ 12
  rise : 0 ≤ g.rise ∧ g.rise ≤ 1000
  change : 0 ≤ g.change ∧ g.change ≤ 20
namespace Truly
variable {g : GroundD} {L : List PlaceD}
theorem vg (t : Truly g L) : VG g := by
  have hlong := t.long
  refine ⟨⟨by omega, t.rise, t.change, t.m.few, fun p hp => ?_⟩, t.m.ord⟩
  obtain ⟨i, q, e, hi, hf⟩ := t.m.pits p hp
  have := (List.getElem?_eq_some_iff.1 hi).1
  have hl := t.len
  refine ⟨by omega, ?_⟩
  simp only [fitP, spanH] at hf
  simp only [pitB, withinB, Bool.and_eq_true, decide_eq_true_eq]
  omega
def no : PlaceD := ⟨0, 0, 0, 0⟩
def H (L : List PlaceD) (j : Nat) : Int := (L.getD j no).h
def S (L : List PlaceD) (j : Nat) : S3 := ⟨(L.getD j no).a, (L.getD j no).b, (L.getD j no).c⟩
theorem places (t : Truly g L) : placesN g = L.length := by have := t.len; unfold placesN; omega
theorem get (j : Nat) (p : PlaceD) (h : L[j]? = some p) : L.getD j no = p := by rw [List.getD_eq_getElem?_getD, h]; rfl
theorem some_ {j : Nat} (h : j < L.length) : L[j]? = some (L.getD j no) := by rw [List.getD_eq_getElem?_getD, List.getElem?_eq_getElem h]; rfl
theorem truthH (t : Truly g L) : TruthH g (H L) := fun j hj => by
  rw [t.places] at hj
  have h1 := some_ hj
  refine ⟨(t.m.ok j _ h1).1, fun p hp e => ?_, fun hj1 => ?_⟩
  · obtain ⟨i, q, e2, hi, hf⟩ := t.m.pits p hp
    obtain rfl : i = j := by omega
    have := get i q hi
    simp only [fitP, spanH] at hf
    unfold H; rw [this]; omega
  · rw [t.places] at hj1
    have := t.m.near j _ _ h1 (some_ hj1)
    exact this.1
theorem truthP (t : Truly g L) : TruthP g (S L) := fun j hj => by
  rw [t.places] at hj
  have h1 := some_ hj
  have hk := t.m.ok j _ h1
  refine ⟨⟨hk.2.2.2.2, hk.2.1, hk.2.2.1, hk.2.2.2.1⟩, fun p hp e => ?_, fun hj1 => ?_⟩
  · obtain ⟨i, q, e2, hi, hf⟩ := t.m.pits p hp
    obtain rfl : i = j := by omega
    have := get i q hi
    simp only [fitP, spanH] at hf
    simp only [InM, pitM, S]; rw [this]; omega
  · rw [t.places] at hj1
    have := t.m.near j _ _ h1 (some_ hj1)
    simp only [nearP] at this
    simp only [nearS, S]; omega
theorem look (t : Truly g L) : lookOk g = true := (lookOk_iff t.vg).2 ⟨⟨_, t.truthH⟩, ⟨_, t.truthP⟩⟩
end Truly
inductive MadeR where
  | zero
  | one (r : Nat × Nat × List Value)
  | two (r u : Nat × Nat × List Value)
structure MadeS where
  n : Nat
  k : Int
  h : Int
  a : Int
  b : Int
  c : Int
  L : List PlaceD
  m : Nat
  ps : List PitD
  rows : MadeR
structure MeetS where
  k : Int
  h : Int
  a : Int
  b : Int
  c : Int
structure MOut where
  g : GroundD
  L : List PlaceD
  k : Int
  r : Nat × Nat × List Value
  o : Option (Nat × Nat × List Value)
end Go.Proofs.Ytfmbnobkenngaaa
