import PyProof.Rows.All
import Wide.All
import OpenK.AllK
import Wide.FinOn
import Lean
import PyProof.EqAt
import PyProof.EqKinds
import PyProof.TupleCall
import PyProof.NeKinds
import KE.KSortTup
import KE.KLam
import KE.KNestM
import KE.KRevIter
import PyProof.ListRange
import PySem.Challenge.RW_loftstore_k07_packed
-- CHANGE: your row's module here, as the last of these rows
set_option Elab.async false
set_option linter.all false
set_option maxRecDepth 100000
/-! THE HAND LAYER, for ints, bools, texts, own classes, LISTS and tuples (index, slices, in, append, pop ..), calls, loops. Paste it whole ahead of your own text; what your proof does not reach may be deleted. -/
namespace L2
open PySem PySem.Spec PyProof.Rows

/-- a key: an int or a str -/
abbrev Key := Sum Int Str
def keyIs : Key → Value → Bool
  | .inl k, v => Value.isInt k v
  | .inr x, v => Value.isStrOf x v
def keyH (w : World) : Key → Int
  | .inl k => hashInt k
  | .inr x => hashStr w x
theorem keyIs_shape : ∀ {k : Key} {v : Value}, keyIs k v = true → (∃ i t, k = Sum.inl i ∧ v = Value.int i t) ∨ (∃ x t, k = Sum.inr x ∧ v = Value.str x t)
  | .inl i, v, h => by
    obtain ⟨t, e⟩ := Value.isInt_shape (k := i) (v := v) h
    exact .inl ⟨i, t, rfl, e⟩
  | .inr x, v, h => by
    obtain ⟨t, e⟩ := Value.isStrOf_shape (x := x) (v := v) h
    exact .inr ⟨x, t, rfl, e⟩
theorem keyIs_int (i : Int) (t : Tok) : keyIs (.inl i) (.int i t) = true := by simp [keyIs, Value.isInt]
theorem keyIs_str (x : Str) (t : Tok) : keyIs (.inr x) (.str x t) = true := by simp [keyIs, Value.isStrOf]
theorem key_ll (a b : Int) : decide ((Sum.inl a : Key) = Sum.inl b) = (a == b) := by
  by_cases e : a = b
  · subst e; simp
  · have h : ¬ (Sum.inl a : Key) = Sum.inl b := fun q => e (Sum.inl.inj q)
    rw [decide_eq_false h]
    exact (beq_eq_false_iff_ne.mpr e).symm
theorem key_rr (a b : Str) : decide ((Sum.inr a : Key) = Sum.inr b) = decide (a = b) := by
  by_cases e : a = b
  · subst e; simp
  · have h : ¬ (Sum.inr a : Key) = Sum.inr b := fun q => e (Sum.inr.inj q)
    rw [decide_eq_false h, decide_eq_false e]
theorem key_lr (a : Int) (b : Str) : decide ((Sum.inl a : Key) = Sum.inr b) = false := decide_eq_false (fun q => nomatch q)
theorem key_rl (a : Str) (b : Int) : decide ((Sum.inr a : Key) = Sum.inl b) = false := decide_eq_false (fun q => nomatch q)

def mixKind (prog : Program) (w : World) : PySem.KeyKind prog w Key where
  is := keyIs
  hash := keyH w
  inj := fun v a b ha hb => by
    rcases keyIs_shape ha with ⟨i, t, rfl, rfl⟩ | ⟨x, t, rfl, rfl⟩
    · rcases keyIs_shape hb with ⟨j, u, rfl, e⟩ | ⟨y, u, rfl, e⟩
      · injection e with e1 _; rw [e1]
      · exact nomatch e
    · rcases keyIs_shape hb with ⟨j, u, rfl, e⟩ | ⟨y, u, rfl, e⟩
      · exact nomatch e
      · injection e with e1 _; rw [e1]
  byValue := fun k v h => by
    rcases keyIs_shape h with ⟨i, t, rfl, rfl⟩ | ⟨x, t, rfl, rfl⟩ <;> rfl
  pyHash := fun hv h => by
    rcases keyIs_shape hv with ⟨i, t, rfl, rfl⟩ | ⟨x, t, rfl, rfl⟩
    · exact wpAny_pyHash_int h
    · exact wpAny_pyHash_str h
  eqBool := fun hu hv h => by
    rcases keyIs_shape hu with ⟨i, t, rfl, rfl⟩ | ⟨x, t, rfl, rfl⟩
    · rcases keyIs_shape hv with ⟨j, u, rfl, rfl⟩ | ⟨y, u, rfl, rfl⟩
      · rw [key_ll] at h; exact wpAny_eqBool_int h
      · rw [key_lr] at h; exact SeqAt.EqAt.int_str i t y u _ _ _ _ h
    · rcases keyIs_shape hv with ⟨j, u, rfl, rfl⟩ | ⟨y, u, rfl, rfl⟩
      · rw [key_rl] at h; exact SeqAt.EqAt.str_int x t j u _ _ _ _ h
      · rw [key_rr] at h; exact wpAny_eqBool_str h
  «strs» := fun k x t v h => by
    rcases keyIs_shape h with ⟨i, u, rfl, e⟩ | ⟨y, u, rfl, e⟩
    · exact nomatch e
    · injection e with e1 _
      subst e1
      cases v <;> rfl

theorem mixKind_is (prog : Program) (w : World) (k : Key) (v : Value) : (mixKind prog w).is k v = keyIs k v := rfl
theorem mixKind_int (prog : Program) (w : World) (i : Int) (t : Tok) : (mixKind prog w).is (.inl i) (.int i t) = true := keyIs_int i t
theorem mixKind_str (prog : Program) (w : World) (x : Str) (t : Tok) : (mixKind prog w).is (.inr x) (.str x t) = true := keyIs_str x t
end L2

namespace L2
open PySem PySem.Spec PyProof.Rows

/-- a value, without the heap -/
inductive V where
  | non | bl (b : Bool) | int (i : Int) | str (x : Str) | byt (b : Array UInt8) | flt (b : UInt64) | ref (a : Addr) | ty (n : String)
  deriving DecidableEq

def RelV : V → Value → Prop
  | .non, u => u = Value.none
  | .bl b, u => u = Value.bool b
  | .int i, u => ∃ t, u = Value.int i t
  | .str x, u => ∃ t, u = Value.str x t
  | .byt b, u => ∃ t, u = Value.bytes b t
  | .flt b, u => ∃ t, u = Value.float b t
  | .ref a, u => u = Value.ref a
  | .ty n, u => u = Value.type n

abbrev Vals : List V → List Value → Prop := Paired RelV
theorem Vals.length {xs : List V} {us : List Value} (r : Vals xs us) : xs.length = us.length := Paired.length r
theorem Vals.get : ∀ {xs : List V} {us : List Value} {i : Nat} {x : V}, Vals xs us → xs[i]? = some x → ∃ u, us[i]? = some u ∧ RelV x u
  | _, _, _, _, .nil, e => by simp at e
  | _, _, 0, _, .cons r _, e => by simp at e; subst e; exact ⟨_, rfl, r⟩
  | _, _, i + 1, x, .cons _ t, e => by
    obtain ⟨u, h1, h2⟩ := Vals.get (i := i) (x := x) t (by simpa using e)
    exact ⟨u, by simpa using h1, h2⟩
theorem Vals.set {x : V} {u : Value} (r : RelV x u) : ∀ {xs : List V} {us : List Value} (i : Nat), Vals xs us → Vals (xs.set i x) (us.set i u)
  | _, _, _, .nil => .nil
  | _, _, 0, .cons _ t => .cons r t
  | _, _, i + 1, .cons q t => .cons q (Vals.set r i t)
theorem Vals.append : ∀ {xs ys : List V} {us ws : List Value}, Vals xs us → Vals ys ws → Vals (xs ++ ys) (us ++ ws)
  | _, _, _, _, .nil, s => s
  | _, _, _, _, .cons r t, s => .cons r (Vals.append t s)
theorem Vals.take : ∀ {xs : List V} {us : List Value} (n : Nat), Vals xs us → Vals (xs.take n) (us.take n)
  | _, _, 0, _ => .nil
  | _, _, _ + 1, .nil => .nil
  | _, _, n + 1, .cons r t => .cons r (Vals.take n t)
theorem Vals.drop : ∀ {xs : List V} {us : List Value} (n : Nat), Vals xs us → Vals (xs.drop n) (us.drop n)
  | _, _, 0, r => r
  | _, _, _ + 1, .nil => .nil
  | _, _, n + 1, .cons _ t => Vals.drop n t
theorem Vals.none_of : ∀ {xs : List V} {us : List Value} {i : Nat}, Vals xs us → xs[i]? = none → us[i]? = none := fun {xs us i} r e => by
  have h1 := r.length
  have h2 : xs.length ≤ i := List.getElem?_eq_none_iff.mp e
  exact List.getElem?_eq_none_iff.mpr (by omega)

def RelO : Option V → Option Value → Prop
  | some v, some u => RelV v u
  | none, none => True
  | _, _ => False
def KV {κ : Type} : List (κ × V) → List (κ × Value) → Prop := Paired fun (p : κ × V) (q : κ × Value) => p.1 = q.1 ∧ RelV p.2 q.2

/-- a key of a dict (00_mix): an int or a text -/
def kV : Key → V
  | .inl i => .int i
  | .inr x => .str x

/-- what stands at a tracked address -/
inductive HO where
  /-- a list -/
  | lst (xs : List V)
  /-- a tuple (never changes) -/
  | tup (xs : List V)
  /-- a dict whose keys are ints and texts; one whose keys are tuples of ints and texts (the empty one is both) -/
  | dK (kvs : List (Key × V)) | dT (kvs : List (List Key × V))
  /-- a set of ints: its members, its size -/
  | set (S : Int → Bool) (n : Nat)
  /-- an instance of the class at C, its dict at dx, its attributes -/
  | ins (C dx : Addr) (fs : List (Str × V))
  /-- the dict of the instance at x -/
  | own (x : Addr)
  /-- the dict of an exception -/
  | xd (fs : List (Str × V))
  /-- a bound method, f of x -/
  | met (f x : Addr)
  /-- a range object lo, lo + 1, .. below hi -/
  | rng (lo hi : Int)
  /-- a thing that is known to the object (the script; a dict while a loop walks it): read, never written while it is so -/
  | frz (o : Obj) (u : HO)
  /-- a code object's table -/
  | tbl (ps : Array Value)
  /-- any other thing, by what is true of its one object (a def of one's own: SetO a S n := HO.ext fun h => ..) -/
  | ext (φ : Heap → Prop)

abbrev Hp := Addr → Option HO
def upd (H : Hp) (a : Addr) (o : HO) : Hp := fun b => if b = a then some o else H b
theorem upd_same {H : Hp} {a : Addr} {o : HO} : upd H a o a = some o := by unfold upd; rw [if_pos rfl]
theorem upd_ne {H : Hp} {a b : Addr} {o : HO} (h : b ≠ a) : upd H a o b = H b := by unfold upd; rw [if_neg h]
theorem upd_upd {H : Hp} {a : Addr} {o u : HO} : upd (upd H a o) a u = upd H a u := by
  funext b; unfold upd; split <;> rfl
/-- two objects of different content stand apart -/
theorem ne_of {H : Hp} {a b : Addr} {o u : HO} (h : H a = some o) (h' : H b = some u) (d : o ≠ u) : a ≠ b := by
  intro e; subst e; rw [h] at h'; exact d (Option.some.inj h')
theorem ne_of_none {H : Hp} {a b : Addr} {o : HO} (h : H a = some o) (h' : H b = none) : a ≠ b := by
  intro e; subst e; rw [h] at h'; cases h'

section
variable (P : Program) (w : World)
def ObjOk (H : Hp) (h : Heap) (a : Addr) : HO → Prop
  | .lst xs => xs.length ≤ sizeLine ∧ ∃ (its : List Value) (n : Nat), Vals xs its ∧ h.get? a = some { cls := .type "list", data := .seq its.toArray n }
  | .tup xs => xs.length ≤ sizeLine ∧ ∃ its : List Value, Vals xs its ∧ IsTup h a its.toArray
  | .dK kvs => kvs.length ≤ sizeLine ∧ (a == sysModules) = false ∧ ∃ vs, KV kvs vs ∧ h.DictOf (mixKind P w) a vs
  | .dT kvs => kvs.length ≤ sizeLine ∧ (a == sysModules) = false ∧ ∃ xs : List (List Key × Addr × Value),
      Paired (fun (p : List Key × V) (q : List Key × Addr × Value) => p.1 = q.1 ∧ H q.2.1 = some (.tup (p.1.map kV)) ∧ RelV p.2 q.2.2) kvs xs ∧
      ∃ o es ep, h.get? a = some o ∧ o.ExactDict ∧ o.data = .dict es ep ∧ es.toList = xs.map (entryOfKey (tupleKind (mixKind P w))) ∧ (xs.map (·.1)).Nodup
  | .set S n => h.SetOf (intKind P w) a S n
  | .ins C dx fs => H dx = some (.own a) ∧ fs.length ≤ 1000 ∧ dx ≠ a ∧ h.get? a = some (PySem.W.instObj C dx) ∧
      ∃ mA, h.Ns1 dx mA ∧ (∀ f, RelO (fs.lookup f) (mA f)) ∧ PySem.Within mA (fs.map (·.1))
  | .own _ => ∃ o, h.get? a = some o
  | .xd fs => ∃ mA, h.Ns1 a mA ∧ ∀ f, RelO (fs.lookup f) (mA f)
  | .rng lo hi => ∃ t u v, h.get? a = some { cls := .type "range", data := .fields #[.int lo t, .int hi u, .int 1 v] }
  | .frz o u => h.get? a = some o ∧ ObjOk H h a u
  | .tbl ps => h.get? a = some { cls := .none, data := .fields ps }
  | .met f x => h.get? a = some (PySem.W.methodObj (.ref f) (.ref x))
  | .ext φ => φ h ∧ (∃ o, h.get? a = some o) ∧ ∀ h1 h2 : Heap, φ h1 → (∀ o, h1.get? a = some o → h2.get? a = some o) → φ h2
/-- the abstract heap is held -/
def HOk (H : Hp) (h : Heap) : Prop := ∀ a o, H a = some o → ObjOk P w H h a o
end

section
variable {P : Program} {w : World} {H H' : Hp} {h h' : Heap} {a : Addr} {o : HO}
theorem ObjOk.lt (x : ObjOk P w H h a o) : a < h.objs.size := by
  cases o with
  | lst xs => obtain ⟨_, _, _, _, e⟩ := x; exact Heap.lt_size e
  | tup xs => obtain ⟨_, _, _, p⟩ := x; exact p.lt
  | dK kvs => obtain ⟨_, _, _, _, o, _, _, e, _⟩ := x; exact Heap.lt_size e
  | dT kvs => obtain ⟨_, _, _, _, o, _, _, e, _⟩ := x; exact Heap.lt_size e
  | set S n => obtain ⟨o, _, _, _, e, _⟩ := x; exact Heap.lt_size e
  | ins C dx fs => obtain ⟨_, _, _, e, _⟩ := x; exact Heap.lt_size e
  | own y => obtain ⟨_, e⟩ := x; exact Heap.lt_size e
  | xd fs => obtain ⟨_, ⟨_, _, _, e, _⟩, _⟩ := x; exact Heap.lt_size e
  | rng lo hi => obtain ⟨_, _, _, e⟩ := x; exact Heap.lt_size e
  | frz ob u => obtain ⟨e, _⟩ := x; exact Heap.lt_size e
  | tbl ps => exact Heap.lt_size (show h.get? a = some _ from x)
  | met f y => exact Heap.lt_size (show h.get? a = some _ from x)
  | ext φ => obtain ⟨_, ⟨_, e⟩, _⟩ := x; exact Heap.lt_size e
theorem Paired.mapP {α β : Type} {F G : α → β → Prop} : ∀ {l₁ : List α} {l₂ : List β}, Paired F l₁ l₂ → (∀ a b, F a b → G a b) → Paired G l₁ l₂
  | _, _, .nil, _ => .nil
  | _, _, .cons r t, f => .cons (f _ _ r) (Paired.mapP t f)
theorem Paired.imp' {α β : Type} {F G : α → β → Prop} (f : ∀ a b, F a b → G a b) {l₁ : List α} {l₂ : List β} (r : Paired F l₁ l₂) : Paired G l₁ l₂ := Paired.mapP r f
/-- what an object's description leans on: its own object, its own dict, the tuples -/
theorem ObjOk.stay (x : ObjOk P w H h a o) (k : ∀ b u, (b = a ∨ H b = some (.own a)) → h.get? b = some u → h'.get? b = some u)
    (ho : ∀ b, H b = some (.own a) → H' b = some (.own a)) (ht : ∀ b xs, H b = some (.tup xs) → H' b = some (.tup xs)) : ObjOk P w H' h' a o := by
  induction o with
  | lst xs => obtain ⟨z, its, n, r, e⟩ := x; exact ⟨z, its, n, r, k _ _ (.inl rfl) e⟩
  | tup xs => obtain ⟨z, its, r, ob, e, c⟩ := x; exact ⟨z, its, r, ob, k _ _ (.inl rfl) e, c⟩
  | dK kvs => obtain ⟨z, y, vs, r, ob, es, ep, e, c⟩ := x; exact ⟨z, y, vs, r, ob, es, ep, k _ _ (.inl rfl) e, c⟩
  | dT kvs =>
    obtain ⟨z, y, xs, r, ob, es, ep, e, c⟩ := x
    exact ⟨z, y, xs, Paired.mapP r fun p q z => ⟨z.1, ht _ _ z.2.1, z.2.2⟩, ob, es, ep, k _ _ (.inl rfl) e, c⟩
  | set S n => obtain ⟨ob, es, ep, t, e, c⟩ := x; exact ⟨ob, es, ep, t, k _ _ (.inl rfl) e, c⟩
  | ins C dx fs =>
    obtain ⟨d, z, ne, e, mA, ⟨od, es, ep, e2, c⟩, r⟩ := x
    exact ⟨ho _ d, z, ne, k _ _ (.inl rfl) e, mA, ⟨od, es, ep, k _ _ (.inr d) e2, c⟩, r⟩
  | own y => obtain ⟨ob, e⟩ := x; exact ⟨ob, k _ _ (.inl rfl) e⟩
  | xd fs => obtain ⟨mA, ⟨od, es, ep, e, c⟩, r⟩ := x; exact ⟨mA, ⟨od, es, ep, k _ _ (.inl rfl) e, c⟩, r⟩
  | rng lo hi => obtain ⟨t, u, v, e⟩ := x; exact ⟨t, u, v, k _ _ (.inl rfl) e⟩
  | frz ob u ih => obtain ⟨e, q⟩ := x; exact ⟨k _ _ (.inl rfl) e, ih q⟩
  | tbl ps =>
    have e : h.get? a = some { cls := .none, data := .fields ps } := x
    show h'.get? a = some { cls := .none, data := .fields ps }
    exact k a _ (.inl rfl) e
  | met f y =>
    have e : h.get? a = some (PySem.W.methodObj (.ref f) (.ref y)) := x
    show h'.get? a = some (PySem.W.methodObj (.ref f) (.ref y))
    exact k a _ (.inl rfl) e
  | ext φ => obtain ⟨p, ⟨o, e⟩, st⟩ := x; exact ⟨st _ _ p fun o q => k _ _ (.inl rfl) q, ⟨o, k _ _ (.inl rfl) e⟩, st⟩
theorem HOk.lt (x : HOk P w H h) (e : H a = some o) : a < h.objs.size := (x a o e).lt
theorem HOk.fresh (x : HOk P w H h) (e : h.objs.size ≤ a) : H a = none := by
  cases q : H a with
  | none => rfl
  | some u => exact absurd (Nat.lt_of_lt_of_le (x.lt q) e) (Nat.lt_irrefl _)
/-- every object of the heap is kept -/
theorem HOk.kept (x : HOk P w H h) (k : ∀ b u, h.get? b = some u → h'.get? b = some u) : HOk P w H h' := fun a o e =>
  (x a o e).stay (fun b u _ q => k b u q) (fun _ q => q) fun _ _ q => q
/-- a new object is laid and tracked -/
theorem HOk.laid (x : HOk P w H h) (k : ∀ b u, h.get? b = some u → h'.get? b = some u) (hp : h.objs.size ≤ a) (new : ObjOk P w (upd H a o) h' a o) : HOk P w (upd H a o) h' := fun b u e => by
  have hn := x.fresh hp
  by_cases hb : b = a
  · subst hb; rw [upd_same] at e; cases e; exact new
  · rw [upd_ne hb] at e
    exact (x b u e).stay (fun c v _ q => k c v q) (fun c q => by rw [upd_ne (ne_of_none q hn)]; exact q) fun c xs q => by rw [upd_ne (ne_of_none q hn)]; exact q
end

/-- what may be read as u: it is u, or a known u -/
def Rd (H : Hp) (a : Addr) (u : HO) : Prop := H a = some u ∨ ∃ o, H a = some (.frz o u)
theorem Rd.of {H : Hp} {a : Addr} {u : HO} (h : H a = some u) : Rd H a u := .inl h
theorem Rd.ok {P : Program} {w : World} {H : Hp} {h : Heap} {a : Addr} {u : HO} (r : Rd H a u) (x : HOk P w H h) : ObjOk P w H h a u := by
  rcases r with r | ⟨o, r⟩
  · exact x a u r
  · obtain ⟨_, q⟩ := x a _ r
    exact q
/-- what may be written -/
def Mut : Option HO → Prop
  | some (.lst _) => True
  | some (.dK _) => True
  | some (.dT _) => True
  | some (.set _ _) => True
  | some (.ins _ _ _) => True
  | some (.ext _) => True
  | _ => False
section
variable {P : Program} {w : World} {H : Hp} {h h' : Heap} {x e : Addr} {o' : HO}
/-- the object at e is changed: x itself, or the dict of the instance x -/
theorem HOk.write (ok : HOk P w H h) (mu : Mut (H x)) (he : e = x ∨ H e = some (.own x)) (k : ∀ b u, b ≠ e → h.get? b = some u → h'.get? b = some u) (heo : ∃ u, h'.get? e = some u)
    (new : ObjOk P w (upd H x o') h' x o') : HOk P w (upd H x o') h' := fun b u q => by
  have nown : ∀ c y, H c = some (.own y) → c ≠ x := fun c y r z => by subst z; rw [r] at mu; exact mu
  have ntup : ∀ c xs, H c = some (.tup xs) → c ≠ x := fun c xs r z => by subst z; rw [r] at mu; exact mu
  by_cases hb : b = x
  · subst hb; rw [upd_same] at q; cases q; exact new
  · rw [upd_ne hb] at q
    by_cases hbe : b = e
    · have q' : H b = some (.own x) := by
        rcases he with z | z
        · exact absurd (hbe.trans z) hb
        · rw [hbe]; exact z
      rw [q] at q'; cases q'
      obtain ⟨v, hv⟩ := heo
      exact ⟨v, by rw [hbe]; exact hv⟩
    · refine (ok b u q).stay (fun c v hc r => k c v ?_ r) (fun c r => by rw [upd_ne (nown c b r)]; exact r) fun c xs r => by rw [upd_ne (ntup c xs r)]; exact r
      rcases hc with rfl | hc
      · exact hbe
      · rintro rfl
        rcases he with z | z
        · exact nown c b hc z
        · rw [hc] at z; cases z; exact hb rfl
end

/-! ### kept unless tracked; of the frames at fs (the callers') the slots may change (an exception that passes writes there); of the records at ex (iterators) nothing is said -/
structure Un (fs ex : List Addr) (H H' : Hp) (h h' : Heap) : Prop where
  keep : ∀ b o, h.get? b = some o → H b = none → b ∉ fs → b ∉ ex → h'.get? b = some o
  slot : ∀ b o, h.get? b = some o → H b = none → b ∈ fs → b ∉ ex → ∃ sl, h'.get? b = some { o with slots := sl }
  free : ∀ b o, h.get? b = some o → H b = none → b ∉ ex → H' b = none
  there : ∀ b o, h.get? b = some o → b ∉ ex → ∃ o', h'.get? b = some o'
  tups : ∀ b xs, H b = some (.tup xs) → H' b = some (.tup xs)
  frzs : ∀ b o u, H b = some (.frz o u) → H' b = some (.frz o u)
  tbls : ∀ b ps, H b = some (.tbl ps) → ∃ more, H' b = some (.tbl (ps ++ more))
section
variable {fs fs' ex ex' : List Addr} {H H1 H2 : Hp} {h h1 h2 h' : Heap} {a x e : Addr} {o : HO}
theorem Un.any (u : Un fs ex H H1 h h1) {b : Addr} {ob : Obj} (q : h.get? b = some ob) (n : H b = none) (hx : b ∉ ex) : ∃ sl, h1.get? b = some { ob with slots := sl } := by
  by_cases hb : b ∈ fs
  · exact u.slot b ob q n hb hx
  · exact ⟨ob.slots, u.keep b ob q n hb hx⟩
theorem Un.trans (a : Un fs ex H H1 h h1) (b : Un fs ex H1 H2 h1 h2) : Un fs ex H H2 h h2 where
  keep := fun c ob q n hc hx => b.keep c ob (a.keep c ob q n hc hx) (a.free c ob q n hx) hc hx
  slot := fun c ob q n hc hx => by
    obtain ⟨sl, e1⟩ := a.slot c ob q n hc hx
    obtain ⟨sl', e2⟩ := b.slot c _ e1 (a.free c ob q n hx) hc hx
    exact ⟨sl', e2⟩
  free := fun c ob q n hx => by
    obtain ⟨o', e1⟩ := a.there c ob q hx
    exact b.free c o' e1 (a.free c ob q n hx) hx
  there := fun c ob q hx => by
    obtain ⟨o', e1⟩ := a.there c ob q hx
    exact b.there c o' e1 hx
  tups := fun c xs q => b.tups c xs (a.tups c xs q)
  frzs := fun c ob xs q => b.frzs c ob xs (a.frzs c ob xs q)
  tbls := fun c ps q => by
    obtain ⟨m1, e1⟩ := a.tbls c ps q
    obtain ⟨m2, e2⟩ := b.tbls c _ e1
    exact ⟨m1 ++ m2, by rw [e2, Array.append_assoc]⟩
theorem Un.kept (k : ∀ b u, h.get? b = some u → h'.get? b = some u) : Un fs ex H H h h' :=
  ⟨fun b ob q _ _ _ => k b ob q, fun b ob q _ _ _ => ⟨ob.slots, k b ob q⟩, fun _ _ _ n _ => n, fun b ob q _ => ⟨ob, k b ob q⟩, fun _ _ q => q, fun _ _ _ q => q, fun _ ps q => ⟨#[], by rw [q]; simp⟩⟩
theorem Un.refl : Un fs ex H H h h := Un.kept fun _ _ q => q
theorem Un.laid (k : ∀ b u, h.get? b = some u → h'.get? b = some u) (hp : h.objs.size ≤ a) (hn : H a = none) : Un fs ex H (upd H a o) h h' where
  keep := fun b u q _ _ _ => k b u q
  slot := fun b u q _ _ _ => ⟨u.slots, k b u q⟩
  free := fun b u q n _ => by rw [upd_ne (Nat.ne_of_lt (Nat.lt_of_lt_of_le (Heap.lt_size q) hp))]; exact n
  there := fun b u q _ => ⟨u, k b u q⟩
  tups := fun b xs q => by rw [upd_ne (ne_of_none q hn)]; exact q
  frzs := fun b u xs q => by rw [upd_ne (ne_of_none q hn)]; exact q
  tbls := fun b ps q => ⟨#[], by rw [upd_ne (ne_of_none q hn), q]; simp⟩
theorem Un.write (mu : Mut (H x)) (he : e = x ∨ H e = some (.own x)) (k : ∀ b u, b ≠ e → h.get? b = some u → h'.get? b = some u) (heo : ∃ u, h'.get? e = some u) : Un fs ex H (upd H x o) h h' := by
  have hx : ∀ b, H b = none → b ≠ x := fun b n z => by subst z; rw [n] at mu; exact mu
  have hb : ∀ b, H b = none → b ≠ e := fun b n z => by
    subst z
    rcases he with r | r
    · exact hx b n r
    · rw [n] at r; cases r
  have hm : ∀ b u, H b = some u → ¬ Mut (some u) → b ≠ x := fun b u q nm z => by subst z; rw [q] at mu; exact nm mu
  refine ⟨fun b u q n _ _ => k b u (hb b n) q, fun b u q n _ _ => ⟨u.slots, k b u (hb b n) q⟩, fun b u q n _ => by rw [upd_ne (hx b n)]; exact n, fun b u q _ => ?_,
    fun b xs q => by rw [upd_ne (hm b _ q fun z => z)]; exact q, fun b u xs q => by rw [upd_ne (hm b _ q fun z => z)]; exact q, fun b ps q => ⟨#[], by rw [upd_ne (hm b _ q fun z => z), q]; simp⟩⟩
  by_cases hbe : b = e
  · subst hbe; exact heo
  · exact ⟨u, k b u hbe q⟩
theorem Un.mono (u : Un fs ex H H1 h h1) (hs : ∀ b ∈ fs, b ∈ fs') (hx : ∀ b ∈ ex, b ∈ ex') : Un fs' ex' H H1 h h1 :=
  ⟨fun b ob q n hb he => u.keep b ob q n (fun z => hb (hs b z)) fun z => he (hx b z), fun _ _ q n _ he => u.any q n fun z => he (hx _ z), fun b ob q n he => u.free b ob q n fun z => he (hx b z), fun b ob q he => u.there b ob q fun z => he (hx b z), u.tups, u.frzs, u.tbls⟩
end

/-! ### the heap without what is tracked -/
def trk (h : Heap) (H : Hp) : List Addr := (List.range h.objs.size).filter fun a => (H a).isSome
def hidT (h : Heap) (H : Hp) : Heap := PySem.W.hideAll h (trk h H)
theorem hidT_size (h : Heap) (H : Hp) : (hidT h H).objs.size = h.objs.size := PySem.W.hideAll_size _ _
theorem hidT_get {h : Heap} {H : Hp} {b : Addr} {o : Obj} (e : h.get? b = some o) (n : H b = none) : (hidT h H).get? b = some o :=
  PySem.W.hideAll_get _ e fun hm => by
    have q : (H b).isSome = true := (List.mem_filter.mp hm).2
    rw [n] at q; simp at q
theorem of_hidT {h : Heap} {H : Hp} {b : Addr} {o : Obj} (e : (hidT h H).get? b = some o) : h.get? b = some o ∧ H b = none := by
  have e' : h.get? b = some o := PySem.W.of_hideAll (trk h H) e
  refine ⟨e', ?_⟩
  cases q : H b with
  | none => rfl
  | some x =>
    have hm : b ∈ trk h H := List.mem_filter.mpr ⟨List.mem_range.mpr (Heap.lt_size e'), by simp [q]⟩
    have z : (hidT h H).get? b = none := PySem.W.hideAll_none (trk h H) hm
    rw [z] at e; cases e

/-! ### OpenK's ledger, filled with every new object but one -/
def allNews (g h : Heap) (L : Addr) : List (Addr × Obj) := (List.range h.objs.size).filterMap fun a => if a = L ∨ (g.get? a).isSome = true then none else (h.get? a).map fun o => (a, o)
theorem mem_allNews {g h : Heap} {L a : Addr} {o : Obj} (h1 : a ≠ L) (h2 : g.get? a = none) (h3 : h.get? a = some o) : (a, o) ∈ allNews g h L :=
  List.mem_filterMap.mpr ⟨a, List.mem_range.mpr (Heap.lt_size h3), by simp [h1, h2, h3]⟩
theorem of_mem_allNews {g h : Heap} {L : Addr} {p : Addr × Obj} (hp : p ∈ allNews g h L) : p.1 ≠ L ∧ g.get? p.1 = none ∧ h.get? p.1 = some p.2 := by
  obtain ⟨b, _, e⟩ := List.mem_filterMap.mp hp
  split at e
  · cases e
  · rename_i hn
    cases q : h.get? b with
    | none => rw [q] at e; simp at e
    | some u =>
      rw [q] at e
      simp only [Option.map_some, Option.some.injEq] at e
      subst e
      refine ⟨fun z => hn (.inl z), ?_, q⟩
      show g.get? b = none
      cases r : g.get? b with
      | none => rfl
      | some v => exact (hn (.inr (by simp [r]))).elim
def rest (g h : Heap) (L d : Addr) : List (Addr × Obj) := (allNews g h L).filter fun p => decide (p.1 ≠ d)
theorem rest_ne {g h : Heap} {L d : Addr} : ∀ p ∈ rest g h L d, p.1 ≠ d := fun p hp => of_decide_eq_true (List.mem_filter.mp hp).2
theorem mem_rest {g h : Heap} {L d a : Addr} {o : Obj} (h1 : a ≠ L) (h2 : g.get? a = none) (h3 : h.get? a = some o) (h4 : a ≠ d) : (a, o) ∈ rest g h L d :=
  List.mem_filter.mpr ⟨mem_allNews h1 h2 h3, decide_eq_true h4⟩
theorem news_all {g h : Heap} {L : Addr} : News g L h (allNews g h L) := fun p hp => let ⟨a, b, c⟩ := of_mem_allNews hp; ⟨c, a, b⟩
theorem news_at {g h : Heap} {L d : Addr} {o : Obj} (h1 : d ≠ L) (h2 : g.get? d = none) (h3 : h.get? d = some o) : News g L h ((d, o) :: rest g h L d) := fun p hp => by
  rcases List.mem_cons.mp hp with rfl | hp
  · exact ⟨h3, h1, h2⟩
  · exact news_all p (List.mem_filter.mp hp).1
/-- behind a rule that changed d alone: all else but the frame is kept -/
theorem kept_of_news {g h h' : Heap} {L d : Addr} {m : Str → Option Value} (k : ∀ b o, g.get? b = some o → h.get? b = some o) (F : Fr g L h' m) (N : News g L h' (rest g h L d)) :
    ∀ b o, b ≠ L → b ≠ d → h.get? b = some o → h'.get? b = some o := fun b o h1 h2 e => by
  cases q : g.get? b with
  | some u =>
    have := k b u q
    rw [e] at this; cases this
    exact F.keep b _ q
  | none => exact (N (b, o) (mem_rest h1 q e h2)).1
end L2

namespace L2
open PySem PySem.Spec PyProof.Rows

/-- the module's facts, over the base: the heap at the law's entry without what is tracked there -/
structure Mod (K : PySem.W.Frag) (mg : Str → Option Value) (base : Heap) : Prop where
  kin : K.In base
  glob : base.Ns mainGlobals mg
  blt : ∃ mb, base.Ns builtinsNs mb ∧ ∀ x : Str, x ≠ "__name__" → mb x = bootBuiltins x
  nolimit : base.NoLimit

/-- the context: a def's body (or a comprehension's block) running. base: fixed through the whole law; s₀, H₀: the entry; outer: the frames whose slots others may change (a def's callers); stack: all frames that run;
   ex: iterators that were made ahead of the entry and are walked here (a comprehension's); fn: the names whose cells were made at the entry (a def: all; a comprehension's block: its own); calm: not within an except suite; pn: pins that every state bears; xe: what is wanted of an exception that leaves the code -/
structure Cx where
  prog : Program
  w : World
  K : PySem.W.Frag
  mg : Str → Option Value
  base : Heap
  A : Around
  N : List Str
  s₀ : Shared
  H₀ : Hp
  env : Env
  outer : List Env
  stack : List Env
  ex : List Addr
  fn : Str → Bool
  calm : Bool
  pn : List (Addr × Obj)
  xe : Value → Shared → Prop
/-- the callers' frames -/
def frs (l : List Env) : List Addr := l.filterMap (·.frame)
abbrev Cx.fs (X : Cx) : List Addr := frs X.outer

def Vis (sc : Scope) (x : Str) : Prop := sc.names.lookup x = some .local ∨ sc.names.lookup x = some .cell ∨ sc.names.lookup x = some .free
def Loc (sc : Scope) (x : Str) : Prop := sc.names.lookup x = some .local ∨ sc.names.lookup x = some .cell
def Look (env : Env) (h : Heap) (m : Str → Option Value) (x : Str) (u : Value) : Prop :=
  (env.kindOf x = some .local ∧ m x = some u) ∨ ((env.kindOf x = some .cell ∨ env.kindOf x = some .free) ∧ ∃ c, env.cells.lookup x = some c ∧ h.IsCell c (some u))

structure Cx.Ok (X : Cx) : Prop where
  mod : Mod X.K X.mg X.base
  kind : X.env.scope.kind = .function
  glob : X.env.globals = mainGlobals
  blt : X.env.builtins = builtinsNs
  above : X.s₀.heap.objs.size ≤ X.env.locals
  inj : ∀ x y c, X.env.cells.lookup x = some c → X.env.cells.lookup y = some c → x = y
  has : ∀ x, (X.env.kindOf x = some .cell ∨ X.env.kindOf x = some .free) → ∃ c, X.env.cells.lookup x = some c
  cab : ∀ x c, X.fn x = true → X.env.cells.lookup x = some c → X.s₀.heap.objs.size ≤ c
  hd : X.calm = true → X.A.handled = none
  frames : X.A.frames = some X.stack
  stk : X.stack = X.outer ∨ (X.stack = X.env :: X.outer ∧ X.env.frame = some X.env.locals)
  exf : ∀ b ∈ X.ex, b ≠ X.env.locals ∧ ∀ x c, X.env.cells.lookup x = some c → c ≠ b
  bs : ∀ b o, X.base.get? b = some o → X.s₀.heap.get? b = some o ∧ X.H₀ b = none
  bsz : X.base.objs.size ≤ X.s₀.heap.objs.size
  noex : ∀ b o, X.base.get? b = some o → b ∉ X.ex
  exfs : ∀ b ∈ X.ex, b ∉ X.fs
  funs : X.s₀.heap.FunFrames X.base X.outer
  frf : ∀ b ∈ X.fs, X.H₀ b = none

structure Inv (X : Cx) (pins : List (Addr × Obj)) (σ : List (Option V)) (H : Hp) (s : Shared) : Prop where
  ok : X.Ok
  os : s.os = X.s₀.os
  bare : AllBare s.gens
  base : Un X.fs X.ex X.H₀ H X.s₀.heap s.heap
  loc : ∃ m, s.heap.Ns X.env.locals m ∧ ∀ (i : Nat) (x : Str) (v : V), X.N[i]? = some x → σ[i]? = some (some v) → Vis X.env.scope x → ∃ u, RelV v u ∧ Look X.env s.heap m x u
  cell : ∀ x c, X.env.cells.lookup x = some c → ∃ v, s.heap.IsCell c v
  free : H X.env.locals = none
  freeC : ∀ x c, X.env.cells.lookup x = some c → H c = none
  pin : ∀ p ∈ X.pn ++ pins, s.heap.get? p.1 = some p.2 ∧ H p.1 = none ∧ p.1 ≠ X.env.locals ∧ p.1 ∉ X.fs ∧ ∀ v, p.2.data ≠ .cell v
  hok : HOk X.prog X.w H s.heap
  len : σ.length = X.N.length

section
variable {X : Cx} {pins : List (Addr × Obj)} {σ : List (Option V)} {H H' : Hp} {s : Shared} {h' : Heap}

theorem Cx.Ok.nofr (ok : X.Ok) {b : Addr} {o : Obj} (e : X.base.get? b = some o) : b ∉ X.fs := fun hb => by
  have := (ok.funs.mem hb).1
  rw [e] at this; cases this
theorem Inv.bs (I : Inv X pins σ H s) : ∀ b o, X.base.get? b = some o → s.heap.get? b = some o ∧ H b = none := fun b o e =>
  ⟨I.base.keep b o (I.ok.bs b o e).1 (I.ok.bs b o e).2 (I.ok.nofr e) (I.ok.noex b o e), I.base.free b o (I.ok.bs b o e).1 (I.ok.bs b o e).2 (I.ok.noex b o e)⟩
theorem Inv.bk (I : Inv X pins σ H s) : ∀ b o, X.base.get? b = some o → s.heap.get? b = some o := fun b o e => (I.bs b o e).1
theorem Inv.mod (I : Inv X pins σ H s) : Mod X.K X.mg X.base := I.ok.mod
theorem Inv.kIn (I : Inv X pins σ H s) : X.K.In s.heap := I.ok.mod.kin.keeps I.bk
theorem Inv.nolimit (I : Inv X pins σ H s) : s.heap.NoLimit := I.ok.mod.nolimit.keeps I.bk
/-- the frame over the base: for OpenK's rules (K.In X.base is I.mod.kin) -/
theorem Inv.fr (I : Inv X pins σ H s) : ∃ m, Fr X.base X.env.locals s.heap m :=
  let ⟨m, hn, _⟩ := I.loc
  ⟨m, hn, I.bk, Nat.le_trans I.ok.bsz I.ok.above⟩
theorem Inv.lt (I : Inv X pins σ H s) : X.env.locals < s.heap.objs.size := let ⟨_, hn, _⟩ := I.loc; hn.lt
theorem Inv.sz (I : Inv X pins σ H s) : X.s₀.heap.objs.size ≤ s.heap.objs.size := Nat.le_trans I.ok.above (Nat.le_of_lt I.lt)
theorem Inv.nofs (I : Inv X pins σ H s) {a : Addr} (h : s.heap.objs.size ≤ a) : a ∉ X.fs := fun hb => by
  obtain ⟨_, o, ho, _⟩ := I.ok.funs.mem hb
  exact absurd (Nat.lt_of_lt_of_le (Heap.lt_size ho) (Nat.le_trans I.sz h)) (Nat.lt_irrefl _)
theorem Inv.cne (I : Inv X pins σ H s) : ∀ x c, X.env.cells.lookup x = some c → c ≠ X.env.locals := fun x c e z => by
  obtain ⟨v, o, ho, hd⟩ := I.cell x c e
  obtain ⟨m, ⟨o', es, ep, ho', hd', _⟩, _⟩ := I.loc
  rw [z, ho'] at ho; cases ho; rw [hd'] at hd; cases hd
theorem Inv.funs (I : Inv X pins σ H s) : s.heap.FunFrames X.base X.outer := by
  have all : ∀ (l : List Env), (∀ b ∈ frs l, b ∈ X.fs) → X.s₀.heap.FunFrames X.base l → s.heap.FunFrames X.base l := by
    intro l
    induction l with
    | nil => intro _ _; trivial
    | cons env r ih =>
      intro hs hl
      obtain ⟨hk, ⟨L, o, hf, hn, ho, hd⟩, hr⟩ := hl
      have hL : L ∈ X.fs := hs L (by unfold frs; rw [List.filterMap_cons, hf]; exact List.mem_cons_self)
      obtain ⟨sl, e⟩ := I.base.slot L o ho (I.ok.frf L hL) hL fun z => I.ok.exfs L z hL
      exact ⟨hk, ⟨L, _, hf, hn, e, hd⟩, ih (fun b hb => hs b (by unfold frs; rw [List.filterMap_cons, hf]; exact List.mem_cons_of_mem _ hb)) hr⟩
  exact all X.outer (fun _ hb => hb) I.ok.funs

/-- the frames that run, for a call -/
theorem Inv.stack (I : Inv X pins σ H s) : s.heap.FunFrames X.base X.stack := by
  rcases I.ok.stk with e | ⟨e, hf⟩
  · rw [e]; exact I.funs
  · rw [e]
    obtain ⟨m, hn, _⟩ := I.loc
    refine .cons (by rw [I.ok.kind]; decide) hf hn ?_ I.funs
    exact Heap.get?_none_of_le (Nat.le_trans I.ok.bsz I.ok.above)
theorem Inv.stkSub (I : Inv X pins σ H s) : ∀ b ∈ frs X.stack, b ∈ X.env.locals :: X.fs := fun b hb => by
  rcases I.ok.stk with e | ⟨e, hf⟩
  · rw [e] at hb; exact List.mem_cons_of_mem _ hb
  · rw [e] at hb
    unfold frs at hb
    rw [List.filterMap_cons, hf] at hb
    exact hb
theorem Inv.stkFree (I : Inv X pins σ H s) : ∀ b ∈ frs X.stack, H b = none := fun b hb => by
  rcases List.mem_cons.mp (I.stkSub b hb) with e | hb
  · rw [e]; exact I.free
  · obtain ⟨_, o, ho, _⟩ := I.ok.funs.mem hb
    exact I.base.free b o ho (I.ok.frf b hb) fun z => I.ok.exfs b z hb

/-- THE STEP: the untracked objects but the frame and the records at ch are kept (the callers' frames up to slots), the frame's map is kept, the new abstract heap is held -/
theorem Inv.step {g' : Array GenState} {t' : Nat} {d' : Drawn} {ch : List Addr} (I : Inv X pins σ H s)
    (hch : ∀ b ∈ ch, (b ∈ X.ex ∨ X.s₀.heap.objs.size ≤ b) ∧ b ≠ X.env.locals ∧ (∀ x c, X.env.cells.lookup x = some c → c ≠ b) ∧ ∀ p ∈ X.pn ++ pins, p.1 ≠ b)
    (keep : ∀ b o, b ≠ X.env.locals → b ∉ X.fs → b ∉ ch → s.heap.get? b = some o → H b = none → h'.get? b = some o)
    (slot : ∀ b o, b ≠ X.env.locals → b ∈ X.fs → b ∉ ch → s.heap.get? b = some o → H b = none → ∃ sl, h'.get? b = some { o with slots := sl }) (free : ∀ b o, b ∉ ch → s.heap.get? b = some o → H b = none → H' b = none)
    (there : ∀ b o, b ∉ ch → s.heap.get? b = some o → ∃ o', h'.get? b = some o')
    (tups : ∀ b xs, H b = some (.tup xs) → H' b = some (.tup xs)) (frzs : ∀ b o u, H b = some (.frz o u) → H' b = some (.frz o u)) (tbls : ∀ b ps, H b = some (.tbl ps) → ∃ more, H' b = some (.tbl (ps ++ more)))
    (ns : ∀ m, s.heap.Ns X.env.locals m → h'.Ns X.env.locals m) (hok : HOk X.prog X.w H' h') (hg : AllBare g') :
    Inv X pins σ H' { s with heap := h', gens := g', drawn := d', toks := t' } := by
  have neL : ∀ b o, X.s₀.heap.get? b = some o → b ≠ X.env.locals := fun b o e => Nat.ne_of_lt (Nat.lt_of_lt_of_le (Heap.lt_size e) I.ok.above)
  have neC : ∀ b o, X.s₀.heap.get? b = some o → b ∉ X.ex → b ∉ ch := fun b o e hx hb => by
    rcases (hch b hb).1 with z | z
    · exact hx z
    · exact absurd (Nat.lt_of_lt_of_le (Heap.lt_size e) z) (Nat.lt_irrefl _)
  have cellK : ∀ x c, X.env.cells.lookup x = some c → ∀ v, s.heap.IsCell c v → h'.IsCell c v := fun x c e v ⟨o, ho, hd⟩ => by
    have nch : c ∉ ch := fun z => (hch c z).2.2.1 x c e rfl
    by_cases hc : c ∈ X.fs
    · obtain ⟨sl, q⟩ := slot c o (I.cne x c e) hc nch ho (I.freeC x c e)
      exact ⟨_, q, hd⟩
    · exact ⟨o, keep c o (I.cne x c e) hc nch ho (I.freeC x c e), hd⟩
  refine ⟨I.ok, I.os, hg, ⟨fun b o e n hb hx => ?_, fun b o e n hb hx => ?_, fun b o e n hx => ?_, fun b o e hx => ?_, fun b xs e => tups b xs (I.base.tups b xs e), fun b o xs e => frzs b o xs (I.base.frzs b o xs e), fun b ps e => ?_⟩, ?_, fun x c e => ?_, ?_, fun x c e => ?_, fun p hp => ?_, hok, I.len⟩
  · exact keep b o (neL b o e) hb (neC b o e hx) (I.base.keep b o e n hb hx) (I.base.free b o e n hx)
  · obtain ⟨sl, e1⟩ := I.base.slot b o e n hb hx
    obtain ⟨sl', e2⟩ := slot b _ (neL b o e) hb (neC b o e hx) e1 (I.base.free b o e n hx)
    exact ⟨sl', e2⟩
  · obtain ⟨o', e1⟩ := I.base.there b o e hx
    exact free b o' (neC b o e hx) e1 (I.base.free b o e n hx)
  · obtain ⟨o', e1⟩ := I.base.there b o e hx
    exact there b o' (neC b o e hx) e1
  · obtain ⟨m1, e1⟩ := I.base.tbls b ps e
    obtain ⟨m2, e2⟩ := tbls b _ e1
    exact ⟨m1 ++ m2, by rw [e2, Array.append_assoc]⟩
  · obtain ⟨m, hn, hl⟩ := I.loc
    refine ⟨m, ns m hn, fun i x v e1 e2 e3 => ?_⟩
    obtain ⟨u, r, l⟩ := hl i x v e1 e2 e3
    refine ⟨u, r, ?_⟩
    rcases l with l | ⟨k, c, e, z⟩
    · exact .inl l
    · exact .inr ⟨k, c, e, cellK x c e _ z⟩
  · obtain ⟨v, z⟩ := I.cell x c e
    exact ⟨v, cellK x c e v z⟩
  · obtain ⟨m, ⟨o, _, _, ho, _⟩, _⟩ := I.loc
    exact free _ o (fun z => (hch _ z).2.1 rfl) ho I.free
  · obtain ⟨v, o, ho, hd⟩ := I.cell x c e
    exact free c o (fun z => (hch c z).2.2.1 x c e rfl) ho (I.freeC x c e)
  · obtain ⟨e, n, ne, nf, d⟩ := I.pin p hp
    have nch : p.1 ∉ ch := fun z => (hch p.1 z).2.2.2 p hp rfl
    exact ⟨keep p.1 p.2 ne nf nch e n, free p.1 p.2 nch e n, ne, nf, d⟩
/-- .. where the frame's own object is kept too -/
theorem Inv.un {t' : Nat} (I : Inv X pins σ H s) (u : Un X.fs [] H H' s.heap h') (hok : HOk X.prog X.w H' h') : Inv X pins σ H' { s with heap := h', toks := t' } := by
  obtain ⟨m, ⟨o, es, ep, ho, r⟩, _⟩ := id I.loc
  obtain ⟨sl, hL⟩ := u.any ho I.free (by simp)
  exact I.step (g' := s.gens) (d' := s.drawn) (ch := []) (fun _ z => nomatch z) (fun b o _ hb _ e n => u.keep b o e n hb (by simp)) (fun b o _ hb _ e n => u.slot b o e n hb (by simp)) (fun b o _ e n => u.free b o e n (by simp)) (fun b o _ e => u.there b o e (by simp)) u.tups u.frzs u.tbls (fun m' hm => by
    obtain ⟨o', es', ep', ho', r'⟩ := hm
    rw [ho] at ho'; cases ho'
    exact ⟨_, es', ep', hL, r'⟩) hok I.bare
/-- behind a call (or a comprehension's block): the slots of this frame may have changed too, the records at ch may have turned -/
theorem Inv.call {g' : Array GenState} {t' : Nat} {d' : Drawn} {ch : List Addr} (I : Inv X pins σ H s) (u : Un (frs X.stack) ch H H' s.heap h') (hok : HOk X.prog X.w H' h') (hg : AllBare g')
    (hch : ∀ b ∈ ch, (b ∈ X.ex ∨ X.s₀.heap.objs.size ≤ b) ∧ b ≠ X.env.locals ∧ (∀ x c, X.env.cells.lookup x = some c → c ≠ b) ∧ ∀ p ∈ X.pn ++ pins, p.1 ≠ b) :
    Inv X pins σ H' { s with heap := h', gens := g', drawn := d', toks := t' } := by
  obtain ⟨m, ⟨o, es, ep, ho, r⟩, _⟩ := id I.loc
  obtain ⟨sl, hL⟩ := u.any ho I.free fun z => (hch _ z).2.1 rfl
  exact I.step (ch := ch) hch (fun b o hL hb hc e n => u.keep b o e n (fun z => (List.mem_cons.mp (I.stkSub b z)).elim hL hb) hc) (fun b o _ _ hc e n => u.any e n hc) (fun b o hc e n => u.free b o e n hc) (fun b o hc e => u.there b o e hc) u.tups u.frzs u.tbls (fun m' hm => by
    obtain ⟨o', es', ep', ho', r'⟩ := hm
    rw [ho] at ho'; cases ho'
    exact ⟨_, es', ep', hL, r'⟩) hok hg
/-- an untracked record of ours (an iterator) has turned -/
theorem Inv.turned {t' : Nat} {it : Addr} (I : Inv X pins σ H s) (k : ∀ b o, b ≠ it → s.heap.get? b = some o → h'.get? b = some o) (hn : H it = none) (hL : it ≠ X.env.locals)
    (h1 : it ∈ X.ex ∨ X.s₀.heap.objs.size ≤ it) (h2 : ∀ x c, X.env.cells.lookup x = some c → c ≠ it) (h3 : ∀ p ∈ X.pn ++ pins, p.1 ≠ it) : Inv X pins σ H { s with heap := h', toks := t' } := by
  have nit : ∀ b u, H b = some u → b ≠ it := fun b u e z => by rw [z, hn] at e; cases e
  refine I.step (g' := s.gens) (d' := s.drawn) (ch := [it]) (fun b hb => ?_) (fun b o _ _ hc e _ => k b o (fun z => hc (by simp [z])) e) (fun b o _ _ hc e _ => ⟨o.slots, k b o (fun z => hc (by simp [z])) e⟩) (fun _ _ _ _ n => n)
    (fun b o hc e => ⟨o, k b o (fun z => hc (by simp [z])) e⟩) (fun _ _ e => e) (fun _ _ _ e => e) (fun b ps e => ⟨#[], by rw [e]; simp⟩) (fun m hm => ?_) (fun b u e => ?_) I.bare
  · have e : b = it := by simpa using hb
    subst e
    exact ⟨h1, hL, h2, h3⟩
  · obtain ⟨o, es, ep, ho, r⟩ := hm
    exact ⟨o, es, ep, k _ o (Ne.symm hL) ho, r⟩
  · refine (I.hok b u e).stay (fun c v hc q => k c v ?_ q) (fun _ q => q) fun _ _ q => q
    rcases hc with z | z
    · rw [z]; exact nit b u e
    · exact nit c _ z
theorem Inv.tok (I : Inv X pins σ H s) (t : Nat) : Inv X pins σ H { s with toks := t } := I.un (h' := s.heap) (t' := t) Un.refl I.hok
/-- all objects kept -/
theorem Inv.kept {t' : Nat} (I : Inv X pins σ H s) (k : ∀ b u, s.heap.get? b = some u → h'.get? b = some u) : Inv X pins σ H { s with heap := h', toks := t' } := I.un (Un.kept k) (I.hok.kept k)
/-- a new object laid and tracked -/
theorem Inv.laid {a : Addr} {o : HO} {t' : Nat} (I : Inv X pins σ H s) (k : ∀ b u, s.heap.get? b = some u → h'.get? b = some u) (hp : s.heap.objs.size ≤ a) (new : ObjOk X.prog X.w (upd H a o) h' a o) :
    Inv X pins σ (upd H a o) { s with heap := h', toks := t' } := I.un (Un.laid k hp (I.hok.fresh hp)) (I.hok.laid k hp new)
/-- an object written -/
theorem Inv.write {x e : Addr} {o : HO} {t' : Nat} (I : Inv X pins σ H s) (mu : Mut (H x)) (he : e = x ∨ H e = some (.own x)) (k : ∀ b u, b ≠ e → s.heap.get? b = some u → h'.get? b = some u) (heo : ∃ u, h'.get? e = some u)
    (new : ObjOk X.prog X.w (upd H x o) h' x o) : Inv X pins σ (upd H x o) { s with heap := h', toks := t' } := I.un (Un.write mu he k heo) (I.hok.write mu he k heo new)
/-- forgetting slots, pins -/
theorem Inv.weak {σ' : List (Option V)} (I : Inv X pins σ H s) (hl : σ'.length = σ.length) (w : ∀ (i : Nat) v, σ'[i]? = some (some v) → σ[i]? = some (some v)) : Inv X pins σ' H s :=
  ⟨I.ok, I.os, I.bare, I.base, let ⟨m, hn, hl'⟩ := I.loc; ⟨m, hn, fun i x v e1 e2 e3 => hl' i x v e1 (w i v e2) e3⟩, I.cell, I.free, I.freeC, I.pin, I.hok, hl.trans I.len⟩
theorem Inv.pins_of {pins' : List (Addr × Obj)} (I : Inv X pins σ H s) (h : ∀ p ∈ pins', s.heap.get? p.1 = some p.2 ∧ H p.1 = none ∧ p.1 ≠ X.env.locals ∧ p.1 ∉ X.fs ∧ ∀ v, p.2.data ≠ .cell v) : Inv X pins' σ H s :=
  ⟨I.ok, I.os, I.bare, I.base, I.loc, I.cell, I.free, I.freeC, fun p hp => (List.mem_append.mp hp).elim (fun z => I.pin p (List.mem_append_left _ z)) (h p), I.hok, I.len⟩

theorem nodup_ix {N : List Str} (hN : N.Nodup) {i j : Nat} {x : Str} (a : N[i]? = some x) (b : N[j]? = some x) : i = j := by
  obtain ⟨h1, e1⟩ := List.getElem?_eq_some_iff.mp a
  obtain ⟨h2, e2⟩ := List.getElem?_eq_some_iff.mp b
  exact (List.getElem_inj hN).mp (e1.trans e2.symm)

/-- a name is stored; what changed -/
theorem store_ok2 {M : Model} {A : Around} {E : Value → Shared → Prop} {i : Nat} {x : Str} {v : V} {u : Value} {Q : Unit → Shared → Prop} (I : Inv X pins σ H s) (hN : X.N.Nodup) (hi : X.N[i]? = some x) (hx : Loc X.env.scope x) (r : RelV v u)
    (h : ∀ s', Inv X pins (σ.set i (some v)) H s' → (∃ a, Heap.SameBut a s.heap s'.heap ∧ (a = X.env.locals ∨ X.env.cells.lookup x = some a)) → Q () s') (hf : X.fn x = true ∨ X.env.scope.names.lookup x = some .local := by first | exact .inl rfl | exact .inr rfl | assumption) : wpAny M A (storeName X.env x u) Q E s := by
  obtain ⟨m, hn, hl⟩ := id I.loc
  have hcls : (X.env.scope.kind == .class || (X.env.scope.kind == .module && X.env.locals != X.env.globals)) = false := by rw [I.ok.kind]; rfl
  have hiσ : i < σ.length := by rw [I.len]; exact (List.getElem?_eq_some_iff.mp hi).1
  have cne := I.cne
  have tracked : ∀ {a : Addr} {h' : Heap}, (∃ o, s.heap.get? a = some o ∧ H a = none) → Heap.SameBut a s.heap h' → HOk X.prog X.w H h' := fun {a h'} ha hs b ob e => by
    obtain ⟨_, _, hfree⟩ := ha
    refine (I.hok b ob e).stay (fun c w' hc q => (hs.2 c ?_).trans q) (fun _ q => q) fun _ _ q => q
    rintro rfl
    rcases hc with rfl | hc
    · rw [hfree] at e; cases e
    · rw [hfree] at hc; cases hc
  rcases hx with hk | hk
  · refine wpAny_storeName_local hk hn (fun h' hn' hs => ?_) hcls
    obtain ⟨oL, _, _, hoL, _⟩ := id hn
    refine h _ ⟨I.ok, I.os, I.bare, ⟨fun b o e n hb hx => ?_, fun b o e n hb hx => ?_, I.base.free, fun b o e hx => ?_, I.base.tups, I.base.frzs, I.base.tbls⟩, ⟨_, hn', fun j y v' e1 e2 e3 => ?_⟩, fun y c e => ?_, I.free, I.freeC, fun p hp => ?_, tracked ⟨oL, hoL, I.free⟩ hs, by simpa using I.len⟩ ⟨_, hs, .inl rfl⟩
    · exact (hs.2 b (Nat.ne_of_lt (Nat.lt_of_lt_of_le (Heap.lt_size e) I.ok.above))).trans (I.base.keep b o e n hb hx)
    · obtain ⟨sl, e1⟩ := I.base.slot b o e n hb hx
      exact ⟨sl, (hs.2 b (Nat.ne_of_lt (Nat.lt_of_lt_of_le (Heap.lt_size e) I.ok.above))).trans e1⟩
    · obtain ⟨o', e1⟩ := I.base.there b o e hx
      exact ⟨o', (hs.2 b (Nat.ne_of_lt (Nat.lt_of_lt_of_le (Heap.lt_size e) I.ok.above))).trans e1⟩
    · by_cases hj : j = i
      · subst hj
        rw [hi] at e1; cases e1
        rw [List.getElem?_set_self hiσ] at e2
        cases e2
        exact ⟨u, r, .inl ⟨hk, by simp⟩⟩
      · rw [List.getElem?_set_ne (Ne.symm hj)] at e2
        obtain ⟨u', r', q⟩ := hl j y v' e1 e2 e3
        refine ⟨u', r', ?_⟩
        rcases q with ⟨k, e⟩ | ⟨k, c, e, z⟩
        · refine .inl ⟨k, ?_⟩
          have : y ≠ x := fun e => hj (nodup_ix hN e1 (e ▸ hi))
          simp [this, e]
        · exact .inr ⟨k, c, e, z.sameBut hs (cne y c e)⟩
    · obtain ⟨w', z⟩ := I.cell y c e
      exact ⟨w', z.sameBut hs (cne y c e)⟩
    · obtain ⟨e, n, ne, nf, d⟩ := I.pin p hp
      exact ⟨(hs.2 p.1 ne).trans e, n, ne, nf, d⟩
  · have hfn : X.fn x = true := by
      rcases hf with z | z
      · exact z
      · rw [z] at hk; cases hk
    obtain ⟨c, hc⟩ := I.ok.has x (.inl hk)
    obtain ⟨w', z⟩ := I.cell x c hc
    refine wpAny_storeName_cell I.ok.kind hk hc z (fun h' hc' hs => ?_)
    obtain ⟨oc, hoc, hocd⟩ := id z
    refine h { s with heap := h' } ⟨I.ok, I.os, I.bare, ⟨fun b o e n hb hx => ?_, fun b o e n hb hx => ?_, I.base.free, fun b o e hx => ?_, I.base.tups, I.base.frzs, I.base.tbls⟩, ⟨m, hn.sameBut hs (Ne.symm (cne x c hc)), fun j y v' e1 e2 e3 => ?_⟩, fun y c' e => ?_, I.free, I.freeC, fun p hp => ?_, tracked ⟨oc, hoc, I.freeC x c hc⟩ hs, by simpa using I.len⟩ ⟨c, hs, .inr hc⟩
    · exact (hs.2 b (Nat.ne_of_lt (Nat.lt_of_lt_of_le (Heap.lt_size e) (I.ok.cab x c hfn hc)))).trans (I.base.keep b o e n hb hx)
    · obtain ⟨sl, e1⟩ := I.base.slot b o e n hb hx
      exact ⟨sl, (hs.2 b (Nat.ne_of_lt (Nat.lt_of_lt_of_le (Heap.lt_size e) (I.ok.cab x c hfn hc)))).trans e1⟩
    · obtain ⟨o', e1⟩ := I.base.there b o e hx
      exact ⟨o', (hs.2 b (Nat.ne_of_lt (Nat.lt_of_lt_of_le (Heap.lt_size e) (I.ok.cab x c hfn hc)))).trans e1⟩
    · by_cases hj : j = i
      · subst hj
        rw [hi] at e1; cases e1
        rw [List.getElem?_set_self hiσ] at e2
        cases e2
        exact ⟨u, r, .inr ⟨.inl hk, c, hc, hc'⟩⟩
      · rw [List.getElem?_set_ne (Ne.symm hj)] at e2
        obtain ⟨u', r', q⟩ := hl j y v' e1 e2 e3
        refine ⟨u', r', ?_⟩
        rcases q with q | ⟨k, c', e, z'⟩
        · exact .inl q
        · refine .inr ⟨k, c', e, z'.sameBut hs ?_⟩
          rintro rfl
          exact hj (nodup_ix hN e1 (I.ok.inj _ _ _ e hc ▸ hi))
    · by_cases hcc : c' = c
      · subst hcc; exact ⟨_, hc'⟩
      · obtain ⟨w2, z2⟩ := I.cell y c' e
        exact ⟨w2, z2.sameBut hs hcc⟩
    · obtain ⟨e, n, ne, nf, d⟩ := I.pin p hp
      refine ⟨(hs.2 p.1 ?_).trans e, n, ne, nf, d⟩
      intro q
      rw [q, hoc] at e
      have q' : oc = p.2 := Option.some.inj e
      exact d w' (by rw [← q']; exact hocd)
theorem store_ok {M : Model} {A : Around} {E : Value → Shared → Prop} {i : Nat} {x : Str} {v : V} {u : Value} {Q : Unit → Shared → Prop} (I : Inv X pins σ H s) (hN : X.N.Nodup) (hi : X.N[i]? = some x) (hx : Loc X.env.scope x) (r : RelV v u)
    (h : ∀ s', Inv X pins (σ.set i (some v)) H s' → Q () s') (hf : X.fn x = true ∨ X.env.scope.names.lookup x = some .local := by first | exact .inl rfl | exact .inr rfl | assumption) : wpAny M A (storeName X.env x u) Q E s :=
  store_ok2 I hN hi hx r (fun s' I' _ => h s' I') hf
/-- behind a call or a block, the state as it is -/
theorem Inv.call' {s' : Shared} {ch : List Addr} (I : Inv X pins σ H s) (ho : s'.os = s.os) (u : Un (frs X.stack) ch H H' s.heap s'.heap) (hok : HOk X.prog X.w H' s'.heap) (hg : AllBare s'.gens)
    (hch : ∀ b ∈ ch, (b ∈ X.ex ∨ X.s₀.heap.objs.size ≤ b) ∧ b ≠ X.env.locals ∧ (∀ x c, X.env.cells.lookup x = some c → c ≠ b) ∧ ∀ p ∈ X.pn ++ pins, p.1 ≠ b) : Inv X pins σ H' s' := by
  obtain ⟨h', g', d', t', o'⟩ := s'
  have e : o' = s.os := ho
  subst e
  exact I.call (g' := g') (t' := t') (d' := d') u hok hg hch
end

/-! ### the judgements -/
/-- an exception: its class, its own dict's address (where it has one), the abstract heap behind it -/
abbrev XK := Value → Option Addr → Hp → Prop
abbrev St := List (Option V)
abbrev VK := V → Hp → Prop
/-- an expression's reading; a test's; an argument list's -/
abbrev TE := St → Hp → VK → Prop
abbrev TT := St → Hp → (Bool → Hp → Prop) → Prop
abbrev TA := St → Hp → (List V → Hp → Prop) → Prop
/-- what is wanted behind a statement -/
structure Ends where
  nx : St → Hp → Prop
  rt : VK
  bk : St → Hp → Prop := fun _ _ => False
  ct : St → Hp → Prop := fun _ _ => False
abbrev TS := Ends → St → Hp → Prop

def EP (X : Cx) (pins : List (Addr × Obj)) (σ : St) (Q : VK) (u : Value) (s' : Shared) : Prop := ∃ v H', Inv X pins σ H' s' ∧ RelV v u ∧ Q v H'
def TP (X : Cx) (pins : List (Addr × Obj)) (σ : St) (Q : Bool → Hp → Prop) (b : Bool) (s' : Shared) : Prop := ∃ H', Inv X pins σ H' s' ∧ Q b H'
def AP (X : Cx) (pins : List (Addr × Obj)) (σ : St) (Q : List V → Hp → Prop) (us : List Value) (s' : Shared) : Prop := ∃ vs H', Inv X pins σ H' s' ∧ Vals vs us ∧ Q vs H'
def SP (X : Cx) (pins : List (Addr × Obj)) (D : Ends) (f : Flow) (s' : Shared) : Prop :=
  match f with
  | .next => ∃ σ' H', Inv X pins σ' H' s' ∧ D.nx σ' H'
  | .brk => ∃ σ' H', Inv X pins σ' H' s' ∧ D.bk σ' H'
  | .cont => ∃ σ' H', Inv X pins σ' H' s' ∧ D.ct σ' H'
  | .ret u => ∃ v σ' H', Inv X pins σ' H' s' ∧ RelV v u ∧ D.rt v H'

def PE (X : Cx) (e : Expr) (t : TE) : Prop :=
  ∀ (pins : List (Addr × Obj)) (s : Shared) (σ : St) (H : Hp) (Q : VK), Inv X pins σ H s → t σ H Q → wpAny (model X.prog X.w) X.A (eval e X.env) (EP X pins σ Q) X.xe s
def PT (X : Cx) (e : Expr) (t : TT) : Prop :=
  ∀ (pins : List (Addr × Obj)) (s : Shared) (σ : St) (H : Hp) (Q : Bool → Hp → Prop), Inv X pins σ H s → t σ H Q → wpAny (model X.prog X.w) X.A (isTrue e X.env (eval e X.env)) (TP X pins σ Q) X.xe s
/-- a test whatever its 'whole' is (and, or) -/
def PW (X : Cx) (e : Expr) (t : TT) : Prop :=
  ∀ (whole : Sem Value) (pins : List (Addr × Obj)) (s : Shared) (σ : St) (H : Hp) (Q : Bool → Hp → Prop), Inv X pins σ H s → t σ H Q → wpAny (model X.prog X.w) X.A (isTrue e X.env whole) (TP X pins σ Q) X.xe s
theorem PW.pt {X : Cx} {e : Expr} {t : TT} (h : PW X e t) : PT X e t := h _
/-- an argument list (no star), from the left -/
def PA (X : Cx) (es : List Expr) (t : TA) : Prop :=
  ∀ (pos : Pos) (pins : List (Addr × Obj)) (s : Shared) (σ : St) (H : Hp) (Q : List V → Hp → Prop), Inv X pins σ H s → t σ H Q → wpAny (model X.prog X.w) X.A (spliced (backTo pos (starEach es X.env))) (AP X pins σ Q) X.xe s
def PS (X : Cx) (st : Stmt) (t : TS) : Prop :=
  ∀ (pins : List (Addr × Obj)) (s : Shared) (σ : St) (H : Hp) (D : Ends), Inv X pins σ H s → t D σ H → wpAny (model X.prog X.w) X.A (exec st X.env) (SP X pins D) X.xe s
def PSs (X : Cx) (st : List Stmt) (t : TS) : Prop :=
  ∀ (pins : List (Addr × Obj)) (s : Shared) (σ : St) (H : Hp) (D : Ends), Inv X pins σ H s → t D σ H → wpAny (model X.prog X.w) X.A (execs st X.env) (SP X pins D) X.xe s
/-- weaken the end -/
theorem thn {α : Type} {t : Sem α} {Q Q' : α → Shared → Prop} {M : Model} {A : Around} {E : Value → Shared → Prop} {s : Shared} (h : wpAny M A t Q E s) (hQ : ∀ a s, Q a s → Q' a s) : wpAny M A t Q' E s := wpAny_mono h hQ fun _ _ x => x
end L2

namespace L2
open PySem PySem.Spec PyProof.Rows
section
variable {X : Cx}

/-- two expressions in a row -/
theorem bin {a b : Expr} {ta tb : TE} (ha : PE X a ta) (hb : PE X b tb) {pins : List (Addr × Obj)} {s : Shared} {σ : St} {H : Hp} {R : V → V → Hp → Prop} (I : Inv X pins σ H s) (h : ta σ H fun x H1 => tb σ H1 fun y H2 => R x y H2)
    {α : Type} {Q : α → Shared → Prop} {f : Value → Value → Sem α}
    (hf : ∀ v u s2 x y H2, Inv X pins σ H2 s2 → RelV x v → RelV y u → R x y H2 → wpAny (model X.prog X.w) X.A (f v u) Q X.xe s2) :
    wpAny (model X.prog X.w) X.A (eval a X.env) (fun v s₁ => wpAny (model X.prog X.w) X.A (eval b X.env) (fun u s₂ => wpAny (model X.prog X.w) X.A (f v u) Q X.xe s₂) X.xe s₁) X.xe s := by
  refine thn (ha pins s σ H _ I h) fun v s1 ⟨x, H1, I1, r1, q1⟩ => ?_
  refine thn (hb pins s1 σ H1 _ I1 q1) fun u s2 ⟨y, H2, I2, r2, q2⟩ => ?_
  exact hf v u s2 x y H2 I2 r1 r2 q2

/-! ### names and constants -/
def tVar (i : Nat) : TE := fun σ H Q => ∃ v, σ[i]? = some (some v) ∧ Q v H
def tC (v : V) : TE := fun _ H Q => Q v H
theorem pe_var {i : Nat} {x : Str} {pos : Pos} (hN : X.N[i]? = some x) (hv : Vis X.env.scope x) (hd : (x == ("__debug__" : Str)) = false := by decide) (hcd : (x == ("__classdict__" : Str)) = false := by decide) : PE X (.Name x pos) (tVar i) := by
  intro pins s σ H Q I h
  obtain ⟨v, e, h⟩ := h
  obtain ⟨m, hn, hl⟩ := I.loc
  obtain ⟨u, r, l⟩ := hl i x v hN e hv
  have fin : EP X pins σ Q u s := ⟨v, H, I, r, h⟩
  rcases l with ⟨hk, hm⟩ | ⟨hk, c, hc, hcell⟩
  · exact wpAny_Name (wpAny_loadName_local I.ok.kind hk hn hm fin) hd
  · rcases hk with hk | hk
    · exact wpAny_Name (wpAny_loadName_cell I.ok.kind hk hc hcell fin) hd
    · exact wpAny_Name (wpAny_loadName_free I.ok.kind hk hc hcell fin hcd) hd
theorem pe_int {i j pos} : PE X (.Constant (.int i) j pos) (tC (.int i)) := fun _ _ _ H _ I h => wpAny_Constant_int ⟨.int i, H, I.tok _, ⟨_, rfl⟩, h⟩
theorem pe_bl {b j pos} : PE X (.Constant (.bool b) j pos) (tC (.bl b)) := fun _ _ _ H _ I h => Constant_bool ⟨.bl b, H, I, rfl, h⟩
theorem pe_non {j pos} : PE X (.Constant .none j pos) (tC .non) := fun _ _ _ H _ I h => Constant_none ⟨.non, H, I, rfl, h⟩
theorem pe_str {x j pos} : PE X (.Constant (.str x) j pos) (tC (.str x)) := fun _ _ _ H _ I h => Calls.Constant_str ⟨.str x, H, I.tok _, ⟨_, rfl⟩, h⟩

/-- a global name of the def -/
def Gl (X : Cx) (x : Str) : Prop := X.env.kindOf x = some .globalImplicit
theorem ld_glob {E : Value → Shared → Prop} {pins : List (Addr × Obj)} {s : Shared} {σ : St} {H : Hp} {x : Str} {u : Value} {pos : Pos} {Q : Value → Shared → Prop} (I : Inv X pins σ H s) (hg : Gl X x) (hm : X.mg x = some u) (h : Q u s)
    (hd : (x == ("__debug__" : Str)) = false := by decide) : wpAny (model X.prog X.w) X.A (eval (.Name x pos) X.env) Q E s :=
  Calls.Name_function_global I.ok.kind hg (Calls.loadGlobal_global (by rw [I.ok.glob]; exact I.mod.glob.keeps I.bk) hm h) hd
theorem ld_blt {E : Value → Shared → Prop} {pins : List (Addr × Obj)} {s : Shared} {σ : St} {H : Hp} {x : Str} {u : Value} {pos : Pos} {Q : Value → Shared → Prop} (I : Inv X pins σ H s) (hg : Gl X x) (hm : X.mg x = none) (hv : bootBuiltins x = some u) (h : Q u s)
    (hn : x ≠ "__name__" := by decide) (hd : (x == ("__debug__" : Str)) = false := by decide) : wpAny (model X.prog X.w) X.A (eval (.Name x pos) X.env) Q E s := by
  obtain ⟨mb, h1, h2⟩ := I.mod.blt
  exact Calls.Name_function_global I.ok.kind hg (Calls.loadGlobal_builtin (by rw [I.ok.glob]; exact I.mod.glob.keeps I.bk) hm (by rw [I.ok.blt]; exact h1.keeps I.bk) ((h2 x hn).trans hv) h) hd
/-- a module's constant, a class, a function, as a value -/
theorem pe_glob {x : Str} {v : V} {u : Value} {pos : Pos} (hg : Gl X x) (hm : X.mg x = some u) (r : RelV v u) (hd : (x == ("__debug__" : Str)) = false := by decide) : PE X (.Name x pos) (tC v) :=
  fun _ _ _ H _ I h => ld_glob I hg hm ⟨v, H, I, r, h⟩ hd
theorem pe_bltn {x : Str} {v : V} {u : Value} {pos : Pos} (hg : Gl X x) (hm : X.mg x = none) (hv : bootBuiltins x = some u) (r : RelV v u) (hn : x ≠ "__name__" := by decide) (hd : (x == ("__debug__" : Str)) = false := by decide) : PE X (.Name x pos) (tC v) :=
  fun _ _ _ H _ I h => ld_blt I hg hm hv ⟨v, H, I, r, h⟩ hn hd

/-! ### arithmetic -/
/-- two ints -/
def t2I (ta tb : TE) (k : Int → Int → Hp → Prop) : St → Hp → Prop := fun σ H => ta σ H fun x H1 => tb σ H1 fun y H2 => ∃ i j, x = .int i ∧ y = .int j ∧ k i j H2
def tAdd (ta tb : TE) : TE := fun σ H Q => t2I ta tb (fun i j H2 => Q (.int (i + j)) H2) σ H
def tSub (ta tb : TE) : TE := fun σ H Q => t2I ta tb (fun i j H2 => Q (.int (i - j)) H2) σ H
/-- the left factor below 2^64 -/
def tMul (ta tb : TE) : TE := fun σ H Q => t2I ta tb (fun i j H2 => (-(2 ^ 64) < i ∧ i < 2 ^ 64) ∧ Q (.int (i * j)) H2) σ H
variable {a b : Expr} {ta tb : TE} {pos : Pos}
theorem pe_add (ha : PE X a ta) (hb : PE X b tb) : PE X (.BinOp a .Add b pos) (tAdd ta tb) := by
  intro pins s σ H Q I h
  refine wpAny_BinOp (bin ha hb I h fun v u s2 x y H2 I2 rx ry q => ?_)
  obtain ⟨i, j, rfl, rfl, q⟩ := q
  obtain ⟨t, rfl⟩ := rx
  obtain ⟨t', rfl⟩ := ry
  exact add_int ⟨.int _, H2, I2.tok _, ⟨_, rfl⟩, q⟩
theorem pe_sub (ha : PE X a ta) (hb : PE X b tb) : PE X (.BinOp a .Sub b pos) (tSub ta tb) := by
  intro pins s σ H Q I h
  refine wpAny_BinOp (bin ha hb I h fun v u s2 x y H2 I2 rx ry q => ?_)
  obtain ⟨i, j, rfl, rfl, q⟩ := q
  obtain ⟨t, rfl⟩ := rx
  obtain ⟨t', rfl⟩ := ry
  exact sub_int ⟨.int _, H2, I2.tok _, ⟨_, rfl⟩, q⟩
theorem pe_mul (ha : PE X a ta) (hb : PE X b tb) : PE X (.BinOp a .Mult b pos) (tMul ta tb) := by
  intro pins s σ H Q I h
  refine wpAny_BinOp (bin ha hb I h fun v u s2 x y H2 I2 rx ry q => ?_)
  obtain ⟨i, j, rfl, rfl, ⟨q1, q2⟩, q⟩ := q
  obtain ⟨t, rfl⟩ := rx
  obtain ⟨t', rfl⟩ := ry
  exact mul_int ⟨.int _, H2, I2.tok _, ⟨_, rfl⟩, q⟩ (.of_left (intBits_le_64 q1 q2))

/-! ### comparisons -/
def PC (X : Cx) (op : CmpOp) (a b : Expr) (t : TE) : Prop :=
  ∀ (pins : List (Addr × Obj)) (s : Shared) (σ : St) (H : Hp) (Q : VK), Inv X pins σ H s → t σ H Q →
    wpAny (model X.prog X.w) X.A (eval a X.env) (fun v s₁ => wpAny (model X.prog X.w) X.A (eval b X.env) (fun u s₂ => wpAny (model X.prog X.w) X.A (compareOp op v u) (EP X pins σ Q) X.xe s₂) X.xe s₁) X.xe s
theorem nobehind (b : Expr) {op : CmpOp} (h : op ≠ .In) (h2 : op ≠ .NotIn) : behindInMarks op b = false := by
  have e1 : (op == CmpOp.In) = false := by cases op <;> first | rfl | exact absurd rfl h
  have e2 : (op == CmpOp.NotIn) = false := by cases op <;> first | rfl | exact absurd rfl h2
  cases b <;> simp [behindInMarks, e1, e2]
def tCmp (p : Int → Int → Bool) (ta tb : TE) : TE := fun σ H Q => t2I ta tb (fun i j H2 => Q (.bl (p i j)) H2) σ H
abbrev tLt : TE → TE → TE := tCmp fun i j => decide (i < j)
abbrev tLe : TE → TE → TE := tCmp fun i j => decide (i ≤ j)
abbrev tGt : TE → TE → TE := tCmp fun i j => decide (j < i)
abbrev tGe : TE → TE → TE := tCmp fun i j => decide (j ≤ i)
abbrev tEqI : TE → TE → TE := tCmp fun i j => decide (i = j)
abbrev tNeI : TE → TE → TE := tCmp fun i j => !decide (i = j)
/-- a comparison of two ints, by its rule -/
theorem pc_int {op : CmpOp} {p : Int → Int → Bool} (ha : PE X a ta) (hb : PE X b tb)
    (rule : ∀ (i j : Int) (t u : Tok) (Q : Value → Shared → Prop) (s : Shared), Q (.bool (p i j)) s → wpAny (model X.prog X.w) X.A (compareOp op (.int i t) (.int j u)) Q X.xe s) : PC X op a b (tCmp p ta tb) := by
  intro pins s σ H Q I h
  refine bin ha hb I h fun v u s2 x y H2 I2 rx ry q => ?_
  obtain ⟨i, j, rfl, rfl, q⟩ := q
  obtain ⟨t, rfl⟩ := rx
  obtain ⟨t', rfl⟩ := ry
  exact rule i j t t' _ s2 ⟨.bl _, H2, I2, rfl, q⟩
theorem pc_lt (ha : PE X a ta) (hb : PE X b tb) : PC X .Lt a b (tLt ta tb) := pc_int ha hb fun _ _ _ _ _ _ h => lt_int h
theorem pc_le (ha : PE X a ta) (hb : PE X b tb) : PC X .LtE a b (tLe ta tb) := pc_int ha hb fun _ _ _ _ _ _ h => le_int h
theorem pc_gt (ha : PE X a ta) (hb : PE X b tb) : PC X .Gt a b (tGt ta tb) := pc_int ha hb fun _ _ _ _ _ _ h => gt_int h
theorem pc_ge (ha : PE X a ta) (hb : PE X b tb) : PC X .GtE a b (tGe ta tb) := pc_int ha hb fun _ _ _ _ _ _ h => ge_int h
theorem pc_eqI (ha : PE X a ta) (hb : PE X b tb) : PC X .Eq a b (tEqI ta tb) := pc_int ha hb fun _ _ _ _ _ _ h => eq_int (by rw [Bool.beq_eq_decide_eq]; exact h)
theorem pc_neI (ha : PE X a ta) (hb : PE X b tb) : PC X .NotEq a b (tNeI ta tb) := pc_int ha hb fun _ _ _ _ _ _ h => ne_int (by rw [bne, Bool.beq_eq_decide_eq]; exact h)
/-- is None -/
def tIsN (ta : TE) : TE := fun σ H Q => ta σ H fun x H1 => Q (.bl (decide (x = .non))) H1
def tNotN (ta : TE) : TE := fun σ H Q => ta σ H fun x H1 => Q (.bl (!decide (x = .non))) H1
theorem RelV.none_iff {x : V} {v : Value} (r : RelV x v) : (v == Value.none) = decide (x = .non) := by
  cases x with
  | non => cases r; rfl
  | bl _ => cases r; rfl
  | int _ => obtain ⟨t, rfl⟩ := r; rfl
  | str _ => obtain ⟨t, rfl⟩ := r; rfl
  | byt _ => obtain ⟨t, rfl⟩ := r; rfl
  | flt _ => obtain ⟨t, rfl⟩ := r; rfl
  | ref _ => cases r; rfl
  | ty _ => cases r; rfl
theorem pc_isN {j pos'} (ha : PE X a ta) : PC X .Is a (.Constant .none j pos') (tIsN ta) := by
  intro pins s σ H Q I h
  refine thn (ha pins s σ H _ I h) fun v s1 ⟨x, H1, I1, r1, q1⟩ => ?_
  exact Constant_none (is_none_gen ⟨.bl _, H1, I1, by rw [r1.none_iff]; rfl, q1⟩)
theorem pc_notN {j pos'} (ha : PE X a ta) : PC X .IsNot a (.Constant .none j pos') (tNotN ta) := by
  intro pins s σ H Q I h
  refine thn (ha pins s σ H _ I h) fun v s1 ⟨x, H1, I1, r1, q1⟩ => ?_
  exact Constant_none (isnot_none_gen ⟨.bl _, H1, I1, by rw [r1.none_iff]; rfl, q1⟩)
/-- a comparison as a value, as a test -/
def tB (t : TE) : TT := fun σ H Q => t σ H fun x H1 => ∃ c, x = .bl c ∧ Q c H1
theorem pe_cmp {op : CmpOp} {t : TE} (h : PC X op a b t) (h1 : behindInMarks op b = false := by first | exact nobehind _ (by decide) (by decide) | rfl) : PE X (.Compare a [op] [b] pos) t := fun pins s σ H Q I hw => wpAny_Compare1 (h pins s σ H Q I hw) h1
theorem pt_cmp {op : CmpOp} {t : TE} (h : PC X op a b t) (h1 : behindInMarks op b = false := by first | exact nobehind _ (by decide) (by decide) | rfl) : PT X (.Compare a [op] [b] pos) (tB t) := by
  intro pins s σ H Q I hw
  refine wpAny_isTrue_Compare1 (thn (h pins s σ H _ I hw) fun v s1 h1 => thn h1 fun u s2 h2 => thn h2 fun c s3 ⟨x, H1, I1, r1, q1⟩ => ?_) h1
  obtain ⟨d, rfl, q⟩ := q1
  cases r1
  exact wpAny_truthy_bool ⟨H1, I1, q⟩
/-- an expression whose value is a bool, as a test -/
theorem pt_val {e : Expr} {t : TE} (h : PE X e t) (he : ∀ whole, isTrue e X.env whole = (do let v ← whole; standAt e.pos; holding [v] (truthy v)) := by intro _; rfl) : PT X e (tB t) := by
  intro pins s σ H Q I hw
  refine isTrue_plain (thn (h pins s σ H _ I hw) fun v s1 ⟨x, H1, I1, r1, q1⟩ => ?_) (he _)
  obtain ⟨d, rfl, q⟩ := q1
  cases r1
  exact wpAny_truthy_bool ⟨H1, I1, q⟩

/-! ### and, or, not -/
variable {tA tB' : TT} {rest : List Expr}
def tAnd (t u : TT) : TT := fun σ H Q => t σ H fun c H1 => if c = true then u σ H1 Q else Q false H1
def tOr (t u : TT) : TT := fun σ H Q => t σ H fun c H1 => if c = true then Q true H1 else u σ H1 Q
def tNot (t : TT) : TT := fun σ H Q => t σ H fun c H1 => Q (!c) H1
theorem pw_and1 (ha : PT X a tA) : PW X (.BoolOp .And [a] pos) tA := by
  intro wh pins s σ H Q I h
  refine isTrue_and (thn (ha pins s σ H Q I h) fun c s1 e => ?_)
  cases c with
  | true => exact isTrue_and_nil e
  | false => exact e
theorem pw_or1 (ha : PT X a tA) : PW X (.BoolOp .Or [a] pos) tA := by
  intro wh pins s σ H Q I h
  refine isTrue_or (thn (ha pins s σ H Q I h) fun c s1 e => ?_)
  cases c with
  | false => exact isTrue_or_nil e
  | true => exact e
theorem pw_and (ha : PT X a tA) (hb : PW X (.BoolOp .And (b :: rest) pos) tB') : PW X (.BoolOp .And (a :: b :: rest) pos) (tAnd tA tB') := by
  intro wh pins s σ H Q I h
  refine isTrue_and (thn (ha pins s σ H _ I h) fun c s1 ⟨H1, I1, q1⟩ => ?_)
  cases c with
  | true => exact hb wh pins s1 σ H1 Q I1 q1
  | false => exact ⟨H1, I1, q1⟩
theorem pw_or (ha : PT X a tA) (hb : PW X (.BoolOp .Or (b :: rest) pos) tB') : PW X (.BoolOp .Or (a :: b :: rest) pos) (tOr tA tB') := by
  intro wh pins s σ H Q I h
  refine isTrue_or (thn (ha pins s σ H _ I h) fun c s1 ⟨H1, I1, q1⟩ => ?_)
  cases c with
  | true => exact ⟨H1, I1, q1⟩
  | false => exact hb wh pins s1 σ H1 Q I1 q1
theorem pt_not (ha : PT X a tA) : PT X (.UnaryOp .Not a pos) (tNot tA) := by
  intro pins s σ H Q I h
  exact isTrue_not (ha pins s σ H (fun c H1 => Q (!c) H1) I h)
/-- .. as values (bools) -/
def tAndV (ta tb : TE) : TE := fun σ H Q => ta σ H fun x H1 => ∃ c, x = .bl c ∧ if c = true then tb σ H1 Q else Q (.bl false) H1
def tOrV (ta tb : TE) : TE := fun σ H Q => ta σ H fun x H1 => ∃ c, x = .bl c ∧ if c = true then Q (.bl true) H1 else tb σ H1 Q
def tNotV (ta : TE) : TE := fun σ H Q => ta σ H fun x H1 => ∃ c, x = .bl c ∧ Q (.bl (!c)) H1
theorem pe_one {op} {t : TE} (h : PE X a t) : PE X (.BoolOp op [a] pos) t := fun pins s σ H Q I hw => BoolOp_one (h pins s σ H Q I hw)
theorem pe_and (ha : PE X a ta) (hb : PE X (.BoolOp .And (b :: rest) pos) tb) : PE X (.BoolOp .And (a :: b :: rest) pos) (tAndV ta tb) := by
  intro pins s σ H Q I h
  refine BoolOp_and (thn (ha pins s σ H _ I h) fun v s1 ⟨x, H1, I1, r1, q1⟩ => ?_)
  obtain ⟨c, rfl, q1⟩ := q1
  cases r1
  refine wpAny_truthy_bool ?_
  cases c with
  | true => exact hb pins s1 σ H1 Q I1 q1
  | false => exact ⟨.bl false, H1, I1, rfl, q1⟩
theorem pe_or (ha : PE X a ta) (hb : PE X (.BoolOp .Or (b :: rest) pos) tb) : PE X (.BoolOp .Or (a :: b :: rest) pos) (tOrV ta tb) := by
  intro pins s σ H Q I h
  refine BoolOp_or (thn (ha pins s σ H _ I h) fun v s1 ⟨x, H1, I1, r1, q1⟩ => ?_)
  obtain ⟨c, rfl, q1⟩ := q1
  cases r1
  refine wpAny_truthy_bool ?_
  cases c with
  | false => exact hb pins s1 σ H1 Q I1 q1
  | true => exact ⟨.bl true, H1, I1, rfl, q1⟩
theorem pe_not (ha : PE X a ta) : PE X (.UnaryOp .Not a pos) (tNotV ta) := by
  intro pins s σ H Q I h
  refine UnaryOp_ (thn (ha pins s σ H _ I h) fun v s1 ⟨x, H1, I1, r1, q1⟩ => ?_)
  obtain ⟨c, rfl, q1⟩ := q1
  cases r1
  exact not_of (wpAny_truthy_bool ⟨.bl (!c), H1, I1, rfl, q1⟩)
/-- a if t else b -/
def tIf (t : TT) (ta tb : TE) : TE := fun σ H Q => t σ H fun c H1 => if c = true then ta σ H1 Q else tb σ H1 Q
theorem pe_ifExp {c : Expr} (hc : PT X c tA) (ha : PE X a ta) (hb : PE X b tb) : PE X (.IfExp c a b pos) (tIf tA ta tb) := by
  intro pins s σ H Q I h
  refine wpAny_IfExp (thn (hc pins s σ H _ I h) fun d s1 ⟨H1, I1, q1⟩ => ?_)
  cases d with
  | true => exact ha pins s1 σ H1 Q I1 q1
  | false => exact hb pins s1 σ H1 Q I1 q1
end
end L2

namespace L2
open PySem PySem.Spec PyProof.Rows

/-! ### a list, a tuple that is read: tracked, frozen, or an object of the module -/
def SqL (K : PySem.W.Frag) (H : Hp) (a : Addr) (xs : List V) : Prop :=
  Rd H a (.lst xs) ∨
    ∃ (o : Obj) (its : Array Value) (n : Nat), K.lookup a = some o ∧ o.cls = .type "list" ∧ o.dict = none ∧ o.data = .seq its n ∧ its.size ≤ sizeLine ∧ Vals xs its.toList
def SqT (K : PySem.W.Frag) (H : Hp) (a : Addr) (xs : List V) : Prop :=
  Rd H a (.tup xs) ∨
    ∃ (o : Obj) (its : Array Value) (n : Nat), K.lookup a = some o ∧ o.cls = .type "tuple" ∧ o.data = .seq its n ∧ its.size ≤ sizeLine ∧ Vals xs its.toList
def absV : Value → Option V
  | .none => some .non
  | .bool b => some (.bl b)
  | .int i _ => some (.int i)
  | .str x _ => some (.str x)
  | .bytes b _ => some (.byt b)
  | .float b _ => some (.flt b)
  | .ref a => some (.ref a)
  | .type n => some (.ty n)
  | _ => none
theorem RelV.abs {x : V} {u : Value} (r : RelV x u) : absV u = some x := by
  cases x with
  | non => cases r; rfl
  | bl _ => cases r; rfl
  | int _ => obtain ⟨t, rfl⟩ := r; rfl
  | str _ => obtain ⟨t, rfl⟩ := r; rfl
  | byt _ => obtain ⟨t, rfl⟩ := r; rfl
  | flt _ => obtain ⟨t, rfl⟩ := r; rfl
  | ref _ => cases r; rfl
  | ty _ => cases r; rfl
theorem RelV.inj {x y : V} {u : Value} (r : RelV x u) (q : RelV y u) : x = y := Option.some.inj (r.abs.symm.trans q.abs)
theorem Vals.inj : ∀ {xs ys : List V} {us : List Value}, Vals xs us → Vals ys us → xs = ys
  | _, _, _, .nil, .nil => rfl
  | _, _, _, .cons r t, .cons r' t' => by rw [r.inj r', Vals.inj t t']
section
variable {X : Cx} {pins : List (Addr × Obj)} {σ : St} {H : Hp} {s : Shared} {a : Addr} {xs ys : List V}
theorem SqL.of {K : PySem.W.Frag} (h : H a = some (.lst xs)) : SqL K H a xs := .inl (.inl h)
theorem SqT.of {K : PySem.W.Frag} (h : H a = some (.tup xs)) : SqT K H a xs := .inl (.inl h)
theorem Inv.list (I : Inv X pins σ H s) (h : SqL X.K H a xs) : ∃ its : List Value, Vals xs its ∧ PlainL s.heap a its.toArray ∧ xs.length ≤ sizeLine := by
  rcases h with h | ⟨o, its, n, hk, hc, hd, hs, hz, r⟩
  · obtain ⟨z, its, n, r, e⟩ := h.ok I.hok
    exact ⟨its, r, ⟨_, n, e, rfl, rfl, rfl⟩, z⟩
  · refine ⟨its.toList, r, ⟨o, n, I.kIn a o hk, hc, hd, by simpa using hs⟩, ?_⟩
    have e := r.length
    simp only [Array.length_toList] at e
    omega
theorem Inv.tuple (I : Inv X pins σ H s) (h : SqT X.K H a xs) : ∃ its : List Value, Vals xs its ∧ IsTup s.heap a its.toArray ∧ xs.length ≤ sizeLine := by
  rcases h with h | ⟨o, its, n, hk, hc, hs, hz, r⟩
  · obtain ⟨z, its, r, p⟩ := h.ok I.hok
    exact ⟨its, r, p, z⟩
  · refine ⟨its.toList, r, ⟨o, I.kIn a o hk, hc, n, by simpa using hs⟩, ?_⟩
    have e := r.length
    simp only [Array.length_toList] at e
    omega
theorem Inv.list_inj (I : Inv X pins σ H s) (h : SqL X.K H a xs) (h' : SqL X.K H a ys) : xs = ys := by
  obtain ⟨its, r, ⟨o, n, e, _, _, d⟩, _⟩ := I.list h
  obtain ⟨its', r', ⟨o', n', e', _, _, d'⟩, _⟩ := I.list h'
  rw [e] at e'; cases e'
  rw [d] at d'
  injection d' with d1 _
  have : its = its' := by simpa using congrArg Array.toList d1
  subst this
  exact r.inj r'
theorem Inv.tuple_inj (I : Inv X pins σ H s) (h : SqT X.K H a xs) (h' : SqT X.K H a ys) : xs = ys := by
  obtain ⟨its, r, ⟨o, e, _, n, d⟩, _⟩ := I.tuple h
  obtain ⟨its', r', ⟨o', e', _, n', d'⟩, _⟩ := I.tuple h'
  rw [e] at e'; cases e'
  rw [d] at d'
  injection d' with d1 _
  have : its = its' := by simpa using congrArg Array.toList d1
  subst this
  exact r.inj r'
end

/-! ### another wish about exceptions -/
abbrev Cx.wish (X : Cx) (E : Value → Shared → Prop) : Cx := { X with xe := E }
/-- no exception leaves -/
abbrev Cx.nox (X : Cx) : Cx := X.wish fun _ _ => False
theorem Cx.Ok.wish {X : Cx} (ok : X.Ok) (E : Value → Shared → Prop) : (X.wish E).Ok :=
  ⟨ok.mod, ok.kind, ok.glob, ok.blt, ok.above, ok.inj, ok.has, ok.cab, ok.hd, ok.frames, ok.stk, ok.exf, ok.bs, ok.bsz, ok.noex, ok.exfs, ok.funs, ok.frf⟩
theorem Cx.Ok.unwish {X : Cx} {E : Value → Shared → Prop} (ok : (X.wish E).Ok) : X.Ok :=
  ⟨ok.mod, ok.kind, ok.glob, ok.blt, ok.above, ok.inj, ok.has, ok.cab, ok.hd, ok.frames, ok.stk, ok.exf, ok.bs, ok.bsz, ok.noex, ok.exfs, ok.funs, ok.frf⟩
section
variable {X : Cx} {pins : List (Addr × Obj)} {σ : St} {H : Hp} {s : Shared} {E : Value → Shared → Prop}
theorem Inv.wish (I : Inv X pins σ H s) (E : Value → Shared → Prop) : Inv (X.wish E) pins σ H s := ⟨I.ok.wish E, I.os, I.bare, I.base, I.loc, I.cell, I.free, I.freeC, I.pin, I.hok, I.len⟩
theorem Inv.unwish (I : Inv (X.wish E) pins σ H s) : Inv X pins σ H s := ⟨I.ok.unwish, I.os, I.bare, I.base, I.loc, I.cell, I.free, I.freeC, I.pin, I.hok, I.len⟩
theorem SP.unwish {D : Ends} {f : Flow} {s' : Shared} (h : SP (X.wish E) pins D f s') : SP X pins D f s' := by
  cases f with
  | next => obtain ⟨σ', H', I, q⟩ := h; exact ⟨σ', H', I.unwish, q⟩
  | brk => obtain ⟨σ', H', I, q⟩ := h; exact ⟨σ', H', I.unwish, q⟩
  | cont => obtain ⟨σ', H', I, q⟩ := h; exact ⟨σ', H', I.unwish, q⟩
  | ret u => obtain ⟨v, σ', H', I, r, q⟩ := h; exact ⟨v, σ', H', I.unwish, r, q⟩
theorem PE.nox {e : Expr} {t : TE} (h : PE X.nox e t) : PE X e t := fun pins s σ H Q I hw =>
  wpAny_mono (h pins s σ H Q (I.wish _) hw) (fun _ _ ⟨v, H', I', r, q⟩ => ⟨v, H', I'.unwish, r, q⟩) fun _ _ z => False.elim z
theorem PT.nox {e : Expr} {t : TT} (h : PT X.nox e t) : PT X e t := fun pins s σ H Q I hw =>
  wpAny_mono (h pins s σ H Q (I.wish _) hw) (fun _ _ ⟨H', I', q⟩ => ⟨H', I'.unwish, q⟩) fun _ _ z => False.elim z
theorem PSs.nox {st : List Stmt} {t : TS} (h : PSs X.nox st t) : PSs X st t := fun pins s σ H D I hw =>
  wpAny_mono (h pins s σ H D (I.wish _) hw) (fun _ _ q => q.unwish) fun _ _ z => False.elim z
end

/-! ### blocks and small statements -/
section
variable {X : Cx} {st : Stmt} {rest : List Stmt} {t u : TS} {e : Expr} {te : TE} {pos : Pos}
def tNext : TS := fun D σ H => D.nx σ H
def tSeq (t u : TS) : TS := fun D σ H => t { D with nx := u D } σ H
theorem pss_nil : PSs X [] tNext := fun _ _ σ H _ I h => wpAny_execs_nil ⟨σ, H, I, h⟩
theorem pss_cons (h1 : PS X st t) (h2 : PSs X rest u) : PSs X (st :: rest) (tSeq t u) := by
  intro pins s σ H D I h
  refine wpAny_execs_cons (thn (h1 pins s σ H { D with nx := u D } I h) fun f s1 q => ?_)
  cases f with
  | next =>
    obtain ⟨σ', H', I', q⟩ := q
    exact h2 pins s1 σ' H' D I' q
  | ret v => exact q
  | brk => exact q
  | cont => exact q
theorem pss_one (h1 : PS X st t) : PSs X [st] t := by
  intro pins s σ H D I h
  refine wpAny_execs_cons (thn (h1 pins s σ H D I h) fun f s1 q => ?_)
  cases f with
  | next => exact wpAny_execs_nil q
  | ret v => exact q
  | brk => exact q
  | cont => exact q
def tBreak : TS := fun D σ H => D.bk σ H
def tCont : TS := fun D σ H => D.ct σ H
theorem ps_pass : PS X (.Pass pos) tNext := fun _ _ σ H _ I h => wpAny_Pass ⟨σ, H, I, h⟩
theorem ps_break : PS X (.Break pos) tBreak := fun _ _ σ H _ I h => wpAny_Break ⟨σ, H, I, h⟩
theorem ps_continue : PS X (.Continue pos) tCont := fun _ _ σ H _ I h => wpAny_Continue ⟨σ, H, I, h⟩
/-- in a def's body nothing is shown -/
theorem Inv.quiet {pins : List (Addr × Obj)} {σ : St} {H : Hp} {s : Shared} (I : Inv X pins σ H s) : interactive X.env = false := by simp [interactive, I.ok.kind]
/-- a docstring -/
theorem ps_doc {x j pos pos'} : PS X (.Expr (.Constant (.str x) j pos) pos') tNext := fun _ s σ H _ I h => wpAny_Expr (Calls.Constant_str (show SP X _ _ .next { s with toks := s.toks + 1 } from ⟨σ, H, I.tok _, h⟩)) I.quiet
/-- an expression whose value is dropped -/
def tDrop (te : TE) : TS := fun D σ H => te σ H fun _ H1 => D.nx σ H1
theorem ps_expr (he : PE X e te) (hs : swapsWith e none pos.line X.env = pure false := by rfl) : PS X (.Expr e pos) (tDrop te) := by
  intro pins s σ H D I h
  exact wpAny_Expr_any (thn (he pins s σ H _ I h) fun v s1 ⟨x, H1, I1, r1, q1⟩ => ⟨σ, H1, I1, q1⟩) I.quiet hs
def tRet (te : TE) : TS := fun D σ H => te σ H D.rt
theorem ps_ret (he : PE X e te) : PS X (.Return (some e) pos) (tRet te) := by
  intro pins s σ H D I h
  exact wpAny_Return_some (thn (he pins s σ H _ I h) fun v s1 ⟨x, H1, I1, r1, q1⟩ => ⟨x, σ, H1, I1, r1, q1⟩)
def tRetN : TS := fun D _ H => D.rt .non H
theorem ps_retN : PS X (.Return none pos) tRetN := fun _ _ σ H _ I h => wpAny_Return_none ⟨.non, σ, H, I, rfl, h⟩
def tIfS (c : TT) (t u : TS) : TS := fun D σ H => c σ H fun b H1 => if b = true then t D σ H1 else u D σ H1
theorem ps_if {c : Expr} {a b : List Stmt} {tc : TT} (hc : PT X c tc) (ha : PSs X a t) (hb : PSs X b u) : PS X (.If c a b pos) (tIfS tc t u) := by
  intro pins s σ H D I h
  refine wpAny_If (thn (hc pins s σ H _ I h) fun d s1 ⟨H1, I1, q1⟩ => ?_)
  cases d with
  | true => exact ha pins s1 σ H1 D I1 q1
  | false => exact hb pins s1 σ H1 D I1 q1
/-- code that the proof never comes to -/
def tNever : TS := fun _ _ _ => False
theorem ps_never : PS X st tNever := fun _ _ _ _ _ _ h => h.elim
theorem pss_never {sts : List Stmt} : PSs X sts tNever := fun _ _ _ _ _ _ h => h.elim
end

/-! ### targets -/
abbrev TG := V → St → Hp → (St → Hp → Prop) → Prop
abbrev TGs := List V → St → Hp → (St → Hp → Prop) → Prop
def PG (X : Cx) (target : Expr) (t : TG) : Prop :=
  ∀ (pins : List (Addr × Obj)) (s : Shared) (σ : St) (H : Hp) (v : V) (u : Value) (Q : St → Hp → Prop), Inv X pins σ H s → RelV v u → t v σ H Q →
    wpAny (model X.prog X.w) X.A (assign target X.env u) (fun _ s' => ∃ σ' H', Inv X pins σ' H' s' ∧ Q σ' H') X.xe s
/-- several targets, one after another -/
def PGs (X : Cx) (ts : List Expr) (t : TGs) : Prop :=
  ∀ (pins : List (Addr × Obj)) (s : Shared) (σ : St) (H : Hp) (vs : List V) (us : List Value) (Q : St → Hp → Prop), Inv X pins σ H s → Vals vs us → t vs σ H Q →
    wpAny (model X.prog X.w) X.A (assignInOrder ((assignEach ts X.env).map (·.2)) us) (fun _ s' => ∃ σ' H', Inv X pins σ' H' s' ∧ Q σ' H') X.xe s
/-- o[i] = v, by values -/
abbrev TSet := V → V → V → Hp → (Hp → Prop) → Prop
def PSet (X : Cx) (t : TSet) : Prop :=
  ∀ (pins : List (Addr × Obj)) (s : Shared) (σ : St) (H : Hp) (o i v : V) (ov iv u : Value) (Q : Hp → Prop), Inv X pins σ H s → RelV o ov → RelV i iv → RelV v u → t o i v H Q →
    wpAny (model X.prog X.w) X.A (setItem ov iv u) (fun _ s' => ∃ H', Inv X pins σ H' s' ∧ Q H') X.xe s
/-- a op= b, by values -/
abbrev TIp := V → V → Hp → VK → Prop
def PIp (X : Cx) (op : Operator) (t : TIp) : Prop :=
  ∀ (pins : List (Addr × Obj)) (s : Shared) (σ : St) (H : Hp) (x y : V) (v u : Value) (Q : VK), Inv X pins σ H s → RelV x v → RelV y u → t x y H Q →
    wpAny (model X.prog X.w) X.A (inplaceOp op v u) (EP X pins σ Q) X.xe s
section
variable {X : Cx} {pos : Pos}
def gName (i : Nat) : TG := fun v σ H Q => Q (σ.set i (some v)) H
theorem pg_name {i : Nat} {x : Str} (hN : X.N.Nodup) (hi : X.N[i]? = some x) (hx : Loc X.env.scope x) (hf : X.fn x = true ∨ X.env.scope.names.lookup x = some .local := by first | exact .inl rfl | exact .inr rfl | assumption) : PG X (.Name x pos) (gName i) := by
  intro pins s σ H v u Q I r h
  exact wpAny_assign_Name (store_ok I hN hi hx r (fun s' I' => ⟨_, H, I', h⟩) hf)
def gNil : TGs := fun vs σ H Q => vs = [] ∧ Q σ H
def gCons (t : TG) (u : TGs) : TGs := fun vs σ H Q => ∃ v r, vs = v :: r ∧ t v σ H fun σ' H' => u r σ' H' Q
theorem pgs_nil : PGs X [] gNil := by
  intro pins s σ H vs us Q I r h
  obtain ⟨e, h⟩ := h
  subst e
  cases r
  exact assignInOrder_nil ⟨σ, H, I, h⟩
theorem pgs_cons {e : Expr} {es : List Expr} {t : TG} {u : TGs} (h1 : PG X e t) (h2 : PGs X es u)
    (hs : (assignEach (e :: es) X.env).map (·.2) = assign e X.env :: (assignEach es X.env).map (·.2) := by rfl) : PGs X (e :: es) (gCons t u) := by
  intro pins s σ H vs us Q I r h
  obtain ⟨v, vr, e1, h⟩ := h
  subst e1
  cases r with
  | cons r rr =>
    rw [hs]
    refine assignInOrder_cons (thn (h1 pins s σ H _ _ _ I r h) fun _ s1 ⟨σ1, H1, I1, q1⟩ => ?_)
    exact h2 pins s1 σ1 H1 _ _ Q I1 rr q1
/-- (a, b, ..) = a tuple of that length -/
def gTup (K : PySem.W.Frag) (n : Nat) (t : TGs) : TG := fun v σ H Q => ∃ a xs, v = .ref a ∧ SqT K H a xs ∧ xs.length = n ∧ t xs σ H Q
theorem pg_tup {es : List Expr} {k : Nat} {t : TGs} {n : Nat} (hc : X.calm = true) (h : PGs X es t)
    (hn : (assignEach es X.env).length = n := by rfl) (hst : (assignEach es X.env).findIdx? (·.1) = none := by rfl) : PG X (.Tuple es k pos) (gTup X.K n t) := by
  intro pins s σ H v u Q I r hw
  obtain ⟨a, xs, e1, hq, hl, hw⟩ := hw
  subst e1
  cases r
  obtain ⟨its, rv, ht, hz⟩ := I.tuple hq
  refine assign_Tuple_tuple (I.ok.hd hc) ht (by simp [hn, ← hl, rv.length]) hst fun h' hx => ?_
  have I1 : Inv X pins σ H { s with heap := h' } := I.kept (t' := s.toks) fun b o e => hx b o (Nat.ne_of_lt (Heap.lt_size e)) e
  exact h pins _ σ H xs _ Q I1 (by simpa using rv) hw
/-- o[i] = .. -/
def gSub (to ti : TE) (t : TSet) : TG := fun v σ H Q => to σ H fun o H1 => ti σ H1 fun i H2 => t o i v H2 fun H3 => Q σ H3
theorem pg_sub {o i : Expr} {to ti : TE} {t : TSet} (ho : PE X o to) (hi : PE X i ti) (hs : PSet X t)
    (ha : ∀ v, assign (.Subscript o i pos) X.env v = (do
      let ov ← holding [v] (eval o X.env)
      let iv ← holding [v, ov] (eval i X.env)
      standAt pos
      holding [v, ov, iv] (setItem ov iv v)
      release [v, ov, iv] []) := by intro _; rfl) : PG X (.Subscript o i pos) (gSub to ti t) := by
  intro pins s σ H v u Q I r h
  rw [ha]
  refine wpAny_bind (wpAny_holding (thn (ho pins s σ H _ I h) fun ov s1 ⟨x, H1, I1, r1, q1⟩ => ?_))
  refine wpAny_bind (wpAny_holding (thn (hi pins s1 σ H1 _ I1 q1) fun iv s2 ⟨y, H2, I2, r2, q2⟩ => ?_))
  refine wpAny_bind (wpAny_standAt (wpAny_bind (wpAny_holding (thn (hs pins s2 σ H2 x y v ov iv u _ I2 r1 r2 r q2) fun _ s3 ⟨H3, I3, q3⟩ => ?_))))
  exact wpAny_release ⟨σ, H3, I3, q3⟩
/-- target = value -/
def tAsg (te : TE) (g : TG) : TS := fun D σ H => te σ H fun x H1 => g x σ H1 D.nx
theorem ps_asg {tg e : Expr} {te : TE} {g : TG} (he : PE X e te) (hg : PG X tg g) (hs : swapsWithSole [tg] e pos.line X.env = pure false := by rfl) (hw : swappedStores [tg] e X.env = pure none := by rfl)
    (h1 : (assignEach [tg] X.env).map (·.2) = [assign tg X.env] := by rfl) : PS X (.Assign [tg] e pos) (tAsg te g) := by
  intro pins s σ H D I h
  refine wpAny_Assign_stores (thn (he pins s σ H _ I h) fun v s1 ⟨x, H1, I1, r1, q1⟩ => ?_) hs hw
  rw [h1]
  exact thn (hg pins s1 σ H1 x v _ I1 r1 q1) fun _ s2 q => q
/-- name = value -/
theorem ps_set {i : Nat} {x : Str} {e : Expr} {te : TE} {pos' : Pos} (hN : X.N.Nodup) (hi : X.N[i]? = some x) (hx : Loc X.env.scope x) (he : PE X e te) (hs : swapsWith e (some (.Name x pos')) pos.line X.env = pure false := by rfl) (hf : X.fn x = true ∨ X.env.scope.names.lookup x = some .local := by first | exact .inl rfl | exact .inr rfl | assumption) :
    PS X (.Assign [.Name x pos'] e pos) (tAsg te (gName i)) := by
  intro pins s σ H D I h
  refine wpAny_Assign_Name (thn (he pins s σ H _ I h) fun v s1 ⟨y, H1, I1, r1, q1⟩ => ?_) hs
  exact store_ok I1 hN hi hx r1 (fun s2 I2 => ⟨_, H1, I2, q1⟩) hf
/-- a, b = x, y with plain local names: stored from the right; the pair itself is not tracked (the opening rows as in PyProof/Rows/TupAssign.lean:23) -/
def tPar (i j : Nat) (ta : TA) : TS := fun D σ H => ta σ H fun vs H1 => ∃ v w, vs = [v, w] ∧ D.nx ((σ.set i (some v)).set j (some w)) H1
theorem ps_par {i j : Nat} {x y : Str} {a b : Expr} {ta : TA} {px py pt : Pos} {kt k2 pt2} (hc : X.calm = true) (hN : X.N.Nodup) (hi : X.N[i]? = some x) (hj : X.N[j]? = some y) (hij : i ≠ j)
    (hx : X.env.scope.names.lookup x = some .local) (hy : X.env.scope.names.lookup y = some .local) (ha : PA X [a, b] ta)
    (hw : swappedStores [.Tuple [.Name x px, .Name y py] kt pt] (.Tuple [a, b] k2 pt2) X.env = pure (some [x, y]))
    (hs : swapsWithSole [.Tuple [.Name x px, .Name y py] kt pt] (.Tuple [a, b] k2 pt2) pos.line X.env = pure false := by rfl) :
    PS X (.Assign [.Tuple [.Name x px, .Name y py] kt pt] (.Tuple [a, b] k2 pt2) pos) (tPar i j ta) := by
  intro pins s σ H D I h
  rw [exec_Assign_arm]
  refine wpAny_bind (wpAny_standAt ?_)
  rw [hs]
  refine wpAny_bind (wpAny_pure ?_)
  rw [if_neg (by decide)]
  refine wpAny_bind (Tuple_ (thn (ha _ pins s σ H _ I h) fun us s1 ⟨vs, H1, I1, r1, q1⟩ => ?_))
  obtain ⟨v, w, e1, q1⟩ := q1
  subst e1
  obtain ⟨u1, u2, rfl, rv, rw'⟩ : ∃ u1 u2, us = [u1, u2] ∧ RelV v u1 ∧ RelV w u2 := by
    cases r1 with
    | cons p q =>
      cases q with
      | cons p' q' =>
        cases q'
        exact ⟨_, _, rfl, p, p'⟩
  refine wpAny_newObj_type ?_ (by show 2 ≤ sizeLine; decide)
  have I2 : Inv X pins σ H1 { s1 with heap := s1.heap.push { cls := .type "tuple", data := .seq [u1, u2].toArray } } := I1.kept (t' := s1.toks) fun b o e => Heap.get?_push_of_some _ e
  rw [hw]
  refine wpAny_bind (wpAny_pure ?_)
  show wpAny (model X.prog X.w) X.A (do rule "assign.swapped-stores"; let items ← unpackItems (.ref s1.heap.objs.size) 2 none; assignInOrder [fun v => bindName X.env y v, fun v => bindName X.env x v] items.reverse; pure Flow.next) _ _ _
  refine wpAny_bind (wpAny_rule (wpAny_bind (unpackItems_tuple (items := #[u1, u2]) (I.ok.hd hc) (IsTup.new s1.heap _) fun h' hx' => ?_)))
  have I3 := I2.kept (h' := h') (t' := s1.toks) fun b o e => hx' b o (Nat.ne_of_lt (Heap.lt_size e)) e
  show wpAny _ _ (assignInOrder [fun v => bindName X.env y v, fun v => bindName X.env x v] [u2, u1] >>= fun _ => pure Flow.next) _ _ _
  refine wpAny_bind (assignInOrder_cons (wpAny_bindName (store_ok I3 hN hj (.inl hy) rw' (fun s2 I4 => ?_) (.inr hy))))
  refine assignInOrder_cons (wpAny_bindName (store_ok I4 hN hi (.inl hx) rv (fun s3 I5 => assignInOrder_nil (wpAny_pure ?_)) (.inr hx)))
  rw [List.set_comm _ _ (Ne.symm hij)] at I5
  exact ⟨_, H1, I5, q1⟩
/-- name op= e -/
def tAug (i : Nat) (te : TE) (ti : TIp) : TS := fun D σ H => ∃ x, σ[i]? = some (some x) ∧ te σ H fun y H1 => ti x y H1 fun z H2 => D.nx (σ.set i (some z)) H2
theorem ps_aug {i : Nat} {x : Str} {e : Expr} {te : TE} {op : Operator} {ti : TIp} {pos' : Pos} (hN : X.N.Nodup) (hi : X.N[i]? = some x) (hx : Loc X.env.scope x) (he : PE X e te) (ho : PIp X op ti) (hf : X.fn x = true ∨ X.env.scope.names.lookup x = some .local := by first | exact .inl rfl | exact .inr rfl | assumption) :
    PS X (.AugAssign (.Name x pos') op e pos) (tAug i te ti) := by
  intro pins s σ H D I h
  obtain ⟨v, e1, h⟩ := h
  obtain ⟨m, hn, hl⟩ := I.loc
  have vis : Vis X.env.scope x := by rcases hx with k | k; exact .inl k; exact .inr (.inl k)
  obtain ⟨u, r, l⟩ := hl i x v hi e1 vis
  refine wpAny_AugAssign_Name ?_
  have go : wpAny (model X.prog X.w) X.A (eval e X.env) (fun w s₂ => wpAny (model X.prog X.w) X.A (inplaceOp op u w) (fun r s₃ => wpAny (model X.prog X.w) X.A (storeName X.env x r) (fun _ => SP X pins D .next) X.xe s₃) X.xe s₂) X.xe s := by
    refine thn (he pins s σ H _ I h) fun w s1 ⟨y, H1, I1, r1, q1⟩ => ?_
    refine thn (ho pins s1 σ H1 v y u w _ I1 r r1 q1) fun z s2 ⟨zv, H2, I2, r2, q2⟩ => ?_
    exact store_ok I2 hN hi hx r2 (fun s3 I3 => ⟨_, H2, I3, q2⟩) hf
  rcases l with ⟨hk, hm⟩ | ⟨hk, c, hc, hcell⟩
  · exact wpAny_loadName_local I.ok.kind hk hn hm go
  · rcases hk with hk | hk
    · exact wpAny_loadName_cell I.ok.kind hk hc hcell go
    · rcases hx with k | k
      · have : X.env.scope.names.lookup x = some .free := hk
        rw [k] at this; cases this
      · have : X.env.scope.names.lookup x = some .free := hk
        rw [k] at this; cases this
/-- o[i] op= e -/
def tAugS (to ti te : TE) (tget : V → V → Hp → VK → Prop) (tip : TIp) (tset : TSet) : TS := fun D σ H => to σ H fun o H1 => ti σ H1 fun i H2 => tget o i H2 fun x H3 => te σ H3 fun y H4 => tip x y H4 fun z H5 => tset o i z H5 fun H6 => D.nx σ H6
/-- o[i], by values -/
def PGet (X : Cx) (t : V → V → Hp → VK → Prop) : Prop :=
  ∀ (pins : List (Addr × Obj)) (s : Shared) (σ : St) (H : Hp) (o i : V) (ov iv : Value) (Q : VK), Inv X pins σ H s → RelV o ov → RelV i iv → t o i H Q →
    wpAny (model X.prog X.w) X.A (getItem ov iv) (EP X pins σ Q) X.xe s
theorem ps_augS {o i e : Expr} {to ti te : TE} {tget : V → V → Hp → VK → Prop} {tip : TIp} {tset : TSet} {op : Operator} {tpos : Pos} (ho : PE X o to) (hi : PE X i ti) (hg : PGet X tget) (he : PE X e te) (hp : PIp X op tip) (hs : PSet X tset)
    (ha : ∀ ov iv new, augStore i ov iv new = (do holding [new, ov, iv] (setItem ov iv new); release [new, ov, iv] []; pure .next) := by intros; rfl) : PS X (.AugAssign (.Subscript o i tpos) op e pos) (tAugS to ti te tget tip tset) := by
  intro pins s σ H D I h
  refine wpAny_AugAssign_SubscriptAny (thn (ho pins s σ H _ I h) fun ov s1 ⟨x1, H1, I1, r1, q1⟩ => ?_) ha
  refine thn (hi pins s1 σ H1 _ I1 q1) fun iv s2 ⟨x2, H2, I2, r2, q2⟩ => ?_
  refine thn (hg pins s2 σ H2 x1 x2 ov iv _ I2 r1 r2 q2) fun old s3 ⟨x3, H3, I3, r3, q3⟩ => ?_
  refine thn (he pins s3 σ H3 _ I3 q3) fun v s4 ⟨x4, H4, I4, r4, q4⟩ => ?_
  refine thn (hp pins s4 σ H4 x3 x4 old v _ I4 r3 r4 q4) fun new s5 ⟨x5, H5, I5, r5, q5⟩ => ?_
  exact thn (hs pins s5 σ H5 x1 x2 x5 ov iv new _ I5 r1 r2 r5 q5) fun _ s6 ⟨H6, I6, q6⟩ => ⟨σ, H6, I6, q6⟩
/-- ints -/
def ipI (f : Int → Int → Int) : TIp := fun x y H Q => ∃ i j, x = .int i ∧ y = .int j ∧ Q (.int (f i j)) H
theorem ip_add : PIp X .Add (ipI fun i j => i + j) := by
  intro pins s σ H x y v u Q I r1 r2 h
  obtain ⟨i, j, e1, e2, q⟩ := h
  subst e1; subst e2
  obtain ⟨t, rfl⟩ := r1
  obtain ⟨t', rfl⟩ := r2
  exact iadd_int ⟨.int _, H, I.tok _, ⟨_, rfl⟩, q⟩
theorem ip_sub : PIp X .Sub (ipI fun i j => i - j) := by
  intro pins s σ H x y v u Q I r1 r2 h
  obtain ⟨i, j, e1, e2, q⟩ := h
  subst e1; subst e2
  obtain ⟨t, rfl⟩ := r1
  obtain ⟨t', rfl⟩ := r2
  exact isub_int ⟨.int _, H, I.tok _, ⟨_, rfl⟩, q⟩
end

/-! ### while -/
section
variable {X : Cx} {pos : Pos}
/-- the invariant W with its measure -/
def tWhile (c : TT) (tb : TS) : TS := fun D σ H => ∃ W : Nat → St → Hp → Prop, (∃ m, W m σ H) ∧ ∀ m σ H, W m σ H →
  c σ H fun b H1 => if b = true then ∃ N : St → Hp → Prop, (∀ σ' H', N σ' H' → ∃ m', m' < m ∧ W m' σ' H') ∧ tb { D with nx := N, ct := N, bk := D.nx } σ H1 else D.nx σ H1
theorem ps_while {c : Expr} {body : List Stmt} {tc : TT} {tb : TS} (hp : PassesOwn (model X.prog X.w) X.A X.env X.xe) (hc : PT X c tc) (hb : PSs X body tb) : PS X (.While c body [] pos) (tWhile tc tb) := by
  intro pins s σ H D I h
  obtain ⟨W, ⟨m0, w0⟩, turn⟩ := h
  refine wpAny_While (codeAny_whileLoop (fun n s' => ∃ σ' H', Inv X pins σ' H' s' ∧ W n σ' H') ?_ m0 ⟨σ, H, I, w0⟩)
  rintro n s1 ⟨σ1, H1, I1, w1⟩
  refine wpAny_passesOwn hp (thn (hc pins s1 σ1 H1 _ I1 (turn n σ1 H1 w1)) fun b s2 ⟨H2, I2, q2⟩ => ?_)
  cases b with
  | true =>
    obtain ⟨N, hN, q2⟩ := q2
    rw [if_pos rfl]
    refine wpAny_passesOwn hp (thn (hb pins s2 σ1 H2 _ I2 q2) fun f s3 q3 => ?_)
    cases f with
    | next =>
      obtain ⟨σ3, H3, I3, n3⟩ := q3
      obtain ⟨m', hm, w3⟩ := hN σ3 H3 n3
      exact ⟨m', hm, σ3, H3, I3, w3⟩
    | cont =>
      obtain ⟨σ3, H3, I3, n3⟩ := q3
      obtain ⟨m', hm, w3⟩ := hN σ3 H3 n3
      exact ⟨m', hm, σ3, H3, I3, w3⟩
    | brk => exact q3
    | ret v => exact q3
  | false =>
    rw [if_neg Bool.false_ne_true]
    exact wpAny_execs_nil ⟨σ1, H2, I2, q2⟩
end

/-! ### what a loop or a comprehension walks -/
/-- at turn i: it yields x (the heap may grow), or it stops -/
structure It where
  go : Nat → Hp → Prop
  yld : Nat → Hp → V → Hp → Prop
  stop : Nat → Hp → Prop
/-- the iterator's own objects may turn: they are not the frame's, not pinned, younger than the entry (or a comprehension's own) -/
def FpOk (X : Cx) (pins : List (Addr × Obj)) (H : Hp) (b : Addr) : Prop :=
  H b = none ∧ b ≠ X.env.locals ∧ b ∉ X.fs ∧ (b ∈ X.ex ∨ X.s₀.heap.objs.size ≤ b) ∧ (∀ x c, X.env.cells.lookup x = some c → c ≠ b) ∧ ∀ p ∈ X.pn ++ pins, p.1 ≠ b
theorem Inv.fpOk {X : Cx} {pins : List (Addr × Obj)} {σ : St} {H H' : Hp} {s : Shared} {b : Addr} (I : Inv X pins σ H s) (hb : s.heap.objs.size ≤ b) (hn : H' b = none) : FpOk X pins H' b := by
  refine ⟨hn, Nat.ne_of_gt (Nat.lt_of_lt_of_le I.lt hb), I.nofs hb, .inr (Nat.le_trans I.sz hb), fun x c e z => ?_, fun p hp z => ?_⟩
  · obtain ⟨v, q⟩ := I.cell x c e
    exact absurd (Nat.lt_of_lt_of_le q.lt (by rw [z]; exact hb)) (Nat.lt_irrefl _)
  · exact absurd (Nat.lt_of_lt_of_le (Heap.lt_size (I.pin p hp).1) (by rw [z]; exact hb)) (Nat.lt_irrefl _)
structure Turn (P : Program) (w : World) (K : PySem.W.Frag) (tg : Expr) (J : It) (fp : List Addr) (it : Addr) (tn : Nat → Heap → Prop) : Prop where
  mem : it ∈ fp
  obj : ∀ i h, tn i h → ∀ b ∈ fp, ∃ o, h.get? b = some o ∧ ∀ v, o.data ≠ .cell v
  keep : ∀ i h h', tn i h → (∀ b ∈ fp, ∀ o, h.get? b = some o → h'.get? b = some o) → tn i h'
  item : ∀ (X : Cx), X.prog = P → X.w = w → X.K = K → X.calm = true → ∀ (i : Nat) (pins : List (Addr × Obj)) (s : Shared) (σ : St) (H : Hp) (E : Value → Shared → Prop), Inv X pins σ H s → (∀ b ∈ fp, FpOk X pins H b) → tn i s.heap → J.go i H →
    wpAny (model P w) X.A (pyNext (.ref it)) (fun r s1 => ∃ u, r = some u ∧
      wpAny (model P w) X.A (letOwnedTupleGo tg (.ref it) u) (fun _ s2 => ∃ x H', Inv X pins σ H' s2 ∧ RelV x u ∧ J.yld i H x H' ∧ tn (i + 1) s2.heap ∧ ∀ b ∈ fp, H' b = none) E s1) E s
  done : ∀ (X : Cx), X.prog = P → X.w = w → X.K = K → X.calm = true → ∀ (i : Nat) (pins : List (Addr × Obj)) (s : Shared) (σ : St) (H : Hp) (E : Value → Shared → Prop), Inv X pins σ H s → (∀ b ∈ fp, FpOk X pins H b) → tn i s.heap → J.stop i H →
    wpAny (model P w) X.A (pyNext (.ref it)) (fun r s1 => r = none ∧ Inv X pins σ H s1) E s
  self : ∀ (A : Around) (i : Nat) (s : Shared) (Q : Value → Shared → Prop) (E : Value → Shared → Prop), tn i s.heap → Q (.ref it) s → wpAny (model P w) A (pyIter (.ref it)) Q E s
abbrev TI := St → Hp → (It → Hp → Prop) → Prop
/-- an iterator has come -/
def PIE (X : Cx) (pins : List (Addr × Obj)) (σ : St) (tg : Expr) (R : It → Hp → Prop) (itv : Value) (s2 : Shared) : Prop :=
  ∃ (it : Addr) (fp : List Addr) (tn : Nat → Heap → Prop) (J : It) (H' : Hp), itv = .ref it ∧ Inv X pins σ H' s2 ∧ Turn X.prog X.w X.K tg J fp it tn ∧ tn 0 s2.heap ∧ (∀ b ∈ fp, FpOk X pins H' b) ∧ R J H'
def PI (X : Cx) (tg iter : Expr) (wi : TI) : Prop :=
  ∀ (pins : List (Addr × Obj)) (s : Shared) (σ : St) (H : Hp) (R : It → Hp → Prop), Inv X pins σ H s → wi σ H R →
    wpAny (model X.prog X.w) X.A (eval iter X.env) (fun v s1 => wpAny (model X.prog X.w) X.A (pyIter v) (PIE X pins σ tg R) X.xe s1) X.xe s

/-- the step ahead of the store is nothing for an iterator that keeps no tuple -/
theorem go_of {M : Model} {A : Around} {E : Value → Shared → Prop} {s : Shared} {tg : Expr} {it : Addr} {u : Value} {o : Obj} {n : String} {vs : Array Value} {Q : Unit → Shared → Prop} (ho : s.heap.get? it = some o) (hc : o.cls = .type n) (hd : o.data = .fields vs)
    (hn : ["enumerate", "zip", "dict_itemiterator", "dict_reverseitemiterator", "odict_iterator", "itertools.zip_longest", "itertools.pairwise"].contains n = false) (hQ : Q () s) : wpAny M A (letOwnedTupleGo tg (.ref it) u) Q E s := by
  unfold letOwnedTupleGo
  cases tg <;> first
    | exact wpAny_pure hQ
    | (cases u <;> first
        | exact wpAny_pure hQ
        | (refine wpAny_bind (wpAny_load ho ?_)
           rw [hc, hd]
           show wpAny M A (if (["enumerate", "zip", "dict_itemiterator", "dict_reverseitemiterator", "odict_iterator", "itertools.zip_longest", "itertools.pairwise"].contains n && vs[0]? == some (rawInt _)) = true then _ else _) Q E s
           rw [if_neg (by intro h; rw [hn, Bool.false_and] at h; cases h)]
           exact wpAny_pure hQ))

/-- the list at a, as it stands at each turn (a loop may append to it) -/
def Itl (K : PySem.W.Frag) (a : Addr) : It :=
  ⟨fun i H => ∃ xs x, SqL K H a xs ∧ xs[i]? = some x, fun i H x H' => H' = H ∧ ∀ xs, SqL K H a xs → xs[i]? = some x, fun i H => ∃ xs, SqL K H a xs ∧ xs.length ≤ i⟩
def Itt (K : PySem.W.Frag) (a : Addr) : It :=
  ⟨fun i H => ∃ xs x, SqT K H a xs ∧ xs[i]? = some x, fun i H x H' => H' = H ∧ ∀ xs, SqT K H a xs → xs[i]? = some x, fun i H => ∃ xs, SqT K H a xs ∧ xs.length ≤ i⟩
/-- lo, lo + 1, .. (n of them) -/
def Itr (lo : Int) (n : Nat) : It := ⟨fun i _ => i < n, fun i H x H' => H' = H ∧ x = .int (lo + i), fun i _ => n ≤ i⟩
theorem turn_list {P : Program} {w : World} {K : PySem.W.Frag} {tg : Expr} (a it : Addr) : Turn P w K tg (Itl K a) [it] it (fun i h => h.IsListIter it a i) where
  mem := by simp
  obj := fun i h st b hb => by
    have e : b = it := by simpa using hb
    subst e
    obtain ⟨o, e, c, d⟩ := st
    exact ⟨o, e, fun v z => by rw [d] at z; cases z⟩
  keep := fun i h h' st k => st.at fun o e => k it (by simp) o e
  item := by
    intro X hP hw hK hc i pins s σ H E I hf st hg
    subst hP hw hK
    obtain ⟨xs, x, hq, hx⟩ := hg
    obtain ⟨its, rv, p, hz⟩ := I.list hq
    obtain ⟨u, hu, ru⟩ := rv.get hx
    obtain ⟨f0, f1, f2, f3, f4, f5⟩ := hf it (by simp)
    refine wpAny_pyNext_list_item st p.isList (x := u) (by simpa using hu) fun h' st' sb => ?_
    have I1 : Inv X pins σ H { s with heap := h' } := I.turned (t' := s.toks) (fun b o hb e => (sb.2 b hb).trans e) f0 f1 f3 f4 f5
    obtain ⟨o, e, c, d⟩ := id st'
    exact ⟨u, rfl, go_of (s := { s with heap := h' }) e c d (by decide) ⟨x, H, I1, ru, ⟨rfl, fun ys hy => by rw [I.list_inj hy hq]; exact hx⟩, st', fun b hb => (hf b hb).1⟩⟩
  done := by
    intro X hP hw hK hc i pins s σ H E I hf st hg
    subst hP hw hK
    obtain ⟨xs, hq, hx⟩ := hg
    obtain ⟨its, rv, p, hz⟩ := I.list hq
    obtain ⟨f0, f1, f2, f3, f4, f5⟩ := hf it (by simp)
    have hl := rv.length
    exact wpAny_pyNext_list_end (I.ok.hd hc) st p.isList (by simp; omega) fun h' eb => ⟨rfl, I.turned (t' := s.toks) (fun b o hb e => eb b o hb e) f0 f1 f3 f4 f5⟩
  self := fun _ _ _ _ _ st h => wpAny_pyIter_listiter st h
theorem turn_tuple {P : Program} {w : World} {K : PySem.W.Frag} {tg : Expr} (a it : Addr) : Turn P w K tg (Itt K a) [it] it (fun i h => h.IsTupleIter it a i) where
  mem := by simp
  obj := fun i h st b hb => by
    have e : b = it := by simpa using hb
    subst e
    obtain ⟨o, e, c, d⟩ := st
    exact ⟨o, e, fun v z => by rw [d] at z; cases z⟩
  keep := fun i h h' st k => st.at fun o e => k it (by simp) o e
  item := by
    intro X hP hw hK hc i pins s σ H E I hf st hg
    subst hP hw hK
    obtain ⟨xs, x, hq, hx⟩ := hg
    obtain ⟨its, rv, p, hz⟩ := I.tuple hq
    obtain ⟨u, hu, ru⟩ := rv.get hx
    obtain ⟨f0, f1, f2, f3, f4, f5⟩ := hf it (by simp)
    refine wpAny_pyNext_tuple_item st (show s.heap.IsTuple a its.toArray from p) (x := u) (by simpa using hu) fun h' st' sb => ?_
    have I1 : Inv X pins σ H { s with heap := h' } := I.turned (t' := s.toks) (fun b o hb e => (sb.2 b hb).trans e) f0 f1 f3 f4 f5
    obtain ⟨o, e, c, d⟩ := id st'
    exact ⟨u, rfl, go_of (s := { s with heap := h' }) e c d (by decide) ⟨x, H, I1, ru, ⟨rfl, fun ys hy => by rw [I.tuple_inj hy hq]; exact hx⟩, st', fun b hb => (hf b hb).1⟩⟩
  done := by
    intro X hP hw hK hc i pins s σ H E I hf st hg
    subst hP hw hK
    obtain ⟨xs, hq, hx⟩ := hg
    obtain ⟨its, rv, p, hz⟩ := I.tuple hq
    obtain ⟨f0, f1, f2, f3, f4, f5⟩ := hf it (by simp)
    have hl := rv.length
    exact wpAny_pyNext_tuple_end (I.ok.hd hc) st (show s.heap.IsTuple a its.toArray from p) (by simp; omega) fun h' eb => ⟨rfl, I.turned (t' := s.toks) (fun b o hb e => eb b o hb e) f0 f1 f3 f4 f5⟩
  self := fun _ _ _ _ _ st h => wpAny_pyIter_tupleiter st h
theorem turn_range {P : Program} {w : World} {K : PySem.W.Frag} {tg : Expr} (it : Addr) (lo : Int) (n : Nat) : Turn P w K tg (Itr lo n) [it] it (fun i h => IsRangeIter h it (lo + (i : Nat) * 1) ((n : Int) - (i : Nat)) 1) where
  mem := by simp
  obj := fun i h st b hb => by
    have e : b = it := by simpa using hb
    subst e
    exact ⟨_, st, fun v z => by
      have z' : Data.fields _ = Data.cell v := z
      cases z'⟩
  keep := fun i h h' st k => k it (by simp) _ st
  item := by
    intro X hP hw hK hc i pins s σ H E I hf st hg
    subst hP hw hK
    obtain ⟨f0, f1, f2, f3, f4, f5⟩ := hf it (by simp)
    have W := Walks.range (prog := X.prog) (w := X.w) (I.ok.hd hc) it lo 1 n
    refine W.item i s _ _ hg st fun v h' tk hv st' kk => ?_
    obtain ⟨t, rfl⟩ := hv
    have I1 : Inv X pins σ H { s with heap := h', toks := tk } := I.turned (fun b o hb e => kk b o (by simpa using hb) e) f0 f1 f3 f4 f5
    refine ⟨_, rfl, go_of (s := { s with heap := h', toks := tk }) (n := "range_iterator") st' rfl rfl (by decide) ⟨.int (lo + i), H, I1, ⟨t, ?_⟩, ⟨rfl, rfl⟩, st', fun b hb => (hf b hb).1⟩⟩
    rw [Int.mul_one]
  done := by
    intro X hP hw hK hc i pins s σ H E I hf st hg
    subst hP hw hK
    obtain ⟨f0, f1, f2, f3, f4, f5⟩ := hf it (by simp)
    exact wpAny_pyNext_range_end (I.ok.hd hc) st (by have : n ≤ i := hg; omega) fun h' eb => ⟨rfl, I.turned (t' := s.toks) (fun b o hb e => eb b o hb e) f0 f1 f3 f4 f5⟩
  self := fun _ _ _ _ _ st h => wpAny_pyIter_rangeiter st h
end L2

namespace L2
open PySem PySem.Spec PyProof.Rows
section
variable {X : Cx} {tg : Expr}
def iList (K : PySem.W.Frag) (tl : TE) : TI := fun σ H R => tl σ H fun x H1 => ∃ a, x = .ref a ∧ (∃ xs, SqL K H1 a xs) ∧ R (Itl K a) H1
def iTup (K : PySem.W.Frag) (tl : TE) : TI := fun σ H R => tl σ H fun x H1 => ∃ a, x = .ref a ∧ (∃ xs, SqT K H1 a xs) ∧ R (Itt K a) H1
theorem pi_list {l : Expr} {tl : TE} (hl : PE X l tl) : PI X tg l (iList X.K tl) := by
  intro pins s σ H R I h
  refine thn (hl pins s σ H _ I h) fun v s1 ⟨x, H1, I1, r1, q1⟩ => ?_
  obtain ⟨a, e, ⟨xs, hq⟩, q⟩ := q1
  subst e
  cases r1
  obtain ⟨its, rv, p, hz⟩ := I1.list hq
  refine wpAny_pyIter_list p.isList ?_
  refine ⟨s1.heap.objs.size, [s1.heap.objs.size], _, _, H1, rfl, I1.kept (t' := s1.toks) fun b o e => Heap.get?_push_of_some _ e, turn_list a _, ⟨_, Heap.get?_push_size _ rfl, rfl, rfl⟩, fun b hb => ?_, q⟩
  have e : b = s1.heap.objs.size := by simpa using hb
  subst e
  exact I1.fpOk (Nat.le_refl _) (I1.hok.fresh (Nat.le_refl _))
theorem pi_tup {l : Expr} {tl : TE} (hl : PE X l tl) : PI X tg l (iTup X.K tl) := by
  intro pins s σ H R I h
  refine thn (hl pins s σ H _ I h) fun v s1 ⟨x, H1, I1, r1, q1⟩ => ?_
  obtain ⟨a, e, ⟨xs, hq⟩, q⟩ := q1
  subst e
  cases r1
  obtain ⟨its, rv, p, hz⟩ := I1.tuple hq
  refine wpAny_pyIter_tuple (show s1.heap.IsTuple a its.toArray from p) ?_
  refine ⟨s1.heap.objs.size, [s1.heap.objs.size], _, _, H1, rfl, I1.kept (t' := s1.toks) fun b o e => Heap.get?_push_of_some _ e, turn_tuple a _, ⟨_, Heap.get?_push_size _ rfl, rfl, rfl⟩, fun b hb => ?_, q⟩
  have e : b = s1.heap.objs.size := by simpa using hb
  subst e
  exact I1.fpOk (Nat.le_refl _) (I1.hok.fresh (Nat.le_refl _))
/-- a range object just made, walked -/
theorem range_it {pins : List (Addr × Obj)} {σ : St} {H : Hp} {s : Shared} {R : It → Hp → Prop} {E : Value → Shared → Prop} {lo hi : Int} {t u v : Tok} {tk : Nat} (I : Inv X pins σ H s) (h1 : -(2 ^ 62) ≤ lo) (h2 : lo < 2 ^ 62) (h3 : -(2 ^ 62) ≤ hi) (h4 : hi < 2 ^ 62)
    (q : R (Itr lo (hi - lo).toNat) H) : wpAny (model X.prog X.w) X.A (pyIter (.ref s.heap.objs.size)) (PIE X pins σ tg R) E { s with heap := s.heap.push { cls := .type "range", data := .fields #[.int lo t, .int hi u, .int 1 v] }, toks := tk } := by
  refine wpAny_pyIter_range (IsRange.new ..) (small_one h1 h2 h3 h4) ?_
  have I1 : Inv X pins σ H { s with heap := s.heap.push { cls := .type "range", data := .fields #[.int lo t, .int hi u, .int 1 v] }, toks := tk } := I.kept fun b o e => Heap.get?_push_of_some _ e
  refine ⟨(s.heap.push { cls := .type "range", data := .fields #[.int lo t, .int hi u, .int 1 v] }).objs.size, [(s.heap.push { cls := .type "range", data := .fields #[.int lo t, .int hi u, .int 1 v] }).objs.size], _, _, H, rfl,
    I1.kept (t' := tk) fun b o e => Heap.get?_push_of_some _ e, turn_range _ lo (hi - lo).toNat, ?_, fun b hb => ?_, q⟩
  · have e1 : lo + ((0 : Nat) : Int) * 1 = lo := by simp
    have e2 : (((hi - lo).toNat : Nat) : Int) - ((0 : Nat) : Int) = Builtin.Range.rangeSize lo hi 1 := by rw [rangeSize_one]; split <;> omega
    show IsRangeIter _ _ (lo + ((0 : Nat) : Int) * 1) ((((hi - lo).toNat : Nat) : Int) - ((0 : Nat) : Int)) 1
    rw [e1, e2]
    exact Heap.get?_push_size _ rfl
  · have e : b = (s.heap.push { cls := .type "range", data := .fields #[.int lo t, .int hi u, .int 1 v] }).objs.size := by simpa using hb
    subst e
    exact I1.fpOk (Nat.le_refl _) (I1.hok.fresh (Nat.le_refl _))
def iRng1 (ta : TA) : TI := fun σ H R => ta σ H fun vs H1 => ∃ j : Int, vs = [.int j] ∧ -(2 ^ 62) ≤ j ∧ j < 2 ^ 62 ∧ R (Itr 0 j.toNat) H1
def iRng2 (ta : TA) : TI := fun σ H R => ta σ H fun vs H1 => ∃ i j : Int, vs = [.int i, .int j] ∧ (-(2 ^ 62) ≤ i ∧ i < 2 ^ 62 ∧ -(2 ^ 62) ≤ j ∧ j < 2 ^ 62) ∧ R (Itr i (j - i).toNat) H1
theorem pi_range1 {a : Expr} {ta : TA} {p pos : Pos} (hg : Gl X "range") (hm : X.mg "range" = none) (ha : PA X [a] ta) (hs : starEach [a] X.env = [(false, eval a X.env)] := by rfl) : PI X tg (.Call (.Name "range" p) [a] [] pos) (iRng1 ta) := by
  intro pins s σ H R I h
  refine Call_ (ld_blt I hg hm boot_range (PyProof.Rows.callWith_type1 (thn (ha pos pins s σ H _ I h) fun us s1 ⟨vs, H1, I1, r1, q1⟩ => ?_) hs rfl))
  obtain ⟨j, e, q1, q2, q⟩ := q1
  subst e
  cases r1 with
  | cons r rr =>
    cases rr
    obtain ⟨t, rfl⟩ := r
    exact call_range_1 (range_it I1 (by omega) (by omega) q1 q2 (by simpa using q))
theorem pi_range2 {a b : Expr} {ta : TA} {p pos : Pos} (hg : Gl X "range") (hm : X.mg "range" = none) (ha : PA X [a, b] ta) (hs : starEach [a, b] X.env = [(false, eval a X.env), (false, eval b X.env)] := by rfl) (hs2 : starEach [b] X.env = [(false, eval b X.env)] := by rfl) :
    PI X tg (.Call (.Name "range" p) [a, b] [] pos) (iRng2 ta) := by
  intro pins s σ H R I h
  refine Call_ (ld_blt I hg hm boot_range (PyProof.Rows.callWith_type1 (thn (ha pos pins s σ H _ I h) fun us s1 ⟨vs, H1, I1, r1, q1⟩ => ?_) (by rw [hs, hs2]) (by rw [hs2]; rfl)))
  obtain ⟨i, j, e, ⟨q1, q2, q3, q4⟩, q⟩ := q1
  subst e
  cases r1 with
  | cons r rr =>
    cases rr with
    | cons r' rr =>
      cases rr
      obtain ⟨t, rfl⟩ := r
      obtain ⟨t', rfl⟩ := r'
      exact call_range_2 (range_it I1 q1 q2 q3 q4 q)

/-! ### for -/
/-- W: the invariant by the turn and a measure; N: what the body is to reach -/
def tFor (wi : TI) (g : TG) (tb : TS) : TS := fun D σ H => wi σ H fun J H1 => ∃ W : Nat → Nat → St → Hp → Prop, (∃ m, W 0 m σ H1) ∧ ∀ i m σ H, W i m σ H →
  (J.stop i H ∧ D.nx σ H) ∨ (J.go i H ∧ ∃ N : St → Hp → Prop, (∀ σ' H', N σ' H' → ∃ m', m' < m ∧ W (i + 1) m' σ' H') ∧ ∀ x H', J.yld i H x H' → g x σ H' fun σ2 H2 => tb { D with nx := N, ct := N, bk := D.nx } σ2 H2)
/-- the records at fp as they stand -/
def pinsAt (fp : List Addr) (h : Heap) : List (Addr × Obj) := fp.filterMap fun b => (h.get? b).map fun o => (b, o)
theorem mem_pinsAt {fp : List Addr} {h : Heap} {b : Addr} {o : Obj} (hb : b ∈ fp) (e : h.get? b = some o) : (b, o) ∈ pinsAt fp h := List.mem_filterMap.mpr ⟨b, hb, by rw [e]; rfl⟩
theorem of_pinsAt {fp : List Addr} {h : Heap} {p : Addr × Obj} (hp : p ∈ pinsAt fp h) : p.1 ∈ fp ∧ h.get? p.1 = some p.2 := by
  obtain ⟨b, hb, e⟩ := List.mem_filterMap.mp hp
  cases q : h.get? b with
  | none => rw [q] at e; cases e
  | some o =>
    rw [q] at e
    have e' : (b, o) = p := Option.some.inj e
    subst e'
    exact ⟨hb, q⟩
theorem Inv.pinned {pins : List (Addr × Obj)} {σ : St} {H : Hp} {s : Shared} {fp : List Addr} (I : Inv X pins σ H s) (hf : ∀ b ∈ fp, FpOk X pins H b) (ho : ∀ b ∈ fp, ∃ o, s.heap.get? b = some o ∧ ∀ v, o.data ≠ .cell v) : Inv X (pins ++ pinsAt fp s.heap) σ H s :=
  I.pins_of fun p hp => (List.mem_append.mp hp).elim (fun z => I.pin p (List.mem_append_right _ z)) fun z => by
    obtain ⟨hb, e⟩ := of_pinsAt z
    obtain ⟨f0, f1, f2, _⟩ := hf p.1 hb
    obtain ⟨o, e', d⟩ := ho p.1 hb
    rw [e] at e'; cases e'
    exact ⟨e, f0, f1, f2, d⟩
theorem Inv.unpinned {pins pl : List (Addr × Obj)} {σ : St} {H : Hp} {s : Shared} (I : Inv X (pins ++ pl) σ H s) : Inv X pins σ H s := I.pins_of fun p hp => I.pin p (List.mem_append_right _ (List.mem_append_left _ hp))
theorem ps_for {iter : Expr} {body : List Stmt} {wi : TI} {g : TG} {tb : TS} {pos : Pos} (hp : PassesOwn (model X.prog X.w) X.A X.env X.xe) (hc : X.calm = true) (hi : PI X tg iter wi) (hg : PG X tg g) (hb : PSs X body tb)
    (hs : ∀ x, foldedSetIterable iter X.env x = pure x := by intro _; rfl) : PS X (.For tg iter body [] pos) (tFor wi g tb) := by
  intro pins s σ H D I h
  refine wpAny_For (thn (hi pins s σ H _ I h) fun v s1 h1 => thn h1 fun itv s2 h2 => ?_) hs
  obtain ⟨it, fp, tn, J, H2, e, I2, T, st2, f2, W, ⟨m0, w0⟩, turn⟩ := h2
  subst e
  -- what stays true of the iterator's objects through the loop
  have stat : ∀ {H' : Hp}, (∀ b ∈ fp, H' b = none) → ∀ b ∈ fp, FpOk X pins H' b := fun hn b hb => ⟨hn b hb, (f2 b hb).2⟩
  refine codeAny_forLoop_any (fun n s' => ∃ i σ' H', Inv X pins σ' H' s' ∧ tn i s'.heap ∧ (∀ b ∈ fp, H' b = none) ∧ W i n σ' H') ?_ m0 ⟨0, σ, H2, I2, st2, fun b hb => (f2 b hb).1, w0⟩
  rintro n s3 ⟨i, σ3, H3, I3, st3, fr3, w3⟩
  rcases turn i n σ3 H3 w3 with ⟨stop, qn⟩ | ⟨go, N, hN, step⟩
  · refine wpAny_passesOwn hp (thn (T.done X rfl rfl rfl hc i pins s3 σ3 H3 X.xe I3 (stat fr3) st3 stop) fun r s4 ⟨hr, I4⟩ => ?_)
    subst hr
    exact wpAny_execs_nil ⟨σ3, H3, I4, qn⟩
  · refine wpAny_passesOwn hp (thn (T.item X rfl rfl rfl hc i pins s3 σ3 H3 X.xe I3 (stat fr3) st3 go) fun r s4 ⟨u, hr, h4⟩ => ?_)
    subst hr
    refine wpAny_passesOwn hp (thn h4 fun _ s5 ⟨x, H5, I5, r5, y5, st5, fr5⟩ => ?_)
    have I5' := I5.pinned (stat fr5) (T.obj _ _ st5)
    refine wpAny_passesOwn hp (thn (hg _ s5 σ3 H5 x u _ I5' r5 (step x H5 y5)) fun _ s6 ⟨σ6, H6, I6, q6⟩ => ?_)
    refine wpAny_passesOwn hp (thn (hb _ s6 σ6 H6 _ I6 q6) fun f s7 q7 => ?_)
    have again : ∀ {σ7 : St} {H7 : Hp}, Inv X (pins ++ pinsAt fp s5.heap) σ7 H7 s7 → N σ7 H7 → ∃ m, m < n ∧ ∃ i σ' H', Inv X pins σ' H' s7 ∧ tn i s7.heap ∧ (∀ b ∈ fp, H' b = none) ∧ W i m σ' H' := fun {σ7 H7} I7 n7 => by
      obtain ⟨m', hm, w7⟩ := hN σ7 H7 n7
      refine ⟨m', hm, i + 1, σ7, H7, I7.unpinned, T.keep _ _ _ st5 fun b hb o e => (I7.pin (b, o) (List.mem_append_right _ (List.mem_append_right _ (mem_pinsAt hb e)))).1, fun b hb => ?_, w7⟩
      obtain ⟨o, e, d⟩ := T.obj _ _ st5 b hb
      exact (I7.pin (b, o) (List.mem_append_right _ (List.mem_append_right _ (mem_pinsAt hb e)))).2.1
    cases f with
    | next => obtain ⟨σ7, H7, I7, n7⟩ := q7; exact again I7 n7
    | cont => obtain ⟨σ7, H7, I7, n7⟩ := q7; exact again I7 n7
    | brk => obtain ⟨σ7, H7, I7, q7⟩ := q7; exact ⟨σ7, H7, I7.unpinned, q7⟩
    | ret v => obtain ⟨x7, σ7, H7, I7, r7, q7⟩ := q7; exact ⟨x7, σ7, H7, I7.unpinned, r7, q7⟩
end

/-! ### the forms one uses -/
/-- over a list that the body leaves as it is -/
theorem for_list {K : PySem.W.Frag} {a : Addr} {xs : List V} {g : TG} {tb : TS} {D : Ends} {σ : St} {H : Hp} (Pv : Nat → St → Hp → Prop) (h0 : Pv 0 σ H) (hl : ∀ i σ H, i ≤ xs.length → Pv i σ H → SqL K H a xs)
    (hs : ∀ i x σ H, xs[i]? = some x → Pv i σ H → g x σ H fun σ2 H2 => tb { D with nx := Pv (i + 1), ct := Pv (i + 1), bk := D.nx } σ2 H2) (hd : ∀ σ H, Pv xs.length σ H → D.nx σ H) :
    ∃ W : Nat → Nat → St → Hp → Prop, (∃ m, W 0 m σ H) ∧ ∀ i m σ H, W i m σ H →
      ((Itl K a).stop i H ∧ D.nx σ H) ∨ ((Itl K a).go i H ∧ ∃ N : St → Hp → Prop, (∀ σ' H', N σ' H' → ∃ m', m' < m ∧ W (i + 1) m' σ' H') ∧ ∀ x H', (Itl K a).yld i H x H' → g x σ H' fun σ2 H2 => tb { D with nx := N, ct := N, bk := D.nx } σ2 H2) := by
  refine ⟨fun i m σ H => m = xs.length - i ∧ i ≤ xs.length ∧ Pv i σ H, ⟨xs.length, by simp, Nat.zero_le _, h0⟩, ?_⟩
  rintro i m σ H ⟨rfl, hi, p⟩
  have q := hl i σ H hi p
  by_cases hlt : i < xs.length
  · refine .inr ⟨⟨xs, xs[i], q, by simp [hlt]⟩, Pv (i + 1), fun σ' H' p' => ⟨xs.length - (i + 1), by omega, rfl, hlt, p'⟩, fun x H' y => ?_⟩
    obtain ⟨e, y⟩ := y
    subst e
    exact hs i x σ _ (y xs q) p
  · have e : i = xs.length := by omega
    subst e
    exact .inl ⟨⟨xs, q, Nat.le_refl _⟩, hd σ H p⟩
theorem for_tup {K : PySem.W.Frag} {a : Addr} {xs : List V} {g : TG} {tb : TS} {D : Ends} {σ : St} {H : Hp} (Pv : Nat → St → Hp → Prop) (h0 : Pv 0 σ H) (hl : ∀ i σ H, i ≤ xs.length → Pv i σ H → SqT K H a xs)
    (hs : ∀ i x σ H, xs[i]? = some x → Pv i σ H → g x σ H fun σ2 H2 => tb { D with nx := Pv (i + 1), ct := Pv (i + 1), bk := D.nx } σ2 H2) (hd : ∀ σ H, Pv xs.length σ H → D.nx σ H) :
    ∃ W : Nat → Nat → St → Hp → Prop, (∃ m, W 0 m σ H) ∧ ∀ i m σ H, W i m σ H →
      ((Itt K a).stop i H ∧ D.nx σ H) ∨ ((Itt K a).go i H ∧ ∃ N : St → Hp → Prop, (∀ σ' H', N σ' H' → ∃ m', m' < m ∧ W (i + 1) m' σ' H') ∧ ∀ x H', (Itt K a).yld i H x H' → g x σ H' fun σ2 H2 => tb { D with nx := N, ct := N, bk := D.nx } σ2 H2) := by
  refine ⟨fun i m σ H => m = xs.length - i ∧ i ≤ xs.length ∧ Pv i σ H, ⟨xs.length, by simp, Nat.zero_le _, h0⟩, ?_⟩
  rintro i m σ H ⟨rfl, hi, p⟩
  have q := hl i σ H hi p
  by_cases hlt : i < xs.length
  · refine .inr ⟨⟨xs, xs[i], q, by simp [hlt]⟩, Pv (i + 1), fun σ' H' p' => ⟨xs.length - (i + 1), by omega, rfl, hlt, p'⟩, fun x H' y => ?_⟩
    obtain ⟨e, y⟩ := y
    subst e
    exact hs i x σ _ (y xs q) p
  · have e : i = xs.length := by omega
    subst e
    exact .inl ⟨⟨xs, q, Nat.le_refl _⟩, hd σ H p⟩
theorem for_range {lo : Int} {n : Nat} {g : TG} {tb : TS} {D : Ends} {σ : St} {H : Hp} (Pv : Nat → St → Hp → Prop) (h0 : Pv 0 σ H)
    (hs : ∀ i σ H, i < n → Pv i σ H → g (.int (lo + i)) σ H fun σ2 H2 => tb { D with nx := Pv (i + 1), ct := Pv (i + 1), bk := D.nx } σ2 H2) (hd : ∀ σ H, Pv n σ H → D.nx σ H) :
    ∃ W : Nat → Nat → St → Hp → Prop, (∃ m, W 0 m σ H) ∧ ∀ i m σ H, W i m σ H →
      ((Itr lo n).stop i H ∧ D.nx σ H) ∨ ((Itr lo n).go i H ∧ ∃ N : St → Hp → Prop, (∀ σ' H', N σ' H' → ∃ m', m' < m ∧ W (i + 1) m' σ' H') ∧ ∀ x H', (Itr lo n).yld i H x H' → g x σ H' fun σ2 H2 => tb { D with nx := N, ct := N, bk := D.nx } σ2 H2) := by
  refine ⟨fun i m σ H => m = n - i ∧ i ≤ n ∧ Pv i σ H, ⟨n, by simp, Nat.zero_le _, h0⟩, ?_⟩
  rintro i m σ H ⟨rfl, hi, p⟩
  by_cases hlt : i < n
  · refine .inr ⟨hlt, Pv (i + 1), fun σ' H' p' => ⟨n - (i + 1), by omega, rfl, hlt, p'⟩, fun x H' y => ?_⟩
    obtain ⟨e, y⟩ := y
    subst e y
    exact hs i σ _ hlt p
  · have e : i = n := by omega
    subst e
    exact .inl ⟨Nat.le_refl _, hd σ H p⟩
/-- while, by a word and a measure of the state -/
theorem while_by {c : TT} {tb : TS} {D : Ends} {σ : St} {H : Hp} (Pv : St → Hp → Prop) (μ : St → Hp → Nat) (h0 : Pv σ H)
    (hs : ∀ σ H, Pv σ H → c σ H fun b H1 => if b = true then tb { D with nx := fun σ' H' => Pv σ' H' ∧ μ σ' H' < μ σ H, ct := fun σ' H' => Pv σ' H' ∧ μ σ' H' < μ σ H, bk := D.nx } σ H1 else D.nx σ H1)
    (mono : ∀ σ H Q Q', (∀ b H1, Q b H1 → Q' b H1) → c σ H Q → c σ H Q') : tWhile c tb D σ H := by
  refine ⟨fun m σ H => m = μ σ H ∧ Pv σ H, ⟨_, rfl, h0⟩, ?_⟩
  rintro m σ H ⟨rfl, p⟩
  refine mono σ H _ _ (fun b H1 q => ?_) (hs σ H p)
  cases b with
  | true => exact ⟨_, fun σ' H' ⟨p', l⟩ => ⟨_, l, rfl, p'⟩, q⟩
  | false => exact q
end L2

namespace L2
open PySem PySem.Spec PyProof.Rows

abbrev R2 := V → V → Hp → VK → Prop
/-- a two-place operation on values: f is binaryOp op, inplaceOp op or compareOp op -/
def OpR (X : Cx) (f : Value → Value → Sem Value) (r : R2) : Prop :=
  ∀ (pins : List (Addr × Obj)) (s : Shared) (σ : St) (H : Hp) (x y : V) (v u : Value) (Q : VK), Inv X pins σ H s → RelV x v → RelV y u → r x y H Q →
    wpAny (model X.prog X.w) X.A (f v u) (EP X pins σ Q) X.xe s
/-- a one-place operation -/
def UnR (X : Cx) (f : Value → Sem Value) (r : V → Hp → VK → Prop) : Prop :=
  ∀ (pins : List (Addr × Obj)) (s : Shared) (σ : St) (H : Hp) (x : V) (v : Value) (Q : VK), Inv X pins σ H s → RelV x v → r x H Q →
    wpAny (model X.prog X.w) X.A (f v) (EP X pins σ Q) X.xe s
/-- a call of a value that is known (a builtin, a type) with values -/
def CallR (X : Cx) (f : Value) (r : List V → Hp → VK → Prop) : Prop :=
  ∀ (pins : List (Addr × Obj)) (s : Shared) (σ : St) (H : Hp) (xs : List V) (us : List Value) (Q : VK), Inv X pins σ H s → Vals xs us → r xs H Q →
    wpAny (model X.prog X.w) X.A (call f us) (EP X pins σ Q) X.xe s
/-- a value's truth -/
def TruR (X : Cx) (r : V → Hp → (Bool → Hp → Prop) → Prop) : Prop :=
  ∀ (pins : List (Addr × Obj)) (s : Shared) (σ : St) (H : Hp) (x : V) (v : Value) (Q : Bool → Hp → Prop), Inv X pins σ H s → RelV x v → r x H Q →
    wpAny (model X.prog X.w) X.A (truthy v) (TP X pins σ Q) X.xe s

def tOp (r : R2) (ta tb : TE) : TE := fun σ H Q => ta σ H fun x H1 => tb σ H1 fun y H2 => r x y H2 Q
def tUn (r : V → Hp → VK → Prop) (ta : TE) : TE := fun σ H Q => ta σ H fun x H1 => r x H1 Q
/-- ints in, under C, and a value out -/
def rI (C : Int → Int → Prop) (g : Int → Int → V) : R2 := fun x y H Q => ∃ i j, x = .int i ∧ y = .int j ∧ C i j ∧ Q (g i j) H
def rI0 (g : Int → Int → V) : R2 := fun x y H Q => ∃ i j, x = .int i ∧ y = .int j ∧ Q (g i j) H
def rU (g : Int → V) : V → Hp → VK → Prop := fun x H Q => ∃ i, x = .int i ∧ Q (g i) H

section
variable {X : Cx} {a b c : Expr} {ta tb tc : TE} {pos : Pos}

theorem binT (ha : PE X a ta) (hb : PE X b tb) {pins : List (Addr × Obj)} {s : Shared} {σ : St} {H : Hp} {R : V → V → Hp → Prop} (I : Inv X pins σ H s)
    (h : ta σ H fun x H1 => tb σ H1 fun y H2 => R x y H2) {Q : Value → Shared → Prop} {f : Value → Value → Sem Value}
    (hf : ∀ v u s2 x y H2, Inv X pins σ H2 s2 → RelV x v → RelV y u → R x y H2 → wpAny (model X.prog X.w) X.A (f v u) Q X.xe s2) :
    wpAny (model X.prog X.w) X.A (eval a X.env) (fun v s₁ => wpAny (model X.prog X.w) X.A (eval b X.env) (fun u s₂ => wpAny (model X.prog X.w) X.A (f v u) Q X.xe s₂) X.xe s₁) X.xe s := by
  refine thn (ha pins s σ H _ I h) fun v s1 ⟨x, H1, I1, r1, q1⟩ => ?_
  refine thn (hb pins s1 σ H1 _ I1 q1) fun u s2 ⟨y, H2, I2, r2, q2⟩ => ?_
  exact hf v u s2 x y H2 I2 r1 r2 q2

theorem pe_op {op : Operator} {r : R2} (ho : OpR X (binaryOp op) r) (ha : PE X a ta) (hb : PE X b tb) : PE X (.BinOp a op b pos) (tOp r ta tb) := by
  intro pins s σ H Q I h
  exact wpAny_BinOp (binT ha hb I h fun v u s2 x y H2 I2 rx ry q => ho pins s2 σ H2 x y v u Q I2 rx ry q)
theorem pe_un {op : UnaryOp} {r : V → Hp → VK → Prop} (ho : UnR X (unaryOp op) r) (ha : PE X a ta) : PE X (.UnaryOp op a pos) (tUn r ta) := by
  intro pins s σ H Q I h
  exact UnaryOp_ (thn (ha pins s σ H _ I h) fun v s1 ⟨x, H1, I1, r1, q1⟩ => ho pins s1 σ H1 x v Q I1 r1 q1)
/-- a op= e at a name: the name's slot i -/
theorem augR {op : Operator} {r : R2} (ho : OpR X (inplaceOp op) r) {pins : List (Addr × Obj)} {s : Shared} {σ : St} {H : Hp} {x y : V} {v u : Value} {Q : VK} (I : Inv X pins σ H s)
    (rx : RelV x v) (ry : RelV y u) (q : r x y H Q) : wpAny (model X.prog X.w) X.A (inplaceOp op v u) (EP X pins σ Q) X.xe s := ho pins s σ H x y v u Q I rx ry q

/-! ### ints -/
theorem opI {f : Value → Value → Sem Value} {C : Int → Int → Prop} {g : Int → Int → Int}
    (rule : ∀ (i j : Int) (t u : Tok) (s : Shared) (Q : Value → Shared → Prop) (E : Value → Shared → Prop), C i j → Q (.int (g i j) s.toks) { s with toks := s.toks + 1 } → wpAny (model X.prog X.w) X.A (f (.int i t) (.int j u)) Q E s) :
    OpR X f (rI C fun i j => .int (g i j)) := by
  intro pins s σ H x y v u Q I rx ry h
  obtain ⟨i, j, rfl, rfl, hc, q⟩ := h
  obtain ⟨t, rfl⟩ := rx
  obtain ⟨t', rfl⟩ := ry
  exact rule i j t t' s _ _ hc ⟨.int (g i j), H, I.tok _, ⟨_, rfl⟩, q⟩
theorem opI0 {f : Value → Value → Sem Value} {g : Int → Int → Int}
    (rule : ∀ (i j : Int) (t u : Tok) (s : Shared) (Q : Value → Shared → Prop) (E : Value → Shared → Prop), Q (.int (g i j) s.toks) { s with toks := s.toks + 1 } → wpAny (model X.prog X.w) X.A (f (.int i t) (.int j u)) Q E s) :
    OpR X f (rI0 fun i j => .int (g i j)) := by
  intro pins s σ H x y v u Q I rx ry h
  obtain ⟨i, j, rfl, rfl, q⟩ := h
  obtain ⟨t, rfl⟩ := rx
  obtain ⟨t', rfl⟩ := ry
  exact rule i j t t' s _ _ ⟨.int (g i j), H, I.tok _, ⟨_, rfl⟩, q⟩
theorem opB0 {f : Value → Value → Sem Value} {g : Int → Int → Bool}
    (rule : ∀ (i j : Int) (t u : Tok) (s : Shared) (Q : Value → Shared → Prop) (E : Value → Shared → Prop), Q (.bool (g i j)) s → wpAny (model X.prog X.w) X.A (f (.int i t) (.int j u)) Q E s) :
    OpR X f (rI0 fun i j => .bl (g i j)) := by
  intro pins s σ H x y v u Q I rx ry h
  obtain ⟨i, j, rfl, rfl, q⟩ := h
  obtain ⟨t, rfl⟩ := rx
  obtain ⟨t', rfl⟩ := ry
  exact rule i j t t' s _ _ ⟨.bl (g i j), H, I, rfl, q⟩

def CDiv (i j : Int) : Prop := 0 < j ∧ j < 1073741824
def CDivN (i j : Int) : Prop := j ≠ 0 ∧ j.natAbs < 1073741824
def CPow (i j : Int) : Prop := 0 ≤ j ∧ j ≤ 1000000 ∧ i.natAbs < 2 ^ 64
def CMul (i j : Int) : Prop := (-(2 ^ 64) < i ∧ i < 2 ^ 64) ∨ (-(2 ^ 64) < j ∧ j < 2 ^ 64)
theorem CMul.ok {i j : Int} (h : CMul i j) : IntMulOk i j := by
  rcases h with ⟨h1, h2⟩ | ⟨h1, h2⟩
  · exact .of_left (intBits_le_64 h1 h2)
  · exact .of_right (intBits_le_64 h1 h2)
theorem two_pow_nn (k : Nat) : (0 : Int) ≤ 2 ^ k := by
  rw [two_pow_cast]
  exact Int.natCast_nonneg _

theorem op_add : OpR X (binaryOp .Add) (rI0 fun i j => .int (i + j)) := opI0 fun _ _ _ _ _ _ _ q => add_int q
theorem op_sub : OpR X (binaryOp .Sub) (rI0 fun i j => .int (i - j)) := opI0 fun _ _ _ _ _ _ _ q => sub_int q
theorem op_mul : OpR X (binaryOp .Mult) (rI CMul fun i j => .int (i * j)) := opI fun _ _ _ _ _ _ _ hc q => mul_int q hc.ok
/-- // by a positive divisor -/
theorem op_fdiv : OpR X (binaryOp .FloorDiv) (rI CDiv fun i j => .int (i / j)) := opI fun i j _ _ _ _ _ hc q => by
  have h1 : (0 : Int) < j := hc.1
  have h2 : j < 1073741824 := hc.2
  exact floordiv_int (by omega) (by rw [Int.fdiv_eq_ediv_of_nonneg i (by omega)]; exact q) (.inl (PyProof.noPylong_small (by omega)))
theorem op_fdivN : OpR X (binaryOp .FloorDiv) (rI CDivN fun i j => .int (i.fdiv j)) := opI fun _ _ _ _ _ _ _ hc q => floordiv_int hc.1 q (.inl (PyProof.noPylong_small hc.2))
/-- % by a positive divisor of any size -/
theorem op_mod : OpR X (binaryOp .Mod) (rI (fun _ j => 0 < j) fun i j => .int (i % j)) := opI fun i j _ _ _ _ _ hc q => by
  have h1 : (0 : Int) < j := hc
  exact mod_int' (by omega) (by rw [Int.fmod_eq_emod_of_nonneg i (by omega)]; exact q)
theorem op_modN : OpR X (binaryOp .Mod) (rI (fun _ j => j ≠ 0) fun i j => .int (i.fmod j)) := opI fun _ _ _ _ _ _ _ hc q => mod_int' hc q
theorem op_pow : OpR X (binaryOp .Pow) (rI CPow fun i j => .int (i ^ j.toNat)) := opI fun _ _ _ _ _ _ _ hc q => pow_int_small hc.1 hc.2.1 hc.2.2 q
theorem op_shl : OpR X (binaryOp .LShift) (rI CPow fun i j => .int (i * 2 ^ j.toNat)) := opI fun _ _ _ _ _ _ _ hc q => lshift_int_small hc.1 hc.2.1 hc.2.2 q
theorem op_shr : OpR X (binaryOp .RShift) (rI (fun _ j => 0 ≤ j) fun i j => .int (i / 2 ^ j.toNat)) := opI fun i j _ _ _ _ _ hc q =>
  rshift_int hc (by rw [Int.fdiv_eq_ediv_of_nonneg i (two_pow_nn _)]; exact q)
theorem op_and : OpR X (binaryOp .BitAnd) (rI0 fun i j => .int (Builtin.bitAnd i j)) := opI0 fun _ _ _ _ _ _ _ q => and_int q
theorem op_or : OpR X (binaryOp .BitOr) (rI0 fun i j => .int (Builtin.bitOr i j)) := opI0 fun _ _ _ _ _ _ _ q => or_int q
theorem op_xor : OpR X (binaryOp .BitXor) (rI0 fun i j => .int (Builtin.bitXor i j)) := opI0 fun _ _ _ _ _ _ _ q => xor_int q

theorem iop_add : OpR X (inplaceOp .Add) (rI0 fun i j => .int (i + j)) := opI0 fun _ _ _ _ _ _ _ q => iadd_int q
theorem iop_sub : OpR X (inplaceOp .Sub) (rI0 fun i j => .int (i - j)) := opI0 fun _ _ _ _ _ _ _ q => isub_int q
theorem iop_mul : OpR X (inplaceOp .Mult) (rI CMul fun i j => .int (i * j)) := opI fun _ _ _ _ _ _ _ hc q => imul_int q hc.ok
theorem iop_fdiv : OpR X (inplaceOp .FloorDiv) (rI CDiv fun i j => .int (i / j)) := opI fun i j _ _ _ _ _ hc q => by
  have h1 : (0 : Int) < j := hc.1
  have h2 : j < 1073741824 := hc.2
  exact ifloordiv_int (by omega) (by rw [Int.fdiv_eq_ediv_of_nonneg i (by omega)]; exact q) (.inl (PyProof.noPylong_small (by omega)))
theorem iop_mod : OpR X (inplaceOp .Mod) (rI (fun _ j => 0 < j) fun i j => .int (i % j)) := opI fun i j _ _ _ _ _ hc q => by
  have h1 : (0 : Int) < j := hc
  exact imod_int (by omega) (by rw [Int.fmod_eq_emod_of_nonneg i (by omega)]; exact q)
theorem iop_shl : OpR X (inplaceOp .LShift) (rI CPow fun i j => .int (i * 2 ^ j.toNat)) := opI fun _ _ _ _ _ _ _ hc q => ilshift_int_small hc.1 hc.2.1 hc.2.2 q
theorem iop_shr : OpR X (inplaceOp .RShift) (rI (fun _ j => 0 ≤ j) fun i j => .int (i / 2 ^ j.toNat)) := opI fun i j _ _ _ _ _ hc q =>
  irshift_int hc (by rw [Int.fdiv_eq_ediv_of_nonneg i (two_pow_nn _)]; exact q)
theorem iop_and : OpR X (inplaceOp .BitAnd) (rI0 fun i j => .int (Builtin.bitAnd i j)) := opI0 fun _ _ _ _ _ _ _ q => iand_int q
theorem iop_or : OpR X (inplaceOp .BitOr) (rI0 fun i j => .int (Builtin.bitOr i j)) := opI0 fun _ _ _ _ _ _ _ q => ior_int q
theorem iop_xor : OpR X (inplaceOp .BitXor) (rI0 fun i j => .int (Builtin.bitXor i j)) := opI0 fun _ _ _ _ _ _ _ q => ixor_int q

theorem unI {f : Value → Sem Value} {g : Int → Int}
    (rule : ∀ (i : Int) (t : Tok) (s : Shared) (Q : Value → Shared → Prop) (E : Value → Shared → Prop), Q (.int (g i) s.toks) { s with toks := s.toks + 1 } → wpAny (model X.prog X.w) X.A (f (.int i t)) Q E s) :
    UnR X f (rU fun i => .int (g i)) := by
  intro pins s σ H x v Q I rx h
  obtain ⟨i, rfl, q⟩ := h
  obtain ⟨t, rfl⟩ := rx
  exact rule i t s _ _ ⟨.int (g i), H, I.tok _, ⟨_, rfl⟩, q⟩
theorem un_neg : UnR X (unaryOp .USub) (rU fun i => .int (-i)) := unI fun _ _ _ _ _ q => neg_int q
theorem un_inv : UnR X (unaryOp .Invert) (rU fun i => .int (Builtin.bitNot i)) := unI fun _ _ _ _ _ q => invert_int q

/-! ### bools among ints: n += (a < b) -/
theorem op_add_ib : OpR X (binaryOp .Add) (fun x y H Q => ∃ i k, x = .int i ∧ y = .bl k ∧ Q (.int (i + b2i k)) H) := by
  intro pins s σ H x y v u Q I rx ry h
  obtain ⟨i, k, rfl, rfl, q⟩ := h
  obtain ⟨t, rfl⟩ := rx
  cases ry
  exact add_int_bool ⟨.int (i + b2i k), H, I.tok _, ⟨_, rfl⟩, q⟩
end

/-! ### comparisons -/
/-- the scalars that == tells apart as data does -/
def scal : V → V → Bool
  | .non, .non => true | .non, .int _ => true | .int _, .non => true | .non, .bl _ => true | .bl _, .non => true | .non, .str _ => true | .str _, .non => true
  | .int _, .int _ => true | .bl _, .bl _ => true | .str _, .str _ => true | .byt _, .byt _ => true
  | .int _, .str _ => true | .str _, .int _ => true | .bl _, .str _ => true | .str _, .bl _ => true
  | _, _ => false
def rEq : R2 := fun x y H Q => scal x y = true ∧ Q (.bl (decide (x = y))) H
def rNe : R2 := fun x y H Q => scal x y = true ∧ Q (.bl (!decide (x = y))) H

theorem dec_int {i j : Int} : decide (V.int i = V.int j) = (i == j) := by
  rw [Bool.eq_iff_iff]
  simp
theorem dec_bl {i j : Bool} : decide (V.bl i = V.bl j) = (i == j) := by
  rw [Bool.eq_iff_iff]
  simp
theorem dec_str {i j : Str} : decide (V.str i = V.str j) = (i == j) := by
  rw [Bool.eq_iff_iff]
  simp
theorem dec_byt {i j : Array UInt8} : decide (V.byt i = V.byt j) = (i.toList == j.toList) := by
  rw [Bool.eq_iff_iff]
  cases i
  cases j
  simp

section
variable {X : Cx} {a b c : Expr} {ta tb tc : TE} {pos : Pos}
theorem fin_bl {pins : List (Addr × Obj)} {σ : St} {H : Hp} {s : Shared} {Q : VK} {k k' : Bool} (I : Inv X pins σ H s) (q : Q (.bl k) H) (e : k = k') : EP X pins σ Q (.bool k') s := by
  subst e
  exact ⟨.bl k, H, I, rfl, q⟩
theorem op_eq : OpR X (compareOp .Eq) rEq := by
  intro pins s σ H x y v u Q I rx ry h
  obtain ⟨hs, q⟩ := h
  cases x with
  | non =>
    cases rx
    cases y with
    | non => cases ry; exact PySem.EqNone.eq_none_none (fin_bl I q (by simp))
    | bl j => cases ry; exact PySem.EqNone.eq_none_bool (fin_bl I q (by simp))
    | int j => obtain ⟨t', rfl⟩ := ry; exact PySem.EqNone.eq_none_int (fin_bl I q (by simp))
    | str j => obtain ⟨t', rfl⟩ := ry; exact PySem.EqNone.eq_none_str (fin_bl I q (by simp))
    | _ => exact absurd (show false = true from hs) Bool.false_ne_true
  | bl i =>
    cases rx
    cases y with
    | non => cases ry; exact PySem.EqNone.eq_bool_none (fin_bl I q (by simp))
    | bl j => cases ry; exact eq_bool (fin_bl I q dec_bl)
    | str j => obtain ⟨t', rfl⟩ := ry; exact PySem.EqMixed.eq_bool_str (fin_bl I q (by simp))
    | _ => exact absurd (show false = true from hs) Bool.false_ne_true
  | int i =>
    obtain ⟨t, rfl⟩ := rx
    cases y with
    | non => cases ry; exact PySem.EqNone.eq_int_none (fin_bl I q (by simp))
    | int j => obtain ⟨t', rfl⟩ := ry; exact eq_int (fin_bl I q dec_int)
    | str j => obtain ⟨t', rfl⟩ := ry; exact PySem.EqMixed.eq_int_str (fin_bl I q (by simp))
    | _ => exact absurd (show false = true from hs) Bool.false_ne_true
  | str i =>
    obtain ⟨t, rfl⟩ := rx
    cases y with
    | non => cases ry; exact PySem.EqNone.eq_str_none (fin_bl I q (by simp))
    | bl j => cases ry; exact PySem.EqMixed.eq_str_bool (fin_bl I q (by simp))
    | int j => obtain ⟨t', rfl⟩ := ry; exact PySem.EqMixed.eq_str_int (fin_bl I q (by simp))
    | str j => obtain ⟨t', rfl⟩ := ry; exact eq_str (fin_bl I q dec_str)
    | _ => exact absurd (show false = true from hs) Bool.false_ne_true
  | byt i =>
    obtain ⟨t, rfl⟩ := rx
    cases y with
    | byt j => obtain ⟨t', rfl⟩ := ry; exact PySem.W.eq_bytes (fin_bl I q dec_byt)
    | _ => exact absurd (show false = true from hs) Bool.false_ne_true
  | _ => cases y <;> exact absurd (show false = true from hs) Bool.false_ne_true
theorem op_ne : OpR X (compareOp .NotEq) rNe := by
  intro pins s σ H x y v u Q I rx ry h
  obtain ⟨hs, q⟩ := h
  cases x with
  | non =>
    cases rx
    cases y with
    | non => cases ry; exact PySem.EqNone.ne_none_none (fin_bl I q (by simp))
    | bl j => cases ry; exact PySem.EqNone.ne_none_bool (fin_bl I q (by simp))
    | int j => obtain ⟨t', rfl⟩ := ry; exact PySem.EqNone.ne_none_int (fin_bl I q (by simp))
    | str j => obtain ⟨t', rfl⟩ := ry; exact PySem.EqNone.ne_none_str (fin_bl I q (by simp))
    | _ => exact absurd (show false = true from hs) Bool.false_ne_true
  | bl i =>
    cases rx
    cases y with
    | non => cases ry; exact PySem.EqNone.ne_bool_none (fin_bl I q (by simp))
    | bl j => cases ry; exact ne_bool (fin_bl I q (congrArg not dec_bl))
    | str j => obtain ⟨t', rfl⟩ := ry; exact PySem.EqMixed.ne_bool_str (fin_bl I q (by simp))
    | _ => exact absurd (show false = true from hs) Bool.false_ne_true
  | int i =>
    obtain ⟨t, rfl⟩ := rx
    cases y with
    | non => cases ry; exact PySem.EqNone.ne_int_none (fin_bl I q (by simp))
    | int j => obtain ⟨t', rfl⟩ := ry; exact ne_int (fin_bl I q (congrArg not dec_int))
    | str j => obtain ⟨t', rfl⟩ := ry; exact PySem.EqMixed.ne_int_str (fin_bl I q (by simp))
    | _ => exact absurd (show false = true from hs) Bool.false_ne_true
  | str i =>
    obtain ⟨t, rfl⟩ := rx
    cases y with
    | non => cases ry; exact PySem.EqNone.ne_str_none (fin_bl I q (by simp))
    | bl j => cases ry; exact PySem.EqMixed.ne_str_bool (fin_bl I q (by simp))
    | int j => obtain ⟨t', rfl⟩ := ry; exact PySem.EqMixed.ne_str_int (fin_bl I q (by simp))
    | str j => obtain ⟨t', rfl⟩ := ry; exact ne_str (fin_bl I q (congrArg not dec_str))
    | _ => exact absurd (show false = true from hs) Bool.false_ne_true
  | byt i =>
    obtain ⟨t, rfl⟩ := rx
    cases y with
    | byt j => obtain ⟨t', rfl⟩ := ry; exact PySem.W.ne_bytes (fin_bl I q (congrArg not dec_byt))
    | _ => exact absurd (show false = true from hs) Bool.false_ne_true
  | _ => cases y <;> exact absurd (show false = true from hs) Bool.false_ne_true

theorem op_lt : OpR X (compareOp .Lt) (rI0 fun i j => .bl (decide (i < j))) := opB0 fun _ _ _ _ _ _ _ q => lt_int q
theorem op_le : OpR X (compareOp .LtE) (rI0 fun i j => .bl (decide (i ≤ j))) := opB0 fun _ _ _ _ _ _ _ q => le_int q
theorem op_gt : OpR X (compareOp .Gt) (rI0 fun i j => .bl (decide (j < i))) := opB0 fun _ _ _ _ _ _ _ q => gt_int q
theorem op_ge : OpR X (compareOp .GtE) (rI0 fun i j => .bl (decide (j ≤ i))) := opB0 fun _ _ _ _ _ _ _ q => ge_int q
theorem op_lt_str : OpR X (compareOp .Lt) (fun x y H Q => ∃ i j, x = .str i ∧ y = .str j ∧ Q (.bl (decide (i.cps.toList < j.cps.toList))) H) := by
  intro pins s σ H x y v u Q I rx ry h
  obtain ⟨i, j, rfl, rfl, q⟩ := h
  obtain ⟨t, rfl⟩ := rx
  obtain ⟨t', rfl⟩ := ry
  exact lt_str (fin_bl I q rfl)
/-- the one string within the other -/
theorem op_in_str : OpR X (compareOp .In) (fun x y H Q => ∃ i j, x = .str i ∧ y = .str j ∧ Q (.bl (!(Builtin.Str.occurrences j i 0 j.length 1).isEmpty)) H) := by
  intro pins s σ H x y v u Q I rx ry h
  obtain ⟨i, j, rfl, rfl, q⟩ := h
  obtain ⟨t, rfl⟩ := rx
  obtain ⟨t', rfl⟩ := ry
  exact in_str (fin_bl I q rfl)

/-- is None, is not None: the right side a value none -/
theorem op_isN : OpR X (compareOp .Is) (fun x y H Q => y = .non ∧ Q (.bl (decide (x = .non))) H) := by
  intro pins s σ H x y v u Q I rx ry h
  obtain ⟨rfl, q⟩ := h
  cases ry
  refine is_none_gen (fin_bl I q ?_)
  cases x <;> first
    | (cases rx; rfl)
    | (obtain ⟨t, rfl⟩ := rx; rfl)
theorem op_notN : OpR X (compareOp .IsNot) (fun x y H Q => y = .non ∧ Q (.bl (!decide (x = .non))) H) := by
  intro pins s σ H x y v u Q I rx ry h
  obtain ⟨rfl, q⟩ := h
  cases ry
  refine isnot_none_gen (fin_bl I q ?_)
  cases x <;> first
    | (cases rx; rfl)
    | (obtain ⟨t, rfl⟩ := rx; rfl)

theorem op_notin_str : OpR X (compareOp .NotIn) (fun x y H Q => ∃ i j, x = .str i ∧ y = .str j ∧ Q (.bl (!(!(Builtin.Str.occurrences j i 0 j.length 1).isEmpty))) H) := by
  intro pins s σ H x y v u Q I rx ry h
  obtain ⟨i, j, rfl, rfl, q⟩ := h
  obtain ⟨t, rfl⟩ := rx
  obtain ⟨t', rfl⟩ := ry
  exact notIn_str (fin_bl I q rfl)
/-- is, is not of two objects that are tracked lists or instances -/
def isObj : HO → Bool
  | .lst _ => true
  | .ins _ _ _ => true
  | _ => false
theorem obj_there {pins : List (Addr × Obj)} {s : Shared} {σ : St} {H : Hp} {a : Addr} {o : HO} (I : Inv X pins σ H s) (h : H a = some o) (p : isObj o = true) : ∃ ob, s.heap.get? a = some ob ∧ ob.cls ≠ .type "tuple" := by
  cases o with
  | lst xs =>
    obtain ⟨_, its, n, _, e⟩ : xs.length ≤ sizeLine ∧ ∃ (its : List Value) (n : Nat), Vals xs its ∧ s.heap.get? a = some { cls := .type "list", data := .seq its.toArray n } := I.hok a _ h
    exact ⟨_, e, (by show Value.type "list" ≠ .type "tuple"; decide +kernel)⟩
  | ins C dx fs =>
    have x := I.hok a _ h
    obtain ⟨_, _, _, e, _⟩ := x
    exact ⟨_, e, (by show Value.ref C ≠ .type "tuple"; exact fun z => by cases z)⟩
  | _ => exact absurd (show false = true from p) Bool.false_ne_true
theorem op_is_ref : OpR X (compareOp .Is) (fun x y H Q => ∃ a b oa ob, x = .ref a ∧ y = .ref b ∧ H a = some oa ∧ isObj oa = true ∧ H b = some ob ∧ isObj ob = true ∧ Q (.bl (decide (a = b))) H) := by
  intro pins s σ H x y v u Q I rx ry h
  obtain ⟨a, b, oa, ob, rfl, rfl, ha, pa, hb, pb, q⟩ := h
  cases rx
  cases ry
  obtain ⟨o1, e1, n1⟩ := obj_there I ha pa
  obtain ⟨o2, e2, _⟩ := obj_there I hb pb
  by_cases z : a = b
  · subst z
    exact wpAny_is_ref_self (fin_bl I q (by simp))
  · exact wpAny_is_ref_other z e1 e2 n1 (fin_bl I q (by simp [z]))
theorem op_isnot_ref : OpR X (compareOp .IsNot) (fun x y H Q => ∃ a b oa ob, x = .ref a ∧ y = .ref b ∧ H a = some oa ∧ isObj oa = true ∧ H b = some ob ∧ isObj ob = true ∧ Q (.bl (!decide (a = b))) H) := by
  intro pins s σ H x y v u Q I rx ry h
  obtain ⟨a, b, oa, ob, rfl, rfl, ha, pa, hb, pb, q⟩ := h
  cases rx
  cases ry
  obtain ⟨o1, e1, n1⟩ := obj_there I ha pa
  obtain ⟨o2, e2, _⟩ := obj_there I hb pb
  by_cases z : a = b
  · subst z
    exact wpAny_isNot_ref_self (fin_bl I q (by simp))
  · exact wpAny_isNot_ref_other z e1 e2 n1 (fin_bl I q (by simp [z]))

/-- two rules for one operation: by cases -/
theorem OpR.or {f : Value → Value → Sem Value} {r r' : R2} (h : OpR X f r) (h' : OpR X f r') : OpR X f (fun x y H Q => r x y H Q ∨ r' x y H Q) := by
  intro pins s σ H x y v u Q I rx ry q
  rcases q with q | q
  · exact h pins s σ H x y v u Q I rx ry q
  · exact h' pins s σ H x y v u Q I rx ry q

theorem nomark (b : Expr) {op : CmpOp} (h : op ≠ .In := by decide) (h2 : op ≠ .NotIn := by decide) : behindInMarks op b = false := by
  have e1 : (op == CmpOp.In) = false := by cases op <;> first | rfl | exact absurd rfl h
  have e2 : (op == CmpOp.NotIn) = false := by cases op <;> first | rfl | exact absurd rfl h2
  cases b <;> simp [behindInMarks, e1, e2]
/-- a comparison as a value; hm: nomark b, or (for in, not in) by with_unfolding_all rfl -/
theorem pe_cmpR {op : CmpOp} {r : R2} (ho : OpR X (compareOp op) r) (ha : PE X a ta) (hb : PE X b tb) (hm : behindInMarks op b = false) : PE X (.Compare a [op] [b] pos) (tOp r ta tb) := by
  intro pins s σ H Q I h
  exact wpAny_Compare1 (binT ha hb I h fun v u s2 x y H2 I2 rx ry q => ho pins s2 σ H2 x y v u Q I2 rx ry q) hm
/-- a reading of a value as a test -/
def tTest (t : TE) : TT := fun σ H Q => t σ H fun x H' => ∃ k, x = .bl k ∧ Q k H'
theorem pt_cmpR {op : CmpOp} {r : R2} (ho : OpR X (compareOp op) r) (ha : PE X a ta) (hb : PE X b tb) (hm : behindInMarks op b = false) : PT X (.Compare a [op] [b] pos) (tTest (tOp r ta tb)) := by
  intro pins s σ H Q I h
  refine wpAny_isTrue_Compare1 (thn (ha pins s σ H _ I h) fun v s1 ⟨x, H1, I1, r1, q1⟩ => thn (hb pins s1 σ H1 _ I1 q1) fun u s2 ⟨y, H2, I2, r2, q2⟩ =>
    thn (ho pins s2 σ H2 x y v u _ I2 r1 r2 q2) fun c s3 ⟨z, H3, I3, r3, k, e, q3⟩ => ?_) hm
  subst e
  cases r3
  exact wpAny_truthy_bool ⟨H3, I3, q3⟩
/-- a op1 b op2 c -/
def tChain (r r' : R2) (ta tb tc : TE) : TE := fun σ H Q => ta σ H fun x H1 => tb σ H1 fun y H2 => r x y H2 fun z H3 => ∃ k, z = .bl k ∧
  (if k = true then tc σ H3 fun w' H4 => r' y w' H4 Q else Q (.bl false) H3)
theorem pe_chain {op op' : CmpOp} {r r' : R2} (ho : OpR X (compareOp op) r) (ho' : OpR X (compareOp op') r') (ha : PE X a ta) (hb : PE X b tb) (hc : PE X c tc)
    (hm : lastMarks [op, op'] [b, c] = false := by with_unfolding_all rfl) : PE X (.Compare a [op, op'] [b, c] pos) (tChain r r' ta tb tc) := by
  intro pins s σ H Q I h
  refine Compare_chain (thn (ha pins s σ H _ I h) fun v s1 ⟨x, H1, I1, r1, q1⟩ => chain_link (thn (hb pins s1 σ H1 _ I1 q1) fun u s2 ⟨y, H2, I2, r2, q2⟩ =>
    thn (ho pins s2 σ H2 x y v u _ I2 r1 r2 q2) fun d s3 ⟨z, H3, I3, r3, k, e, q3⟩ => ?_)) hm
  subst e
  cases r3
  refine wpAny_truthy_bool ?_
  cases k with
  | false => exact ite_ff ⟨.bl false, H3, I3, rfl, q3⟩
  | true => exact ite_tt (chain_last (thn (hc pins s3 σ H3 _ I3 q3) fun w' s4 ⟨z', H4, I4, r4, q4⟩ => ho' pins s4 σ H4 y z' u w' Q I4 r2 r4 q4))
theorem pt_chain {op op' : CmpOp} {r r' : R2} (ho : OpR X (compareOp op) r) (ho' : OpR X (compareOp op') r') (ha : PE X a ta) (hb : PE X b tb) (hc : PE X c tc)
    (hm : lastMarks [op, op'] [b, c] = false := by with_unfolding_all rfl) : PT X (.Compare a [op, op'] [b, c] pos) (tTest (tChain r r' ta tb tc)) := by
  intro pins s σ H Q I h
  refine isTrue_chain (thn (ha pins s σ H _ I h) fun v s1 ⟨x, H1, I1, r1, q1⟩ => test_link (thn (hb pins s1 σ H1 _ I1 q1) fun u s2 ⟨y, H2, I2, r2, q2⟩ =>
    thn (ho pins s2 σ H2 x y v u _ I2 r1 r2 q2) fun d s3 ⟨z, H3, I3, r3, k, e, q3⟩ => ?_)) hm
  subst e
  cases r3
  refine wpAny_truthy_bool ?_
  cases k with
  | false =>
    obtain ⟨k', e', q'⟩ := q3
    cases e'
    exact ite_ff ⟨H3, I3, q'⟩
  | true =>
    refine ite_tt (test_last (thn (hc pins s3 σ H3 _ I3 q3) fun w' s4 ⟨z', H4, I4, r4, q4⟩ => thn (ho' pins s4 σ H4 y z' u w' _ I4 r2 r4 q4) fun d' s5 ⟨z2, H5, I5, r5, k2, e2, q5⟩ => ?_))
    subst e2
    cases r5
    exact wpAny_truthy_bool ⟨H5, I5, q5⟩

/-! ### truth -/
/-- a value's truth by the abstract heap -/
def TruV (K : PySem.W.Frag) (x : V) (H : Hp) (k : Bool) : Prop :=
  match x with
  | .non => k = false
  | .bl b => k = b
  | .int i => k = (i != 0)
  | .str y => y.length ≤ sizeLine ∧ k = ((y.length : Int) != 0)
  | .byt y => y.size ≤ sizeLine ∧ k = ((y.size : Int) != 0)
  | .ref p => (∃ xs, SqL K H p xs ∧ k = !xs.isEmpty) ∨ (∃ xs, SqT K H p xs ∧ k = !xs.isEmpty) ∨ ∃ kvs, H p = some (.dK kvs) ∧ k = !kvs.isEmpty
  | _ => False
theorem isEmpty_kv {κ : Type} {kvs : List (κ × V)} {vs : List (κ × Value)} (r : KV kvs vs) : (!vs.isEmpty) = !kvs.isEmpty := by
  cases r <;> rfl
theorem isEmpty_of {xs : List V} {its : List Value} (r : Vals xs its) : (!its.toArray.isEmpty) = !xs.isEmpty := by
  cases r <;> simp
theorem line63 : (sizeLine : Nat) < 2 ^ 63 := by rw [sizeLine_eq]; decide
theorem tru_ok : TruR X (fun x H Q => ∃ k, TruV X.K x H k ∧ Q k H) := by
  intro pins s σ H x v Q I rx h
  obtain ⟨k, e, q⟩ := h
  have hl := line63
  have hs : sizeLine = 16777216 := sizeLine_eq
  cases x with
  | non =>
    cases rx
    have e' : k = false := e
    subst e'
    exact truthy_none ⟨H, I, q⟩
  | bl b =>
    cases rx
    have e' : k = b := e
    subst e'
    exact wpAny_truthy_bool ⟨H, I, q⟩
  | int i =>
    obtain ⟨t, rfl⟩ := rx
    have e' : k = (i != 0) := e
    subst e'
    exact PySem.P.truthy_int ⟨H, I, q⟩
  | str y =>
    obtain ⟨t, rfl⟩ := rx
    obtain ⟨hy, e'⟩ : y.length ≤ sizeLine ∧ k = ((y.length : Int) != 0) := e
    subst e'
    exact PySem.P.truthy_str (by omega) ⟨H, I.tok _, q⟩
  | byt y =>
    obtain ⟨t, rfl⟩ := rx
    obtain ⟨hy, e'⟩ : y.size ≤ sizeLine ∧ k = ((y.size : Int) != 0) := e
    subst e'
    exact PySem.W.truthy_bytes (by omega) ⟨H, I.tok _, q⟩
  | ref p =>
    cases rx
    have e' : (∃ xs, SqL X.K H p xs ∧ k = !xs.isEmpty) ∨ (∃ xs, SqT X.K H p xs ∧ k = !xs.isEmpty) ∨ ∃ kvs, H p = some (.dK kvs) ∧ k = !kvs.isEmpty := e
    rcases e' with ⟨xs, hx, e'⟩ | ⟨xs, hx, e'⟩ | ⟨kvs, hx, e'⟩
    · subst e'
      obtain ⟨its, r, pl, hz⟩ := I.list hx
      have hlen := r.length
      exact wpAny_truthy_list pl.isList (by simp only [List.size_toArray]; omega) ⟨H, I.tok _, by rw [isEmpty_of r]; exact q⟩
    · subst e'
      obtain ⟨its, r, pl, hz⟩ := I.tuple hx
      have hlen := r.length
      exact truthy_tuple pl (by simp only [List.size_toArray]; omega) ⟨H, I.tok _, by rw [isEmpty_of r]; exact q⟩
    · subst e'
      obtain ⟨hz, hS, vs, r, m⟩ : kvs.length ≤ sizeLine ∧ (p == sysModules) = false ∧ ∃ vs, KV kvs vs ∧ s.heap.DictOf (mixKind X.prog X.w) p vs := I.hok p _ hx
      have hlen : kvs.length = vs.length := Paired.length r
      exact wpAny_truthy_dict hS m (by omega) ⟨H, I.tok _, by rw [isEmpty_kv r]; exact q⟩
  | _ => exact (show False from e).elim
/-- any expression whose test is its value's truth (a name, a call, a subscript, a field ..: he by fun _ => rfl) -/
theorem pt_truth (ha : PE X a ta) (he : ∀ whole, isTrue a X.env whole = (do let v ← whole; standAt a.pos; holding [v] (truthy v))) :
    PT X a (fun σ H Q => ta σ H fun x H' => ∃ k, TruV X.K x H' k ∧ Q k H') := by
  intro pins s σ H Q I h
  exact isTrue_plain (thn (ha pins s σ H _ I h) fun v s1 ⟨x, H1, I1, r1, q1⟩ => tru_ok pins s1 σ H1 x v Q I1 r1 q1) (he _)

/-! ### strs and bytes -/
theorem pe_byt {x : List UInt8} {k : Nat} : PE X (.Constant (.bytes x) k pos) (fun _ H Q => Q (.byt x.toArray) H) := fun _ _ _ H _ I h => PySem.W.Constant_bytes ⟨.byt x.toArray, H, I.tok _, ⟨_, rfl⟩, h⟩
theorem op_add_str : OpR X (binaryOp .Add) (fun x y H Q => ∃ i j, x = .str i ∧ y = .str j ∧ i.length + j.length ≤ sizeLine ∧ Q (.str (i ++ j)) H) := by
  intro pins s σ H x y v u Q I rx ry h
  obtain ⟨i, j, rfl, rfl, hz, q⟩ := h
  obtain ⟨t, rfl⟩ := rx
  obtain ⟨t', rfl⟩ := ry
  exact add_str (fun t' tk => ⟨.str (i ++ j), H, I.tok _, ⟨_, rfl⟩, q⟩) hz
theorem iop_add_str : OpR X (inplaceOp .Add) (fun x y H Q => ∃ i j, x = .str i ∧ y = .str j ∧ i.length + j.length ≤ sizeLine ∧ Q (.str (i ++ j)) H) := by
  intro pins s σ H x y v u Q I rx ry h
  obtain ⟨i, j, rfl, rfl, hz, q⟩ := h
  obtain ⟨t, rfl⟩ := rx
  obtain ⟨t', rfl⟩ := ry
  exact iadd_str (fun t' tk => ⟨.str (i ++ j), H, I.tok _, ⟨_, rfl⟩, q⟩) hz
theorem op_add_byt : OpR X (binaryOp .Add) (fun x y H Q => ∃ i j, x = .byt i ∧ y = .byt j ∧ i.size + j.size ≤ 16777216 ∧ Q (.byt (i ++ j)) H) := by
  intro pins s σ H x y v u Q I rx ry h
  obtain ⟨i, j, rfl, rfl, hz, q⟩ := h
  obtain ⟨t, rfl⟩ := rx
  obtain ⟨t', rfl⟩ := ry
  exact PySem.W.KBy.add_bytes hz (fun t' tk => ⟨.byt (i ++ j), H, I.tok _, ⟨_, rfl⟩, q⟩)

def PlainIxT (b : Expr) : Prop := ∀ o i, subscripted b false o i = operate [o, i] (getItem o i)
/-- s[i], 0 ≤ i < len -/
theorem pe_item_str (ha : PE X a ta) (hb : PE X b tb) (hs : PlainIxT b) :
    PE X (.Subscript a b pos) (tOp (fun x y H Q => ∃ z i c, x = .str z ∧ y = .int i ∧ 0 ≤ i ∧ i < 2 ^ 63 ∧ i < z.length ∧ z.cps[i.toNat]? = some c ∧ Q (.str ⟨#[c]⟩) H) ta tb) := by
  intro pins s σ H Q I h
  refine Subscript_ (binT ha hb I h fun v u s2 x y H2 I2 rx ry q => ?_)
  obtain ⟨z, i, c, rfl, rfl, h0, h63, h1, hc, q⟩ := q
  obtain ⟨t, rfl⟩ := rx
  obtain ⟨t', rfl⟩ := ry
  have e : seqIndex? i z.length = some i.toNat := PySem.StrLaws.seqIndex_nonneg h0 h1
  exact tail_any (typeIs_str s2 z t) slot_str_getitem.lookup (getItem_str (c := c) (by
    have e1 : decide (i < -(2 ^ 63 : Int)) = false := decide_eq_false (by omega)
    have e2 : decide (i ≥ 2 ^ 63) = false := decide_eq_false (by omega)
    rw [e1, e2] <;> rfl) (by rw [e]; exact hc) ⟨.str ⟨#[c]⟩, H2, I2.tok _, ⟨_, rfl⟩, q⟩) (hs _ _)
/-- b[i], 0 ≤ i < len -/
theorem pe_item_byt (ha : PE X a ta) (hb : PE X b tb) (hs : PlainIxT b) :
    PE X (.Subscript a b pos) (tOp (fun x y H Q => ∃ (z : List UInt8) (i : Int), x = .byt z.toArray ∧ y = .int i ∧ z.length ≤ sizeLine ∧ 0 ≤ i ∧ i < z.length ∧ Q (.int ((z.getD i.toNat 0).toNat : Nat)) H) ta tb) := by
  intro pins s σ H Q I h
  refine Subscript_ (binT ha hb I h fun v u s2 x y H2 I2 rx ry q => ?_)
  obtain ⟨z, i, rfl, rfl, hz, h0, h1, q⟩ := q
  obtain ⟨t, rfl⟩ := rx
  obtain ⟨t', rfl⟩ := ry
  have hl : sizeLine = 16777216 := sizeLine_eq
  exact tail_any (PySem.W.typeIs_bytes s2 z.toArray t) PySem.W.FB.slot_bytes_getitem.lookup (PySem.W.getItem_bytes (by omega) h0 h1 ⟨.int ((z.getD i.toNat 0).toNat : Nat), H2, I2.tok _, ⟨_, rfl⟩, q⟩) (hs _ _)

/-! ### scalar builtins, by CallR -/
theorem vals1 {x : V} {us : List Value} (r : Vals [x] us) : ∃ u, us = [u] ∧ RelV x u := by
  cases r with
  | cons r1 r2 => cases r2; exact ⟨_, rfl, r1⟩
theorem vals2 {x y : V} {us : List Value} (r : Vals [x, y] us) : ∃ u w', us = [u, w'] ∧ RelV x u ∧ RelV y w' := by
  cases r with
  | cons r1 r2 =>
    cases r2 with
    | cons r3 r4 => cases r4; exact ⟨_, _, rfl, r1, r3⟩
theorem call_abs : CallR X (.builtin "abs") (fun xs H Q => ∃ i, xs = [.int i] ∧ Q (.int (if i < 0 then -i else i)) H) := by
  intro pins s σ H xs us Q I r h
  obtain ⟨i, rfl, q⟩ := h
  obtain ⟨u, rfl, t, rfl⟩ := vals1 r
  exact call_abs_int fun u tk => ⟨.int (if i < 0 then -i else i), H, I.tok _, ⟨_, rfl⟩, q⟩
theorem call_max2 (hc : X.calm = true) : CallR X (.builtin "max") (fun xs H Q => ∃ i j, xs = [.int i, .int j] ∧ Q (.int (if j > i then j else i)) H) := by
  intro pins s σ H xs us Q I r h
  obtain ⟨i, j, rfl, q⟩ := h
  obtain ⟨u, w', rfl, ⟨t, rfl⟩, ⟨t', rfl⟩⟩ := vals2 r
  refine max_two_ints (I.ok.hd hc) fun h' tk k => ⟨_, H, I.kept k, ?_, q⟩
  by_cases hj : j > i
  · rw [if_pos hj, if_pos hj]; exact ⟨_, rfl⟩
  · rw [if_neg hj, if_neg hj]; exact ⟨_, rfl⟩
theorem call_min2 (hc : X.calm = true) : CallR X (.builtin "min") (fun xs H Q => ∃ i j, xs = [.int i, .int j] ∧ Q (.int (if j < i then j else i)) H) := by
  intro pins s σ H xs us Q I r h
  obtain ⟨i, j, rfl, q⟩ := h
  obtain ⟨u, w', rfl, ⟨t, rfl⟩, ⟨t', rfl⟩⟩ := vals2 r
  refine min_two_ints (I.ok.hd hc) fun h' tk k => ⟨_, H, I.kept k, ?_, q⟩
  by_cases hj : j < i
  · rw [if_pos hj, if_pos hj]; exact ⟨_, rfl⟩
  · rw [if_neg hj, if_neg hj]; exact ⟨_, rfl⟩
theorem call_int1 : CallR X (.type "int") (fun xs H Q => (∃ i, xs = [.int i] ∧ Q (.int i) H) ∨ ∃ k, xs = [.bl k] ∧ Q (.int (if k then 1 else 0)) H) := by
  intro pins s σ H xs us Q I r h
  rcases h with ⟨i, rfl, q⟩ | ⟨k, rfl, q⟩
  · obtain ⟨u, rfl, t, rfl⟩ := vals1 r
    exact call_int_int ⟨.int i, H, I, ⟨_, rfl⟩, q⟩
  · obtain ⟨u, rfl, r1⟩ := vals1 r
    cases r1
    exact call_int_bool ⟨.int (if k then 1 else 0), H, I.tok _, ⟨_, rfl⟩, q⟩
theorem call_bool1 : CallR X (.type "bool") (fun xs H Q => (∃ i, xs = [.int i] ∧ Q (.bl (i != 0)) H) ∨ ∃ k, xs = [.bl k] ∧ Q (.bl k) H) := by
  intro pins s σ H xs us Q I r h
  rcases h with ⟨i, rfl, q⟩ | ⟨k, rfl, q⟩
  · obtain ⟨u, rfl, t, rfl⟩ := vals1 r
    exact call_bool_int ⟨.bl (i != 0), H, I, rfl, q⟩
  · obtain ⟨u, rfl, r1⟩ := vals1 r
    cases r1
    exact call_bool_bool ⟨.bl k, H, I, rfl, q⟩
theorem call_str_int : CallR X (.type "str") (fun xs H Q => ∃ i, xs = [.int i] ∧ i.natAbs.log2 < 1920 ∧ Q (.str (toString i)) H) := by
  intro pins s σ H xs us Q I r h
  obtain ⟨i, rfl, hz, q⟩ := h
  obtain ⟨u, rfl, t, rfl⟩ := vals1 r
  exact PySem.P.str_of_int hz ⟨.str _, H, I.tok _, ⟨_, rfl⟩, q⟩
theorem call_ord : CallR X (.builtin "ord") (fun xs H Q => ∃ x, xs = [.str x] ∧ x.length = 1 ∧ Q (.int (x.cps.getD 0 0 : Nat)) H) := by
  intro pins s σ H xs us Q I r h
  obtain ⟨x, rfl, hz, q⟩ := h
  obtain ⟨u, rfl, t, rfl⟩ := vals1 r
  exact ord_of_one hz ⟨.int _, H, I.tok _, ⟨_, rfl⟩, q⟩
theorem call_chr : CallR X (.builtin "chr") (fun xs H Q => ∃ i, xs = [.int i] ∧ 0 ≤ i ∧ i ≤ 1114111 ∧ Q (.str ⟨#[i.toNat]⟩) H) := by
  intro pins s σ H xs us Q I r h
  obtain ⟨i, rfl, h0, h1, q⟩ := h
  obtain ⟨u, rfl, t, rfl⟩ := vals1 r
  exact chr_of_range h0 h1 ⟨.str _, H, I.tok _, ⟨_, rfl⟩, q⟩
/-- len of a str, a bytes, a list, a tuple -/
def LenV (K : PySem.W.Frag) (x : V) (H : Hp) (n : Nat) : Prop :=
  match x with
  | .str y => y.length ≤ sizeLine ∧ n = y.length
  | .byt y => y.size ≤ sizeLine ∧ n = y.size
  | .ref p => (∃ xs, SqL K H p xs ∧ n = xs.length) ∨ ∃ xs, SqT K H p xs ∧ n = xs.length
  | _ => False
theorem call_len : CallR X (.builtin "len") (fun xs H Q => ∃ x n, xs = [x] ∧ LenV X.K x H n ∧ Q (.int n) H) := by
  intro pins s σ H xs us Q I r h
  obtain ⟨x, n, rfl, e, q⟩ := h
  obtain ⟨u, rfl, rx⟩ := vals1 r
  have hl := line63
  have hs : sizeLine = 16777216 := sizeLine_eq
  cases x with
  | str y =>
    obtain ⟨t, rfl⟩ := rx
    obtain ⟨hy, e'⟩ : y.length ≤ sizeLine ∧ n = y.length := e
    subst e'
    exact len_str (by omega) ⟨.int _, H, I.tok _, ⟨_, rfl⟩, q⟩
  | byt y =>
    obtain ⟨t, rfl⟩ := rx
    obtain ⟨hy, e'⟩ : y.size ≤ sizeLine ∧ n = y.size := e
    subst e'
    exact PySem.W.len_bytes (by omega) ⟨.int _, H, I.tok _, ⟨_, rfl⟩, q⟩
  | ref p =>
    cases rx
    have e' : (∃ xs, SqL X.K H p xs ∧ n = xs.length) ∨ ∃ xs, SqT X.K H p xs ∧ n = xs.length := e
    rcases e' with ⟨xs, hx, e'⟩ | ⟨xs, hx, e'⟩
    · subst e'
      obtain ⟨its, r', pl, hz⟩ := I.list hx
      have hlen := r'.length
      exact Calls.call_len_list pl.isList (by simp only [List.size_toArray]; omega) ⟨.int xs.length, H, I.tok _, ⟨_, by simp only [List.size_toArray]; rw [hlen]⟩, q⟩
    · subst e'
      obtain ⟨its, r', pl, hz⟩ := I.tuple hx
      have hlen := r'.length
      exact len_tuple pl (by simp only [List.size_toArray]; omega) ⟨.int xs.length, H, I.tok _, ⟨_, by simp only [List.size_toArray]; rw [hlen]⟩, q⟩
  | _ => exact (show False from e).elim
/-- divmod: a new tuple -/
theorem call_divmod : CallR X (.builtin "divmod") (fun xs H Q => ∃ i j, xs = [.int i, .int j] ∧ CDiv i j ∧ ∀ p, H p = none → Q (.ref p) (upd H p (.tup [.int (i / j), .int (i % j)]))) := by
  intro pins s σ H xs us Q I r h
  obtain ⟨i, j, rfl, ⟨h1, h2⟩, q⟩ := h
  obtain ⟨u, w', rfl, ⟨t, rfl⟩, ⟨t', rfl⟩⟩ := vals2 r
  refine divmod_int (by omega) ?_ (.inl (PyProof.noPylong_small (by omega)))
  rw [Int.fdiv_eq_ediv_of_nonneg i (by omega), Int.fmod_eq_emod_of_nonneg i (by omega)]
  have hn : H s.heap.objs.size = none := I.hok.fresh (Nat.le_refl _)
  refine ⟨.ref s.heap.objs.size, _, ?_, rfl, q _ hn⟩
  refine I.laid (fun b o e => Heap.get?_push_of_some _ e) (Nat.le_refl _) ⟨by simp only [List.length_cons, List.length_nil]; rw [sizeLine_eq]; decide, [.int (i / j) s.toks, .int (i % j) (s.toks + 1)], .cons ⟨_, rfl⟩ (.cons ⟨_, rfl⟩ .nil), ?_⟩
  exact ⟨_, Heap.get?_push_size s.heap rfl, rfl, 0, rfl⟩
end
end L2

namespace L2
open PySem PySem.Spec PyProof.Rows

/-! ### an instance, its attributes a map -/
structure ObjM (h : Heap) (x dx C : Addr) (mA : Str → Option Value) : Prop where
  obj : h.get? x = some (PySem.W.instObj C dx)
  ns : h.Ns1 dx mA
  ne : dx ≠ x

theorem lookIn_ns {h : Heap} {dx : Addr} {mA : Str → Option Value} (n : h.Ns1 dx mA) : ∃ od, h.get? dx = some od ∧ ∀ name, PySem.W.lookIn name od = some (mA name) := by
  obtain ⟨o, es, ep, ho, hd, hk, _, hm⟩ := n
  refine ⟨o, ho, fun name => ?_⟩
  have e := hm name
  unfold nsFind findBy at e
  rw [← Array.find?_toList] at e
  unfold PySem.W.lookIn
  rw [hd]
  dsimp only
  split
  · rename_i y q
    rw [q] at e
    exact congrArg some e
  · rename_i q
    rw [q] at e
    have a : es.toList.any (·.refKey) = false := by
      rw [List.any_eq_false]
      intro y hy
      obtain ⟨z, t, hkey⟩ := hk y (Array.mem_toList_iff.mp hy)
      simp [DictEntry.refKey, hkey]
    have a' : ¬ es.toList.any (·.refKey) = true := by rw [a]; exact Bool.false_ne_true
    rw [if_neg a']
    exact congrArg some e

theorem ObjM.look {h : Heap} {x dx C : Addr} {mA : Str → Option Value} (I : ObjM h x dx C mA) : ∃ od, PySem.W.InstAt h x (PySem.W.instObj C dx) C (some od) ∧ ∀ name, PySem.W.lookIn name od = some (mA name) :=
  let ⟨od, ho, hl⟩ := lookIn_ns I.ns
  ⟨od, ⟨I.obj, rfl, rfl, ho⟩, hl⟩

section
variable {prog : Program} {w : World} {A : Around} {E : Value → Shared → Prop} {s : Shared} {K : PySem.W.Frag} {x dx C f : Addr} {mA : Str → Option Value} {name : Str} {v : Value}

theorem get_map {expr : Bool} {Q : Value → Shared → Prop} (X : K.In s.heap) (I : ObjM s.heap x dx C mA) (hg : PySem.W.plainGet K C name = true) (hh : PySem.W.hasDictIn K C = true)
    (ha : PySem.W.findIn K (.ref C) name = some none) (hv : mA name = some v) (hv' : PySem.W.handedIn v = true) (h : Q v { s with toks := s.toks + 1 }) :
    wpAny (model prog w) A (getAttr (.ref x) name expr) Q E s := by
  obtain ⟨od, J, hl⟩ := I.look
  exact PySem.W.get_value X J (PySem.W.plainGet_of hg).1 (PySem.W.findObj_own hh ha rfl (by rw [hl, hv])) hv' h

theorem get_const {expr : Bool} {a : Value} {Q : Value → Shared → Prop} (X : K.In s.heap) (I : ObjM s.heap x dx C mA) (hg : PySem.W.plainGet K C name = true) (hh : PySem.W.hasDictIn K C = true)
    (ha : PySem.W.findIn K (.ref C) name = some (some a)) (hn : PySem.W.specialIn K a "__get__" = some none) (hc : PySem.W.copiedNames.contains name = false) (hv : mA name = none) (hv' : PySem.W.handedIn a = true)
    (h : Q a { s with toks := s.toks + 1 }) : wpAny (model prog w) A (getAttr (.ref x) name expr) Q E s := by
  obtain ⟨od, J, hl⟩ := I.look
  exact PySem.W.get_value X J (PySem.W.plainGet_of hg).1 (PySem.W.findObj_cls hh ha hn hv' hc (by rw [hl, hv])) hv' h

theorem get_meth {pl : Sem Bool} {Q : Value × List Value → Shared → Prop} (X : K.In s.heap) (I : ObjM s.heap x dx C mA) (hg : PySem.W.plainGet K C name = true)
    (hf : PySem.W.findIn K (.ref C) name = some (some (.ref f))) (ht : PySem.W.isFn K (.ref f) = true) (hv : mA name = none) (h : Q (.ref f, [.ref x]) s) :
    wpAny (model prog w) A (getMethod (.ref x) name pl) Q E s := by
  obtain ⟨od, J, hl⟩ := I.look
  exact PySem.W.method_fn X J (PySem.W.plainGet_of hg).1 (PySem.W.plainGet_of hg).2 hf (beq_iff_eq.mp ht) (by show (PySem.W.lookIn name od).map (·.isSome) = some false; rw [hl, hv]; rfl) h

theorem set_map {ns : List Str} {Q : Unit → Shared → Prop} (X : K.In s.heap) (I : ObjM s.heap x dx C mA)
    (hs : PySem.W.findIn K (.ref C) "__setattr__" = some (some (.builtin "object.__setattr__"))) (hp : PySem.W.plainOver K C = true) (ht : PySem.W.takerIn K C name = some none) (hh : PySem.W.hasDictIn K C = true)
    (hw : PySem.Within mA ns) (hsz : ns.length ≤ sizeLine)
    (h : ∀ h', ObjM h' x dx C (fun y => if y = name then some v else mA y) → Heap.SameBut dx s.heap h' → Q () { s with heap := h', toks := s.toks + 2 }) :
    wpAny (model prog w) A (setAttr (.ref x) name v) Q E s := by
  obtain ⟨od, J, hl⟩ := I.look
  refine PySem.W.set_plain X J hs (PySem.W.osa_open (s := { s with toks := s.toks + 1 }) (r := none) X J hp ht fun b => ?_)
  obtain ⟨cd, hc, hd'⟩ := PySem.W.any_some hh
  have hx : s.heap.get? x = some ⟨.ref C, some dx, .plain, #[]⟩ := I.obj
  refine wpAny_bind (wpAny_pure (wpAny_bind (wpAny_bind (wpAny_loadPart hx (wpAny_bind (PySem.W.Looks.here (s := { s with toks := s.toks + 1 }) (PySem.W.looks_clsIn X hc) ?_))))))
  rw [hd']
  refine wpAny_pure (a := some dx) (wpAny_bind (wpAny_pure (wpAny_bind ?_)))
  refine wpAny_nsSet1 (s := { s with toks := s.toks + 1 }) I.ns fun h' hn2 hs2 => ?_
  obtain ⟨oD, esD, epD, hoD, hdD, hcD⟩ := hn2.count (PySem.Within.cons name v hw)
  refine wpAny_bind (wpAny_lookBehind hoD (by rw [hdD]; exact pastItsLine_dict (Nat.le_trans hcD (by rw [List.length_cons]; omega))) ?_)
  exact wpAny_pure (h _ ⟨(hs2.2 _ (Ne.symm I.ne)).trans I.obj, hn2, I.ne⟩ hs2)

/-- C(..): the dict at the heap's end, the instance behind it; then its __init__ -/
theorem make_map {R : Result → Shared → Prop} {vs : List Value} {kw : List (Str × Value)} (X : K.In s.heap) (hm : PySem.W.makesIn K C = true)
    (hi : PySem.W.findIn K (.ref C) "__init__" = some (some (.ref f))) (hf : PySem.W.typeIn K (.ref f) = some (.type "function"))
    (h : codeAny (model prog w) (A.under (.builtin "type.__call__" ⟨.ref C :: vs, kw⟩)) (.call (.ref f) ⟨.ref (s.heap.objs.size + 1) :: vs, kw⟩) (PySem.W.InitBack (s.heap.objs.size + 1) R)
      { s with heap := (s.heap.push PySem.W.emptyDict).push (PySem.W.instObj C s.heap.objs.size) }) :
    codeAny (model prog w) A (.call (.ref C) ⟨vs, kw⟩) R s := by
  obtain ⟨hh, g, d, t, os⟩ := s
  exact PySem.W.make_core (PySem.W.makes_of X hm) (PySem.W.looks_findIn X hi) (fun self => PySem.W.bind_fn X self hf) (.inl rfl) h
/-- C() where there is no __init__ but object's -/
theorem make_map0 {R : Result → Shared → Prop} (X : K.In s.heap) (hm : PySem.W.makesIn K C = true)
    (hi : PySem.W.findIn K (.ref C) "__init__" = some (some (.builtin "object.__init__")))
    (hb : ∀ self, PySem.W.Looks (model prog w) s.heap (bindSpecial (.builtin "object.__init__") self) (.builtin "object.__init__", [self]))
    (h : codeAny (model prog w) (A.under (.builtin "type.__call__" ⟨[.ref C], []⟩)) (.call (.builtin "object.__init__") ⟨[.ref (s.heap.objs.size + 1)], []⟩) (PySem.W.InitBack (s.heap.objs.size + 1) R)
      { s with heap := (s.heap.push PySem.W.emptyDict).push (PySem.W.instObj C s.heap.objs.size) }) :
    codeAny (model prog w) A (.call (.ref C) ⟨[], []⟩) R s := by
  obtain ⟨hh, g, d, t, os⟩ := s
  exact PySem.W.make_core (PySem.W.makes_of X hm) (PySem.W.looks_findIn X hi) hb (.inr ⟨rfl, rfl⟩) h
end

/-! ### the attributes as a list of pairs -/
def putF (f : Str) (v : V) : List (Str × V) → List (Str × V)
  | [] => [(f, v)]
  | (g, x) :: r => if g = f then (g, v) :: r else (g, x) :: putF f v r
theorem lookup_putF (f g : Str) (v : V) : ∀ fs : List (Str × V), (putF f v fs).lookup g = if g = f then some v else fs.lookup g
  | [] => by
    show List.lookup g [(f, v)] = _
    by_cases h : g = f
    · have hb : (g == f) = true := beq_iff_eq.mpr h
      simp only [List.lookup, hb, if_pos h]
    · have hb : (g == f) = false := beq_eq_false_iff_ne.mpr h
      simp only [List.lookup, hb, if_neg h]
  | (k, x) :: r => by
    have ih := lookup_putF f g v r
    rw [show putF f v ((k, x) :: r) = (if k = f then (k, v) :: r else (k, x) :: putF f v r) from rfl]
    by_cases hk : k = f
    · rw [if_pos hk]
      by_cases h : g = k
      · have hb : (g == k) = true := beq_iff_eq.mpr h
        simp only [List.lookup, hb, if_pos (h.trans hk)]
      · have hb : (g == k) = false := beq_eq_false_iff_ne.mpr h
        simp only [List.lookup, hb, if_neg (fun e : g = f => h (e.trans hk.symm))]
    · rw [if_neg hk]
      by_cases h : g = k
      · have hb : (g == k) = true := beq_iff_eq.mpr h
        simp only [List.lookup, hb, if_neg (fun e : g = f => hk (h.symm.trans e))]
      · have hb : (g == k) = false := beq_eq_false_iff_ne.mpr h
        simp only [List.lookup, hb]
        exact ih
theorem keys_putF (f : Str) (v : V) : ∀ fs : List (Str × V), f ∈ (putF f v fs).map (·.1) ∧ ∀ g, g ∈ fs.map (·.1) → g ∈ (putF f v fs).map (·.1)
  | [] => ⟨by simp [putF], fun g h => by simp at h⟩
  | (k, x) :: r => by
    obtain ⟨i1, i2⟩ := keys_putF f v r
    rw [show putF f v ((k, x) :: r) = (if k = f then (k, v) :: r else (k, x) :: putF f v r) from rfl]
    by_cases hk : k = f
    · rw [if_pos hk]
      subst hk
      exact ⟨by simp, fun g h => by simpa using h⟩
    · rw [if_neg hk]
      refine ⟨?_, fun g h => ?_⟩
      · rw [List.map_cons]
        exact List.mem_cons_of_mem _ i1
      · rw [List.map_cons] at h ⊢
        rcases List.mem_cons.mp h with e | e
        · exact List.mem_cons.mpr (.inl e)
        · exact List.mem_cons_of_mem _ (i2 g e)
theorem length_putF (f : Str) (v : V) : ∀ fs : List (Str × V), (putF f v fs).length ≤ fs.length + 1
  | [] => by simp [putF]
  | (k, x) :: r => by
    have ih := length_putF f v r
    rw [show putF f v ((k, x) :: r) = (if k = f then (k, v) :: r else (k, x) :: putF f v r) from rfl]
    by_cases hk : k = f
    · rw [if_pos hk, List.length_cons, List.length_cons]; omega
    · rw [if_neg hk, List.length_cons, List.length_cons]; omega

theorem RelO.some_of {v : V} {o : Option Value} (r : RelO (some v) o) : ∃ u, o = some u ∧ RelV v u := by
  cases o with
  | none => exact (show False from r).elim
  | some u => exact ⟨u, rfl, r⟩
theorem RelO.none_of {o : Option Value} (r : RelO none o) : o = none := by
  cases o with
  | none => rfl
  | some u => exact (show False from r).elim
theorem handed_of {v : V} {u : Value} (r : RelV v u) : PySem.W.handedIn u = true := by
  cases v with
  | non => cases (show u = Value.none from r); rfl
  | bl b => cases (show u = Value.bool b from r); rfl
  | int i => obtain ⟨t, e⟩ := (show ∃ t, u = Value.int i t from r); cases e; rfl
  | str x => obtain ⟨t, e⟩ := (show ∃ t, u = Value.str x t from r); cases e; rfl
  | byt b => obtain ⟨t, e⟩ := (show ∃ t, u = Value.bytes b t from r); cases e; rfl
  | flt b => obtain ⟨t, e⟩ := (show ∃ t, u = Value.float b t from r); cases e; rfl
  | ref a => cases (show u = Value.ref a from r); rfl
  | ty n => cases (show u = Value.type n from r); rfl

section
variable {P : Program} {w : World} {H H' : Hp} {h h' : Heap} {a C dx : Addr} {fs fs' : List (Str × V)}
theorem ins_get (hok : HOk P w H h) (e : H a = some (.ins C dx fs)) : ∃ mA, ObjM h a dx C mA ∧ (∀ f, RelO (fs.lookup f) (mA f)) ∧ PySem.Within mA (fs.map (·.1)) ∧ fs.length ≤ 1000 ∧ H dx = some (.own a) := by
  obtain ⟨d, z, ne, ob, mA, n, r, q⟩ := (show ObjOk P w H h a (.ins C dx fs) from hok a _ e)
  exact ⟨mA, ⟨ob, n, ne⟩, r, q, z, d⟩
end

/-! ### what of the text a class must have -/
structure Cls (K : PySem.W.Frag) (C : Addr) : Prop where
  pg : PySem.W.plainGet K C Str.empty = true
  hd : PySem.W.hasDictIn K C = true
  po : PySem.W.plainOver K C = true
  sa : PySem.W.findIn K (.ref C) "__setattr__" = some (some (.builtin "object.__setattr__"))
theorem Cls.get {K : PySem.W.Frag} {C : Addr} (c : Cls K C) (f : Str) : PySem.W.plainGet K C f = true := c.pg
/-- no class of it has the name -/
def NoAttr (K : PySem.W.Frag) (C : Addr) (f : Str) : Prop := PySem.W.findIn K (.ref C) f = some none
theorem NoAttr.taker {K : PySem.W.Frag} {C : Addr} {f : Str} (n : NoAttr K C f) : PySem.W.takerIn K C f = some none := by
  unfold PySem.W.takerIn
  rw [show PySem.W.findIn K (.ref C) f = some none from n]
  rfl
/-- a constant of the class -/
structure Con (K : PySem.W.Frag) (C : Addr) (f : Str) (v : V) (u : Value) : Prop where
  at_ : PySem.W.findIn K (.ref C) f = some (some u)
  rel : RelV v u
  get : PySem.W.specialIn K u "__get__" = some none
  cp : PySem.W.copiedNames.contains f = false
/-- a method: a plain def of the class or of one above it -/
structure Meth (K : PySem.W.Frag) (C : Addr) (m : Str) (f : Addr) : Prop where
  at_ : PySem.W.findIn K (.ref C) m = some (some (.ref f))
  fn : PySem.W.isFn K (.ref f) = true
  kp : PySem.W.keepIn K (.ref f) = true

section
variable {X : Cx} {pins : List (Addr × Obj)} {σ : St} {H : Hp} {s : Shared} {a C dx : Addr} {fs : List (Str × V)} {f : Str} {v : V} {A : Around} {E : Value → Shared → Prop}

theorem getattr_ok {b : Bool} {Q : Value → Shared → Prop} (I : Inv X pins σ H s) (e : H a = some (.ins C dx fs)) (c : Cls X.K C) (n : NoAttr X.K C f) (l : fs.lookup f = some v)
    (h : ∀ u s', Inv X pins σ H s' → RelV v u → Q u s') : wpAny (model X.prog X.w) A (getAttr (.ref a) f b) Q E s := by
  obtain ⟨mA, O, r, _, _, _⟩ := ins_get I.hok e
  obtain ⟨u, hu, ru⟩ := RelO.some_of (v := v) (o := mA f) (by rw [← l]; exact r f)
  exact get_map I.kIn O (c.get f) c.hd n hu (handed_of ru) (h u _ (I.tok _) ru)

theorem getcon_ok {b : Bool} {u : Value} {Q : Value → Shared → Prop} (I : Inv X pins σ H s) (e : H a = some (.ins C dx fs)) (c : Cls X.K C) (k : Con X.K C f v u) (l : fs.lookup f = none)
    (h : ∀ s', Inv X pins σ H s' → Q u s') : wpAny (model X.prog X.w) A (getAttr (.ref a) f b) Q E s := by
  obtain ⟨mA, O, r, _, _, _⟩ := ins_get I.hok e
  have hn : mA f = none := RelO.none_of (by rw [← l]; exact r f)
  exact get_const I.kIn O (c.get f) c.hd k.at_ k.get k.cp hn (handed_of k.rel) (h _ (I.tok _))

theorem getmeth_ok {m : Str} {g : Addr} {pl : Sem Bool} {Q : Value × List Value → Shared → Prop} (I : Inv X pins σ H s) (e : H a = some (.ins C dx fs)) (c : Cls X.K C) (k : Meth X.K C m g) (l : fs.lookup m = none)
    (h : Q (.ref g, [.ref a]) s) : wpAny (model X.prog X.w) A (getMethod (.ref a) m pl) Q E s := by
  obtain ⟨mA, O, r, _, _, _⟩ := ins_get I.hok e
  have hn : mA m = none := RelO.none_of (by rw [← l]; exact r m)
  exact get_meth I.kIn O (c.get m) k.at_ k.fn hn h

theorem setattr_ok {y : V} {u : Value} {Q : Unit → Shared → Prop} (I : Inv X pins σ H s) (e : H a = some (.ins C dx fs)) (c : Cls X.K C) (n : NoAttr X.K C f) (hl : fs.length < 1000) (ry : RelV y u)
    (h : ∀ s', Inv X pins σ (upd H a (.ins C dx (putF f y fs))) s' → Q () s') : wpAny (model X.prog X.w) A (setAttr (.ref a) f u) Q E s := by
  obtain ⟨mA, O, r, wi, _, ho⟩ := ins_get I.hok e
  have hz : (fs.map (·.1)).length ≤ sizeLine := by rw [List.length_map, sizeLine_eq]; omega
  refine set_map I.kIn O c.sa c.po n.taker c.hd wi hz fun h' O' sb => h _ ?_
  have hd : ∃ o, h'.get? dx = some o := let ⟨o, _, _, e', _⟩ := O'.ns; ⟨o, e'⟩
  refine I.write (x := a) (e := dx) (by rw [e]; exact True.intro) (.inr ho) (fun b q hb z => (sb.2 b hb).trans z) hd ?_
  refine ⟨by rw [upd_ne O.ne]; exact ho, ?_, O.ne, O'.obj, _, O'.ns, fun g => ?_, fun g hg => ?_⟩
  · have := length_putF f y fs; omega
  · show RelO ((putF f y fs).lookup g) (if g = f then some u else mA g)
    rw [lookup_putF]
    by_cases q : g = f
    · rw [if_pos q, if_pos q]; exact ry
    · rw [if_neg q, if_neg q]; exact r g
  · by_cases q : g = f
    · rw [q]; exact (keys_putF f y fs).1
    · refine (keys_putF f y fs).2 g (wi g fun z => hg ?_)
      show (if g = f then some u else mA g) = none
      rw [if_neg q]; exact z

/-- a new instance, tracked, without attributes -/
theorem Inv.made (I : Inv X pins σ H s) : Inv X pins σ (upd (upd H s.heap.objs.size (.own (s.heap.objs.size + 1))) (s.heap.objs.size + 1) (.ins C s.heap.objs.size []))
    { s with heap := (s.heap.push PySem.W.emptyDict).push (PySem.W.instObj C s.heap.objs.size) } := by
  have e1 : (s.heap.push PySem.W.emptyDict).get? s.heap.objs.size = some PySem.W.emptyDict := Heap.get?_push_size s.heap rfl
  have e2 : ((s.heap.push PySem.W.emptyDict).push (PySem.W.instObj C s.heap.objs.size)).get? (s.heap.objs.size + 1) = some (PySem.W.instObj C s.heap.objs.size) := by
    have := Heap.get?_push_size (s.heap.push PySem.W.emptyDict) (o := PySem.W.instObj C s.heap.objs.size) rfl
    rwa [Heap.size_push] at this
  have e3 : (s.heap.push PySem.W.emptyDict).Ns s.heap.objs.size (fun _ => none) := ⟨PySem.W.emptyDict, #[], _, e1, rfl, (fun e he => absurd he (by simp)), fun _ => rfl⟩
  have I1 := I.laid (a := s.heap.objs.size) (o := .own (s.heap.objs.size + 1)) (h' := s.heap.push PySem.W.emptyDict) (t' := s.toks) (fun b u q => Heap.get?_push_of_some _ q) (Nat.le_refl _) ⟨_, e1⟩
  refine I1.laid (a := s.heap.objs.size + 1) (o := .ins C s.heap.objs.size []) (t' := s.toks) (fun b u q => Heap.get?_push_of_some _ q) (Nat.le_of_eq (Heap.size_push _ _)) ?_
  have ne : s.heap.objs.size ≠ s.heap.objs.size + 1 := Nat.ne_of_lt (Nat.lt_succ_self _)
  refine ⟨by rw [upd_ne ne, upd_same], Nat.zero_le _, ne, e2, fun _ => none, (Heap.Ns1.of_empty e3).at fun o q => Heap.get?_push_of_some _ q, fun _ => True.intro, fun y hy => absurd rfl hy⟩

/-- e.f where nothing but the object is asked: through attributeBase (super) and the last hold -/
theorem attr_of {prog : Program} {w : World} {env : Env} {e : Expr} {f : Str} {pos : Pos} {s : Shared} {Q : Value → Shared → Prop} (hb : attributeBase e f env (eval e env) = eval e env)
    (h : wpAny (model prog w) A (eval e env) (fun o s₁ => wpAny (model prog w) A (getAttr o f true) Q E s₁) E s) : wpAny (model prog w) A (eval (.Attribute e f pos) env) Q E s :=
  Attribute_any_ h (by rw [arm_eval_Attribute, hb])
end

/-! ### readings and rules -/
/-- e.f, an attribute of the instance -/
def tFld (K : PySem.W.Frag) (ta : TE) (f : Str) : TE := fun σ H Q => ta σ H fun x H1 => ∃ a C dx fs v, x = .ref a ∧ H1 a = some (.ins C dx fs) ∧ Cls K C ∧ NoAttr K C f ∧ fs.lookup f = some v ∧ Q v H1
/-- e.f, a constant of the class -/
def tCon (K : PySem.W.Frag) (ta : TE) (f : Str) : TE := fun σ H Q => ta σ H fun x H1 => ∃ a C dx fs v u, x = .ref a ∧ H1 a = some (.ins C dx fs) ∧ Cls K C ∧ Con K C f v u ∧ fs.lookup f = none ∧ Q v H1
/-- e.f = value -/
def sFld (K : PySem.W.Frag) (ta tv : TE) (f : Str) : TS := fun D σ H => tv σ H fun y H1 => ta σ H1 fun x H2 => ∃ a C dx fs, x = .ref a ∧ H2 a = some (.ins C dx fs) ∧ Cls K C ∧ NoAttr K C f ∧ fs.length < 1000 ∧
  D.nx σ (upd H2 a (.ins C dx (putF f y fs)))
/-- an augmented operator on two values -/
def InOp (X : Cx) (op : Operator) (rd : V → V → Hp → VK → Prop) : Prop :=
  ∀ (pins : List (Addr × Obj)) (s : Shared) (σ : St) (H : Hp) (x y : V) (u v : Value) (Q : VK), Inv X pins σ H s → RelV x u → RelV y v → rd x y H Q → wpAny (model X.prog X.w) X.A (inplaceOp op u v) (EP X pins σ Q) X.xe s
/-- e.f op= value -/
def sFldAug (K : PySem.W.Frag) (ta tv : TE) (rd : V → V → Hp → VK → Prop) (f : Str) : TS := fun D σ H => ta σ H fun x H1 => ∃ a C dx fs v, x = .ref a ∧ H1 a = some (.ins C dx fs) ∧ Cls K C ∧ NoAttr K C f ∧ fs.lookup f = some v ∧
  tv σ H1 fun y H2 => rd v y H2 fun z H3 => ∃ dx' fs', H3 a = some (.ins C dx' fs') ∧ fs'.length < 1000 ∧ D.nx σ (upd H3 a (.ins C dx' (putF f z fs')))

section
variable {X : Cx} {o e value : Expr} {f : Str} {pos pos' tpos : Pos} {ta tv : TE}
theorem pe_fld (he : PE X e ta) (hb : attributeBase e f X.env (eval e X.env) = eval e X.env) : PE X (.Attribute e f pos) (tFld X.K ta f) := by
  intro pins s σ H Q I h
  refine attr_of hb (thn (he pins s σ H _ I h) fun u s1 ⟨x, H1, I1, rx, a, C, dx, fs, v, ex, ea, c, n, l, q⟩ => ?_)
  subst ex
  obtain rfl : u = Value.ref a := rx
  exact getattr_ok I1 ea c n l fun u' s2 I2 ru => ⟨v, H1, I2, ru, q⟩
theorem pe_con (he : PE X e ta) (hb : attributeBase e f X.env (eval e X.env) = eval e X.env) : PE X (.Attribute e f pos) (tCon X.K ta f) := by
  intro pins s σ H Q I h
  refine attr_of hb (thn (he pins s σ H _ I h) fun u s1 ⟨x, H1, I1, rx, a, C, dx, fs, v, u0, ex, ea, c, k, l, q⟩ => ?_)
  subst ex
  obtain rfl : u = Value.ref a := rx
  exact getcon_ok I1 ea c k l fun s2 I2 => ⟨v, H1, I2, k.rel, q⟩
theorem ps_fld (ha : PE X o ta) (hv : PE X value tv) (hs : swapsWith value (some (.Attribute o f pos')) pos.line X.env = pure false) : PS X (.Assign [.Attribute o f pos'] value pos) (sFld X.K ta tv f) := by
  intro pins s σ H D I h
  refine plainObj_wpAny_Assign_Attribute (thn (hv pins s σ H _ I h) fun u s1 ⟨y, H1, I1, ry, q⟩ => thn (ha pins s1 σ H1 _ I1 q) fun ov s2 ⟨x, H2, I2, rx, a, C, dx, fs, ex, ea, c, n, l, q2⟩ => ?_) hs
  subst ex
  obtain rfl : ov = Value.ref a := rx
  exact setattr_ok I2 ea c n l ry fun s3 I3 => ⟨σ, _, I3, q2⟩
theorem ps_fldaug {op : Operator} {rd : V → V → Hp → VK → Prop} (ha : PE X o ta) (hv : PE X value tv) (hop : InOp X op rd) : PS X (.AugAssign (.Attribute o f tpos) op value pos) (sFldAug X.K ta tv rd f) := by
  intro pins s σ H D I h
  refine wpAny_AugAssign_AttributeAny (thn (ha pins s σ H _ I h) fun ov s1 ⟨x, H1, I1, rx, a, C, dx, fs, v, ex, ea, c, n, l, q⟩ => ?_)
  subst ex
  obtain rfl : ov = Value.ref a := rx
  refine getattr_ok I1 ea c n l fun u s2 I2 ru => thn (hv pins s2 σ H1 _ I2 q) fun w3 s3 ⟨y, H2, I3, ry, q3⟩ => thn (hop pins s3 σ H2 v y u w3 _ I3 ru ry q3) fun w4 s4 ⟨z, H3, I4, rz, dx', fs', ea', l', q4⟩ => ?_
  exact setattr_ok I4 ea' c n l' rz fun s5 I5 => ⟨σ, _, I5, q4⟩
def rAdd : V → V → Hp → VK → Prop := fun x y H Q => ∃ i j, x = .int i ∧ y = .int j ∧ Q (.int (i + j)) H
def rSub : V → V → Hp → VK → Prop := fun x y H Q => ∃ i j, x = .int i ∧ y = .int j ∧ Q (.int (i - j)) H
theorem in_add : InOp X .Add rAdd := by
  rintro pins s σ H x y u v Q I rx ry ⟨i, j, rfl, rfl, q⟩
  obtain ⟨t, rfl⟩ := (show ∃ t, u = Value.int i t from rx)
  obtain ⟨t', rfl⟩ := (show ∃ t', v = Value.int j t' from ry)
  exact PyProof.Rows.iadd_int ⟨.int (i + j), H, I.tok _, ⟨_, rfl⟩, q⟩
theorem in_sub : InOp X .Sub rSub := by
  rintro pins s σ H x y u v Q I rx ry ⟨i, j, rfl, rfl, q⟩
  obtain ⟨t, rfl⟩ := (show ∃ t, u = Value.int i t from rx)
  obtain ⟨t', rfl⟩ := (show ∃ t', v = Value.int j t' from ry)
  exact PyProof.Rows.isub_int ⟨.int (i - j), H, I.tok _, ⟨_, rfl⟩, q⟩

/-- what is between an instance and its method: the tree of a method call -/
theorem methcall_of {pl : Sem Bool} {m : Str} {apos : Pos} {args : List Expr} {pins : List (Addr × Obj)} {s : Shared} {σ : St} {H : Hp} {Q : Value → Shared → Prop} {te : TE} (he : PE X e te) (I : Inv X pins σ H s)
    (h : te σ H fun x H1 => ∃ a C dx fs g, x = .ref a ∧ H1 a = some (.ins C dx fs) ∧ Cls X.K C ∧ Meth X.K C m g ∧ fs.lookup m = none ∧
      ∀ s1, Inv X pins σ H1 s1 → wpAny (model X.prog X.w) X.A (callWith pos (.ref g) [.ref a] (backTo pos (starEach args X.env)) (backToKw pos (keywordEach [] X.env))) Q X.xe s1)
    (ht : eval (.Call (.Attribute e m apos) args [] pos) X.env = (do
      let ov ← eval e X.env
      standAt apos.atName
      let (f, first) ← holding [ov] (getMethod ov m pl)
      callWith pos f first (backTo pos (starEach args X.env)) (backToKw pos (keywordEach [] X.env)))) :
    wpAny (model X.prog X.w) X.A (eval (.Call (.Attribute e m apos) args [] pos) X.env) Q X.xe s := by
  refine PySem.W.methodCall_KW (pl := pl) (thn (he pins s σ H _ I h) fun u s1 ⟨x, H1, I1, rx, a, C, dx, fs, g, ex, ea, c, k, l, q⟩ => ?_) ht
  subst ex
  obtain rfl : u = Value.ref a := rx
  exact getmeth_ok I1 ea c k l (q s1 I1)
end

/-! ### isinstance -/
section
variable {X : Cx} {pins : List (Addr × Obj)} {σ : St} {H : Hp} {s : Shared} {A : Around} {E : Value → Shared → Prop} {Q : Value → Shared → Prop} {c : Value} {b : Bool}
/-- the type of a value, as the fragment's deciders take it; for an instance its class -/
inductive TyOf (K : PySem.W.Frag) (H : Hp) : V → Value → Prop where
  | non : TyOf K H .non (.type "NoneType")
  | bl (x : Bool) : TyOf K H (.bl x) (.type "bool")
  | int (i : Int) : TyOf K H (.int i) (.type "int")
  | str (x : Str) : TyOf K H (.str x) (.type "str")
  | flt (x : UInt64) : TyOf K H (.flt x) (.type "float")
  | lst {a : Addr} {xs : List V} (e : H a = some (.lst xs)) : TyOf K H (.ref a) (.type "list")
  | frz {a : Addr} {o : Obj} {xs : List V} (e : H a = some (.frz o (.lst xs))) : TyOf K H (.ref a) (.type "list")
  | tup {a : Addr} {xs : List V} (e : H a = some (.tup xs)) : TyOf K H (.ref a) (.type "tuple")
  | dK {a : Addr} {kvs : List (Key × V)} (e : H a = some (.dK kvs)) : TyOf K H (.ref a) (.type "dict")
  | dT {a : Addr} {kvs : List (List Key × V)} (e : H a = some (.dT kvs)) : TyOf K H (.ref a) (.type "dict")
  | ins {a C dx : Addr} {fs : List (Str × V)} (e : H a = some (.ins C dx fs)) (cl : Cls K C) (ha : PySem.W.findIn K (.ref C) "__class__" = some (some (.builtin "object.__class__")))
      (hn : PySem.W.specialIn K (.builtin "object.__class__") "__get__" = some (some (.builtin "getset_descriptor.__get__"))) (htk : PySem.W.takesIn K (.builtin "object.__class__") = some true)
      (hm : PySem.W.mroIn K C (.type "object") = some true) : TyOf K H (.ref a) (.ref C)
/-- isinstance(x, c) for one class c, a built-in or an own one: kitOne's answer -/
theorem isinst_ok {x : V} {u t : Value} (I : Inv X pins σ H s) (rx : RelV x u) (ty : TyOf X.K H x t) (e : PySem.W.kitOne X.K t c = some b) (h : ∀ tk, Q (.bool b) { s with toks := tk }) :
    wpAny (model X.prog X.w) A (call (.builtin "isinstance") [u, c]) Q E s := by
  cases ty with
  | non => cases (show u = Value.none from rx); exact PySem.W.kia_one PySem.W.kitx_none I.kIn True.intro e (fun z => nomatch z) h
  | bl y => cases (show u = Value.bool y from rx); exact PySem.W.kia_one PySem.W.kitx_bool I.kIn True.intro e (fun z => nomatch z) h
  | int i => obtain ⟨t, q⟩ := (show ∃ t, u = Value.int i t from rx); cases q; exact PySem.W.kia_one PySem.W.kitx_int I.kIn True.intro e (fun z => nomatch z) h
  | str y => obtain ⟨t, q⟩ := (show ∃ t, u = Value.str y t from rx); cases q; exact PySem.W.kia_one PySem.W.kitx_str I.kIn True.intro e (fun z => nomatch z) h
  | flt y => obtain ⟨t, q⟩ := (show ∃ t, u = Value.float y t from rx); cases q; exact PySem.W.kia_one PySem.W.kitx_float I.kIn True.intro e (fun z => nomatch z) h
  | @lst a xs ea =>
    cases (show u = Value.ref a from rx)
    obtain ⟨_, _, n, _, h1⟩ := (show ObjOk X.prog X.w H s.heap a (.lst xs) from I.hok a _ ea)
    exact PySem.W.kia_one PySem.W.kitx_list I.kIn ⟨_, h1, rfl⟩ e (fun z => nomatch z) h
  | @frz a ob xs ea =>
    cases (show u = Value.ref a from rx)
    obtain ⟨_, _, _, n, _, h1⟩ := (show ObjOk X.prog X.w H s.heap a (.frz ob (.lst xs)) from I.hok a _ ea)
    exact PySem.W.kia_one PySem.W.kitx_list I.kIn ⟨_, h1, rfl⟩ e (fun z => nomatch z) h
  | @tup a xs ea =>
    cases (show u = Value.ref a from rx)
    obtain ⟨_, _, _, p⟩ := (show ObjOk X.prog X.w H s.heap a (.tup xs) from I.hok a _ ea)
    obtain ⟨o, h1, h2, _⟩ := p
    exact PySem.W.kia_one PySem.W.kitx_tuple I.kIn ⟨o, h1, h2⟩ e (fun z => nomatch z) h
  | @dK a kvs ea =>
    cases (show u = Value.ref a from rx)
    obtain ⟨_, _, vs, _, p⟩ := (show ObjOk X.prog X.w H s.heap a (.dK kvs) from I.hok a _ ea)
    obtain ⟨o, es, ep, h1, h2, _⟩ := p
    exact PySem.W.kia_one PySem.W.kitx_dict I.kIn ⟨o, h1, h2.1⟩ e (fun z => nomatch z) h
  | @dT a kvs ea =>
    cases (show u = Value.ref a from rx)
    obtain ⟨_, _, xs, _, o, es, ep, h1, h2, _⟩ := (show ObjOk X.prog X.w H s.heap a (.dT kvs) from I.hok a _ ea)
    exact PySem.W.kia_one PySem.W.kitx_dict I.kIn ⟨o, h1, h2.1⟩ e (fun z => nomatch z) h
  | @ins a C dx fs ea cl ha hn htk hm =>
    cases (show u = Value.ref a from rx)
    obtain ⟨mA, O, _⟩ := ins_get I.hok ea
    obtain ⟨od, J, _⟩ := O.look
    exact PySem.W.kia_one (PySem.W.kitx_own (cl.get _) cl.hd ha hn htk hm) I.kIn J e (fun z => nomatch z) h
end
end L2

namespace L2
open PySem PySem.Spec PyProof.Rows

/-! ### room -/
structure Room (k : Nat) (A : Around) : Prop where
  hd : A.handled = none
  dp : A.depth + 3 * k + 5 < recursionLimit
  un : A.units + 16 * k + 200 < cLine
theorem Room.mono {j k : Nat} {A : Around} (r : Room k A) (h : j ≤ k) : Room j A := ⟨r.hd, by have := r.dp; omega, by have := r.un; omega⟩
theorem Room.deeper {k : Nat} {A : Around} (r : Room (k + 1) A) (env : Env) : Room k (A.deeper env) :=
  ⟨r.hd, by have := r.dp; show A.depth + 1 + 3 * k + 5 < _; omega, by have := r.un; show A.units + 3 + 16 * k + 200 < _; omega⟩
theorem Room.in1 {k : Nat} {A : Around} (r : Room (k + 1) A) : Room k A.in1 :=
  ⟨r.hd, by have := r.dp; show A.depth + 3 * k + 5 < _; omega, by have := r.un; show A.units + 1 + 16 * k + 200 < _; omega⟩
theorem make_depth {A : Around} {C : Addr} {us : List Value} {kw : List (Str × Value)} : (A.under (.builtin "type.__call__" ⟨.ref C :: us, kw⟩)).depth = A.depth + 1 := by
  first | rfl | simp [Around.under, Code.weight, Code.isCreation, Code.isGuard, Code.isCaller, Code.frames, Code.isFrame, guardIds]
theorem make_units {A : Around} {C : Addr} {us : List Value} {kw : List (Str × Value)} : (A.under (.builtin "type.__call__" ⟨.ref C :: us, kw⟩)).units = A.units + 1 := by
  first | rfl | simp [Around.under, Code.cUnits, Code.frames, Code.isFrame]
theorem Room.make {k : Nat} {A : Around} (r : Room (k + 1) A) (C : Addr) (us : List Value) (kw : List (Str × Value)) : Room k (A.under (.builtin "type.__call__" ⟨.ref C :: us, kw⟩)) :=
  ⟨r.hd, by have := r.dp; rw [make_depth]; omega, by have := r.un; rw [make_units]; omega⟩
theorem Room.depth {k : Nat} {A : Around} (r : Room k A) : A.depth < recursionLimit := by have := r.dp; omega
theorem Room.units {k : Nat} {A : Around} (r : Room k A) : A.units + 64 < cLine := by have := r.un; omega
theorem Room.units0 {k : Nat} {A : Around} (r : Room k A) : A.units < cLine := by have := r.un; omega

/-! ### argument lists and displays -/
def tNil : TA := fun _ H Q => Q [] H
def tCons (ta : TE) (tr : TA) : TA := fun σ H Q => ta σ H fun x H1 => tr σ H1 fun xs H2 => Q (x :: xs) H2
section
variable {X : Cx} {e : Expr} {es : List Expr} {te : TE} {t : TA} {pos : Pos}
theorem pa_nil : PA X [] tNil := fun _ _ _ _ H Q I h => Calls.spliced_nil ⟨[], H, I, .nil, h⟩
theorem pa_cons (ha : PE X e te) (hr : PA X es t) (hs : starEach (e :: es) X.env = (false, eval e X.env) :: starEach es X.env := by rfl) : PA X (e :: es) (tCons te t) := by
  intro pos pins s σ H Q I h
  rw [hs]
  show wpAny _ _ (spliced ((false, eval e X.env) :: backTo pos (starEach es X.env))) _ _ s
  refine Calls.spliced_cons (thn (ha pins s σ H _ I h) fun u s1 ⟨x, H1, I1, r1, q1⟩ => ?_)
  exact thn (hr pos pins s1 σ H1 _ I1 q1) fun us s2 ⟨xs, H2, I2, r2, q2⟩ => ⟨x :: xs, H2, I2, .cons r1 r2, q2⟩

/-- a tuple, a list of written items -/
def tTup (t : TA) : TE := fun σ H Q => t σ H fun xs H1 => xs.length ≤ sizeLine ∧ ∀ p, H1 p = none → Q (.ref p) (upd H1 p (.tup xs))
def tLst (t : TA) : TE := fun σ H Q => t σ H fun xs H1 => xs.length ≤ sizeLine ∧ ∀ p, H1 p = none → Q (.ref p) (upd H1 p (.lst xs))
theorem pe_tup {x1} (h : PA X es t) : PE X (.Tuple es x1 pos) (tTup t) := by
  intro pins s σ H Q I hq
  refine wpAny_Tuple_spliced (thn (h pos pins s σ H _ I hq) fun us s1 ⟨xs, H1, I1, r, z, q⟩ => ⟨by rw [← r.length]; exact z, ?_⟩)
  have hf : H1 s1.heap.objs.size = none := I1.hok.fresh (Nat.le_refl _)
  refine ⟨.ref s1.heap.objs.size, upd H1 s1.heap.objs.size (.tup xs), I1.laid (t' := s1.toks) (fun b u e => Heap.get?_push_of_some _ e) (Nat.le_refl _) ?_, rfl, q _ hf⟩
  exact ⟨z, us, r, ⟨_, Heap.get?_push_size _ rfl, rfl, _, rfl⟩⟩
theorem pe_lst (h : PA X es t) : PE X (.List es pos) (tLst t) := by
  intro pins s σ H Q I hq
  refine wpAny_List_spliced (thn (h pos pins s σ H _ I hq) fun us s1 ⟨xs, H1, I1, r, z, q⟩ => ⟨by rw [← r.length]; exact z, ?_⟩)
  have hf : H1 s1.heap.objs.size = none := I1.hok.fresh (Nat.le_refl _)
  refine ⟨.ref s1.heap.objs.size, upd H1 s1.heap.objs.size (.lst xs), I1.laid (t' := s1.toks) (fun b u e => Heap.get?_push_of_some _ e) (Nat.le_refl _) ?_, rfl, q _ hf⟩
  exact ⟨z, us, 0, r, Heap.get?_push_size _ rfl⟩
end

/-! ### what a def promises -/
/-- a def's promise: the bound arguments in the parameters' order, the heap, the wanted end, the wanted exception -/
abbrev Sp := List V → Hp → VK → XK → Prop
/-- how an exception lies behind a call (file 08 gives it): the callers' frames, abstract heap and state ahead of the call, the wish, the exception, the state -/
abbrev CXT := List Env → Hp → Shared → XK → Value → Shared → Prop

/-- the state at a call -/
structure Env0 (P : Program) (w : World) (K : PySem.W.Frag) (mg : Str → Option Value) (base : Heap) (A : Around) (outer : List Env) (s : Shared) (H : Hp) : Prop where
  frames : A.frames = some outer
  mod : Mod K mg base
  bs : ∀ b o, base.get? b = some o → s.heap.get? b = some o ∧ H b = none
  bsz : base.objs.size ≤ s.heap.objs.size
  funs : s.heap.FunFrames base outer
  frf : ∀ b ∈ frs outer, H b = none
  hok : HOk P w H s.heap
  bare : AllBare s.gens
/-- a call's end -/
def CE (outer : List Env) (P : Program) (w : World) (H : Hp) (s : Shared) (Q : VK) (u : Value) (s' : Shared) : Prop :=
  ∃ v H', s'.os = s.os ∧ AllBare s'.gens ∧ Un (frs outer) [] H H' s.heap s'.heap ∧ HOk P w H' s'.heap ∧ RelV v u ∧ Q v H'
def CR (CX : CXT) (outer : List Env) (P : Program) (w : World) (H : Hp) (s : Shared) (Q : VK) (E : XK) (r : Result) (s' : Shared) : Prop :=
  match r with
  | .ok (.ret u) => CE outer P w H s Q u s'
  | .ok _ => False
  | .error e => CX outer H s E e s'
structure FnOk (P : Program) (w : World) (K : PySem.W.Frag) (mg : Str → Option Value) (base : Heap) (CX : CXT) (k : Nat) (f : Addr) (fd : FuncData) (ps : List Str) (sp : Sp) : Prop where
  len : ∀ vs H Q E, sp vs H Q E → vs.length = ps.length
  run : ∀ (A : Around) (outer : List Env) (s : Shared) (H : Hp) (args : Args) (us : List Value) (vs : List V) (Q : VK) (E : XK), Room k A → Env0 P w K mg base A outer s H → BindsTo s fd args (ps.zip us) → Vals vs us → sp vs H Q E →
    codeAny (model P w) A (.call (.ref f) args) (CR CX outer P w H s Q E) s
theorem FnOk.mono {P : Program} {w : World} {K : PySem.W.Frag} {mg : Str → Option Value} {base : Heap} {CX : CXT} {j k : Nat} {f : Addr} {fd : FuncData} {ps : List Str} {sp : Sp} (F : FnOk P w K mg base CX j f fd ps sp) (h : j ≤ k) :
    FnOk P w K mg base CX k f fd ps sp := ⟨F.len, fun A outer s H args us vs Q E hr => F.run A outer s H args us vs Q E (hr.mono h)⟩
/-- a weaker promise -/
theorem FnOk.imp {P : Program} {w : World} {K : PySem.W.Frag} {mg : Str → Option Value} {base : Heap} {CX : CXT} {k : Nat} {f : Addr} {fd : FuncData} {ps : List Str} {sp sp' : Sp} (F : FnOk P w K mg base CX k f fd ps sp)
    (h : ∀ vs H Q E, sp' vs H Q E → sp vs H Q E) : FnOk P w K mg base CX k f fd ps sp' :=
  ⟨fun vs H Q E q => F.len vs H Q E (h _ _ _ _ q), fun A outer s H args us vs Q E hr he hb hv hs => F.run A outer s H args us vs Q E hr he hb hv (h _ _ _ _ hs)⟩

theorem Env0.make {P : Program} {w : World} {K : PySem.W.Frag} {mg : Str → Option Value} {base : Heap} {A : Around} {outer : List Env} {s : Shared} {H : Hp} (e : Env0 P w K mg base A outer s H) (C : Addr) (us : List Value) (kw : List (Str × Value)) :
    Env0 P w K mg base (A.under (.builtin "type.__call__" ⟨.ref C :: us, kw⟩)) outer s H := ⟨by first | exact e.frames | (simpa [Around.under, Code.envs, Code.isFrame, pushEnvs] using e.frames), e.mod, e.bs, e.bsz, e.funs, e.frf, e.hok, e.bare⟩
theorem Env0.in1 {P : Program} {w : World} {K : PySem.W.Frag} {mg : Str → Option Value} {base : Heap} {A : Around} {outer : List Env} {s : Shared} {H : Hp} (e : Env0 P w K mg base A outer s H) :
    Env0 P w K mg base A.in1 outer s H := ⟨e.frames, e.mod, e.bs, e.bsz, e.funs, e.frf, e.hok, e.bare⟩

section
variable {X : Cx} {pins : List (Addr × Obj)} {σ : St} {H : Hp} {s s' : Shared}
/-- from a body: what a callee wants -/
theorem Inv.env0 (I : Inv X pins σ H s) : Env0 X.prog X.w X.K X.mg X.base X.A X.stack s H :=
  ⟨I.ok.frames, I.ok.mod, I.bs, Nat.le_trans I.ok.bsz I.sz, I.stack, I.stkFree, I.hok, I.bare⟩
/-- behind a call -/
theorem Inv.after {Q : VK} {u : Value} (I : Inv X pins σ H s) (h : CE X.stack X.prog X.w H s Q u s') : EP X pins σ Q u s' := by
  obtain ⟨v, H', os, bare, un, hok, r, q⟩ := h
  obtain ⟨hh, g, d, t, os'⟩ := s'
  obtain rfl : os' = s.os := os
  exact ⟨v, H', I.call (h' := hh) (g' := g) (d' := d) (t' := t) (ch := []) un hok bare (fun b z => absurd z (by simp)), r, q⟩
end

/-! ### calls -/
/-- f(..): the written arguments, then the defaults dvs; E: what is wanted of an exception -/
def tCall (sp : Sp) (dvs : List V) (E : XK) (t : TA) : TE := fun σ H Q => t σ H fun vs H1 => sp (vs ++ dvs) H1 Q E
/-- o.m(..) of an instance of the class at C -/
def tMeth (C : Addr) (m : Str) (sp : Sp) (dvs : List V) (E : XK) (ta : TE) (t : TA) : TE := fun σ H Q => ta σ H fun x H1 => ∃ a dx fs, x = .ref a ∧ H1 a = some (.ins C dx fs) ∧ fs.lookup m = none ∧
  t σ H1 fun vs H2 => sp (x :: (vs ++ dvs)) H2 Q E
/-- C(..): a new instance and its dict, then __init__ -/
def tMake (C : Addr) (sp : Sp) (dvs : List V) (E : XK) (t : TA) : TE := fun σ H Q => t σ H fun vs H1 => ∀ x dx, H1 x = none → H1 dx = none → dx ≠ x →
  sp (.ref x :: (vs ++ dvs)) (upd (upd H1 dx (.own x)) x (.ins C dx [])) (fun v H2 => v = .non ∧ Q (.ref x) H2) E

/-- how the parameters are bound: us the positional arguments, kw the keywords' values by name, ds the defaults that fill up -/
def Binds (K : PySem.W.Frag) (fd : FuncData) (ps : List Str) (ds : List Value) : Prop :=
  ∀ (s : Shared) (us : List Value), K.In s.heap → (us ++ ds).length = ps.length → BindsTo s fd ⟨us, []⟩ (ps.zip (us ++ ds))
/-- every parameter is given -/
theorem Binds.all {K : PySem.W.Frag} {fd : FuncData} {ps : List Str} (h : ∀ us : List Value, us.length = ps.length → bindArgs fd ⟨us, []⟩ = pure (ps.zip us)) : Binds K fd ps [] := fun s us _ hl => by
  rw [List.append_nil] at hl ⊢
  exact .of_eq (h us hl)

/-- an exception of a callee reaches what this body wants of exceptions -/
def Passes (CX : CXT) (X : Cx) (E : XK) : Prop := ∀ (pins : List (Addr × Obj)) (σ : St) (H : Hp) (s : Shared) (e : Value) (s' : Shared), Inv X pins σ H s → CX X.stack H s E e s' → X.xe e s'

section
variable {X : Cx} {CX : CXT} {k : Nat} {f C : Addr} {fd : FuncData} {ps : List Str} {sp : Sp} {dvs : List V} {ds : List Value} {E : XK} {x m : Str} {p pos apos : Pos} {e o : Expr} {es : List Expr} {ta : TE} {t : TA}

/-- the callee runs -/
theorem run_fn {pins : List (Addr × Obj)} {σ : St} {H : Hp} {s : Shared} {Q : VK} {us : List Value} {vs : List V} (F : FnOk X.prog X.w X.K X.mg X.base CX k f fd ps sp) (hr : Room k X.A) (hb : Binds X.K fd ps ds) (hd : Vals dvs ds) (hx : Passes CX X E)
    (I : Inv X pins σ H s) (r : Vals vs us) (h : sp (vs ++ dvs) H Q E) : wpAny (model X.prog X.w) X.A (call (.ref f) us) (EP X pins σ Q) X.xe s := by
  have r2 : Vals (vs ++ dvs) (us ++ ds) := r.append hd
  have hl : (us ++ ds).length = ps.length := by rw [← r2.length]; exact F.len _ _ _ _ h
  refine wpAny_call (codeAny_mono (F.run X.A X.stack s H ⟨us, []⟩ (us ++ ds) (vs ++ dvs) Q E hr I.env0 (hb s us I.kIn hl) r2 h) fun r s' hq => ?_)
  cases r with
  | error e => exact hx pins σ H s e s' I hq
  | ok fl =>
    cases fl with
    | ret u => exact I.after hq
    | next => exact False.elim hq
    | brk => exact False.elim hq
    | cont => exact False.elim hq

theorem pe_call (F : FnOk X.prog X.w X.K X.mg X.base CX k f fd ps sp) (hr : Room k X.A) (hg : Gl X x) (hm : X.mg x = some (.ref f)) (hk : PySem.W.keepIn X.K (.ref f) = true) (hb : Binds X.K fd ps ds) (hd : Vals dvs ds) (hx : Passes CX X E)
    (ha : PA X (e :: es) t) (hdb : (x == ("__debug__" : Str)) = false := by decide) (he : starEach (e :: es) X.env = (false, eval e X.env) :: starEach es X.env := by rfl) (hpl : (backTo pos (starEach es X.env)).any (·.1) = false := by rfl) :
    PE X (.Call (.Name x p) (e :: es) [] pos) (tCall sp dvs E t) := by
  intro pins s σ H Q I h
  refine wpAny_Call_Name_kw (ld_glob I hg hm ?_ hdb)
  refine PySem.W.callWith_K (h₀ := X.base) I.ok.mod.kin hk (thn (ha pos pins s σ H _ I h) fun us s1 ⟨vs, H1, I1, r, q⟩ => ⟨I1.kIn, ?_⟩) he hpl
  exact run_fn F hr hb hd hx I1 r q
theorem pe_call0 (F : FnOk X.prog X.w X.K X.mg X.base CX k f fd ps sp) (hr : Room k X.A) (hg : Gl X x) (hm : X.mg x = some (.ref f)) (hk : PySem.W.keepIn X.K (.ref f) = true) (hb : Binds X.K fd ps ds) (hd : Vals dvs ds) (hx : Passes CX X E)
    (hdb : (x == ("__debug__" : Str)) = false := by decide) : PE X (.Call (.Name x p) [] [] pos) (tCall sp dvs E tNil) := by
  intro pins s σ H Q I h
  refine wpAny_Call_Name_kw (ld_glob I hg hm ?_ hdb)
  exact PySem.W.callWith_K0 I.kIn hk (run_fn (us := []) F hr hb hd hx I .nil h)

/-- o.m(e, ..) -/
theorem pe_meth {pl : Sem Bool} (he : PE X o ta) (c : Cls X.K C) (hm : Meth X.K C m f) (F : FnOk X.prog X.w X.K X.mg X.base CX k f fd ps sp) (hr : Room k X.A) (hb : Binds X.K fd ps ds) (hd : Vals dvs ds) (hx : Passes CX X E) (ha : PA X (e :: es) t)
    (hst : starEach (e :: es) X.env = (false, eval e X.env) :: starEach es X.env := by rfl) (hpl : (backTo pos (starEach es X.env)).any (·.1) = false := by rfl)
    (ht : eval (.Call (.Attribute o m apos) (e :: es) [] pos) X.env = (do
      let ov ← eval o X.env
      standAt apos.atName
      let (f, first) ← holding [ov] (getMethod ov m pl)
      callWith pos f first (backTo pos (starEach (e :: es) X.env)) (backToKw pos (keywordEach [] X.env))) := by rfl) :
    PE X (.Call (.Attribute o m apos) (e :: es) [] pos) (tMeth C m sp dvs E ta t) := by
  intro pins s σ H Q I h
  refine PySem.W.methodCall_KW (pl := pl) (thn (he pins s σ H _ I h) fun u s1 ⟨x, H1, I1, rx, a, dx, fs, ex, ea, l, q⟩ => ?_) ht
  subst ex
  obtain rfl : u = Value.ref a := rx
  refine getmeth_ok I1 ea c hm l ?_
  refine PySem.W.callWith_K (first := [.ref a]) (h₀ := X.base) I.ok.mod.kin hm.kp (thn (ha pos pins s1 σ H1 _ I1 q) fun us s2 ⟨vs, H2, I2, r, q2⟩ => ⟨I2.kIn, ?_⟩) hst hpl
  exact run_fn (us := .ref a :: us) (vs := .ref a :: vs) F hr hb hd hx I2 (.cons rfl r) q2
/-- o.m() -/
theorem pe_meth0 {pl : Sem Bool} (he : PE X o ta) (c : Cls X.K C) (hm : Meth X.K C m f) (F : FnOk X.prog X.w X.K X.mg X.base CX k f fd ps sp) (hr : Room k X.A) (hb : Binds X.K fd ps ds) (hd : Vals dvs ds) (hx : Passes CX X E)
    (ht : eval (.Call (.Attribute o m apos) [] [] pos) X.env = (do
      let ov ← eval o X.env
      standAt apos.atName
      let (f, first) ← holding [ov] (getMethod ov m pl)
      callWith pos f first (backTo pos (starEach [] X.env)) (backToKw pos (keywordEach [] X.env))) := by rfl) :
    PE X (.Call (.Attribute o m apos) [] [] pos) (tMeth C m sp dvs E ta tNil) := by
  intro pins s σ H Q I h
  refine PySem.W.methodCall_KW (pl := pl) (thn (he pins s σ H _ I h) fun u s1 ⟨x, H1, I1, rx, a, dx, fs, ex, ea, l, q⟩ => ?_) ht
  subst ex
  obtain rfl : u = Value.ref a := rx
  refine getmeth_ok I1 ea c hm l ?_
  exact PySem.W.callWith_K0 (first := [.ref a]) I1.kIn hm.kp (run_fn (us := [.ref a]) (vs := [.ref a]) F hr hb hd hx I1 (.cons rfl .nil) q)

/-- what a class must have to be made -/
structure Mk (K : PySem.W.Frag) (C f : Addr) : Prop where
  makes : PySem.W.makesIn K C = true
  init : PySem.W.findIn K (.ref C) "__init__" = some (some (.ref f))
  fn : PySem.W.isFn K (.ref f) = true
  kp : PySem.W.keepIn K (.ref C) = true

theorem run_make {pins : List (Addr × Obj)} {σ : St} {H : Hp} {s : Shared} {Q : VK} {us : List Value} {vs : List V} (M : Mk X.K C f) (F : FnOk X.prog X.w X.K X.mg X.base CX k f fd ps sp) (hr : Room (k + 1) X.A) (hb : Binds X.K fd ps ds) (hd : Vals dvs ds)
    (hx : Passes CX X E) (I : Inv X pins σ H s) (r : Vals vs us)
    (h : ∀ x dx, H x = none → H dx = none → dx ≠ x → sp (.ref x :: (vs ++ dvs)) (upd (upd H dx (.own x)) x (.ins C dx [])) (fun v H2 => v = .non ∧ Q (.ref x) H2) E) :
    wpAny (model X.prog X.w) X.A (call (.ref C) us) (EP X pins σ Q) X.xe s := by
  have hq := h (s.heap.objs.size + 1) s.heap.objs.size (I.hok.fresh (Nat.le_succ _)) (I.hok.fresh (Nat.le_refl _)) (Nat.ne_of_lt (Nat.lt_succ_self _))
  have I2 := Inv.made (C := C) I
  have r2 : Vals (V.ref (s.heap.objs.size + 1) :: (vs ++ dvs)) (Value.ref (s.heap.objs.size + 1) :: (us ++ ds)) := .cons rfl (r.append hd)
  have hl : (Value.ref (s.heap.objs.size + 1) :: us ++ ds).length = ps.length := by
    have e := r2.length
    rw [F.len _ _ _ _ hq] at e
    exact e.symm
  refine wpAny_call (make_map (f := f) I.kIn M.makes M.init (beq_iff_eq.mp M.fn) (codeAny_mono (F.run _ X.stack _ _ ⟨Value.ref (s.heap.objs.size + 1) :: us, []⟩ (Value.ref (s.heap.objs.size + 1) :: (us ++ ds)) _ _ E (hr.make C us [])
    (I2.env0.make C us []) (hb _ (Value.ref (s.heap.objs.size + 1) :: us) I2.kIn hl) r2 hq) fun r s' hq' => ?_))
  cases r with
  | error e => exact hx pins σ _ _ e s' I2 hq'
  | ok fl =>
    cases fl with
    | ret u =>
      obtain ⟨v, H', I3, rv, ev, q3⟩ := I2.after hq'
      subst ev
      exact ⟨rv, ⟨V.ref (s.heap.objs.size + 1), H', I3, rfl, q3⟩⟩
    | next => exact False.elim hq'
    | brk => exact False.elim hq'
    | cont => exact False.elim hq'
theorem pe_make (M : Mk X.K C f) (F : FnOk X.prog X.w X.K X.mg X.base CX k f fd ps sp) (hr : Room (k + 1) X.A) (hg : Gl X x) (hm : X.mg x = some (.ref C)) (hb : Binds X.K fd ps ds) (hd : Vals dvs ds) (hx : Passes CX X E)
    (ha : PA X (e :: es) t) (hdb : (x == ("__debug__" : Str)) = false := by decide) (he : starEach (e :: es) X.env = (false, eval e X.env) :: starEach es X.env := by rfl) (hpl : (backTo pos (starEach es X.env)).any (·.1) = false := by rfl) :
    PE X (.Call (.Name x p) (e :: es) [] pos) (tMake C sp dvs E t) := by
  intro pins s σ H Q I h
  refine wpAny_Call_Name_kw (ld_glob I hg hm ?_ hdb)
  refine PySem.W.callWith_K (h₀ := X.base) I.ok.mod.kin M.kp (thn (ha pos pins s σ H _ I h) fun us s1 ⟨vs, H1, I1, r, q⟩ => ⟨I1.kIn, ?_⟩) he hpl
  exact run_make M F hr hb hd hx I1 r q
theorem pe_make0 (M : Mk X.K C f) (F : FnOk X.prog X.w X.K X.mg X.base CX k f fd ps sp) (hr : Room (k + 1) X.A) (hg : Gl X x) (hm : X.mg x = some (.ref C)) (hb : Binds X.K fd ps ds) (hd : Vals dvs ds) (hx : Passes CX X E)
    (hdb : (x == ("__debug__" : Str)) = false := by decide) : PE X (.Call (.Name x p) [] [] pos) (tMake C sp dvs E tNil) := by
  intro pins s σ H Q I h
  refine wpAny_Call_Name_kw (ld_glob I hg hm ?_ hdb)
  exact PySem.W.callWith_K0 I.kIn M.kp (run_make (us := []) M F hr hb hd hx I .nil h)
end

/-! ### keywords -/
/-- the values of the keywords, from the left -/
def PK (X : Cx) (kws : List Keyword) (t : TA) : Prop :=
  ∀ (pos : Pos) (pins : List (Addr × Obj)) (s : Shared) (σ : St) (H : Hp) (Q : List V → Hp → Prop), Inv X pins σ H s → t σ H Q → wpAny (model X.prog X.w) X.A (evalAll ((backToKw pos (keywordEach kws X.env)).map (·.2))) (AP X pins σ Q) X.xe s
section
variable {X : Cx} {CX : CXT} {k : Nat} {f C : Addr} {fd : FuncData} {ps ks : List Str} {sp : Sp} {E : XK} {x m : Str} {p pos apos kpos : Pos} {e o : Expr} {es : List Expr} {kws : List Keyword} {te ta : TE} {t tk : TA} {nm : Option Str}
theorem pk_nil : PK X [] tNil := fun _ _ _ _ H Q I h => wpAny_evalAll_nil ⟨[], H, I, .nil, h⟩
theorem pk_cons (ha : PE X e te) (hr : PK X kws t) : PK X (⟨nm, e, kpos⟩ :: kws) (tCons te t) := by
  intro pos pins s σ H Q I h
  show wpAny _ _ (evalAll ((do let v ← eval e X.env; standAt pos; pure v) :: (backToKw pos (keywordEach kws X.env)).map (·.2))) _ _ s
  refine wpAny_evalAll_cons (wpAny_bind (thn (ha pins s σ H _ I h) fun u s1 ⟨x, H1, I1, r1, q1⟩ => wpAny_bind (wpAny_standAt (wpAny_pure ?_))))
  exact thn (hr pos pins s1 σ H1 _ I1 q1) fun us s2 ⟨xs, H2, I2, r2, q2⟩ => ⟨x :: xs, H2, I2, .cons r1 r2, q2⟩

/-- how a call with keywords binds: g puts the positional values us and the keywords' values ws (names ks) in the parameters' order, defaults among them -/
structure KBinds (K : PySem.W.Frag) (fd : FuncData) (ps ks : List Str) (g : List Value → List Value → List Value) (gV : List V → List V → List V) : Prop where
  to : ∀ (s : Shared) (us ws : List Value), K.In s.heap → (g us ws).length = ps.length → BindsTo s fd ⟨us, ks.zip ws⟩ (ps.zip (g us ws))
  rel : ∀ {vs : List V} {us : List Value} {zs : List V} {ws : List Value}, Vals vs us → Vals zs ws → Vals (gV vs zs) (g us ws)
def tCallK (sp : Sp) (gV : List V → List V → List V) (E : XK) (t tk : TA) : TE := fun σ H Q => t σ H fun vs H1 => tk σ H1 fun zs H2 => sp (gV vs zs) H2 Q E
variable {g : List Value → List Value → List Value} {gV : List V → List V → List V}
theorem run_fnk {pins : List (Addr × Obj)} {σ : St} {H : Hp} {s : Shared} {Q : VK} {us ws : List Value} {vs zs : List V} (F : FnOk X.prog X.w X.K X.mg X.base CX k f fd ps sp) (hr : Room k X.A) (hb : KBinds X.K fd ps ks g gV) (hx : Passes CX X E)
    (I : Inv X pins σ H s) (r : Vals vs us) (rz : Vals zs ws) (h : sp (gV vs zs) H Q E) : wpAny (model X.prog X.w) X.A (call (.ref f) us (ks.zip ws)) (EP X pins σ Q) X.xe s := by
  have r2 := hb.rel r rz
  have hl : (g us ws).length = ps.length := by rw [← r2.length]; exact F.len _ _ _ _ h
  refine wpAny_call (codeAny_mono (F.run X.A X.stack s H ⟨us, ks.zip ws⟩ (g us ws) (gV vs zs) Q E hr I.env0 (hb.to s us ws I.kIn hl) r2 h) fun r s' hq => ?_)
  cases r with
  | error e => exact hx pins σ H s e s' I hq
  | ok fl =>
    cases fl with
    | ret u => exact I.after hq
    | next => exact False.elim hq
    | brk => exact False.elim hq
    | cont => exact False.elim hq
/-- f(e, .., k = v, ..) -/
theorem pe_callK (F : FnOk X.prog X.w X.K X.mg X.base CX k f fd ps sp) (hr : Room k X.A) (hg : Gl X x) (hm : X.mg x = some (.ref f)) (hk : PySem.W.keepIn X.K (.ref f) = true) (hb : KBinds X.K fd ps ks g gV) (hx : Passes CX X E)
    (ha : PA X (e :: es) t) (hkw : PK X kws tk) (hall : (backToKw pos (keywordEach kws X.env)).all (·.1.isSome) = true := by rfl) (hks : (backToKw pos (keywordEach kws X.env)).filterMap (·.1) = ks := by rfl)
    (hdb : (x == ("__debug__" : Str)) = false := by decide) (he : starEach (e :: es) X.env = (false, eval e X.env) :: starEach es X.env := by rfl)
    (hpl : ((backTo pos (starEach (e :: es) X.env)).any (·.1) || (backToKw pos (keywordEach kws X.env)).any (·.1.isNone)) = false := by rfl) :
    PE X (.Call (.Name x p) (e :: es) kws pos) (tCallK sp gV E t tk) := by
  intro pins s σ H Q I h
  refine wpAny_Call_Name_kw (ld_glob I hg hm ?_ hdb)
  refine PySem.W.callWith_KW (h₀ := X.base) I.ok.mod.kin hk hall (thn (ha pos pins s σ H _ I h) fun us s1 ⟨vs, H1, I1, r, q⟩ => ?_) hpl he
  refine thn (hkw pos pins s1 σ H1 _ I1 q) fun ws s2 ⟨zs, H2, I2, rz, q2⟩ => ⟨I2.kIn, ?_⟩
  rw [hks]
  exact run_fnk F hr hb hx I2 r rz q2
end

/-! ### a def's body keeps its promise -/
/-- names: the parameters first -/
structure FnScope (N P : List Str) (sc : Scope) : Prop where
  kind : sc.kind = .function
  co : sc.isCoroutine = false
  gen : sc.isGenerator = false
  nd : N.Nodup
  pre : N.take P.length = P
  par : ∀ x ∈ P, sc.names.lookup x = some .local ∨ sc.names.lookup x = some .cell
  nofree : ∀ y ∈ sc.names, y.2 ≠ .free

theorem bindL_out {kindOf : Str → Option NameKind} {x : Str} : ∀ {binds : List (Str × Value)} {m : Str → Option Value}, (∀ v, (x, v) ∉ binds) → bindL kindOf binds m x = m x
  | [], _, _ => rfl
  | (n, v) :: r, m, h => by
    unfold bindL
    rw [bindL_out fun w hw => h w (List.mem_cons_of_mem _ hw)]
    split
    · have : x ≠ n := by rintro rfl; exact h v List.mem_cons_self
      simp [this]
    · rfl
theorem bindC_out {kindOf : Str → Option NameKind} {x : Str} : ∀ {binds : List (Str × Value)} {m : Str → Option Value}, (∀ v, (x, v) ∉ binds) → bindC kindOf binds m x = m x
  | [], _, _ => rfl
  | (n, v) :: r, m, h => by
    unfold bindC
    rw [bindC_out fun w hw => h w (List.mem_cons_of_mem _ hw)]
    split
    · rfl
    · have : x ≠ n := by rintro rfl; exact h v List.mem_cons_self
      simp [this]
theorem bindL_get {kindOf : Str → Option NameKind} {x : Str} {v : Value} : ∀ {P : List Str} {vs : List Value} {i : Nat} {m : Str → Option Value}, P.Nodup → P[i]? = some x → vs[i]? = some v → kindOf x = some .local →
    bindL kindOf (P.zip vs) m x = some v
  | [], _, _, _, _, h, _, _ => by simp at h
  | _ :: _, [], _, _, _, _, h, _ => by simp at h
  | p :: P, w :: vs, 0, m, nd, h1, h2, hk => by
    simp at h1 h2; subst h1; subst h2
    show bindL kindOf ((p, w) :: P.zip vs) m p = _
    unfold bindL
    rw [bindL_out fun v hv => (List.nodup_cons.mp nd).1 (List.of_mem_zip hv).1, if_pos hk]
    simp
  | p :: P, w :: vs, i + 1, m, nd, h1, h2, hk => by
    show bindL kindOf ((p, w) :: P.zip vs) m x = _
    unfold bindL
    exact bindL_get (i := i) (List.nodup_cons.mp nd).2 (by simpa using h1) (by simpa using h2) hk
theorem bindC_get {kindOf : Str → Option NameKind} {x : Str} {v : Value} : ∀ {P : List Str} {vs : List Value} {i : Nat} {m : Str → Option Value}, P.Nodup → P[i]? = some x → vs[i]? = some v → kindOf x ≠ some .local →
    bindC kindOf (P.zip vs) m x = some v
  | [], _, _, _, _, h, _, _ => by simp at h
  | _ :: _, [], _, _, _, _, h, _ => by simp at h
  | p :: P, w :: vs, 0, m, nd, h1, h2, hk => by
    simp at h1 h2; subst h1; subst h2
    show bindC kindOf ((p, w) :: P.zip vs) m p = _
    unfold bindC
    rw [bindC_out fun v hv => (List.nodup_cons.mp nd).1 (List.of_mem_zip hv).1, if_neg hk]
    simp
  | p :: P, w :: vs, i + 1, m, nd, h1, h2, hk => by
    show bindC kindOf ((p, w) :: P.zip vs) m x = _
    unfold bindC
    exact bindC_get (i := i) (List.nodup_cons.mp nd).2 (by simpa using h1) (by simpa using h2) hk

/-- the names' values at the entry -/
def start (N : List Str) (vs : List V) : St := vs.map some ++ List.replicate (N.length - vs.length) none

/-- the context of a def's body, at its entry; an exception leaves the frame, then lies as CX says -/
def cxOf (CX : CXT) (P : Program) (w : World) (K : PySem.W.Frag) (mg : Str → Option Value) (base : Heap) (N : List Str) (qual : Str) (scope : Scope) (f : Addr) (cd : Value) (A : Around) (outer : List Env) (s : Shared) (H : Hp) (E : XK) : Cx where
  prog := P
  w := w
  K := K
  mg := mg
  base := base
  A := A.deeper (envOfC qual scope s.heap.objs.size f cd)
  N := N
  s₀ := s
  H₀ := H
  env := envOfC qual scope s.heap.objs.size f cd
  outer := outer
  stack := envOfC qual scope s.heap.objs.size f cd :: outer
  ex := []
  calm := true
  fn := fun _ => true
  pn := []
  xe := fun e s' => wpAny (model P w) (A.deeper (envOfC qual scope s.heap.objs.size f cd)) (leaving (envOfC qual scope s.heap.objs.size f cd) e) (fun _ s'' => CX outer H s E e s'') (fun e' s'' => CX outer H s E e' s'') s'

theorem cell_has {sc : Scope} {n : Nat} {x : Str} (h : sc.names.lookup x = some .cell) : ∃ c, (cellsFrom n sc.names []).lookup x = some c := by
  have q := PySem.W.cellsFrom_some sc.names n [] (.inl h)
  exact Option.isSome_iff_exists.mp q

theorem inv_start {CX : CXT} {P : Program} {w : World} {K : PySem.W.Frag} {mg : Str → Option Value} {base : Heap} {N ps : List Str} {qual : Str} {scope : Scope} {f : Addr} {cd : Value} {A : Around} {outer : List Env} {s s1 : Shared} {H : Hp} {E : XK} {us : List Value} {vs : List V}
    (S : FnScope N ps scope) (hd : A.handled = none) (e0 : Env0 P w K mg base A outer s H) (hl : vs.length = ps.length) (r : Vals vs us)
    (x : InCallC s s.heap.objs.size (bindL (envOfC qual scope s.heap.objs.size f cd).kindOf (ps.zip us) fun _ => none) (cellsFrom (s.heap.objs.size + 1) scope.names []) (bindC (envOfC qual scope s.heap.objs.size f cd).kindOf (ps.zip us) fun _ => none) s1) :
    Inv (cxOf CX P w K mg base N qual scope f cd A outer s H E) [] (start N vs) H s1 := by
  have hpl : ps.length ≤ N.length := by have := congrArg List.length S.pre; rw [List.length_take] at this; omega
  obtain ⟨h1, tk, rfl, hk⟩ := x.done
  have noA : ∀ b : Addr, b ∉ (cxOf CX P w K mg base N qual scope f cd A outer s H E).ex := fun b z => absurd (show b ∈ ([] : List Addr) from z) (by simp)
  refine ⟨⟨e0.mod, S.kind, rfl, rfl, Nat.le_refl _, fun y z c h1 h2 => ?_, fun y hy => ?_, fun y c _ h => ?_, fun _ => hd, Around.frames_deeper e0.frames, .inr ⟨rfl, rfl⟩, fun b z => absurd z (noA b), e0.bs, e0.bsz, fun b _ _ => noA b, fun b z => absurd z (noA b), e0.funs, e0.frf⟩,
    rfl, e0.bare, Un.kept hk, ⟨_, x.toInCall.ns, fun i y v h1 h2 h3 => ?_⟩, fun y c h => ⟨_, x.cell y c h⟩, e0.hok.fresh (Nat.le_refl _), fun y c h => ?_, fun p hp => absurd (show p ∈ ([] : List (Addr × Obj)) from hp) (by simp), e0.hok.kept hk, ?_⟩
  · exact name_of_addr x.apart (PySem.mem_of_lookup h1) (PySem.mem_of_lookup h2)
  · have hy : scope.names.lookup y = some .cell ∨ scope.names.lookup y = some .free := hy
    rcases hy with hy | hy
    · exact cell_has hy
    · exact absurd rfl (S.nofree _ (PySem.mem_of_lookup hy))
  · exact Nat.le_of_lt (x.above y c (PySem.mem_of_lookup h))
  · have hi : i < vs.length := by
      unfold start at h2
      by_cases hi : i < vs.length
      · exact hi
      · rw [List.getElem?_append_right (by simpa using hi)] at h2
        rw [List.getElem?_replicate] at h2
        split at h2 <;> cases h2
    have ha : vs[i]? = some v := by
      unfold start at h2
      rw [List.getElem?_append_left (by simpa using hi), List.getElem?_map] at h2
      cases e : vs[i]? with
      | none => rw [e] at h2; cases h2
      | some a => rw [e] at h2; cases h2; rfl
    obtain ⟨u, hu, rv⟩ := r.get ha
    have hp : ps[i]? = some y := by
      rw [← S.pre, List.getElem?_take_of_lt (by omega)]; exact h1
    have ndP : ps.Nodup := by rw [← S.pre]; exact S.nd.sublist (List.take_sublist _ _)
    refine ⟨u, rv, ?_⟩
    rcases S.par y (List.mem_of_getElem? hp) with k | k
    · exact .inl ⟨k, bindL_get ndP hp hu k⟩
    · obtain ⟨c, e⟩ := cell_has (n := s.heap.objs.size + 1) k
      refine .inr ⟨.inl k, c, e, ?_⟩
      have q := x.cell y c e
      rw [bindC_get ndP hp hu (by show scope.names.lookup y ≠ _; rw [k]; decide)] at q
      exact q
  · exact e0.hok.fresh (Nat.le_of_lt (x.above y c (PySem.mem_of_lookup h)))
  · unfold start
    show _ = N.length
    rw [List.length_append, List.length_map, List.length_replicate]
    omega

/-- THE RULE: a def (or a method) of the text, by its body. The body's reading t is chosen for each entry; it is run at the parameters' values -/
theorem fn_of {CX : CXT} {P : Program} {w : World} {K : PySem.W.Frag} {mg : Str → Option Value} {base : Heap} {k : Nat} {f : Addr} {name qual : Str} {params : Arguments} {body : List Stmt} {scope : Scope} {dV kV doc pm cdv ct oc : Value} {an od : Option Addr}
    {osl : Array (Option Value)} {N ps : List Str} {sp : Sp} (lk : K.lookup f = some ⟨oc, od, .func (PySem.W.fnOf name qual params body scope dV kV doc pm an cdv ct), osl⟩) (hcd : PySem.W.codeIn K cdv qual = true) (S : FnScope N ps scope)
    (len : ∀ vs H Q E, sp vs H Q E → vs.length = ps.length)
    (hbody : ∀ (A : Around) (outer : List Env) (s : Shared) (H : Hp) (vs : List V) (Q : VK) (E : XK), Room k (A.deeper (envOfC qual scope s.heap.objs.size f cdv)) → sp vs H Q E →
      ∃ t, PSs (cxOf CX P w K mg base N qual scope f cdv A outer s H E) body t ∧ t { nx := fun _ H' => Q .non H', rt := Q } (start N vs) H) :
    FnOk P w K mg base CX (k + 1) f (PySem.W.fnOf name qual params body scope dV kV doc pm an cdv ct) ps sp := by
  refine ⟨len, fun A outer s H args us vs Q E hr e0 hb r hsp => ?_⟩
  have hl := len _ _ _ _ hsp
  have KX : K.In s.heap := e0.mod.kin.keeps fun b o e => (e0.bs b o e).1
  have lim : s.heap.NoLimit := e0.mod.nolimit.keeps fun b o e => (e0.bs b o e).1
  have hkind : ∀ y ∈ ps.zip us, scope.names.lookup y.1 = some .local ∨ (scope.names.lookup y.1 = some .cell ∧ ((cellsFrom (s.heap.objs.size + 1) scope.names []).lookup y.1).isSome = true) := fun ⟨n, v⟩ hy => by
    rcases S.par n (List.of_mem_zip hy).1 with q | q
    · exact .inl q
    · exact .inr ⟨q, PySem.W.cellsFrom_some _ _ _ (.inl q)⟩
  refine codeAny_call_function hr.depth (KX _ _ lk) rfl S.co S.gen rfl (PySem.W.codeRec_of KX hcd) (hb _ _ _ _ ?_)
  refine wpAny_newFunctionEnv_cells S.kind hkind fun env he s1 x => ?_
  subst he
  refine ⟨lim.keeps x.toInCall.keep, codeAny_func ?_⟩
  obtain ⟨t, ht, hq⟩ := hbody A outer s H vs Q E (hr.deeper _) hsp
  have I : Inv (cxOf CX P w K mg base N qual scope f cdv A outer s H E) [] (start N vs) H s1 := inv_start S hr.hd e0 hl r x
  refine wpAny_mono (ht [] s1 (start N vs) H _ I hq) (fun fl s' hs => ?_) fun e s' hs => hs
  have fin : ∀ {σ' : St} {H' : Hp} {v : V} {u : Value}, Inv (cxOf CX P w K mg base N qual scope f cdv A outer s H E) [] σ' H' s' → RelV v u → Q v H' → CE outer P w H s Q u s' :=
    fun {σ' H' v u} J rv q => ⟨v, H', J.os, J.bare, J.base, J.hok, rv, q⟩
  cases fl with
  | ret u =>
    obtain ⟨v, σ', H', J, rv, q⟩ := hs
    exact fin J rv q
  | next =>
    obtain ⟨σ', H', J, q⟩ := hs
    exact fin (v := V.non) (u := Value.none) J rfl q
  | brk =>
    obtain ⟨_, _, _, q⟩ := hs
    exact False.elim q
  | cont =>
    obtain ⟨_, _, _, q⟩ := hs
    exact False.elim q
end L2

namespace L2
open PySem PySem.Spec PyProof.Rows
section
variable {X : Cx} {x : Str} {p pos : Pos} {e : Expr} {es : List Expr} {t : TA} {id T : String} {r : List V → Hp → VK → Prop}

def tCB (r : List V → Hp → VK → Prop) (t : TA) : TE := fun σ H Q => t σ H fun vs H1 => r vs H1 Q
/-- f(e, ..), f a built-in function -/
theorem pe_callB (hc : CallR X (.builtin id) r) (hg : Gl X x) (hm : X.mg x = none) (hv : bootBuiltins x = some (.builtin id)) (ha : PA X (e :: es) t) (hn : x ≠ "__name__" := by decide) (hdb : (x == ("__debug__" : Str)) = false := by decide)
    (he : starEach (e :: es) X.env = (false, eval e X.env) :: starEach es X.env := by rfl) (hpl : (backTo pos (starEach es X.env)).any (·.1) = false := by rfl) : PE X (.Call (.Name x p) (e :: es) [] pos) (tCB r t) := by
  intro pins s σ H Q I h
  refine wpAny_Call_Name_kw (ld_blt I hg hm hv ?_ hn hdb)
  exact PyProof.Rows.callWith_builtin1 (thn (ha pos pins s σ H _ I h) fun us s1 ⟨vs, H1, I1, r1, q1⟩ => hc pins s1 σ H1 vs us Q I1 r1 q1) he hpl
/-- T(e, ..), T a built-in type -/
theorem pe_callTy (hc : CallR X (.type T) r) (hg : Gl X x) (hm : X.mg x = none) (hv : bootBuiltins x = some (.type T)) (ha : PA X (e :: es) t) (hn : x ≠ "__name__" := by decide) (hdb : (x == ("__debug__" : Str)) = false := by decide)
    (he : starEach (e :: es) X.env = (false, eval e X.env) :: starEach es X.env := by rfl) (hpl : (backTo pos (starEach es X.env)).any (·.1) = false := by rfl) : PE X (.Call (.Name x p) (e :: es) [] pos) (tCB r t) := by
  intro pins s σ H Q I h
  refine wpAny_Call_Name_kw (ld_blt I hg hm hv ?_ hn hdb)
  exact PyProof.Rows.callWith_type1 (thn (ha pos pins s σ H _ I h) fun us s1 ⟨vs, H1, I1, r1, q1⟩ => hc pins s1 σ H1 vs us Q I1 r1 q1) he hpl
/-- T() -/
theorem pe_callTy0 (hc : CallR X (.type T) r) (hg : Gl X x) (hm : X.mg x = none) (hv : bootBuiltins x = some (.type T)) (hn : x ≠ "__name__" := by decide) (hdb : (x == ("__debug__" : Str)) = false := by decide) :
    PE X (.Call (.Name x p) [] [] pos) (tCB r tNil) := by
  intro pins s σ H Q I h
  refine wpAny_Call_Name_kw (ld_blt I hg hm hv ?_ hn hdb)
  exact PyProof.Rows.callWith_type0 (hc pins s σ H [] [] Q I .nil h)
end
end L2

namespace HT
open PySem PyProof.Rows

/-- t < u of tuples of ints -/
def lexLt : List Int → List Int → Bool
  | [], [] => false
  | [], _ :: _ => true
  | _ :: _, [] => false
  | x :: xs, y :: ys => if x = y then lexLt xs ys else decide (x < y)
theorem lexLt_cons (x y : Int) (xs ys : List Int) : lexLt (x :: xs) (y :: ys) = if x = y then lexLt xs ys else decide (x < y) := rfl
theorem lexLt_nil_nil : lexLt [] [] = false := rfl
theorem lexLt_nil_cons (y : Int) (ys : List Int) : lexLt [] (y :: ys) = true := rfl
theorem lexLt_cons_nil (x : Int) (xs : List Int) : lexLt (x :: xs) [] = false := rfl

theorem eqAt_int (A : Around) (s : Shared) (a : Int) (t : Tok) (c : Int) (u : Tok) : ∃ e, SeqAt.EqAt A s (.int a t) (.int c u) e ∧ (e = true ↔ a = c) :=
  ⟨(a == c), SeqAt.EqAt.int_int a t c u, by simp⟩
theorem rcLt_int (A : Around) (s : Shared) (a : Int) (t : Tok) (c : Int) (u : Tok) (prog : Program) (w : World) (E : Value → Shared → Prop) (Q : Value → Shared → Prop) (h : Q (.bool (decide (a < c))) s) :
    wpAny (model prog w) A (richCompare .Lt (.int a t) (.int c u)) Q E s :=
  (PyProof.Rows.lt_int h : wpAny (model prog w) A (compareOp .Lt (.int a t) (.int c u)) Q E s)

section
open PySem.SeqAt
open PySem.AutoSeq1 (wpAny_loadPart')
open PySem.MeetsSeq PySem.MeetsSeq2 PySem.MeetsSeq3

theorem tuple_lt_ints (l b : Addr) (items items2 : Array Value) (n n2 : Nat) (dd dd2 : Option Addr) (sl sl2 : Array (Option Value)) (ns ms : List Int) (hi : IntsAre items.toList ns) (hj : IntsAre items2.toList ms) :
    Meets (Builtin.«tuple.__lt__» ⟨[.ref l, .ref b], []⟩)
      (fun _ R s => s.heap.get? l = some { cls := .type "tuple", dict := dd, data := .seq items n, slots := sl } ∧ s.heap.get? b = some { cls := .type "tuple", dict := dd2, data := .seq items2 n2, slots := sl2 } ∧
        R (.ok (.ret (.bool (lexLt ns ms)))) s) :=
  .of_wp fun prog w A R s h => by
    obtain ⟨hp, g, d, tk, os⟩ := s; obtain ⟨hl, hb, h⟩ := h
    have f2 := AutoSeq1.sub_tuple_tuple
    have z1 : items.size = ns.length := by rw [← hi.length]; simp
    have z2 : items2.size = ms.length := by rw [← hj.length]; simp
    wp_walk using wpAny_loadPart' hl, wpAny_loadPart' hb, wpAny_forIn_list _ (fun rest b s' => b.1 = none ∧ s' = ⟨hp, g, d, tk, os⟩ ∧ ∃ (vs ws : List Value) (ns' ms' : List Int), rest = vs.zip ws ∧
      IntsAre vs ns' ∧ IntsAre ws ms' ∧ ns'.length + items2.size = ms'.length + items.size ∧ R (.ok (.ret (.bool (lexLt ns' ms')))) ⟨hp, g, d, tk, os⟩) _
    case turn =>
      rintro ⟨y, x⟩ rest b s' ⟨hb', rfl, vs, ws, ns', ms', hz, hvi, hwi, hlen, hR⟩
      cases hvi with
      | nil => rw [List.zip_nil_left] at hz; cases hz
      | cons a t hvi' =>
        cases hwi with
        | nil => rw [List.zip_nil_right] at hz; cases hz
        | cons c u hwi' =>
          rw [List.zip_cons_cons] at hz
          injection hz with hyx hrest
          injection hyx with hy hx
          subst hy hx
          rw [lexLt_cons] at hR
          simp only [List.length_cons] at hlen
          obtain ⟨e, he, hiff⟩ := eqAt_int A.in1 ⟨hp, g, d, tk, os⟩ a t c u
          refine wpAny_bind (he prog w _ _ ?_)
          cases e with
          | true =>
            rw [if_pos (hiff.mp rfl)] at hR
            wp_walk
            exact ⟨rfl, rfl, _, _, _, _, hrest, hvi', hwi', by omega, hR⟩
          | false =>
            rw [if_neg (fun q => absurd (hiff.mpr q) Bool.false_ne_true)] at hR
            have hri := rcLt_int A.in1 ⟨hp, g, d, tk, os⟩ a t c u prog w
            wp_walk using hri
            exact ⟨_, rfl, by simpa using hR⟩
    case fin =>
      rintro ⟨b1, b2⟩ s' ⟨hb', rfl, vs, ws, ns', ms', hz, hvi, hwi, hlen, hR⟩
      simp only at hb'
      subst hb'
      have hv : lexLt ns' ms' = decide (items.size < items2.size) := by
        cases hvi with
        | nil =>
          cases hwi with
          | nil =>
            simp only [List.length_nil] at hlen
            rw [lexLt_nil_nil]
            exact (decide_eq_false (by omega)).symm
          | cons c u hw =>
            simp only [List.length_nil, List.length_cons] at hlen
            rw [lexLt_nil_cons]
            exact (decide_eq_true (by omega)).symm
        | cons a t hv =>
          cases hwi with
          | nil =>
            simp only [List.length_nil, List.length_cons] at hlen
            rw [lexLt_cons_nil]
            exact (decide_eq_false (by omega)).symm
          | cons c u hw =>
            rw [List.zip_cons_cons] at hz
            cases hz
      rw [hv] at hR
      wp_walk
      exact ⟨_, rfl, by simpa [Builtin.Tuple.tupleCompareSizes] using hR⟩
    case h =>
      exact ⟨rfl, rfl, items.toList, items2.toList, ns, ms, rfl, hi, hj, by omega, h⟩
end

section
variable {prog : Program} {w : World} {A : Around} {E : Value → Shared → Prop} {s : Shared}

theorem lt_tupInts {l b : Addr} {items items2 : Array Value} {ns ms : List Int} {Q : Value → Shared → Prop} (hl : IsTup s.heap l items) (hb : IsTup s.heap b items2) (hi : IntsAre items.toList ns) (hj : IntsAre items2.toList ms)
    (hu : A.units < cLine) (h : Q (.bool (lexLt ns ms)) s) : wpAny (model prog w) A (compareOp .Lt (.ref l) (.ref b)) Q E s := by
  obtain ⟨⟨cls, dd, data, sl⟩, ho, hc, n, hd⟩ := id hl
  obtain ⟨⟨cls2, dd2, data2, sl2⟩, ho2, hc2, n2, hd2⟩ := id hb
  simp only at hc hd hc2 hd2
  subst hc hd hc2 hd2
  exact richCompare_meets_room (op := .Lt) ⟨_, ho, rfl⟩ ⟨_, ho2, rfl⟩ PySem.F.slot_tuple_lt PySem.F.entry_tuple_lt (PySem.F.args_tuple_lt_2 _ _) (tuple_lt_ints l b items items2 n n2 dd dd2 sl sl2 ns ms hi hj)
    ⟨ho, ho2, show Value.bool (lexLt ns ms) ≠ Value.notImplemented ∧ Q (.bool (lexLt ns ms)) s from ⟨(fun x => nomatch x), h⟩⟩ hu

/-- t + u, t not empty -/
theorem cat_tup {t b : Addr} {vs ws : List Value} {Q : Value → Shared → Prop} (ht : IsTup s.heap t vs.toArray) (hb : IsTup s.heap b ws.toArray) (hv : vs ≠ [])
    (h1 : ws = [] → Q (.ref t) s) (h2 : ws ≠ [] → Q (.ref s.heap.objs.size) { s with heap := s.heap.push { cls := .type "tuple", data := .seq (vs ++ ws).toArray } })
    (hsz : vs.length + ws.length ≤ sizeLine) : wpAny (model prog w) A (binaryOp .Add (.ref t) (.ref b)) Q E s := by
  obtain ⟨⟨cls, dd, data, sl⟩, ho, hc, n, hd⟩ := id ht
  obtain ⟨⟨cls2, dd2, data2, sl2⟩, ho2, hc2, n2, hd2⟩ := id hb
  simp only at hc hd hc2 hd2
  subst hc hd hc2 hd2
  have e : vs.toArray ++ ws.toArray = (vs ++ ws).toArray := by simp
  by_cases hw : ws = []
  · exact concat_meets ⟨_, ho, rfl⟩ ⟨_, ho2, rfl⟩ noFill_tuple_add seq_tuple_add PySem.F.slot_tuple_add PySem.F.entry_tuple_add (PySem.F.args_tuple_add_2 _ _)
      (tuple_addW1 t b vs.toArray ws.toArray n n2 dd dd2 sl sl2 (by simpa using hv) (by simp [hw])) ⟨ho, ho2, h1 hw⟩
  · refine concat_meets ⟨_, ho, rfl⟩ ⟨_, ho2, rfl⟩ noFill_tuple_add seq_tuple_add PySem.F.slot_tuple_add PySem.F.entry_tuple_add (PySem.F.args_tuple_add_2 _ _)
      (tuple_addW2 t b vs.toArray ws.toArray n n2 dd dd2 sl sl2 (by simpa using hv) (by simpa using hw) (by rw [List.size_toArray, List.size_toArray]; exact hsz)) ⟨ho, ho2, ?_⟩
    rw [e]
    exact h2 hw

/-! ### t[a:b], not the whole -/
/-- a slice's bound as a place among n (d where it is left out) -/
def sIx (n d : Nat) : Option Int → Nat
  | none => d
  | some v => if v < 0 then (v + (n : Int)).toNat else min v.toNat n
theorem sIx_none (n d : Nat) : sIx n d none = d := rfl
theorem sIx_nat (n d k : Nat) : sIx n d (some (k : Int)) = min k n := by
  show (if (k : Int) < 0 then ((k : Int) + (n : Int)).toNat else min (k : Int).toNat n) = min k n
  rw [if_neg (by omega), Int.toNat_natCast]
theorem sIx_le (n d : Nat) (hd : d ≤ n) (o : Option Int) : sIx n d o ≤ n := by
  cases o with
  | none => exact hd
  | some v =>
    show (if v < 0 then (v + (n : Int)).toNat else min v.toNat n) ≤ n
    by_cases hv : v < 0
    · rw [if_pos hv]; omega
    · rw [if_neg hv]; exact Nat.min_le_right _ _
theorem clip_eq (v : Int) (n d : Nat) : (if v < 0 then max (v + (n : Int)) 0 else min v (n : Int)) = ((sIx n d (some v) : Nat) : Int) := by
  show (if v < 0 then max (v + (n : Int)) 0 else min v (n : Int)) = (((if v < 0 then (v + (n : Int)).toNat else min v.toNat n) : Nat) : Int)
  by_cases hv : v < 0
  · simp only [if_pos hv]; omega
  · simp only [if_neg hv]; omega
theorem adjust_gen (lo hi : Option Int) (n : Nat) : Builtin.Slice.sliceAdjust lo hi 1 (n : Int) = (((sIx n 0 lo : Nat) : Int), ((sIx n n hi : Nat) : Int)) := by
  have h1 : ¬ ((1 : Int) < 0) := by omega
  unfold Builtin.Slice.sliceAdjust
  simp only [h1, if_false]
  refine Prod.ext ?_ ?_
  · cases lo with
    | none => rfl
    | some v => exact clip_eq v n 0
  · cases hi with
    | none => rfl
    | some v => exact clip_eq v n n
theorem places_gen (i j : Nat) : Builtin.Slice.slicePlaces (i : Int) (j : Int) 1 = j - i := by
  unfold Builtin.Slice.slicePlaces
  have h1 : (1 : Int) > 0 := by omega
  simp only [h1, if_true, Int.ediv_one]
  split <;> omega
theorem slicePart_ {v : Value} {o : Option Int} {Q : Option Int → Shared → Prop} (p : IsPart v o) (h : Q o s) : wpAny (model prog w) A (Builtin.Slice.slicePartIndex v) Q E s := by
  cases p with
  | none => exact slicePart_none h
  | int i t => exact slicePart_int h
theorem sliceApplied_gen {sl : Addr} {vl vu : Value} {lo hi : Option Int} {n : Nat} {Q : Int × Int × Nat → Shared → Prop} (hs : s.heap.IsSliceOf sl vl vu .none) (pl : IsPart vl lo) (pu : IsPart vu hi)
    (h : Q (((sIx n 0 lo : Nat) : Int), 1, sIx n n hi - sIx n 0 lo) s) : wpAny (model prog w) A (Builtin.Slice.sliceApplied (.ref sl) (pure (n : Int))) Q E s := by
  obtain ⟨os, hos, hcs, hds⟩ := id hs
  unfold Builtin.Slice.sliceApplied Builtin.Slice.sliceFields
  refine wpAny_bind (wpAny_bind (wpAny_field hos hds (x := vl) rfl (wpAny_bind (wpAny_field hos hds (x := vu) rfl (wpAny_bind (wpAny_field hos hds (x := .none) rfl (wpAny_pure ?_)))))))
  refine wpAny_bind (slicePart_none ?_)
  show wpAny _ _ (if ((1 : Int) == 0) = true then _ else _) _ _ s
  rw [if_neg (by decide)]
  refine wpAny_bind (slicePart_ pl (wpAny_bind (slicePart_ pu (wpAny_bind (wpAny_pure ?_)))))
  show wpAny _ _ (match Builtin.Slice.sliceAdjust lo hi 1 (n : Int) with | (lo, hi) => pure (lo, (1 : Int), Builtin.Slice.slicePlaces lo hi 1)) _ _ s
  rw [adjust_gen lo hi n]
  show wpAny _ _ (pure (((sIx n 0 lo : Nat) : Int), (1 : Int), Builtin.Slice.slicePlaces ((sIx n 0 lo : Nat) : Int) ((sIx n n hi : Nat) : Int) 1)) _ _ s
  rw [places_gen]
  exact wpAny_pure h
theorem pick_gen (xs : Array Value) (i k : Nat) : ((List.range k).filterMap fun (m : Nat) => xs[((i : Int) + (m : Int) * 1).toNat]?).toArray = ((xs.toList.drop i).take k).toArray := by
  have e : (fun (m : Nat) => xs[((i : Int) + (m : Int) * 1).toNat]?) = fun m => xs[i + m]? := by
    funext m
    have : ((i : Int) + (m : Int) * 1).toNat = i + m := by omega
    rw [this]
  rw [e]
  have := pick_run xs i k
  rw [List.filterMap_map] at this
  have e2 : ((fun x => xs[x]?) ∘ fun x => i + x) = fun m => xs[i + m]? := rfl
  rw [e2] at this
  rw [this]

theorem getItem_tuple_cut {t sl : Addr} {items : Array Value} {vl vu : Value} {lo hi : Option Int} {Q : Value → Shared → Prop} (ht : IsTup s.heap t items) (hs : s.heap.IsSliceOf sl vl vu .none) (pl : IsPart vl lo) (pu : IsPart vu hi)
    (hw : ¬ (sIx items.size 0 lo = 0 ∧ sIx items.size items.size hi = items.size))
    (h : Q (.ref s.heap.objs.size) { s with heap := s.heap.push { cls := .type "tuple", data := .seq ((items.toList.drop (sIx items.size 0 lo)).take (sIx items.size items.size hi - sIx items.size 0 lo)).toArray } })
    (hsz : items.size ≤ sizeLine) : wpAny (model prog w) A (getItem (.ref t) (.ref sl)) Q E s := by
  have htake : sizeOk (.seq ((items.toList.drop (sIx items.size 0 lo)).take (sIx items.size items.size hi - sIx items.size 0 lo)).toArray) := by
    show ((items.toList.drop (sIx items.size 0 lo)).take (sIx items.size items.size hi - sIx items.size 0 lo)).toArray.size ≤ sizeLine
    rw [List.size_toArray, List.length_take, List.length_drop, Array.length_toList]
    omega
  have hj : sIx items.size items.size hi ≤ items.size := sIx_le _ _ (Nat.le_refl _) hi
  obtain ⟨os, hos, hcs, hds⟩ := id hs
  have hTs : s.TypeIs (.ref sl) "slice" := ⟨os, hos, hcs⟩
  unfold getItem
  try with_reducible refine wpAny_holding ?_
  first | refine wpAny_bind (wpAny_pure ?_) | skip
  refine wpAny_bind (wpAny_sequenceKey ht.typeIs (by decide) ?_)
  refine wpAny_bind (wpAny_callSpecial?_slot (name := Str.ofString "__getitem__") ht.typeIs PyProof.Rows.slot_tuple_getitem
    (wpAny_call_entry PyProof.Rows.slot_tuple_getitem ht.typeIs entry_tuple_getitem ?_ (args_tuple_getitem _ _)))
  show wpAny _ _ (Builtin.Tuple.tupleItemsOf (.ref t) >>= _) _ _ s
  refine wpAny_bind (tupleItemsOf_ ht ?_)
  refine wpAny_bind (wpAny_typeOf hTs ?_)
  rw [if_pos (by decide)]
  refine wpAny_bind (sliceApplied_gen hs pl pu ?_)
  have hno : ¬ ((((sIx items.size 0 lo : Nat) : Int) == 0 && (1 : Int) == 1 && (sIx items.size items.size hi - sIx items.size 0 lo) == items.size) = true) := by
    intro q
    rw [Bool.and_eq_true, Bool.and_eq_true] at q
    have q1 : ((sIx items.size 0 lo : Nat) : Int) = 0 := eq_of_beq q.1.1
    have q2 : sIx items.size items.size hi - sIx items.size 0 lo = items.size := eq_of_beq q.2
    exact hw ⟨by omega, by omega⟩
  show wpAny _ _ (if (((sIx items.size 0 lo : Nat) : Int) == 0 && (1 : Int) == 1 && (sIx items.size items.size hi - sIx items.size 0 lo) == items.size) = true then _ else _) _ _ s
  rw [if_neg hno, pick_gen]
  first
    | exact wpAny_bind (m := Builtin.Tuple.tupleExact _) (wpAny_newObj_type (wpAny_pure ⟨_, rfl, wpAny_pure h⟩) htake)
    | exact wpAny_bind (m := Builtin.Tuple.tupleExact _) (wpAny_newObj_type (wpAny_bind (wpAny_pure (wpAny_pure ⟨_, rfl, wpAny_pure h⟩))) htake)
    | exact wpAny_bind (wpAny_bind (m := Builtin.Tuple.tupleExact _) (wpAny_newObj_type (wpAny_pure (wpAny_pure ⟨_, rfl, wpAny_pure h⟩)) htake))
    | exact wpAny_bind (wpAny_bind (m := Builtin.Tuple.tupleExact _) (wpAny_newObj_type (wpAny_pure ⟨_, rfl, wpAny_pure h⟩) htake))
end
end HT

namespace L2
open PySem PySem.Spec PyProof.Rows

/-! ### the parts of a slice -/
abbrev TO := St → Hp → (Option Int → Hp → Prop) → Prop
/-- a slice's part (left out, or an int) -/
def PO (X : Cx) (e : Option Expr) (t : TO) : Prop :=
  ∀ (pins : List (Addr × Obj)) (s : Shared) (σ : St) (H : Hp) (Q : Option Int → Hp → Prop), Inv X pins σ H s → t σ H Q →
    wpAny (model X.prog X.w) X.A (evalPart e X.env) (fun u s' => ∃ o H', Inv X pins σ H' s' ∧ IsPart u o ∧ Q o H') X.xe s
def tNoPart : TO := fun _ H Q => Q none H
def tPart (t : TE) : TO := fun σ H Q => t σ H fun x H1 => ∃ i, x = .int i ∧ Q (some i) H1

theorem intsAre_of {ns : List Int} : ∀ {us : List Value}, Vals (ns.map V.int) us → IntsAre us ns := by
  induction ns with
  | nil => intro us r; rw [List.map_nil] at r; cases r; exact .nil
  | cons n ns ih =>
    intro us r
    rw [List.map_cons] at r
    cases r with
    | cons r1 r2 =>
      obtain ⟨t, e⟩ := r1
      subst e
      exact .cons n t (ih r2)

section
variable {X : Cx} {e : Expr} {te : TE} {lo hi : Option Expr} {tl th : TO} {pos p2 : Pos}

theorem po_none : PO X none tNoPart := by
  intro pins s σ H Q I h
  rw [evalPart_none]
  exact wpAny_pure ⟨none, H, I, .none, h⟩
theorem po_some (h : PE X e te) : PO X (some e) (tPart te) := by
  intro pins s σ H Q I hw
  rw [evalPart_some]
  refine thn (h pins s σ H _ I hw) fun u s1 ⟨x, H1, I1, r1, q1⟩ => ?_
  obtain ⟨i, rfl, q⟩ := q1
  obtain ⟨t, rfl⟩ := r1
  exact ⟨some i, H1, I1, .int i t, q⟩

/-- what a slice of a value is, by values: the slice object stands at sl -/
def SlR (X : Cx) (r : V → Option Int → Option Int → Hp → VK → Prop) : Prop :=
  ∀ (pins : List (Addr × Obj)) (s : Shared) (σ : St) (H : Hp) (x : V) (v vl vu : Value) (lo hi : Option Int) (sl : Addr) (Q : VK), Inv X pins σ H s → RelV x v → s.heap.IsSliceOf sl vl vu .none → IsPart vl lo → IsPart vu hi → r x lo hi H Q →
    ∃ T id, typeLookup (.type T) "__getitem__" = pure (some (.builtin id)) ∧ s.TypeIs v T ∧ wpAny (model X.prog X.w) X.A (getItem v (.ref sl)) (EP X pins σ Q) X.xe s
theorem SlR.or {r r' : V → Option Int → Option Int → Hp → VK → Prop} (h : SlR X r) (h' : SlR X r') : SlR X (fun x lo hi H Q => r x lo hi H Q ∨ r' x lo hi H Q) := by
  intro pins s σ H x v vl vu lo hi sl Q I rx hs pl pu q
  rcases q with q | q
  · exact h pins s σ H x v vl vu lo hi sl Q I rx hs pl pu q
  · exact h' pins s σ H x v vl vu lo hi sl Q I rx hs pl pu q
def tSl (r : V → Option Int → Option Int → Hp → VK → Prop) (te : TE) (tl th : TO) : TE := fun σ H Q => te σ H fun x H1 => tl σ H1 fun l H2 => th σ H2 fun u H3 => r x l u H3 Q
/-- a[lo:hi], any a -/
theorem pe_slice {r : V → Option Int → Option Int → Hp → VK → Prop} (hr : SlR X r) (he : PE X e te) (hl : PO X lo tl) (hu : PO X hi th) : PE X (.Subscript e (.Slice lo hi none p2) pos) (tSl r te tl th) := by
  intro pins s σ H Q I h
  refine Subscript_ (thn (he pins s σ H _ I h) fun v s1 ⟨x, H1, I1, r1, q1⟩ => ?_)
  refine wpAny_Slice (thn (hl pins s1 σ H1 _ I1 q1) fun vl s2 ⟨l, H2, I2, pl, q2⟩ => thn (hu pins s2 σ H2 _ I2 q2) fun vu s3 ⟨u, H3, I3, pu, q3⟩ => ?_)
  rw [evalPart_none]
  refine wpAny_pure ?_
  have I4 : Inv X pins σ H3 { s3 with heap := s3.heap.push { cls := .type "slice", data := .fields #[vl, vu, .none] } } := I3.kept (t' := s3.toks) fun b ob q => Heap.get?_push_of_some _ q
  obtain ⟨T, id, hT, ht, hg⟩ := hr pins { s3 with heap := s3.heap.push { cls := .type "slice", data := .fields #[vl, vu, .none] } } σ H3 x v vl vu l u s3.heap.objs.size Q I4 r1 (Heap.IsSliceOf.new ..) pl pu q3
  show wpAny (model X.prog X.w) X.A (subscriptTail e (.Slice lo hi none p2) v (.ref s3.heap.objs.size)) (EP X pins σ Q) X.xe { s3 with heap := s3.heap.push { cls := .type "slice", data := .fields #[vl, vu, .none] } }
  exact tail_any (ops := [.ref s3.heap.objs.size, v]) ht hT hg (by with_unfolding_all rfl)

/-- the items of xs[lo:hi] -/
def cutV (xs : List V) (lo hi : Option Int) : List V := (xs.drop (HT.sIx xs.length 0 lo)).take (HT.sIx xs.length xs.length hi - HT.sIx xs.length 0 lo)
theorem cutV_length (xs : List V) (lo hi : Option Int) : (cutV xs lo hi).length ≤ xs.length := by
  unfold cutV
  rw [List.length_take, List.length_drop]
  omega
/-- t[lo:hi], not the whole of it (the whole would be t itself) -/
def rSlT (K : PySem.W.Frag) : V → Option Int → Option Int → Hp → VK → Prop := fun x lo hi H Q => ∃ a xs, x = .ref a ∧ SqT K H a xs ∧
  ¬ (HT.sIx xs.length 0 lo = 0 ∧ HT.sIx xs.length xs.length hi = xs.length) ∧ ∀ p, H p = none → Q (.ref p) (upd H p (.tup (cutV xs lo hi)))
theorem sl_tup : SlR X (rSlT X.K) := by
  intro pins s σ H x v vl vu lo hi sl Q I rx hs pl pu h
  obtain ⟨a, xs, rfl, hx, hw, q⟩ := h
  cases rx
  obtain ⟨its, r, ht, hz⟩ := I.tuple hx
  have hlen : its.toArray.size = xs.length := by rw [List.size_toArray]; exact r.length.symm
  refine ⟨"tuple", _, PyProof.Rows.slot_tuple_getitem.lookup, ht.typeIs, ?_⟩
  refine HT.getItem_tuple_cut ht hs pl pu (by rw [hlen]; exact hw) ?_ (by rw [hlen]; exact hz)
  rw [hlen]
  refine ⟨.ref s.heap.objs.size, _, I.laid (t' := s.toks) (o := .tup (cutV xs lo hi)) (fun b ob q => Heap.get?_push_of_some _ q) (Nat.le_refl _) ?_, rfl, q _ (I.hok.fresh (Nat.le_refl _))⟩
  exact ⟨Nat.le_trans (cutV_length xs lo hi) hz, _, (r.drop (HT.sIx xs.length 0 lo)).take (HT.sIx xs.length xs.length hi - HT.sIx xs.length 0 lo), IsTup.new _ _⟩

/-! ### t < u, t + u -/
def rLtT (K : PySem.W.Frag) : R2 := fun x y H Q => ∃ a b ns ms, x = .ref a ∧ y = .ref b ∧ SqT K H a (ns.map V.int) ∧ SqT K H b (ms.map V.int) ∧ Q (.bl (HT.lexLt ns ms)) H
theorem op_ltT (hu : X.A.units < cLine) : OpR X (compareOp .Lt) (rLtT X.K) := by
  intro pins s σ H x y v u Q I rx ry h
  obtain ⟨a, b, ns, ms, rfl, rfl, ha, hb, q⟩ := h
  cases rx
  cases ry
  obtain ⟨its, r1, p1, _⟩ := I.tuple ha
  obtain ⟨its2, r2, p2, _⟩ := I.tuple hb
  have i1 : IntsAre its.toArray.toList ns := intsAre_of r1
  have i2 : IntsAre its2.toArray.toList ms := intsAre_of r2
  exact HT.lt_tupInts p1 p2 i1 i2 hu ⟨.bl (HT.lexLt ns ms), H, I, rfl, q⟩
/-- t + u, t not empty: u empty gives t itself -/
def rCatT (K : PySem.W.Frag) : R2 := fun x y H Q => ∃ a b xs ys, x = .ref a ∧ y = .ref b ∧ SqT K H a xs ∧ SqT K H b ys ∧ xs ≠ [] ∧ xs.length + ys.length ≤ sizeLine ∧
  (ys = [] → Q (.ref a) H) ∧ (ys ≠ [] → ∀ p, H p = none → Q (.ref p) (upd H p (.tup (xs ++ ys))))
theorem Vals.nil_iff {xs : List V} {us : List Value} (r : Vals xs us) : us = [] ↔ xs = [] := by
  cases r with
  | nil => simp
  | cons _ _ => simp
theorem op_catT : OpR X (binaryOp .Add) (rCatT X.K) := by
  intro pins s σ H x y v u Q I rx ry h
  obtain ⟨a, b, xs, ys, rfl, rfl, ha, hb, hx, hz, q1, q2⟩ := h
  cases rx
  cases ry
  obtain ⟨its, r1, p1, _⟩ := I.tuple ha
  obtain ⟨its2, r2, p2, _⟩ := I.tuple hb
  refine HT.cat_tup p1 p2 (fun z => hx (r1.nil_iff.mp z)) (fun z => ⟨.ref a, H, I, rfl, q1 (r2.nil_iff.mp z)⟩) (fun z => ?_) (by rw [← r1.length, ← r2.length]; exact hz)
  refine ⟨.ref s.heap.objs.size, _, I.laid (t' := s.toks) (o := .tup (xs ++ ys)) (fun b ob q => Heap.get?_push_of_some _ q) (Nat.le_refl _) ?_, rfl, q2 (fun w => z (r2.nil_iff.mpr w)) _ (I.hok.fresh (Nat.le_refl _))⟩
  exact ⟨by rw [List.length_append]; exact hz, _, r1.append r2, IsTup.new _ _⟩
/-- tuple(t) -/
theorem call_tupleT : CallR X (.type "tuple") (fun xs H Q => ∃ a ys, xs = [.ref a] ∧ SqT X.K H a ys ∧ Q (.ref a) H) := by
  intro pins s σ H xs us Q I r h
  obtain ⟨a, ys, rfl, ha, q⟩ := h
  obtain ⟨u, rfl, ru⟩ := vals1 r
  cases ru
  obtain ⟨its, _, p1, _⟩ := I.tuple ha
  exact call_tuple_same (items := its.toArray) p1 ⟨.ref a, H, I, rfl, q⟩
end
end L2

namespace L2
open PySem PySem.Spec PyProof.Rows

/-! ### places -/
/-- the place that an index of any sign means -/
def ixN (n : Nat) (i : Int) : Option Nat := if 0 ≤ i then (if i < n then some i.toNat else none) else if -(n : Int) ≤ i then some (i + n).toNat else none
def atI {α : Type} (xs : List α) (i : Int) : Option α := (ixN xs.length i).bind fun j => xs[j]?
theorem ixN_seq {n : Nat} {i : Int} {j : Nat} (h : ixN n i = some j) : seqIndex? i n = some j ∧ j < n ∧ -(n : Int) ≤ i ∧ i < n := by
  unfold ixN at h
  by_cases h0 : 0 ≤ i
  · rw [if_pos h0] at h
    by_cases h1 : i < n
    · rw [if_pos h1] at h
      have e : i.toNat = j := Option.some.inj h
      exact ⟨by rw [seqIndex_of h0 h1, e], by omega, by omega, h1⟩
    · rw [if_neg h1] at h; cases h
  · rw [if_neg h0] at h
    by_cases h1 : -(n : Int) ≤ i
    · rw [if_pos h1] at h
      have e : (i + n).toNat = j := Option.some.inj h
      exact ⟨by rw [seqIndex_neg (by omega) h1, e], by omega, h1, by omega⟩
    · rw [if_neg h1] at h; cases h
theorem atI_get {α : Type} {xs : List α} {i : Int} {v : α} (h : atI xs i = some v) : ∃ j, seqIndex? i xs.length = some j ∧ xs[j]? = some v ∧ j < xs.length ∧ -(xs.length : Int) ≤ i ∧ i < xs.length := by
  unfold atI at h
  cases e : ixN xs.length i with
  | none => rw [e] at h; cases h
  | some j =>
    rw [e] at h
    obtain ⟨h1, h2, h3, h4⟩ := ixN_seq e
    exact ⟨j, h1, h, h2, h3, h4⟩
theorem atI_nat {α : Type} {xs : List α} {j : Nat} {v : α} (h : xs[j]? = some v) : atI xs (j : Int) = some v := by
  have hj : j < xs.length := (List.getElem?_eq_some_iff.mp h).1
  have e : ixN xs.length (j : Int) = some j := by
    unfold ixN
    rw [if_pos (by omega), if_pos (by omega)]; simp
  unfold atI; rw [e]; exact h
theorem atI_last {α : Type} (xs : List α) (v : α) : atI (xs ++ [v]) (-1) = some v := by
  have hl : (xs ++ [v]).length = xs.length + 1 := by simp
  have e : ixN (xs ++ [v]).length (-1) = some xs.length := by
    unfold ixN
    rw [hl, if_neg (by decide), if_pos (by omega)]
    congr 1
    omega
  unfold atI
  rw [e]
  show (xs ++ [v])[xs.length]? = some v
  simp

/-! ### what may be subscripted -/
/-- what stands as an index of a plain subscript -/
def PlainIx (b : Expr) : Prop := ∀ o i, subscripted b false o i = operate [o, i] (getItem o i)
/-- a subscript by values -/
def IxR (X : Cx) (r : R2) : Prop :=
  ∀ (value slice : Expr) (pins : List (Addr × Obj)) (s : Shared) (σ : St) (H : Hp) (x y : V) (v u : Value) (Q : VK), Inv X pins σ H s → RelV x v → RelV y u → r x y H Q →
    subscripted slice false v u = operate [v, u] (getItem v u) → wpAny (model X.prog X.w) X.A (subscriptTail value slice v u) (EP X pins σ Q) X.xe s
/-- a call of a builtin's method by values: the receiver, the arguments -/
def MtR (X : Cx) (id : String) (r : V → List V → Hp → VK → Prop) : Prop :=
  ∀ (pins : List (Addr × Obj)) (s : Shared) (σ : St) (H : Hp) (x : V) (xs : List V) (v : Value) (us : List Value) (Q : VK), Inv X pins σ H s → RelV x v → Vals xs us → r x xs H Q →
    wpAny (model X.prog X.w) X.A (call (.builtin id) (v :: us)) (EP X pins σ Q) X.xe s
section
variable {X : Cx} {a b : Expr} {ta tb : TE} {pos : Pos}
theorem IxR.or {r r' : R2} (h : IxR X r) (h' : IxR X r') : IxR X (fun x y H Q => r x y H Q ∨ r' x y H Q) := by
  intro value slice pins s σ H x y v u Q I rx ry q hs
  rcases q with q | q
  · exact h value slice pins s σ H x y v u Q I rx ry q hs
  · exact h' value slice pins s σ H x y v u Q I rx ry q hs
theorem MtR.or {id : String} {r r' : V → List V → Hp → VK → Prop} (h : MtR X id r) (h' : MtR X id r') : MtR X id (fun x xs H Q => r x xs H Q ∨ r' x xs H Q) := by
  intro pins s σ H x xs v us Q I rx rs q
  rcases q with q | q
  · exact h pins s σ H x xs v us Q I rx rs q
  · exact h' pins s σ H x xs v us Q I rx rs q
/-- a[b] -/
theorem pe_ix {r : R2} (hr : IxR X r) (ha : PE X a ta) (hb : PE X b tb) (hs : PlainIx b) : PE X (.Subscript a b pos) (tOp r ta tb) := by
  intro pins s σ H Q I h
  exact Subscript_ (binT ha hb I h fun v u s2 x y H2 I2 rx ry q => hr a b pins s2 σ H2 x y v u Q I2 rx ry q (hs _ _))

def rIxL (K : PySem.W.Frag) : R2 := fun x y H Q => ∃ p xs i v, x = .ref p ∧ y = .int i ∧ SqL K H p xs ∧ atI xs i = some v ∧ Q v H
def rIxT (K : PySem.W.Frag) : R2 := fun x y H Q => ∃ p xs i v, x = .ref p ∧ y = .int i ∧ SqT K H p xs ∧ atI xs i = some v ∧ Q v H
def rIxS : R2 := fun x y H Q => ∃ z i c, x = .str z ∧ y = .int i ∧ z.length ≤ sizeLine ∧ atI z.cps.toList i = some c ∧ Q (.str ⟨#[c]⟩) H
theorem ix_list : IxR X (rIxL X.K) := by
  intro value slice pins s σ H x y v u Q I rx ry h hs
  obtain ⟨p, xs, i, z, rfl, rfl, hq, he, q⟩ := h
  cases rx
  obtain ⟨t, rfl⟩ := ry
  obtain ⟨its, r, pl, hz⟩ := I.list hq
  obtain ⟨j, h1, h2, h3, h4, h5⟩ := atI_get he
  obtain ⟨w, ew, rw'⟩ := r.get h2
  have hl := r.length
  have hn := line63
  have fin : EP X pins σ Q w s := ⟨z, H, I, rw', q⟩
  by_cases h0 : 0 ≤ i
  · have hj : i.toNat = j := by
      rw [seqIndex_of h0 h5] at h1
      exact Option.some.inj h1
    exact item_listR pl.isList h0 (by omega) (by rw [hj]; simpa using ew) fin hs
  · have hj : (i + (its.toArray.size : Int)).toNat = j := by
      rw [seqIndex_neg (by omega) h4] at h1
      rw [List.size_toArray, ← hl]
      exact Option.some.inj h1
    exact subscriptTail_builtinR (x := w) pl.isList.typeIs slot_list_getitem.lookup
      (wpAny_getItem_list_neg (Q := fun r s' => r = w ∧ EP X pins σ Q r s') pl.isList (by omega) (by rw [List.size_toArray] <;> omega) (by omega) (by rw [hj]; simpa using ew) ⟨rfl, fin⟩) hs
theorem ix_tup : IxR X (rIxT X.K) := by
  intro value slice pins s σ H x y v u Q I rx ry h hs
  obtain ⟨p, xs, i, z, rfl, rfl, hq, he, q⟩ := h
  cases rx
  obtain ⟨t, rfl⟩ := ry
  obtain ⟨its, r, pl, hz⟩ := I.tuple hq
  obtain ⟨j, h1, h2, h3, h4, h5⟩ := atI_get he
  obtain ⟨w, ew, rw'⟩ := r.get h2
  have hl := r.length
  have hn := line63
  have fin : EP X pins σ Q w s := ⟨z, H, I, rw', q⟩
  exact subscriptTail_builtinR (x := w) pl.typeIs slot_tuple_getitem.lookup
    (getItem_tuple (j := j) (Q := fun r s' => r = w ∧ EP X pins σ Q r s') pl (by omega) (by omega) (by rw [List.size_toArray, ← hl]; exact h1) (by simpa using ew) ⟨rfl, fin⟩) hs
theorem ix_str : IxR X rIxS := by
  intro value slice pins s σ H x y v u Q I rx ry h hs
  obtain ⟨z, i, c, rfl, rfl, hz, he, q⟩ := h
  obtain ⟨t, rfl⟩ := rx
  obtain ⟨t', rfl⟩ := ry
  obtain ⟨j, h1, h2, h3, h4, h5⟩ := atI_get he
  have hl : z.cps.toList.length = z.length := by simp [Str.length]
  rw [hl] at h1 h4 h5
  have hn := line63
  exact tail_any (typeIs_str s z t) slot_str_getitem.lookup (getItem_str (c := c) (by
    have e1 : decide (i < -(2 ^ 63 : Int)) = false := decide_eq_false (by omega)
    have e2 : decide (i ≥ 2 ^ 63) = false := decide_eq_false (by omega)
    rw [e1, e2, Bool.or_false]) (by rw [h1]; simpa using h2) ⟨.str ⟨#[c]⟩, H, I.tok _, ⟨_, rfl⟩, q⟩) hs
/-- list, tuple or str -/
def rIx (K : PySem.W.Frag) : R2 := fun x y H Q => rIxL K x y H Q ∨ rIxT K x y H Q ∨ rIxS x y H Q
theorem ix_seq : IxR X (rIx X.K) := ix_list.or (ix_tup.or ix_str)

/-! ### xs[i] = v, any sign -/
/-- the list's object behind a store -/
theorem mapSeq_set (its : List Value) (n j : Nat) (u : Value) : Obj.mapSeq (·.setIfInBounds j u) { cls := .type "list", data := .seq its.toArray n } = { cls := .type "list", data := .seq (its.set j u).toArray n } := by
  simp [Obj.mapSeq]
theorem Inv.lst {pins : List (Addr × Obj)} {σ : St} {H : Hp} {s : Shared} {p : Addr} {xs : List V} (I : Inv X pins σ H s) (h : H p = some (.lst xs)) :
    ∃ (its : List Value) (n : Nat), Vals xs its ∧ s.heap.get? p = some { cls := .type "list", data := .seq its.toArray n } ∧ xs.length ≤ sizeLine := by
  obtain ⟨z, its, n, r, e⟩ := I.hok p _ h
  exact ⟨its, n, r, e, z⟩
/-- the list at p is written by an update of its object -/
theorem Inv.lstUpd {pins : List (Addr × Obj)} {σ : St} {H : Hp} {s : Shared} {p : Addr} {xs ys : List V} {its its' : List Value} {n n' : Nat} {f : Obj → Obj} (I : Inv X pins σ H s) (h : H p = some (.lst xs))
    (ho : s.heap.get? p = some { cls := .type "list", data := .seq its.toArray n }) (hf : f { cls := .type "list", data := .seq its.toArray n } = { cls := .type "list", data := .seq its'.toArray n' }) (r : Vals ys its') (hz : ys.length ≤ sizeLine) (t : Nat) :
    Inv X pins σ (upd H p (.lst ys)) { s with heap := s.heap.update p f, toks := t } := by
  have e : (s.heap.update p f).get? p = some { cls := .type "list", data := .seq its'.toArray n' } := by
    rw [Heap.get?_update_self f ho (by rw [hf] <;> rfl), hf]
  refine I.write (x := p) (e := p) (by rw [h]; trivial) (.inl rfl) (fun b u hb q => (Heap.get?_update_other _ _ (Ne.symm hb)).trans q) ⟨_, e⟩ ?_
  exact ⟨hz, its', n', r, e⟩
def rSetL : V → V → V → Hp → (Hp → Prop) → Prop := fun o i v H Q => ∃ p xs k j, o = .ref p ∧ i = .int k ∧ H p = some (.lst xs) ∧ ixN xs.length k = some j ∧ Q (upd H p (.lst (xs.set j v)))
theorem set_list : PSet X rSetL := by
  intro pins s σ H o i v ov iv u Q I ro ri rv h
  obtain ⟨p, xs, k, j, rfl, rfl, hp, hj, q⟩ := h
  cases ro
  obtain ⟨t, rfl⟩ := ri
  obtain ⟨its, n, r, ho, hz⟩ := I.lst hp
  obtain ⟨h1, h2, h3, h4⟩ := ixN_seq hj
  have hl := r.length
  have hn := line63
  have I' : Inv X pins σ (upd H p (.lst (xs.set j v))) { s with heap := s.heap.update p (Obj.mapSeq (·.setIfInBounds j u)) } :=
    I.lstUpd hp ho (mapSeq_set its n j u) (r.set rv j) (by rw [List.length_set]; exact hz) s.toks
  by_cases h0 : 0 ≤ k
  · have hk : k.toNat = j := by
      rw [seqIndex_of h0 h4] at h1
      exact Option.some.inj h1
    exact PySem.W.ki_setAt ho h0 (by omega) (by rw [List.size_toArray, ← hl]; exact h4) (by rw [hk]; exact ⟨_, I', q⟩)
  · have hk : (k + (its.toArray.size : Int)).toNat = j := by
      rw [seqIndex_neg (by omega) h3] at h1
      rw [List.size_toArray, ← hl]
      exact Option.some.inj h1
    exact PySem.W.ki_setBack ho (by omega) (by rw [List.size_toArray, ← hl]; exact h3) (by omega) (by rw [hk]; exact ⟨_, I', q⟩)

/-! ### slices -/
theorem slice_bounds (lo hi : Option Int) (n : Nat) : (sliceBounds lo hi none n).1 = ((HT.sIx n 0 lo : Nat) : Int) ∧ (sliceBounds lo hi none n).2.1 = ((HT.sIx n n hi : Nat) : Int) ∧ (sliceBounds lo hi none n).2.2 = 1 := by
  refine ⟨?_, ?_, rfl⟩
  · cases lo with
    | none => simp [sliceBounds, HT.sIx]
    | some i =>
      simp only [sliceBounds, HT.sIx, Option.getD_none, show (1 : Int) > 0 by decide, if_true]
      by_cases h : i < 0
      · simp only [h, if_true] <;> omega
      · simp only [h, if_false] <;> omega
  · cases hi with
    | none => simp [sliceBounds, HT.sIx]
    | some i =>
      simp only [sliceBounds, HT.sIx, Option.getD_none, show (1 : Int) > 0 by decide, if_true]
      by_cases h : i < 0
      · simp only [h, if_true] <;> omega
      · simp only [h, if_false] <;> omega
theorem slicePick_cut (its : List Value) (lo hi : Option Int) : slicePick its.toArray lo hi none = ((its.drop (HT.sIx its.length 0 lo)).take (HT.sIx its.length its.length hi - HT.sIx its.length 0 lo)).toArray := by
  obtain ⟨h1, h2, h3⟩ := slice_bounds lo hi its.toArray.size
  unfold slicePick
  rw [h1, h2, h3]
  simp only [sliceRange_one, pick_run, List.size_toArray] <;> rfl
/-- xs[lo:hi] of a list: a new list -/
def rSlL (K : PySem.W.Frag) : V → Option Int → Option Int → Hp → VK → Prop := fun x lo hi H Q => ∃ a xs, x = .ref a ∧ SqL K H a xs ∧ ∀ p, H p = none → Q (.ref p) (upd H p (.lst (cutV xs lo hi)))
theorem sl_list : SlR X (rSlL X.K) := by
  intro pins s σ H x v vl vu lo hi sl Q I rx hs pl pu h
  obtain ⟨a, xs, rfl, hx, q⟩ := h
  cases rx
  obtain ⟨its, r, ht, hz⟩ := I.list hx
  have hlen := r.length
  refine ⟨"list", _, slot_list_getitem.lookup, ht.isList.typeIs, ?_⟩
  refine wpAny_getItem_list_slice ht.isList hs pl pu .none (by simp) ?_ (by rw [List.size_toArray] <;> omega)
  rw [slicePick_cut, ← hlen]
  refine ⟨.ref s.heap.objs.size, _, I.laid (t' := s.toks) (o := .lst (cutV xs lo hi)) (fun b ob q => Heap.get?_push_of_some _ q) (Nat.le_refl _) ?_, rfl, q _ (I.hok.fresh (Nat.le_refl _))⟩
  exact ⟨Nat.le_trans (cutV_length xs lo hi) hz, _, 0, (r.drop (HT.sIx xs.length 0 lo)).take (HT.sIx xs.length xs.length hi - HT.sIx xs.length 0 lo), Heap.get?_push_size _ rfl⟩

/-! ### in, not in: flat items -/
def flatV : V → Bool
  | .non => true
  | .bl _ => true
  | .int _ => true
  | .str _ => true
  | _ => false
/-- == of flat values -/
def eqV : V → V → Bool
  | .non, .non => true
  | .bl a, .bl b => a == b
  | .bl a, .int b => (if a then 1 else 0) == b
  | .int a, .bl b => a == (if b then 1 else 0)
  | .int a, .int b => a == b
  | .str a, .str b => a == b
  | _, _ => false
theorem eqAt_V {A : Around} {s : Shared} {y x : V} {u v : Value} (ry : RelV y u) (rx : RelV x v) (fy : flatV y = true) (fx : flatV x = true) : SeqAt.EqAt A s u v (eqV y x) := by
  cases y with
  | non =>
    cases ry
    cases x with
    | non => cases rx; exact SeqAt.EqAt.same _
    | bl b => cases rx; exact SeqAt.EqAt.none_bool b
    | int b => obtain ⟨t, rfl⟩ := rx; exact SeqAt.EqAt.none_int b t
    | str b => obtain ⟨t, rfl⟩ := rx; exact SeqAt.EqAt.none_str b t
    | _ => exact absurd (show false = true from fx) Bool.false_ne_true
  | bl a =>
    cases ry
    cases x with
    | non => cases rx; exact SeqAt.EqAt.bool_none a
    | bl b => cases rx; exact SeqAt.EqAt.bool_bool a b
    | int b => obtain ⟨t, rfl⟩ := rx; exact SeqAt.EqAt.bool_int a b t
    | str b => obtain ⟨t, rfl⟩ := rx; exact SeqAt.EqAt.bool_str a b t
    | _ => exact absurd (show false = true from fx) Bool.false_ne_true
  | int a =>
    obtain ⟨t', rfl⟩ := ry
    cases x with
    | non => cases rx; exact SeqAt.EqAt.int_none a t'
    | bl b => cases rx; exact SeqAt.EqAt.int_bool a t' b
    | int b => obtain ⟨t, rfl⟩ := rx; exact SeqAt.EqAt.int_int a t' b t
    | str b => obtain ⟨t, rfl⟩ := rx; exact SeqAt.EqAt.int_str a t' b t
    | _ => exact absurd (show false = true from fx) Bool.false_ne_true
  | str a =>
    obtain ⟨t', rfl⟩ := ry
    cases x with
    | non => cases rx; exact SeqAt.EqAt.str_none a t'
    | bl b => cases rx; exact SeqAt.EqAt.str_bool a t' b
    | int b => obtain ⟨t, rfl⟩ := rx; exact SeqAt.EqAt.str_int a t' b t
    | str b => obtain ⟨t, rfl⟩ := rx; exact SeqAt.EqAt.str_str a t' b t
    | _ => exact absurd (show false = true from fx) Bool.false_ne_true
  | _ => exact absurd (show false = true from fy) Bool.false_ne_true
/-- the items' answers, read off the values (a value's own answer does not lean on its token) -/
def eqU (x : V) (u : Value) : Bool := match u with
  | .none => eqV .non x
  | .bool b => eqV (.bl b) x
  | .int i _ => eqV (.int i) x
  | .str z _ => eqV (.str z) x
  | _ => false
theorem eqU_of {x y : V} {u : Value} (r : RelV y u) (f : flatV y = true) : eqU x u = eqV y x := by
  cases y with
  | non => cases r; rfl
  | bl b => cases r; rfl
  | int i => obtain ⟨t, rfl⟩ := r; rfl
  | str z => obtain ⟨t, rfl⟩ := r; rfl
  | _ => exact absurd (show false = true from f) Bool.false_ne_true
theorem any_eqU {x : V} : ∀ {xs : List V} {us : List Value}, Vals xs us → xs.all flatV = true → us.any (eqU x) = xs.any fun y => eqV y x
  | _, _, .nil, _ => rfl
  | y :: xs, u :: us, .cons r t, f => by
    rw [List.all_cons, Bool.and_eq_true] at f
    rw [List.any_cons, List.any_cons, eqU_of r f.1, any_eqU t f.2]
theorem mem_eqAt {A : Around} {s : Shared} {x : V} {v : Value} (rx : RelV x v) (fx : flatV x = true) : ∀ {xs : List V} {us : List Value}, Vals xs us → xs.all flatV = true → ∀ u ∈ us, SeqAt.EqAt A s u v (eqU x u)
  | _, _, .nil, _ => fun u hu => by cases hu
  | y :: xs, u :: us, .cons r t, f => fun u' hu => by
    rw [List.all_cons, Bool.and_eq_true] at f
    rcases List.mem_cons.mp hu with rfl | hu
    · rw [eqU_of r f.1]; exact eqAt_V r rx f.1 fx
    · exact mem_eqAt rx fx t f.2 u' hu
def inV (x : V) (xs : List V) : Bool := xs.any fun y => eqV y x
/-- x in a list or tuple of flat items -/
def rIn (K : PySem.W.Frag) (neg : Bool) : R2 := fun x y H Q => ∃ p xs, y = .ref p ∧ (SqL K H p xs ∨ SqT K H p xs) ∧ flatV x = true ∧ xs.all flatV = true ∧ Q (.bl (if neg then !inV x xs else inV x xs)) H
theorem op_in_seq : OpR X (compareOp .In) (rIn X.K false) := by
  intro pins s σ H x y v u Q I rx ry h
  obtain ⟨p, xs, rfl, hq, fx, fs, q⟩ := h
  cases ry
  rcases hq with hq | hq
  · obtain ⟨its, r, pl, hz⟩ := I.list hq
    refine SeqAt.in_listAt (eqU x) pl.isList (fun w hw => mem_eqAt rx fx r fs w (by simpa using hw)) ⟨.bl _, H, I, rfl, ?_⟩
    rw [show its.toArray.any (eqU x) = its.any (eqU x) by simp, any_eqU r fs]
    exact q
  · obtain ⟨its, r, pl, hz⟩ := I.tuple hq
    refine SeqAt.in_tupleAt (eqU x) pl (fun w hw => mem_eqAt rx fx r fs w (by simpa using hw)) ⟨.bl _, H, I, rfl, ?_⟩
    rw [show its.toArray.any (eqU x) = its.any (eqU x) by simp, any_eqU r fs]
    exact q
theorem op_notIn_seq : OpR X (compareOp .NotIn) (rIn X.K true) := by
  intro pins s σ H x y v u Q I rx ry h
  obtain ⟨p, xs, rfl, hq, fx, fs, q⟩ := h
  cases ry
  rcases hq with hq | hq
  · obtain ⟨its, r, pl, hz⟩ := I.list hq
    refine SeqAt.notIn_listAt (eqU x) pl.isList (fun w hw => mem_eqAt rx fx r fs w (by simpa using hw)) ⟨.bl _, H, I, rfl, ?_⟩
    rw [show its.toArray.any (eqU x) = its.any (eqU x) by simp, any_eqU r fs]
    exact q
  · obtain ⟨its, r, pl, hz⟩ := I.tuple hq
    refine SeqAt.notIn_tupleAt (eqU x) pl (fun w hw => mem_eqAt rx fx r fs w (by simpa using hw)) ⟨.bl _, H, I, rfl, ?_⟩
    rw [show its.toArray.any (eqU x) = its.any (eqU x) by simp, any_eqU r fs]
    exact q
theorem op_notIn_str : OpR X (compareOp .NotIn) (fun x y H Q => ∃ i j, x = .str i ∧ y = .str j ∧ Q (.bl (!(!(Builtin.Str.occurrences j i 0 j.length 1).isEmpty))) H) := by
  intro pins s σ H x y v u Q I rx ry h
  obtain ⟨i, j, rfl, rfl, q⟩ := h
  obtain ⟨t, rfl⟩ := rx
  obtain ⟨t', rfl⟩ := ry
  exact notIn_str ⟨.bl _, H, I, rfl, q⟩

/-! ### len, list(x), tuple(x) of any list or tuple that is read -/
theorem call_len_seq : CallR X (.builtin "len") (fun xs H Q => ∃ p ys, xs = [.ref p] ∧ (SqL X.K H p ys ∨ SqT X.K H p ys) ∧ Q (.int ys.length) H) := by
  intro pins s σ H xs us Q I r h
  obtain ⟨p, ys, rfl, hq, q⟩ := h
  obtain ⟨u, rfl, rx⟩ := vals1 r
  cases rx
  have hn := line63
  rcases hq with hq | hq
  · obtain ⟨its, r', pl, hz⟩ := I.list hq
    have hlen := r'.length
    exact Calls.call_len_list pl.isList (by simp only [List.size_toArray] <;> omega) ⟨.int ys.length, H, I.tok _, ⟨s.toks + 1, by rw [List.size_toArray, hlen]⟩, q⟩
  · obtain ⟨its, r', pl, hz⟩ := I.tuple hq
    have hlen := r'.length
    exact len_tuple pl (by simp only [List.size_toArray] <;> omega) ⟨.int ys.length, H, I.tok _, ⟨s.toks + 1, by rw [List.size_toArray, hlen]⟩, q⟩
theorem call_len_str : CallR X (.builtin "len") (fun xs H Q => ∃ z, xs = [.str z] ∧ z.length ≤ sizeLine ∧ Q (.int z.length) H) := by
  intro pins s σ H xs us Q I r h
  obtain ⟨z, rfl, hz, q⟩ := h
  obtain ⟨u, rfl, t, rfl⟩ := vals1 r
  have hn := line63
  exact len_str (by omega) ⟨.int z.length, H, I.tok _, ⟨_, rfl⟩, q⟩
theorem CallR.or {f : Value} {r r' : List V → Hp → VK → Prop} (h : CallR X f r) (h' : CallR X f r') : CallR X f (fun xs H Q => r xs H Q ∨ r' xs H Q) := by
  intro pins s σ H xs us Q I rs q
  rcases q with q | q
  · exact h pins s σ H xs us Q I rs q
  · exact h' pins s σ H xs us Q I rs q
theorem call_list_of : CallR X (.type "list") (fun xs H Q => ∃ p ys, xs = [.ref p] ∧ (SqL X.K H p ys ∨ SqT X.K H p ys) ∧ ∀ l, H l = none → Q (.ref l) (upd H l (.lst ys))) := by
  intro pins s σ H xs us Q I r h
  obtain ⟨p, ys, rfl, hq, q⟩ := h
  obtain ⟨u, rfl, rx⟩ := vals1 r
  cases rx
  have fin : ∀ (its : List Value), Vals ys its → ys.length ≤ sizeLine → ∀ (h' : Heap) (c' : Nat), (∀ b o', s.heap.get? b = some o' → h'.get? b = some o') →
      h'.get? s.heap.objs.size = some { cls := .type "list", dict := none, data := .seq its.toArray c', slots := #[] } → EP X pins σ Q (.ref s.heap.objs.size) { s with heap := h' } := fun its r' hz h' c' kp e =>
    ⟨.ref s.heap.objs.size, _, I.laid (t' := s.toks) kp (Nat.le_refl _) (show ObjOk X.prog X.w _ h' _ (.lst ys) from ⟨hz, its, c', r', e⟩), rfl, q _ (I.hok.fresh (Nat.le_refl _))⟩
  rcases hq with hq | hq
  · obtain ⟨its, r', pl, hz⟩ := I.list hq
    have hlen := r'.length
    obtain ⟨o, ho, hc, n, hd⟩ := pl.isList
    exact call_list_seq p (.inl rfl) ho hc hd (fun h' c' kp e => fin its r' hz h' c' kp e) (by simp only [List.size_toArray] <;> omega)
  · obtain ⟨its, r', pl, hz⟩ := I.tuple hq
    have hlen := r'.length
    obtain ⟨o, ho, hc, n, hd⟩ := pl
    exact call_list_seq p (.inr rfl) ho hc hd (fun h' c' kp e => fin its r' hz h' c' kp e) (by simp only [List.size_toArray] <;> omega)
theorem call_tuple_of : CallR X (.type "tuple") (fun xs H Q => ∃ p ys, xs = [.ref p] ∧ ((SqL X.K H p ys ∧ ∀ l, H l = none → Q (.ref l) (upd H l (.tup ys))) ∨ (SqT X.K H p ys ∧ Q (.ref p) H))) := by
  intro pins s σ H xs us Q I r h
  obtain ⟨p, ys, rfl, h⟩ := h
  obtain ⟨u, rfl, rx⟩ := vals1 r
  cases rx
  rcases h with ⟨hq, q⟩ | ⟨hq, q⟩
  · obtain ⟨its, r', pl, hz⟩ := I.list hq
    have hlen := r'.length
    refine call_tuple_list pl.isList (fun h' kp => ?_) (by simp only [List.size_toArray] <;> omega)
    have I1 : Inv X pins σ H { s with heap := h' } := I.kept (t' := s.toks) kp
    have I2 : Inv X pins σ (upd H h'.objs.size (.tup ys)) { s with heap := h'.push { cls := .type "tuple", data := .seq its.toArray } } :=
      I1.laid (t' := s.toks) (fun b o e => Heap.get?_push_of_some _ e) (Nat.le_refl _) (show ObjOk X.prog X.w _ _ _ (.tup ys) from ⟨hz, its, r', IsTup.new _ _⟩)
    exact ⟨.ref h'.objs.size, _, I2, rfl, q _ (I1.hok.fresh (Nat.le_refl _))⟩
  · obtain ⟨its, r', pl, hz⟩ := I.tuple hq
    exact call_tuple_same pl ⟨.ref p, H, I, rfl, q⟩

/-! ### the call of a builtin's method: o.m(..) -/
/-- the value is of that builtin type -/
def tyV (K : PySem.W.Frag) (T : String) (x : V) (H : Hp) : Prop := match x with
  | .str _ => T = "str"
  | .int _ => T = "int"
  | .ref p => (T = "list" ∧ ∃ xs, SqL K H p xs) ∨ (T = "tuple" ∧ ∃ o, K.lookup p = some o ∧ o.cls = .type "tuple" ∧ o.dict = none) ∨
      (T = "dict" ∧ ((∃ kvs, H p = some (.dK kvs)) ∨ ∃ kvs, H p = some (.dT kvs))) ∨ (T = "set" ∧ ∃ S n, H p = some (.set S n))
  | _ => False
theorem tyV_is {pins : List (Addr × Obj)} {σ : St} {H : Hp} {s : Shared} {T : String} {x : V} {v : Value} (I : Inv X pins σ H s) (r : RelV x v) (ty : tyV X.K T x H) :
    s.TypeIs v T ∧ ∀ a, v = .ref a → ∃ ob, s.heap.get? a = some ob ∧ ob.dict = none := by
  cases x with
  | str z =>
    obtain ⟨t, rfl⟩ := r
    cases (show T = "str" from ty)
    exact ⟨typeIs_str s z t, fun _ e => nomatch e⟩
  | int i =>
    obtain ⟨t, rfl⟩ := r
    cases (show T = "int" from ty)
    exact ⟨typeIs_int s i t, fun _ e => nomatch e⟩
  | ref p =>
    cases r
    rcases ty with ⟨rfl, xs, hq⟩ | ⟨rfl, o, hk, hc, hd⟩ | ⟨rfl, hk⟩ | ⟨rfl, S, n, hk⟩
    · obtain ⟨its, _, pl, _⟩ := I.list hq
      refine ⟨pl.isList.typeIs, fun a e => ?_⟩
      cases e
      obtain ⟨o, n, e, c, hd, _⟩ := pl
      exact ⟨o, e, hd⟩
    · refine ⟨⟨o, I.kIn p o hk, hc⟩, fun a e => ?_⟩
      cases e
      exact ⟨o, I.kIn _ o hk, hd⟩
    · have z : ∃ o, s.heap.get? p = some o ∧ o.ExactDict := by
        rcases hk with ⟨kvs, hk⟩ | ⟨kvs, hk⟩
        · obtain ⟨_, _, _, _, o, _, _, e, ex, _⟩ := I.hok p _ hk
          exact ⟨o, e, ex⟩
        · obtain ⟨_, _, _, _, o, _, _, e, ex, _⟩ := I.hok p _ hk
          exact ⟨o, e, ex⟩
      obtain ⟨o, e, ex⟩ := z
      refine ⟨⟨o, e, ex.1⟩, fun a e2 => ?_⟩
      cases e2
      exact ⟨o, e, ex.2.1⟩
    · obtain ⟨o, _, _, _, e, ex, _⟩ := I.hok p _ hk
      refine ⟨⟨o, e, ex.1⟩, fun a e2 => ?_⟩
      cases e2
      exact ⟨o, e, ex.2.1⟩
  | _ => exact False.elim ty
def tBM0 (K : PySem.W.Frag) (T : String) (r : V → List V → Hp → VK → Prop) (to : TE) : TE := fun σ H Q => to σ H fun x H1 => tyV K T x H1 ∧ r x [] H1 Q
def tBM (K : PySem.W.Frag) (T : String) (r : V → List V → Hp → VK → Prop) (to : TE) (t : TA) : TE := fun σ H Q => to σ H fun x H1 => tyV K T x H1 ∧ t σ H1 fun xs H2 => r x xs H2 Q
variable {o e : Expr} {es : List Expr} {to : TE} {t : TA} {name : Str} {apos cpos : Pos} {T id : String} {r : V → List V → Hp → VK → Prop}
theorem pe_bm0 (pa : PlainAttrs T) (slot : Slot T name id) (hty : typeOf (.builtin id) = pure (.type "method_descriptor")) (hm : MtR X id r) (ho : PE X o to)
    (hbase : attributeBase o name X.env (eval o X.env) = eval o X.env := by rfl) (hline : (apos.endLine == cpos.line) = true := by rfl) : PE X (.Call (.Attribute o name apos) [] [] cpos) (tBM0 X.K T r to) := by
  intro pins s σ H Q I h
  refine wpAny_Call_method0_late hbase hline (thn (ho pins s σ H _ I h) fun v s1 ⟨x, H1, I1, r1, ty, q1⟩ => ?_)
  obtain ⟨h1, h2⟩ := tyV_is I1 r1 ty
  exact ⟨T, id, pa, slot, hty, h1, h2, Calls.callWith_builtin rfl (PySem.evalArgs_none (hm pins s1 σ H1 x [] v [] Q I1 r1 .nil q1))⟩
theorem pe_bm (pa : PlainAttrs T) (slot : Slot T name id) (hty : typeOf (.builtin id) = pure (.type "method_descriptor")) (hm : MtR X id r) (ho : PE X o to) (ha : PA X (e :: es) t)
    (hbase : attributeBase o name X.env (eval o X.env) = eval o X.env := by rfl)
    (hfew : ((backTo cpos (starEach (e :: es) X.env)).all (fun x => !x.1) && (backToKw cpos (keywordEach [] X.env)).all (fun x => x.1.isSome)
      && decide ((e :: es).length + ([] : List Keyword).length + (if ([] : List Keyword).isEmpty then 0 else 1) < 30)) = true := by rfl)
    (hline : (apos.endLine == cpos.line) = true := by rfl) (hs : starEach (e :: es) X.env = (false, eval e X.env) :: starEach es X.env := by rfl) (hplain : (backTo cpos (starEach es X.env)).any (·.1) = false := by rfl) :
    PE X (.Call (.Attribute o name apos) (e :: es) [] cpos) (tBM X.K T r to t) := by
  intro pins s σ H Q I h
  refine wpAny_Call_method_late hbase hfew hline rfl (thn (ho pins s σ H _ I h) fun v s1 ⟨x, H1, I1, r1, ty, q1⟩ => ?_)
  obtain ⟨h1, h2⟩ := tyV_is I1 r1 ty
  refine ⟨T, id, pa, slot, hty, h1, h2, ?_⟩
  have hA := ha cpos pins s1 σ H1 _ I1 q1
  rw [hs] at hA ⊢
  refine Calls.callWith_builtin (by show (false || (backTo cpos (starEach es X.env)).any (·.1)) = false; rw [hplain] <;> rfl) (Calls.evalArgs_plain ?_)
  exact thn hA fun us s2 ⟨vs, H2, I2, r2, q2⟩ => hm pins s2 σ H2 x vs v us Q I2 r1 r2 q2
/- xs.append(e), list.index on a module's tuple .. are MtR facts of 06m -/
end
end L2

namespace L2
open PySem PySem.Spec PyProof.Rows

def MtM (X : Cx) (id : String) (r : V → List V → Hp → VK → Prop) : Prop :=
  ∀ (pins : List (Addr × Obj)) (s : Shared) (σ : St) (H : Hp) (x : V) (xs : List V) (v : Value) (us : List Value) (Q : VK), Inv X pins σ H s → RelV x v → Vals xs us → r x xs H Q →
    wpAny (model X.prog X.w) X.A (call (.builtin id) (v :: us)) (EP X pins σ Q) X.xe s

/-! ### lists of values -/
theorem Vals.one : ∀ {x : V} {us : List Value}, Vals [x] us → ∃ u, us = [u] ∧ RelV x u
  | _, _, .cons r .nil => ⟨_, rfl, r⟩
theorem Vals.two : ∀ {x y : V} {us : List Value}, Vals [x, y] us → ∃ u v, us = [u, v] ∧ RelV x u ∧ RelV y v
  | _, _, _, .cons r (.cons q .nil) => ⟨_, _, rfl, r, q⟩
theorem Vals.zero : ∀ {us : List Value}, Vals [] us → us = []
  | _, .nil => rfl
theorem Vals.dropLast {xs : List V} {us : List Value} (h : Vals xs us) : Vals xs.dropLast us.dropLast := by
  induction h with
  | nil => exact .nil
  | cons r t ih =>
    cases t with
    | nil => exact .nil
    | cons q t' => exact .cons r ih
theorem Vals.eraseIdx : ∀ {xs : List V} {us : List Value} (i : Nat), Vals xs us → Vals (xs.eraseIdx i) (us.eraseIdx i)
  | _, _, _, .nil => .nil
  | _, _, 0, .cons _ t => t
  | _, _, i + 1, .cons r t => .cons r (Vals.eraseIdx i t)
theorem Vals.reverse {xs : List V} {us : List Value} (h : Vals xs us) : Vals xs.reverse us.reverse := by
  induction h with
  | nil => exact .nil
  | cons r t ih => rw [List.reverse_cons, List.reverse_cons]; exact Vals.append ih (.cons r .nil)
theorem Vals.rep {xs : List V} {us : List Value} (h : Vals xs us) : ∀ k : Nat, Vals (List.replicate k xs).flatten (List.replicate k us).flatten
  | 0 => .nil
  | k + 1 => by
    rw [List.replicate_succ, List.replicate_succ, List.flatten_cons, List.flatten_cons]
    exact Vals.append h (Vals.rep h k)
theorem erase_last {α : Type} (l : List α) : l.eraseIdx (l.length - 1) = l.dropLast := by
  induction l with
  | nil => rfl
  | cons a r ih =>
    cases r with
    | nil => rfl
    | cons b r =>
      have e : (a :: b :: r).length - 1 = ((b :: r).length - 1) + 1 := by
        have h1 : (a :: b :: r).length = r.length + 2 := rfl
        have h2 : (b :: r).length = r.length + 1 := rfl
        omega
      rw [e, List.eraseIdx_cons_succ, ih]
      all_goals rfl
theorem len_erase {α : Type} : ∀ (l : List α) (i : Nat), (l.eraseIdx i).length ≤ l.length
  | [], _ => Nat.le_refl _
  | _ :: _, 0 => Nat.le_succ _
  | _ :: r, i + 1 => Nat.succ_le_succ (len_erase r i)
theorem foldl_rep (its : List Value) : ∀ (k : Nat) (acc : List Value),
    List.foldl (fun x1 x2 => x1 ++ x2) acc.toArray (List.replicate k its.toArray) = (acc ++ (List.replicate k its).flatten).toArray
  | 0, acc => by simp
  | k + 1, acc => by
    have e : acc.toArray ++ its.toArray = (acc ++ its).toArray := by simp
    have e2 : (acc ++ its) ++ (List.replicate k its).flatten = acc ++ (List.replicate (k + 1) its).flatten := by
      rw [List.replicate_succ, List.flatten_cons, List.append_assoc]
    rw [← e2, ← foldl_rep its k (acc ++ its), ← e, List.replicate_succ, List.foldl_cons]

section
variable {X : Cx} {pins : List (Addr × Obj)} {σ : St} {H : Hp} {s : Shared} {l b : Addr} {xs ys zs : List V}

/-! ### the two steps: a tracked list is rewritten, a new list is laid -/
theorem Inv.lset {its its' : List Value} {n : Nat} {f : Array Value → Array Value} {t' : Nat} (I : Inv X pins σ H s) (hH : H l = some (.lst xs))
    (e : s.heap.get? l = some { cls := .type "list", data := .seq its.toArray n }) (hf : f its.toArray = its'.toArray) (hv : Vals ys its') (hz : ys.length ≤ sizeLine) :
    Inv X pins σ (upd H l (.lst ys)) { s with heap := s.heap.update l (Obj.mapSeq f), toks := t' } := by
  have q := PySem.IsL.update e f
  rw [hf] at q
  refine I.write (x := l) (e := l) (by rw [hH]; exact trivial) (.inl rfl) (fun b' u hb hu => (Heap.get?_update_other s.heap (Obj.mapSeq f) (Ne.symm hb)).trans hu) ⟨_, q⟩ ?_
  exact ⟨hz, its', _, hv, q⟩
theorem Inv.lnew {its : List Value} {t' : Nat} (I : Inv X pins σ H s) (hv : Vals ys its) (hz : ys.length ≤ sizeLine) :
    Inv X pins σ (upd H s.heap.objs.size (.lst ys)) { s with heap := s.heap.push { cls := .type "list", data := .seq its.toArray }, toks := t' } :=
  I.laid (fun _ _ q => Heap.get?_push_of_some _ q) (Nat.le_refl _) ⟨hz, its, 0, hv, Heap.get?_push_size _ rfl⟩
theorem Inv.fresh (I : Inv X pins σ H s) : H s.heap.objs.size = none := I.hok.fresh (Nat.le_refl _)
theorem Inv.lstM (I : Inv X pins σ H s) (hH : H l = some (.lst xs)) : xs.length ≤ sizeLine ∧ ∃ (its : List Value) (n : Nat), Vals xs its ∧ xs.length = its.length ∧ s.heap.get? l = some { cls := .type "list", data := .seq its.toArray n } := by
  obtain ⟨z, its, n, r, e⟩ := I.hok l _ hH
  exact ⟨z, its, n, r, r.length, e⟩

theorem notLongL {n : Nat} (h : n ≤ sizeLine) : Builtin.List.listTooLong n = false := by
  unfold Builtin.List.listTooLong
  exact decide_eq_false (by omega)
end

section
variable {X : Cx}

/-! ### methods -/
def rAppend : V → List V → Hp → VK → Prop := fun x vs H Q => ∃ l xs y, x = .ref l ∧ vs = [y] ∧ H l = some (.lst xs) ∧ xs.length < sizeLine ∧ Q .non (upd H l (.lst (xs ++ [y])))
theorem mt_append : MtM X "list.append" rAppend := by
  intro pins s σ H x vs v us Q I rx rv h
  obtain ⟨l, xs, y, rfl, rfl, hH, hz, q⟩ := h
  cases rx
  obtain ⟨u, rfl, ru⟩ := rv.one
  obtain ⟨z, its, n, r, hl, e⟩ := I.lstM hH
  refine call_meets F.slot_list_append ⟨_, e, rfl⟩ F.entry_list_append (F.args_list_append_2 _ _) (PySem.list_append l its.toArray n u (by rw [List.size_toArray]; omega)) ⟨e, ?_⟩
  refine ⟨.non, _, I.lset (its' := its ++ [u]) hH e (by simp) (r.append (.cons ru .nil)) ?_, rfl, q⟩
  rw [List.length_append, List.length_singleton]
  omega

def rExtend : V → List V → Hp → VK → Prop := fun x vs H Q => ∃ l b xs zs, x = .ref l ∧ vs = [.ref b] ∧ H l = some (.lst xs) ∧ H b = some (.lst zs) ∧ xs.length + zs.length ≤ sizeLine ∧ Q .non (upd H l (.lst (xs ++ zs)))
theorem mt_extend : MtM X "list.extend" rExtend := by
  intro pins s σ H x vs v us Q I rx rv h
  obtain ⟨l, b, xs, zs, rfl, rfl, hH, hB, hz, q⟩ := h
  cases rx
  obtain ⟨u, rfl, ru⟩ := rv.one
  cases ru
  obtain ⟨z, its, n, r, hl, e⟩ := I.lstM hH
  obtain ⟨z2, its2, n2, r2, hl2, e2⟩ := I.lstM hB
  have hsz : its.toArray.size + its2.toArray.size ≤ sizeLine := by rw [List.size_toArray, List.size_toArray]; omega
  have hlong : ¬ (!its.toArray.isEmpty && Builtin.List.listTooLong (its.toArray.size + its2.toArray.size)) = true := by
    rw [notLongL hsz, Bool.and_false]
    exact Bool.false_ne_true
  refine call_meets F.slot_list_extend ⟨_, e, rfl⟩ F.entry_list_extend (F.args_list_extend_2 _ _)
    (AutoSeq1.list_extend_list_list_0 l its.toArray n b its2.toArray n2 hlong (by rw [List.size_toArray]; omega) (by omega)) ⟨e, e2, ?_⟩
  refine ⟨.non, _, I.lset (its' := its ++ its2) hH e (by simp) (r.append r2) ?_, rfl, q⟩
  rw [List.length_append]
  omega

def rPop : V → List V → Hp → VK → Prop := fun x vs H Q => ∃ l xs y, x = .ref l ∧ vs = [] ∧ H l = some (.lst xs) ∧ xs[xs.length - 1]? = some y ∧ Q y (upd H l (.lst xs.dropLast))
theorem mt_pop : MtM X "list.pop" rPop := by
  intro pins s σ H x vs v us Q I rx rv h
  obtain ⟨l, xs, y, rfl, rfl, hH, hy, q⟩ := h
  cases rx
  have hus := rv.zero
  subst hus
  obtain ⟨z, its, n, r, hl, e⟩ := I.lstM hH
  obtain ⟨u, hu, ru⟩ := r.get hy
  have hy' : its.toArray[its.toArray.size - 1]? = some u := by
    show its.toArray[its.length - 1]? = some u
    rw [← Array.getElem?_toList, ← hl]
    exact hu
  refine call_meets F.slot_list_pop ⟨_, e, rfl⟩ F.entry_list_pop (F.args_list_pop_1 _) (MeetsSeq.list_pop_last l its.toArray n u hy' (by rw [List.size_toArray]; omega)) ⟨e, ?_⟩
  refine ⟨y, _, I.lset (its' := its.dropLast) hH e ?_ r.dropLast ?_, ru, q⟩
  · show its.toArray.eraseIdxIfInBounds (its.toArray.size - 1) = its.dropLast.toArray
    rw [List.size_toArray, List.eraseIdxIfInBounds_toArray, erase_last]
  · rw [List.length_dropLast]
    omega

def rPopAt : V → List V → Hp → VK → Prop := fun x vs H Q => ∃ l xs i k y, x = .ref l ∧ vs = [.int i] ∧ H l = some (.lst xs) ∧ -(2 ^ 63) ≤ i ∧ i < 2 ^ 63 ∧ seqIndex? i xs.length = some k ∧ xs[k]? = some y ∧ Q y (upd H l (.lst (xs.eraseIdx k)))
theorem mt_popAt : MtM X "list.pop" rPopAt := by
  intro pins s σ H x vs v us Q I rx rv h
  obtain ⟨l, xs, i, k, y, rfl, rfl, hH, h1, h2, hk, hy, q⟩ := h
  cases rx
  obtain ⟨u, rfl, ru⟩ := rv.one
  obtain ⟨t, rfl⟩ := ru
  obtain ⟨z, its, n, r, hl, e⟩ := I.lstM hH
  obtain ⟨w, hw, rw'⟩ := r.get hy
  refine call_meets F.slot_list_pop ⟨_, e, rfl⟩ F.entry_list_pop (F.args_list_pop_2 _ _)
    (MeetsSeq.list_pop_at l its.toArray n i t k w (fitsIndex_both h1 h2) (by rw [List.size_toArray, ← hl]; exact hk) (by rw [← Array.getElem?_toList]; exact hw) (by rw [List.size_toArray]; omega)) ⟨e, ?_⟩
  refine ⟨y, _, I.lset (its' := its.eraseIdx k) hH e ?_ (r.eraseIdx k) ?_, rw', q⟩
  · show its.toArray.eraseIdxIfInBounds k = (its.eraseIdx k).toArray
    rw [List.eraseIdxIfInBounds_toArray]
  · have := len_erase xs k
    omega

def rReverse : V → List V → Hp → VK → Prop := fun x vs H Q => ∃ l xs, x = .ref l ∧ vs = [] ∧ H l = some (.lst xs) ∧ Q .non (upd H l (.lst xs.reverse))
theorem mt_reverse : MtM X "list.reverse" rReverse := by
  intro pins s σ H x vs v us Q I rx rv h
  obtain ⟨l, xs, rfl, rfl, hH, q⟩ := h
  cases rx
  have hus := rv.zero
  subst hus
  obtain ⟨z, its, n, r, hl, e⟩ := I.lstM hH
  refine call_meets F.slot_list_reverse ⟨_, e, rfl⟩ F.entry_list_reverse (F.args_list_reverse_1 _) (AutoSeq1.list_reverse_list_0 l its.toArray n (by rw [List.size_toArray]; omega)) ⟨e, ?_⟩
  refine ⟨.non, _, I.lset (its' := its.reverse) hH e (by simp) r.reverse ?_, rfl, q⟩
  rw [List.length_reverse]
  omega

def rClear : V → List V → Hp → VK → Prop := fun x vs H Q => ∃ l xs, x = .ref l ∧ vs = [] ∧ H l = some (.lst xs) ∧ Q .non (upd H l (.lst []))
theorem mt_clear : MtM X "list.clear" rClear := by
  intro pins s σ H x vs v us Q I rx rv h
  obtain ⟨l, xs, rfl, rfl, hH, q⟩ := h
  cases rx
  have hus := rv.zero
  subst hus
  obtain ⟨z, its, n, r, hl, e⟩ := I.lstM hH
  refine call_meets F.slot_list_clear ⟨_, e, rfl⟩ F.entry_list_clear (F.args_list_clear_1 _) (AutoSeq1.list_clear_list_0 l its.toArray n (by rw [List.size_toArray]; omega)) ⟨e, ?_⟩
  exact ⟨.non, _, I.lset (its' := []) (ys := []) hH e rfl .nil (Nat.zero_le _), rfl, q⟩

/-! ### list + list, list += list, list * int -/
def rCat : R2 := fun x y H Q => ∃ l b xs zs, x = .ref l ∧ y = .ref b ∧ H l = some (.lst xs) ∧ H b = some (.lst zs) ∧ xs.length + zs.length ≤ sizeLine ∧ ∀ p, H p = none → Q (.ref p) (upd H p (.lst (xs ++ zs)))
theorem op_cat : OpR X (binaryOp .Add) rCat := by
  intro pins s σ H x y v u Q I rx ry h
  obtain ⟨l, b, xs, zs, rfl, rfl, hH, hB, hz, q⟩ := h
  cases rx
  cases ry
  obtain ⟨z, its, n, r, hl, e⟩ := I.lstM hH
  obtain ⟨z2, its2, n2, r2, hl2, e2⟩ := I.lstM hB
  refine PySem.P.add_list e e2 ?_ (by rw [List.size_toArray, List.size_toArray]; omega)
  have ea : its.toArray ++ its2.toArray = (its ++ its2).toArray := by simp
  rw [ea]
  exact ⟨.ref _, _, I.lnew (t' := s.toks) (r.append r2) (by rw [List.length_append]; omega), rfl, q _ I.fresh⟩
/-- a list times an int (a negative one is nothing) -/
def rRep : R2 := fun x y H Q => ∃ l k xs, x = .ref l ∧ y = .int k ∧ H l = some (.lst xs) ∧ -(2 ^ 63) ≤ k ∧ k < 2 ^ 63 ∧ xs.length * k.toNat ≤ sizeLine ∧
  ∀ p, H p = none → Q (.ref p) (upd H p (.lst (List.replicate k.toNat xs).flatten))
theorem len_rep {α : Type} (xs : List α) (k : Nat) : (List.replicate k xs).flatten.length = k * xs.length := by
  induction k with
  | zero => simp
  | succ k ih => rw [List.replicate_succ, List.flatten_cons, List.length_append, ih, Nat.succ_mul, Nat.add_comm]
theorem op_rep : OpR X (binaryOp .Mult) rRep := by
  intro pins s σ H x y v u Q I rx ry h
  obtain ⟨l, k, xs, rfl, rfl, hH, h1, h2, hz, q⟩ := h
  cases rx
  obtain ⟨t, rfl⟩ := ry
  obtain ⟨z, its, n, r, hl, e⟩ := I.lstM hH
  have hlen : its.toArray.size * k.toNat ≤ sizeLine := by rw [List.size_toArray, ← hl]; exact hz
  have hcap : ¬ its.toArray.size * k.toNat > (2 ^ 63 - 1) / 8 := by
    have : (sizeLine : Nat) ≤ (2 ^ 63 - 1) / 8 := by decide
    omega
  have hfit : ¬ (!Builtin.List.listFitsIndex k) = true := by
    rw [fitsIndex_both h1 h2]
    exact Bool.false_ne_true
  have hlong : ¬ Builtin.List.listTooLong (its.toArray.size * k.toNat) = true := by
    rw [notLongL hlen]
    exact Bool.false_ne_true
  have hnew : List.foldl (fun x1 x2 => x1 ++ x2) #[] (List.replicate (if its.toArray.isEmpty = true then 0 else k.toNat) its.toArray) = (List.replicate k.toNat its).flatten.toArray := by
    have f0 : ∀ m : Nat, List.foldl (fun x1 x2 => x1 ++ x2) #[] (List.replicate m its.toArray) = (List.replicate m its).flatten.toArray := fun m => by
      have := foldl_rep its m []
      rw [List.nil_append] at this
      exact this
    rw [f0]
    cases its with
    | nil => simp
    | cons a r' => rw [if_neg (by simp)]
  refine wpAny_binaryOp_repeat_ref (T := "list") (U := "int") (by decide) ⟨_, e, rfl⟩ (fun s' => typeIs_int s' k t) noFill_list_mul F.fills_int_mul F.slot_int_rmul repeat_list F.slot_int_index.lookup
    (call_meets F.slot_int_rmul (typeIs_int s k t) F.entry_int_rmul (F.args_int_rmul_2 _ _) (int___rmul___int_list k t l its.toArray n)
      ⟨e, rfl, ⟨_, e, rfl⟩, call_meets F.slot_list_mul ⟨_, e, rfl⟩ F.entry_list_mul (F.args_list_mul_2 _ _) (AutoListH.list___mul___list_int_3 l its.toArray n k t hfit hcap hlong) ⟨e, ?_⟩⟩)
  rw [hnew]
  exact ⟨.ref _, _, I.lnew (t' := s.toks) (r.rep k.toNat) (by rw [len_rep, Nat.mul_comm]; exact hz), rfl, q _ I.fresh⟩

/-! ### del xs[i] -/
theorem del_list {pins : List (Addr × Obj)} {s : Shared} {σ : St} {H : Hp} {l : Addr} {xs : List V} {i : Int} {t : Tok} {k : Nat} {Q : Unit → Shared → Prop} (I : Inv X pins σ H s) (hH : H l = some (.lst xs))
    (h1 : -(2 ^ 63) ≤ i) (h2 : i < 2 ^ 63) (hk : seqIndex? i xs.length = some k) (h : ∀ s', Inv X pins σ (upd H l (.lst (xs.eraseIdx k))) s' → Q () s') :
    wpAny (model X.prog X.w) X.A (delItem (.ref l) (.int i t)) Q X.xe s := by
  obtain ⟨z, its, n, r, hl, e⟩ := I.lstM hH
  refine PySem.P.delItem_list (k := k) e (fitsIndex_both h1 h2) (by rw [List.size_toArray, ← hl]; exact hk) (h _ ?_) (by rw [List.size_toArray]; omega)
  refine I.lset (its' := its.eraseIdx k) (t' := s.toks) hH e ?_ (r.eraseIdx k) ?_
  · show its.toArray.eraseIdxIfInBounds k = (its.eraseIdx k).toArray
    rw [List.eraseIdxIfInBounds_toArray]
  · have := len_erase xs k
    omega
end

/-! ### xs[a:b] = ys -/
section
variable {prog : Program} {w : World} {A : Around} {E : Value → Shared → Prop} {s : Shared}
theorem splice_eq (its its2 : List Value) (a c : Nat) : its.toArray.extract 0 a ++ its2.toArray ++ its.toArray.extract c its.toArray.size = (its.take a ++ its2 ++ its.drop c).toArray := by
  apply Array.toList_inj.mp
  first
    | (simp
       exact List.take_of_length_le (by simp))
    | simp [List.take_of_length_le]
    | simp
theorem bounds_run {a c n : Nat} (hac : a ≤ c) (hc : c ≤ n) : sliceBounds (some (a : Int)) (some (c : Int)) none n = ((a : Int), (c : Int), 1) := by
  simp only [sliceBounds, Option.getD_none]
  have h1 : ¬ ((a : Int) < 0) := by omega
  have h2 : ¬ ((c : Int) < 0) := by omega
  simp only [h1, h2, if_false, show (1 : Int) > 0 by decide, if_true]
  congr 1
  · omega
  · congr 1; omega
set_option maxRecDepth 100000 in
/-- list.__setitem__ with a slice of step one and another list -/
theorem setItem_slice {l b sl : Addr} {items new : Array Value} {n n2 : Nat} {vl vu : Value} {a c : Nat} {Q : Unit → Shared → Prop}
    (e : s.heap.get? l = some { cls := .type "list", data := .seq items n }) (e2 : s.heap.get? b = some { cls := .type "list", data := .seq new n2 }) (hne : l ≠ b)
    (hs : s.heap.IsSliceOf sl vl vu .none) (pl : IsPart vl (some (a : Int))) (pu : IsPart vu (some (c : Int))) (hac : a ≤ c) (hc : c ≤ items.size)
    (hsz : items.size + new.size ≤ sizeLine) (h : Q () { s with heap := s.heap.update l (Obj.mapSeq fun xs => xs.extract 0 a ++ new ++ xs.extract c xs.size) }) :
    wpAny (model prog w) A (setItem (.ref l) (.ref sl) (.ref b)) Q E s := by
  have hl : s.heap.IsList l items := PySem.IsL.isList e
  have hb : s.heap.IsList b new := PySem.IsL.isList e2
  obtain ⟨os, hos, hcs, hds⟩ := id hs
  have hTs : s.TypeIs (.ref sl) "slice" := ⟨os, hos, hcs⟩
  have hstep : ¬ ((rawPart none == rawInt 0) = true) := Bool.false_ne_true
  have hsame : Builtin.List.listSameRef (.ref l) (.ref b) = false := by
    unfold Builtin.List.listSameRef
    exact beq_eq_false_iff_ne.mpr hne
  have hmax : (max (a : Int) (c : Int)).toNat = c := by omega
  have hz' : ((fun xs : Array Value => xs.extract 0 a ++ new ++ xs.extract c xs.size) items).size ≤ sizeLine + 1 := by
    simp only [Array.size_append, Array.size_extract]
    omega
  unfold setItem
  try with_reducible refine wpAny_holding ?_
  first | refine wpAny_bind (wpAny_pure ?_) | skip
  refine wpAny_bind (wpAny_sequenceKey hl.typeIs (by decide) ?_)
  refine wpAny_bind (wpAny_callSpecial?_slot (name := Str.ofString "__setitem__") hl.typeIs slot_list_setitem
    (wpAny_call_entry slot_list_setitem hl.typeIs entry_list_setitem ?_ (args_list_setitem _ _ _)))
  show wpAny _ _ (Builtin.List.listSubscript? (.ref sl) >>= _) _ _ s
  refine wpAny_bind ?_
  unfold Builtin.List.listSubscript?
  refine wpAny_bind (wpAny_specialOf hTs slice_no_index ?_)
  simp only [Option.isNone_none, if_true]
  refine wpAny_pure ?_
  show wpAny _ _ (typeOf (.ref sl) >>= _) _ _ s
  refine wpAny_bind (wpAny_typeOf hTs ?_)
  first
    | rw [if_neg (by decide)]
    | refine PySem.W.KFB.if_not (by decide) ?_
  rw [listSliceParts_eq]
  refine wpAny_bind (wpAny_bind (wpAny_field hos hds (x := .none) rfl (wpAny_bind (wpAny_listPart .none ?_))))
  rw [if_neg hstep]
  refine wpAny_bind (wpAny_field hos hds (x := vl) rfl (wpAny_bind (wpAny_listPart pl ?_)))
  refine wpAny_bind (wpAny_field hos hds (x := vu) rfl (wpAny_bind (wpAny_listPart pu (wpAny_pure ?_))))
  first
    | simp only [hsame, Bool.false_eq_true, if_false]
    | refine PySem.W.KFB.if_not hsame ?_
    | (dsimp only
       rw [if_neg (by rw [hsame]; exact Bool.false_ne_true)])
  refine wpAny_bind (m := Builtin.List.listAllItems (.ref b) "must assign iterable to extended slice") ?_
  unfold Builtin.List.listAllItems
  refine wpAny_bind (wpAny_typeOf hb.typeIs ?_)
  first
    | refine PySem.W.KFB.if_so (by decide) ?_
    | rw [if_pos (by decide)]
    | simp only [beq_self_eq_true, Bool.true_or, if_true]
  unfold Builtin.List.listItems
  refine wpAny_bind (wpAny_seqItems e2 rfl (wpAny_pure ?_))
  refine wpAny_bind (wpAny_bind (wpAny_seqItems e rfl (wpAny_pure ?_)))
  refine wpAny_bind (wpAny_of_eq ((sliceIndices_raw (some (a : Int)) (some (c : Int)) none items.size (by simp)).trans (congrArg (pure : Int × Int × Int → Sem (Int × Int × Int)) (bounds_run hac hc))) ?_)
  show wpAny _ _ (if ((1 : Int) == 1) = true then _ else _) _ _ s
  rw [if_pos (by decide)]
  refine wpAny_bind (wpAny_rule ?_)
  first
    | simp only [notLongL hsz, Bool.false_eq_true, if_false]
    | refine PySem.W.KFB.if_not (notLongL hsz) ?_
  first | refine wpAny_bind (wpAny_pure ?_) | skip
  show wpAny _ _ (updateSeq l (fun xs => xs.extract 0 ((a : Int)).toNat ++ new ++ xs.extract (max (a : Int) (c : Int)).toNat xs.size) >>= _) _ _ s
  rw [hmax, Int.toNat_natCast]
  refine wpAny_bind (wpAny_updateSeq (hz := Nat.le_trans (Nat.le_add_right _ _) hsz) (_hz' := hz') e rfl ?_)
  refine wpAny_bind (wpAny_letGo ?_)
  first
    | exact wpAny_bind (wpAny_pure (wpAny_pure ⟨.none, rfl, wpAny_pure h⟩))
    | exact wpAny_pure ⟨.none, rfl, wpAny_pure h⟩
end

section
variable {X : Cx}
/-- xs[a:c] = ys of another list, at the value level: sl is the slice object that was just made -/
theorem set_slice {pins : List (Addr × Obj)} {s : Shared} {σ : St} {H : Hp} {l b sl : Addr} {xs ys : List V} {a c : Int} {vl vu : Value} {Q : Unit → Shared → Prop} (I : Inv X pins σ H s)
    (hH : H l = some (.lst xs)) (hB : H b = some (.lst ys)) (hne : l ≠ b) (hs : s.heap.IsSliceOf sl vl vu .none) (ra : RelV (.int a) vl) (rc : RelV (.int c) vu) (h0 : 0 ≤ a) (hac : a ≤ c) (hc : c ≤ xs.length)
    (hz : xs.length + ys.length ≤ sizeLine) (h : ∀ s', Inv X pins σ (upd H l (.lst (xs.take a.toNat ++ ys ++ xs.drop c.toNat))) s' → Q () s') :
    wpAny (model X.prog X.w) X.A (setItem (.ref l) (.ref sl) (.ref b)) Q X.xe s := by
  obtain ⟨ta, rfl⟩ := ra
  obtain ⟨tc, rfl⟩ := rc
  obtain ⟨z, its, n, r, hl, e⟩ := I.lstM hH
  obtain ⟨z2, its2, n2, r2, hl2, e2⟩ := I.lstM hB
  obtain ⟨a', rfl⟩ := Int.eq_ofNat_of_zero_le h0
  obtain ⟨c', rfl⟩ := Int.eq_ofNat_of_zero_le (Int.le_trans h0 hac)
  simp only [Int.toNat_natCast] at h
  refine setItem_slice (a := a') (c := c') e e2 hne hs (.int _ _) (.int _ _) (by omega) (by rw [List.size_toArray]; omega) (by rw [List.size_toArray, List.size_toArray]; omega) (h _ ?_)
  refine I.lset (its' := its.take a' ++ its2 ++ its.drop c') (t' := s.toks) hH e ?_ (Vals.append (Vals.append (r.take _) r2) (r.drop _)) ?_
  · exact splice_eq its its2 a' c'
  · rw [List.length_append, List.length_append, List.length_take, List.length_drop]
    omega
end
end L2

namespace Att
open PySem PySem.W PySem.Calls PyProof.Rows

/-! ### the script -/
theorem ints_of_wellAll {P : Params} {h : Heap} : ∀ (ns : List Int) (vs : List Value), WellAll P h vs (ns.map WData.int) → IntsAre vs ns := by
  intro ns
  induction ns with
  | nil =>
    intro vs w
    rw [List.map_nil] at w
    cases w
    exact .nil
  | cons n ns ih =>
    intro vs w
    rw [List.map_cons] at w
    cases w with
    | cons a b =>
      cases a
      exact .cons _ _ (ih _ b)

theorem script_of {l : OpenLaw} {n : Nat} (hn : l.most = some n) {P : Params} {h : Heap} {args : List WData} {vals : List Value}
    (hpre : l.row.toRowW.claim.pre args = true) (hwl : WellAll P h vals args) :
    ∃ a vs ns, vals = [Value.ref a] ∧ args = [WData.list (ns.map WData.int)] ∧ h.get? a = some { cls := .type "list", data := .seq vs.toArray } ∧ IntsAre vs ns ∧ ns.length ≤ n := by
  have hsh : WShape.hasAll [] args [.list .int] = true := (pre_splitW hpre).1
  have hc : l.pre.holds [] { args := args } = true := (pre_splitW hpre).2
  obtain ⟨d, r, rfl, h1, h2⟩ := hasAllW_cons hsh
  obtain rfl := hasAllW_nil h2
  obtain ⟨xs, rfl, h3⟩ := hasW_list h1
  obtain ⟨ns, rfl⟩ := items_int h3
  have hlen : ns.length ≤ n := by
    unfold OpenLaw.pre at hc
    have h4 : (WTm.not (.lt (.lit (.int (n : Int))) (.len (.arg 0)))).holds [] { args := [.list (ns.map .int)] } = true := by
      have h4 := (holds_andW hc).1
      rw [hn] at h4
      exact h4
    have h5 := condW_of h4 (w_not (w_lt w_lit (w_len_list (w_arg rfl))))
    rw [List.length_map] at h5
    refine Nat.le_of_not_lt fun q => ?_
    have q' : (n : Int) < ((ns.length : Nat) : Int) := by omega
    first
      | (rw [decide_eq_true q'] at h5; exact absurd h5 (by decide))
      | (simp at h5; omega)
  cases hwl with
  | cons w1 w2 =>
    cases w2
    cases w1 with
    | list ho hall => exact ⟨_, _, ns, rfl, rfl, ho, ints_of_wellAll ns _ hall, hlen⟩

theorem post_true (l : OpenLaw) (args : List WData) : l.row.toRowW.claim.post args (.bool true) args = true :=
  postW_of (r := l.row.toRowW) (X := (true == true))
    (show WShape.has [] (.bool true) .bool = true by first | rfl | decide | simp [WShape.has, WShape.arms, WShape.armsAll])
    (show (WTm.eq .res (.lit (.bool true))).value [] { args := args, res := some (.bool true), after := args } = some (.bool (true == true)) from w_eq_bool (w_res rfl) w_lit) rfl

/-! ### the attachment: holds_open's last premise (the goal 'hc' behind k_head) from a wpAny of the law's body -/
theorem attach {l : OpenLaw} {n : Nat} {q : Program} {loose : List Str} {XP : (Str → Option Value) → Heap → Prop} {YP : World → Heap → Prop} {d : DefRec} {x : Str}
    (hn : l.most = some n) (hdf : d.params.defaults = [])
    (hbind : ∀ pm cd doc v : Value, bindArgs (docDef d.name d.params d.body d.scope pm cd doc) ⟨[v], []⟩ = pure [(x, v)])
    (hx : d.scope.names.lookup x = some .local ∨ d.scope.names.lookup x = some .cell)
    (hk : d.scope.kind = .function) (hco : d.scope.isCoroutine = false) (hgen : d.scope.isGenerator = false)
    (body : ∀ (w : World) (s₀ s₁ s : Shared) (mg mb : Str → Option Value) (fa : Addr) (o : Obj) (pm cd doc : Value) (a : Addr) (vs : List Value) (ns : List Int),
      Ground q loose [] XP w s₀ mg mb s₁.heap → YP w s₁.heap →
      s₁.heap.get? fa = some o → o.data = .func (docDef d.name d.params d.body d.scope pm cd doc) → s₁.heap.CodeRec cd d.name → mg d.name = some (.ref fa) →
      s₁.heap.get? a = some { cls := .type "list", data := .seq vs.toArray } → IntsAre vs ns → ns.length ≤ n →
      s.gens = #[] → s.os = s₁.os →
      Fr s₁.heap s₁.heap.objs.size s.heap (bindL (envOfC d.name d.scope s₁.heap.objs.size fa cd).kindOf [(x, .ref a)] fun _ => none) →
      Cl s₁.heap.objs.size (cellsFrom (s₁.heap.objs.size + 1) d.scope.names []) s.heap (bindC (envOfC d.name d.scope s₁.heap.objs.size fa cd).kindOf [(x, .ref a)] fun _ => none) →
      wpAny (model l.prog w) (callerA.deeper (envOfC d.name d.scope s₁.heap.objs.size fa cd)) (execs d.body (envOfC d.name d.scope s₁.heap.objs.size fa cd))
        (fun f s' => f = .ret (.bool true) ∧ OldK s₁.heap s'.heap ∧ s'.os = s₁.os ∧ AllBare s'.gens) (fun _ _ => False) s) :
    WalkO q loose XP YP l.row.toRowW d [] (fun f vs => PySem.call f vs) := by
  intro w s₀ s₁ mg mb G Y fa o pm cd doc dV kV ho hd hcd hD hmg hg args vals as hpre hlay hrd hwl hlo
  obtain rfl : dV = .none := Dflts.none hD hdf
  obtain rfl : kV = .none := Dflts.noKw hD
  obtain ⟨a, vs, ns, rfl, rfl, hobj, hints, hlen⟩ := script_of hn hpre hwl
  refine enter_call ?_
  refine call_cells_ret (o := o) (by rw [depth_caller]; decide) ho (fd_plain hd) G.T.nolimit hcd (hbind pm cd doc (.ref a)) (fun y hy => ?_) (fun h₁ tk F X => ?_) hco hgen hk
  · obtain rfl : y = (x, Value.ref a) := List.mem_singleton.mp hy
    rcases hx with e | e
    · exact .inl e
    · exact .inr ⟨e, cellsFrom_some _ _ _ (.inl e)⟩
  · refine wpAny_mono (body w s₀ s₁ { s₁ with heap := h₁, toks := tk } mg mb fa o pm cd doc a vs ns G Y ho (fd_plain hd) hcd hmg hobj hints hlen hg rfl F X) (fun f s' hq => ?_) (fun _ _ hq => hq)
    obtain ⟨rfl, h2, h3, h4⟩ := hq
    exact ⟨.inl ⟨.bool true, .bool true, [], rfl, fun _ => rfl, .bool true, post_true l _, fun _ => ⟨List.Pairwise.nil, fun _ hm => (nomatch hm)⟩⟩, h2, h3, h4⟩

/-- the same from a codeAny of the CALL (for a layer whose function contracts speak of calls) -/
theorem attach_call {l : OpenLaw} {n : Nat} {q : Program} {loose : List Str} {XP : (Str → Option Value) → Heap → Prop} {YP : World → Heap → Prop} {d : DefRec}
    (hn : l.most = some n) (hdf : d.params.defaults = [])
    (call : ∀ (w : World) (s₀ s₁ : Shared) (mg mb : Str → Option Value) (fa : Addr) (o : Obj) (pm cd doc : Value) (a : Addr) (vs : List Value) (ns : List Int),
      Ground q loose [] XP w s₀ mg mb s₁.heap → YP w s₁.heap →
      s₁.heap.get? fa = some o → o.data = .func (docDef d.name d.params d.body d.scope pm cd doc) → s₁.heap.CodeRec cd d.name → mg d.name = some (.ref fa) →
      s₁.heap.get? a = some { cls := .type "list", data := .seq vs.toArray } → IntsAre vs ns → ns.length ≤ n → s₁.gens = #[] →
      codeAny (model l.prog w) callerA (.call (.ref fa) ⟨[.ref a], []⟩) (fun r s' => r = .ok (.ret (.bool true)) ∧ OldK s₁.heap s'.heap ∧ s'.os = s₁.os ∧ AllBare s'.gens) s₁) :
    WalkO q loose XP YP l.row.toRowW d [] (fun f vs => PySem.call f vs) := by
  intro w s₀ s₁ mg mb G Y fa o pm cd doc dV kV ho hd hcd hD hmg hg args vals as hpre hlay hrd hwl hlo
  obtain rfl : dV = .none := Dflts.none hD hdf
  obtain rfl : kV = .none := Dflts.noKw hD
  obtain ⟨a, vs, ns, rfl, rfl, hobj, hints, hlen⟩ := script_of hn hpre hwl
  refine enter_call (codeAny_mono (call w s₀ s₁ mg mb fa o pm cd doc a vs ns G Y ho (fd_plain hd) hcd hmg hobj hints hlen hg) fun r s' hq => ?_)
  obtain ⟨rfl, h2, h3, h4⟩ := hq
  exact ⟨.inl ⟨.bool true, .bool true, [], rfl, fun _ => rfl, .bool true, post_true l _, fun _ => ⟨List.Pairwise.nil, fun _ hm => (nomatch hm)⟩⟩, h2, h3, h4⟩

/-- the same where the top left finished generators (o_head chose holds_openN): nothing may have changed at all and no generator may be left -/
theorem attachN {l : OpenLaw} {n : Nat} {q : Program} {loose : List Str} {XP : (Str → Option Value) → Heap → Prop} {YP : World → Heap → Prop} {d : DefRec} {x : Str}
    (hn : l.most = some n) (hdf : d.params.defaults = [])
    (hbind : ∀ pm cd doc v : Value, bindArgs (docDef d.name d.params d.body d.scope pm cd doc) ⟨[v], []⟩ = pure [(x, v)])
    (hx : d.scope.names.lookup x = some .local ∨ d.scope.names.lookup x = some .cell)
    (hk : d.scope.kind = .function) (hco : d.scope.isCoroutine = false) (hgen : d.scope.isGenerator = false)
    (body : ∀ (w : World) (s₀ s₁ s : Shared) (mg mb : Str → Option Value) (fa : Addr) (o : Obj) (pm cd doc : Value) (a : Addr) (vs : List Value) (ns : List Int),
      Ground q loose [] XP w s₀ mg mb s₁.heap → YP w s₁.heap →
      s₁.heap.get? fa = some o → o.data = .func (docDef d.name d.params d.body d.scope pm cd doc) → s₁.heap.CodeRec cd d.name → mg d.name = some (.ref fa) →
      s₁.heap.get? a = some { cls := .type "list", data := .seq vs.toArray } → IntsAre vs ns → ns.length ≤ n →
      s.gens = #[] → s.os = s₁.os →
      Fr s₁.heap s₁.heap.objs.size s.heap (bindL (envOfC d.name d.scope s₁.heap.objs.size fa cd).kindOf [(x, .ref a)] fun _ => none) →
      Cl s₁.heap.objs.size (cellsFrom (s₁.heap.objs.size + 1) d.scope.names []) s.heap (bindC (envOfC d.name d.scope s₁.heap.objs.size fa cd).kindOf [(x, .ref a)] fun _ => none) →
      wpAny (model l.prog w) (callerA.deeper (envOfC d.name d.scope s₁.heap.objs.size fa cd)) (execs d.body (envOfC d.name d.scope s₁.heap.objs.size fa cd))
        (fun f s' => f = .ret (.bool true) ∧ (∀ b o, s₁.heap.get? b = some o → s'.heap.get? b = some o) ∧ s'.os = s₁.os ∧ s'.gens = #[]) (fun _ _ => False) s) :
    WalkN q loose XP YP l.row.toRowW d [] (fun f vs => PySem.call f vs) := by
  intro w s₀ s₁ mg mb G Y fa o pm cd doc dV kV ho hd hcd hD hmg hg args vals as hpre hlay hrd hwl hlo
  obtain rfl : dV = .none := Dflts.none hD hdf
  obtain rfl : kV = .none := Dflts.noKw hD
  obtain ⟨a, vs, ns, rfl, rfl, hobj, hints, hlen⟩ := script_of hn hpre hwl
  refine enter_callW ?_
  refine call_cells_ret (o := o) (by rw [depth_caller]; decide) ho (fd_plain hd) G.T.nolimit hcd (hbind pm cd doc (.ref a)) (fun y hy => ?_) (fun h₁ tk F X => ?_) hco hgen hk
  · obtain rfl : y = (x, Value.ref a) := List.mem_singleton.mp hy
    rcases hx with e | e
    · exact .inl e
    · exact .inr ⟨e, cellsFrom_some _ _ _ (.inl e)⟩
  · refine wpAny_mono (body w s₀ s₁ { s₁ with heap := h₁, toks := tk } mg mb fa o pm cd doc a vs ns G Y ho (fd_plain hd) hcd hmg hobj hints hlen hg rfl F X) (fun f s' hq => ?_) (fun _ _ hq => hq)
    obtain ⟨rfl, h2, h3, h4⟩ := hq
    exact ⟨.inl ⟨.bool true, .bool true, [], rfl, fun _ => rfl, .bool true, post_true l _, fun _ => ⟨List.Pairwise.nil, fun _ hm => (nomatch hm)⟩⟩, h2, h3, h4⟩

/-! ### rules over ANY heap (no ledger) from facts about the written part K: the library's own take a ledger (News) for what they write -/
section
variable {prog : Program} {w : World} {A : Around} {E : Value → Shared → Prop} {s : Shared} {K : Frag}

/-- a def of the module, or a method (qual 'C.m'), entered: the frame is the next address; cells behind it -/
theorem call_fn {R : Result → Shared → Prop} {name qual : Str} {params : Arguments} {body : List Stmt} {scope : Scope} {dV kV doc pm cdv ct oc : Value} {an od : Option Addr} {osl : Array (Option Value)} {f : Addr} {args : Args} {binds : List (Str × Value)}
    (X : K.In s.heap) (hlim : s.heap.NoLimit) (ho : K.lookup f = some ⟨oc, od, .func (fnOf name qual params body scope dV kV doc pm an cdv ct), osl⟩) (hcd : codeIn K cdv qual = true) (hroom : A.depth < recursionLimit)
    (hbind : BindsTo s (fnOf name qual params body scope dV kV doc pm an cdv ct) args binds)
    (hkind : (binds.all fun y => scope.names.lookup y.1 == some .local || scope.names.lookup y.1 == some .cell) = true)
    (h : ∀ s₁, InCallC s s.heap.objs.size (bindL (envOfC qual scope s.heap.objs.size f cdv).kindOf binds fun _ => none) (cellsFrom (s.heap.objs.size + 1) scope.names [])
        (bindC (envOfC qual scope s.heap.objs.size f cdv).kindOf binds fun _ => none) s₁ →
      wpAny (model prog w) (A.deeper (envOfC qual scope s.heap.objs.size f cdv)) (execs body (envOfC qual scope s.heap.objs.size f cdv))
        (fun fl s' => R (.ok (.ret (match fl with | .ret v => v | _ => .none))) s')
        (fun e s' => wpAny (model prog w) (A.deeper (envOfC qual scope s.heap.objs.size f cdv)) (leaving (envOfC qual scope s.heap.objs.size f cdv) e) (fun _ s'' => R (.error e) s'') (fun e' s'' => R (.error e') s'') s') s₁)
    (hco : scope.isCoroutine = false) (hgen : scope.isGenerator = false) (hk : scope.kind = .function) : codeAny (model prog w) A (.call (.ref f) args) R s := by
  refine codeAny_call_function hroom (X _ _ ho) rfl hco hgen rfl (codeRec_of X hcd) (hbind _ _ _ _ ?_)
  refine wpAny_newFunctionEnv_cells hk (kindsX hkind _) fun env he s₁ x => ?_
  subst he
  exact ⟨hlim.keeps x.toInCall.keep, codeAny_func (h s₁ x)⟩

/-- C(..): dict at size, instance at size + 1, then __init__ -/
theorem make_obj {R : Result → Shared → Prop} {C fI : Addr} {rest : List Value} {kw : List (Str × Value)}
    (X : K.In s.heap) (hm : makesIn K C = true) (hi : findIn K (.ref C) "__init__" = some (some (.ref fI))) (hf : isFn K (.ref fI) = true)
    (h : codeAny (model prog w) (A.under (.builtin "type.__call__" ⟨.ref C :: rest, kw⟩)) (.call (.ref fI) ⟨.ref (s.heap.objs.size + 1) :: rest, kw⟩) (InitBack (s.heap.objs.size + 1) R)
      { s with heap := (s.heap.push emptyDict).push (instObj C s.heap.objs.size) }) : codeAny (model prog w) A (.call (.ref C) ⟨rest, kw⟩) R s := by
  obtain ⟨hh, g, d, t, os⟩ := s
  exact make_core (makes_of X hm) (looks_findIn X hi) (fun self => bind_fn X self (beq_iff_eq.mp hf)) (.inl rfl) h

/-- x.name where the instance's dict holds the name and the class does not -/
theorem get_field {x C : Addr} {ox : Obj} {es : List DictEntry} {n : Nat} {name : Str} {expr : Bool} {v : Value} {Q : Value → Shared → Prop}
    (X : K.In s.heap) (I : PySem.W.InstAt s.heap x ox C (some (dictOf es n))) (hg : plainGet K C name = true) (hh : hasDictIn K C = true) (ha : findIn K (.ref C) name = some none)
    (hl : getL name es = some (some v)) (hv : handedIn v = true) (h : Q v { s with toks := s.toks + 1 }) : wpAny (model prog w) A (getAttr (.ref x) name expr) Q E s :=
  get_value X I (plainGet_of hg).1 (findObj_own hh ha rfl hl) hv h

/-- x.m(..): the method found in the class -/
theorem get_method {x C f : Addr} {ox : Obj} {es : List DictEntry} {n : Nat} {name : Str} {pl : Sem Bool} {Q : Value × List Value → Shared → Prop}
    (X : K.In s.heap) (I : PySem.W.InstAt s.heap x ox C (some (dictOf es n))) (hg : plainGet K C name = true) (hf : findIn K (.ref C) name = some (some (.ref f))) (ht : isFn K (.ref f) = true)
    (hl : getL name es = some none) (h : Q (.ref f, [.ref x]) s) : wpAny (model prog w) A (getMethod (.ref x) name pl) Q E s :=
  method_fn X I (plainGet_of hg).1 (plainGet_of hg).2 hf (beq_iff_eq.mp ht) (by show (lookIn name (dictOf es n)).map _ = _; rw [lookIn_dict, hl]; rfl) h

/-! the whole heap as the ledger: makes every rule that writes through a ledger a rule over any heap -/
def noObjs (h : Heap) : Heap := { h with objs := #[] }
theorem noObjs_get (h : Heap) (b : Addr) : (noObjs h).get? b = none := by
  cases e : (noObjs h).get? b with
  | none => rfl
  | some o => exact absurd (Heap.lt_size e) (Nat.not_lt_zero _)
def ledger (h : Heap) (L d : Addr) : List (Addr × Obj) := (List.range h.objs.size).filterMap fun a => if a = L ∨ a = d then none else (h.get? a).map fun o => (a, o)
theorem mem_ledger {h : Heap} {L d a : Addr} {o : Obj} : (a, o) ∈ ledger h L d ↔ a ≠ L ∧ a ≠ d ∧ h.get? a = some o := by
  unfold ledger
  rw [List.mem_filterMap]
  constructor
  · rintro ⟨b, _, e⟩
    split at e
    · cases e
    · rename_i hb
      obtain ⟨o', ho, e'⟩ := Option.map_eq_some_iff.mp e
      cases e'
      exact ⟨fun q => hb (.inl q), fun q => hb (.inr q), ho⟩
  · rintro ⟨n1, n2, ho⟩
    refine ⟨a, List.mem_range.mpr (Heap.lt_size ho), ?_⟩
    rw [if_neg (show ¬ (a = L ∨ a = d) from fun q => q.elim n1 n2), ho] <;> rfl
theorem news_ledger {h : Heap} {L d : Addr} {od : Obj} (hne : d ≠ L) (ho : h.get? d = some od) : News (noObjs h) L h ([] ++ (d, od) :: ledger h L d) := by
  rintro ⟨a, o⟩ hp
  rcases List.mem_cons.mp hp with e | hp
  · cases e
    exact ⟨ho, hne, noObjs_get _ _⟩
  · obtain ⟨n1, n2, e⟩ := mem_ledger.mp hp
    exact ⟨e, n1, noObjs_get _ _⟩
theorem fr_all {h : Heap} {L : Addr} {m : Str → Option Value} (n : h.Ns L m) : Fr (noObjs h) L h m :=
  ⟨n, fun b o e => (by rw [noObjs_get] at e; cases e), Nat.zero_le _⟩
/-- Upd of the head entry (for append_K, setItem_K ..) -/
theorem upd_ledger {h : Heap} {L d : Addr} {o o' : Obj} : Upd d o o' ((d, o) :: ledger h L d) ((d, o') :: ledger h L d) :=
  .head fun ⟨_, _⟩ hp => (mem_ledger.mp hp).2.1

/-- x.name = v over any heap: L is any namespace of the heap (the frame's, say): its map stays, its object is not told; all else but the dict stays -/
theorem set_field {x C dx L : Addr} {ox : Obj} {m : Str → Option Value} {es es' : List DictEntry} {n n' : Nat} {name : Str} {v : Value} {Q : Unit → Shared → Prop}
    (X : K.In s.heap) (I : PySem.W.InstAt s.heap x ox C (some (dictOf es n))) (hd : ox.dict = some dx) (hL : s.heap.Ns L m) (hne : dx ≠ L)
    (hs : findIn K (.ref C) "__setattr__" = some (some (.builtin "object.__setattr__"))) (hp : plainOver K C = true) (ht : takerIn K C name = some none) (hh : hasDictIn K C = true) (hl : (getL name es).isSome = true)
    (e : (putL name (PyData.keyHash w.params name) (.str name (s.toks + 1)) v es, putN name es n) = (es', n')) (hz : es'.length ≤ 1000)
    (h : ∀ h' : Heap, h'.Ns L m → h'.get? dx = some (dictOf es' n') → (∀ b o, b ≠ dx → b ≠ L → s.heap.get? b = some o → h'.get? b = some o) → Q () { s with heap := h', toks := s.toks + 2 }) :
    wpAny (model prog w) A (setAttr (.ref x) name v) Q E s := by
  obtain ⟨e1, e2⟩ := Prod.mk.inj e
  have hdx : s.heap.get? dx = some (dictOf es n) := by
    have := I.dict
    rw [hd] at this
    exact this
  refine set_plain X I hs (osa_dict (s := { s with toks := s.toks + 1 }) (h₀ := noObjs s.heap) (L := L) (m := m) (od := dictOf es n) (od' := dictOf es' n') (es := es') (n := n') (pre := []) (post := ledger s.heap L dx)
    (fr_all hL) (news_ledger hne hdx) X I hd hp ht hh hl (fun _ q => nomatch q) (fun ⟨_, _⟩ q => (mem_ledger.mp q).2.1) (by rw [putName_dict, e1, e2]) rfl hz fun h' F' N' => ?_)
  exact h h' F'.ns (N'.get (List.Mem.head _)) fun b o n1 n2 ho => N'.get (List.Mem.tail _ (mem_ledger.mpr ⟨n2, n1, ho⟩))
end
end Att

namespace L2
open PySem PySem.Spec PyProof.Rows

theorem vals_ints : ∀ {vs : List Value} {ns : List Int}, IntsAre vs ns → Vals (ns.map V.int) vs
  | _, _, .nil => .nil
  | _, _, .cons n t h => .cons ⟨t, rfl⟩ (vals_ints h)

/-- nothing is tracked but the script, known to the object (or it is an object of the module) -/
def Only (H : Hp) : Prop := ∀ b, H b = none ∨ ∃ o xs, H b = some (.frz o (.lst xs))

/-- THE HEAD: the law's promise, at the heap behind the top. F, the promise of the law's def, may use that base is part of the heap (so K.In base, base.Ns mainGlobals mg stand in Mod) -/
theorem law_call {P : Program} {w : World} {K : PySem.W.Frag} {mg mb : Str → Option Value} {CX : CXT} {k : Nat} {fa a : Addr} {fd : FuncData} {x : Str} {sp : Sp} {s₁ : Shared} {vs : List Value} {ns : List Int}
    (KX : K.In s₁.heap) (hns : s₁.heap.Ns mainGlobals mg) (hb : s₁.heap.Ns builtinsNs mb) (hbb : ∀ x : Str, x ≠ "__name__" → mb x = bootBuiltins x) (hlim : s₁.heap.NoLimit) (hg : s₁.gens = #[])
    (ha : s₁.heap.get? a = some { cls := .type "list", data := .seq vs.toArray }) (hi : IntsAre vs ns) (hl : ns.length ≤ sizeLine) (hr : Room k callerA)
    (F : ∀ base : Heap, K.In base → base.Ns mainGlobals mg → FnOk P w K mg base CX k fa fd [x] sp) (hbind : ∀ (s : Shared) (u : Value), BindsTo s fd ⟨[u], []⟩ [(x, u)])
    (hsp : ∀ H : Hp, Only H → SqL K H a (ns.map V.int) → sp [.ref a] H (fun v _ => v = .bl true) fun _ _ _ => False)
    (hCX : ∀ H e s', CX [] H s₁ (fun _ _ _ => False) e s' → False) :
    codeAny (model P w) callerA (.call (.ref fa) ⟨[.ref a], []⟩) (fun r s' => r = .ok (.ret (.bool true)) ∧ OldK s₁.heap s'.heap ∧ s'.os = s₁.os ∧ AllBare s'.gens) s₁ := by
  have rv := vals_ints hi
  have lenV := hi.length
  -- from an abstract heap in which nothing but the script may be tracked
  have core : ∀ H : Hp, Only H → SqL K H a (ns.map V.int) → HOk P w H s₁.heap → (∀ b, H b ≠ none → b = a) → (H a ≠ none → K.lookup a = none) →
      codeAny (model P w) callerA (.call (.ref fa) ⟨[.ref a], []⟩) (fun r s' => r = .ok (.ret (.bool true)) ∧ OldK s₁.heap s'.heap ∧ s'.os = s₁.os ∧ AllBare s'.gens) s₁ := by
    intro H hO hS hok hA hK
    have base_of : ∀ {b : Addr} {o : Obj}, s₁.heap.get? b = some o → H b = none → (hidT s₁.heap H).get? b = some o := fun e n => hidT_get e n
    have noA : ∀ {b : Addr} {o : Obj} {es : Array DictEntry} {ep : Nat}, s₁.heap.get? b = some o → o.data = .dict es ep → H b = none := fun {b o es ep} e d => by
      cases q : H b with
      | none => rfl
      | some u =>
        have e' : b = a := hA b (by rw [q]; simp)
        subst e'
        rw [ha] at e; cases e
        have d' : Data.seq vs.toArray _ = Data.dict es ep := d
        cases d'
    have nsK : ∀ {b : Addr} {m : Str → Option Value}, s₁.heap.Ns b m → (hidT s₁.heap H).Ns b m := fun {b m} ⟨o, es, ep, e, d, r⟩ => ⟨o, es, ep, base_of e (noA e d), d, r⟩
    have hKb : K.In (hidT s₁.heap H) := fun b o e => base_of (KX b o e) (by
      cases q : H b with
      | none => rfl
      | some u =>
        have e' : b = a := hA b (by rw [q]; simp)
        subst e'
        rw [hK (by rw [q]; simp)] at e; cases e)
    have hM : Mod K mg (hidT s₁.heap H) := ⟨hKb, nsK hns, ⟨mb, nsK hb, hbb⟩, let ⟨mc, h1, h2⟩ := hlim; ⟨mc, nsK h1, h2⟩⟩
    have e0 : Env0 P w K mg (hidT s₁.heap H) callerA [] s₁ H := ⟨rfl, hM, fun b o e => of_hidT e, Nat.le_of_eq (hidT_size _ _), trivial, fun b hb => absurd (show b ∈ ([] : List Addr) from hb) (by simp), hok, .of_eq hg⟩
    refine codeAny_mono ((F _ hKb (nsK hns)).run callerA [] s₁ H ⟨[.ref a], []⟩ [.ref a] [.ref a] _ _ hr e0 (hbind s₁ (.ref a)) (.cons rfl .nil) (hsp H hO hS)) fun r s' h => ?_
    cases r with
    | error e => exact (hCX H e s' h).elim
    | ok fl =>
      cases fl with
      | next => exact False.elim h
      | brk => exact False.elim h
      | cont => exact False.elim h
      | ret u =>
        obtain ⟨v, H', os, bare, un, hok', r', q⟩ := h
        have q' : v = .bl true := q
        subst q'
        obtain rfl : u = Value.bool true := r'
        refine ⟨rfl, OldK.of_keep fun b o e => ?_, os, bare⟩
        cases q : H b with
        | none => exact un.keep b o e q (by intro z; exact absurd (show b ∈ ([] : List Addr) from z) (by simp)) (by simp)
        | some u =>
          rcases hO b with z | ⟨ob, xs, z⟩
          · rw [q] at z; cases z
          · have z2 := un.frzs b ob _ z
            obtain ⟨e1, _⟩ := hok b _ z
            obtain ⟨e2, _⟩ := hok' b _ z2
            rw [e] at e1; cases e1
            exact e2
  cases hk : K.lookup a with
  | some o =>
    -- the script is one of the module's own objects
    have e := KX a o hk
    rw [ha] at e
    cases e
    refine core (fun _ => none) (fun _ => .inl rfl) (.inr ⟨_, vs.toArray, _, hk, rfl, rfl, rfl, by rw [List.size_toArray, lenV]; exact hl, by simpa using rv⟩) (fun b u z => by have z' : (none : Option HO) = some u := z; cases z') (fun b z => absurd rfl z) fun z => absurd rfl z
  | none =>
    refine core (fun b => if b = a then some (.frz { cls := .type "list", data := .seq vs.toArray } (.lst (ns.map V.int))) else none) (fun b => ?_) (.inl (.inr ⟨{ cls := .type "list", data := .seq vs.toArray }, if_pos rfl⟩)) (fun b u z => ?_) (fun b z => ?_) fun _ => hk
    · by_cases hb : b = a
      · exact .inr ⟨_, _, if_pos hb⟩
      · exact .inl (if_neg hb)
    · by_cases hb : b = a
      · have z' := (if_pos hb).symm.trans z
        cases z'
        subst hb
        exact ⟨ha, by rw [List.length_map]; exact hl, vs, _, rv, ha⟩
      · have z' := (if_neg hb).symm.trans z
        cases z'
    · by_cases hb : b = a
      · exact hb
      · exact absurd (if_neg hb) z
end L2

namespace L2
open PySem PySem.Spec PyProof.Rows

abbrev KOf {K : PySem.W.Frag} {h : Heap} (_ : K.In h) : PySem.W.Frag := K

/-- the goal that k_head leaves (case hc), from the law's promise. F gives the function object fd (K's own) once, then the promise over every base -/
theorem walk_of {l : PySem.W.OpenLaw} {n k : Nat} {q : Program} {loose : List Str} {XP : (Str → Option Value) → Heap → Prop} {YP : World → Heap → Prop} {d : DefRec} {K : Params → PySem.W.Frag} {CX : World → CXT} {sp : World → Sp} {x : Str}
    (hn : l.most = some n) (hn2 : n ≤ sizeLine) (hdf : d.params.defaults = []) (hr : Room k callerA)
    (hY : ∀ (w : World) (h : Heap), YP w h → (K w.params).In h)
    (F : ∀ (w : World) (mg : Str → Option Value) (fa : Addr) (h : Heap), (K w.params).In h → h.Ns mainGlobals mg → mg d.name = some (.ref fa) →
      ∃ fd : FuncData, (∀ (s : Shared) (u : Value), BindsTo s fd ⟨[u], []⟩ [(x, u)]) ∧
        ∀ base : Heap, (K w.params).In base → base.Ns mainGlobals mg → FnOk l.prog w (K w.params) mg base (CX w) k fa fd [x] (sp w))
    (hsp : ∀ (w : World) (H : Hp) (a : Addr) (ns : List Int), ns.length ≤ n → Only H → SqL (K w.params) H a (ns.map V.int) → sp w [.ref a] H (fun v _ => v = .bl true) fun _ _ _ => False)
    (hCX : ∀ (w : World) (H : Hp) (s : Shared) (e : Value) (s' : Shared), CX w [] H s (fun _ _ _ => False) e s' → False) :
    PySem.W.WalkO q loose XP YP l.row.toRowW d [] (fun f vs => PySem.call f vs) := by
  refine Att.attach_call hn hdf fun w s₀ s₁ mg mb fa o pm cd doc a vs ns G Y ho hd hcd hmg hobj hints hlen hg => ?_
  have KX := hY w _ Y
  obtain ⟨fd, hb, hF⟩ := F w mg fa _ KX G.T.g hmg
  exact law_call KX G.T.g G.T.b G.T.builtins G.T.nolimit hg hobj hints (Nat.le_trans hlen hn2) hr hF hb (fun H hO hS => hsp w H a ns hlen hO hS) fun H e s' => hCX w H s₁ e s'
/-- the same where the promise hangs on the written part alone: (sp := My.sp_law), no hole under a binder -/
theorem walk_ofK {l : PySem.W.OpenLaw} {n k : Nat} {q : Program} {loose : List Str} {XP : (Str → Option Value) → Heap → Prop} {YP : World → Heap → Prop} {d : DefRec} {K : Params → PySem.W.Frag} {CX : CXT} {sp : PySem.W.Frag → Sp} {x : Str}
    (hn : l.most = some n) (hn2 : n ≤ sizeLine) (hdf : d.params.defaults = []) (hr : Room k callerA)
    (hY : ∀ (w : World) (h : Heap), YP w h → (K w.params).In h)
    (F : ∀ (w : World) (mg : Str → Option Value) (fa : Addr) (h : Heap), (K w.params).In h → h.Ns mainGlobals mg → mg d.name = some (.ref fa) →
      ∃ fd : FuncData, (∀ (s : Shared) (u : Value), BindsTo s fd ⟨[u], []⟩ [(x, u)]) ∧
        ∀ base : Heap, (K w.params).In base → base.Ns mainGlobals mg → FnOk l.prog w (K w.params) mg base CX k fa fd [x] (sp (K w.params)))
    (hsp : ∀ (K : PySem.W.Frag) (H : Hp) (a : Addr) (ns : List Int), ns.length ≤ n → Only H → SqL K H a (ns.map V.int) → sp K [.ref a] H (fun v _ => v = .bl true) fun _ _ _ => False)
    (hCX : ∀ (H : Hp) (s : Shared) (e : Value) (s' : Shared), CX [] H s (fun _ _ _ => False) e s' → False) :
    PySem.W.WalkO q loose XP YP l.row.toRowW d [] (fun f vs => PySem.call f vs) :=
  walk_of (K := K) (CX := fun _ => CX) (sp := fun w => sp (K w.params)) hn hn2 hdf hr hY F (fun w H a ns h1 h2 h3 => hsp (K w.params) H a ns h1 h2 h3) fun _ H s e s' => hCX H s e s'
end L2



/-! SHORT WORDS over the layer: a def of the text, its body, what a loop and a test want. -/
namespace L2
open PySem PySem.Spec PyProof.Rows

/-! ### the text by places -/
/-- the j-th statement of a class's body -/
def inClass (s : Stmt) (j : Nat) : Stmt := match s with
  | .ClassDef _ _ _ body _ _ _ _ _ _ _ => body.getD j (.Pass ⟨0, 0, 0, 0⟩)
  | _ => .Pass ⟨0, 0, 0, 0⟩
def defArgs (s : Stmt) : Arguments := match s with
  | .FunctionDef _ a _ _ _ _ _ _ _ _ => a
  | _ => { posonlyargs := [], args := [], vararg := none, kwonlyargs := [], kw_defaults := [], kwarg := none, defaults := [] }
def defBody (s : Stmt) : List Stmt := match s with
  | .FunctionDef _ _ b _ _ _ _ _ _ _ => b
  | _ => []
def defScope (s : Stmt) : Scope := match s with
  | .FunctionDef _ _ _ _ _ _ sc _ _ _ => sc
  | _ => { kind := .function, names := [], isGenerator := false, isCoroutine := false }

/-! ### no exception leaves a def -/
abbrev CX0 : CXT := fun _ _ _ _ _ _ => False
abbrev E0 : XK := fun _ _ _ => False
theorem pass0 {X : Cx} : Passes CX0 X E0 := fun _ _ _ _ _ _ _ h => h.elim

/-! ### a def (or method) of the text as it stands behind the top -/
structure Fun (K : PySem.W.Frag) (x qual : Str) (st : Stmt) (f : Addr) (fd : FuncData) : Prop where
  ex : ∃ (oc : Value) (od : Option Addr) (kV doc pm : Value) (an : Option Addr) (cdv ct : Value) (osl : Array (Option Value)),
    fd = PySem.W.fnOf x qual (defArgs st) (defBody st) (defScope st) .none kV doc pm an cdv ct ∧ K.lookup f = some ⟨oc, od, .func fd, osl⟩ ∧ PySem.W.codeIn K cdv qual = true
  kp : PySem.W.keepIn K (.ref f) = true
section
variable {P : Program} {w : World} {K : PySem.W.Frag} {mg : Str → Option Value} {base : Heap}
/-- THE RULE for a def: its body as a term of rules, and the reading of that term -/
theorem Fun.ok {x qual : Str} {st : Stmt} {f : Addr} {fd : FuncData} {N ps : List Str} {k : Nat} {sp : Sp} (F : Fun K x qual st f fd) (S : FnScope N ps (defScope st)) (len : ∀ vs H Q E, sp vs H Q E → vs.length = ps.length)
    (hbody : ∀ (cdv : Value) (A : Around) (outer : List Env) (s : Shared) (H : Hp) (vs : List V) (Q : VK) (E : XK), Room k (A.deeper (envOfC qual (defScope st) s.heap.objs.size f cdv)) → sp vs H Q E →
      ∃ t, PSs (cxOf CX0 P w K mg base N qual (defScope st) f cdv A outer s H E).nox (defBody st) t ∧ t { nx := fun _ H' => Q .non H', rt := Q } (start N vs) H) : FnOk P w K mg base CX0 (k + 1) f fd ps sp := by
  obtain ⟨oc, od, kV, doc, pm, an, cdv, ct, osl, rfl, lk, hcd⟩ := F.ex
  refine fn_of lk hcd S len fun A outer s H vs Q E hr hsp => ?_
  obtain ⟨t, h, q⟩ := hbody cdv A outer s H vs Q E hr hsp
  exact ⟨t, h.nox, q⟩
/-- how its arguments bind (no defaults): h is «fun _ _ _ _ _ _ us hl => match us, hl with | [_, _], _ => rfl», one _ a parameter -/
theorem Fun.binds {x qual : Str} {st : Stmt} {f : Addr} {fd : FuncData} {ps : List Str} (F : Fun K x qual st f fd)
    (h : ∀ (kV doc pm : Value) (an : Option Addr) (cdv ct : Value) (us : List Value), us.length = ps.length → bindArgs (PySem.W.fnOf x qual (defArgs st) (defBody st) (defScope st) .none kV doc pm an cdv ct) ⟨us, []⟩ = pure (ps.zip us)) : Binds K fd ps [] := by
  obtain ⟨oc, od, kV, doc, pm, an, cdv, ct, osl, rfl, lk, hcd⟩ := F.ex
  exact .all (h kV doc pm an cdv ct)
theorem fun_mk {x qual : Str} {st : Stmt} {f : Addr} {oc : Value} {od an : Option Addr} {osl : Array (Option Value)} {kV doc pm cdv ct : Value} (l : K.lookup f = some ⟨oc, od, .func (PySem.W.fnOf x qual (defArgs st) (defBody st) (defScope st) .none kV doc pm an cdv ct), osl⟩)
    (c : PySem.W.codeIn K cdv qual = true) (k : PySem.W.keepIn K (.ref f) = true) : Fun K x qual st f (PySem.W.fnOf x qual (defArgs st) (defBody st) (defScope st) .none kV doc pm an cdv ct) := ⟨⟨oc, od, kV, doc, pm, an, cdv, ct, osl, rfl, l, c⟩, k⟩
end
theorem hu_of {A : Around} {k : Nat} (hr : Room k A) : A.units + 1 < cLine := Nat.lt_of_le_of_lt (Nat.add_le_add_left (by decide : 1 ≤ 64) _) hr.units
theorem small1000 {n : Nat} (h : n ≤ 1000) : n < sizeLine := Nat.lt_of_le_of_lt h (by decide)

/-! ### expressions in short: the name that stands in the i-th slot -/
section
variable {X : Cx}
theorem pv (i : Nat) {x : Str} {pos : Pos} (hN : X.N[i]? = some x := by rfl) (hv : Vis X.env.scope x := by first | exact Or.inl rfl | exact Or.inr (Or.inl rfl) | exact Or.inr (Or.inr rfl)) (hd : (x == ("__debug__" : Str)) = false := by decide)
    (hcd : (x == ("__classdict__" : Str)) = false := by decide) : PE X (.Name x pos) (tVar i) := pe_var hN hv hd hcd
end

/-! ### tests -/
theorem iteF {A B : Prop} (h : B) : if false = true then A else B := by
  rw [if_neg Bool.false_ne_true]
  exact h
theorem iteT {A B : Prop} (h : A) : if true = true then A else B := by
  rw [if_pos rfl]
  exact h
theorem ite2 {c A B : Prop} [Decidable c] (h1 : c → A) (h2 : ¬ c → B) : if c then A else B := by
  by_cases h : c
  · rw [if_pos h]
    exact h1 h
  · rw [if_neg h]
    exact h2 h
theorem iteNS {c A B : Prop} [Decidable c] (hc : c) (h : B) : if (!decide c) = true then A else B := by
  rw [decide_eq_true hc]
  exact iteF h

/-! ### heaps -/
/-- all that was tracked is as it was -/
def Same (H H' : Hp) : Prop := ∀ b o, H b = some o → H' b = some o
theorem Same.refl (H : Hp) : Same H H := fun _ _ h => h
theorem Same.trans {H H1 H2 : Hp} (a : Same H H1) (b : Same H1 H2) : Same H H2 := fun c o h => b c o (a c o h)
theorem Same.free {H H' : Hp} (e : Same H H') {l : Addr} (h : H' l = Option.none) : H l = Option.none := by
  cases q : H l with
  | none => rfl
  | some o =>
    rw [e l o q] at h
    cases h
theorem Same.seq {K : PySem.W.Frag} {H H' : Hp} {a : Addr} {xs : List V} (e : Same H H') (h : SqL K H a xs) : SqL K H' a xs := by
  rcases h with (h | ⟨o, h⟩) | h
  · exact .inl (.inl (e _ _ h))
  · exact .inl (.inr ⟨o, e _ _ h⟩)
  · exact .inr h

end L2

/-! Blocks of spans: the canonical blocks of a set of cells, and that any aligned, disjoint, mateless cover is them. -/
namespace Loft
abbrev Blk := Int × Int
theorem pow_pos2 (k : Nat) : (0 : Int) < 2 ^ k := by
  induction k with
  | zero => decide
  | succ k ih => rw [Int.pow_succ]; omega
theorem pow_succ2 (k : Nat) : (2 : Int) ^ (k + 1) = 2 ^ k + 2 ^ k := by rw [Int.pow_succ]; omega
theorem pow_dvd2 {j k : Nat} (h : j ≤ k) : (2 : Int) ^ j ∣ 2 ^ k := by
  obtain ⟨d, rfl⟩ : ∃ d, k = j + d := ⟨k - j, by omega⟩
  exact ⟨2 ^ d, by rw [Int.pow_add]⟩
theorem pow_le2 {j k : Nat} (h : j ≤ k) : (2 : Int) ^ j ≤ 2 ^ k := Int.le_of_dvd (pow_pos2 k) (pow_dvd2 h)
theorem pow_lt2 {j k : Nat} (h : j < k) : (2 : Int) ^ j < 2 ^ k := by
  have := pow_le2 (show j + 1 ≤ k from h)
  have := pow_succ2 j
  have := pow_pos2 j
  omega
theorem pow_inj2 {j k : Nat} (h : (2 : Int) ^ j = 2 ^ k) : j = k := by
  rcases Nat.lt_trichotomy j k with c | c | c
  · have := pow_lt2 c; omega
  · exact c
  · have := pow_lt2 c; omega
theorem gap {d a b : Int} (hd : 0 < d) (ha : d ∣ a) (hb : d ∣ b) (h : a < b) : a + d ≤ b := by
  obtain ⟨u, rfl⟩ := ha
  obtain ⟨v, rfl⟩ := hb
  have huv : u < v := Int.lt_of_mul_lt_mul_left h (Int.le_of_lt hd)
  have : d * (u + 1) ≤ d * v := Int.mul_le_mul_of_nonneg_left (by omega) (Int.le_of_lt hd)
  rw [Int.mul_add, Int.mul_one] at this
  exact this

/-- all cells of the 2 ^ k from s on are marked -/
def full (m : Int → Bool) (s : Int) : Nat → Bool
  | 0 => m s
  | k + 1 => full m s k && full m (s + 2 ^ k) k
theorem full_iff {m : Int → Bool} : ∀ {k : Nat} {s : Int}, full m s k = true ↔ ∀ x, s ≤ x → x < s + 2 ^ k → m x = true
  | 0, s => by
    show m s = true ↔ _
    constructor
    · intro h x h1 h2
      have : x = s := by simp at h2; omega
      rw [this]; exact h
    · intro h; exact h s (Int.le_refl _) (by simp; omega)
  | k + 1, s => by
    show (full m s k && full m (s + 2 ^ k) k) = true ↔ _
    rw [Bool.and_eq_true, full_iff, full_iff]
    have e := pow_succ2 k
    have p := pow_pos2 k
    constructor
    · rintro ⟨h1, h2⟩ x a b
      by_cases c : x < s + 2 ^ k
      · exact h1 x a c
      · exact h2 x (by omega) (by omega)
    · intro h
      exact ⟨fun x a b => h x a (by omega), fun x a b => h x (by omega) (by omega)⟩
/-- the canonical blocks of the marked cells from s on -/
def canon (m : Int → Bool) (s : Int) : Nat → List Blk
  | 0 => if m s then [(s, 1)] else []
  | k + 1 => if full m s (k + 1) then [(s, 2 ^ (k + 1))] else canon m s k ++ canon m (s + 2 ^ k) k

def Ends (a b : Blk) : Prop := a.1 + a.2 ≤ b.1
def Disj (a b : Blk) : Prop := a.1 + a.2 ≤ b.1 ∨ b.1 + b.2 ≤ a.1
theorem Disj.symm {a b : Blk} (h : Disj a b) : Disj b a := h.elim .inr .inl
def InB (x : Int) (b : Blk) : Prop := b.1 ≤ x ∧ x < b.1 + b.2
/-- b is the upper half whose mate a is -/
def Mates (a b : Blk) : Prop := b.2 = a.2 ∧ b.1 = a.1 + a.2 ∧ (a.2 + a.2) ∣ a.1
structure IsBlk (s : Int) (k : Nat) (b : Blk) : Prop where
  sp : ∃ j : Nat, b.2 = 2 ^ j
  al : b.2 ∣ b.1
  lo : s ≤ b.1
  hi : b.1 + b.2 ≤ s + 2 ^ k
theorem IsBlk.pos {s k b} (h : IsBlk s k b) : 0 < b.2 := by
  obtain ⟨j, e⟩ := h.sp
  rw [e]; exact pow_pos2 j
structure Blocks (m : Int → Bool) (s : Int) (k : Nat) (L : List Blk) : Prop where
  blk : ∀ b ∈ L, IsBlk s k b
  cov : ∀ x, s ≤ x → x < s + 2 ^ k → (m x = true ↔ ∃ b ∈ L, InB x b)
  dis : L.Pairwise Disj
  nom : ∀ a ∈ L, ∀ b ∈ L, ¬ Mates a b
theorem Blocks.perm {m s k L L'} (h : Blocks m s k L) (p : L'.Perm L) : Blocks m s k L' where
  blk b hb := h.blk b (p.mem_iff.mp hb)
  cov x a b := (h.cov x a b).trans ⟨fun ⟨c, d, e⟩ => ⟨c, p.mem_iff.mpr d, e⟩, fun ⟨c, d, e⟩ => ⟨c, p.mem_iff.mp d, e⟩⟩
  dis := (p.pairwise_iff (fun h => h.symm)).mpr h.dis
  nom a ha b hb := h.nom a (p.mem_iff.mp ha) b (p.mem_iff.mp hb)
theorem Blocks.congr {m m' s k L} (h : Blocks m s k L) (e : ∀ x, s ≤ x → x < s + 2 ^ k → m' x = m x) : Blocks m' s k L where
  blk := h.blk
  cov x a b := by rw [e x a b]; exact h.cov x a b
  dis := h.dis
  nom := h.nom

/-- a block within [s, s + 2 ^ (k + 1)) is the whole or lies in a half -/
theorem IsBlk.half {s k b} (h : IsBlk s (k + 1) b) (hs : (2 : Int) ^ (k + 1) ∣ s) : b = (s, 2 ^ (k + 1)) ∨ IsBlk s k b ∨ IsBlk (s + 2 ^ k) k b := by
  obtain ⟨⟨j, ej⟩, al, lo, hi⟩ := h
  have e := pow_succ2 k
  have p := pow_pos2 k
  have pj := pow_pos2 j
  by_cases c : j ≤ k
  · right
    have d1 : (2 : Int) ^ j ∣ s + 2 ^ k := by
      have a1 : (2 : Int) ^ j ∣ s := Int.dvd_trans (pow_dvd2 (by omega)) hs
      exact Int.dvd_add a1 (pow_dvd2 c)
    rw [ej] at al
    by_cases q : b.1 < s + 2 ^ k
    · left
      have := gap pj al d1 q
      exact ⟨⟨j, ej⟩, by rw [ej]; exact al, lo, by rw [ej]; exact this⟩
    · right
      exact ⟨⟨j, ej⟩, by rw [ej]; exact al, by omega, by omega⟩
  · left
    have := pow_le2 (show k + 1 ≤ j by omega)
    have h2 : b.2 = 2 ^ (k + 1) := by omega
    have h1 : b.1 = s := by omega
    exact Prod.ext h1 h2
theorem IsBlk.wide {s k b} (h : IsBlk s k b) : b.2 ≤ 2 ^ k := by have := h.lo; have := h.hi; omega
theorem IsBlk.up0 {s k b} (h : IsBlk s k b) : IsBlk s (k + 1) b := ⟨h.sp, h.al, h.lo, by have := h.hi; have := pow_succ2 k; have := pow_pos2 k; omega⟩
theorem IsBlk.up1 {s k b} (h : IsBlk (s + 2 ^ k) k b) : IsBlk s (k + 1) b := ⟨h.sp, h.al, by have := h.lo; have := pow_pos2 k; omega, by have := h.hi; have := pow_succ2 k; omega⟩

theorem canon_in {m : Int → Bool} : ∀ {k : Nat} {s : Int} {b : Blk}, (2 : Int) ^ k ∣ s → b ∈ canon m s k → IsBlk s k b
  | 0, s, b, hs, h => by
    unfold canon at h
    by_cases c : m s = true
    · rw [if_pos c] at h
      have : b = (s, 1) := by simpa using h
      subst this
      exact ⟨⟨0, rfl⟩, Int.one_dvd _, Int.le_refl _, Int.le_refl _⟩
    · rw [if_neg c] at h; cases h
  | k + 1, s, b, hs, h => by
    unfold canon at h
    by_cases c : full m s (k + 1) = true
    · rw [if_pos c] at h
      have : b = (s, 2 ^ (k + 1)) := by simpa using h
      subst this
      exact ⟨⟨k + 1, rfl⟩, hs, Int.le_refl _, Int.le_refl _⟩
    · rw [if_neg c] at h
      have d0 : (2 : Int) ^ k ∣ s := Int.dvd_trans (pow_dvd2 (by omega)) hs
      rcases List.mem_append.mp h with h | h
      · exact (canon_in d0 h).up0
      · exact (canon_in (Int.dvd_add d0 (Int.dvd_refl _)) h).up1
theorem canon_cov {m : Int → Bool} : ∀ {k : Nat} {s : Int} {x : Int}, (2 : Int) ^ k ∣ s → s ≤ x → x < s + 2 ^ k → (m x = true ↔ ∃ b ∈ canon m s k, InB x b)
  | 0, s, x, hs, h1, h2 => by
    have e : x = s := by simp at h2; omega
    subst e
    unfold canon
    by_cases c : m x = true
    · rw [if_pos c]
      exact ⟨fun _ => ⟨(x, 1), by simp, ⟨Int.le_refl _, by show x < x + 1; omega⟩⟩, fun _ => c⟩
    · rw [if_neg c]
      exact ⟨fun h => absurd h c, fun ⟨b, h, _⟩ => by cases h⟩
  | k + 1, s, x, hs, h1, h2 => by
    unfold canon
    have e := pow_succ2 k
    have d0 : (2 : Int) ^ k ∣ s := Int.dvd_trans (pow_dvd2 (by omega)) hs
    by_cases c : full m s (k + 1) = true
    · rw [if_pos c]
      exact ⟨fun _ => ⟨(s, 2 ^ (k + 1)), by simp, ⟨h1, h2⟩⟩, fun _ => full_iff.mp c x h1 h2⟩
    · rw [if_neg c]
      by_cases q : x < s + 2 ^ k
      · rw [canon_cov (m := m) d0 h1 q]
        constructor
        · rintro ⟨b, hb, i⟩; exact ⟨b, List.mem_append_left _ hb, i⟩
        · rintro ⟨b, hb, i⟩
          rcases List.mem_append.mp hb with hb | hb
          · exact ⟨b, hb, i⟩
          · have l := (canon_in (Int.dvd_add d0 (Int.dvd_refl _)) hb).lo
            have := i.1
            omega
      · rw [canon_cov (m := m) (Int.dvd_add d0 (Int.dvd_refl _)) (by omega) (by omega)]
        constructor
        · rintro ⟨b, hb, i⟩; exact ⟨b, List.mem_append_right _ hb, i⟩
        · rintro ⟨b, hb, i⟩
          rcases List.mem_append.mp hb with hb | hb
          · have l := (canon_in d0 hb).hi
            have := i.2
            omega
          · exact ⟨b, hb, i⟩
theorem canon_ends {m : Int → Bool} : ∀ {k : Nat} {s : Int}, (2 : Int) ^ k ∣ s → (canon m s k).Pairwise Ends
  | 0, s, hs => by
    unfold canon
    by_cases c : m s = true
    · rw [if_pos c]; exact List.pairwise_singleton _ _
    · rw [if_neg c]; exact List.Pairwise.nil
  | k + 1, s, hs => by
    unfold canon
    by_cases c : full m s (k + 1) = true
    · rw [if_pos c]; exact List.pairwise_singleton _ _
    · rw [if_neg c]
      have d0 : (2 : Int) ^ k ∣ s := Int.dvd_trans (pow_dvd2 (by omega)) hs
      have d1 : (2 : Int) ^ k ∣ s + 2 ^ k := Int.dvd_add d0 (Int.dvd_refl _)
      refine List.pairwise_append.mpr ⟨canon_ends d0, canon_ends d1, fun a ha b hb => ?_⟩
      exact Int.le_trans (canon_in d0 ha).hi (canon_in d1 hb).lo
/-- two mates lie on no boundary of greater blocks -/
theorem canon_nom {m : Int → Bool} : ∀ {k : Nat} {s : Int}, (2 : Int) ^ k ∣ s → ∀ a ∈ canon m s k, ∀ b ∈ canon m s k, ¬ Mates a b
  | 0, s, hs, a, ha, b, hb, h => by
    have i := canon_in hs ha
    have j := canon_in hs hb
    have := i.pos
    have := j.pos
    have := i.lo
    have := j.hi
    have := h.2.1
    simp at *
    omega
  | k + 1, s, hs, a, ha, b, hb, h => by
    have d0 : (2 : Int) ^ k ∣ s := Int.dvd_trans (pow_dvd2 (by omega)) hs
    have d1 : (2 : Int) ^ k ∣ s + 2 ^ k := Int.dvd_add d0 (Int.dvd_refl _)
    have e := pow_succ2 k
    unfold canon at ha hb
    by_cases c : full m s (k + 1) = true
    · rw [if_pos c] at ha hb
      have e1 : a = (s, 2 ^ (k + 1)) := by simpa using ha
      have e2 : b = (s, 2 ^ (k + 1)) := by simpa using hb
      subst e1
      subst e2
      have := h.2.1
      have := pow_pos2 (k + 1)
      simp at *
      omega
    · rw [if_neg c] at ha hb
      rcases List.mem_append.mp ha with ha | ha
      · rcases List.mem_append.mp hb with hb | hb
        · exact canon_nom d0 a ha b hb h
        · have i := canon_in d0 ha
          have i2 := canon_in d1 hb
          obtain ⟨j, ej⟩ := i.sp
          have wj := i.wide
          obtain ⟨h1, h2, h3⟩ := h
          have ih := i.hi
          have il := i2.lo
          have es : a.1 + a.2 = s + 2 ^ k := by omega
          rw [ej] at es h3 wj
          have hjk : j ≤ k := by
            rcases Nat.lt_or_ge k j with q | q
            · have := pow_lt2 q; omega
            · exact q
          rcases Nat.lt_or_eq_of_le hjk with q | q
          · -- s + 2 ^ k and a.1 are multiples of 2 ^ (j + 1)
            rw [← pow_succ2] at h3
            have d2 : (2 : Int) ^ (j + 1) ∣ s + 2 ^ k := Int.dvd_add (Int.dvd_trans (pow_dvd2 (by omega)) hs) (pow_dvd2 q)
            have pj := pow_pos2 j
            have := gap (pow_pos2 (j + 1)) h3 d2 (by omega)
            have := pow_succ2 j
            omega
          · subst q
            apply c
            refine full_iff.mpr fun x x1 x2 => ?_
            by_cases q : x < s + 2 ^ j
            · exact (canon_cov d0 x1 q).mpr ⟨a, ha, by have := i.lo; omega, by omega⟩
            · exact (canon_cov d1 (by omega) (by omega)).mpr ⟨b, hb, by omega, by rw [h1, ej]; omega⟩
      · rcases List.mem_append.mp hb with hb | hb
        · have i := canon_in d1 ha
          have i2 := canon_in d0 hb
          have := i.lo
          have := i2.hi
          have := i.pos
          have := i2.pos
          have := h.2.1
          omega
        · exact canon_nom d1 a ha b hb h
theorem ends_disj {L : List Blk} (h : L.Pairwise Ends) : L.Pairwise Disj := h.imp fun x => .inl x
theorem canon_blocks {m : Int → Bool} {k : Nat} {s : Int} (hs : (2 : Int) ^ k ∣ s) : Blocks m s k (canon m s k) :=
  ⟨fun _ h => canon_in hs h, fun _ a b => canon_cov hs a b, ends_disj (canon_ends hs), canon_nom hs⟩

/-- a list that goes on behind p is cut by it -/
theorem cut_list {α : Type} {R : α → α → Prop} {p : α → Bool} : ∀ {L : List α}, L.Pairwise R → (∀ a b, R a b → p b = true → p a = true) → L = L.filter p ++ L.filter (fun x => !p x)
  | [], _, _ => rfl
  | a :: L, h, hp => by
    have ih := cut_list (List.pairwise_cons.mp h).2 hp
    by_cases c : p a = true
    · rw [List.filter_cons_of_pos c, List.filter_cons_of_neg (by simp [c]), List.cons_append, ← ih]
    · have z : ∀ x ∈ L, ¬ p x = true := fun x hx q => c (hp a x ((List.pairwise_cons.mp h).1 x hx) q)
      have e1 : L.filter p = [] := List.filter_eq_nil_iff.mpr z
      rw [List.filter_cons_of_neg c, List.filter_cons_of_pos (by simp [c]), e1, List.nil_append]
      congr 1
      rw [e1, List.nil_append] at ih
      exact ih

theorem Blocks.sub {m s k L} (h : Blocks m s (k + 1) L) (hs : (2 : Int) ^ (k + 1) ∣ s) (hw : (s, 2 ^ (k + 1)) ∉ L) :
    Blocks m s k (L.filter fun b => decide (b.1 < s + 2 ^ k)) ∧ Blocks m (s + 2 ^ k) k (L.filter fun b => !decide (b.1 < s + 2 ^ k)) := by
  have e := pow_succ2 k
  have p := pow_pos2 k
  have cas : ∀ b ∈ L, (IsBlk s k b ∧ b.1 < s + 2 ^ k) ∨ (IsBlk (s + 2 ^ k) k b ∧ ¬ b.1 < s + 2 ^ k) := fun b hb => by
    rcases (h.blk b hb).half hs with q | q | q
    · subst q; exact absurd hb hw
    · exact .inl ⟨q, by have := q.hi; have := q.pos; omega⟩
    · exact .inr ⟨q, by have := q.lo; omega⟩
  constructor
  · refine ⟨fun b hb => ?_, fun x x1 x2 => ?_, h.dis.filter _, fun a ha b hb => h.nom a (List.mem_filter.mp ha).1 b (List.mem_filter.mp hb).1⟩
    · obtain ⟨hb, q⟩ := List.mem_filter.mp hb
      have q := of_decide_eq_true q
      exact ((cas b hb).resolve_right fun z => z.2 q).1
    · rw [h.cov x x1 (by omega)]
      constructor
      · rintro ⟨b, hb, i⟩
        exact ⟨b, List.mem_filter.mpr ⟨hb, decide_eq_true (by have := i.1; omega)⟩, i⟩
      · rintro ⟨b, hb, i⟩
        exact ⟨b, (List.mem_filter.mp hb).1, i⟩
  · refine ⟨fun b hb => ?_, fun x x1 x2 => ?_, h.dis.filter _, fun a ha b hb => h.nom a (List.mem_filter.mp ha).1 b (List.mem_filter.mp hb).1⟩
    · obtain ⟨hb, q⟩ := List.mem_filter.mp hb
      have q : ¬ b.1 < s + 2 ^ k := by simpa using q
      exact ((cas b hb).resolve_left fun z => q z.2).1
    · rw [h.cov x (by omega) (by omega)]
      constructor
      · rintro ⟨b, hb, i⟩
        refine ⟨b, List.mem_filter.mpr ⟨hb, ?_⟩, i⟩
        rcases cas b hb with q | q
        · have := q.1.hi; have := i.2; omega
        · simpa using q.2
      · rintro ⟨b, hb, i⟩
        exact ⟨b, (List.mem_filter.mp hb).1, i⟩
/-- a full stretch has but its one block -/
theorem Blocks.whole {m : Int → Bool} : ∀ {k : Nat} {s : Int} {L : List Blk}, Blocks m s k L → (2 : Int) ^ k ∣ s → full m s k = true → (s, 2 ^ k) ∈ L
  | 0, s, L, h, hs, hf => by
    obtain ⟨b, hb, i⟩ := (h.cov s (Int.le_refl _) (by simp; omega)).mp hf
    have q := h.blk b hb
    have e1 : b = (s, 2 ^ 0) := by
      have := q.lo
      have := q.hi
      have := q.pos
      have := i.1
      have := i.2
      refine Prod.ext ?_ ?_ <;> simp at * <;> omega
    rw [← e1]; exact hb
  | k + 1, s, L, h, hs, hf => by
    by_cases hw : (s, 2 ^ (k + 1)) ∈ L
    · exact hw
    · exfalso
      obtain ⟨h0, h1⟩ := h.sub hs hw
      have d0 : (2 : Int) ^ k ∣ s := Int.dvd_trans (pow_dvd2 (by omega)) hs
      have d1 : (2 : Int) ^ k ∣ s + 2 ^ k := Int.dvd_add d0 (Int.dvd_refl _)
      have hf' : (full m s k && full m (s + 2 ^ k) k) = true := hf
      rw [Bool.and_eq_true] at hf'
      have a := whole h0 d0 hf'.1
      have b := whole h1 d1 hf'.2
      refine h.nom _ (List.mem_filter.mp a).1 _ (List.mem_filter.mp b).1 ⟨rfl, rfl, ?_⟩
      show (2 : Int) ^ k + 2 ^ k ∣ s
      rw [← pow_succ2]; exact hs
theorem single {α : Type} {R : α → α → Prop} {L : List α} {b : α} (hb : b ∈ L) (hd : L.Pairwise R) (ha : ∀ a ∈ L, ¬ R a b ∧ ¬ R b a) : L = [b] := by
  cases L with
  | nil => cases hb
  | cons x L =>
    obtain ⟨h1, h2⟩ := List.pairwise_cons.mp hd
    rcases List.mem_cons.mp hb with rfl | hb
    · cases L with
      | nil => rfl
      | cons y L => exact absurd (h1 y (.head _)) (ha y (.tail _ (.head _))).2
    · exact absurd (h1 b hb) (ha x (.head _)).1
/-- THE UNIQUENESS -/
theorem Blocks.unique {m : Int → Bool} : ∀ {k : Nat} {s : Int} {L : List Blk}, Blocks m s k L → (2 : Int) ^ k ∣ s → L.Pairwise Ends → L = canon m s k
  | 0, s, L, h, hs, hE => by
    unfold canon
    by_cases c : m s = true
    · rw [if_pos c]
      have w := h.whole hs c
      refine single w hE fun a ha => ?_
      have q := h.blk a ha
      have := q.lo
      have := q.hi
      have := q.pos
      unfold Ends
      simp at *
      omega
    · rw [if_neg c]
      cases L with
      | nil => rfl
      | cons b L =>
        exfalso
        have q := h.blk b (.head _)
        have := q.lo
        have := q.hi
        have := q.pos
        exact c ((h.cov s (Int.le_refl _) (by simp; omega)).mpr ⟨b, .head _, by simp at *; omega, by simp at *; omega⟩)
  | k + 1, s, L, h, hs, hE => by
    unfold canon
    have e := pow_succ2 k
    have p := pow_pos2 k
    by_cases c : full m s (k + 1) = true
    · rw [if_pos c]
      have w := h.whole hs c
      refine single w hE fun a ha => ?_
      have q := h.blk a ha
      have := q.lo
      have := q.hi
      have := q.pos
      unfold Ends
      simp at *
      omega
    · rw [if_neg c]
      have hw : (s, 2 ^ (k + 1)) ∉ L := fun w => c (full_iff.mpr fun x x1 x2 => (h.cov x x1 x2).mpr ⟨_, w, x1, x2⟩)
      obtain ⟨h0, h1⟩ := h.sub hs hw
      have d0 : (2 : Int) ^ k ∣ s := Int.dvd_trans (pow_dvd2 (by omega)) hs
      have d1 : (2 : Int) ^ k ∣ s + 2 ^ k := Int.dvd_add d0 (Int.dvd_refl _)
      have cut := cut_list (p := fun b : Blk => decide (b.1 < s + 2 ^ k)) (R := fun a b : Blk => Ends a b ∧ 0 < a.2) (L := L)
        (hE.imp_of_mem fun {a b} ha hb r => ⟨r, (h.blk a ha).pos⟩) (fun a b r q => by
          have q := of_decide_eq_true q
          have := r.1
          have := r.2
          unfold Ends at *
          exact decide_eq_true (by omega))
      rw [cut, unique h0 d0 (hE.filter _), unique h1 d1 (hE.filter _)]

/-- the order in which pairs are sorted -/
def lexLe (a b : Blk) : Prop := a.1 < b.1 ∨ (a.1 = b.1 ∧ a.2 ≤ b.2)
theorem Blocks.ends {m s k L} (h : Blocks m s k L) (hs : L.Pairwise lexLe) : L.Pairwise Ends := by
  refine (hs.and h.dis).imp_of_mem fun {a b} ha hb r => ?_
  have := (h.blk a ha).pos
  have := (h.blk b hb).pos
  obtain ⟨r1, r2⟩ := r
  unfold lexLe at r1
  unfold Disj at r2
  unfold Ends
  omega
theorem Blocks.sorted {m s k L L'} (h : Blocks m s k L) (hs : (2 : Int) ^ k ∣ s) (p : L'.Perm L) (so : L'.Pairwise lexLe) : L' = canon m s k :=
  (h.perm p).unique hs ((h.perm p).ends so)

def minus (m : Int → Bool) (a n : Int) : Int → Bool := fun x => m x && !(decide (a ≤ x) && decide (x < a + n))
def plus (m : Int → Bool) (a n : Int) : Int → Bool := fun x => m x || (decide (a ≤ x) && decide (x < a + n))
theorem minus_iff {m a n x} : minus m a n x = true ↔ m x = true ∧ ¬ (a ≤ x ∧ x < a + n) := by
  unfold minus
  rw [Bool.and_eq_true, Bool.not_eq_true', ← Bool.not_eq_true, Bool.and_eq_true, decide_eq_true_iff, decide_eq_true_iff]
theorem plus_iff {m a n x} : plus m a n x = true ↔ m x = true ∨ (a ≤ x ∧ x < a + n) := by simp [plus]
theorem apart_of : ∀ {L : List Blk}, L.Pairwise Disj → ∀ {a b : Blk}, a ∈ L → b ∈ L → a ≠ b → Disj a b
  | [], _, _, _, ha, _, _ => by cases ha
  | x :: L, h, a, b, ha, hb, ne => by
    obtain ⟨h1, h2⟩ := List.pairwise_cons.mp h
    rcases List.mem_cons.mp ha with e | ha'
    · rcases List.mem_cons.mp hb with e2 | hb'
      · exact absurd (e.trans e2.symm) ne
      · rw [e]; exact h1 b hb'
    · rcases List.mem_cons.mp hb with e2 | hb'
      · rw [e2]; exact (h1 a ha').symm
      · exact apart_of h2 ha' hb' ne
theorem Blocks.apart {m s k L} (h : Blocks m s k L) {a b : Blk} (ha : a ∈ L) (hb : b ∈ L) (ne : a ≠ b) : Disj a b := by
  exact apart_of h.dis ha hb ne
theorem Blocks.remove {m s k L} (h : Blocks m s k L) {b : Blk} (hb : b ∈ L) : Blocks (minus m b.1 b.2) s k (L.filter fun c => decide (c ≠ b)) where
  blk c hc := h.blk c (List.mem_filter.mp hc).1
  cov x x1 x2 := by
    rw [minus_iff, h.cov x x1 x2]
    constructor
    · rintro ⟨⟨c, hc, i⟩, n⟩
      refine ⟨c, List.mem_filter.mpr ⟨hc, decide_eq_true ?_⟩, i⟩
      rintro rfl
      exact n i
    · rintro ⟨c, hc, i⟩
      obtain ⟨hc, ne⟩ := List.mem_filter.mp hc
      have ne := of_decide_eq_true ne
      refine ⟨⟨c, hc, i⟩, fun j => ?_⟩
      have := h.apart hc hb ne
      unfold Disj InB at *
      omega
  dis := h.dis.filter _
  nom a ha c hc := h.nom a (List.mem_filter.mp ha).1 c (List.mem_filter.mp hc).1
theorem Blocks.add {m s k L} (h : Blocks m s k L) {b : Blk} (hb : IsBlk s k b) (hf : ∀ x, b.1 ≤ x → x < b.1 + b.2 → m x = false)
    (hn : ∀ a ∈ L, ¬ Mates a b ∧ ¬ Mates b a) : Blocks (plus m b.1 b.2) s k (L ++ [b]) where
  blk c hc := by
    rcases List.mem_append.mp hc with hc | hc
    · exact h.blk c hc
    · have : c = b := by simpa using hc
      rw [this]; exact hb
  cov x x1 x2 := by
    rw [plus_iff, h.cov x x1 x2]
    constructor
    · rintro (⟨c, hc, i⟩ | i)
      · exact ⟨c, List.mem_append_left _ hc, i⟩
      · exact ⟨b, by simp, i⟩
    · rintro ⟨c, hc, i⟩
      rcases List.mem_append.mp hc with hc | hc
      · exact .inl ⟨c, hc, i⟩
      · have : c = b := by simpa using hc
        subst this
        exact .inr i
  dis := by
    refine List.pairwise_append.mpr ⟨h.dis, List.pairwise_singleton _ _, fun a ha c hc => ?_⟩
    have : c = b := by simpa using hc
    subst this
    have q := h.blk a ha
    have := q.pos
    have := hb.pos
    have q1 := q.lo
    have q2 := q.hi
    have q3 := hb.lo
    have q4 := hb.hi
    unfold Disj
    rcases Int.lt_or_le a.1 c.1 with l | l
    · left
      rcases Int.lt_or_le c.1 (a.1 + a.2) with u | u
      · have := (h.cov c.1 q3 (by omega)).mpr ⟨a, ha, by omega, by omega⟩
        rw [hf c.1 (Int.le_refl _) (by omega)] at this
        cases this
      · exact u
    · right
      rcases Int.lt_or_le a.1 (c.1 + c.2) with u | u
      · have := (h.cov a.1 q1 (by omega)).mpr ⟨a, ha, by omega, by omega⟩
        rw [hf a.1 l u] at this
        cases this
      · exact u
  nom a ha c hc := by
    have sb : ¬ Mates b b := fun z => by have := hb.pos; have := z.2.1; omega
    rcases List.mem_append.mp ha with ha | ha
    · rcases List.mem_append.mp hc with hc | hc
      · exact h.nom a ha c hc
      · have e : c = b := by simpa using hc
        rw [e]
        exact (hn a ha).1
    · have e : a = b := by simpa using ha
      rw [e]
      rcases List.mem_append.mp hc with hc | hc
      · exact (hn c hc).2
      · have e2 : c = b := by simpa using hc
        rw [e2]
        exact sb
end Loft

namespace Loft
/-- the marks as a set of cells -/
def mk (ms : List Bool) : Int → Bool := fun x => decide (0 ≤ x) && ms.getD x.toNat false
theorem mk_nat (ms : List Bool) (i : Nat) : mk ms (i : Int) = ms.getD i false := by simp [mk]
/-- a part of the marks -/
def part (ms : List Bool) (s n : Nat) : List Bool := (ms.drop s).take n
theorem part_get {ms : List Bool} {s n i : Nat} (hi : i < n) : (part ms s n)[i]? = ms[s + i]? := by
  unfold part
  rw [List.getElem?_take_of_lt hi, List.getElem?_drop]
theorem part_len {ms : List Bool} {s n : Nat} (h : s + n ≤ ms.length) : (part ms s n).length = n := by
  unfold part
  rw [List.length_take, List.length_drop]; omega
theorem part_mem {ms : List Bool} {s n : Nat} (h : s + n ≤ ms.length) {b : Bool} : b ∈ part ms s n ↔ ∃ x : Int, (s : Int) ≤ x ∧ x < (s : Int) + n ∧ mk ms x = b := by
  constructor
  · intro hb
    obtain ⟨i, hi⟩ := List.mem_iff_getElem?.mp hb
    have il : i < n := by
      have := (List.getElem?_eq_some_iff.mp hi).1
      rw [part_len h] at this; exact this
    rw [part_get il] at hi
    refine ⟨((s + i : Nat) : Int), by omega, by omega, ?_⟩
    rw [mk_nat, List.getD_eq_getElem?_getD, hi]; rfl
  · rintro ⟨x, h1, h2, e⟩
    obtain ⟨j, rfl⟩ : ∃ j : Nat, x = ((s + j : Nat) : Int) := ⟨(x - s).toNat, by omega⟩
    have jl : j < n := by omega
    rw [mk_nat, List.getD_eq_getElem?_getD] at e
    have hj : s + j < ms.length := by omega
    rw [List.getElem?_eq_getElem hj] at e
    refine List.mem_iff_getElem?.mpr ⟨j, ?_⟩
    rw [part_get jl, List.getElem?_eq_getElem hj]
    exact congrArg some e
theorem canon_full {m : Int → Bool} {s : Int} : ∀ {k : Nat}, full m s k = true → canon m s k = [(s, 2 ^ k)]
  | 0, h => by unfold canon; rw [if_pos (show m s = true from h)]; rfl
  | k + 1, h => by unfold canon; rw [if_pos h]
theorem canon_none {m : Int → Bool} : ∀ {k : Nat} {s : Int}, (∀ x, s ≤ x → x < s + 2 ^ k → m x = false) → canon m s k = []
  | 0, s, h => by
    unfold canon
    have : m s = false := h s (Int.le_refl _) (by simp; omega)
    rw [this]; rfl
  | k + 1, s, h => by
    have e := pow_succ2 k
    have p := pow_pos2 k
    unfold canon
    have c : ¬ full m s (k + 1) = true := fun z => by
      have := full_iff.mp z s (Int.le_refl _) (by omega)
      rw [h s (Int.le_refl _) (by omega)] at this
      cases this
    rw [if_neg c, canon_none fun x a b => h x a (by omega), canon_none fun x a b => h x (by omega) (by omega)]; rfl
theorem canon_mix {m : Int → Bool} {s : Int} {k : Nat} (h : ¬ full m s (k + 1) = true) : canon m s (k + 1) = canon m s k ++ canon m (s + 2 ^ k) k := by
  conv => lhs; unfold canon
  rw [if_neg h]

/-- what is still to do: starts and heights; the last one is taken first -/
abbrev Todo := List (Int × Nat)
def tb (g : Int × Nat) : Blk := (g.1, 2 ^ g.2)
def due (m : Int → Bool) (G : Todo) : List Blk := G.reverse.flatMap fun g => canon m g.1 g.2
def work (G : Todo) : Nat := (G.map fun g => 2 ^ (g.2 + 1) - 1).sum
theorem due_push (m : Int → Bool) (G : Todo) (g : Int × Nat) : due m (G ++ [g]) = canon m g.1 g.2 ++ due m G := by
  unfold due
  rw [List.reverse_append, List.reverse_singleton, List.singleton_append, List.flatMap_cons]
theorem work_push (G : Todo) (g : Int × Nat) : work (G ++ [g]) = work G + (2 ^ (g.2 + 1) - 1) := by
  unfold work
  rw [List.map_append, List.sum_append]; simp
structure TOk (N : Int) (g : Int × Nat) : Prop where
  al : (2 : Int) ^ g.2 ∣ g.1
  lo : 0 ≤ g.1
  hi : g.1 + 2 ^ g.2 ≤ N
theorem TOk.left {N s k} (h : TOk N (s, k + 1)) : TOk N (s, k) := by
  have e := pow_succ2 k
  have p := pow_pos2 k
  exact ⟨Int.dvd_trans (pow_dvd2 (by omega)) h.al, h.lo, by have := h.hi; simp at *; omega⟩
theorem TOk.right {N s k} (h : TOk N (s, k + 1)) : TOk N (s + 2 ^ k, k) := by
  have e := pow_succ2 k
  have p := pow_pos2 k
  have a : (2 : Int) ^ k ∣ s := Int.dvd_trans (pow_dvd2 (by omega)) h.al
  exact ⟨Int.dvd_add a (Int.dvd_refl _), by have := h.lo; simp at *; omega, by have := h.hi; simp at *; omega⟩
theorem half_pow (k : Nat) : (2 : Int) ^ (k + 1) / 2 = 2 ^ k := by
  have := pow_succ2 k; omega
theorem work_halve (G : Todo) (s r : Int) (k : Nat) : work (G ++ [(r, k)] ++ [(s, k)]) < work (G ++ [(s, k + 1)]) := by
  rw [work_push, work_push, work_push]
  have e : (2 : Nat) ^ (k + 1 + 1) = 2 ^ (k + 1) + 2 ^ (k + 1) := by rw [Nat.pow_succ]; omega
  have p : 0 < (2 : Nat) ^ (k + 1) := Nat.pow_pos (by decide)
  show work G + (2 ^ (k + 1) - 1) + (2 ^ (k + 1) - 1) < work G + (2 ^ (k + 1 + 1) - 1)
  omega
theorem work_less (G : Todo) (g : Int × Nat) : work G < work (G ++ [g]) := by
  rw [work_push]
  have e : (2 : Nat) ^ (g.2 + 1) = 2 ^ g.2 + 2 ^ g.2 := by rw [Nat.pow_succ]; omega
  have p : 0 < (2 : Nat) ^ g.2 := Nat.pow_pos (by decide)
  omega

/-! best -/
/-- the best so far -/
def better (span : Int) (best : Option Blk) (b : Blk) : Option Blk :=
  if span ≤ b.2 then (match best with | none => some b | some c => if b.2 < c.2 then some b else some c) else best
def bestOf (free : List Blk) (span : Int) : Option Blk := free.foldl (better span) none
def Best (L : List Blk) (span : Int) : Option Blk → Prop
  | none => ∀ c ∈ L, ¬ span ≤ c.2
  | some b => ∃ l r, L = l ++ b :: r ∧ span ≤ b.2 ∧ (∀ c ∈ l, span ≤ c.2 → b.2 < c.2) ∧ (∀ c ∈ r, span ≤ c.2 → b.2 ≤ c.2)
theorem Best.step {L : List Blk} {span : Int} {o : Option Blk} (h : Best L span o) (b : Blk) : Best (L ++ [b]) span (better span o b) := by
  unfold better
  by_cases c : span ≤ b.2
  · rw [if_pos c]
    cases o with
    | none => exact ⟨L, [], rfl, c, fun x hx hs => absurd hs (h x hx), fun x hx => by cases hx⟩
    | some d =>
      obtain ⟨l, r, e, hd, h1, h2⟩ := h
      show Best (L ++ [b]) span (if b.2 < d.2 then some b else some d)
      by_cases q : b.2 < d.2
      · rw [if_pos q]
        refine ⟨L, [], rfl, c, fun x hx hs => ?_, fun x hx => by cases hx⟩
        rw [e] at hx
        rcases List.mem_append.mp hx with hx | hx
        · have := h1 x hx hs; omega
        · rcases List.mem_cons.mp hx with rfl | hx
          · exact q
          · have := h2 x hx hs; omega
      · rw [if_neg q]
        refine ⟨l, r ++ [b], by rw [e, List.append_assoc, List.cons_append], hd, h1, fun x hx hs => ?_⟩
        rcases List.mem_append.mp hx with hx | hx
        · exact h2 x hx hs
        · have : x = b := by simpa using hx
          subst this; omega
  · rw [if_neg c]
    cases o with
    | none =>
      intro x hx
      rcases List.mem_append.mp hx with hx | hx
      · exact h x hx
      · have : x = b := by simpa using hx
        subst this; exact c
    | some d =>
      obtain ⟨l, r, e, hd, h1, h2⟩ := h
      refine ⟨l, r ++ [b], by rw [e, List.append_assoc, List.cons_append], hd, h1, fun x hx hs => ?_⟩
      rcases List.mem_append.mp hx with hx | hx
      · exact h2 x hx hs
      · have : x = b := by simpa using hx
        subst this; exact absurd hs c
theorem best_of_ok (span : Int) : ∀ (r L : List Blk) (o : Option Blk), Best L span o → Best (L ++ r) span (r.foldl (better span) o)
  | [], L, o, h => by rw [List.append_nil]; exact h
  | b :: r, L, o, h => by
    have := best_of_ok span r (L ++ [b]) (better span o b) (h.step b)
    rw [List.append_assoc, List.singleton_append] at this
    exact this
theorem bestOf_ok (free : List Blk) (span : Int) : Best free span (bestOf free span) := by
  have := best_of_ok span free [] none (fun c hc => by cases hc)
  exact this
theorem bestOf_snoc (L : List Blk) (span : Int) (b : Blk) : bestOf (L ++ [b]) span = better span (bestOf L span) b := by
  unfold bestOf
  rw [List.foldl_append]; rfl
end Loft

namespace Loft
def mateOf (a n : Int) : Int := if a % (n * 2) = 0 then a + n else a - n
theorem canon_half {m : Int → Bool} : ∀ {k : Nat} {s : Int}, (canon m s (k + 1)).length ≤ 2 ^ k
  | 0, s => by
    conv => lhs; unfold canon
    by_cases c : full m s 1 = true
    · rw [if_pos c]; exact Nat.le_refl _
    · rw [if_neg c]
      unfold canon
      by_cases a : m s = true
      · by_cases b : m (s + 2 ^ 0) = true
        · exact absurd (show (m s && m (s + 2 ^ 0)) = true by rw [a, b]; rfl) c
        · rw [if_pos a, if_neg b]; exact Nat.le_refl _
      · rw [if_neg a]
        by_cases b : m (s + 2 ^ 0) = true
        · rw [if_pos b]; exact Nat.le_refl _
        · rw [if_neg b]; exact Nat.zero_le _
  | k + 1, s => by
    conv => lhs; unfold canon
    have e : (2 : Nat) ^ (k + 1) = 2 ^ k + 2 ^ k := by rw [Nat.pow_succ]; omega
    have p : 0 < (2 : Nat) ^ k := Nat.pow_pos (by decide)
    by_cases c : full m s (k + 1 + 1) = true
    · rw [if_pos c, List.length_singleton]; omega
    · rw [if_neg c, List.length_append]
      have a := canon_half (m := m) (k := k) (s := s)
      have b := canon_half (m := m) (k := k) (s := s + 2 ^ (k + 1))
      omega
theorem canon_32 {m : Int → Bool} {k : Nat} {s : Int} (h : k ≤ 6) : (canon m s k).length ≤ 32 := by
  cases k with
  | zero =>
    unfold canon
    by_cases a : m s = true
    · rw [if_pos a]; exact Nat.le_of_ble_eq_true rfl
    · rw [if_neg a]; exact Nat.zero_le _
  | succ k =>
    have a := canon_half (m := m) (k := k) (s := s)
    have b : (2 : Nat) ^ k ≤ 2 ^ 5 := Nat.pow_le_pow_right (by decide) (by omega)
    exact Nat.le_trans a b
/-- the mate and the block of both -/
theorem mate_low' {a n : Int} (hd : n * 2 ∣ a) : mateOf a n = a + n := by
  unfold mateOf; rw [if_pos (Int.emod_eq_zero_of_dvd hd)]
theorem mate_high' {a n : Int} (hn : 0 < n) (ha : n ∣ a) (hd : ¬ n * 2 ∣ a) : mateOf a n = a - n ∧ n * 2 ∣ a - n := by
  refine ⟨by unfold mateOf; rw [if_neg fun z => hd (Int.dvd_of_emod_eq_zero z)], ?_⟩
  obtain ⟨u, rfl⟩ := ha
  have e : u % 2 = 1 := by
    rcases (by omega : u % 2 = 0 ∨ u % 2 = 1) with z | z
    · exact absurd ⟨u / 2, by
        have : u = 2 * (u / 2) := by omega
        rw [Int.mul_assoc, ← this]⟩ hd
    · exact z
  exact ⟨u / 2, by
    have h1 : u - 1 = 2 * (u / 2) := by omega
    have h2 : n * u - n = n * (u - 1) := by rw [Int.mul_sub, Int.mul_one]
    rw [h2, h1, Int.mul_assoc]⟩
/-- what is given back: c is not among L, L has the rest of M -/
structure Giv (M : Int → Bool) (h : Nat) (L : List Blk) (c : Blk) : Prop where
  bl : Blocks (minus M c.1 c.2) 0 h L
  bk : IsBlk 0 h c
  on : ∀ x, c.1 ≤ x → x < c.1 + c.2 → M x = true
theorem Giv.start {m h bs b} (hb : Blocks m 0 h bs) (bk : IsBlk 0 h b) (off : ∀ x, b.1 ≤ x → x < b.1 + b.2 → m x = false) : Giv (plus m b.1 b.2) h bs b := by
  refine ⟨hb.congr fun x _ _ => ?_, bk, fun x h1 h2 => plus_iff.mpr (.inr ⟨h1, h2⟩)⟩
  have z : minus (plus m b.1 b.2) b.1 b.2 x = true ↔ m x = true := by
    rw [minus_iff, plus_iff]
    constructor
    · rintro ⟨h1 | h1, h2⟩
      · exact h1
      · exact absurd h1 h2
    · intro h1
      refine ⟨.inl h1, fun q => ?_⟩
      rw [off x q.1 q.2] at h1; cases h1
  exact Bool.eq_iff_iff.mpr z
def up (c : Blk) : Blk := (if mateOf c.1 c.2 < c.1 then mateOf c.1 c.2 else c.1, c.2 * 2)
theorem Giv.turn {M h L c} (g : Giv M h L c) (hd : (mateOf c.1 c.2, c.2) ∈ L) : Giv M h (L.filter fun e => decide (e ≠ (mateOf c.1 c.2, c.2))) (up c) := by
  have pos := g.bk.pos
  have db := g.bl.blk _ hd
  have rm := g.bl.remove hd
  have cov : ∀ x, mateOf c.1 c.2 ≤ x → x < mateOf c.1 c.2 + c.2 → minus M c.1 c.2 x = true := fun x h1 h2 =>
    (g.bl.cov x (by have := db.lo; omega) (by have := db.hi; simp only at this; omega)).mpr ⟨_, hd, h1, h2⟩
  have two : (∃ lo, up c = (lo, c.2 * 2) ∧ c.2 * 2 ∣ lo ∧ 0 ≤ lo ∧ lo + c.2 * 2 ≤ 0 + 2 ^ h ∧ ∀ x, (lo ≤ x ∧ x < lo + c.2 * 2) ↔ ((c.1 ≤ x ∧ x < c.1 + c.2) ∨ (mateOf c.1 c.2 ≤ x ∧ x < mateOf c.1 c.2 + c.2))) := by
    have l1 := g.bk.lo
    have h1 := g.bk.hi
    have l2 := db.lo
    have h2 := db.hi
    simp only at l2 h2
    by_cases q : c.2 * 2 ∣ c.1
    · have e := mate_low' q
      refine ⟨c.1, ?_, q, l1, by omega, fun x => by omega⟩
      unfold up
      rw [if_neg (by omega)]
    · obtain ⟨e, d2⟩ := mate_high' pos g.bk.al q
      refine ⟨c.1 - c.2, ?_, d2, by omega, by omega, fun x => by omega⟩
      unfold up
      rw [if_pos (by omega), e]
  obtain ⟨lo, eu, al, l0, hi, cells⟩ := two
  rw [eu]
  refine ⟨rm.congr fun x _ _ => ?_, ⟨?_, al, l0, hi⟩, fun x h1 h2 => ?_⟩
  · have z : minus M lo (c.2 * 2) x = true ↔ minus (minus M c.1 c.2) (mateOf c.1 c.2) c.2 x = true := by
      rw [minus_iff, minus_iff, minus_iff, cells x]
      constructor
      · rintro ⟨a, b⟩; exact ⟨⟨a, fun q => b (.inl q)⟩, fun q => b (.inr q)⟩
      · rintro ⟨⟨a, b⟩, d⟩; exact ⟨a, fun q => q.elim b d⟩
    exact Bool.eq_iff_iff.mpr z
  · obtain ⟨j, ej⟩ := g.bk.sp
    exact ⟨j + 1, by show c.2 * 2 = _; rw [Int.pow_succ, ej]⟩
  · rcases (cells x).mp ⟨h1, h2⟩ with q | q
    · exact g.on x q.1 q.2
    · exact (minus_iff.mp (cov x q.1 q.2)).1
theorem Giv.fin {M h L c} (g : Giv M h L c) (hd : (mateOf c.1 c.2, c.2) ∉ L) : Blocks M 0 h (L ++ [c]) := by
  have pos := g.bk.pos
  have ad := g.bl.add g.bk (fun x h1 h2 => by
    cases e : minus M c.1 c.2 x with
    | false => rfl
    | true => exact absurd ⟨h1, h2⟩ (minus_iff.mp e).2) (fun a ha => ⟨fun z => hd ?_, fun z => hd ?_⟩)
  · refine ad.congr fun x _ _ => ?_
    have z : M x = true ↔ plus (minus M c.1 c.2) c.1 c.2 x = true := by
      rw [plus_iff, minus_iff]
      constructor
      · intro h1
        by_cases q : c.1 ≤ x ∧ x < c.1 + c.2
        · exact .inr q
        · exact .inl ⟨h1, q⟩
      · rintro (h1 | h1)
        · exact h1.1
        · exact g.on x h1.1 h1.2
    exact Bool.eq_iff_iff.mpr z
  · obtain ⟨z1, z2, z3⟩ := z
    have e2 : c.2 * 2 = a.2 + a.2 := by omega
    have nd : ¬ c.2 * 2 ∣ c.1 := fun q => by
      rw [e2] at q
      have q2 := Int.dvd_sub q z3
      have e5 : c.1 - a.1 = a.2 := by omega
      rw [e5] at q2
      have := Int.le_of_dvd (by omega) q2
      omega
    obtain ⟨e, _⟩ := mate_high' pos g.bk.al nd
    have ea : a = (mateOf c.1 c.2, c.2) := Prod.ext (by show a.1 = _; omega) (by show a.2 = _; omega)
    rw [← ea]; exact ha
  · obtain ⟨z1, z2, z3⟩ := z
    have e := mate_low' (a := c.1) (n := c.2) (by rw [show c.2 * 2 = c.2 + c.2 by omega]; exact z3)
    have ea : a = (mateOf c.1 c.2, c.2) := Prod.ext (by show a.1 = _; omega) (by show a.2 = _; omega)
    rw [← ea]; exact ha
end Loft

/-! packing: the blocks by spans, laid one behind the other -/
namespace Loft
abbrev Tri := Int × Int × Int
/-- a strictly rising list is the only sorted one of its items -/
theorem sorted_unique {α : Type} {lt : α → α → Prop} : ∀ {L L' : List α}, L.Pairwise lt → L'.Perm L → L'.Pairwise (fun a b => ¬ lt b a) → L' = L
  | [], L', _, p, _ => List.Perm.eq_nil p
  | a :: r, [], _, p, _ => absurd p.length_eq (by simp)
  | a :: r, b :: r', s, p, s' => by
    have s1 := List.pairwise_cons.mp s
    have s2 := List.pairwise_cons.mp s'
    have e : b = a := by
      rcases List.mem_cons.mp (p.mem_iff.mp (List.mem_cons_self)) with h | h
      · exact h
      · rcases List.mem_cons.mp (p.mem_iff.mpr (List.mem_cons_self)) with h' | h'
        · exact h'.symm
        · exact absurd (s1.1 b h) (s2.1 a h')
    subst e
    rw [sorted_unique s1.2 (List.Perm.cons_inv p) s2.2]
def sizes : List Int := [1024, 512, 256, 128, 64, 32, 16, 8, 4, 2, 1]
def ofSize (bs : List Tri) (z : Int) : List Tri := bs.filter fun t => decide (t.2.2 = z)
def orderBy (zs : List Int) (bs : List Tri) : List Tri := zs.flatMap (ofSize bs)
def order (bs : List Tri) : List Tri := orderBy sizes bs
/-- ahead in the packing -/
def pkLt (a b : Tri) : Prop := b.2.2 < a.2.2 ∨ (a.2.2 = b.2.2 ∧ a.2.1 < b.2.1)
theorem orderBy_perm : ∀ {zs : List Int} {bs : List Tri}, zs.Nodup → (∀ t ∈ bs, t.2.2 ∈ zs) → (orderBy zs bs).Perm bs
  | [], bs, _, h => by
    cases bs with
    | nil => exact List.Perm.refl _
    | cons t r => exact absurd (h t List.mem_cons_self) (by simp)
  | z :: zs, bs, nd, h => by
    have nd' := List.nodup_cons.mp nd
    have e : orderBy zs bs = orderBy zs (bs.filter fun t => !decide (t.2.2 = z)) := by
      unfold orderBy
      rw [List.flatMap_def, List.flatMap_def]
      congr 1
      refine List.map_congr_left fun y hy => ?_
      unfold ofSize
      rw [List.filter_filter]
      refine List.filter_congr fun t _ => ?_
      by_cases c : t.2.2 = y
      · have : t.2.2 ≠ z := fun q => nd'.1 (by rw [← q, c]; exact hy)
        simp [c, this]
        intro q; exact this (c.trans q)
      · simp [c]
    show (ofSize bs z ++ orderBy zs bs).Perm bs
    rw [e]
    have ih := orderBy_perm (zs := zs) (bs := bs.filter fun t => !decide (t.2.2 = z)) nd'.2 fun t ht => by
      have m := List.mem_filter.mp ht
      rcases List.mem_cons.mp (h t m.1) with q | q
      · simp [q] at m
      · exact q
    exact (List.Perm.append_left _ ih).trans (List.filter_append_perm _ bs)
theorem order_sorted {bs : List Tri} (h : bs.Pairwise fun a b => a.2.1 < b.2.1) : (order bs).Pairwise pkLt := by
  unfold order orderBy
  rw [List.pairwise_flatMap]
  constructor
  · intro z _
    have q := h.filter fun t => decide (t.2.2 = z)
    unfold ofSize
    refine List.Pairwise.imp_of_mem (fun {a b} ha hb r => ?_) q
    have ea := (List.mem_filter.mp ha).2
    have eb := (List.mem_filter.mp hb).2
    exact .inr ⟨(of_decide_eq_true ea).trans (of_decide_eq_true eb).symm, r⟩
  · have d : sizes.Pairwise fun a b => b < a := by decide
    refine d.imp fun {a b} r x hx y hy => ?_
    have ex := of_decide_eq_true (List.mem_filter.mp hx).2
    have ey := of_decide_eq_true (List.mem_filter.mp hy).2
    exact .inl (by omega)
theorem sizes_nodup : sizes.Nodup := by decide
theorem pow_sizes {j : Nat} (h : j ≤ 10) : (2 : Int) ^ j ∈ sizes := by
  rcases (by omega : j = 0 ∨ j = 1 ∨ j = 2 ∨ j = 3 ∨ j = 4 ∨ j = 5 ∨ j = 6 ∨ j = 7 ∨ j = 8 ∨ j = 9 ∨ j = 10) with rfl | rfl | rfl | rfl | rfl | rfl | rfl | rfl | rfl | rfl | rfl <;> decide
/-- the sort by (-span, start) is the order -/
theorem packed_order {bs cs : List Tri} (hs : ∀ t ∈ bs, t.2.2 ∈ sizes) (h : bs.Pairwise fun a b => a.2.1 < b.2.1) (p : cs.Perm bs) (so : cs.Pairwise fun a b => ¬ pkLt b a) : cs = order bs :=
  sorted_unique (order_sorted h) (p.trans (orderBy_perm sizes_nodup hs).symm) so
def lay (here : Int) : List Tri → List Tri
  | [] => []
  | t :: r => (t.1, here, t.2.2) :: lay (here + t.2.2) r
def tot (l : List Tri) : Int := (l.map fun t => t.2.2).sum
theorem tot_snoc (l : List Tri) (t : Tri) : tot (l ++ [t]) = tot l + t.2.2 := by
  unfold tot; rw [List.map_append, List.sum_append]; simp
theorem lay_snoc (t : Tri) : ∀ (l : List Tri) (h : Int), lay h (l ++ [t]) = lay h l ++ [(t.1, h + tot l, t.2.2)]
  | [], h => by simp [lay, tot]
  | u :: l, h => by
    show (u.1, h, u.2.2) :: lay (h + u.2.2) (l ++ [t]) = _
    rw [lay_snoc t l (h + u.2.2)]
    have e : tot (u :: l) = u.2.2 + tot l := by unfold tot; simp
    rw [e, ← Int.add_assoc]
    rfl
theorem lay_length : ∀ (l : List Tri) (h : Int), (lay h l).length = l.length
  | [], _ => rfl
  | _ :: l, h => by show (lay _ l).length + 1 = _; rw [lay_length l]; rfl
/-- each begins at a multiple of its span -/
theorem lay_al : ∀ (l : List Tri) (h : Int), l.Pairwise (fun a b => b.2.2 ∣ a.2.2) → (∀ t ∈ l, t.2.2 ∣ h) → ∀ t ∈ lay h l, t.2.2 ∣ t.2.1
  | [], _, _, _, t, ht => by cases ht
  | u :: l, h, p, d, t, ht => by
    have p' := List.pairwise_cons.mp p
    rcases List.mem_cons.mp ht with e | ht
    · rw [e]; exact d u List.mem_cons_self
    · exact lay_al l (h + u.2.2) p'.2 (fun v hv => Int.dvd_add (d v (List.mem_cons_of_mem _ hv)) (p'.1 v hv)) t ht
theorem order_mem {bs : List Tri} {t : Tri} (h : t ∈ order bs) : t ∈ bs := by
  obtain ⟨z, _, m⟩ := List.mem_flatMap.mp h
  exact (List.mem_filter.mp m).1
theorem pkLt_dvd {a b : Tri} (ha : ∃ j : Nat, a.2.2 = 2 ^ j) (hb : ∃ j : Nat, b.2.2 = 2 ^ j) (h : pkLt a b) : b.2.2 ∣ a.2.2 := by
  obtain ⟨i, ei⟩ := ha
  obtain ⟨j, ej⟩ := hb
  rcases h with h | ⟨h, _⟩
  · rw [ei, ej] at h ⊢
    refine pow_dvd2 ?_
    rcases Nat.lt_or_ge i j with q | q
    · have := pow_lt2 q; omega
    · exact q
  · rw [h]; exact Int.dvd_refl _
theorem order_al {bs : List Tri} (hp : ∀ t ∈ bs, ∃ j : Nat, t.2.2 = 2 ^ j) (h : bs.Pairwise fun a b => a.2.1 < b.2.1) : ∀ t ∈ lay 0 (order bs), t.2.2 ∣ t.2.1 := by
  refine lay_al _ _ ?_ fun t _ => Int.dvd_zero _
  refine List.Pairwise.imp_of_mem (fun {a b} ha hb r => ?_) (order_sorted h)
  exact pkLt_dvd (hp a (order_mem ha)) (hp b (order_mem hb)) r
end Loft

set_option Elab.async false
set_option linter.all false
set_option maxRecDepth 100000
set_option maxHeartbeats 4000000
/-! SYMBOLIC RUNS over the layer: each reading as a rule that is applied, D in its four parts. -/
namespace L2
open PySem PySem.Spec PyProof.Rows

structure Has (P : Program) (w : World) (K : PySem.W.Frag) (mg : Str → Option Value) (base : Heap) (k : Nat) (x : Str) (ps : List Str) (sp : Sp) : Prop where
  ex : ∃ (f : Addr) (fd : FuncData), FnOk P w K mg base CX0 k f fd ps sp ∧ mg x = some (.ref f) ∧ PySem.W.keepIn K (.ref f) = true ∧ Binds K fd ps []
def tUse (sp : Sp) (t : TA) : TE := fun σ H Q => t σ H fun vs H1 => sp vs H1 Q E0
theorem use_eq (sp : Sp) (t : TA) : tCall sp [] E0 t = tUse sp t := by
  funext σ H Q
  show (t σ H fun vs H1 => sp (vs ++ []) H1 Q E0) = _
  have e : (fun (vs : List V) (H1 : Hp) => sp (vs ++ []) H1 Q E0) = fun vs H1 => sp vs H1 Q E0 := by
    funext vs H1
    rw [List.append_nil]
  rw [e]
  rfl
section
variable {X : Cx} {k : Nat} {x : Str} {ps : List Str} {sp : Sp} {p pos : Pos} {e : Expr} {es : List Expr} {t : TA}
theorem pe_use (h : Has X.prog X.w X.K X.mg X.base k x ps sp) (hr : Room k X.A) (hg : Gl X x) (ha : PA X (e :: es) t)
    (hdb : (x == ("__debug__" : Str)) = false := by decide) (he : starEach (e :: es) X.env = (false, eval e X.env) :: starEach es X.env := by rfl) (hpl : (backTo pos (starEach es X.env)).any (·.1) = false := by rfl) :
    PE X (.Call (.Name x p) (e :: es) [] pos) (tUse sp t) := by
  obtain ⟨f, fd, F, m, kp, b⟩ := h.ex
  rw [← use_eq]
  exact pe_call F hr hg m kp b .nil pass0 ha hdb he hpl
theorem pe_use0 (h : Has X.prog X.w X.K X.mg X.base k x ps sp) (hr : Room k X.A) (hg : Gl X x) (hdb : (x == ("__debug__" : Str)) = false := by decide) :
    PE X (.Call (.Name x p) [] [] pos) (tUse sp tNil) := by
  obtain ⟨f, fd, F, m, kp, b⟩ := h.ex
  rw [← use_eq]
  exact pe_call0 F hr hg m kp b .nil pass0 hdb
end

/-- a bool is handed on -/
def BlK (Q : Bool → Hp → Prop) (x : V) (H : Hp) : Prop := ∃ k, x = .bl k ∧ Q k H
def IntK (Q : Option Int → Hp → Prop) (x : V) (H : Hp) : Prop := ∃ i, x = .int i ∧ Q (some i) H
def NewT (Q : VK) (xs : List V) (H : Hp) : Prop := xs.length ≤ sizeLine ∧ ∀ p, H p = none → Q (.ref p) (upd H p (.tup xs))
def NewL (Q : VK) (xs : List V) (H : Hp) : Prop := xs.length ≤ sizeLine ∧ ∀ p, H p = none → Q (.ref p) (upd H p (.lst xs))
def BmK (K : PySem.W.Frag) (T : String) (R : V → Hp → Prop) (x : V) (H : Hp) : Prop := tyV K T x H ∧ R x H
/-! ### statements -/
section
variable {t u : TS} {te ta tb' : TE} {c : TT} {g : TG} {nx bk ct : St → Hp → Prop} {rt : VK} {σ : St} {H : Hp} {Q : VK}
theorem i_seq (h : t ⟨u ⟨nx, rt, bk, ct⟩, rt, bk, ct⟩ σ H) : tSeq t u ⟨nx, rt, bk, ct⟩ σ H := h
theorem i_asg (h : te σ H fun x H1 => g x σ H1 nx) : tAsg te g ⟨nx, rt, bk, ct⟩ σ H := h
theorem i_drop (h : te σ H fun _ H1 => nx σ H1) : tDrop te ⟨nx, rt, bk, ct⟩ σ H := h
theorem i_ret (h : te σ H rt) : tRet te ⟨nx, rt, bk, ct⟩ σ H := h
theorem i_retN (h : rt .non H) : tRetN ⟨nx, rt, bk, ct⟩ σ H := h
theorem i_ifS (h : c σ H fun b H1 => if b = true then t ⟨nx, rt, bk, ct⟩ σ H1 else u ⟨nx, rt, bk, ct⟩ σ H1) : tIfS c t u ⟨nx, rt, bk, ct⟩ σ H := h
theorem i_next (h : nx σ H) : tNext ⟨nx, rt, bk, ct⟩ σ H := h
theorem i_break (h : bk σ H) : tBreak ⟨nx, rt, bk, ct⟩ σ H := h
theorem i_cont (h : ct σ H) : tCont ⟨nx, rt, bk, ct⟩ σ H := h
theorem i_nxp (h : nx σ H) : Ends.nx ⟨nx, rt, bk, ct⟩ σ H := h
theorem i_rtp {v : V} (h : rt v H) : Ends.rt ⟨nx, rt, bk, ct⟩ v H := h
/-! ### targets -/
theorem i_gname {i : Nat} {v : V} {Q : St → Hp → Prop} (h : Q (σ.set i (some v)) H) : gName i v σ H Q := h
theorem i_gsub {to ti : TE} {t : TSet} {v : V} {Q : St → Hp → Prop} (h : to σ H fun o H1 => ti σ H1 fun i H2 => t o i v H2 fun H3 => Q σ H3) : gSub to ti t v σ H Q := h
theorem i_gtup {K : PySem.W.Frag} {n : Nat} {t : TGs} {a : Addr} {xs : List V} {Q : St → Hp → Prop} (hS : SqT K H a xs) (hl : xs.length = n) (h : t xs σ H Q) : gTup K n t (.ref a) σ H Q := ⟨a, xs, rfl, hS, hl, h⟩
theorem i_gcons {t : TG} {u : TGs} {v : V} {r : List V} {Q : St → Hp → Prop} (h : t v σ H fun σ' H' => u r σ' H' Q) : gCons t u (v :: r) σ H Q := ⟨v, r, rfl, h⟩
theorem i_gnil {Q : St → Hp → Prop} (h : Q σ H) : gNil [] σ H Q := ⟨rfl, h⟩
theorem i_setL {p : Addr} {xs : List V} {k : Int} {j : Nat} {v : V} {Q : Hp → Prop} (hp : H p = some (.lst xs)) (hj : ixN xs.length k = some j) (h : Q (upd H p (.lst (xs.set j v)))) : rSetL (.ref p) (.int k) v H Q := ⟨p, xs, k, j, rfl, rfl, hp, hj, h⟩
/-! ### expressions -/
theorem i_var {i : Nat} {v : V} (e : σ[i]? = some (some v)) (h : Q v H) : tVar i σ H Q := ⟨v, e, h⟩
theorem i_c {v : V} (h : Q v H) : tC v σ H Q := h
theorem i_op {r : R2} (h : ta σ H fun x H1 => tb' σ H1 fun y H2 => r x y H2 Q) : tOp r ta tb' σ H Q := h
theorem i_un {r : V → Hp → VK → Prop} (h : ta σ H fun x H1 => r x H1 Q) : tUn r ta σ H Q := h
theorem i_rI0 {g : Int → Int → V} {i j : Int} (h : Q (g i j) H) : rI0 g (.int i) (.int j) H Q := ⟨i, j, rfl, rfl, h⟩
theorem i_rI {C : Int → Int → Prop} {g : Int → Int → V} {i j : Int} (hc : C i j) (h : Q (g i j) H) : rI C g (.int i) (.int j) H Q := ⟨i, j, rfl, rfl, hc, h⟩
theorem i_rU {g : Int → V} {i : Int} (h : Q (g i) H) : rU g (.int i) H Q := ⟨i, rfl, h⟩
theorem i_test {Q : Bool → Hp → Prop} (h : te σ H (BlK Q)) : tTest te σ H Q := h
theorem i_tB {Q : Bool → Hp → Prop} (h : te σ H (BlK Q)) : tB te σ H Q := h
theorem i_bl {b : Bool} {Q : Bool → Hp → Prop} (h : Q b H) : BlK Q (.bl b) H := ⟨b, rfl, h⟩
theorem i_and {t u : TT} {Q : Bool → Hp → Prop} (h : t σ H fun c H1 => if c = true then u σ H1 Q else Q false H1) : tAnd t u σ H Q := h
theorem i_or {t u : TT} {Q : Bool → Hp → Prop} (h : t σ H fun c H1 => if c = true then Q true H1 else u σ H1 Q) : tOr t u σ H Q := h
theorem i_not {t : TT} {Q : Bool → Hp → Prop} (h : t σ H fun c H1 => Q (!c) H1) : tNot t σ H Q := h
theorem i_notV (h : ta σ H (BlK fun c H1 => Q (.bl (!c)) H1)) : tNotV ta σ H Q := h
theorem i_andV (h : ta σ H (BlK fun c H1 => if c = true then tb' σ H1 Q else Q (.bl false) H1)) : tAndV ta tb' σ H Q := h
theorem i_orV (h : ta σ H (BlK fun c H1 => if c = true then Q (.bl true) H1 else tb' σ H1 Q)) : tOrV ta tb' σ H Q := h
theorem i_ifE {t : TT} (h : t σ H fun c H1 => if c = true then ta σ H1 Q else tb' σ H1 Q) : tIf t ta tb' σ H Q := h
theorem i_use {sp : Sp} {t : TA} (h : t σ H fun vs H1 => sp vs H1 Q E0) : tUse sp t σ H Q := h
theorem i_cb {r : List V → Hp → VK → Prop} {t : TA} (h : t σ H fun vs H1 => r vs H1 Q) : tCB r t σ H Q := h
theorem i_cons {t : TA} {Q : List V → Hp → Prop} (h : ta σ H fun x H1 => t σ H1 fun xs H2 => Q (x :: xs) H2) : tCons ta t σ H Q := h
theorem i_nil {Q : List V → Hp → Prop} (h : Q [] H) : tNil σ H Q := h
theorem i_tup {t : TA} (h : t σ H (NewT Q)) : tTup t σ H Q := h
theorem i_lst {t : TA} (h : t σ H (NewL Q)) : tLst t σ H Q := h
theorem i_newT {xs : List V} (hl : xs.length ≤ 1000) (h : ∀ p, H p = none → Q (.ref p) (upd H p (.tup xs))) : NewT Q xs H := ⟨Nat.le_of_lt (small1000 hl), h⟩
theorem i_newL {xs : List V} (hl : xs.length ≤ 1000) (h : ∀ p, H p = none → Q (.ref p) (upd H p (.lst xs))) : NewL Q xs H := ⟨Nat.le_of_lt (small1000 hl), h⟩
theorem i_bm {K : PySem.W.Frag} {T : String} {r : V → List V → Hp → VK → Prop} {to : TE} {t : TA} (h : to σ H (BmK K T fun x H1 => t σ H1 fun xs H2 => r x xs H2 Q)) : tBM K T r to t σ H Q := h
theorem i_bm0 {K : PySem.W.Frag} {T : String} {r : V → List V → Hp → VK → Prop} {to : TE} (h : to σ H (BmK K T fun x H1 => r x [] H1 Q)) : tBM0 K T r to σ H Q := h
theorem i_bmL {K : PySem.W.Frag} {l : Addr} {xs : List V} {R : V → Hp → Prop} (hp : H l = some (.lst xs)) (h : R (.ref l) H) : BmK K "list" R (.ref l) H := ⟨.inl ⟨rfl, xs, SqL.of hp⟩, h⟩
theorem i_sl {r : V → Option Int → Option Int → Hp → VK → Prop} {tl th : TO} (h : te σ H fun x H1 => tl σ H1 fun l H2 => th σ H2 fun u H3 => r x l u H3 Q) : tSl r te tl th σ H Q := h
theorem i_nopart {Q : Option Int → Hp → Prop} (h : Q none H) : tNoPart σ H Q := h
theorem i_part {Q : Option Int → Hp → Prop} (h : te σ H (IntK Q)) : tPart te σ H Q := h
theorem i_isint {i : Int} {Q : Option Int → Hp → Prop} (h : Q (some i) H) : IntK Q (.int i) H := ⟨i, rfl, h⟩
theorem i_slL {K : PySem.W.Frag} {a : Addr} {xs : List V} {lo hi : Option Int} (hS : SqL K H a xs) (h : ∀ p, H p = none → Q (.ref p) (upd H p (.lst (cutV xs lo hi)))) : rSlL K (.ref a) lo hi H Q := ⟨a, xs, rfl, hS, h⟩
end

/-! ### tests -/
section
variable {A B : Prop} {p : Prop} [Decidable p]
theorem i_ifd (h1 : p → A) (h2 : ¬ p → B) : if decide p = true then A else B := by
  by_cases h : p
  · rw [if_pos (decide_eq_true h)]; exact h1 h
  · rw [if_neg (by rw [decide_eq_false h]; exact Bool.false_ne_true)]; exact h2 h
theorem i_ifdT (h : p) (h1 : A) : if decide p = true then A else B := i_ifd (fun _ => h1) (fun n => absurd h n)
theorem i_ifdF (h : ¬ p) (h1 : B) : if decide p = true then A else B := i_ifd (fun n => absurd n h) (fun _ => h1)
theorem i_ifnd (h1 : p → B) (h2 : ¬ p → A) : if (!decide p) = true then A else B := by
  by_cases h : p
  · rw [if_neg (by rw [decide_eq_true h]; exact Bool.false_ne_true)]; exact h1 h
  · rw [if_pos (by rw [decide_eq_false h]; rfl)]; exact h2 h
theorem i_ifndT (h : ¬ p) (h1 : A) : if (!decide p) = true then A else B := i_ifnd (fun n => absurd n h) (fun _ => h1)
theorem i_ifndF (h : p) (h1 : B) : if (!decide p) = true then A else B := i_ifnd (fun _ => h1) (fun n => absurd h n)
theorem i_ifb {b : Bool} (h1 : b = true → A) (h2 : b = false → B) : if b = true then A else B := by
  cases b with
  | true => exact iteT (h1 rfl)
  | false => exact iteF (h2 rfl)
theorem i_ifnT (h : B) : if (!true) = true then A else B := iteF h
theorem i_ifnF (h : A) : if (!false) = true then A else B := iteT h
end
/-! ### int equality, index, len -/
section
variable {K : PySem.W.Frag} {H : Hp} {Q : VK}
theorem dec_int' {i j : Int} : decide (V.int i = V.int j) = decide (i = j) := by
  by_cases h : i = j
  · rw [decide_eq_true h, decide_eq_true (by rw [h])]
  · rw [decide_eq_false h, decide_eq_false (fun z => h (by injection z))]
def rIx2 (K : PySem.W.Frag) : R2 := fun x y H Q => rIxL K x y H Q ∨ rIxT K x y H Q
theorem ix2 {X : Cx} : IxR X (rIx2 X.K) := ix_list.or ix_tup
theorem i_ixL {p : Addr} {xs : List V} {i : Int} {v : V} (hS : SqL K H p xs) (e : atI xs i = some v) (h : Q v H) : rIx2 K (.ref p) (.int i) H Q := .inl ⟨p, xs, i, v, rfl, rfl, hS, e, h⟩
theorem i_ixT {p : Addr} {xs : List V} {i : Int} {v : V} (hS : SqT K H p xs) (e : atI xs i = some v) (h : Q v H) : rIx2 K (.ref p) (.int i) H Q := .inr ⟨p, xs, i, v, rfl, rfl, hS, e, h⟩
def rLen (K : PySem.W.Frag) : List V → Hp → VK → Prop := fun xs H Q => ∃ p ys, xs = [.ref p] ∧ (SqL K H p ys ∨ SqT K H p ys) ∧ Q (.int ys.length) H
def rMax : List V → Hp → VK → Prop := fun xs H Q => ∃ i j, xs = [.int i, .int j] ∧ Q (.int (if j > i then j else i)) H
def rMin : List V → Hp → VK → Prop := fun xs H Q => ∃ i j, xs = [.int i, .int j] ∧ Q (.int (if j < i then j else i)) H
def rLof (K : PySem.W.Frag) : List V → Hp → VK → Prop := fun xs H Q => ∃ p ys, xs = [.ref p] ∧ (SqL K H p ys ∨ SqT K H p ys) ∧ ∀ l, H l = none → Q (.ref l) (upd H l (.lst ys))
theorem call_lenR {X : Cx} : CallR X (.builtin "len") (rLen X.K) := call_len_seq
theorem call_maxR {X : Cx} (hc : X.calm = true) : CallR X (.builtin "max") rMax := call_max2 hc
theorem call_minR {X : Cx} (hc : X.calm = true) : CallR X (.builtin "min") rMin := call_min2 hc
theorem call_lofR {X : Cx} : CallR X (.type "list") (rLof X.K) := call_list_of
theorem i_lenL {p : Addr} {ys : List V} (hS : SqL K H p ys) (h : Q (.int ys.length) H) : rLen K [.ref p] H Q := ⟨p, ys, rfl, .inl hS, h⟩
theorem i_lenT {p : Addr} {ys : List V} (hS : SqT K H p ys) (h : Q (.int ys.length) H) : rLen K [.ref p] H Q := ⟨p, ys, rfl, .inr hS, h⟩
theorem i_max {i j : Int} (h : Q (.int (if j > i then j else i)) H) : rMax [.int i, .int j] H Q := ⟨i, j, rfl, h⟩
theorem i_min {i j : Int} (h : Q (.int (if j < i then j else i)) H) : rMin [.int i, .int j] H Q := ⟨i, j, rfl, h⟩
theorem i_listof {p : Addr} {ys : List V} (hS : SqL K H p ys) (h : ∀ l, H l = none → Q (.ref l) (upd H l (.lst ys))) : rLof K [.ref p] H Q := ⟨p, ys, rfl, .inl hS, h⟩
theorem i_app {l : Addr} {xs : List V} {y : V} (hp : H l = some (.lst xs)) (hl : xs.length < sizeLine) (h : Q .non (upd H l (.lst (xs ++ [y])))) : rAppend (.ref l) [y] H Q := ⟨l, xs, y, rfl, rfl, hp, hl, h⟩
theorem i_pop {l : Addr} {xs : List V} {y : V} (hp : H l = some (.lst (xs ++ [y]))) (h : Q y (upd H l (.lst xs))) : rPop (.ref l) [] H Q :=
  ⟨l, xs ++ [y], y, rfl, rfl, hp, by simp, by rw [List.dropLast_concat]; exact h⟩
theorem i_ty {l : Addr} {xs : List V} (hp : H l = some (.lst xs)) : tyV K "list" (.ref l) H := .inl ⟨rfl, xs, SqL.of hp⟩
theorem i_rep {l : Addr} {xs : List V} {k : Int} (hp : H l = some (.lst xs)) (h1 : -(2 ^ 63) ≤ k) (h2 : k < 2 ^ 63) (h3 : xs.length * k.toNat ≤ sizeLine) (h : ∀ p, H p = none → Q (.ref p) (upd H p (.lst (List.replicate k.toNat xs).flatten))) :
    rRep (.ref l) (.int k) H Q := ⟨l, k, xs, rfl, rfl, hp, h1, h2, h3, h⟩
end

/-! ### loops -/
section
variable {c : TT} {tb : TS} {g : TG} {nx bk ct : St → Hp → Prop} {rt : VK} {σ : St} {H : Hp} {K : PySem.W.Frag}
def TurnN (W : Nat → St → Hp → Prop) (m : Nat) (tb : TS) (rt : VK) (nx : St → Hp → Prop) (σ : St) (H1 : Hp) : Prop :=
  ∃ N : St → Hp → Prop, (∀ σ' H', N σ' H' → ∃ m', m' < m ∧ W m' σ' H') ∧ tb ⟨N, rt, nx, N⟩ σ H1
theorem i_while (W : St → Hp → Prop) (μ : St → Hp → Nat) (h0 : W σ H)
    (hs : ∀ (σ : St) (H : Hp), W σ H → c σ H fun b H1 => if b = true then TurnN (fun m σ H => m = μ σ H ∧ W σ H) (μ σ H) tb rt nx σ H1 else nx σ H1) : tWhile c tb ⟨nx, rt, bk, ct⟩ σ H := by
  refine ⟨fun m σ H => m = μ σ H ∧ W σ H, ⟨_, rfl, h0⟩, ?_⟩
  rintro m σ H ⟨rfl, p⟩
  exact hs σ H p
theorem i_turn {W : St → Hp → Prop} {μ : St → Hp → Nat} {m : Nat} (h : tb ⟨fun σ' H' => W σ' H' ∧ μ σ' H' < m, rt, nx, fun σ' H' => W σ' H' ∧ μ σ' H' < m⟩ σ H) : TurnN (fun m σ H => m = μ σ H ∧ W σ H) m tb rt nx σ H :=
  ⟨_, fun σ' H' p => ⟨μ σ' H', p.2, rfl, p.1⟩, h⟩
def ForEnd (g : TG) (tb : TS) (rt : VK) (nx : St → Hp → Prop) (σ : St) (J : It) (H : Hp) : Prop := ∃ W : Nat → Nat → St → Hp → Prop, (∃ m, W 0 m σ H) ∧ ∀ i m σ H, W i m σ H →
  (J.stop i H ∧ nx σ H) ∨ (J.go i H ∧ ∃ N : St → Hp → Prop, (∀ σ' H', N σ' H' → ∃ m', m' < m ∧ W (i + 1) m' σ' H') ∧ ∀ x H', J.yld i H x H' → g x σ H' fun σ2 H2 => tb ⟨N, rt, nx, N⟩ σ2 H2)
theorem i_for {wi : TI} (h : wi σ H (ForEnd g tb rt nx σ)) : tFor wi g tb ⟨nx, rt, bk, ct⟩ σ H := h
def ListEnd (K : PySem.W.Frag) (R : It → Hp → Prop) (x : V) (H : Hp) : Prop := ∃ a, x = .ref a ∧ (∃ xs, SqL K H a xs) ∧ R (Itl K a) H
theorem i_iList {tl : TE} {R : It → Hp → Prop} (h : tl σ H (ListEnd K R)) : iList K tl σ H R := h
theorem i_forL {a : Addr} {xs : List V} (Pv : Nat → St → Hp → Prop) (hS : SqL K H a xs) (h0 : Pv 0 σ H) (hl : ∀ i σ H, i ≤ xs.length → Pv i σ H → SqL K H a xs)
    (hs : ∀ i x σ H, xs[i]? = some x → Pv i σ H → g x σ H fun σ2 H2 => tb ⟨Pv (i + 1), rt, nx, Pv (i + 1)⟩ σ2 H2) (hd : ∀ σ H, Pv xs.length σ H → nx σ H) : ListEnd K (ForEnd g tb rt nx σ) (.ref a) H :=
  ⟨a, rfl, ⟨xs, hS⟩, for_list (D := ⟨nx, rt, nx, nx⟩) Pv h0 hl hs hd⟩
def Rng1End (R : It → Hp → Prop) (vs : List V) (H : Hp) : Prop := ∃ j : Int, vs = [.int j] ∧ -(2 ^ 62) ≤ j ∧ j < 2 ^ 62 ∧ R (Itr 0 j.toNat) H
def Rng2End (R : It → Hp → Prop) (vs : List V) (H : Hp) : Prop := ∃ i j : Int, vs = [.int i, .int j] ∧ (-(2 ^ 62) ≤ i ∧ i < 2 ^ 62 ∧ -(2 ^ 62) ≤ j ∧ j < 2 ^ 62) ∧ R (Itr i (j - i).toNat) H
theorem i_iRng1 {ta : TA} {R : It → Hp → Prop} (h : ta σ H (Rng1End R)) : iRng1 ta σ H R := h
theorem i_iRng2 {ta : TA} {R : It → Hp → Prop} (h : ta σ H (Rng2End R)) : iRng2 ta σ H R := h
theorem i_rng1 {j : Int} {R : It → Hp → Prop} (h1 : -(2 ^ 62) ≤ j) (h2 : j < 2 ^ 62) (h : R (Itr 0 j.toNat) H) : Rng1End R [.int j] H := ⟨j, rfl, h1, h2, h⟩
theorem i_rng2 {i j : Int} {R : It → Hp → Prop} (h1 : -(2 ^ 62) ≤ i) (h2 : i < 2 ^ 62) (h3 : -(2 ^ 62) ≤ j) (h4 : j < 2 ^ 62) (h : R (Itr i (j - i).toNat) H) : Rng2End R [.int i, .int j] H := ⟨i, j, rfl, ⟨h1, h2, h3, h4⟩, h⟩
theorem i_forR {lo : Int} {n : Nat} (Pv : Nat → St → Hp → Prop) (h0 : Pv 0 σ H)
    (hs : ∀ i σ H, i < n → Pv i σ H → g (.int (lo + i)) σ H fun σ2 H2 => tb ⟨Pv (i + 1), rt, nx, Pv (i + 1)⟩ σ2 H2) (hd : ∀ σ H, Pv n σ H → nx σ H) : ForEnd g tb rt nx σ (Itr lo n) H :=
  for_range (D := ⟨nx, rt, nx, nx⟩) Pv h0 hs hd
end
end L2
/-! == and != of scalars, of tuples of flat values, of lists by their lengths; in; isinstance -/
namespace L2
open PySem PySem.Spec PyProof.Rows PySem.SeqAt
def eqVs : List V → List V → Bool
  | [], [] => true
  | x :: xs, y :: ys => eqV x y && eqVs xs ys
  | _, _ => false
theorem eqV_refl : ∀ x : V, flatV x = true → eqV x x = true
  | .non, _ => rfl
  | .bl b, _ => by simp [eqV]
  | .int i, _ => by simp [eqV]
  | .str z, _ => by simp [eqV]
  | .byt _, h => by cases h
  | .flt _, h => by cases h
  | .ref _, h => by cases h
  | .ty _, h => by cases h
theorem eqVs_refl : ∀ xs : List V, xs.all flatV = true → eqVs xs xs = true
  | [], _ => rfl
  | x :: xs, h => by
    rw [List.all_cons, Bool.and_eq_true] at h
    show (eqV x x && eqVs xs xs) = true
    rw [eqV_refl x h.1, eqVs_refl xs h.2]; rfl
/-- the loop's word, place by place -/
def eqN (xs ys : List V) (j : Nat) : Bool := match xs[j]?, ys[j]? with
  | some x, some y => eqV x y
  | _, _ => false
theorem eqVs_all : ∀ xs ys : List V, ((List.range (min xs.length ys.length)).all (eqN xs ys) && xs.length == ys.length) = eqVs xs ys
  | [], [] => rfl
  | [], y :: ys => by simp [eqVs]
  | x :: xs, [] => by simp [eqVs]
  | x :: xs, y :: ys => by
    have e : min (x :: xs).length (y :: ys).length = min xs.length ys.length + 1 := by
      rw [List.length_cons, List.length_cons, Nat.succ_min_succ]
    rw [e, List.range_succ_eq_map, List.all_cons, List.all_map]
    have e1 : (eqN (x :: xs) (y :: ys) ∘ Nat.succ) = eqN xs ys := by
      funext j; simp [eqN]
    have e2 : eqN (x :: xs) (y :: ys) 0 = eqV x y := by simp [eqN]
    have e3 : ((x :: xs).length == (y :: ys).length) = (xs.length == ys.length) := by simp
    rw [e1, e2, e3, Bool.and_assoc, eqVs_all xs ys]; rfl
section
variable {X : Cx}
theorem flat_get {xs : List V} (h : xs.all flatV = true) {j : Nat} {x : V} (e : xs[j]? = some x) : flatV x = true :=
  List.all_eq_true.mp h x (List.mem_of_getElem? e)
theorem vals_at {A : Around} {s : Shared} {xs ys : List V} {us ws : List Value} (r : Vals xs us) (q : Vals ys ws) (fx : xs.all flatV = true) (fy : ys.all flatV = true) (j : Nat) (h1 : j < us.toArray.size) (h2 : j < ws.toArray.size) :
    EqAt A s us.toArray[j] ws.toArray[j] (eqN xs ys j) := by
  have l1 := r.length
  have l2 := q.length
  have k1 : j < xs.length := by rw [List.size_toArray] at h1; omega
  have k2 : j < ys.length := by rw [List.size_toArray] at h2; omega
  obtain ⟨u, eu, ru⟩ := r.get (List.getElem?_eq_getElem k1)
  obtain ⟨v, ev, rv⟩ := q.get (List.getElem?_eq_getElem k2)
  have e1 : us.toArray[j] = u := by
    have : us.toArray[j]? = some u := by simpa using eu
    exact Option.some.inj ((Array.getElem?_eq_getElem h1).symm.trans this)
  have e2 : ws.toArray[j] = v := by
    have : ws.toArray[j]? = some v := by simpa using ev
    exact Option.some.inj ((Array.getElem?_eq_getElem h2).symm.trans this)
  have e3 : eqN xs ys j = eqV xs[j] ys[j] := by
    unfold eqN
    rw [List.getElem?_eq_getElem k1, List.getElem?_eq_getElem k2]
  rw [e1, e2, e3]
  exact eqAt_V ru rv (flat_get fx (List.getElem?_eq_getElem k1)) (flat_get fy (List.getElem?_eq_getElem k2))
/-- two tuples of flat values -/
def rEqT (K : PySem.W.Frag) (neg : Bool) : R2 := fun x y H Q => ∃ p q xs ys, x = .ref p ∧ y = .ref q ∧ SqT K H p xs ∧ SqT K H q ys ∧ xs.all flatV = true ∧ ys.all flatV = true ∧ Q (.bl (if neg then !eqVs xs ys else eqVs xs ys)) H
/-- two lists of which one is empty -/
def rEqL (K : PySem.W.Frag) (neg : Bool) : R2 := fun x y H Q => ∃ p q xs ys, x = .ref p ∧ y = .ref q ∧ SqL K H p xs ∧ SqL K H q ys ∧ (xs = [] ∨ ys = []) ∧ Q (.bl (if neg then !(xs.isEmpty && ys.isEmpty) else xs.isEmpty && ys.isEmpty)) H
theorem op_eqT (hu : X.A.units + 1 < cLine) : OpR X (compareOp .Eq) (rEqT X.K false) := by
  intro pins s σ H x y v u Q I rx ry h
  obtain ⟨p, q, xs, ys, rfl, rfl, hp, hq, fx, fy, k⟩ := h
  cases rx; cases ry
  obtain ⟨its, r, t1, _⟩ := I.tuple hp
  obtain ⟨its2, r2, t2, _⟩ := I.tuple hq
  refine eq_tupleAt (e := eqN xs ys) t1 t2 (by omega) (fun j h1 h2 => vals_at r r2 fx fy j h1 h2) ?_
  have e := eqVs_all xs ys
  rw [List.size_toArray, List.size_toArray, ← r.length, ← r2.length, e]
  exact fin_bl I k rfl
theorem op_neT (hu : X.A.units + 1 < cLine) : OpR X (compareOp .NotEq) (rEqT X.K true) := by
  intro pins s σ H x y v u Q I rx ry h
  obtain ⟨p, q, xs, ys, rfl, rfl, hp, hq, fx, fy, k⟩ := h
  cases rx; cases ry
  obtain ⟨its, r, t1, _⟩ := I.tuple hp
  obtain ⟨its2, r2, t2, _⟩ := I.tuple hq
  refine RcNeAt.tuples (e := eqN xs ys) t1 t2 (by omega) (fun j h1 h2 => vals_at r r2 fx fy j h1 h2) _ _ _ _ ?_
  have e := eqVs_all xs ys
  rw [List.size_toArray, List.size_toArray, ← r.length, ← r2.length, e]
  exact fin_bl I k rfl
theorem op_eqL (hu : X.A.units + 1 < cLine) : OpR X (compareOp .Eq) (rEqL X.K false) := by
  intro pins s σ H x y v u Q I rx ry h
  obtain ⟨p, q, xs, ys, rfl, rfl, hp, hq, emp, k⟩ := h
  cases rx; cases ry
  obtain ⟨its, r, t1, _⟩ := I.list hp
  obtain ⟨its2, r2, t2, _⟩ := I.list hq
  have l1 := r.length
  have l2 := r2.length
  by_cases e : its.length = its2.length
  · have z : its = [] ∧ its2 = [] := by
      rcases emp with rfl | rfl
      · have : its.length = 0 := by simp at l1; omega
        exact ⟨List.length_eq_zero_iff.mp this, List.length_eq_zero_iff.mp (by omega)⟩
      · have : its2.length = 0 := by simp at l2; omega
        exact ⟨List.length_eq_zero_iff.mp (by omega), List.length_eq_zero_iff.mp this⟩
    obtain ⟨rfl, rfl⟩ := z
    have z1 : xs = [] := List.length_eq_zero_iff.mp (by simpa using l1)
    have z2 : ys = [] := List.length_eq_zero_iff.mp (by simpa using l2)
    subst z1; subst z2
    refine eq_listAt (e := fun _ => true) t1.isList t2.isList rfl (by omega) (fun j h1 h2 => absurd h1 (by simp)) ?_
    exact fin_bl I k rfl
  · refine eq_list_lengthsAt t1.isList t2.isList (by simpa using e) (by omega) ?_
    have z : (xs.isEmpty && ys.isEmpty) = false := by
      cases xs with
      | nil => cases ys with
        | nil => simp at l1 l2; omega
        | cons _ _ => rfl
      | cons _ _ => rfl
    have k' : Q (.bl (xs.isEmpty && ys.isEmpty)) H := k
    rw [z] at k'
    exact fin_bl I k' rfl
theorem op_neL (hu : X.A.units + 1 < cLine) : OpR X (compareOp .NotEq) (rEqL X.K true) := by
  intro pins s σ H x y v u Q I rx ry h
  obtain ⟨p, q, xs, ys, rfl, rfl, hp, hq, emp, k⟩ := h
  cases rx; cases ry
  obtain ⟨its, r, t1, _⟩ := I.list hp
  obtain ⟨its2, r2, t2, _⟩ := I.list hq
  have l1 := r.length
  have l2 := r2.length
  by_cases e : its.length = its2.length
  · have z : its = [] ∧ its2 = [] := by
      rcases emp with rfl | rfl
      · have : its.length = 0 := by simp at l1; omega
        exact ⟨List.length_eq_zero_iff.mp this, List.length_eq_zero_iff.mp (by omega)⟩
      · have : its2.length = 0 := by simp at l2; omega
        exact ⟨List.length_eq_zero_iff.mp (by omega), List.length_eq_zero_iff.mp this⟩
    obtain ⟨rfl, rfl⟩ := z
    have z1 : xs = [] := List.length_eq_zero_iff.mp (by simpa using l1)
    have z2 : ys = [] := List.length_eq_zero_iff.mp (by simpa using l2)
    subst z1; subst z2
    refine RcNeAt.lists (e := fun _ => true) t1.isList t2.isList rfl (by omega) (fun j h1 h2 => absurd h1 (by simp)) _ _ _ _ ?_
    exact fin_bl I k rfl
  · refine RcNeAt.lists_lengths t1.isList t2.isList (by simpa using e) (by omega) _ _ _ _ ?_
    have z : (xs.isEmpty && ys.isEmpty) = false := by
      cases xs with
      | nil => cases ys with
        | nil => simp at l1 l2; omega
        | cons _ _ => rfl
      | cons _ _ => rfl
    have k' : Q (.bl (!(xs.isEmpty && ys.isEmpty))) H := k
    rw [z] at k'
    exact fin_bl I k' rfl
def rEqX (K : PySem.W.Frag) : R2 := fun x y H Q => rEq x y H Q ∨ (rEqT K false x y H Q ∨ rEqL K false x y H Q)
def rNeX (K : PySem.W.Frag) : R2 := fun x y H Q => rNe x y H Q ∨ (rEqT K true x y H Q ∨ rEqL K true x y H Q)
theorem op_eqX (hu : X.A.units + 1 < cLine) : OpR X (compareOp .Eq) (rEqX X.K) := op_eq.or ((op_eqT hu).or (op_eqL hu))
theorem op_neX (hu : X.A.units + 1 < cLine) : OpR X (compareOp .NotEq) (rNeX X.K) := op_ne.or ((op_neT hu).or (op_neL hu))
end
section
variable {K : PySem.W.Frag} {H : Hp} {Q : VK}
theorem i_eqI {i j : Int} (h : Q (.bl (decide (i = j))) H) : rEqX K (.int i) (.int j) H Q := .inl ⟨rfl, by rw [dec_int']; exact h⟩
theorem i_neI {i j : Int} (h : Q (.bl (!decide (i = j))) H) : rNeX K (.int i) (.int j) H Q := .inl ⟨rfl, by rw [dec_int']; exact h⟩
theorem i_eqT {p q : Addr} {xs ys : List V} (hp : SqT K H p xs) (hq : SqT K H q ys) (fx : xs.all flatV = true) (fy : ys.all flatV = true) (h : Q (.bl (eqVs xs ys)) H) : rEqX K (.ref p) (.ref q) H Q := .inr (.inl ⟨p, q, xs, ys, rfl, rfl, hp, hq, fx, fy, h⟩)
theorem i_neT {p q : Addr} {xs ys : List V} (hp : SqT K H p xs) (hq : SqT K H q ys) (fx : xs.all flatV = true) (fy : ys.all flatV = true) (h : Q (.bl (!eqVs xs ys)) H) : rNeX K (.ref p) (.ref q) H Q := .inr (.inl ⟨p, q, xs, ys, rfl, rfl, hp, hq, fx, fy, h⟩)
theorem i_neL {p q : Addr} {xs : List V} (hp : SqL K H p xs) (hq : SqL K H q []) (h : Q (.bl (!xs.isEmpty)) H) : rNeX K (.ref p) (.ref q) H Q :=
  .inr (.inr ⟨p, q, xs, [], rfl, rfl, hp, hq, .inr rfl, by
    show Q (.bl (!(xs.isEmpty && true))) H
    rw [Bool.and_true]; exact h⟩)
end
end L2
namespace L2
open PySem PySem.Spec PyProof.Rows PySem.SeqAt
/-! ### isinstance -/
def clsV : V → Value
  | .ty n => .type n
  | .ref a => .ref a
  | _ => .none
def isCls : V → Bool
  | .ty _ => true
  | .ref _ => true
  | _ => false
theorem clsV_of {y : V} {u : Value} (r : RelV y u) (h : isCls y = true) : u = clsV y := by
  cases y <;> first | exact r | cases h
def rIsi (K : PySem.W.Frag) : List V → Hp → VK → Prop := fun xs H Q => ∃ x y t b, xs = [x, y] ∧ isCls y = true ∧ TyOf K H x t ∧ PySem.W.kitOne K t (clsV y) = some b ∧ Q (.bl b) H
section
variable {X : Cx}
theorem call_isinst : CallR X (.builtin "isinstance") (rIsi X.K) := by
  intro pins s σ H xs us Q I r h
  obtain ⟨x, y, t, b, rfl, hy, ty, e, q⟩ := h
  obtain ⟨u, w', rfl, ru, rw'⟩ := vals2 r
  have ew := clsV_of rw' hy
  subst ew
  exact isinst_ok I ru ty e fun tk => ⟨.bl b, H, I.tok tk, rfl, q⟩
end
theorem i_isi {K : PySem.W.Frag} {H : Hp} {Q : VK} {x : V} {n : String} {t : Value} {b : Bool} (ty : TyOf K H x t) (e : PySem.W.kitOne K t (.type n) = some b) (h : Q (.bl b) H) : rIsi K [x, .ty n] H Q := ⟨x, .ty n, t, b, rfl, rfl, ty, e, h⟩
theorem i_isiC {K : PySem.W.Frag} {H : Hp} {Q : VK} {x : V} {C : Addr} {t : Value} {b : Bool} (ty : TyOf K H x t) (e : PySem.W.kitOne K t (.ref C) = some b) (h : Q (.bl b) H) : rIsi K [x, .ref C] H Q := ⟨x, .ref C, t, b, rfl, rfl, ty, e, h⟩
/-! ### a tuple in a list of tuples -/
def tupU (H : Hp) : Value → List V
  | .ref a => match H a with
    | some (.tup zs) => zs
    | _ => []
  | _ => []
def tupV (H : Hp) : V → List V
  | .ref a => match H a with
    | some (.tup zs) => zs
    | _ => []
  | _ => []
def AreTups (H : Hp) (ys : List V) : Prop := ∀ y ∈ ys, ∃ a zs, y = .ref a ∧ H a = some (.tup zs) ∧ zs.all flatV = true
theorem any_tup {H : Hp} {xs : List V} : ∀ {ys : List V} {us : List Value}, Vals ys us → AreTups H ys → us.any (fun u => eqVs (tupU H u) xs) = ys.any fun y => eqVs (tupV H y) xs
  | _, _, .nil, _ => rfl
  | y :: ys, u :: us, .cons r t, h => by
    obtain ⟨a, zs, rfl, ha, _⟩ := h y (.head _)
    cases (show u = Value.ref a from r)
    rw [List.any_cons, List.any_cons, any_tup t fun z hz => h z (.tail _ hz)]
    rfl
theorem vals_mem {P : V → Prop} : ∀ {ys : List V} {us : List Value}, Vals ys us → (∀ y ∈ ys, P y) → ∀ u ∈ us, ∃ y, P y ∧ RelV y u
  | _, _, .nil, _, u, hu => by cases hu
  | y :: ys, w :: us, .cons r t, h, u, hu => by
    rcases List.mem_cons.mp hu with e | hu'
    · rw [e]; exact ⟨y, h y (.head _), r⟩
    · exact vals_mem t (fun z hz => h z (.tail _ hz)) u hu'
def rInT (K : PySem.W.Frag) (neg : Bool) : R2 := fun x y H Q => ∃ p q xs ys, x = .ref p ∧ y = .ref q ∧ H p = some (.tup xs) ∧ xs.all flatV = true ∧ SqL K H q ys ∧ AreTups H ys ∧
  Q (.bl (if neg then !(ys.any fun y => eqVs (tupV H y) xs) else ys.any fun y => eqVs (tupV H y) xs)) H
section
variable {X : Cx}
theorem in_at {pins : List (Addr × Obj)} {σ : St} {H : Hp} {s : Shared} {A : Around} (hu : A.units < cLine) (I : Inv X pins σ H s) {p : Addr} {xs ys : List V} {us : List Value} (hp : H p = some (.tup xs)) (fx : xs.all flatV = true) (r : Vals ys us) (hy : AreTups H ys) :
    ∀ u ∈ us, EqAt A s u (.ref p) (eqVs (tupU H u) xs) := by
  intro u hu'
  obtain ⟨y, ⟨a, zs, rfl, ha, fz⟩, ry⟩ := vals_mem r hy u hu'
  cases (show u = Value.ref a from ry)
  have e : tupU H (.ref a) = zs := by
    show (match H a with
      | some (.tup zs) => zs
      | _ => []) = zs
    rw [ha]
  rw [e]
  by_cases c : a = p
  · subst c
    rw [ha] at hp
    cases hp
    rw [eqVs_refl xs fx]
    exact EqAt.same _
  · obtain ⟨its, r1, t1, _⟩ := I.tuple (SqT.of (K := X.K) ha)
    obtain ⟨its2, r2, t2, _⟩ := I.tuple (SqT.of (K := X.K) hp)
    have z := RcAt.tuples (A := A) (e := eqN zs xs) t1 t2 hu fun j h1 h2 => vals_at r1 r2 fz fx j h1 h2
    rw [List.size_toArray, List.size_toArray, ← r1.length, ← r2.length, eqVs_all] at z
    exact EqAt.of_refs c z
theorem op_inT (hu : X.A.units + 1 < cLine) : OpR X (compareOp .In) (rInT X.K false) := by
  intro pins s σ H x y v u Q I rx ry h
  obtain ⟨p, q, xs, ys, rfl, rfl, hp, fx, hq, hy, k⟩ := h
  cases rx; cases ry
  obtain ⟨its, r, t1, _⟩ := I.list hq
  refine in_listAt (fun u => eqVs (tupU H u) xs) t1.isList (fun y hy' => in_at (A := X.A.in1) hu I hp fx r hy y (by simpa using hy')) ?_
  rw [List.any_toArray, any_tup r hy]
  exact fin_bl I k rfl
theorem op_notInT (hu : X.A.units + 1 < cLine) : OpR X (compareOp .NotIn) (rInT X.K true) := by
  intro pins s σ H x y v u Q I rx ry h
  obtain ⟨p, q, xs, ys, rfl, rfl, hp, fx, hq, hy, k⟩ := h
  cases rx; cases ry
  obtain ⟨its, r, t1, _⟩ := I.list hq
  refine notIn_listAt (fun u => eqVs (tupU H u) xs) t1.isList (fun y hy' => in_at (A := X.A.in1) hu I hp fx r hy y (by simpa using hy')) ?_
  rw [List.any_toArray, any_tup r hy]
  exact fin_bl I k rfl
def rInX (K : PySem.W.Frag) : R2 := fun x y H Q => rIn K false x y H Q ∨ rInT K false x y H Q
def rNotInX (K : PySem.W.Frag) : R2 := fun x y H Q => rIn K true x y H Q ∨ rInT K true x y H Q
theorem op_inX (hu : X.A.units + 1 < cLine) : OpR X (compareOp .In) (rInX X.K) := op_in_seq.or (op_inT hu)
theorem op_notInX (hu : X.A.units + 1 < cLine) : OpR X (compareOp .NotIn) (rNotInX X.K) := op_notIn_seq.or (op_notInT hu)
end
section
variable {K : PySem.W.Frag} {H : Hp} {Q : VK}
theorem i_inF {x : V} {q : Addr} {ys : List V} (hq : SqL K H q ys) (fx : flatV x = true) (fy : ys.all flatV = true) (h : Q (.bl (inV x ys)) H) : rInX K x (.ref q) H Q := .inl ⟨q, ys, rfl, .inl hq, fx, fy, h⟩
theorem i_notInF {x : V} {q : Addr} {ys : List V} (hq : SqL K H q ys) (fx : flatV x = true) (fy : ys.all flatV = true) (h : Q (.bl (!inV x ys)) H) : rNotInX K x (.ref q) H Q := .inl ⟨q, ys, rfl, .inl hq, fx, fy, h⟩
theorem i_inT {p q : Addr} {xs ys : List V} (hp : H p = some (.tup xs)) (fx : xs.all flatV = true) (hq : SqL K H q ys) (hy : AreTups H ys) (h : Q (.bl (ys.any fun y => eqVs (tupV H y) xs)) H) : rInX K (.ref p) (.ref q) H Q := .inr ⟨p, q, xs, ys, rfl, rfl, hp, fx, hq, hy, h⟩
end
theorem kit_ii (K : PySem.W.Frag) : PySem.W.kitOne K (.type "int") (.type "int") = some true := by kernel_rfl
theorem kit_ib (K : PySem.W.Frag) : PySem.W.kitOne K (.type "int") (.type "bool") = some false := by kernel_rfl
theorem kit_ll (K : PySem.W.Frag) : PySem.W.kitOne K (.type "list") (.type "list") = some true := by kernel_rfl
theorem kit_tt (K : PySem.W.Frag) : PySem.W.kitOne K (.type "tuple") (.type "tuple") = some true := by kernel_rfl
theorem b_len : bootBuiltins "len" = some (.builtin "len") := by decide +kernel
theorem b_max : bootBuiltins "max" = some (.builtin "max") := by decide +kernel
theorem b_min : bootBuiltins "min" = some (.builtin "min") := by decide +kernel
theorem b_sorted : bootBuiltins "sorted" = some (.builtin "sorted") := by decide +kernel
theorem b_isinstance : bootBuiltins "isinstance" = some (.builtin "isinstance") := by decide +kernel
theorem b_list : bootBuiltins "list" = some (.type "list") := by decide +kernel
theorem b_tuple : bootBuiltins "tuple" = some (.type "tuple") := by decide +kernel
theorem b_int : bootBuiltins "int" = some (.type "int") := by decide +kernel
theorem b_bool : bootBuiltins "bool" = some (.type "bool") := by decide +kernel
theorem b_range : bootBuiltins "range" = some (.type "range") := by decide +kernel
theorem b_ValueError : bootBuiltins "ValueError" = some (.type "ValueError") := by decide +kernel
end L2
namespace L2
open PySem PySem.Spec PyProof.Rows
/-! ### lists of tuples -/
section
variable {β : Type} {enc : β → List V} {H H' : Hp}
def TupsAt (enc : β → List V) (H : Hp) : List V → List β → Prop
  | [], [] => True
  | x :: xs, b :: bs => (∃ a, x = .ref a ∧ H a = some (.tup (enc b))) ∧ TupsAt enc H xs bs
  | _, _ => False
theorem TupsAt.length : ∀ {xs : List V} {bs : List β}, TupsAt enc H xs bs → xs.length = bs.length
  | [], [], _ => rfl
  | [], _ :: _, h => h.elim
  | _ :: _, [], h => h.elim
  | _ :: xs, _ :: bs, h => by rw [List.length_cons, List.length_cons, TupsAt.length h.2]
theorem TupsAt.get : ∀ {xs : List V} {bs : List β} {i : Nat} {x : V}, TupsAt enc H xs bs → xs[i]? = some x → ∃ a b, x = .ref a ∧ bs[i]? = some b ∧ H a = some (.tup (enc b))
  | [], [], i, x, _, e => by simp at e
  | [], _ :: _, _, _, h, _ => h.elim
  | _ :: _, [], _, _, h, _ => h.elim
  | y :: xs, b :: bs, 0, x, h, e => by
    obtain ⟨⟨a, ey, ha⟩, _⟩ := h
    have e' : y = x := by simpa using e
    exact ⟨a, b, by rw [← e', ey], by simp, ha⟩
  | y :: xs, b :: bs, i + 1, x, h, e => by
    obtain ⟨a, c, h1, h2, h3⟩ := TupsAt.get (i := i) (x := x) h.2 (by simpa using e)
    exact ⟨a, c, h1, by simpa using h2, h3⟩
theorem TupsAt.getB {xs : List V} {bs : List β} (h : TupsAt enc H xs bs) {i : Nat} {b : β} (e : bs[i]? = some b) : ∃ a, xs[i]? = some (.ref a) ∧ H a = some (.tup (enc b)) := by
  have hi := (List.getElem?_eq_some_iff.mp e).1
  have hl := h.length
  have ex : xs[i]? = some xs[i] := List.getElem?_eq_getElem (by omega)
  obtain ⟨a, c, h1, h2, h3⟩ := h.get ex
  rw [e] at h2
  cases h2
  exact ⟨a, by rw [ex, h1], h3⟩
theorem TupsAt.snoc : ∀ {xs : List V} {bs : List β} {a : Addr} {b : β}, TupsAt enc H xs bs → H a = some (.tup (enc b)) → TupsAt enc H (xs ++ [.ref a]) (bs ++ [b])
  | [], [], a, b, _, ha => ⟨⟨a, rfl, ha⟩, trivial⟩
  | [], _ :: _, _, _, h, _ => h.elim
  | _ :: _, [], _, _, h, _ => h.elim
  | x :: xs, c :: bs, a, b, h, ha => ⟨h.1, TupsAt.snoc h.2 ha⟩
theorem TupsAt.append : ∀ {xs ys : List V} {bs cs : List β}, TupsAt enc H xs bs → TupsAt enc H ys cs → TupsAt enc H (xs ++ ys) (bs ++ cs)
  | [], _, [], _, _, h => h
  | [], _, _ :: _, _, h, _ => h.elim
  | _ :: _, _, [], _, h, _ => h.elim
  | x :: xs, ys, c :: bs, cs, h, g => ⟨h.1, TupsAt.append h.2 g⟩
def KeepT (H H' : Hp) : Prop := ∀ a zs, H a = some (.tup zs) → H' a = some (.tup zs)
theorem TupsAt.mono (k : KeepT H H') : ∀ {xs : List V} {bs : List β}, TupsAt enc H xs bs → TupsAt enc H' xs bs
  | [], [], h => h
  | [], _ :: _, h => h.elim
  | _ :: _, [], h => h.elim
  | _ :: xs, _ :: bs, ⟨⟨a, e, ha⟩, h⟩ => ⟨⟨a, e, k _ _ ha⟩, TupsAt.mono k h⟩
theorem KeepT.new {p : Addr} {o : HO} (h : H p = none) : KeepT H (upd H p o) := fun a zs e => by rw [upd_ne (ne_of_none e h)]; exact e
theorem KeepT.lst {p : Addr} {xs : List V} {o : HO} (h : H p = some (.lst xs)) : KeepT H (upd H p o) := fun a zs e => by rw [upd_ne (ne_of e h (by intro z; cases z))]; exact e
theorem KeepT.trans {H'' : Hp} (a : KeepT H H') (b : KeepT H' H'') : KeepT H H'' := fun c zs h => b c zs (a c zs h)
theorem Same.keepT (s : Same H H') : KeepT H H' := fun a zs h => s a _ h
theorem Same.new {p : Addr} {o : HO} (h : H p = none) : Same H (upd H p o) := fun b u q => by rw [upd_ne (ne_of_none q h)]; exact q
theorem Same.upd {p : Addr} {o : HO} {H₀ : Hp} (s : Same H₀ H) (h : H₀ p = none) : Same H₀ (upd H p o) := fun b u q => by rw [upd_ne (ne_of_none q h)]; exact s b u q
theorem Same.sqT {K : PySem.W.Frag} {a : Addr} {xs : List V} (e : Same H H') (h : SqT K H a xs) : SqT K H' a xs := by
  rcases h with (h | ⟨o, h⟩) | h
  · exact .inl (.inl (e _ _ h))
  · exact .inl (.inr ⟨o, e _ _ h⟩)
  · exact .inr h
/-- a list whose items are the rows bs -/
def RowsAt (enc : β → List V) (H : Hp) (l : Addr) (bs : List β) : Prop := ∃ xs, H l = some (.lst xs) ∧ TupsAt enc H xs bs
theorem RowsAt.same {l : Addr} {bs : List β} (h : RowsAt enc H l bs) (s : Same H H') : RowsAt enc H' l bs := by
  obtain ⟨xs, a, t⟩ := h
  exact ⟨xs, s _ _ a, t.mono s.keepT⟩
/-- a row is put behind -/
theorem RowsAt.push {l p : Addr} {xs : List V} {bs : List β} {b : β} (hl : H l = some (.lst xs)) (t : TupsAt enc H xs bs) (hp : H p = some (.tup (enc b))) : RowsAt enc (upd H l (.lst (xs ++ [.ref p]))) l (bs ++ [b]) :=
  ⟨_, upd_same, (t.mono (KeepT.lst hl)).snoc (KeepT.lst hl _ _ hp)⟩
end
def eB (b : Int × Int) : List V := [.int b.1, .int b.2]
theorem atI0 {x y : V} : atI [x, y] 0 = some x := rfl
theorem atI1 {x y : V} : atI [x, y] 1 = some y := rfl
theorem eB_flat (b : Int × Int) : (eB b).all flatV = true := rfl
theorem eqVs_eB (b c : Int × Int) : eqVs (eB b) (eB c) = decide (b = c) := by
  obtain ⟨b1, b2⟩ := b
  obtain ⟨c1, c2⟩ := c
  show ((b1 == c1) && ((b2 == c2) && true)) = _
  by_cases h : b1 = c1 ∧ b2 = c2
  · obtain ⟨rfl, rfl⟩ := h
    simp
  · rw [decide_eq_false (by intro z; cases z; exact h ⟨rfl, rfl⟩)]
    rw [Bool.and_true]
    cases e : (b1 == c1) with
    | false => rfl
    | true =>
      cases e2 : (b2 == c2) with
      | false => rfl
      | true => exact absurd ⟨eq_of_beq e, eq_of_beq e2⟩ h
def ia (σ : St) (i : Nat) : Int := match σ[i]? with
  | some (some (.int x)) => x
  | _ => 0
end L2
namespace L2
open PySem PySem.Spec PyProof.Rows
section
variable {c : TT} {tb : TS} {g : TG} {nx bk ct : St → Hp → Prop} {rt : VK} {σ : St} {H : Hp} {K : PySem.W.Frag}
theorem i_whileN (W : Nat → St → Hp → Prop) (m : Nat) (h0 : W m σ H)
    (hs : ∀ (m : Nat) (σ : St) (H : Hp), W m σ H → c σ H fun b H1 => if b = true then TurnN W m tb rt nx σ H1 else nx σ H1) : tWhile c tb ⟨nx, rt, bk, ct⟩ σ H := ⟨W, ⟨m, h0⟩, hs⟩
theorem i_turnN {W : Nat → St → Hp → Prop} {m : Nat} (h : tb ⟨fun σ' H' => ∃ m', m' < m ∧ W m' σ' H', rt, nx, fun σ' H' => ∃ m', m' < m ∧ W m' σ' H'⟩ σ H) : TurnN W m tb rt nx σ H := ⟨_, fun _ _ p => p, h⟩
def TupEnd (K : PySem.W.Frag) (R : It → Hp → Prop) (x : V) (H : Hp) : Prop := ∃ a, x = .ref a ∧ (∃ xs, SqT K H a xs) ∧ R (Itt K a) H
theorem i_iTup {tl : TE} {R : It → Hp → Prop} (h : tl σ H (TupEnd K R)) : iTup K tl σ H R := h
theorem i_forT {a : Addr} {xs : List V} (Pv : Nat → St → Hp → Prop) (hS : SqT K H a xs) (h0 : Pv 0 σ H) (hl : ∀ i σ H, i ≤ xs.length → Pv i σ H → SqT K H a xs)
    (hs : ∀ i x σ H, xs[i]? = some x → Pv i σ H → g x σ H fun σ2 H2 => tb ⟨Pv (i + 1), rt, nx, Pv (i + 1)⟩ σ2 H2) (hd : ∀ σ H, Pv xs.length σ H → nx σ H) : TupEnd K (ForEnd g tb rt nx σ) (.ref a) H :=
  ⟨a, rfl, ⟨xs, hS⟩, for_tup (D := ⟨nx, rt, nx, nx⟩) Pv h0 hl hs hd⟩
end
def rIsN : R2 := fun x y H Q => y = .non ∧ Q (.bl (decide (x = .non))) H
def rNotN : R2 := fun x y H Q => y = .non ∧ Q (.bl (!decide (x = .non))) H
theorem op_isNR {X : Cx} : OpR X (compareOp .Is) rIsN := op_isN
theorem op_notNR {X : Cx} : OpR X (compareOp .IsNot) rNotN := op_notN
theorem i_isN {x : V} {H : Hp} {Q : VK} (h : Q (.bl (decide (x = .non))) H) : rIsN x .non H Q := ⟨rfl, h⟩
theorem i_notN {x : V} {H : Hp} {Q : VK} (h : Q (.bl (!decide (x = .non))) H) : rNotN x .non H Q := ⟨rfl, h⟩
theorem TupsAt.unsnoc {β : Type} {enc : β → List V} {H : Hp} : ∀ {xs : List V} {bs : List β} {b : β}, TupsAt enc H xs (bs ++ [b]) → ∃ ys a, xs = ys ++ [.ref a] ∧ TupsAt enc H ys bs ∧ H a = some (.tup (enc b))
  | [], [], _, h => h.elim
  | [], _ :: _, _, h => h.elim
  | [x], [], b, ⟨⟨a, e, ha⟩, _⟩ => ⟨[], a, by rw [e]; rfl, trivial, ha⟩
  | _ :: _ :: _, [], _, ⟨_, h⟩ => h.elim
  | x :: xs, c :: bs, b, ⟨h1, h2⟩ => by
    obtain ⟨ys, a, e, t, ha⟩ := TupsAt.unsnoc h2
    exact ⟨x :: ys, a, by rw [e]; rfl, ⟨h1, t⟩, ha⟩
theorem snoc_cases {β : Type} (l : List β) : l = [] ∨ ∃ r b, l = r ++ [b] := by
  cases e : l.reverse with
  | nil => exact .inl (List.reverse_eq_nil_iff.mp e)
  | cons b r => exact .inr ⟨r.reverse, b, by rw [← List.reverse_reverse l, e, List.reverse_cons]⟩
theorem bl_flat (ms : List Bool) : (ms.map V.bl).all flatV = true := by
  rw [List.all_map]; exact List.all_eq_true.mpr fun _ _ => rfl
theorem int_flat (ms : List Int) : (ms.map V.int).all flatV = true := by
  rw [List.all_map]; exact List.all_eq_true.mpr fun _ _ => rfl
theorem inV_bl (b : Bool) (ms : List Bool) : inV (.bl b) (ms.map V.bl) = decide (b ∈ ms) := by
  unfold inV
  rw [List.any_map]
  have e : ((fun y => eqV y (V.bl b)) ∘ V.bl) = fun x => x == b := rfl
  rw [e]
  by_cases h : b ∈ ms
  · rw [decide_eq_true h]; exact List.any_eq_true.mpr ⟨b, h, by simp⟩
  · rw [decide_eq_false h]
    exact List.any_eq_false.mpr fun x hx z => h (by rw [← eq_of_beq z]; exact hx)
theorem cutPart (ms : List Bool) (s n : Nat) (h : s + n ≤ ms.length) : cutV (ms.map V.bl) (some (s : Int)) (some ((s : Int) + (n : Int))) = (((ms.drop s).take n).map V.bl) := by
  unfold cutV
  have e2 : ((s : Int) + (n : Int)) = ((s + n : Nat) : Int) := by omega
  have m1 : min s ms.length = s := by omega
  have m2 : min (s + n) ms.length = s + n := by omega
  have m3 : s + n - s = n := by omega
  rw [e2, HT.sIx_nat, HT.sIx_nat, List.length_map, m1, m2, m3, ← List.map_drop, ← List.map_take]
theorem cutFrom (ns : List Int) (s : Nat) : cutV (ns.map V.int) (some (s : Int)) none = (ns.drop s).map V.int := by
  unfold cutV
  rw [HT.sIx_nat, HT.sIx_none, List.length_map, ← List.map_drop, ← List.map_take]
  congr 1
  by_cases h : s ≤ ns.length
  · rw [Nat.min_eq_left h]; exact List.take_of_length_le (by rw [List.length_drop]; omega)
  · rw [Nat.min_eq_right (by omega), List.drop_length, List.drop_eq_nil_of_le (by omega)]; simp
theorem cut900 {ns : List Int} (h : ns.length ≤ 63) : cutV (ns.map V.int) none (some 900) = ns.map V.int := by
  unfold cutV
  have hl : (ns.map V.int).length = ns.length := List.length_map _
  rw [hl]
  have e : HT.sIx ns.length ns.length (some 900) = ns.length := by
    have := HT.sIx_nat ns.length ns.length 900
    rw [show ((900 : Nat) : Int) = 900 from rfl] at this
    rw [this]; omega
  rw [e, HT.sIx_none, List.drop_zero, Nat.sub_zero, ← hl, List.take_length]
theorem repBl (n : Nat) (b : Bool) : (List.replicate n [V.bl b]).flatten = (List.replicate n b).map V.bl := by
  induction n with
  | zero => rfl
  | succ n ih => rw [List.replicate_succ, List.flatten_cons, ih, List.replicate_succ]; rfl
theorem ixN_in {n : Nat} {i : Int} (h0 : 0 ≤ i) (h1 : i < n) : ixN n i = some i.toNat := by
  unfold ixN
  rw [if_pos h0, if_pos h1]
theorem setBl (ms : List Bool) (j : Nat) (b : Bool) : (ms.map V.bl).set j (.bl b) = (ms.set j b).map V.bl := by rw [List.map_set]
theorem atInt {ns : List Int} {i : Nat} (h : i < ns.length) : atI (ns.map V.int) (i : Int) = some (.int ns[i]) := atI_nat (by rw [List.getElem?_map, List.getElem?_eq_getElem h]; rfl)
theorem OpR.cast {X : Cx} {f : Value → Value → Sem Value} {r : R2} (r' : R2) (h : OpR X f r) (e : r = r' := by rfl) : OpR X f r' := e ▸ h
theorem IxR.cast {X : Cx} {r : R2} (r' : R2) (h : IxR X r) (e : r = r' := by rfl) : IxR X r' := e ▸ h
theorem CallR.cast {X : Cx} {f : Value} {r : List V → Hp → VK → Prop} (r' : List V → Hp → VK → Prop) (h : CallR X f r) (e : r = r' := by rfl) : CallR X f r' := e ▸ h
end L2

set_option Elab.async false
set_option linter.all false
set_option maxRecDepth 100000
set_option maxHeartbeats 4000000
/-! [e for x in xs if c] over the layer: the block runs in a context of its own -/
namespace L2
open PySem PySem.Spec PyProof.Rows
def clo (env : Env) : List (Str × NameKind) → List (Str × Addr) → List (Str × Addr)
  | [], cs => cs
  | x :: r, cs => clo env r (if (x.2 == NameKind.free) = true then (x.1, (env.cells.lookup x.1).getD 0) :: cs else cs)
theorem clo_for {env : Env} {f : Str × NameKind → List (Str × Addr) → Sem (ForInStep (List (Str × Addr)))} : ∀ (l : List (Str × NameKind)) (cs : List (Str × Addr)),
    (∀ x ∈ l, ∀ cs, f x cs = pure (.yield (if (x.2 == NameKind.free) = true then (x.1, (env.cells.lookup x.1).getD 0) :: cs else cs))) → forIn l cs f = pure (clo env l cs)
  | [], cs, _ => by rw [List.forIn_nil]; rfl
  | x :: r, cs, h => by
    rw [List.forIn_cons, h x (.head _) cs]
    show forIn r _ f = _
    rw [clo_for r _ fun y hy => h y (.tail _ hy)]
    rfl
theorem closure_eq {scope : Scope} {env : Env} (h : ∀ x ∈ scope.names, x.2 = .free → ∃ c, env.cells.lookup x.1 = some c) : closureFor scope env = pure (clo env scope.names []) := by
  simp only [closureFor]
  rw [clo_for (env := env) scope.names [] fun x hx cs => ?_]
  · rfl
  · obtain ⟨n, k⟩ := x
    dsimp only
    by_cases e : (k == NameKind.free) = true
    · rw [if_pos e, if_pos e]
      obtain ⟨c, hc⟩ := h _ hx (eq_of_beq e)
      have hc' : env.cells.lookup n = some c := hc
      unfold cellOf
      rw [hc']
      rfl
    · rw [if_neg e, if_neg e]
theorem clo_sub {env : Env} : ∀ (l : List (Str × NameKind)) (cs : List (Str × Addr)), (∀ x ∈ l, x.2 = .free → ∃ c, env.cells.lookup x.1 = some c) →
    (∀ y c, cs.lookup y = some c → env.cells.lookup y = some c) → ∀ y c, (clo env l cs).lookup y = some c → env.cells.lookup y = some c
  | [], cs, _, h, y, c, e => h y c e
  | x :: r, cs, hf, h, y, c, e => by
    refine clo_sub r _ (fun z hz => hf z (.tail _ hz)) (fun z d q => ?_) y c e
    by_cases k : (x.2 == NameKind.free) = true
    · rw [if_pos k] at q
      obtain ⟨c', hc⟩ := hf x (.head _) (eq_of_beq k)
      rw [hc, List.lookup_cons] at q
      by_cases b : (z == x.1) = true
      · rw [b] at q
        have e1 : z = x.1 := eq_of_beq b
        rw [e1, hc]; exact q
      · have b' : (z == x.1) = false := Bool.eq_false_iff.mpr b
        rw [b'] at q
        exact h z d q
    · rw [if_neg k] at q
      exact h z d q
theorem clo_keep {env : Env} : ∀ (l : List (Str × NameKind)) (cs : List (Str × Addr)) (y : Str), (∃ c, cs.lookup y = some c) → ∃ c, (clo env l cs).lookup y = some c
  | [], _, _, h => h
  | x :: r, cs, y, ⟨c, h⟩ => by
    refine clo_keep r _ y ?_
    by_cases k : (x.2 == NameKind.free) = true
    · rw [if_pos k, List.lookup_cons]
      by_cases b : (y == x.1) = true
      · rw [b]; exact ⟨_, rfl⟩
      · rw [Bool.eq_false_iff.mpr b]; exact ⟨c, h⟩
    · rw [if_neg k]; exact ⟨c, h⟩
theorem clo_has {env : Env} : ∀ (l : List (Str × NameKind)) (cs : List (Str × Addr)) (y : Str), (y, NameKind.free) ∈ l → ∃ c, (clo env l cs).lookup y = some c
  | [], _, _, h => by cases h
  | x :: r, cs, y, h => by
    rcases List.mem_cons.mp h with e | h
    · refine clo_keep r _ y ?_
      have q : ((y, NameKind.free).snd == NameKind.free) = true := rfl
      rw [← e, if_pos q, List.lookup_cons]
      have b : (y == y) = true := beq_self_eq_true y
      rw [b]; exact ⟨_, rfl⟩
    · exact clo_has r _ y h
theorem mem_of_lookup' {α β : Type} [BEq α] [LawfulBEq α] : ∀ {l : List (α × β)} {x : α} {k : β}, l.lookup x = some k → (x, k) ∈ l
  | [], _, _, h => by cases h
  | (a, b) :: r, x, k, h => by
    rw [List.lookup_cons] at h
    by_cases e : (x == a) = true
    · rw [e] at h
      cases h
      rw [eq_of_beq e]; exact .head _
    · rw [Bool.eq_false_iff.mpr e] at h
      exact .tail _ (mem_of_lookup' h)
def compCx (X : Cx) (scope : Scope) (C : Addr) (N' : List Str) (s3 : Shared) (H3 : Hp) (fp : List Addr) : Cx :=
  { prog := X.prog, w := X.w, K := X.K, mg := X.mg, base := X.base, A := X.A, N := N', s₀ := s3, H₀ := H3, env := compEnvC scope (clo X.env scope.names []) C X.env, outer := X.stack, stack := X.stack,
    ex := fp, fn := fun _ => false, calm := X.calm, pn := [], xe := fun _ _ => False }
/-- what is asked of the block's names: x its own, ys the captured ones with their slots js in the def -/
structure CompOk (X : Cx) (scope : Scope) (x : Str) (ys : List Str) (js : List Nat) : Prop where
  kind : scope.kind = .function
  nocell : ∀ y ∈ scope.names, y.2 ≠ .cell
  names : ∀ y ∈ scope.names, y.2 = .local → scope.names.lookup y.1 = some .local
  own : scope.names.lookup x = some .local
  nd : (x :: ys).Nodup
  len : js.length = ys.length
  cap : ∀ (i j : Nat) (y : Str), ys[i]? = some y → js[i]? = some j → X.N[j]? = some y ∧ Vis X.env.scope y ∧ (X.env.kindOf y = some .cell ∨ X.env.kindOf y = some .free) ∧ (y, NameKind.free) ∈ scope.names ∧ ((relabel scope X.env).names.lookup y = some .cell ∨ (relabel scope X.env).names.lookup y = some .free)
  free : ∀ y ∈ scope.names, y.2 = .free → X.env.kindOf y.1 = some .cell ∨ X.env.kindOf y.1 = some .free
  only : ∀ y, ((relabel scope X.env).names.lookup y = some .cell ∨ (relabel scope X.env).names.lookup y = some .free) → (y, NameKind.free) ∈ scope.names
def CapAll (X : Cx) (scope : Scope) : List Str → List Nat → Prop
  | [], [] => True
  | y :: ys, j :: js => (X.N[j]? = some y ∧ Vis X.env.scope y ∧ (X.env.kindOf y = some .cell ∨ X.env.kindOf y = some .free) ∧ (y, NameKind.free) ∈ scope.names ∧ ((relabel scope X.env).names.lookup y = some .cell ∨ (relabel scope X.env).names.lookup y = some .free)) ∧ CapAll X scope ys js
  | _, _ => False
theorem CapAll.len {X : Cx} {scope : Scope} : ∀ {ys : List Str} {js : List Nat}, CapAll X scope ys js → js.length = ys.length
  | [], [], _ => rfl
  | [], _ :: _, h => h.elim
  | _ :: _, [], h => h.elim
  | _ :: _, _ :: _, h => by rw [List.length_cons, List.length_cons, CapAll.len h.2]
theorem CapAll.get {X : Cx} {scope : Scope} : ∀ {ys : List Str} {js : List Nat}, CapAll X scope ys js → ∀ (i j : Nat) (y : Str), ys[i]? = some y → js[i]? = some j → X.N[j]? = some y ∧ Vis X.env.scope y ∧ (X.env.kindOf y = some .cell ∨ X.env.kindOf y = some .free) ∧ (y, NameKind.free) ∈ scope.names ∧ ((relabel scope X.env).names.lookup y = some .cell ∨ (relabel scope X.env).names.lookup y = some .free)
  | [], [], _, i, j, y, h, _ => by simp at h
  | [], _ :: _, h, _, _, _, _, _ => h.elim
  | _ :: _, [], h, _, _, _, _, _ => h.elim
  | a :: ys, b :: js, h, 0, j, y, e1, e2 => by
    have e1' : a = y := by simpa using e1
    have e2' : b = j := by simpa using e2
    subst e1'; subst e2'
    exact h.1
  | a :: ys, b :: js, h, i + 1, j, y, e1, e2 => CapAll.get h.2 i j y (by simpa using e1) (by simpa using e2)
theorem CompOk.of {X : Cx} {scope : Scope} {x : Str} {ys : List Str} {js : List Nat} (kind : scope.kind = .function) (nocell : ∀ y ∈ scope.names, y.2 ≠ .cell) (names : ∀ y ∈ scope.names, y.2 = .local → scope.names.lookup y.1 = some .local)
    (own : scope.names.lookup x = some .local) (nd : (x :: ys).Nodup) (fr : ∀ y ∈ scope.names, y.2 = .free → y.1 ∈ ys) (cap : CapAll X scope ys js) : CompOk X scope x ys js := by
  refine ⟨kind, nocell, names, own, nd, cap.len, cap.get, fun y hy e => ?_, fun y h => ?_⟩
  · obtain ⟨i, hi⟩ := List.mem_iff_getElem?.mp (fr y hy e)
    have il := (List.getElem?_eq_some_iff.mp hi).1
    have cl := cap.len
    exact (cap.get i _ y.1 hi (List.getElem?_eq_getElem (by omega))).2.2.1
  · have m : ∃ k, (y, k) ∈ (relabel scope X.env).names ∧ (k = .cell ∨ k = .free) := by
      rcases h with h | h
      · exact ⟨_, mem_of_lookup' h, .inl rfl⟩
      · exact ⟨_, mem_of_lookup' h, .inr rfl⟩
    obtain ⟨k, m, hk⟩ := m
    obtain ⟨⟨n, k0⟩, hm, e⟩ := List.mem_map.mp m
    have k1 : k0 ≠ .cell := nocell _ hm
    dsimp only at e
    split at e
    · rename_i c
      cases e
      rw [Bool.and_eq_true, Bool.and_eq_true] at c
      rw [eq_of_beq c.1.1] at hm
      exact hm
    · cases e
      rcases hk with z | z
      · exact absurd z k1
      · rw [z] at hm; exact hm
def capt (js : List Nat) (σ : St) : St := js.map fun j => (σ[j]?).join
/-- the reading -/
def CompEnd' (js : List Nat) (σ : St) (tt : TT) (te : TE) (Q : VK) (J : It) (H1 : Hp) : Prop :=
  ∀ D, H1 D = none → ∃ W : Nat → Nat → List V → Hp → Prop, (∃ m, W 0 m [] (upd H1 D (.lst []))) ∧ ∀ i m ys H, W i m ys H → H D = some (.lst ys) →
    ((J.stop i H ∧ Q (.ref D) H) ∨ (J.go i H ∧ ys.length < sizeLine ∧ ∀ x H', J.yld i H x H' → tt (some x :: capt js σ) H' fun b H2 =>
      if b = true then te (some x :: capt js σ) H2 fun y H3 => H3 D = some (.lst ys) ∧ ∃ m', m' < m ∧ W (i + 1) m' (ys ++ [y]) (upd H3 D (.lst (ys ++ [y])))
      else H2 D = some (.lst ys) ∧ ∃ m', m' < m ∧ W (i + 1) m' ys H2))
def tComp (wi : TI) (js : List Nat) (tt : TT) (te : TE) : TE := fun σ H Q => wi σ H (CompEnd' js σ tt te Q)
section
variable {X : Cx} {pins : List (Addr × Obj)} {σ : St} {H : Hp} {s : Shared}
theorem comp_ok {scope : Scope} {x : Str} {ys : List Str} {js : List Nat} (ok : CompOk X scope x ys js) (I : Inv X pins σ H s) {fp : List Addr} (hf : ∀ b ∈ fp, FpOk X pins H b ∧ b < s.heap.objs.size) : (compCx X scope s.heap.objs.size (x :: ys) s H fp).Ok := by
  have lk : ∀ y ∈ scope.names, y.2 = .free → ∃ c, X.env.cells.lookup y.1 = some c := fun y hy e => I.ok.has y.1 (ok.free y hy e)
  have sub := clo_sub (env := X.env) scope.names [] lk (fun y c e => (by cases e))
  refine ⟨I.ok.mod, ok.kind, I.ok.glob, I.ok.blt, Nat.le_refl _, fun a b c e1 e2 => I.ok.inj a b c (sub a c e1) (sub b c e2), fun y h => clo_has scope.names [] y (ok.only y h), fun y c h => (by cases h), I.ok.hd, I.ok.frames, .inl rfl, fun b hb => ?_,
    fun b o e => I.bs b o e, Nat.le_trans I.ok.bsz I.sz, fun b o e hb => ?_, fun b hb z => ?_, I.stack, I.stkFree⟩
  · exact ⟨Nat.ne_of_lt (hf b hb).2, fun y c e => (hf b hb).1.2.2.2.2.1 y c (sub y c e)⟩
  · rcases (hf b hb).1.2.2.2.1 with z | z
    · exact I.ok.noex b o e z
    · exact absurd (Nat.lt_of_lt_of_le (Heap.lt_size (I.ok.bs b o e).1) z) (Nat.lt_irrefl _)
  · rcases List.mem_cons.mp (I.stkSub b z) with q | q
    · exact (hf b hb).1.2.1 q
    · exact (hf b hb).1.2.2.1 q
/-- the block's state at its beginning -/
theorem comp_start {scope : Scope} {x : Str} {ys : List Str} {js : List Nat} (ok : CompOk X scope x ys js) (I : Inv X pins σ H s) {fp : List Addr} (hf : ∀ b ∈ fp, FpOk X pins H b ∧ b < s.heap.objs.size) {h4 : Heap} {t4 : Nat}
    (hn : h4.Ns s.heap.objs.size fun _ => none) (k : ∀ b o, s.heap.get? b = some o → h4.get? b = some o) : Inv (compCx X scope s.heap.objs.size (x :: ys) s H fp) [] (none :: capt js σ) H { s with heap := h4, toks := t4 } := by
  have lk : ∀ y ∈ scope.names, y.2 = .free → ∃ c, X.env.cells.lookup y.1 = some c := fun y hy e => I.ok.has y.1 (ok.free y hy e)
  have sub := clo_sub (env := X.env) scope.names [] lk (fun y c e => (by cases e))
  refine ⟨comp_ok ok I hf, rfl, I.bare, Un.kept k, ⟨_, hn, fun i y v e1 e2 e3 => ?_⟩, fun y c e => ?_, I.hok.fresh (Nat.le_refl _), fun y c e => I.freeC y c (sub y c e), fun p hp => (by cases hp), I.hok.kept k, ?_⟩
  · cases i with
    | zero => simp at e2
    | succ i =>
      have e1' : ys[i]? = some y := by simpa [compCx] using e1
      have e2' : (capt js σ)[i]? = some (some v) := by simpa using e2
      unfold capt at e2'
      rw [List.getElem?_map] at e2'
      cases ej : js[i]? with
      | none => rw [ej] at e2'; cases e2'
      | some j =>
        rw [ej] at e2'
        have e3' : (σ[j]?).join = some v := Option.some.inj e2'
        obtain ⟨c1, c2, c3, c4, c5⟩ := ok.cap i j y e1' ej
        have e4 : σ[j]? = some (some v) := by
          cases q : σ[j]? with
          | none => rw [q] at e3'; cases e3'
          | some o => rw [q] at e3'; rw [show o = some v from e3']
        obtain ⟨m0, hn0, hl0⟩ := I.loc
        obtain ⟨u, ru, l⟩ := hl0 j y v c1 e4 c2
        refine ⟨u, ru, .inr ⟨c5, ?_⟩⟩
        rcases l with ⟨l1, _⟩ | ⟨_, c, hc, hcell⟩
        · rcases c3 with z | z <;> rw [l1] at z <;> cases z
        · obtain ⟨c', hc'⟩ := clo_has (env := X.env) scope.names [] y c4
          have := sub y c' hc'
          rw [hc] at this
          cases this
          obtain ⟨o, ho, hd⟩ := hcell
          exact ⟨c, hc', o, k c o ho, hd⟩
  · obtain ⟨v, o, ho, hd⟩ := I.cell y c (sub y c e)
    exact ⟨v, o, k c o ho, hd⟩
  · show (none :: capt js σ).length = (x :: ys).length
    unfold capt
    rw [List.length_cons, List.length_cons, List.length_map, ok.len]
end
/-- the tests of a clause -/
def PTs (X : Cx) (ifs : List Expr) (t : TT) : Prop :=
  ∀ (pins : List (Addr × Obj)) (s : Shared) (σ : St) (H : Hp) (Q : Bool → Hp → Prop), Inv X pins σ H s → t σ H Q →
    wpAny (model X.prog X.w) X.A (forIn ifs true fun c r => if r = true then do let ok ← isTrue c X.env (eval c X.env); pure (ForInStep.yield ok) else pure (ForInStep.yield r)) (TP X pins σ Q) X.xe s
def tYes : TT := fun _ H Q => Q true H
theorem pts_nil {X : Cx} : PTs X [] tYes := fun _ _ _ H _ I h => wpAny_tests_nil ⟨H, I, h⟩
theorem pts_one {X : Cx} {c : Expr} {t : TT} (h : PT X c t) : PTs X [c] t := fun pins s σ H Q I q => wpAny_tests_one (h pins s σ H Q I q)
section
variable {X : Cx}
theorem pe_comp {scope : Scope} {x : Str} {ys : List Str} {js : List Nat} {iter elt : Expr} {ifs : List Expr} {wi : TI} {tt : TT} {te : TE} {px pos : Pos} (ok : CompOk X scope x ys js) (hc : X.calm = true) (hi : PI X (.Name x px) iter wi)
    (ht : ∀ C s3 H3 fp, PTs (compCx X scope C (x :: ys) s3 H3 fp) ifs tt) (he : ∀ C s3 H3 fp, PE (compCx X scope C (x :: ys) s3 H3 fp) elt te)
    (hs : ∀ x, foldedSetIterable iter X.env x = pure x := by intro _; rfl) : PE X (.ListComp elt [⟨.Name x px, iter, ifs, 0⟩] scope pos) (tComp wi js tt te) := by
  intro pins s σ H Q I h
  have lk : ∀ y ∈ scope.names, y.2 = .free → ∃ c, X.env.cells.lookup y.1 = some c := fun y hy e => I.ok.has y.1 (ok.free y hy e)
  rw [eval_ListComp]
  refine wpAny_comprehension_free (use := none) rfl hs (closure_eq lk) ok.kind ok.names (thn (hi pins s σ H _ I h) fun v s1 h1 => thn h1 fun itv s2 h2 => ?_)
  obtain ⟨it, fp, tn, J, H2, e, I2, T, st2, f2, W⟩ := h2
  subst e
  refine wpAny_newList ?_ (Nat.zero_le _)
  have hD : H2 s2.heap.objs.size = none := I2.hok.fresh (Nat.le_refl _)
  obtain ⟨W, ⟨m0, w0⟩, turn⟩ := W s2.heap.objs.size hD
  have I3 : Inv X pins σ (upd H2 s2.heap.objs.size (.lst [])) { s2 with heap := s2.heap.push { cls := .type "list", data := .seq ([] : List Value).toArray } } :=
    I2.laid (t' := s2.toks) (o := .lst []) (fun b ob q => Heap.get?_push_of_some _ q) (Nat.le_refl _) ⟨Nat.zero_le _, [], 0, .nil, Heap.get?_push_size _ rfl⟩
  have up : ∀ b ob, s2.heap.get? b = some ob → (s2.heap.push { cls := .type "list", data := .seq ([] : List Value).toArray }).get? b = some ob := fun b ob q => Heap.get?_push_of_some _ q
  have hD3 : (upd H2 s2.heap.objs.size (.lst [])) s2.heap.objs.size = some (.lst []) := upd_same
  have f3 : ∀ b ∈ fp, FpOk X pins (upd H2 s2.heap.objs.size (.lst [])) b ∧ b < (s2.heap.push { cls := .type "list", data := .seq ([] : List Value).toArray }).objs.size := fun b hb => by
    obtain ⟨o, e, _⟩ := T.obj _ _ st2 b hb
    have lt := Heap.lt_size e
    exact ⟨⟨by rw [upd_ne (Nat.ne_of_lt lt)]; exact (f2 b hb).1, (f2 b hb).2⟩, Heap.lt_size (up b o e)⟩
  have st3 : tn 0 (s2.heap.push { cls := .type "list", data := .seq ([] : List Value).toArray }) := T.keep _ _ _ st2 fun b _ o e => up b o e
  generalize hs3 : ({ s2 with heap := s2.heap.push { cls := .type "list", data := .seq ([] : List Value).toArray } } : Shared) = s3 at I3
  have eh : s2.heap.push { cls := .type "list", data := .seq ([] : List Value).toArray } = s3.heap := by rw [← hs3]
  rw [eh] at f3 st3
  generalize upd H2 s2.heap.objs.size (.lst []) = H3 at I3 f3 hD3 w0
  generalize s2.heap.objs.size = D at hD3 turn w0
  refine wpAny_newFunctionEnv ok.nocell (by intro y hy; cases hy) (fun h4 hns4 hsb4 => ?_) ok.kind
  have k4 : ∀ b o, s3.heap.get? b = some o → h4.get? b = some o := fun b o e => (hsb4.2 b (Nat.ne_of_lt (Heap.lt_size e))).trans (Heap.get?_push_of_some _ e)
  have I4 := comp_start (js := js) (t4 := s3.toks + ([] : List (Str × Value)).length) ok I3 f3 hns4 k4
  have st4 : tn 0 h4 := T.keep _ _ _ st3 fun b _ o e => k4 b o e
  have fpk : ∀ {H' : Hp}, (∀ b ∈ fp, H' b = none) → ∀ b ∈ fp, FpOk (compCx X scope s3.heap.objs.size (x :: ys) s3 H3 fp) [] H' b := fun hn b hb =>
    ⟨hn b hb, (I4.ok.exf b hb).1, I4.ok.exfs b hb, .inl hb, (I4.ok.exf b hb).2, fun p hp => (by cases hp)⟩
  have own' : (relabel scope X.env).names.lookup x = some .local := lookup_relabel_local ok.own
  have loop : codeAny (model X.prog X.w) X.A (.compLoop (.ListComp elt [⟨.Name x px, iter, ifs, 0⟩] scope pos) 0 (.ref it) (.ref D) (compEnvC scope (clo X.env scope.names []) s3.heap.objs.size X.env))
      (compPost (model X.prog X.w) X.A X.xe none (EP X pins σ Q) (.ref D) s3.heap.objs.size) { s3 with heap := h4, toks := s3.toks + ([] : List (Str × Value)).length } := by
    refine codeAny_compLoop_tests (fun n s' => ∃ i o yv H', Inv (compCx X scope s3.heap.objs.size (x :: ys) s3 H3 fp) [] (o :: capt js σ) H' s' ∧ tn i s'.heap ∧ (∀ b ∈ fp, H' b = none) ∧ W i n yv H' ∧ H' D = some (.lst yv)) ?_ m0
      ⟨0, none, [], H3, I4, st4, fun b hb => (f3 b hb).1.1, w0, hD3⟩
    rintro n s5 ⟨i, o, yv, H5, I5, st5, fr5, w5, hD5⟩
    rcases turn i n yv H5 w5 hD5 with ⟨stop, q⟩ | ⟨go, zl, step⟩
    · refine wpAny_mono (T.done (compCx X scope s3.heap.objs.size (x :: ys) s3 H3 fp) rfl rfl rfl hc i [] s5 _ H5 (fun _ _ => False) I5 (fpk fr5) st5 stop) (fun r s6 ⟨hr, I6⟩ => ?_) fun _ _ z => z.elim
      subst hr
      obtain ⟨m6, hn6, _⟩ := id I6.loc
      refine ⟨m6, hn6, fun h' hsb => ⟨.ref D, H5, ?_, rfl, q⟩⟩
      have neC : ∀ {b ob}, s3.heap.get? b = some ob → b ≠ s3.heap.objs.size := fun e => Nat.ne_of_lt (Heap.lt_size e)
      have B := I6.base
      refine I3.call' (ch := fp) I6.os ⟨fun b ob e n hb hx => (hsb.2 b (neC e)).trans (B.keep b ob e n hb hx), fun b ob e n hb hx => ?_, fun b ob e n hx => B.free b ob e n hx, fun b ob e hx => ?_, B.tups, B.frzs, B.tbls⟩ (fun b u e => ?_) I6.bare fun b hb => ⟨(f3 b hb).1.2.2.2.1, (f3 b hb).1.2.1, (f3 b hb).1.2.2.2.2⟩
      · obtain ⟨sl, z⟩ := B.slot b ob e n hb hx
        exact ⟨sl, (hsb.2 b (neC e)).trans z⟩
      · obtain ⟨o', z⟩ := B.there b ob e hx
        exact ⟨o', (hsb.2 b (neC e)).trans z⟩
      · refine (I6.hok b u e).stay (fun c v hcc z => (hsb.2 c fun y => ?_).trans z) (fun _ z => z) (fun _ _ z => z)
        have fC : H5 s3.heap.objs.size = none := I6.free
        rcases hcc with hcc | hcc
        · rw [← hcc, y, fC] at e; cases e
        · rw [y, fC] at hcc; cases hcc
    · refine wpAny_mono (T.item (compCx X scope s3.heap.objs.size (x :: ys) s3 H3 fp) rfl rfl rfl hc i [] s5 _ H5 (fun _ _ => False) I5 (fpk fr5) st5 go) (fun r s6 ⟨u, hr, h6⟩ => ?_) fun _ _ z => z.elim
      subst hr
      have ea : assign (.Name x px) (compEnvC scope (clo X.env scope.names []) s3.heap.objs.size X.env) u = (letOwnedTupleGo (.Name x px) (.ref it) u >>= fun _ => assign (.Name x px) (compEnvC scope (clo X.env scope.names []) s3.heap.objs.size X.env) u) := rfl
      show wpAny (model X.prog X.w) X.A (assign (.Name x px) (compEnvC scope (clo X.env scope.names []) s3.heap.objs.size X.env) u) _ _ s6
      rw [ea]
      refine wpAny_bind (wpAny_mono h6 (fun _ s7 ⟨xv, H7, I7, r7, y7, st7, fr7⟩ => ?_) fun _ _ z => z.elim)
      have I7' := I7.pinned (fpk fr7) (T.obj _ _ st7)
      refine wpAny_mono (pg_name (X := compCx X scope s3.heap.objs.size (x :: ys) s3 H3 fp) (i := 0) (pos := px) ok.nd rfl (Or.inl own') (.inr own') _ s7 _ H7 xv u (fun σ8 H8 => σ8 = some xv :: capt js σ ∧ H8 = H7) I7' r7 ⟨rfl, rfl⟩) (fun _ s8 ⟨σ8, H8, I8, q8⟩ => ?_) fun _ _ z => z.elim
      obtain ⟨rfl, rfl⟩ := q8
      refine wpAny_mono (ht _ _ _ _ _ s8 _ H8 _ I8 (step xv H8 y7)) (fun b s9 ⟨H9, I9, q9⟩ => ?_) fun _ _ z => z.elim
      have again : ∀ {s10 : Shared} {H10 : Hp} {o' : Option V} {zv : List V} {m' : Nat}, Inv (compCx X scope s3.heap.objs.size (x :: ys) s3 H3 fp) ([] ++ pinsAt fp s7.heap) (o' :: capt js σ) H10 s10 → m' < n → W (i + 1) m' zv H10 → H10 D = some (.lst zv) →
          ∃ m', m' < n ∧ ∃ i o yv H', Inv (compCx X scope s3.heap.objs.size (x :: ys) s3 H3 fp) [] (o :: capt js σ) H' s10 ∧ tn i s10.heap ∧ (∀ b ∈ fp, H' b = none) ∧ W i m' yv H' ∧ H' D = some (.lst yv) := fun {s10 H10 o' zv m'} I10 hm w10 hD10 => by
        refine ⟨m', hm, i + 1, o', zv, H10, I10.unpinned, T.keep _ _ _ st7 fun b hb o e => (I10.pin (b, o) (List.mem_append_right _ (List.mem_append_right _ (mem_pinsAt hb e)))).1, fun b hb => ?_, w10, hD10⟩
        obtain ⟨o, e, _⟩ := T.obj _ _ st7 b hb
        exact (I10.pin (b, o) (List.mem_append_right _ (List.mem_append_right _ (mem_pinsAt hb e)))).2.1
      cases b with
      | true =>
        rw [if_pos rfl] at q9 ⊢
        refine wpAny_mono (he _ _ _ _ _ s9 _ H9 _ I9 q9) (fun y s10 ⟨vy, H10, I10, r10, hD10, m', hm, w'⟩ => ?_) fun _ _ z => z.elim
        refine wpAny_mono (mt_append (X := compCx X scope s3.heap.objs.size (x :: ys) s3 H3 fp) _ s10 _ H10 (.ref D) [vy] (.ref D) [y] (fun _ H11 => H11 = upd H10 D (.lst (yv ++ [vy]))) I10 rfl (.cons r10 .nil) ⟨D, yv, vy, rfl, rfl, hD10, zl, rfl⟩)
          (fun _ s11 ⟨_, H11, I11, _, e11⟩ => ?_) fun _ _ z => z.elim
        subst e11
        exact again I11 hm w' upd_same
      | false =>
        rw [if_neg Bool.false_ne_true] at q9 ⊢
        obtain ⟨hD9, m', hm, w'⟩ := q9
        exact again I9 hm w' hD9
  exact codeAny_compStart_list loop (T.self X.A 0 _ _ _ st4 loop)
end

/-! ### the forms one uses -/
theorem i_comp {wi : TI} {js : List Nat} {tt : TT} {te : TE} {σ : St} {H : Hp} {Q : VK} (h : wi σ H (CompEnd' js σ tt te Q)) : tComp wi js tt te σ H Q := h
theorem i_yes {σ : St} {H : Hp} {Q : Bool → Hp → Prop} (h : Q true H) : tYes σ H Q := h
def CmpY (xs : List V) (Pv : Addr → Nat → List V → Hp → Prop) (D : Addr) (i : Nat) (ys : List V) (y : V) (H3 : Hp) : Prop :=
  H3 D = some (.lst ys) ∧ ∃ m', m' < xs.length - i ∧ m' = xs.length - (i + 1) ∧ i + 1 ≤ xs.length ∧ Pv D (i + 1) (ys ++ [y]) (upd H3 D (.lst (ys ++ [y])))
def CmpN (xs : List V) (Pv : Addr → Nat → List V → Hp → Prop) (D : Addr) (i : Nat) (ys : List V) (H2 : Hp) : Prop :=
  H2 D = some (.lst ys) ∧ ∃ m', m' < xs.length - i ∧ m' = xs.length - (i + 1) ∧ i + 1 ≤ xs.length ∧ Pv D (i + 1) ys H2
theorem i_cmpY {xs : List V} {Pv : Addr → Nat → List V → Hp → Prop} {D : Addr} {i : Nat} {ys : List V} {y x : V} {H3 : Hp} (hx : xs[i]? = some x) (hD : H3 D = some (.lst ys)) (p : Pv D (i + 1) (ys ++ [y]) (upd H3 D (.lst (ys ++ [y])))) : CmpY xs Pv D i ys y H3 := by
  have := (List.getElem?_eq_some_iff.mp hx).1
  exact ⟨hD, _, by omega, rfl, this, p⟩
theorem i_cmpN {xs : List V} {Pv : Addr → Nat → List V → Hp → Prop} {D : Addr} {i : Nat} {ys : List V} {x : V} {H2 : Hp} (hx : xs[i]? = some x) (hD : H2 D = some (.lst ys)) (p : Pv D (i + 1) ys H2) : CmpN xs Pv D i ys H2 := by
  have := (List.getElem?_eq_some_iff.mp hx).1
  exact ⟨hD, _, by omega, rfl, this, p⟩
/-- over a list that stays: Pv by the new list, the number of turns and what is made so far -/
theorem i_compL {K : PySem.W.Frag} {a : Addr} {xs : List V} {js : List Nat} {σ : St} {tt : TT} {te : TE} {Q : VK} {H : Hp} (Pv : Addr → Nat → List V → Hp → Prop) (hS : SqL K H a xs) (h0 : ∀ D, H D = none → Pv D 0 [] (upd H D (.lst [])))
    (hl : ∀ D i ys H', i ≤ xs.length → Pv D i ys H' → SqL K H' a xs ∧ ys.length < sizeLine)
    (hs : ∀ D i ys H' x, H D = none → xs[i]? = some x → Pv D i ys H' → H' D = some (.lst ys) → tt (some x :: capt js σ) H' fun b H2 => if b = true then te (some x :: capt js σ) H2 (CmpY xs Pv D i ys) else CmpN xs Pv D i ys H2)
    (hd : ∀ D ys H', H D = none → Pv D xs.length ys H' → H' D = some (.lst ys) → Q (.ref D) H') : ListEnd K (CompEnd' js σ tt te Q) (.ref a) H := by
  refine ⟨a, rfl, ⟨xs, hS⟩, fun D hD => ⟨fun i m ys H' => m = xs.length - i ∧ i ≤ xs.length ∧ Pv D i ys H', ⟨xs.length, by simp, Nat.zero_le _, h0 D hD⟩, ?_⟩⟩
  rintro i m ys H' ⟨rfl, hi, p⟩ hDy
  obtain ⟨q, zl⟩ := hl D i ys H' hi p
  by_cases hlt : i < xs.length
  · refine .inr ⟨⟨xs, xs[i], q, by simp [hlt]⟩, zl, fun x H2 y => ?_⟩
    obtain ⟨e, y⟩ := y
    subst e
    exact hs D i ys _ x hD (y xs q) p hDy
  · have e : i = xs.length := by omega
    subst e
    exact .inl ⟨⟨xs, q, Nat.le_refl _⟩, hd D ys H' hD p hDy⟩
end L2

set_option maxHeartbeats 1000000
/-! The sort's tree of questions, answered by a total order of keys: what comes out is a permutation and rises. -/
namespace Srt
open PySem PySem.W PyProof.Rows
section
variable {O : KeyOrd} {key : Nat → O.α} {n : Nat} {cmp : Nat → Nat → (Bool → Shared → Prop) → Shared → Prop}
def P (key : Nat → O.α) (p : Array Nat) (i : Nat) : O.α := key (p.getD i 0)
structure Good (n : Nat) (p : Array Nat) : Prop where
  pm : p.Perm (List.toArray (List.range n))
  n0 : 0 < n
theorem Good.size {p : Array Nat} (g : Good n p) : p.size = n := by rw [g.pm.size_eq]; simp
theorem Good.lt {p : Array Nat} (g : Good n p) (x : Nat) : p.getD x 0 < n := by
  by_cases h : x < p.size
  · have e : p.getD x 0 = p[x] := by simp [Array.getD, h]
    rw [e]
    have m : p[x] ∈ p := Array.getElem_mem h
    have := (g.pm.mem_iff).mp m
    simpa using this
  · have e : p.getD x 0 = 0 := by simp [Array.getD, h]
    rw [e]; exact g.n0
def Inc (key : Nat → O.α) (p : Array Nat) (m : Nat) : Prop := ∀ i j, i ≤ j → j < m → O.kle (P key p i) (P key p j)
def Dec (key : Nat → O.α) (p : Array Nat) (m : Nat) : Prop := ∀ i j, i ≤ j → j < m → O.kle (P key p j) (P key p i)
theorem inc_succ {p : Array Nat} {m : Nat} (h : Inc key p m) (hl : ∀ x, x + 1 = m → O.kle (P key p x) (P key p m)) : Inc key p (m + 1) := by
  intro i j hij hj
  rcases Nat.lt_or_ge j m with c | c
  · exact h i j hij c
  · have ej : j = m := by omega
    subst ej
    rcases Nat.lt_or_ge i j with d | d
    · obtain ⟨x, rfl⟩ : ∃ x, j = x + 1 := ⟨j - 1, by omega⟩
      exact KeyOrd.kle_trans (h i x (by omega) (by omega)) (hl x rfl)
    · have : i = j := by omega
      subst this; exact KeyOrd.kle_refl _
theorem dec_succ {p : Array Nat} {m : Nat} (h : Dec key p m) (hl : ∀ x, x + 1 = m → O.kle (P key p m) (P key p x)) : Dec key p (m + 1) := by
  intro i j hij hj
  rcases Nat.lt_or_ge j m with c | c
  · exact h i j hij c
  · have ej : j = m := by omega
    subst ej
    rcases Nat.lt_or_ge i j with d | d
    · obtain ⟨x, rfl⟩ : ∃ x, j = x + 1 := ⟨j - 1, by omega⟩
      exact KeyOrd.kle_trans (hl x rfl) (h i x (by omega) (by omega))
    · have : i = j := by omega
      subst this; exact KeyOrd.kle_refl _
theorem getD_of {p q : Array Nat} {i j : Nat} (h : p[i]? = q[j]?) : p.getD i 0 = q.getD j 0 := by
  rw [Array.getD_eq_getD_getElem?, Array.getD_eq_getD_getElem?, h]
theorem rev_at {p : Array Nat} {i j : Nat} (hj : j ≤ p.size) (k : Nat) : P key (kas_rev p i j) k = if i ≤ k ∧ k < j then P key p (i + j - 1 - k) else P key p k := by
  have e := getElem?_mirror_all (i := i) hj k
  unfold P kas_rev
  by_cases c : i ≤ k ∧ k < j
  · rw [if_pos c] at e ⊢; rw [getD_of e]
  · rw [if_neg c] at e ⊢; rw [getD_of e]
theorem Good.rev {p : Array Nat} (g : Good n p) (i j : Nat) : Good n (kas_rev p i j) := ⟨(mirror_perm p i j _).trans g.pm, g.n0⟩
theorem Good.bub {p : Array Nat} (g : Good n p) (i d : Nat) : Good n (bubble p i d) := ⟨(bubble_perm p i d).trans g.pm, g.n0⟩

variable {s : Shared} (hc : ∀ (i j : Nat) (C : Bool → Shared → Prop), i < n → j < n → C (O.blt (key i) (key j)) s → cmp i j C s)
include hc
theorem ask {α : Type} {p : Array Nat} (g : Good n p) {x y : Nat} {k : Bool → KasT α} {Q : α → Shared → Prop}
    (h1 : O.klt (P key p x) (P key p y) → (k true).kasWp cmp Q s) (h2 : O.kle (P key p y) (P key p x) → (k false).kasWp cmp Q s) : (KasT.ask (p.getD x 0) (p.getD y 0) k).kasWp cmp Q s := by
  refine hc _ _ _ (g.lt x) (g.lt y) ?_
  cases e : O.blt (key (p.getD x 0)) (key (p.getD y 0)) with
  | true => exact h1 e
  | false => exact h2 e
theorem asc {p : Array Nat} (g : Good n p) {Q : Nat → Shared → Prop} : ∀ (f m : Nat), 1 ≤ m → m + f = n → Inc key p m →
    (∀ m', m ≤ m' → m' ≤ n → Inc key p m' → (m' < n → O.klt (P key p m') (P key p (m' - 1))) → Q m' s) → (kas_asc p f m).kasWp cmp Q s
  | 0, m, h1, e, hi, k => k m (Nat.le_refl _) (by omega) hi (fun z => by omega)
  | f + 1, m, h1, e, hi, k => by
    refine ask hc g (fun c => ?_) (fun c => ?_)
    · exact k m (Nat.le_refl _) (by omega) hi fun _ => c
    · refine asc g f (m + 1) (by omega) (by omega) (inc_succ hi fun x hx => ?_) fun m' a b => k m' (by omega) b
      have : m - 1 = x := by omega
      rw [this] at c; exact c
def Eqs (key : Nat → O.α) (p : Array Nat) (m q : Nat) : Prop := ∀ x, m ≤ x + (q + 1) → x < m → P key p x = P key p (m - 1)
omit hc in
theorem eqs_rev {p : Array Nat} {m q : Nat} (hm : m ≤ p.size) (hq : q + 1 ≤ m) (h : Eqs key p m q) (x : Nat) : P key (kas_rev p (m - (q + 1)) m) x = P key p x := by
  rw [rev_at hm]
  split
  · rename_i c
    rw [h _ (by omega) (by omega), h x (by omega) (by omega)]
  · rfl
theorem desc {Q : Array Nat × Nat × Nat → Shared → Prop} : ∀ (f : Nat) (p : Array Nat) (m q : Nat), Good n p → m + f = n → Dec key p m → q + 1 ≤ m → Eqs key p m q →
    (∀ p' m' q', Good n p' → m ≤ m' → m' ≤ n → Dec key p' m' → q' + 1 ≤ m' → Eqs key p' m' q' → Q (p', m', q') s) → (kas_desc f p m q).kasWp cmp Q s
  | 0, p, m, q, g, e, hd, hq, he, k => k p m q g (Nat.le_refl _) (by omega) hd hq he
  | f + 1, p, m, q, g, e, hd, hq, he, k => by
    refine ask hc g (fun c => ?_) (fun c => ?_)
    · rw [if_pos rfl]
      have hm : m ≤ p.size := by rw [g.size]; omega
      have dec1 : Dec key p (m + 1) := dec_succ hd fun x hx => by
        have : m - 1 = x := by omega
        rw [this] at c; exact KeyOrd.kle_of_klt c
      by_cases z : q > 0
      · rw [if_pos z]
        have ee := eqs_rev hm hq he
        refine desc f _ (m + 1) 0 (g.rev _ _) (by omega) (fun i j a b => by rw [ee, ee]; exact dec1 i j a b) (by omega) (fun x a b => ?_) fun p' m' q' a b => k p' m' q' a (by omega)
        have : x = m := by omega
        subst this; rfl
      · rw [if_neg z]
        refine desc f p (m + 1) 0 g (by omega) dec1 (by omega) (fun x a b => ?_) fun p' m' q' a b => k p' m' q' a (by omega)
        have : x = m := by omega
        subst this; rfl
    · rw [if_neg (by simp)]
      refine ask hc g (fun d => ?_) (fun d => ?_)
      · rw [if_pos rfl]
        exact k p m q g (Nat.le_refl _) (by omega) hd hq he
      · rw [if_neg (by simp)]
        have eq1 : P key p m = P key p (m - 1) := KeyOrd.kle_antisymm d c
        refine desc f p (m + 1) (q + 1) g (by omega) (dec_succ hd fun x hx => ?_) (by omega) (fun x a b => ?_) fun p' m' q' a b => k p' m' q' a (by omega)
        · have : m - 1 = x := by omega
          rw [this] at d; exact d
        · show P key p x = P key p m
          rcases Nat.lt_or_ge x m with u | u
          · rw [eq1]; exact he x (by omega) u
          · have : x = m := by omega
            subst this; rfl
omit hc in
theorem inc_rev {p : Array Nat} {m : Nat} (hm : m ≤ p.size) (hd : Dec key p m) : Inc key (kas_rev p 0 m) m := by
  intro i j hij hj
  rw [rev_at hm, rev_at hm, if_pos ⟨Nat.zero_le _, by omega⟩, if_pos ⟨Nat.zero_le _, hj⟩]
  exact hd _ _ (by omega) (by omega)
theorem tail3 {p : Array Nat} {m : Nat} {Q : Nat × Array Nat → Shared → Prop} (g : Good n p) (h1 : 1 ≤ m) (hm : m ≤ n) (hd : Dec key p m)
    (k : ∀ m' p', Good n p' → 1 ≤ m' → m' ≤ n → Inc key p' m' → Q (m', p') s) : (kas_tail3 m n p).kasWp cmp Q s := by
  unfold kas_tail3
  rw [KasT.kasWp_bind]
  exact asc hc (g.rev 0 m) (n - m) m h1 (by omega) (inc_rev (by rw [g.size]; exact hm) hd) fun m' a b c _ => k m' _ (g.rev 0 m) (by omega) b c
theorem descPart {p : Array Nat} {m : Nat} {Q : Nat × Array Nat → Shared → Prop} (g : Good n p) (h1 : 1 ≤ m) (hm : m < n) (hd : Dec key p m) (hl : O.klt (P key p m) (P key p (m - 1)))
    (k : ∀ m' p', Good n p' → 1 ≤ m' → m' ≤ n → Inc key p' m' → Q (m', p') s) : (kas_descPart m n p).kasWp cmp Q s := by
  unfold kas_descPart
  rw [KasT.kasWp_bind]
  refine desc hc (n - (m + 1)) p (m + 1) 0 g (by omega) (dec_succ hd fun x hx => ?_) (by omega) (fun x a b => ?_) fun p' m' q' g' a b c d e => ?_
  · have : m - 1 = x := by omega
    rw [this] at hl; exact KeyOrd.kle_of_klt hl
  · have : x = m := by omega
    subst this; rfl
  · show (if q' > 0 then kas_tail3 m' n (kas_rev p' (m' - (q' + 1)) m') else kas_tail3 m' n p').kasWp cmp Q s
    by_cases z : q' > 0
    · rw [if_pos z]
      have ee := eqs_rev (by rw [g'.size]; exact b) d e
      exact tail3 hc (g'.rev _ _) (by omega) b (fun i j u v => by rw [ee, ee]; exact c i j u v) k
    · rw [if_neg z]
      exact tail3 hc g' (by omega) b c k
theorem count {p : Array Nat} {Q : Nat × Array Nat → Shared → Prop} (g : Good n p) (k : ∀ m' p', Good n p' → 1 ≤ m' → m' ≤ n → Inc key p' m' → Q (m', p') s) : (kas_count n p).kasWp cmp Q s := by
  have n0 := g.n0
  unfold kas_count
  rw [KasT.kasWp_bind]
  refine asc hc g (n - 1) 1 (Nat.le_refl _) (by omega) (fun i j a b => ?_) fun m a b hi hl => ?_
  · have : i = j := by omega
    subst this; exact KeyOrd.kle_refl _
  · by_cases e : m = n
    · rw [if_pos (by simp [e])]
      exact k m p g a b hi
    · rw [if_neg (by simp [e])]
      have hl := hl (by omega)
      by_cases z : m > 1
      · rw [if_pos z]
        refine ask hc g (fun c => ?_) (fun c => ?_)
        · rw [if_pos rfl]
          exact k m p g a b hi
        · rw [if_neg (by simp)]
          -- all keys of the run are equal
          have al : ∀ x, x < m → P key p x = P key p (m - 1) := fun x hx => KeyOrd.kle_antisymm (hi x (m - 1) (by omega) (by omega)) (KeyOrd.kle_trans c (hi 0 x (Nat.zero_le _) hx))
          have hm : m ≤ p.size := by rw [g.size]; exact b
          have rv : ∀ x, P key (kas_rev p 0 m) x = P key p x := fun x => by
            rw [rev_at hm]
            split
            · rename_i q
              rw [al _ (by omega), al x q.2]
            · rfl
          refine descPart hc (g.rev 0 m) a (by omega) (fun i j u v => ?_) (by rw [rv, rv]; exact hl) k
          rw [rv, rv, al i (by omega), al j v]; exact KeyOrd.kle_refl _
      · rw [if_neg z]
        refine descPart hc g a (by omega) (fun i j u v => ?_) hl k
        have : i = j := by omega
        subst this; exact KeyOrd.kle_refl _
theorem place {p : Array Nat} {kk : Nat} {Q : Nat → Shared → Prop} (g : Good n p) (hi : Inc key p kk) : ∀ (f l r : Nat), l ≤ r → r ≤ kk → r - l ≤ f →
    (∀ x, x < l → O.kle (P key p x) (P key p kk)) → (∀ x, r ≤ x → x < kk → O.klt (P key p kk) (P key p x)) →
    (∀ l', l' ≤ kk → (∀ x, x < l' → O.kle (P key p x) (P key p kk)) → (∀ x, l' ≤ x → x < kk → O.klt (P key p kk) (P key p x)) → Q l' s) → (kas_place p kk f l r).kasWp cmp Q s
  | 0, l, r, h1, h2, h3, ha, hb, k => k l (by omega) ha fun x a b => hb x (by omega) b
  | f + 1, l, r, h1, h2, h3, ha, hb, k => by
    show (if l ≥ r then KasT.ret l else _).kasWp cmp Q s
    by_cases z : l ≥ r
    · rw [if_pos z]
      exact k l (by omega) ha fun x a b => hb x (by omega) b
    · rw [if_neg z]
      refine ask hc g (fun c => ?_) (fun c => ?_)
      · rw [if_pos rfl]
        refine place g hi f l ((l + r) / 2) (by omega) (by omega) (by omega) ha (fun x a b => ?_) k
        exact KeyOrd.klt_of_klt_of_kle c (hi _ _ a b)
      · rw [if_neg (by simp)]
        refine place g hi f ((l + r) / 2 + 1) r (by omega) h2 (by omega) (fun x a => ?_) hb k
        exact KeyOrd.kle_trans (hi x ((l + r) / 2) (by omega) (by omega)) c
omit hc in
theorem bub_at {p : Array Nat} {src d : Nat} (hs : src < p.size) (hd : d ≤ src) (k : Nat) : P key (bubble p src d) k = if k = src - d then P key p src else if src - d < k ∧ k ≤ src then P key p (k - 1) else P key p k := by
  have e := getElem?_bubble hs d hd k
  unfold P
  by_cases c : k = src - d
  · rw [if_pos c] at e ⊢; rw [getD_of e]
  · rw [if_neg c] at e ⊢
    by_cases q : src - d < k ∧ k ≤ src
    · rw [if_pos q] at e ⊢; rw [getD_of e]
    · rw [if_neg q] at e ⊢; rw [getD_of e]
omit hc in
theorem inc_bub {p : Array Nat} {kk l : Nat} (hs : kk < p.size) (hl : l ≤ kk) (hi : Inc key p kk) (ha : ∀ x, x < l → O.kle (P key p x) (P key p kk)) (hb : ∀ x, l ≤ x → x < kk → O.klt (P key p kk) (P key p x)) :
    Inc key (bubble p kk (kk - l)) (kk + 1) := by
  intro i j hij hj
  rw [bub_at hs (by omega), bub_at hs (by omega)]
  have el : kk - (kk - l) = l := by omega
  rw [el]
  by_cases c1 : i = l
  · rw [if_pos c1]
    by_cases c2 : j = l
    · rw [if_pos c2]; exact KeyOrd.kle_refl _
    · rw [if_neg c2, if_pos ⟨by omega, by omega⟩]
      exact KeyOrd.kle_of_klt (hb _ (by omega) (by omega))
  · rw [if_neg c1]
    by_cases c3 : l < i ∧ i ≤ kk
    · rw [if_pos c3, if_neg (by omega), if_pos ⟨by omega, by omega⟩]
      exact hi _ _ (by omega) (by omega)
    · rw [if_neg c3]
      by_cases c2 : j = l
      · rw [if_pos c2]; exact ha i (by omega)
      · rw [if_neg c2]
        by_cases c4 : l < j ∧ j ≤ kk
        · rw [if_pos c4]
          exact hi _ _ (by omega) (by omega)
        · rw [if_neg c4]
          exact hi _ _ hij (by omega)
theorem bin {Q : Array Nat → Shared → Prop} : ∀ (f : Nat) (p : Array Nat) (kk : Nat), Good n p → kk + f = n → Inc key p kk → (∀ p', Good n p' → Inc key p' n → Q p' s) → (kas_bin f p kk).kasWp cmp Q s
  | 0, p, kk, g, e, hi, k => k p g (by have : kk = n := by omega
                                       rw [← this]; exact hi)
  | f + 1, p, kk, g, e, hi, k => by
    show ((kas_place p kk kk 0 kk).bind fun l => kas_bin f (bubble p kk (kk - l)) (kk + 1)).kasWp cmp Q s
    rw [KasT.kasWp_bind]
    refine place hc g hi kk 0 kk (Nat.zero_le _) (Nat.le_refl _) (by omega) (fun x a => by omega) (fun x a b => by omega) fun l a ha hb => ?_
    exact bin f _ (kk + 1) (g.bub _ _) (by omega) (inc_bub (by rw [g.size]; omega) a hi ha hb) k
theorem sort {Q : Array Nat → Shared → Prop} (n0 : 0 < n) (k : ∀ p, Good n p → Inc key p n → Q p s) : (kas_sort n).kasWp cmp Q s := by
  unfold kas_sort
  rw [KasT.kasWp_bind]
  refine count hc ⟨Array.Perm.refl _, n0⟩ fun m p g a b hi => ?_
  show (if m < n then kas_bin (n - max m 1) p (max m 1) else KasT.ret p).kasWp cmp Q s
  have em : max m 1 = m := by omega
  by_cases z : m < n
  · rw [if_pos z, em]
    exact bin hc (n - m) p m g (by omega) hi k
  · rw [if_neg z]
    have : m = n := by omega
    subst this
    exact k p g hi
end
end Srt

set_option Elab.async false
set_option linter.all false
set_option maxRecDepth 100000
set_option maxHeartbeats 4000000
namespace L2
open PySem PySem.Spec PyProof.Rows PySem.W
theorem lex_irrefl : ∀ a : List Int, HT.lexLt a a = false
  | [] => rfl
  | x :: xs => by rw [HT.lexLt_cons, if_pos rfl]; exact lex_irrefl xs
theorem lex_trans : ∀ a b c : List Int, HT.lexLt a b = true → HT.lexLt b c = true → HT.lexLt a c = true
  | [], [], _, h, _ => by cases h
  | [], _ :: _, [], _, h => by cases h
  | [], _ :: _, _ :: _, _, _ => rfl
  | _ :: _, [], _, h, _ => by cases h
  | _ :: _, _ :: _, [], _, h => by cases h
  | x :: xs, y :: ys, z :: zs, h, g => by
    rw [HT.lexLt_cons] at h g ⊢
    by_cases e1 : x = y
    · rw [if_pos e1] at h
      by_cases e2 : y = z
      · rw [if_pos e2] at g; rw [if_pos (e1.trans e2)]; exact lex_trans xs ys zs h g
      · rw [if_neg e2] at g; rw [e1, if_neg e2]; exact g
    · rw [if_neg e1] at h
      by_cases e2 : y = z
      · rw [← e2, if_neg e1]; exact h
      · rw [if_neg e2] at g
        have h' := of_decide_eq_true h
        have g' := of_decide_eq_true g
        rw [if_neg (by omega)]
        exact decide_eq_true (by omega)
theorem lex_neg : ∀ a b c : List Int, HT.lexLt a c = true → HT.lexLt a b = true ∨ HT.lexLt b c = true
  | [], [], [], h => by cases h
  | [], [], _ :: _, h => .inr h
  | [], _ :: _, _, _ => .inl rfl
  | _ :: _, _, [], h => by cases h
  | _ :: _, [], _ :: _, _ => .inr rfl
  | x :: xs, y :: ys, z :: zs, h => by
    rw [HT.lexLt_cons] at h ⊢
    rw [HT.lexLt_cons]
    by_cases e : x = z
    · rw [if_pos e] at h
      by_cases e1 : x = y
      · rw [if_pos e1, if_pos (by omega)]; exact lex_neg xs ys zs h
      · rw [if_neg e1, if_neg (by omega)]
        rcases Int.lt_or_lt_of_ne e1 with q | q
        · exact .inl (decide_eq_true q)
        · exact .inr (decide_eq_true (by omega))
    · rw [if_neg e] at h
      have h' := of_decide_eq_true h
      by_cases e1 : x = y
      · rw [if_pos e1, if_neg (by omega)]; exact .inr (decide_eq_true (by omega))
      · rw [if_neg e1]
        by_cases q : x < y
        · exact .inl (decide_eq_true q)
        · right
          rw [if_neg (by omega)]; exact decide_eq_true (by omega)
theorem lex_total : ∀ a b : List Int, HT.lexLt a b = false → HT.lexLt b a = false → a = b
  | [], [], _, _ => rfl
  | [], _ :: _, h, _ => by cases h
  | _ :: _, [], _, h => by cases h
  | x :: xs, y :: ys, h, g => by
    rw [HT.lexLt_cons] at h g
    by_cases e : x = y
    · subst e
      rw [if_pos rfl] at h g
      rw [lex_total xs ys h g]
    · rw [if_neg e] at h
      rw [if_neg (fun z => e z.symm)] at g
      have h' := of_decide_eq_false h
      have g' := of_decide_eq_false g
      omega
def lexOrd : PyProof.Rows.KeyOrd where
  α := List Int
  blt := HT.lexLt
  irrefl := lex_irrefl
  trans := lex_trans
  negTrans := lex_neg
  total := lex_total
section
variable {prog : Program} {w : World} {A : Around} {s : Shared} {Q : Bool → Shared → Prop}
theorem lex_ints : ∀ {ns ms : List Int} {us ws : List Value} {i : Nat}, IntsAre us ns → IntsAre ws ms → Q (HT.lexLt ns ms) s → KatLex prog w A true (decide (us.length < ws.length)) Q (us.zip ws) i s
  | _, _, _, _, _, .nil, .nil, h => kat_nil h
  | _, _, _, _, _, .nil, .cons _ _ _, h => kat_nil h
  | _, _, _, _, _, .cons n t r, .nil, h => by
    refine kat_nil ?_
    rw [List.length_nil, decide_eq_false (Nat.not_lt_zero _)]
    exact h
  | _, _, _, _, i, .cons n t r, .cons m u q, h => by
    refine kat_cons (wpAny_eqBool_int ?_)
    refine kat_go (fun e => kat_yes ?_) (fun e => kat_no ?_)
    · have e' : n = m := eq_of_beq e
      rw [HT.lexLt_cons, if_pos e'] at h
      have z := lex_ints (i := i + 1) r q h
      have e2 : ∀ a b : Nat, decide (a + 1 < b + 1) = decide (a < b) := fun a b => by
        by_cases q : a < b
        · rw [decide_eq_true q, decide_eq_true (by omega)]
        · rw [decide_eq_false q, decide_eq_false (by omega)]
      rw [List.length_cons, List.length_cons, e2]
      exact z
    · have e' : ¬ n = m := fun z => by rw [z] at e; simp at e
      rw [HT.lexLt_cons, if_neg e'] at h
      cases c : (true && i == 0) with
      | true => exact oneLt_int h
      | false => exact kat_one _ _ (lt_int h)
end

theorem ObjOk.here {P : Program} {w : World} {H : Hp} {h : Heap} {a : Addr} : ∀ {o : HO}, ObjOk P w H h a o → ∃ ob, h.get? a = some ob
  | .lst _, ⟨_, _, _, _, e⟩ => ⟨_, e⟩
  | .tup _, ⟨_, _, _, ob, e, _⟩ => ⟨ob, e⟩
  | .dK _, ⟨_, _, _, _, ob, _, _, e, _⟩ => ⟨ob, e⟩
  | .dT _, ⟨_, _, _, _, ob, _, _, e, _⟩ => ⟨ob, e⟩
  | .set _ _, ⟨ob, _, _, _, e, _⟩ => ⟨ob, e⟩
  | .ins _ _ _, ⟨_, _, _, e, _⟩ => ⟨_, e⟩
  | .own _, ⟨ob, e⟩ => ⟨ob, e⟩
  | .xd _, ⟨_, ⟨ob, _, _, e, _⟩, _⟩ => ⟨ob, e⟩
  | .rng _ _, ⟨_, _, _, e⟩ => ⟨_, e⟩
  | .frz ob _, ⟨e, _⟩ => ⟨ob, e⟩
  | .tbl _, e => ⟨_, e⟩
  | .met _ _, e => ⟨_, e⟩
  | .ext _, ⟨_, e, _⟩ => e
section
variable {X : Cx} {pins : List (Addr × Obj)} {σ : St} {H : Hp} {s : Shared}
/-- behind a rule that keeps every object but the frame's own, whose map stays; D is new -/
theorem Inv.led {D : Addr} {o : HO} {h2 : Heap} {m : Str → Option Value} {t' : Nat} (I : Inv X pins σ H s) (hn : s.heap.Ns X.env.locals m) (hn2 : h2.Ns X.env.locals m)
    (keep : ∀ b ob, b ≠ X.env.locals → s.heap.get? b = some ob → h2.get? b = some ob) (hD : s.heap.get? D = none) (new : ObjOk X.prog X.w (upd H D o) h2 D o) :
    Inv X pins σ (upd H D o) { s with heap := h2, toks := t' } := by
  have HD : H D = none := by
    cases q : H D with
    | none => rfl
    | some u =>
      obtain ⟨ob, e⟩ := (I.hok D u q).here
      rw [hD] at e; cases e
  have nD : ∀ {b ob}, s.heap.get? b = some ob → b ≠ D := fun {b ob} e z => by rw [z, hD] at e; cases e
  refine I.step (g' := s.gens) (d' := s.drawn) (ch := []) (fun _ z => nomatch z) (fun b o h1 _ _ e _ => keep b o h1 e) (fun b o h1 _ _ e _ => ⟨o.slots, keep b o h1 e⟩)
    (fun b o _ e hb => by rw [upd_ne (nD e)]; exact hb) (fun b o _ e => ?_) (fun b xs e => by rw [upd_ne (ne_of_none e HD)]; exact e) (fun b o u e => by rw [upd_ne (ne_of_none e HD)]; exact e)
    (fun b ps e => ⟨#[], by rw [upd_ne (ne_of_none e HD), e]; simp⟩) (fun m' hm' => ?_) (fun b u e => ?_) I.bare
  · by_cases q : b = X.env.locals
    · obtain ⟨o', _, _, e', _⟩ := hn2
      exact ⟨o', by rw [q]; exact e'⟩
    · exact ⟨o, keep b o q e⟩
  · have z : m' = m := funext fun x => hm'.agree hn x
    rw [z]; exact hn2
  · by_cases q : b = D
    · subst q
      rw [upd_same] at e
      cases e
      exact new
    · rw [upd_ne q] at e
      refine (I.hok b u e).stay (fun c v hc z => keep c v (fun y => ?_) z) (fun c z => by rw [upd_ne (ne_of_none z HD)]; exact z) (fun c xs z => by rw [upd_ne (ne_of_none z HD)]; exact z)
      rcases hc with hc | hc
      · rw [← hc, y, I.free] at e; cases e
      · rw [y, I.free] at hc; cases hc
end
/-! ### sorted(xs) of tuples of ints -/
def eI {β : Type} (enc : β → List Int) (b : β) : List V := (enc b).map V.int
def rSort {β : Type} (enc : β → List Int) (K : PySem.W.Frag) : List V → Hp → VK → Prop := fun vs H Q => ∃ (l : Addr) (xs : List V) (bs : List β), vs = [.ref l] ∧ SqL K H l xs ∧ TupsAt (eI enc) H xs bs ∧ xs.length < 64 ∧
  ∀ (p : Addr) (ys : List V) (cs : List β), H p = none → TupsAt (eI enc) H ys cs → cs.Perm bs → cs.Pairwise (fun a b => HT.lexLt (enc b) (enc a) = false) → Q (.ref p) (upd H p (.lst ys))
theorem vals_refs {β : Type} {enc : β → List V} {H : Hp} : ∀ {xs : List V} {bs : List β} {us : List Value}, TupsAt enc H xs bs → Vals xs us → ∀ (i : Nat) (b : β), bs[i]? = some b → ∃ a, us[i]? = some (.ref a) ∧ H a = some (.tup (enc b))
  | xs, bs, us, t, r, i, b, e => by
    obtain ⟨a, e1, ha⟩ := t.getB e
    obtain ⟨u, e2, ru⟩ := r.get e1
    cases (show u = Value.ref a from ru)
    exact ⟨a, e2, ha⟩
end L2
namespace L2
open PySem PySem.Spec PyProof.Rows PySem.W
theorem relV_getD {xs : List V} {us : List Value} (r : Vals xs us) (i : Nat) : RelV (xs.getD i .non) (us.getD i .none) := by
  rw [List.getD_eq_getElem?_getD, List.getD_eq_getElem?_getD]
  cases e : xs[i]? with
  | none =>
    rw [r.none_of e]
    exact rfl
  | some x =>
    obtain ⟨u, e2, ru⟩ := r.get e
    rw [e2]
    exact ru
theorem vals_pick {xs : List V} {us : List Value} (r : Vals xs us) : ∀ idx : List Nat, Vals (idx.map fun i => xs.getD i .non) (idx.map fun i => us.getD i .none)
  | [] => .nil
  | i :: idx => .cons (relV_getD r i) (vals_pick r idx)
theorem tups_pick {β : Type} {enc : β → List V} {H : Hp} {xs : List V} {bs : List β} (t : TupsAt enc H xs bs) (d : β) : ∀ idx : List Nat, (∀ i ∈ idx, i < bs.length) → TupsAt enc H (idx.map fun i => xs.getD i .non) (idx.map fun i => bs.getD i d)
  | [], _ => trivial
  | i :: idx, h => by
    have hi := h i (.head _)
    obtain ⟨a, e, ha⟩ := t.getB (List.getElem?_eq_getElem hi)
    refine ⟨⟨a, ?_, ?_⟩, tups_pick t d idx fun j hj => h j (.tail _ hj)⟩
    · show xs.getD i V.non = V.ref a
      rw [List.getD_eq_getElem?_getD, e]; rfl
    · show H a = some (HO.tup (enc (bs.getD i d)))
      rw [List.getD_eq_getElem?_getD, List.getElem?_eq_getElem hi]; exact ha
theorem range_pick {β : Type} (bs : List β) (d : β) : (List.range bs.length).map (fun i => bs.getD i d) = bs := by
  refine List.ext_getElem? fun i => ?_
  rw [List.getElem?_map]
  by_cases h : i < bs.length
  · rw [List.getElem?_eq_getElem h, List.getElem?_eq_getElem (by simpa using h)]
    simp [h]
  · rw [List.getElem?_eq_none (by rw [List.length_range]; omega), List.getElem?_eq_none (by omega)]; rfl
/-- the heap bears the tuples' ints -/
theorem kat_of {β : Type} {enc : β → List Int} (hne : ∀ b, enc b ≠ []) {H : Hp} {h : Heap} (hb : ∀ a zs, H a = some (.tup zs) → ∃ arr : List Value, Vals zs arr ∧ IsTup h a arr.toArray) :
    ∀ {xs : List V} {bs : List β} {us : List Value}, TupsAt (eI enc) H xs bs → Vals xs us → ∃ fs, KatTups h us fs ∧ fs.length = us.length ∧ ∀ f ∈ fs, ∃ i t, f = .int i t
  | [], [], _, _, .nil => ⟨[], KatTups.nil, rfl, fun f hf => by cases hf⟩
  | [], _ :: _, _, t, _ => t.elim
  | _ :: _, [], _, t, _ => t.elim
  | x :: xs, b :: bs, u :: us, ⟨⟨a, ex, ha⟩, t⟩, .cons r rs => by
    obtain ⟨fs, k, kl, kf⟩ := kat_of hne hb t rs
    subst ex
    cases (show u = Value.ref a from r)
    obtain ⟨arr, va, o, ho, hc, n, hd⟩ := hb a _ ha
    cases eb : enc b with
    | nil => exact absurd eb (hne b)
    | cons i rest =>
      unfold eI at va
      rw [eb, List.map_cons] at va
      cases va with
      | @cons _ v _ vs r2 rs2 =>
        obtain ⟨ti, ev⟩ := r2
        exact ⟨v :: fs, KatTups.cons ho hc hd (by simp) k, by rw [List.length_cons, List.length_cons, kl], fun f hf => by
          rcases List.mem_cons.mp hf with e | hf'
          · exact ⟨i, ti, e.trans ev⟩
          · exact kf f hf'⟩
section
variable {X : Cx}
def keyAt {β : Type} (enc : β → List Int) (bs : List β) (d : β) (i : Nat) : List Int := enc (bs.getD i d)
theorem sorted_many {β : Type} (enc : β → List Int) (hne : ∀ b, enc b ≠ []) {pins : List (Addr × Obj)} {s : Shared} {σ : St} {H : Hp} {Q : VK} (I : Inv X pins σ H s) {l : Addr} {xs : List V} {bs : List β} (hS : SqL X.K H l xs) (ht : TupsAt (eI enc) H xs bs) (h64 : xs.length < 64) (h2 : 2 ≤ xs.length)
    (k : ∀ (p : Addr) (ys : List V) (cs : List β), H p = none → TupsAt (eI enc) H ys cs → cs.Perm bs → cs.Pairwise (fun a b => HT.lexLt (enc b) (enc a) = false) → Q (.ref p) (upd H p (.lst ys))) :
    wpAny (model X.prog X.w) X.A (call (.builtin "sorted") [.ref l]) (EP X pins σ Q) X.xe s := by
  obtain ⟨its, rv, pl, hz⟩ := I.list hS
  have hlen := rv.length
  have htl := ht.length
  obtain ⟨m, hn, _⟩ := id I.loc
  have d : β := bs[0]'(by omega)
  refine kat_sorted (Att.fr_all hn) (news_all (g := Att.noObjs s.heap)) pl.isList (by omega) (by omega) fun D e1 h' F' N' hlt => ?_
  have kept : ∀ b ob, b ≠ X.env.locals → s.heap.get? b = some ob → h'.get? b = some ob := fun b ob hb e => (N' (b, ob) (List.mem_cons_of_mem _ (mem_allNews hb (Att.noObjs_get _ _) e))).1
  have hDL : D ≠ X.env.locals := (N' (D, _) List.mem_cons_self).2.1
  have hD : s.heap.get? D = none := by
    cases q : s.heap.get? D with
    | none => rfl
    | some ob => exact absurd (hlt (D, ob) (mem_allNews hDL (Att.noObjs_get _ _) q)) (Nat.lt_irrefl _)
  have tupsIn : ∀ a zs, H a = some (.tup zs) → ∃ arr : List Value, Vals zs arr ∧ IsTup h' a arr.toArray := fun a zs e => by
    obtain ⟨_, arr, va, o, ho, hc⟩ := I.hok a _ e
    exact ⟨arr, va, o, kept a o (fun z => by rw [z, I.free] at e; cases e) ho, hc⟩
  obtain ⟨fs, kt, kl, kf⟩ := kat_of hne tupsIn ht rv
  refine kat_kind (T := .type "int") kt (by omega) (fun v hv => ?_) (by decide) ?_
  · obtain ⟨i, t, rfl⟩ := kf v hv
    exact Looks.of_pure rfl
  have eT : (Value.type "int" != Value.type "tuple") = true := by decide
  rw [eT]
  have getR : ∀ i, i < its.length → ∃ a arr, its.getD i Value.none = .ref a ∧ IsTup h' a arr.toArray ∧ IntsAre arr (keyAt enc bs d i) := fun i hi => by
    have hb : bs[i]? = some (bs.getD i d) := by
      rw [List.getD_eq_getElem?_getD, List.getElem?_eq_getElem (by omega)]; rfl
    obtain ⟨a, ea, ha⟩ := vals_refs ht rv i _ hb
    obtain ⟨arr, va, tu⟩ := tupsIn a _ ha
    exact ⟨a, arr, by rw [List.getD_eq_getElem?_getD, ea]; rfl, tu, intsAre_of va⟩
  refine Srt.sort (O := lexOrd) (key := keyAt enc bs d) (fun i j C hi hj hC => ?_) (by omega) fun p g inc => ?_
  · obtain ⟨a, arr, ea, ⟨oa, ha, _, na, da⟩, ia⟩ := getR i hi
    obtain ⟨b, brr, eb, ⟨ob, hb, _, nb, db⟩, ib⟩ := getR j hj
    unfold kas_ask
    rw [ea, eb]
    refine kat_lt ha da hb db ?_
    have z := lex_ints (prog := X.prog) (w := X.w) (A := X.A.in1.in1) (i := 0) (Q := C) ia ib hC
    simpa using z
  · refine KasFin.intro F' N' (.head fun q hq => Nat.ne_of_lt (hlt q hq)) fun h2' c F2 N2 => ?_
    have HD : H D = none := by
      cases q : H D with
      | none => rfl
      | some u =>
        obtain ⟨ob, e⟩ := (I.hok D u q).here
        rw [hD] at e; cases e
    have gl : ∀ i ∈ p.toList, i < bs.length := fun i hi => by
      have := g.pm.mem_iff.mp (by simpa using hi : i ∈ p)
      simp at this
      omega
    have gp : p.toList.Perm (List.range bs.length) := by
      have z := g.pm.toList
      have e : its.length = bs.length := by omega
      rw [e] at z
      exact z
    refine ⟨.ref D, upd H D (.lst (p.toList.map fun i => xs.getD i .non)), I.led hn F2.ns (fun b ob hb e => (N2 (b, ob) (List.mem_cons_of_mem _ (mem_allNews hb (Att.noObjs_get _ _) e))).1) hD ?_, rfl,
      k D _ (p.toList.map fun i => bs.getD i d) HD (tups_pick ht d _ gl) ?_ ?_⟩
    · refine ⟨?_, p.toList.map (fun i => its.getD i Value.none), c, vals_pick rv _, (N2 (D, _) List.mem_cons_self).1⟩
      rw [List.length_map]
      have := gp.length_eq
      rw [List.length_range] at this
      omega
    · have z := gp.map (fun i => bs.getD i d)
      rw [range_pick] at z
      exact z
    · rw [List.pairwise_map]
      refine List.pairwise_iff_getElem.mpr fun i j hi hj hij => ?_
      have sz := g.size
      have z := inc i j (Nat.le_of_lt hij) (by simpa [sz] using hj)
      have e1 : p.getD i 0 = p.toList[i] := by
        rw [Array.getD_eq_getD_getElem?, Array.getElem?_eq_getElem (by simpa using hi)]; simp
      have e2 : p.getD j 0 = p.toList[j] := by
        rw [Array.getD_eq_getD_getElem?, Array.getElem?_eq_getElem (by simpa using hj)]; simp
      unfold Srt.P at z
      rw [e1, e2] at z
      exact z
end
end L2
namespace L2
open PySem PySem.Spec PyProof.Rows PySem.W
section
variable {prog : Program} {w : World} {A : Around} {E : Value → Shared → Prop} {s : Shared}
/-- list.sort of at most one item -/
theorem sort_few {a : Addr} {vs : List Value} {n : Nat} {P : PySem.Fin → Shared → Prop} (ho : s.heap.get? a = some (seqObj "list" vs.toArray n)) (h1 : vs.length < 2)
    (h : P (.done (.ret .none)) { s with heap := sortedHeap s.heap a vs vs.toArray }) : wpAny (model prog w) A (Builtin.«list.sort» ⟨[.ref a], []⟩) P E s := by
  have la := Heap.lt_size ho
  have z1 : vs.toArray.size < 2 := by rw [List.size_toArray]; exact h1
  have zl : vs.length ≤ sizeLine := Nat.le_of_lt (small1000 (by omega))
  obtain ⟨e1, o1⟩ : ∃ e1, (s.heap.update a (Obj.mapSeq fun _ => #[])).get? a = some (seqObj "list" #[] e1) := ⟨_, get?_update_seq ho fun _ => #[]⟩
  have o2 : (((s.heap.update a (Obj.mapSeq fun _ => #[])).push (seqObj "tuple" vs.toArray 0)).push (seqObj "list" #[] 0)).get? a = some (seqObj "list" #[] e1) :=
    Heap.get?_push_of_some _ (Heap.get?_push_of_some _ o1)
  have en : ((vs.toArray.zip vs.toArray).map (·.2)) = vs.toArray := by
    apply Array.toList_inj.mp
    rw [Array.toList_map, Array.toList_zip]
    exact List.map_snd_zip (Nat.le_refl _)
  rw [list_sort_plain]
  refine wpAny_bind (listItems_at ho rfl (wpAny_bind (listUpdate_at ho rfl ?_ (by rw [List.size_toArray]; exact zl) (Nat.zero_le _))))
  refine wpAny_bind (seqEpoch_at o1 rfl (wpAny_bind (wpAny_newTuple ?_ (by simpa using zl))))
  refine wpAny_bind (wpAny_newList ?_ (Nat.zero_le _))
  refine wpAny_holding ?_
  dsimp only
  rw [if_pos z1, if_pos z1]
  refine wpAny_bind (wpAny_pure ?_)
  rw [StateT.run_pure]
  refine wpAny_bind (wpAny_pure ?_)
  dsimp only
  refine wpAny_bind (seqEpoch_at o2 rfl (wpAny_bind (listUpdate_at o2 rfl ?_ (Nat.zero_le _) ?_)))
  · simp only [bne_self_eq_false, Bool.false_eq_true, if_false]
    refine wpAny_pure ?_
    have e3 : (arrOf (SortSt.mk' general' (vs.toArray.zip vs.toArray) #[] 7 none)).map (·.2) = vs.toArray := en
    rw [e3]
    exact h
  · show ((vs.toArray.zip vs.toArray).map (·.2)).size ≤ sizeLine + 1
    rw [en, List.size_toArray]
    omega
theorem sorted_few {l : Addr} {vs : List Value} {Q : Value → Shared → Prop} (hl : s.heap.IsList l vs.toArray) (h1 : vs.length < 2)
    (h : Q (.ref (s.heap.objs.size + 1)) { s with heap := sortedAll s.heap vs vs.toArray }) : wpAny (model prog w) A (call (.builtin "sorted") [.ref l]) Q E s := by
  have zl : vs.length ≤ sizeLine := Nat.le_of_lt (small1000 (by omega))
  refine Calls.call_function_entry kind_sorted plain_sorted entry_sorted (args_sorted1 _) ?_
  unfold Builtin.«sorted»
  refine wpAny_bind (m := checkCount "sorted" 1 1 _) (wpAny_pure (wpAny_bind (collect_list hl (wpAny_bind (wpAny_newList ?_ zl)) zl)))
  have z : ((s.heap.push (seqObj "list" #[] 0)).update s.heap.objs.size (Obj.mapSeq (· ++ vs.toArray))).objs.size = s.heap.objs.size + 1 := by rw [Heap.size_update, size_push']
  have oL : (((s.heap.push (seqObj "list" #[] 0)).update s.heap.objs.size (Obj.mapSeq (· ++ vs.toArray))).push (seqObj "list" vs.toArray 0)).get? (s.heap.objs.size + 1) = some (seqObj "list" vs.toArray 0) := by
    rw [← z]; exact Heap.get?_push_size _ rfl
  show wpAny _ _ _ _ _ { s with heap := ((s.heap.push (seqObj "list" #[] 0)).update s.heap.objs.size (Obj.mapSeq (· ++ vs.toArray))).push (seqObj "list" vs.toArray 0) }
  rw [z]
  refine wpAny_bind (wpAny_holding (wpAny_call_entry slot_list_sort ⟨_, oL, rfl⟩ entry_list_sort (sort_few oL h1 ⟨_, rfl, ?_⟩) (args_list_sort _)))
  exact wpAny_pure ⟨_, rfl, h⟩
end
section
variable {X : Cx}
theorem call_sortedT {β : Type} (enc : β → List Int) (hne : ∀ b, enc b ≠ []) : CallR X (.builtin "sorted") (rSort enc X.K) := by
  intro pins s σ H vs us Q I r h
  obtain ⟨l, xs, bs, rfl, hS, ht, h64, k⟩ := h
  obtain ⟨u, rfl, ru⟩ := vals1 r
  cases (show u = Value.ref l from ru)
  by_cases h2 : 2 ≤ xs.length
  · exact sorted_many enc hne I hS ht h64 h2 k
  · obtain ⟨its, rv, pl, hz⟩ := I.list hS
    have hl := rv.length
    have htl := ht.length
    refine sorted_few pl.isList (by omega) ?_
    obtain ⟨e, oD⟩ := sortedAll_at s.heap its its.toArray
    refine ⟨.ref (s.heap.objs.size + 1), upd H (s.heap.objs.size + 1) (.lst xs), I.laid (t' := s.toks) (fun b ob q => sortedAll_old q) (Nat.le_succ _) ⟨hz, its, e, rv, oD⟩, rfl, k _ xs bs (I.hok.fresh (Nat.le_succ _)) ht (List.Perm.refl _) ?_⟩
    match bs, htl with
    | [], _ => exact List.Pairwise.nil
    | [b], _ => exact List.pairwise_singleton _ _
    | _ :: _ :: _, z => simp at z; omega
end
end L2

set_option Elab.async false
set_option linter.all false
set_option maxRecDepth 100000
set_option maxHeartbeats 4000000
/-! lambda x: e without captured names, and sorted(xs, key=lambda ..) of rows of ints -/
namespace L2
open PySem PySem.Spec PyProof.Rows PySem.W
/-- the code object of a lambda, the lambda itself -/
def CodeO (c : Addr) (qual : Str) : HO := .ext fun h => ∃ oc vs t, h.get? c = some oc ∧ oc.data = .fields vs ∧ vs[1]? = some (.str qual t)
def LamO (f : Addr) (qual : Str) (params : Arguments) (body : Expr) (scope : Scope) (c : Addr) : HO := .ext fun h => ∃ pm ctv, h.get? f = some (kla_obj "<lambda>" qual params body scope [] pm c ctv)
/-- the table of a def with one lambda: not yet made, or made once -/
def TabOk (H : Hp) (pos : Pos) (qual : Str) (ps : Array Value) : Prop := ps = #[] ∨ ∃ c, ps = #[rawInt pos.line, rawInt pos.col, .ref c] ∧ H c = some (CodeO c qual)
def TabIs (P : Addr) (pos : Pos) (qual : Str) (H : Hp) : Prop := ∃ ps, H P = some (.tbl ps) ∧ TabOk H pos qual ps
/-- all but what stands at ts is as it was -/
def SamB (ts : List Addr) (H H' : Hp) : Prop := ∀ b o, b ∉ ts → H b = some o → H' b = some o
theorem SamB.refl (ts : List Addr) (H : Hp) : SamB ts H H := fun _ _ _ e => e
theorem SamB.trans {ts : List Addr} {H H1 H2 : Hp} (a : SamB ts H H1) (b : SamB ts H1 H2) : SamB ts H H2 := fun c o n e => b c o n (a c o n e)
theorem Same.samB {ts : List Addr} {H H' : Hp} (a : Same H H') : SamB ts H H' := fun c o _ e => a c o e
theorem CodeO.ok {P : Program} {w : World} {H : Hp} {h : Heap} {c : Addr} {qual : Str} (hc : h.CodeRec (.ref c) qual) : ObjOk P w H h c (CodeO c qual) := by
  obtain ⟨c2, oc, vs, t, e, ho, hd, hv⟩ := hc
  cases e
  refine ⟨⟨oc, vs, t, ho, hd, hv⟩, ⟨oc, ho⟩, ?_⟩
  rintro h1 h2 ⟨o, v, t, a, b, c⟩ k
  exact ⟨o, v, t, k _ a, b, c⟩
theorem CodeO.rec {P : Program} {w : World} {H : Hp} {h : Heap} {c : Addr} {qual : Str} (x : ObjOk P w H h c (CodeO c qual)) : h.CodeRec (.ref c) qual := by
  obtain ⟨⟨oc, vs, t, a, b, d⟩, _⟩ := x
  exact ⟨c, oc, vs, t, rfl, a, b, d⟩
theorem LamO.ok {P : Program} {w : World} {H : Hp} {h : Heap} {f c : Addr} {qual : Str} {params : Arguments} {body : Expr} {scope : Scope} {pm ctv : Value} (hf : h.get? f = some (kla_obj "<lambda>" qual params body scope [] pm c ctv)) :
    ObjOk P w H h f (LamO f qual params body scope c) := by
  refine ⟨⟨pm, ctv, hf⟩, ⟨_, hf⟩, ?_⟩
  rintro h1 h2 ⟨pm, ctv, e⟩ k
  exact ⟨pm, ctv, k _ e⟩
/-- the module's own builtins -/
def BM (base : Heap) (mg : Str → Option Value) : Prop := ∃ bm o, mg "__builtins__" = some (.ref bm) ∧ bm ≠ builtinsNs ∧ bm ≠ mainGlobals ∧ base.get? bm = some o ∧ o.cls = .type "module" ∧ o.dict = some builtinsNs ∧ o.data = .plain
theorem clo_none {env : Env} : ∀ (l : List (Str × NameKind)) (cs : List (Str × Addr)), (∀ x ∈ l, x.2 ≠ .free) → clo env l cs = cs
  | [], _, _ => rfl
  | x :: r, cs, h => by
    unfold clo
    rw [if_neg (fun z => h x (.head _) (eq_of_beq z))]
    exact clo_none r cs fun y hy => h y (.tail _ hy)
def tLam (P : Addr) (pos : Pos) (qual : Str) (params : Arguments) (body : Expr) (scope : Scope) : TE := fun _ H Q => TabIs P pos qual H ∧
  ∀ f c H', H f = none → SamB [P] H H' → TabIs P pos qual H' → H' c = some (CodeO c qual) → H' f = some (LamO f qual params body scope c) → Q (.ref f) H'
section
variable {X : Cx}
theorem pe_lam {P c : Addr} {pos : Pos} {params : Arguments} {body : Expr} {scope : Scope} (bm : BM X.base X.mg) (hcode : X.env.code = .ref c) (hhd : codeHdIn X.K c P = true) (hfree : ∀ x ∈ scope.names, x.2 ≠ .free)
    (hdef : defaultsOf params X.env = ([], []) := by rfl) : PE X (.Lambda params body scope pos) (tLam P pos (X.env.qual ++ "<lambda>") params body scope) := by
  intro pins s σ H Q I h
  obtain ⟨⟨ps, hP, tok⟩, q⟩ := h
  have hPs : s.heap.get? P = some (tabObj ps) := I.hok P _ hP
  have hg : s.heap.Ns mainGlobals X.mg := let ⟨o, es, ep, e, r⟩ := I.ok.mod.glob; ⟨o, es, ep, I.bk _ _ e, r⟩
  have C : CodeHd s.heap c P := (codeHd_of_K I.ok.mod.kin hhd).keeps I.bk
  have nP : ∀ {b : Addr}, H b = none → b ≠ P := fun {b} n z => by rw [z, hP] at n; cases n
  have hcl : closureFor scope X.env = pure [] := by
    rw [closure_eq fun x hx e => absurd e (hfree x hx), clo_none _ _ hfree]
  obtain ⟨bmA, ob, b1, b2, b3, b4, b5, b6, b7⟩ := bm
  have hB : s.heap.BuiltinsAt X.mg P := ⟨bmA, ob, b1, b2, b3, nP (I.bs _ _ b4).2, I.bk _ _ b4, b5, b6, b7⟩
  have hgP : mainGlobals ≠ P := by
    obtain ⟨o, es, ep, e, r⟩ := I.ok.mod.glob
    exact nP (I.bs _ _ e).2
  have hLP : X.env.locals ≠ P := nP I.free
  refine kla_eval hdef ?_
  rcases tok with rfl | ⟨c0, rfl, hc0⟩
  · refine kla_makeFunction (mg := X.mg) (clos := []) hcl I.ok.glob hg hcode C hPs trivial rfl hgP hB fun c' ctv h' tk hx hge hlt hrec htb => ?_
    have hk : ∀ b o, b ≠ P → s.heap.get? b = some o → (h'.push (kla_obj "<lambda>" (X.env.qual ++ "<lambda>") params body scope [] ((X.mg "__name__").getD .none) c' ctv)).get? b = some o := fun b o n e => Heap.get?_push_of_some _ (hx b o n e)
    have fc : H c' = none := I.hok.fresh hge
    have ff : H h'.objs.size = none := I.hok.fresh (Nat.le_trans hge (Nat.le_of_lt hlt))
    have cP : c' ≠ P := nP fc
    have fP : h'.objs.size ≠ P := nP ff
    have cf : c' ≠ h'.objs.size := Nat.ne_of_lt hlt
    have lt : ∀ {b o}, s.heap.get? b = some o → b < c' := fun e => Nat.lt_of_lt_of_le (Heap.lt_size e) hge
    let H' := upd (upd (upd H P (.tbl (#[] ++ #[rawInt pos.line, rawInt pos.col, .ref c']))) c' (CodeO c' (X.env.qual ++ "<lambda>"))) h'.objs.size (LamO h'.objs.size (X.env.qual ++ "<lambda>") params body scope c')
    have old : ∀ b, b ≠ P → b ≠ c' → b ≠ h'.objs.size → H' b = H b := fun b x y z => by
      show upd _ _ _ b = _
      rw [upd_ne z, upd_ne y, upd_ne x]
    have oldO : ∀ b o, b ≠ P → H b = some o → H' b = some o := fun b o n e => by
      rw [old b n (fun z => by rw [z, fc] at e; cases e) (fun z => by rw [z, ff] at e; cases e)]; exact e
    have eP : H' P = some (.tbl #[rawInt pos.line, rawInt pos.col, .ref c']) := by
      show upd _ _ _ P = _
      rw [upd_ne fP.symm, upd_ne cP.symm, upd_same]; rfl
    have ec : H' c' = some (CodeO c' (X.env.qual ++ "<lambda>")) := by
      show upd _ _ _ c' = _
      rw [upd_ne cf, upd_same]
    have ef : H' h'.objs.size = some (LamO h'.objs.size (X.env.qual ++ "<lambda>") params body scope c') := upd_same
    have I' : Inv X pins σ H' { s with heap := h'.push (kla_obj "<lambda>" (X.env.qual ++ "<lambda>") params body scope [] ((X.mg "__name__").getD .none) c' ctv), toks := tk } := by
      refine I.step (g' := s.gens) (d' := s.drawn) (ch := []) (fun _ z => nomatch z) (fun b o _ _ _ e n => hk b o (nP n) e) (fun b o _ _ _ e n => ⟨o.slots, hk b o (nP n) e⟩) (fun b o _ e n => ?_) (fun b o _ e => ?_)
        (fun b xs e => oldO b _ (fun z => by rw [z, hP] at e; cases e) e) (fun b o u e => oldO b _ (fun z => by rw [z, hP] at e; cases e) e) (fun b qs e => ?_) (fun m hm => ?_) (fun b u e => ?_) I.bare
      · rw [old b (nP n) (Nat.ne_of_lt (lt e)) (Nat.ne_of_lt (Nat.lt_trans (lt e) hlt))]; exact n
      · by_cases z : b = P
        · rw [z]; exact ⟨_, Heap.get?_push_of_some _ htb⟩
        · exact ⟨o, hk b o z e⟩
      · by_cases z : b = P
        · rw [z, hP] at e
          cases e
          exact ⟨#[rawInt pos.line, rawInt pos.col, .ref c'], by rw [z, eP]; rfl⟩
        · exact ⟨#[], by rw [oldO b _ z e]; simp⟩
      · obtain ⟨o, es, ep, e, r⟩ := hm
        exact ⟨o, es, ep, hk _ o hLP e, r⟩
      · by_cases z1 : b = h'.objs.size
        · rw [z1, ef] at e
          cases e
          rw [z1]; exact LamO.ok (Heap.get?_push_size _ rfl)
        · by_cases z2 : b = c'
          · rw [z2, ec] at e
            cases e
            rw [z2]
            obtain ⟨c2, oc, vs, t, e2, ho, r⟩ := hrec
            exact CodeO.ok ⟨c2, oc, vs, t, e2, Heap.get?_push_of_some _ ho, r⟩
          · by_cases z3 : b = P
            · rw [z3, eP] at e
              cases e
              rw [z3]
              exact Heap.get?_push_of_some _ htb
            · rw [old b z3 z2 z1] at e
              refine (I.hok b u e).stay (fun d v hd z => hk d v (fun y => ?_) z) (fun d z => oldO d _ (fun y => by rw [y, hP] at z; cases z) z) (fun d xs z => oldO d _ (fun y => by rw [y, hP] at z; cases z) z)
              rcases hd with hd | hd
              · exact z3 (hd.symm.trans y)
              · rw [y, hP] at hd; cases hd
    exact ⟨.ref h'.objs.size, H', I', rfl, q _ c' H' ff (fun b o n e => oldO b o (fun z => n (by simp [z])) e) ⟨_, eP, .inr ⟨c', rfl, ec⟩⟩ ec ef⟩
  · have hf : codeAmong pos #[rawInt pos.line, rawInt pos.col, Value.ref c0].toList = some (.ref c0) := by
      show (if _ then _ else _) = _
      rw [if_pos (by simp)]
    refine kla_makeFunctionHit (mg := X.mg) (clos := []) hcl I.ok.glob hg hcode C hPs trivial hf hB fun ctv h' tk hx hsz => ?_
    have hk : ∀ b o, s.heap.get? b = some o → (h'.push { cls := .type "function", data := .func (kla_fn "<lambda>" (X.env.qual ++ "<lambda>") params body scope [] ((X.mg "__name__").getD .none) (.ref c0) ctv) }).get? b = some o := fun b o e => Heap.get?_push_of_some _ (hx b o e)
    have ff : H h'.objs.size = none := I.hok.fresh hsz
    have oldO : ∀ b o, H b = some o → upd H h'.objs.size (LamO h'.objs.size (X.env.qual ++ "<lambda>") params body scope c0) b = some o := fun b o e => by rw [upd_ne (fun z => by rw [z, ff] at e; cases e)]; exact e
    refine ⟨.ref h'.objs.size, upd H h'.objs.size (LamO h'.objs.size (X.env.qual ++ "<lambda>") params body scope c0), I.laid (t' := tk) hk hsz (LamO.ok (Heap.get?_push_size _ rfl)), rfl, ?_⟩
    exact q _ c0 _ ff (fun b o n e => oldO b o e) ⟨_, oldO _ _ hP, .inr ⟨c0, rfl, oldO _ _ hc0⟩⟩ (oldO _ _ hc0) upd_same
/-- the lambda is called -/
theorem lam_run {A : Around} {outer : List Env} {pins : List (Addr × Obj)} {σ : St} {s : Shared} {H : Hp} {Q : VK} {f c : Addr} {qual : Str} {params : Arguments} {body : Expr} {scope : Scope} {y : Str} {u : Value} {v : V} {tb : TE} {k : Nat}
    (hf : H f = some (LamO f qual params body scope c)) (hc : H c = some (CodeO c qual)) (hr : Room (k + 1) A) (e0 : Env0 X.prog X.w X.K X.mg X.base A outer s H) (S : FnScope [y] [y] scope)
    (hb : ∀ pm ctv, bindArgs (kla_fn "<lambda>" qual params body scope [] pm (.ref c) ctv) ⟨[u], []⟩ = pure [(y, u)])
    (hbody : PE (cxOf CX0 X.prog X.w X.K X.mg X.base [y] qual scope f (.ref c) A outer s H E0) body tb) (r : RelV v u) (h : tb [some v] H Q) :
    codeAny (model X.prog X.w) A (.call (.ref f) ⟨[u], []⟩) (CR CX0 outer X.prog X.w H s Q E0) s := by
  obtain ⟨⟨pm, ctv, hfo⟩, _⟩ := e0.hok f _ hf
  have hcd := CodeO.rec (e0.hok c _ hc)
  have lim : s.heap.NoLimit := e0.mod.nolimit.keeps fun b o e => (e0.bs b o e).1
  refine kla_callFunE hr.depth hfo rfl S.co S.gen rfl hcd ?_
  rw [hb]
  refine wpAny_pure ?_
  have hkind : ∀ z ∈ [(y, u)], scope.names.lookup z.1 = some .local ∨ (scope.names.lookup z.1 = some .cell ∧ ((cellsFrom (s.heap.objs.size + 1) scope.names []).lookup z.1).isSome = true) := fun ⟨n, x⟩ hy => by
    have e : n = y := by have := List.mem_singleton.mp hy; cases this; rfl
    subst e
    rcases S.par n (by simp) with q | q
    · exact .inl q
    · exact .inr ⟨q, PySem.W.cellsFrom_some _ _ _ (.inl q)⟩
  refine wpAny_newFunctionEnv_cells S.kind hkind fun env he s1 x => ?_
  subst he
  refine ⟨lim.keeps x.toInCall.keep, kla_codeExpr ?_⟩
  have I : Inv (cxOf CX0 X.prog X.w X.K X.mg X.base [y] qual scope f (.ref c) A outer s H E0) [] (start [y] [v]) H s1 := inv_start (us := [u]) S hr.hd e0 rfl (.cons r .nil) x
  refine wpAny_mono (hbody [] s1 (start [y] [v]) H _ I h) (fun w' s' hs => ?_) fun e s' hs => hs
  obtain ⟨v', H', J, rv, q⟩ := hs
  exact ⟨v', H', J.os, J.bare, J.base, J.hok, rv, q⟩
end
end L2

set_option Elab.async false
set_option linter.all false
set_option maxRecDepth 100000
set_option maxHeartbeats 4000000
namespace L2
open PySem PySem.Spec PyProof.Rows PySem.W
section
variable {prog : Program} {w : World} {A : Around} {E : Value → Shared → Prop} {s : Shared} {h₀ : Heap} {L kS a l : Addr} {m : Str → Option Value} {f : Value} {vs : List Value}
/-- the keys are made, then the sort's own part is left -/
theorem rest_of {e1 : Nat} {P : PySem.Fin → Shared → Prop} (hk : s.heap.get? kS = some (seqObj "list" #[] 0)) (h64 : vs.length < 64)
    (h : KatKeys prog w A h₀ L m kS f (fun ks e s' => ks.length = vs.length → wpAny (model prog w) A (ksk_end a false vs.toArray e1 (.ref kS) (List.toArray ks)) P E s') vs [] 0 s) :
    wpAny (model prog w) A (ksk_rest a f false vs.toArray e1 (.ref kS)) P E s := by
  unfold ksk_rest
  refine wpAny_bind (wpAny_rule ?_)
  first
    | rw [List.forIn_toArray]
    | (rw [← Array.forIn_toList]; simp only [List.toList_toArray])
  refine wpAny_bind (wpAny_mono (kat_fold h64 (fun x ks e s' C hz hx => ?_) vs [] 0 s (by simp) hk h) (fun _ s' ⟨ks, e, hk', hl, fin⟩ => ?_) fun _ _ x => x)
  · refine wpAny_bind (wpAny_attempt (wpAny_mono hx (fun k s'' ⟨news', g, F', N', U, c⟩ => ?_) fun _ _ z => z.elim))
    obtain ⟨pre, post, e0, hg, x1, x2⟩ := U.split
    rw [e0] at N'
    have nk := (N' (kS, seqObj "list" (List.toArray ks) e) (List.mem_append_right _ (.head _)))
    have s1 := (Heap.SameBut.update s''.heap kS (Obj.mapSeq (·.push k)))
    have ea : (List.toArray ks).push k = (ks ++ [k]).toArray := by simp
    obtain ⟨c2, hc2⟩ : ∃ c2, (s''.heap.update kS (Obj.mapSeq (·.push k))).get? kS = some (seqObj "list" (ks ++ [k]).toArray c2) := ⟨_, by rw [← ea]; exact (get?_update_seq nk.1 (·.push k))⟩
    try dsimp only
    refine wpAny_bind (listUpdate_at nk.1 rfl ?_ (by rw [List.size_toArray, sizeLine_eq]; omega) (by rw [Array.size_push, List.size_toArray, sizeLine_eq]; omega))
    exact wpAny_pure ⟨rfl, k, c2, hc2, c _ c2 (kas_fr F' s1 nk.2.1 nk.2.2) (by rw [hg]; exact (news_set N' x1 x2 s1 hc2))⟩
  · try dsimp only
    refine wpAny_bind (listItems_at hk' rfl (fin hl))
/-- the end of a sort of at most one item -/
theorem end_few {e e1 : Nat} {ks : List Value} {P : PySem.Fin → Shared → Prop} (hl : ks.length = vs.length) (h2 : vs.length < 2) (h : KatFin h₀ L m kS a ks e e1 vs (fun s' => P (.done (.ret .none)) s') s) :
    wpAny (model prog w) A (ksk_end a false vs.toArray e1 (.ref kS) (List.toArray ks)) P E s := by
  have z : vs.toArray.size < 2 := by rw [List.size_toArray]; exact h2
  unfold ksk_end
  try dsimp only
  rw [if_neg Bool.false_ne_true, if_pos z, if_pos z]
  refine wpAny_bind (wpAny_pure ?_)
  rw [StateT.run_pure]
  refine wpAny_bind (wpAny_pure ?_)
  try dsimp only
  refine kat_tail (out := vs) (b := false) ?_ (by omega) (by omega) rfl h
  show (((List.toArray ks).zip vs.toArray).map (·.2)) = vs.toArray
  apply Array.toList_inj.mp
  rw [Array.toList_map, Array.toList_zip]
  exact List.map_snd_zip (by simp; omega)
theorem keyed_of {n : Nat} {P : PySem.Fin → Shared → Prop} (ho : s.heap.get? a = some (seqObj "list" vs.toArray n)) (h64 : vs.length < 64)
    (h : ∀ kS e1 h', a < kS → s.heap.objs.size ≤ kS → (∀ b o, b ≠ a → s.heap.get? b = some o → h'.get? b = some o) → h'.get? a = some (seqObj "list" #[] e1) → h'.get? kS = some (seqObj "list" #[] 0) →
      KatKeys prog w A h₀ L m kS f (fun ks e s' => ks.length = vs.length → wpAny (model prog w) A (ksk_end a false vs.toArray e1 (.ref kS) (List.toArray ks)) P E s') vs [] 0 { s with heap := h' }) :
    wpAny (model prog w) A (ksk_tree a f false) P E s := by
  have ha : a < s.heap.objs.size := Heap.lt_size ho
  have zl : vs.length ≤ sizeLine := by rw [sizeLine_eq]; omega
  obtain ⟨e1, ho1⟩ : ∃ e1, (s.heap.update a (Obj.mapSeq fun _ => (#[] : Array Value))).get? a = some (seqObj "list" #[] e1) := ⟨_, get?_update_seq ho fun _ => #[]⟩
  have zk : ((s.heap.update a (Obj.mapSeq fun _ => (#[] : Array Value))).push (seqObj "tuple" vs.toArray 0)).objs.size = s.heap.objs.size + 1 := by rw [size_push', Heap.size_update]
  unfold ksk_tree
  refine wpAny_bind (listItems_at ho rfl (wpAny_bind (listUpdate_at ho rfl ?_ (by rw [List.size_toArray]; exact zl) (Nat.zero_le _))))
  refine wpAny_bind (seqEpoch_at ho1 rfl (wpAny_bind (wpAny_newTuple ?_ zl)))
  refine wpAny_bind (wpAny_newList ?_ (Nat.zero_le _))
  refine wpAny_holding ?_
  refine rest_of (s := { s with heap := ((s.heap.update a (Obj.mapSeq fun _ => (#[] : Array Value))).push (seqObj "tuple" vs.toArray 0)).push (seqObj "list" #[] 0) })
    (kS := ((s.heap.update a (Obj.mapSeq fun _ => (#[] : Array Value))).push (seqObj "tuple" vs.toArray 0)).objs.size) (Heap.get?_push_size _ rfl) h64 (h _ e1 _ (by rw [zk]; exact Nat.lt_succ_of_lt ha) (by rw [zk]; exact Nat.le_succ _) (fun b o hb e => ?_) ?_ (Heap.get?_push_size _ rfl))
  · exact Heap.get?_push_of_some _ (Heap.get?_push_of_some _ ((Heap.get?_update_ne _ _ _ _ hb).trans e))
  · exact Heap.get?_push_of_some _ (Heap.get?_push_of_some _ ho1)
theorem sortedK_of {kw : List (Str × Value)} {Q : Value → Shared → Prop} (hl : s.heap.IsList l vs.toArray) (h64 : vs.length < 64)
    (ha1 : argsOk "sorted" ⟨[.ref l], kw⟩) (ha2 : ∀ x, argsOk "list.sort" ⟨[.ref x], kw⟩) (ht : ∀ x, Builtin.«list.sort» ⟨[.ref x], kw⟩ = ksk_tree x f false)
    (h : ∀ D kS e1 h', s.heap.objs.size ≤ D → D < kS → (∀ b o, s.heap.get? b = some o → h'.get? b = some o) → h'.get? D = some (seqObj "list" #[] e1) → h'.get? kS = some (seqObj "list" #[] 0) →
      KatKeys prog w A.in1.in1 h₀ L m kS f (fun ks e s' => ks.length = vs.length → wpAny (model prog w) A.in1.in1 (ksk_end D false vs.toArray e1 (.ref kS) (List.toArray ks)) (fun fin s'' => fin = .done (.ret .none) ∧ Q (.ref D) s'') (fun _ _ => False) s') vs [] 0 { s with heap := h' }) :
    wpAny (model prog w) A (call (.builtin "sorted") [.ref l] kw) Q E s := by
  have zl : vs.length ≤ sizeLine := by rw [sizeLine_eq]; omega
  refine call_function_entry_kw kind_sorted plain_sorted entry_sorted ha1 ?_
  unfold Builtin.«sorted»
  refine wpAny_bind (m := checkCount "sorted" 1 1 _) (wpAny_pure (wpAny_bind (collect_list hl (wpAny_bind (wpAny_newList ?_ zl)) zl)))
  have z : ((s.heap.push (seqObj "list" #[] 0)).update s.heap.objs.size (Obj.mapSeq (· ++ vs.toArray))).objs.size = s.heap.objs.size + 1 := by rw [Heap.size_update, size_push']
  have oL : (((s.heap.push (seqObj "list" #[] 0)).update s.heap.objs.size (Obj.mapSeq (· ++ vs.toArray))).push (seqObj "list" vs.toArray 0)).get? (s.heap.objs.size + 1) = some (seqObj "list" vs.toArray 0) := by
    rw [← z]; exact Heap.get?_push_size _ rfl
  have kp : ∀ b o, s.heap.get? b = some o → (((s.heap.push (seqObj "list" #[] 0)).update s.heap.objs.size (Obj.mapSeq (· ++ vs.toArray))).push (seqObj "list" vs.toArray 0)).get? b = some o := fun b o q => by
    have hlt : b < s.heap.objs.size := Heap.lt_size q
    rw [Heap.get?_push_ne _ _ _ (by rw [z]; exact Nat.ne_of_lt (Nat.lt_succ_of_lt hlt)), Heap.get?_update_ne _ _ _ _ (Nat.ne_of_lt hlt), Heap.get?_push_ne _ _ _ (Nat.ne_of_lt hlt)]; exact q
  show wpAny _ _ _ _ _ { s with heap := ((s.heap.push (seqObj "list" #[] 0)).update s.heap.objs.size (Obj.mapSeq (· ++ vs.toArray))).push (seqObj "list" vs.toArray 0) }
  rw [z]
  refine wpAny_bind (wpAny_holding (wpAny_call_entry_kw slot_list_sort ⟨_, oL, rfl⟩ entry_list_sort ?_ (ha2 _)))
  show wpAny (model prog w) A.in1.in1 (Builtin.«list.sort» ⟨[.ref (s.heap.objs.size + 1)], kw⟩) _ _ _
  rw [ht (s.heap.objs.size + 1)]
  refine wpAny_mono (Q := fun fin s'' => fin = .done (.ret .none) ∧ Q (.ref (s.heap.objs.size + 1)) s'') (E := fun _ _ => False) (keyed_of (h₀ := h₀) (L := L) (m := m) oL h64 fun kS e1 h' h1 h2 h3 h4 h5 => ?_) (fun fin s'' ⟨e, q⟩ => ?_) fun _ _ x => x.elim
  · exact h _ kS e1 h' (Nat.le_succ _) h1 (fun b o e => h3 b o (Nat.ne_of_lt (Nat.lt_succ_of_lt (Heap.lt_size e))) (kp b o e)) h4 h5
  · subst e
    exact ⟨_, rfl, wpAny_pure ⟨_, rfl, q⟩⟩
end
section
variable {X : Cx} {pins : List (Addr × Obj)} {σ : St} {H : Hp} {s : Shared}
/-- a record of ours, new since the entry: untracked, no cell, no pin -/
structure Mine (X : Cx) (pins : List (Addr × Obj)) (b : Addr) : Prop where
  new : X.s₀.heap.objs.size ≤ b
  loc : b ≠ X.env.locals
  cell : ∀ x c, X.env.cells.lookup x = some c → c ≠ b
  pin : ∀ p ∈ X.pn ++ pins, p.1 ≠ b
  fs : b ∉ X.fs
theorem Inv.mine (I : Inv X pins σ H s) {b : Addr} (h : s.heap.objs.size ≤ b) : Mine X pins b :=
  ⟨Nat.le_trans I.sz h, Nat.ne_of_gt (Nat.lt_of_lt_of_le I.lt h), fun x c e => by
      obtain ⟨v, o, ho, _⟩ := I.cell x c e
      exact Nat.ne_of_lt (Nat.lt_of_lt_of_le (Heap.lt_size ho) h), fun p hp => Nat.ne_of_lt (Nat.lt_of_lt_of_le (Heap.lt_size (I.pin p hp).1) h), I.nofs h⟩
/-- it has changed; all else but the frame's record is kept, the frame's map too -/
theorem Inv.moved {h' : Heap} {t' : Nat} {m : Str → Option Value} {b : Addr} (I : Inv X pins σ H s) (M : Mine X pins b) (hb : H b = none) (hn : s.heap.Ns X.env.locals m) (hn2 : h'.Ns X.env.locals m)
    (keep : ∀ c o, c ≠ b → c ≠ X.env.locals → s.heap.get? c = some o → h'.get? c = some o) : Inv X pins σ H { s with heap := h', toks := t' } := by
  refine I.step (g' := s.gens) (d' := s.drawn) (ch := [b]) (fun c hc => ?_) (fun c o h1 _ hc e _ => keep c o (fun z => hc (by simp [z])) h1 e) (fun c o h1 _ hc e _ => ⟨o.slots, keep c o (fun z => hc (by simp [z])) h1 e⟩)
    (fun c o _ _ n => n) (fun c o hc e => ?_) (fun _ _ e => e) (fun _ _ _ e => e) (fun c ps e => ⟨#[], by rw [e]; simp⟩) (fun m' hm' => ?_) (fun c u e => ?_) I.bare
  · have e : c = b := by simpa using hc
    subst e
    exact ⟨.inr M.new, M.loc, M.cell, M.pin⟩
  · by_cases q : c = X.env.locals
    · obtain ⟨o', _, _, e', _⟩ := hn2
      exact ⟨o', by rw [q]; exact e'⟩
    · exact ⟨o, keep c o (fun z => hc (by simp [z])) q e⟩
  · have z : m' = m := funext fun x => hm'.agree hn x
    rw [z]; exact hn2
  · have tr : ∀ {d : Addr} {v : HO}, H d = some v → d ≠ b ∧ d ≠ X.env.locals := fun {d v} z => ⟨fun y => (by rw [y, hb] at z; cases z), fun y => (by rw [y, I.free] at z; cases z)⟩
    refine (I.hok c u e).stay (fun d v hd z => ?_) (fun _ z => z) (fun _ _ z => z)
    have td : d ≠ b ∧ d ≠ X.env.locals := by
      rcases hd with hd | hd
      · rw [hd]; exact tr e
      · exact tr hd
    exact keep d v td.1 td.2 z
/-- .. and is tracked from now on -/
theorem Inv.ended {h' : Heap} {t' : Nat} {m : Str → Option Value} {b : Addr} {o : HO} (I : Inv X pins σ H s) (M : Mine X pins b) (hb : H b = none) (hn : s.heap.Ns X.env.locals m) (hn2 : h'.Ns X.env.locals m)
    (keep : ∀ c o, c ≠ b → c ≠ X.env.locals → s.heap.get? c = some o → h'.get? c = some o) (new : ObjOk X.prog X.w (upd H b o) h' b o) : Inv X pins σ (upd H b o) { s with heap := h', toks := t' } := by
  have tr : ∀ {d : Addr} {v : HO}, H d = some v → d ≠ b ∧ d ≠ X.env.locals := fun {d v} z => ⟨fun y => (by rw [y, hb] at z; cases z), fun y => (by rw [y, I.free] at z; cases z)⟩
  refine I.step (g' := s.gens) (d' := s.drawn) (ch := [b]) (fun c hc => ?_) (fun c o h1 _ hc e _ => keep c o (fun z => hc (by simp [z])) h1 e) (fun c o h1 _ hc e _ => ⟨o.slots, keep c o (fun z => hc (by simp [z])) h1 e⟩)
    (fun c o hc _ n => by rw [upd_ne (fun z => hc (by simp [z]))]; exact n) (fun c o hc e => ?_) (fun d _ e => by rw [upd_ne (tr e).1]; exact e) (fun d _ _ e => by rw [upd_ne (tr e).1]; exact e) (fun c ps e => ⟨#[], by rw [upd_ne (tr e).1, e]; simp⟩) (fun m' hm' => ?_) (fun c u e => ?_) I.bare
  · have e : c = b := by simpa using hc
    subst e
    exact ⟨.inr M.new, M.loc, M.cell, M.pin⟩
  · by_cases q : c = X.env.locals
    · obtain ⟨o', _, _, e', _⟩ := hn2
      exact ⟨o', by rw [q]; exact e'⟩
    · exact ⟨o, keep c o (fun z => hc (by simp [z])) q e⟩
  · have z : m' = m := funext fun x => hm'.agree hn x
    rw [z]; exact hn2
  · by_cases q : c = b
    · subst q
      rw [upd_same] at e
      cases e
      exact new
    · rw [upd_ne q] at e
      refine (I.hok c u e).stay (fun d v hd z => ?_) (fun d z => by rw [upd_ne (tr z).1]; exact z) (fun d _ z => by rw [upd_ne (tr z).1]; exact z)
      have td : d ≠ b ∧ d ≠ X.env.locals := by
        rcases hd with hd | hd
        · rw [hd]; exact tr e
        · exact tr hd
      exact keep d v td.1 td.2 z
end
section
variable {X : Cx} {β : Type} {enc : β → List V}
def KRun (X : Cx) (f : Value) (H1 : Hp) (enc : β → List V) (KV : Hp → V → β → Prop) : Prop :=
  ∀ (pins : List (Addr × Obj)) (σ : St) (s : Shared) (H : Hp) (a : Addr) (b : β) (m : Str → Option Value), Inv X pins σ H s → Same H1 H → H a = some (.tup (enc b)) → s.heap.Ns X.env.locals m →
    wpAny (model X.prog X.w) X.A.in1.in1 (call f [.ref a]) (fun u s' => ∃ v H', Inv X pins σ H' s' ∧ s'.heap.Ns X.env.locals m ∧ RelV v u ∧ Same H H' ∧ KV H' v b) (fun _ _ => False) s
theorem fr0 {g h : Heap} {L : Addr} {m : Str → Option Value} (n : h.Ns L m) : Fr (Att.noObjs g) L h m := ⟨n, fun b o e => (by rw [Att.noObjs_get] at e; cases e), Nat.zero_le _⟩
abbrev lstO (vs : List Value) (e : Nat) : Obj := seqObj "list" vs.toArray e
def pin2 (pins : List (Addr × Obj)) (kS D : Addr) (ks : List Value) (e : Nat) (oD : Obj) : List (Addr × Obj) := (kS, lstO ks e) :: (D, oD) :: pins
theorem keys_loop {f : Value} {H1 : Hp} {KV : Hp → V → β → Prop} {pins : List (Addr × Obj)} {σ : St} {m : Str → Option Value} {kS D : Addr} {oD : Obj} {g : Heap} {Fin : List Value → Nat → Shared → Prop}
    (hm : ∀ H H' v b, Same H H' → KV H v b → KV H' v b) (R : KRun X f H1 enc KV) (MS : Mine X pins kS) (hkD : kS ≠ D) :
    ∀ (rv : List V) (rb : List β) (r ks : List Value) (kv : List V) (kb : List β) (e : Nat) (s : Shared) (H : Hp), Inv X (pin2 pins kS D ks e oD) σ H s → s.heap.Ns X.env.locals m → Same H1 H → TupsAt enc H1 rv rb → Vals rv r → Vals kv ks → Paired (KV H) kv kb →
      (∀ ks' kv' e' s' H', Inv X (pin2 pins kS D ks' e' oD) σ H' s' → s'.heap.Ns X.env.locals m → Same H1 H' → Vals kv' ks' → Paired (KV H') kv' (kb ++ rb) → Fin ks' e' s') →
      KatKeys X.prog X.w X.A.in1.in1 (Att.noObjs g) X.env.locals m kS f Fin r ks e s
  | [], [], r, ks, kv, kb, e, s, H, I, n, sm, t, rr, rk, pk, fin => by
    cases rr
    exact KatKeys.nil (fin ks kv e s H I n sm rk (by rw [List.append_nil]; exact pk))
  | [], _ :: _, _, _, _, _, _, _, _, _, _, _, t, _, _, _, _ => t.elim
  | _ :: _, [], _, _, _, _, _, _, _, _, _, _, t, _, _, _, _ => t.elim
  | x :: rv, b :: rb, _, ks, kv, kb, e, s, H, I, n, sm, ⟨⟨a, ex, ha⟩, t⟩, .cons (b := u) (l₂ := r) rx rr, rk, pk, fin => by
    subst ex
    cases (show u = Value.ref a from rx)
    refine KatKeys.cons (wpAny_mono (R _ σ s H a b m I sm (sm _ _ ha) n) (fun u s' ⟨v, H', I', n', rv', sm', kv'⟩ => ?_) fun _ _ z => z)
    have pk0 := I'.pin (kS, lstO ks e) (List.mem_append_right _ (.head _))
    have pD0 := I'.pin (D, oD) (List.mem_append_right _ (.tail _ (.head _)))
    refine KatBack.intro (fr0 n') (news_at (d := kS) pk0.2.2.1 (Att.noObjs_get _ _) pk0.1) (.head rest_ne) fun h2 c F2 N2 => ?_
    have k0 := (N2 _ (.head _)).1
    have I1 : Inv X pins σ H' s' := I'.pins_of fun p hp => I'.pin p (List.mem_append_right _ (.tail _ (.tail _ hp)))
    have I2 : Inv X pins σ H' { s' with heap := h2 } := I1.moved (t' := s'.toks) MS pk0.2.1 n' F2.ns fun c o h1 h3 e => (N2 (c, o) (.tail _ (mem_rest h3 (Att.noObjs_get _ _) e h1))).1
    have I3 : Inv X (pin2 pins kS D (ks ++ [u]) c oD) σ H' { s' with heap := h2 } := I2.pins_of fun p hp => by
      rcases List.mem_cons.mp hp with rfl | hp
      · exact ⟨k0, pk0.2.1, MS.loc, MS.fs, fun v z => by cases z⟩
      · rcases List.mem_cons.mp hp with rfl | hp
        · exact ⟨(N2 (D, oD) (.tail _ (mem_rest pD0.2.2.1 (Att.noObjs_get _ _) pD0.1 (Ne.symm hkD)))).1, pD0.2⟩
        · exact I2.pin p (List.mem_append_right _ hp)
    refine keys_loop hm R MS hkD rv rb r (ks ++ [u]) (kv ++ [v]) (kb ++ [b]) c _ H' I3 F2.ns (sm.trans sm') t rr (rk.append (.cons rv' .nil)) ?_ fun ks' kv2 e' s2 H2 i1 i2 i3 i4 i5 => fin ks' kv2 e' s2 H2 i1 i2 i3 i4 (by rw [List.append_assoc] at i5; exact i5)
    exact Paired.snoc (Paired.mapP pk fun x y q => hm _ _ _ _ sm' q) kv'
end

section
variable {X : Cx} {pins : List (Addr × Obj)} {σ : St} {H : Hp} {s : Shared} {Q : VK}
theorem sort_fin {kS D : Addr} {ks out : List Value} {e e1 : Nat} {g : Heap} {m : Str → Option Value} {ys : List V} (I : Inv X (pin2 pins kS D ks e (lstO [] e1)) σ H s) (hn : s.heap.Ns X.env.locals m) (MS : Mine X pins kS) (MD : Mine X pins D) (hkD : kS ≠ D)
    (ry : Vals ys out) (hz : ys.length ≤ sizeLine) (q : Q (.ref D) (upd H D (.lst ys))) :
    KatFin (Att.noObjs g) X.env.locals m kS D ks e e1 out (fun s' => (PySem.Fin.done (.ret .none)) = .done (.ret .none) ∧ EP X pins σ Q (.ref D) s') s := by
  have pk := I.pin (kS, lstO ks e) (List.mem_append_right _ (.head _))
  have pD := I.pin (D, lstO [] e1) (List.mem_append_right _ (.tail _ (.head _)))
  have I1 : Inv X pins σ H s := I.pins_of fun p hp => I.pin p (List.mem_append_right _ (.tail _ (.tail _ hp)))
  refine KatFin.intro (fr0 hn) (news_at (d := kS) pk.2.2.1 (Att.noObjs_get _ _) pk.1) (.head rest_ne) fun h2 c F2 N2 => ?_
  have I2 : Inv X pins σ H { s with heap := h2 } := I1.moved (t' := s.toks) MS pk.2.1 hn F2.ns fun c o h1 h3 e => (N2 (c, o) (.tail _ (mem_rest h3 (Att.noObjs_get _ _) e h1))).1
  have d2 : h2.get? D = some (lstO [] e1) := (N2 (D, lstO [] e1) (.tail _ (mem_rest pD.2.2.1 (Att.noObjs_get _ _) pD.1 (Ne.symm hkD)))).1
  refine KasFin.intro F2 (news_at (d := D) pD.2.2.1 (Att.noObjs_get _ _) d2) (.head rest_ne) fun h3 c3 F3 N3 => ⟨rfl, .ref D, upd H D (.lst ys), ?_, rfl, q⟩
  exact I2.ended (t' := s.toks) MD pD.2.1 F2.ns F3.ns (fun c o h1 h3 e => (N3 (c, o) (.tail _ (mem_rest h3 (Att.noObjs_get _ _) e h1))).1) ⟨hz, out, c3, ry, (N3 _ (.head _)).1⟩
variable {β : Type}
def KVt (key : β → List Int) (H : Hp) (v : V) (b : β) : Prop := ∃ a, v = .ref a ∧ H a = some (.tup (eI key b))
def KVi (key : β → List Int) (H : Hp) (v : V) (b : β) : Prop := ∃ i, v = .int i ∧ key b = [i]
theorem KVt.mono {key : β → List Int} (H H' : Hp) (v : V) (b : β) (s : Same H H') (h : KVt key H v b) : KVt key H' v b := let ⟨a, e, q⟩ := h; ⟨a, e, s _ _ q⟩
theorem KVi.mono {key : β → List Int} (H H' : Hp) (v : V) (b : β) (_ : Same H H') (h : KVi key H v b) : KVi key H' v b := h
theorem tups_of_paired {key : β → List Int} : ∀ {kv : List V} {bs : List β}, Paired (KVt key H) kv bs → TupsAt (eI key) H kv bs
  | _, _, .nil => trivial
  | _, _, .cons h t => ⟨h, tups_of_paired t⟩
theorem lex1 (x y : Int) : HT.lexLt [x] [y] = decide (x < y) := by
  rw [HT.lexLt_cons]
  by_cases h : x = y
  · rw [if_pos h, decide_eq_false (by omega)]; rfl
  · rw [if_neg h]
def SortQ (enc key : β → List Int) (H1 H : Hp) (D : Addr) (bs : List β) (Q : VK) : Prop :=
  ∀ ys cs, TupsAt (eI enc) H1 ys cs → cs.Perm bs → cs.Pairwise (fun a b => HT.lexLt (key b) (key a) = false) → Q (.ref D) (upd H D (.lst ys))
theorem sort_pick {enc key : β → List Int} {H1 : Hp} {kS D : Addr} {ks vs : List Value} {e e1 : Nat} {g : Heap} {m : Str → Option Value} {xs : List V} {bs : List β} (d : β) (I : Inv X (pin2 pins kS D ks e (lstO [] e1)) σ H s) (hn : s.heap.Ns X.env.locals m) (MS : Mine X pins kS) (MD : Mine X pins D) (hkD : kS ≠ D)
    (t : TupsAt (eI enc) H1 xs bs) (rv : Vals xs vs) (h64 : vs.length < 64) (q : SortQ enc key H1 H D bs Q) {p : Array Nat} (G : Srt.Good vs.length p) (inc : Srt.Inc (O := lexOrd) (keyAt key bs d) p vs.length) :
    KatFin (Att.noObjs g) X.env.locals m kS D ks e e1 (p.toList.map fun i => vs.getD i Value.none) (fun s' => (PySem.Fin.done (.ret .none)) = .done (.ret .none) ∧ EP X pins σ Q (.ref D) s') s := by
  have hl := rv.length
  have htl := t.length
  have gl : ∀ i ∈ p.toList, i < bs.length := fun i hi => by
    have := G.pm.mem_iff.mp (by simpa using hi : i ∈ p)
    simp at this
    omega
  have gp : p.toList.Perm (List.range bs.length) := by
    have z := G.pm.toList
    have e : vs.length = bs.length := by omega
    rw [e] at z
    exact z
  refine sort_fin I hn MS MD hkD (vals_pick rv _) ?_ (q _ (p.toList.map fun i => bs.getD i d) (tups_pick t d _ gl) ?_ ?_)
  · rw [List.length_map]
    have := gp.length_eq
    rw [List.length_range] at this
    rw [sizeLine_eq]; omega
  · have z := gp.map (fun i => bs.getD i d)
    rw [range_pick] at z
    exact z
  · rw [List.pairwise_map]
    refine List.pairwise_iff_getElem.mpr fun i j hi hj hij => ?_
    have sz := G.size
    have z := inc i j (Nat.le_of_lt hij) (by simpa [sz] using hj)
    have e1 : p.getD i 0 = p.toList[i] := by
      rw [Array.getD_eq_getD_getElem?, Array.getElem?_eq_getElem (by simpa using hi)]; simp
    have e2 : p.getD j 0 = p.toList[j] := by
      rw [Array.getD_eq_getD_getElem?, Array.getElem?_eq_getElem (by simpa using hj)]; simp
    unfold Srt.P at z
    rw [e1, e2] at z
    exact z
theorem few_q {enc key : β → List Int} {H1 : Hp} {D : Addr} {xs : List V} {bs : List β} (t : TupsAt (eI enc) H1 xs bs) (h2 : xs.length < 2) (q : SortQ enc key H1 H D bs Q) : Q (.ref D) (upd H D (.lst xs)) := by
  refine q xs bs t (List.Perm.refl _) ?_
  have htl := t.length
  match bs, htl with
  | [], _ => exact List.Pairwise.nil
  | [b], _ => exact List.pairwise_singleton _ _
  | _ :: _ :: _, z => simp at z; omega
theorem end_tup {enc key : β → List Int} (hne : ∀ b, key b ≠ []) {H1 : Hp} {kS D : Addr} {ks vs : List Value} {e e1 : Nat} {g : Heap} {m : Str → Option Value} {xs kv : List V} {bs : List β} (I : Inv X (pin2 pins kS D ks e (lstO [] e1)) σ H s) (hn : s.heap.Ns X.env.locals m) (MS : Mine X pins kS) (MD : Mine X pins D) (hkD : kS ≠ D)
    (t : TupsAt (eI enc) H1 xs bs) (rv : Vals xs vs) (h64 : vs.length < 64) (rk : Vals kv ks) (pk : Paired (KVt key H) kv bs) (q : SortQ enc key H1 H D bs Q) :
    wpAny (model X.prog X.w) X.A.in1.in1 (ksk_end D false vs.toArray e1 (.ref kS) (List.toArray ks)) (fun fin s'' => fin = .done (.ret .none) ∧ EP X pins σ Q (.ref D) s'') (fun _ _ => False) s := by
  have hl := rv.length
  have htl := t.length
  have hkl := rk.length
  have hpl := pk.length
  by_cases h2 : vs.length < 2
  · exact end_few (h₀ := Att.noObjs g) (L := X.env.locals) (m := m) (e := e) (by omega) h2 (sort_fin I hn MS MD hkD rv (by rw [sizeLine_eq]; omega) (few_q t (by omega) q))
  have d : β := bs[0]'(by omega)
  have tk := tups_of_paired pk
  have tupsIn : ∀ a zs, H a = some (.tup zs) → ∃ arr : List Value, Vals zs arr ∧ IsTup s.heap a arr.toArray := fun a zs e => (I.hok a _ e).2
  obtain ⟨fs, kt, kl, kf⟩ := kat_of hne tupsIn tk rk
  refine kat_end (h₀ := Att.noObjs g) (L := X.env.locals) (m := m) (e := e) (b := false) (by omega) (by omega) h64 ?_
  refine kat_kind (T := .type "int") kt (by omega) (fun v hv => ?_) (by decide) ?_
  · obtain ⟨i, t, rfl⟩ := kf v hv
    exact Looks.of_pure rfl
  have eT : (Value.type "int" != Value.type "tuple") = true := by decide
  rw [eT]
  have getR : ∀ i, i < vs.length → ∃ a arr, ks.getD i Value.none = .ref a ∧ IsTup s.heap a arr.toArray ∧ IntsAre arr (keyAt key bs d i) := fun i hi => by
    have hb : bs[i]? = some (bs.getD i d) := by
      rw [List.getD_eq_getElem?_getD, List.getElem?_eq_getElem (by omega)]; rfl
    obtain ⟨a, ea, ha⟩ := vals_refs tk rk i _ hb
    obtain ⟨arr, va, tu⟩ := tupsIn a _ ha
    exact ⟨a, arr, by rw [List.getD_eq_getElem?_getD, ea]; rfl, tu, intsAre_of va⟩
  refine Srt.sort (O := lexOrd) (key := keyAt key bs d) (fun i j C hi hj hC => ?_) (by omega) fun p G inc => sort_pick d I hn MS MD hkD t rv h64 q G inc
  obtain ⟨a, arr, ea, ⟨oa, ha, _, na, da⟩, ia⟩ := getR i hi
  obtain ⟨b, brr, eb, ⟨ob, hb, _, nb, db⟩, ib⟩ := getR j hj
  show kas_ask X.prog X.w X.A.in1.in1 (tuples' true) ks i j C s
  unfold kas_ask
  rw [ea, eb]
  refine kat_lt ha da hb db ?_
  have z := lex_ints (prog := X.prog) (w := X.w) (A := X.A.in1.in1) (i := 0) (Q := C) ia ib hC
  simpa using z
theorem end_int {enc key : β → List Int} {H1 : Hp} {kS D : Addr} {ks vs : List Value} {e e1 : Nat} {g : Heap} {m : Str → Option Value} {xs kv : List V} {bs : List β} (I : Inv X (pin2 pins kS D ks e (lstO [] e1)) σ H s) (hn : s.heap.Ns X.env.locals m) (MS : Mine X pins kS) (MD : Mine X pins D) (hkD : kS ≠ D)
    (t : TupsAt (eI enc) H1 xs bs) (rv : Vals xs vs) (h64 : vs.length < 64) (rk : Vals kv ks) (pk : Paired (KVi key H) kv bs) (q : SortQ enc key H1 H D bs Q) :
    wpAny (model X.prog X.w) X.A.in1.in1 (ksk_end D false vs.toArray e1 (.ref kS) (List.toArray ks)) (fun fin s'' => fin = .done (.ret .none) ∧ EP X pins σ Q (.ref D) s'') (fun _ _ => False) s := by
  have hl := rv.length
  have htl := t.length
  have hkl := rk.length
  have hpl := pk.length
  by_cases h2 : vs.length < 2
  · exact end_few (h₀ := Att.noObjs g) (L := X.env.locals) (m := m) (e := e) (by omega) h2 (sort_fin I hn MS MD hkD rv (by rw [sizeLine_eq]; omega) (few_q t (by omega) q))
  have d : β := bs[0]'(by omega)
  have get : ∀ (kv : List V) (bs : List β) (ks : List Value), Paired (KVi key H) kv bs → Vals kv ks → ∀ (i : Nat) (b : β), bs[i]? = some b → ∃ j u, key b = [j] ∧ ks[i]? = some (Value.int j u) := by
    intro kv bs ks pk rk
    induction pk generalizing ks with
    | nil => intro i b e; simp at e
    | @cons v b' vs' bs' h t ih =>
      cases rk with
      | @cons _ u' _ us' r rr =>
        intro i b e
        cases i with
        | zero =>
          have e' : b' = b := by simpa using e
          subst e'
          obtain ⟨j, e1, e2⟩ := h
          subst e1
          obtain ⟨tk, e3⟩ := r
          exact ⟨j, tk, e2, by rw [e3]; rfl⟩
        | succ i =>
          obtain ⟨j, u, e1, e2⟩ := ih us' rr i b (by simpa using e)
          exact ⟨j, u, e1, by simpa using e2⟩
  have getI := get kv bs ks pk rk
  have isI : ∀ v ∈ ks, ∃ j u, v = Value.int j u := fun v hv => by
    obtain ⟨i, hi⟩ := List.mem_iff_getElem?.mp hv
    have il := (List.getElem?_eq_some_iff.mp hi).1
    obtain ⟨j, u, _, e2⟩ := getI i _ (List.getElem?_eq_getElem (by omega))
    rw [hi] at e2
    exact ⟨j, u, Option.some.inj e2⟩
  refine kat_end (h₀ := Att.noObjs g) (L := X.env.locals) (m := m) (e := e) (b := false) (by omega) (by omega) h64 ?_
  refine kas_kind (T := .type "int") (by omega) (fun v hv => ?_) (by decide) (by decide) ?_
  · obtain ⟨i, t, rfl⟩ := isI v hv
    exact Looks.of_pure rfl
  have getR : ∀ i, i < vs.length → ∃ j u, ks.getD i Value.none = Value.int j u ∧ keyAt key bs d i = [j] := fun i hi => by
    have hb : bs[i]? = some (bs.getD i d) := by
      rw [List.getD_eq_getElem?_getD, List.getElem?_eq_getElem (by omega)]; rfl
    obtain ⟨j, u, e1, e2⟩ := getI i _ hb
    exact ⟨j, u, by rw [List.getD_eq_getElem?_getD, e2]; rfl, e1⟩
  refine Srt.sort (O := lexOrd) (key := keyAt key bs d) (fun i j C hi hj hC => ?_) (by omega) fun p G inc => sort_pick d I hn MS MD hkD t rv h64 q G inc
  obtain ⟨x, u, ex, kx⟩ := getR i hi
  obtain ⟨y, w', ey, ky⟩ := getR j hj
  show kas_ask X.prog X.w X.A.in1.in1 oneType' ks i j C s
  unfold kas_ask
  rw [ex, ey]
  refine kat_lt_int ?_
  have hC' : C (HT.lexLt (keyAt key bs d i) (keyAt key bs d j)) s := hC
  rw [kx, ky, lex1] at hC'
  exact hC'
end
end L2

set_option Elab.async false
set_option linter.all false
set_option maxRecDepth 100000
set_option maxHeartbeats 4000000
namespace L2
open PySem PySem.Spec PyProof.Rows PySem.W
section
variable {X : Cx} {β : Type}
theorem krun_of {f c : Addr} {H1 : Hp} {qual : Str} {params : Arguments} {body : Expr} {scope : Scope} {y : Str} {tb : TE} {k : Nat} {enc : β → List V} {KV : Hp → V → β → Prop} (hf : H1 f = some (LamO f qual params body scope c)) (hc : H1 c = some (CodeO c qual)) (hr : Room (k + 3) X.A) (S : FnScope [y] [y] scope)
    (hb : ∀ c u pm ctv, bindArgs (kla_fn "<lambda>" qual params body scope [] pm (.ref c) ctv) ⟨[u], []⟩ = pure [(y, u)])
    (hbody : ∀ (f c : Addr) (A : Around) (outer : List Env) (s : Shared) (H : Hp), PE (cxOf CX0 X.prog X.w X.K X.mg X.base [y] qual scope f (.ref c) A outer s H E0) body tb)
    (hv : ∀ (H : Hp) (a : Addr) (b : β), H a = some (.tup (enc b)) → tb [some (.ref a)] H fun v H' => Same H H' ∧ KV H' v b) : KRun X (.ref f) H1 enc KV := by
  intro pins σ s H a b m I sm ha hn
  refine wpAny_call (codeAny_mono (lam_run (X := X) (pins := pins) (σ := σ) (A := X.A.in1.in1) (outer := X.stack) (Q := fun v H' => Same H H' ∧ KV H' v b) (sm _ _ hf) (sm _ _ hc) hr.in1.in1 I.env0.in1.in1 S (hb c (.ref a)) (hbody _ _ _ _ _ _) (v := .ref a) rfl (hv H a b ha)) fun r s' h => ?_)
  cases r with
  | error e => exact False.elim h
  | ok fl =>
    cases fl with
    | next => exact False.elim h
    | brk => exact False.elim h
    | cont => exact False.elim h
    | ret u =>
      obtain ⟨v, H', os, bare, un, hok, rv, q1, q2⟩ := h
      obtain ⟨o, es, ep, ho, rr⟩ := hn
      obtain ⟨sl, hL⟩ := un.any ho I.free (by simp)
      exact ⟨v, H', I.call' (ch := []) os un hok bare fun b z => (nomatch z), ⟨_, es, ep, hL, rr⟩, rv, q1, q2⟩
end
/-- what sorted(xs, key=..) asks: T for keys that are tuples of ints, I for ints -/
def SortEnd (tup : Bool) (K : PySem.W.Frag) (P : Addr) (lpos : Pos) (qual : Str) (tb : TE) (Q : VK) (x : V) (H1 : Hp) : Prop :=
  ∃ (β : Type) (enc key : β → List Int) (l : Addr) (xs : List V) (bs : List β), x = .ref l ∧ SqL K H1 l xs ∧ TupsAt (eI enc) H1 xs bs ∧ xs.length < 64 ∧ (∀ b, key b ≠ []) ∧ TabIs P lpos qual H1 ∧
  (∀ (H : Hp) (a : Addr) (b : β), H a = some (.tup (eI enc b)) → tb [some (.ref a)] H fun v H' => Same H H' ∧ (if tup = true then KVt key H' v b else KVi key H' v b)) ∧
  ∀ p ys cs H2, H1 p = none → SamB [P] H1 H2 → TabIs P lpos qual H2 → H2 p = some (.lst ys) → TupsAt (eI enc) H2 ys cs → cs.Perm bs → cs.Pairwise (fun a b => HT.lexLt (key b) (key a) = false) → Q (.ref p) H2
def tSortK (tup : Bool) (K : PySem.W.Frag) (P : Addr) (lpos : Pos) (qual : Str) (te tb : TE) : TE := fun σ H Q => te σ H (SortEnd tup K P lpos qual tb Q)
theorem i_sortK {tup : Bool} {K : PySem.W.Frag} {P : Addr} {lpos : Pos} {qual : Str} {te tb : TE} {σ : St} {H : Hp} {Q : VK} (h : te σ H (SortEnd tup K P lpos qual tb Q)) : tSortK tup K P lpos qual te tb σ H Q := h
theorem SamB.keepT {P : Addr} {H H' : Hp} {ps : Array Value} (hP : H P = some (.tbl ps)) (a : SamB [P] H H') : KeepT H H' := fun b zs e => a b _ (fun z => by
  have : b = P := by simpa using z
  rw [this, hP] at e; cases e) e
section
variable {X : Cx}
theorem pe_sortK (tup : Bool) {P : Addr} {e : Expr} {te tb : TE} {params : Arguments} {body : Expr} {scope : Scope} {lpos p pos kpos : Pos} {y : Str} {k : Nat} {qual : Str} (hg : Gl X "sorted") (hm : X.mg "sorted" = none) (ha : PE X e te) (hr : Room (k + 3) X.A)
    (hl : PE X (.Lambda params body scope lpos) (tLam P lpos qual params body scope)) (S : FnScope [y] [y] scope)
    (hb : ∀ c u pm ctv, bindArgs (kla_fn "<lambda>" qual params body scope [] pm (.ref c) ctv) ⟨[u], []⟩ = pure [(y, u)])
    (hbody : ∀ (f c : Addr) (A : Around) (outer : List Env) (s : Shared) (H : Hp), PE (cxOf CX0 X.prog X.w X.K X.mg X.base [y] qual scope f (.ref c) A outer s H E0) body tb)
    (hs : starEach [e] X.env = (false, eval e X.env) :: starEach [] X.env := by rfl) :
    PE X (.Call (.Name "sorted" p) [e] [⟨some "key", .Lambda params body scope lpos, kpos⟩] pos) (tSortK tup X.K P lpos qual te tb) := by
  intro pins s σ H Q I h
  refine wpAny_Call_Name_kw (ld_blt I hg hm b_sorted ?_ (by decide) (by decide))
  refine PyProof.Rows.callWith_kw (thn (pa_cons ha pa_nil hs pos pins s σ H (fun vs H1 => ∃ x, vs = [x] ∧ SortEnd tup X.K P lpos qual tb Q x H1) I ?_) fun us s1 ⟨vs, H1, I1, r1, x, ex, q⟩ => ?_) (by rw [hs]; rfl) (by rw [hs]; rfl)
  · have e1 : (fun (x : V) (H1 : Hp) => tNil σ H1 fun xs H2 => (fun vs H1 => ∃ x, vs = [x] ∧ SortEnd tup X.K P lpos qual tb Q x H1) (x :: xs) H2) = fun x H1 => SortEnd tup X.K P lpos qual tb Q x H1 := by
      funext x H1
      refine propext ⟨?_, fun z => ⟨x, rfl, z⟩⟩
      rintro ⟨z, ez, hz⟩
      cases ez
      exact hz
    show te σ H _
    rw [e1]
    exact h
  subst ex
  obtain ⟨u, rfl, ru⟩ := vals1 r1
  obtain ⟨β, enc, key, l, xs, bs, rfl, hS, ht, h64, hne, tab, hv, q⟩ := q
  cases (show u = Value.ref l from ru)
  refine thn (pk_cons hl pk_nil pos pins s1 σ H1 (fun zs H2 => ∃ f c, zs = [.ref f] ∧ SamB [P] H1 H2 ∧ TabIs P lpos qual H2 ∧ H2 c = some (CodeO c qual) ∧ H2 f = some (LamO f qual params body scope c)) I1 ⟨tab, fun f c H' _ h1 h2 h3 h4 => ⟨f, c, rfl, h1, h2, h3, h4⟩⟩)
    fun ws s2 ⟨zs, H2, I2, rz, f, c, ez, sb, tab2, hc, hf⟩ => ?_
  subst ez
  obtain ⟨u, rfl, ru⟩ := vals1 rz
  cases (show u = Value.ref f from ru)
  obtain ⟨ps, hP, _⟩ := id tab
  obtain ⟨ps2, hP2, _⟩ := id tab2
  have ht2 : TupsAt (eI enc) H2 xs bs := ht.mono (sb.keepT hP)
  have hS2 : SqL X.K H2 l xs := by
    have nP : ∀ {o : HO}, H1 l = some o → (∀ ps, o ≠ .tbl ps) → H2 l = some o := fun {o} e n => sb l o (fun z => by
      have : l = P := by simpa using z
      rw [this, hP] at e
      exact n ps (Option.some.inj e).symm) e
    rcases hS with (z | ⟨o, z⟩) | z
    · exact .inl (.inl (nP z fun _ y => by cases y))
    · exact .inl (.inr ⟨o, nP z fun _ y => by cases y⟩)
    · exact .inr z
  obtain ⟨its, rv, pl, hz⟩ := I2.list hS2
  have hlen := rv.length
  obtain ⟨m, hn, _⟩ := id I2.loc
  show wpAny _ _ (call (.builtin "sorted") [.ref l] [(Str.ofString "key", .ref f)]) _ _ _
  refine sortedK_of (f := .ref f) (h₀ := Att.noObjs s2.heap) (L := X.env.locals) (m := m) pl.isList (by omega) (ksk_s1 _ _) (fun _ => ksk_l1 _ _) (fun x => ksk_t1 _ _) fun D kS e1 h' hD hDk kp oD okS => ?_
  have hkD : kS ≠ D := Nat.ne_of_gt hDk
  have fk : H2 kS = none := I2.hok.fresh (by omega)
  have fD : H2 D = none := I2.hok.fresh hD
  have MS : Mine X pins kS := I2.mine (by omega)
  have MD : Mine X pins D := I2.mine hD
  have I3 : Inv X pins σ H2 { s2 with heap := h' } := I2.kept (t' := s2.toks) kp
  have hn3 : h'.Ns X.env.locals m := by
    obtain ⟨o, es, ep, e, r⟩ := hn
    exact ⟨o, es, ep, kp _ _ e, r⟩
  have I4 : Inv X (pin2 pins kS D [] 0 (lstO [] e1)) σ H2 { s2 with heap := h' } := I3.pins_of fun p hp => by
    rcases List.mem_cons.mp hp with rfl | hp
    · exact ⟨okS, fk, MS.loc, MS.fs, fun v z => by cases z⟩
    · rcases List.mem_cons.mp hp with rfl | hp
      · exact ⟨oD, fD, MD.loc, MD.fs, fun v z => by cases z⟩
      · exact I3.pin p (List.mem_append_right _ hp)
  have fin : ∀ H', Same H2 H' → H' D = none → SortQ enc key H2 H' D bs Q := fun H' sm nD ys cs ty pm pw => by
    have old : ∀ b o, H2 b = some o → upd H' D (.lst ys) b = some o := fun b o e => by rw [upd_ne (fun z => by rw [z, fD] at e; cases e)]; exact sm _ _ e
    refine q D ys cs _ ?_ (fun b o n e => old b o (sb b o n e)) ?_ upd_same (ty.mono fun b zs e => old b _ e) pm pw
    · cases z : H1 D with
      | none => rfl
      | some o =>
        have nD : D ∉ [P] := fun y => by
          have : D = P := by simpa using y
          rw [this, hP2] at fD; cases fD
        rw [sb D o nD z] at fD; cases fD
    · obtain ⟨ps, h1, h2⟩ := tab2
      refine ⟨ps, old _ _ h1, ?_⟩
      rcases h2 with h2 | ⟨c, h2, h3⟩
      · exact .inl h2
      · exact .inr ⟨c, h2, old _ _ h3⟩
  cases tup with
  | true =>
    have hv' : ∀ (H : Hp) (a : Addr) (b : β), H a = some (.tup (eI enc b)) → tb [some (.ref a)] H fun v H' => Same H H' ∧ KVt key H' v b := hv
    refine keys_loop (enc := eI enc) KVt.mono (krun_of hf hc hr S hb hbody hv') MS hkD xs bs its [] [] [] 0 _ H2 I4 hn3 (Same.refl _) ht2 rv .nil .nil fun ks' kv' e' s' H' J1 J2 J3 J4 J5 hlen' => ?_
    exact end_tup (g := s2.heap) hne J1 J2 MS MD hkD ht2 rv (by omega) J4 J5 (fin H' J3 (J1.pin (D, lstO [] e1) (List.mem_append_right _ (.tail _ (.head _)))).2.1)
  | false =>
    have hv' : ∀ (H : Hp) (a : Addr) (b : β), H a = some (.tup (eI enc b)) → tb [some (.ref a)] H fun v H' => Same H H' ∧ KVi key H' v b := hv
    refine keys_loop (enc := eI enc) KVi.mono (krun_of hf hc hr S hb hbody hv') MS hkD xs bs its [] [] [] 0 _ H2 I4 hn3 (Same.refl _) ht2 rv .nil .nil fun ks' kv' e' s' H' J1 J2 J3 J4 J5 hlen' => ?_
    exact end_int (g := s2.heap) J1 J2 MS MD hkD ht2 rv (by omega) J4 J5 (fin H' J3 (J1.pin (D, lstO [] e1) (List.mem_append_right _ (.tail _ (.head _)))).2.1)
end
end L2

set_option Elab.async false
set_option linter.all false
set_option maxRecDepth 100000
set_option maxHeartbeats 4000000
/-! list(reversed(xs)) -/
namespace L2
open PySem PySem.Spec PyProof.Rows
theorem lri_no_len : typeLookup (.type "list_reverseiterator") "__len__" = pure none := by rw [typeLookup_type, builtinLookup_eq_fast]; kernel_rfl
theorem lri_hint : typeLookup (.type "list_reverseiterator") "__length_hint__" = pure (some (.builtin "list_reverseiterator.__length_hint__")) := by rw [typeLookup_type, builtinLookup_eq_fast]; kernel_rfl
section
variable {prog : Program} {w : World} {A : Around} {E : Value → Shared → Prop} {s : Shared}
theorem hint_rev {r : Addr} {Q : Bool → Shared → Prop} (hT : s.TypeIs (.ref r) "list_reverseiterator") (h : Q false s) : wpAny (model prog w) A (Builtin.List.listLengthHint (.ref r)) Q E s := by
  unfold Builtin.List.listLengthHint
  refine wpAny_bind (wpAny_specialOf hT lri_no_len ?_)
  refine wpAny_ite_split (fun hab => absurd hab (by decide +kernel)) (fun _ => ?_)
  refine wpAny_ite_split (fun hab => absurd hab (by decide +kernel)) (fun _ => ?_)
  refine wpAny_bind (wpAny_specialOf hT lri_hint ?_)
  generalize hid : ("list_reverseiterator.__length_hint__" : String) = id0
  wp_delta
  rw [show splitId id0 = some ("list_reverseiterator", "__length_hint__") from by subst hid; decide +kernel]
  subst hid
  refine wpAny_bind (wpAny_isInstance (T := "list_reverseiterator") (b := true) hT (by rw [isSubtype_type]; kernel_rfl) ?_)
  refine wpAny_ite_split (fun hab => absurd hab (by decide)) (fun _ => ?_)
  refine wpAny_ite_split (fun _ => ?_) (fun hab => absurd (by decide +kernel) hab)
  refine wpAny_ite_split (fun hab => absurd hab (by decide +kernel)) (fun _ => wpAny_pure h)
theorem extend_rev {R : Result → Shared → Prop} {I l : Addr} {items : Array Value} (hh : A.handled = none) (hit : s.heap.IsRevIter I l ((items.size : Int) - 1)) (hl : s.heap.IsList l items) (hne : l ≠ I) (hz : items.size ≤ sizeLine) (S : Addr) (res : Value) (c₀ : Nat)
    (hS : s.heap.get? S = some { cls := .type "list", data := .seq #[] c₀ }) (hSI : S ≠ I) (hSl : S ≠ l)
    (hR : ∀ h' tk acc' c', (∀ b o, b ≠ S → b ≠ I → s.heap.get? b = some o → h'.get? b = some o) → h'.get? S = some { cls := .type "list", dict := none, data := .seq acc' c', slots := #[] } → acc'.size = items.size →
      (∀ j v, acc'[j]? = some v → items[items.size - 1 - j]? = some v) → R (.ok (.ret res)) { s with heap := h', toks := tk }) :
    wpAny (model prog w) A.in1 (Builtin.List.listExtendWith (.ref S) (.ref I) res)
      (fun fin s' => match fin with | .done f => R (.ok f) s' | .again c' => c'.quiet = true ∧ codeAny (model prog w) A c' R s') (fun e s' => R (.error e) s') s := by
  have W := (Walks.listRev (prog := prog) (w := w) (A := A.in1) hh I l hne items).toS
  have hSf : S ∉ [I, l] := by simp [hSI, hSl]
  unfold Builtin.List.listExtendWith
  refine wpAny_bind (wpAny_typeOf hit.typeIs ?_)
  have h1 : Builtin.List.listSameRef (.ref S) (.ref I) = false := by simp [Builtin.List.listSameRef, hSI]
  have h2 : (Value.type "list_reverseiterator" == Value.type "list") = false := by decide
  have h3 : (Value.type "list_reverseiterator" == Value.type "tuple") = false := by decide
  simp only [h1, h2, h3, Bool.or_false, Bool.false_eq_true, if_false]
  refine wpAny_bind (wpAny_pyIter_revIter hit ?_)
  refine wpAny_bind (wpAny_holding (hint_rev hit.typeIs ?_))
  refine wpAny_ite_split (fun hab => absurd hab (by decide +kernel)) (fun _ => ?_)
  have st0 : 0 ≤ items.size ∧ s.heap.IsRevIter I l ((items.size : Int) - 1 - ((0 : Nat) : Int)) ∧ s.heap.IsList l items := ⟨Nat.zero_le _, by simpa using hit, hl⟩
  refine wpAny_pure ⟨plainId_quiet F.plain_extend_loop _, codeAny_extend_loopS W hz S hSf res items.size 0 _ #[] c₀ rfl (Nat.zero_le _) st0 hS (ItemsOf.nil _) fun s' acc' c' hm hS' hacc => ?_⟩
  rw [Moved.eq_with hm]
  refine hR s'.heap s'.toks acc' c' (fun b o h1 h2 e => hm.heap b o (fun hmem => ?_) e) hS' hacc.1 hacc.2
  · rcases List.mem_cons.mp hmem with e' | hmem
    · exact h1 e'
    · exact h2 (List.mem_singleton.mp hmem)
theorem init_rev {R : Result → Shared → Prop} {I l : Addr} {items : Array Value} (hh : A.handled = none) (hit : s.heap.IsRevIter I l ((items.size : Int) - 1)) (hl : s.heap.IsList l items) (hne : l ≠ I) (hz : items.size ≤ sizeLine) (S : Addr)
    (hS : s.heap.get? S = some { cls := .type "list", data := .seq #[] }) (hSI : S ≠ I) (hSl : S ≠ l)
    (hR : ∀ h' tk acc' c', (∀ b o, b ≠ S → b ≠ I → s.heap.get? b = some o → h'.get? b = some o) → h'.get? S = some { cls := .type "list", dict := none, data := .seq acc' c', slots := #[] } → acc'.size = items.size →
      (∀ j v, acc'[j]? = some v → items[items.size - 1 - j]? = some v) → R (.ok (.ret .none)) { s with heap := h', toks := tk }) :
    wpAny (model prog w) A.in1 (Builtin.«list.__init__» ⟨[.ref S, .ref I], []⟩)
      (fun fin s' => match fin with | .done f => R (.ok f) s' | .again c' => c'.quiet = true ∧ codeAny (model prog w) A c' R s') (fun e s' => R (.error e) s') s := by
  show wpAny _ A.in1 (do let old ← Builtin.List.listItems (.ref S); Builtin.List.listUpdate (.ref S) (fun _ => #[]); letGo (old.toList.reverse); Builtin.List.listExtendWith (.ref S) (.ref I) .none) _ _ s
  refine wpAny_bind ?_
  unfold Builtin.List.listItems
  refine wpAny_bind (wpAny_seqItems hS rfl (wpAny_pure ?_))
  show wpAny _ A.in1 (updateSeq S (fun _ => #[]) >>= fun _ => letGo ((#[] : Array Value).toList.reverse) >>= fun _ => Builtin.List.listExtendWith (.ref S) (.ref I) .none) _ _ s
  refine wpAny_bind (wpAny_updateSeq hS rfl ?_)
  have hS2 := Heap.get?_update_self (Obj.mapSeq (fun _ => (#[] : Array Value))) hS rfl
  have oth : ∀ b o, b ≠ S → s.heap.get? b = some o → (s.heap.update S (Obj.mapSeq (fun _ => (#[] : Array Value)))).get? b = some o := fun b o hb e => ((Heap.get?_update_other _ _ (Ne.symm hb)).trans e)
  refine wpAny_bind (wpAny_letGo ?_)
  refine extend_rev hh (hit.at fun o e => oth I o (Ne.symm hSI) e) (hl.at fun o e => oth l o (Ne.symm hSl) e) hne hz S .none _ hS2 hSI hSl fun h' tk acc' c' hk hS' h1 h2 => ?_
  exact hR h' tk acc' c' (fun b o hb hb2 e => hk b o hb hb2 (oth b o hb e)) hS' h1 h2
theorem list_rev {Q : Value → Shared → Prop} {I l : Addr} {items : Array Value} (hh : A.handled = none) (hit : s.heap.IsRevIter I l ((items.size : Int) - 1)) (hl : s.heap.IsList l items) (hne : l ≠ I) (hz : items.size ≤ sizeLine)
    (hQ : ∀ h' tk acc' c', (∀ b o, b ≠ I → s.heap.get? b = some o → h'.get? b = some o) → h'.get? s.heap.objs.size = some { cls := .type "list", dict := none, data := .seq acc' c', slots := #[] } → acc'.size = items.size →
      (∀ j v, acc'[j]? = some v → items[items.size - 1 - j]? = some v) → Q (.ref s.heap.objs.size) { s with heap := h', toks := tk }) : wpAny (model prog w) A (call (.type "list") [.ref I]) Q E s := by
  refine callType_codes (Q₁ := fun obj s₁ => obj = .ref s.heap.objs.size ∧ s₁ = { s with heap := s.heap.push { cls := .type "list", data := .seq #[] } }) F.called_list (F.typeCall_list_1 _) F.entry_list_init
    (code_list_new _ ⟨rfl, rfl⟩) fun obj s₁ ⟨e1, e2⟩ => ?_
  subst e1
  subst e2
  have hS : (s.heap.push { cls := .type "list", data := .seq #[] }).get? s.heap.objs.size = some { cls := .type "list", data := .seq #[] } := (Heap.get?_push_size _ rfl)
  have hI : I < s.heap.objs.size := let ⟨o, ho, _⟩ := hit; Heap.lt_size ho
  have hl' : l < s.heap.objs.size := let ⟨o, ho, _⟩ := hl; Heap.lt_size ho
  refine ⟨⟨_, hS, rfl⟩, F.args_list_init_2 _ _, init_rev (A := A.in1) hh (hit.at fun o e => Heap.get?_push_of_some _ e) (hl.at fun o e => Heap.get?_push_of_some _ e) hne hz _ hS (Nat.ne_of_gt hI) (Nat.ne_of_gt hl') fun h' tk acc' c' hk hS' h1 h2 => ?_⟩
  exact ⟨rfl, hQ h' tk acc' c' (fun b o hb e => hk b o (Nat.ne_of_lt (Heap.lt_size e)) hb (Heap.get?_push_of_some _ e)) hS' h1 h2⟩
end
theorem b_reversed : bootBuiltins "reversed" = some (.type "reversed") := by decide +kernel
def tLR (K : PySem.W.Frag) (te : TE) : TE := fun σ H Q => te σ H fun x H1 => ∃ l ys, x = .ref l ∧ SqL K H1 l ys ∧ ∀ p, H1 p = none → Q (.ref p) (upd H1 p (.lst ys.reverse))
theorem vals_rev : ∀ {xs : List V} {us : List Value}, Vals xs us → Vals xs.reverse us.reverse
  | _, _, .nil => .nil
  | _, _, .cons (a := x) (b := u) r t => by
    rw [List.reverse_cons, List.reverse_cons]
    exact (vals_rev t).append (.cons r .nil)
section
variable {X : Cx}
theorem pe_listRev {e : Expr} {te : TE} {p p2 pos pos2 : Pos} (hc : X.calm = true) (hg1 : Gl X "list") (hm1 : X.mg "list" = none) (hg2 : Gl X "reversed") (hm2 : X.mg "reversed" = none) (ha : PE X e te) (hs : starEach [e] X.env = (false, eval e X.env) :: starEach [] X.env := by rfl) :
    PE X (.Call (.Name "list" p) [.Call (.Name "reversed" p2) [e] [] pos2] [] pos) (tLR X.K te) := by
  intro pins s σ H Q I h
  refine wpAny_Call_Name_kw (ld_blt I hg1 hm1 b_list ?_ (by decide) (by decide))
  refine PyProof.Rows.callWith_type1 (Calls.spliced_cons ?_) rfl rfl
  refine wpAny_Call_Name_kw (ld_blt I hg2 hm2 b_reversed ?_ (by decide) (by decide))
  refine PyProof.Rows.callWith_type1 ?_ hs (by rfl)
  rw [show backTo pos2 (starEach [e] X.env) = (false, eval e X.env) :: backTo pos2 (starEach [] X.env) from by rw [hs]; rfl]
  refine Calls.spliced_cons (thn (ha pins s σ H _ I h) fun u s1 ⟨x, H1, I1, rx, l, ys, ex, hS, q⟩ => Calls.spliced_nil ?_)
  subst ex
  cases (show u = Value.ref l from rx)
  obtain ⟨its, rv, pl, hz⟩ := I1.list hS
  have hlen := rv.length
  refine call_reversed_list pl.isList ?_
  refine Calls.spliced_nil ?_
  have I2 : Inv X pins σ H1 { s1 with heap := s1.heap.push (revObj l ((its.toArray.size : Int) - 1)) } := I1.kept (t' := s1.toks) fun b o e => Heap.get?_push_of_some _ e
  have M : Mine X pins s1.heap.objs.size := I1.mine (Nat.le_refl _)
  have ll : l < s1.heap.objs.size := let ⟨o, ho, _⟩ := pl.isList; Heap.lt_size ho
  refine list_rev (I.ok.hd hc) ⟨_, Heap.get?_push_size _ rfl, rfl, rfl⟩ (pl.isList.at fun o e => Heap.get?_push_of_some _ e) (Nat.ne_of_lt ll) (by rw [List.size_toArray]; omega) fun h' tk acc' c' hk hS' h1 h2 => ?_
  obtain ⟨m, hn, _⟩ := id I2.loc
  have hn2 : h'.Ns X.env.locals m := by
    obtain ⟨o, es, ep, e, r⟩ := hn
    exact ⟨o, es, ep, hk _ _ (Ne.symm M.loc) e, r⟩
  have I3 := I2.moved (h' := h') (t' := tk) M (I1.hok.fresh (Nat.le_refl _)) hn hn2 fun c o hc _ e => hk c o hc e
  have MS := I2.mine (Nat.le_refl _)
  have eS : (s1.heap.push (revObj l ((its.toArray.size : Int) - 1))).objs.size = s1.heap.objs.size + 1 := by rw [Heap.size_push]
  have fS : H1 (s1.heap.push (revObj l ((its.toArray.size : Int) - 1))).objs.size = none := I2.hok.fresh (Nat.le_refl _)
  have ea : acc'.toList = its.reverse := by
    apply List.ext_getElem?
    intro j
    by_cases hj : j < acc'.size
    · have e1 : acc'[j]? = some acc'[j] := Array.getElem?_eq_getElem hj
      have e2 := h2 j _ e1
      rw [Array.getElem?_toList, e1, ← e2, List.getElem?_toArray, List.size_toArray, List.getElem?_reverse (by rw [h1, List.size_toArray] at hj; exact hj)]
    · rw [Array.getElem?_toList, Array.getElem?_eq_none (by omega), List.getElem?_eq_none (by rw [List.length_reverse]; simp at h1; omega)]
  have I4 := I3.ended (h' := h') (t' := tk) (o := .lst ys.reverse) MS fS hn2 hn2 (fun c o _ _ e => e) ⟨by rw [List.length_reverse]; exact hz, its.reverse, c', vals_rev rv, by rw [← ea, Array.toArray_toList]; exact hS'⟩
  exact ⟨.ref _, _, I4, rfl, q _ fS⟩
end
end L2

set_option Elab.async false
set_option linter.all false
set_option maxRecDepth 100000
set_option maxHeartbeats 4000000
/-! the head of a law whose program makes lambdas: the tables of their defs are tracked from the entry on -/
namespace L2
open PySem PySem.Spec PyProof.Rows PySem.W
abbrev lq (x : Str) : Str := (x ++ ".<locals>.") ++ "<lambda>"
theorem law_callT {P : Program} {w : World} {K : PySem.W.Frag} {mg mb : Str → Option Value} {k : Nat} {fa a : Addr} {fd : FuncData} {x : Str} {sp : Sp} {s₁ : Shared} {vs : List Value} {ns : List Int} {tabs : List (Addr × Addr)}
    (KX : K.In s₁.heap) (hns : s₁.heap.Ns mainGlobals mg) (hb : s₁.heap.Ns builtinsNs mb) (hbb : ∀ x : Str, x ≠ "__name__" → mb x = bootBuiltins x) (hlim : s₁.heap.NoLimit) (hg : s₁.gens = #[])
    (ha : s₁.heap.get? a = some { cls := .type "list", data := .seq vs.toArray }) (hi : IntsAre vs ns) (hl : ns.length ≤ sizeLine) (hr : Room k callerA)
    (hT : ∀ p ∈ tabs, s₁.heap.get? p.2 = some (tabObj #[])) (hC : ∀ p ∈ tabs, codeHdIn K p.1 p.2 = true) (hN : ∀ p ∈ tabs, K.lookup p.2 = none)
    (hbm : ∃ bm ob, mg "__builtins__" = some (.ref bm) ∧ bm ≠ builtinsNs ∧ s₁.heap.get? bm = some ob ∧ ob.cls = .type "module" ∧ ob.dict = some builtinsNs ∧ ob.data = .plain)
    (F : ∀ base : Heap, K.In base → base.Ns mainGlobals mg → BM base mg → FnOk P w K mg base CX0 k fa fd [x] sp) (hbind : ∀ (s : Shared) (u : Value), BindsTo s fd ⟨[u], []⟩ [(x, u)])
    (hsp : ∀ H : Hp, (∀ p ∈ tabs, H p.2 = some (.tbl #[])) → SqL K H a (ns.map V.int) → sp [.ref a] H (fun v _ => v = .bl true) fun _ _ _ => False) :
    codeAny (model P w) callerA (.call (.ref fa) ⟨[.ref a], []⟩) (fun r s' => r = .ok (.ret (.bool true)) ∧ OldK s₁.heap s'.heap ∧ s'.os = s₁.os ∧ AllBare s'.gens) s₁ := by
  have rv := vals_ints hi
  have lenV := hi.length
  have aT : ∀ p ∈ tabs, p.2 ≠ a := fun p hp z => by
    have e := hT p hp
    rw [z, ha] at e; cases e
  have isT : ∀ {b : Addr}, b ∈ tabs.map (·.2) → ∃ p ∈ tabs, p.2 = b ∧ s₁.heap.get? b = some (tabObj #[]) := fun {b} hb => by
    obtain ⟨p, hp, e⟩ := List.mem_map.mp hb
    exact ⟨p, hp, e, by rw [← e]; exact hT p hp⟩
  have core : ∀ H0 : Hp, (∀ b, H0 b = none ∨ ∃ o xs, H0 b = some (.frz o (.lst xs))) → SqL K (fun b => if b ∈ tabs.map (·.2) then some (.tbl #[]) else H0 b) a (ns.map V.int) → (∀ b u, H0 b = some u → ObjOk P w (fun b => if b ∈ tabs.map (·.2) then some (.tbl #[]) else H0 b) s₁.heap b u) → (∀ b, H0 b ≠ none → b = a) → (H0 a ≠ none → K.lookup a = none) →
      codeAny (model P w) callerA (.call (.ref fa) ⟨[.ref a], []⟩) (fun r s' => r = .ok (.ret (.bool true)) ∧ OldK s₁.heap s'.heap ∧ s'.os = s₁.os ∧ AllBare s'.gens) s₁ := by
    intro H0 hO hS hok0 hA hK
    have cases_ : ∀ b, ((fun b => if b ∈ tabs.map (·.2) then some (HO.tbl #[]) else H0 b) b = some (.tbl #[]) ∧ b ∈ tabs.map (·.2)) ∨ ((fun b => if b ∈ tabs.map (·.2) then some (HO.tbl #[]) else H0 b) b = H0 b ∧ b ∉ tabs.map (·.2)) := fun b => by
      by_cases c : b ∈ tabs.map (·.2)
      · exact .inl ⟨if_pos c, c⟩
      · exact .inr ⟨if_neg c, c⟩
    generalize hH : (fun b => if b ∈ tabs.map (·.2) then some (HO.tbl #[]) else H0 b : Hp) = H at hS hok0 cases_
    have hok : HOk P w H s₁.heap := fun b u e => by
      rcases cases_ b with ⟨c, m⟩ | ⟨c, m⟩
      · rw [c] at e
        cases e
        exact (isT m).choose_spec.2.2
      · exact hok0 b u (c ▸ e)
    have base_of : ∀ {b : Addr} {o : Obj}, s₁.heap.get? b = some o → H b = none → (hidT s₁.heap H).get? b = some o := fun e n => hidT_get e n
    have free_of : ∀ {b : Addr} {o : Obj}, s₁.heap.get? b = some o → (∀ vs, o.data ≠ .fields vs) → (∀ xs n, o.data ≠ .seq xs n) → H b = none := fun {b o} e n1 n2 => by
      rcases cases_ b with ⟨c, m⟩ | ⟨c, m⟩
      · obtain ⟨p, _, _, e2⟩ := isT m
        rw [e] at e2
        exact absurd (by rw [Option.some.inj e2]) (n1 #[])
      · rw [c]
        cases q : H0 b with
        | none => rfl
        | some u =>
          have e' : b = a := hA b (by rw [q]; simp)
          rw [e', ha] at e
          exact absurd (by rw [← Option.some.inj e]) (n2 vs.toArray 0)
    have nsK : ∀ {b : Addr} {m : Str → Option Value}, s₁.heap.Ns b m → (hidT s₁.heap H).Ns b m := fun {b m} ⟨o, es, ep, e, d, r⟩ => ⟨o, es, ep, base_of e (free_of e (fun _ z => by rw [d] at z; cases z) (fun _ _ z => by rw [d] at z; cases z)), d, r⟩
    have hKb : K.In (hidT s₁.heap H) := fun b o e => base_of (KX b o e) (by
      rcases cases_ b with ⟨c, m⟩ | ⟨c, m⟩
      · obtain ⟨p, hp, e2, _⟩ := isT m
        have := hN p hp
        rw [e2, e] at this; cases this
      · rw [c]
        cases q : H0 b with
        | none => rfl
        | some u =>
          have e' : b = a := hA b (by rw [q]; simp)
          subst e'
          rw [hK (by rw [q]; simp)] at e; cases e)
    have hM : Mod K mg (hidT s₁.heap H) := ⟨hKb, nsK hns, ⟨mb, nsK hb, hbb⟩, let ⟨mc, h1, h2⟩ := hlim; ⟨mc, nsK h1, h2⟩⟩
    have e0 : Env0 P w K mg (hidT s₁.heap H) callerA [] s₁ H := ⟨rfl, hM, fun b o e => of_hidT e, Nat.le_of_eq (hidT_size _ _), trivial, fun b hb => absurd (show b ∈ ([] : List Addr) from hb) (by simp), hok, .of_eq hg⟩
    have hBM : BM (hidT s₁.heap H) mg := by
      obtain ⟨bm, ob, b1, b2, b3, b4, b5, b6⟩ := hbm
      refine ⟨bm, ob, b1, b2, fun q => ?_, base_of b3 (free_of b3 (fun _ z => by rw [b6] at z; cases z) (fun _ _ z => by rw [b6] at z; cases z)), b4, b5, b6⟩
      obtain ⟨o, es, ep, e, hd, _⟩ := hns
      rw [q, e] at b3
      cases b3
      rw [hd] at b6; cases b6
    have hTT : ∀ p ∈ tabs, H p.2 = some (.tbl #[]) := fun p hp => by
      rcases cases_ p.2 with ⟨c, m⟩ | ⟨c, m⟩
      · exact c
      · exact absurd (List.mem_map_of_mem hp) m
    refine codeAny_mono ((F _ hKb (nsK hns) hBM).run callerA [] s₁ H ⟨[.ref a], []⟩ [.ref a] [.ref a] _ _ hr e0 (hbind s₁ (.ref a)) (.cons rfl .nil) (hsp H hTT hS)) fun r s' h => ?_
    cases r with
    | error e => exact False.elim h
    | ok fl =>
      cases fl with
      | next => exact False.elim h
      | brk => exact False.elim h
      | cont => exact False.elim h
      | ret u =>
        obtain ⟨v, H', os, bare, un, hok', r', q⟩ := h
        have q' : v = .bl true := q
        subst q'
        obtain rfl : u = Value.bool true := r'
        refine ⟨rfl, ⟨fun b o e => ?_, fun b o e => un.there b o e (by simp)⟩, os, bare⟩
        rcases cases_ b with ⟨c, m⟩ | ⟨c, m⟩
        · obtain ⟨p, hp, e2, e3⟩ := isT m
          obtain ⟨more, c'⟩ := un.tbls b _ c
          have hP : s'.heap.get? b = some (tabObj (#[] ++ more)) := hok' b _ c'
          rw [e] at e3
          have eo : o = tabObj #[] := Option.some.inj e3
          subst eo
          refine .inr (.inl ⟨?_, rfl, #[], more, rfl, hP⟩)
          have z := ((codeHd_of_K KX (hC p hp)).tab (hT p hp)).isCodeTable
          rw [e2] at z
          exact z
        · refine .inl ?_
          cases q : H0 b with
          | none => exact un.keep b o e (c.trans q) (by intro z; exact absurd (show b ∈ ([] : List Addr) from z) (by simp)) (by simp)
          | some u =>
            rcases hO b with z | ⟨ob, xs, z⟩
            · rw [q] at z; cases z
            · have z1 : H b = some (.frz ob (.lst xs)) := c.trans z
              have z2 := un.frzs b ob _ z1
              obtain ⟨e1, _⟩ := hok b _ z1
              obtain ⟨e2, _⟩ := hok' b _ z2
              rw [e] at e1; cases e1
              exact e2
  have aN : a ∉ tabs.map (·.2) := fun z => by
    obtain ⟨p, hp, e⟩ := List.mem_map.mp z
    exact aT p hp e
  cases hk : K.lookup a with
  | some o =>
    have e := KX a o hk
    rw [ha] at e
    cases e
    refine core (fun _ => none) (fun _ => .inl rfl) (.inr ⟨_, vs.toArray, _, hk, rfl, rfl, rfl, by rw [List.size_toArray, lenV]; exact hl, by simpa using rv⟩) (fun b u z => by have z' : (none : Option HO) = some u := z; cases z') (fun b z => absurd rfl z) fun z => absurd rfl z
  | none =>
    refine core (fun b => if b = a then some (.frz { cls := .type "list", data := .seq vs.toArray } (.lst (ns.map V.int))) else none) (fun b => ?_) (.inl (.inr ⟨{ cls := .type "list", data := .seq vs.toArray }, (if_neg aN).trans (if_pos rfl)⟩)) (fun b u z => ?_) (fun b z => ?_) fun _ => hk
    · by_cases hb : b = a
      · exact .inr ⟨_, _, if_pos hb⟩
      · exact .inl (if_neg hb)
    · by_cases hb : b = a
      · have z' := (if_pos hb).symm.trans z
        cases z'
        subst hb
        exact ⟨ha, by rw [List.length_map]; exact hl, vs, _, rv, ha⟩
      · have z' := (if_neg hb).symm.trans z
        cases z'
    · by_cases hb : b = a
      · exact hb
      · exact absurd (if_neg hb) z
theorem walk_ofT {l : PySem.W.OpenLaw} {n k : Nat} {q : Program} {loose : List Str} {XP : (Str → Option Value) → Heap → Prop} {YP : World → Heap → Prop} {d : DefRec} {K : Params → PySem.W.Frag} {x : Str} {ts : List Addr}
    (hn : l.most = some n) (hn2 : n ≤ sizeLine) (hdf : d.params.defaults = []) (hr : Room k callerA)
    (hY : ∀ (w : World) (h : Heap), YP w h → (K w.params).In h ∧ ∀ P ∈ ts, h.get? P = some (tabObj #[]))
    (F : ∀ (w : World) (mg : Str → Option Value) (fa : Addr) (h : Heap), (K w.params).In h → h.Ns mainGlobals mg → mg d.name = some (.ref fa) →
      ∃ (fd : FuncData) (sp' : Sp) (tabs : List (Addr × Addr)), (∀ (s : Shared) (u : Value), BindsTo s fd ⟨[u], []⟩ [(x, u)]) ∧ (∀ p ∈ tabs, p.2 ∈ ts) ∧ (∀ p ∈ tabs, codeHdIn (K w.params) p.1 p.2 = true) ∧ (∀ p ∈ tabs, (K w.params).lookup p.2 = none) ∧
        (∀ base : Heap, (K w.params).In base → base.Ns mainGlobals mg → BM base mg → FnOk l.prog w (K w.params) mg base CX0 k fa fd [x] sp') ∧
        ∀ (H : Hp) (a : Addr) (ns : List Int), ns.length ≤ n → (∀ p ∈ tabs, H p.2 = some (.tbl #[])) → SqL (K w.params) H a (ns.map V.int) → sp' [.ref a] H (fun v _ => v = .bl true) fun _ _ _ => False) :
    PySem.W.WalkO q loose XP YP l.row.toRowW d [] (fun f vs => PySem.call f vs) := by
  refine Att.attach_call hn hdf fun w s₀ s₁ mg mb fa o pm cd doc a vs ns G Y ho hd hcd hmg hobj hints hlen hg => ?_
  obtain ⟨KX, hT⟩ := hY w _ Y
  obtain ⟨fd, sp', tabs, hb, ht, hC, hN, hF, hsp⟩ := F w mg fa _ KX G.T.g hmg
  exact law_callT KX G.T.g G.T.b G.T.builtins G.T.nolimit hg hobj hints (Nat.le_trans hlen hn2) hr (fun p hp => hT _ (ht p hp)) hC hN G.T.bmain hF hb (fun H hO hS => hsp H a ns hlen hO hS)
end L2
namespace L2
open PySem PySem.Spec PyProof.Rows
section
variable {P : Program} {w : World} {K : PySem.W.Frag} {mg : Str → Option Value} {base : Heap}
/-- a def that makes a lambda: its code is known -/
theorem Fun.okC {x qual : Str} {st : Stmt} {f c : Addr} {fd : FuncData} {N ps : List Str} {k : Nat} {sp : Sp} (F : Fun K x qual st f fd) (hc : fd.code = .ref c) (S : FnScope N ps (defScope st)) (len : ∀ vs H Q E, sp vs H Q E → vs.length = ps.length)
    (hbody : ∀ (A : Around) (outer : List Env) (s : Shared) (H : Hp) (vs : List V) (Q : VK) (E : XK), Room k (A.deeper (envOfC qual (defScope st) s.heap.objs.size f (.ref c))) → sp vs H Q E →
      ∃ t, PSs (cxOf CX0 P w K mg base N qual (defScope st) f (.ref c) A outer s H E).nox (defBody st) t ∧ t { nx := fun _ H' => Q .non H', rt := Q } (start N vs) H) : FnOk P w K mg base CX0 (k + 1) f fd ps sp := by
  obtain ⟨oc, od, kV, doc, pm, an, cdv, ct, osl, rfl, lk, hcd⟩ := F.ex
  cases (show cdv = .ref c from hc)
  refine fn_of lk hcd S len fun A outer s H vs Q E hr hsp => ?_
  obtain ⟨t, h, q⟩ := hbody A outer s H vs Q E hr hsp
  exact ⟨t, h.nox, q⟩
end
end L2
namespace L2
open PySem PySem.Spec PyProof.Rows
theorem TabIs.same {P : Addr} {pos : Pos} {q : Str} {H H' : Hp} (h : TabIs P pos q H) (s : Same H H') : TabIs P pos q H' := by
  obtain ⟨ps, a, b⟩ := h
  refine ⟨ps, s _ _ a, ?_⟩
  rcases b with b | ⟨c, b, d⟩
  · exact .inl b
  · exact .inr ⟨c, b, s _ _ d⟩
theorem TabIs.lst {P l : Addr} {pos : Pos} {q : Str} {H : Hp} {xs ys : List V} (h : TabIs P pos q H) (hl : H l = some (.lst xs)) : TabIs P pos q (upd H l (.lst ys)) := by
  obtain ⟨ps, a, b⟩ := h
  refine ⟨ps, by rw [upd_ne (ne_of a hl (by intro z; cases z))]; exact a, ?_⟩
  rcases b with b | ⟨c, b, d⟩
  · exact .inl b
  · exact .inr ⟨c, b, by rw [upd_ne (ne_of d hl (by intro z; cases z))]; exact d⟩
theorem SamB.upd {ts : List Addr} {H H' : Hp} {l : Addr} {o : HO} (s : SamB ts H H') (h : H l = none) : SamB ts H (upd H' l o) := fun b u n q => by rw [upd_ne (ne_of_none q h)]; exact s b u n q
theorem SamB.free {ts : List Addr} {H H' : Hp} {l : Addr} (s : SamB ts H H') (n : l ∉ ts) (h : H' l = none) : H l = none := by
  cases q : H l with
  | none => rfl
  | some o => rw [s l o n q] at h; cases h
theorem i_cat {K : PySem.W.Frag} {H : Hp} {Q : VK} {l b : Addr} {xs zs : List V} (h1 : H l = some (.lst xs)) (h2 : H b = some (.lst zs)) (hz : xs.length + zs.length ≤ 1000) (h : ∀ p, H p = none → Q (.ref p) (upd H p (.lst (xs ++ zs)))) : rCat (.ref l) (.ref b) H Q :=
  ⟨l, b, xs, zs, rfl, rfl, h1, h2, Nat.le_of_lt (small1000 hz), h⟩
theorem cutDrop (xs : List V) (n : Nat) : cutV xs (some (n : Int)) none = xs.drop n := by
  unfold cutV
  rw [HT.sIx_nat, HT.sIx_none]
  by_cases h : n ≤ xs.length
  · rw [Nat.min_eq_left h]; exact List.take_of_length_le (by rw [List.length_drop]; omega)
  · rw [Nat.min_eq_right (by omega), List.drop_length, List.drop_eq_nil_of_le (by omega)]; simp
theorem cutTake (xs : List V) (n : Nat) : cutV xs none (some (n : Int)) = xs.take n := by
  unfold cutV
  rw [HT.sIx_nat, HT.sIx_none, List.drop_zero, Nat.sub_zero]
  by_cases h : n ≤ xs.length
  · rw [Nat.min_eq_left h]
  · rw [Nat.min_eq_right (by omega), List.take_length, List.take_of_length_le (by omega)]
theorem TupsAt.drop {β : Type} {enc : β → List V} {H : Hp} : ∀ (n : Nat) {xs : List V} {bs : List β}, TupsAt enc H xs bs → TupsAt enc H (xs.drop n) (bs.drop n)
  | 0, _, _, h => h
  | _ + 1, [], [], h => h
  | _ + 1, [], _ :: _, h => h.elim
  | _ + 1, _ :: _, [], h => h.elim
  | n + 1, _ :: _, _ :: _, h => TupsAt.drop n h.2
theorem TupsAt.take {β : Type} {enc : β → List V} {H : Hp} : ∀ (n : Nat) {xs : List V} {bs : List β}, TupsAt enc H xs bs → TupsAt enc H (xs.take n) (bs.take n)
  | 0, _, _, _ => trivial
  | _ + 1, [], [], h => h
  | _ + 1, [], _ :: _, h => h.elim
  | _ + 1, _ :: _, [], h => h.elim
  | n + 1, _ :: _, _ :: _, h => ⟨h.1, TupsAt.take n h.2⟩
theorem TupsAt.rev {β : Type} {enc : β → List V} {H : Hp} : ∀ {xs : List V} {bs : List β}, TupsAt enc H xs bs → TupsAt enc H xs.reverse bs.reverse
  | [], [], h => h
  | [], _ :: _, h => h.elim
  | _ :: _, [], h => h.elim
  | x :: xs, b :: bs, ⟨⟨a, e, ha⟩, t⟩ => by
    rw [List.reverse_cons, List.reverse_cons, e]
    exact (TupsAt.rev t).snoc ha
theorem i_listRev {K : PySem.W.Frag} {σ : St} {H : Hp} {Q : VK} {te : TE} (h : te σ H fun x H1 => ∃ l ys, x = .ref l ∧ SqL K H1 l ys ∧ ∀ p, H1 p = none → Q (.ref p) (upd H1 p (.lst ys.reverse))) : tLR K te σ H Q := h
end L2

set_option Elab.async false
set_option linter.all false
/-! small things for the walk -/
namespace L2
theorem cxK0 {CX : CXT} {P : PySem.Program} {w : PySem.World} {K : PySem.W.Frag} {mg : PySem.Str → Option PySem.Value} {base : PySem.Heap} {N : List PySem.Str} {qual : PySem.Str} {scope : PySem.Scope} {f : PySem.Addr} {cd : PySem.Value} {A : PySem.Around} {outer : List PySem.Env} {s : PySem.Shared} {H : Hp} {E : XK} :
    (cxOf CX P w K mg base N qual scope f cd A outer s H E).nox.K = K := rfl
theorem cxK1 {CX : CXT} {P : PySem.Program} {w : PySem.World} {K : PySem.W.Frag} {mg : PySem.Str → Option PySem.Value} {base : PySem.Heap} {N : List PySem.Str} {qual : PySem.Str} {scope : PySem.Scope} {f : PySem.Addr} {cd : PySem.Value} {A : PySem.Around} {outer : List PySem.Env} {s : PySem.Shared} {H : Hp} {E : XK} :
    (cxOf CX P w K mg base N qual scope f cd A outer s H E).K = K := rfl
section
open PySem
variable {env : PySem.Env} {es as : List PySem.Expr} {c : PySem.Const} {k : Nat} {p : PySem.Pos} {x : PySem.Str} {f a b : PySem.Expr} {kws : List PySem.Keyword} {op : PySem.Operator} {uo : PySem.UnaryOp}
theorem star_Constant {j} : starEach (.Constant c j p :: es) env = (false, eval (.Constant c j p) env) :: starEach es env := rfl
theorem star_Name : starEach (.Name x p :: es) env = (false, eval (.Name x p) env) :: starEach es env := rfl
theorem star_Call : starEach (.Call f as kws p :: es) env = (false, eval (.Call f as kws p) env) :: starEach es env := rfl
theorem star_BinOp : starEach (.BinOp a op b p :: es) env = (false, eval (.BinOp a op b p) env) :: starEach es env := rfl
theorem star_UnaryOp : starEach (.UnaryOp uo a p :: es) env = (false, eval (.UnaryOp uo a p) env) :: starEach es env := rfl
theorem star_Tuple {j} : starEach (.Tuple as j p :: es) env = (false, eval (.Tuple as j p) env) :: starEach es env := rfl
theorem star_List : starEach (.List as p :: es) env = (false, eval (.List as p) env) :: starEach es env := rfl
theorem star_Subscript : starEach (.Subscript a b p :: es) env = (false, eval (.Subscript a b p) env) :: starEach es env := rfl
theorem star_Attribute : starEach (.Attribute a x p :: es) env = (false, eval (.Attribute a x p) env) :: starEach es env := rfl
theorem star_Compare {os} : starEach (.Compare a os as p :: es) env = (false, eval (.Compare a os as p) env) :: starEach es env := rfl
theorem star_ListComp {gs sc} : starEach (.ListComp a gs sc p :: es) env = (false, eval (.ListComp a gs sc p) env) :: starEach es env := rfl
end
end L2

set_option Elab.async false
set_option linter.all false
set_option maxRecDepth 100000
set_option maxHeartbeats 4000000
/-! long lists of written values, at once -/
namespace L2
open PySem PySem.Spec PyProof.Rows
def litV : PySem.Expr → Option V
  | .Constant (.int i) _ _ => some (.int i)
  | .Constant (.str x) _ _ => some (.str x)
  | .BinOp (.Constant (.int i) _ _) .Pow (.Constant (.int j) _ _) _ => if 0 ≤ j ∧ j ≤ 1000000 ∧ i.natAbs < 2 ^ 64 then some (.int (i ^ j.toNat)) else none
  | .UnaryOp .USub (.Constant (.int i) _ _) _ => some (.int (-i))
  | _ => none
def lits : List PySem.Expr → Option (List V)
  | [] => some []
  | e :: es => match litV e, lits es with
    | some v, some vs => some (v :: vs)
    | _, _ => none
def tLits (vs : List V) : TA := fun _ H Q => Q vs H
theorem i_lits {vs : List V} {σ : St} {H : Hp} {Q : List V → Hp → Prop} (h : Q vs H) : tLits vs σ H Q := h
section
variable {X : Cx}
theorem pe_imp {e : PySem.Expr} {t t' : TE} (h : PE X e t) (i : ∀ σ H Q, t' σ H Q → t σ H Q) : PE X e t' := fun pins s σ H Q I q => h pins s σ H Q I (i σ H Q q)
theorem pa_imp {es : List PySem.Expr} {t t' : TA} (h : PA X es t) (i : ∀ σ H Q, t' σ H Q → t σ H Q) : PA X es t' := fun pos pins s σ H Q I q => h pos pins s σ H Q I (i σ H Q q)
theorem lit_ok {e : PySem.Expr} {v : V} (h : litV e = some v) : PE X e (tC v) ∧ ∀ es env, starEach (e :: es) env = (false, eval e env) :: starEach es env := by
  unfold litV at h
  split at h
  · cases h; exact ⟨pe_int, fun _ _ => rfl⟩
  · cases h; exact ⟨pe_str, fun _ _ => rfl⟩
  · split at h
    · rename_i c
      cases h
      exact ⟨pe_imp (pe_op op_pow pe_int pe_int) fun σ H Q q => ⟨_, _, rfl, rfl, c, q⟩, fun _ _ => rfl⟩
    · cases h
  · cases h
    exact ⟨pe_imp (pe_un un_neg pe_int) fun σ H Q q => ⟨_, rfl, q⟩, fun _ _ => rfl⟩
  · cases h
theorem lits_ok : ∀ {es : List PySem.Expr} {vs : List V}, lits es = some vs → PA X es (tLits vs)
  | [], _, h => by
    cases h
    exact pa_imp pa_nil fun σ H Q q => q
  | e :: es, vs, h => by
    unfold lits at h
    split at h
    · rename_i v ws h1 h2
      cases h
      obtain ⟨a, b⟩ := lit_ok (X := X) h1
      exact pa_imp (pa_cons a (lits_ok h2) (b es X.env)) fun σ H Q q => q
    · cases h
theorem pe_lits {es : List PySem.Expr} {vs : List V} {pos : Pos} (h : lits es = some vs) : PE X (.List es pos) (tLst (tLits vs)) := pe_lst (lits_ok h)
theorem ps_setLits {i : Nat} {x : Str} {es : List PySem.Expr} {vs : List V} {pos pos' lp : Pos} (hN : X.N.Nodup) (hi : X.N[i]? = some x) (hx : Loc X.env.scope x) (h : lits es = some vs) (hf : X.fn x = true ∨ X.env.scope.names.lookup x = some .local := by first | exact .inl rfl | exact .inr rfl | assumption) :
    PS X (.Assign [.Name x pos'] (.List es lp) pos) (tAsg (tLst (tLits vs)) (gName i)) := ps_set hN hi hx (pe_lits h) rfl hf
theorem ps_forLits {es : List PySem.Expr} {vs : List V} {tg : PySem.Expr} {body : List Stmt} {g : TG} {tb : TS} {pos lp : Pos} (hp : PassesOwn (model X.prog X.w) X.A X.env X.xe) (hc : X.calm = true) (h : lits es = some vs) (hg : PG X tg g) (hb : PSs X body tb) :
    PS X (.For tg (.List es lp) body [] pos) (tFor (iList X.K (tLst (tLits vs))) g tb) := ps_for hp hc (pi_list (pe_lits h)) hg hb fun _ => rfl
/-- the statements of a def, sealed: so the elaborator does not run them -/
@[irreducible] def SS (X : Cx) (st : List Stmt) (t : TS) : Prop := PSs X st t
theorem SS.out {st : List Stmt} {t : TS} (h : SS X st t) : PSs X st t := by
  unfold SS at h
  exact h
theorem SS.into {st : List Stmt} {t : TS} (h : PSs X st t) : SS X st t := by
  unfold SS
  exact h
theorem ss_cons {st : Stmt} {rest : List Stmt} {t u : TS} (h : PS X st t) (r : SS X rest u) : SS X (st :: rest) (tSeq t u) := .into (pss_cons h r.out)
theorem ss_one {st : Stmt} {t : TS} (h : PS X st t) : SS X [st] t := .into (pss_one h)
theorem ss_setL {i : Nat} {x : Str} {es : List PySem.Expr} {vs : List V} {pos pos' lp : Pos} {rest : List Stmt} {u : TS} (hN : X.N.Nodup) (hi : X.N[i]? = some x) (hx : Loc X.env.scope x) (h : lits es = some vs) (r : SS X rest u) (hf : X.fn x = true ∨ X.env.scope.names.lookup x = some .local := by first | exact .inl rfl | exact .inr rfl | assumption) :
    SS X (.Assign [.Name x pos'] (.List es lp) pos :: rest) (tSeq (tAsg (tLst (tLits vs)) (gName i)) u) := ss_cons (ps_setLits hN hi hx h hf) r
theorem ss_forL {es : List PySem.Expr} {vs : List V} {tg : PySem.Expr} {body : List Stmt} {g : TG} {tb u : TS} {pos lp : Pos} {rest : List Stmt} (hp : PassesOwn (model X.prog X.w) X.A X.env X.xe) (hc : X.calm = true) (h : lits es = some vs) (hg : PG X tg g) (hb : PSs X body tb) (r : SS X rest u) :
    SS X (.For tg (.List es lp) body [] pos :: rest) (tSeq (tFor (iList X.K (tLst (tLits vs))) g tb) u) := ss_cons (ps_forLits hp hc h hg hb) r
end
section
variable {P : Program} {w : World} {K : PySem.W.Frag} {mg : Str → Option Value} {base : Heap} {x qual : Str} {st : Stmt} {f c : Addr} {fd : FuncData} {N ps : List Str} {k : Nat} {sp : Sp}
theorem Fun.okS (F : Fun K x qual st f fd) (S : FnScope N ps (defScope st)) (len : ∀ vs H Q E, sp vs H Q E → vs.length = ps.length)
    (hbody : ∀ (cdv : Value) (A : Around) (outer : List Env) (s : Shared) (H : Hp) (vs : List V) (Q : VK) (E : XK), Room k (A.deeper (envOfC qual (defScope st) s.heap.objs.size f cdv)) → sp vs H Q E →
      ∃ t, SS (cxOf CX0 P w K mg base N qual (defScope st) f cdv A outer s H E).nox (defBody st) t ∧ t { nx := fun _ H' => Q .non H', rt := Q } (start N vs) H) : FnOk P w K mg base CX0 (k + 1) f fd ps sp :=
  F.ok S len fun cdv A outer s H vs Q E hr hq => let ⟨t, h, q⟩ := hbody cdv A outer s H vs Q E hr hq; ⟨t, h.out, q⟩
theorem Fun.okCS (F : Fun K x qual st f fd) (hc : fd.code = .ref c) (S : FnScope N ps (defScope st)) (len : ∀ vs H Q E, sp vs H Q E → vs.length = ps.length)
    (hbody : ∀ (A : Around) (outer : List Env) (s : Shared) (H : Hp) (vs : List V) (Q : VK) (E : XK), Room k (A.deeper (envOfC qual (defScope st) s.heap.objs.size f (.ref c))) → sp vs H Q E →
      ∃ t, SS (cxOf CX0 P w K mg base N qual (defScope st) f (.ref c) A outer s H E).nox (defBody st) t ∧ t { nx := fun _ H' => Q .non H', rt := Q } (start N vs) H) : FnOk P w K mg base CX0 (k + 1) f fd ps sp :=
  F.okC hc S len fun A outer s H vs Q E hr hq => let ⟨t, h, q⟩ := hbody A outer s H vs Q E hr hq; ⟨t, h.out, q⟩
end
end L2

set_option linter.all false
set_option maxHeartbeats 4000000
namespace My
open PySem L2 Loft
local macro_rules | `(tactic| walk_at "rd1") => `(tactic| first
  | with_reducible refine i_seq ?_
  | with_reducible refine i_asg ?_
  | ((with_reducible refine' i_var ?hv ?_); (case hv => rfl))
  | with_reducible refine i_gname ?_
  | with_reducible refine i_c ?_
  | with_reducible refine i_lits ?_
  | with_reducible refine i_op ?_
  | with_reducible refine i_rI0 ?_
  | with_reducible refine i_test ?_
  | with_reducible refine i_bl ?_
  | with_reducible refine i_ifS ?_
  | with_reducible refine i_next ?_
  | with_reducible refine i_nxp ?_
  | with_reducible refine i_rtp ?_
  | with_reducible refine i_ret ?_
  | with_reducible refine i_and ?_
  | with_reducible refine i_or ?_
  | with_reducible refine i_not ?_
  | with_reducible refine i_tB ?_
  | with_reducible refine i_use ?_
  | with_reducible refine i_cb ?_
  | with_reducible refine i_cons ?_
  | with_reducible refine i_nil ?_
  | with_reducible refine i_drop ?_
  | with_reducible refine i_un ?_
  | with_reducible refine i_rU ?_
  | with_reducible refine i_notV ?_
  | with_reducible refine i_andV ?_
  | with_reducible refine i_orV ?_
  | with_reducible refine i_ifE ?_
  | with_reducible refine i_tup ?_
  | with_reducible refine i_lst ?_
  | with_reducible refine i_bm ?_
  | with_reducible refine i_bm0 ?_
  | with_reducible refine i_sl ?_
  | with_reducible refine i_nopart ?_
  | with_reducible refine i_part ?_
  | with_reducible refine i_isint ?_
  | with_reducible refine i_break ?_
  | with_reducible refine i_cont ?_
  | with_reducible refine i_retN ?_
  | with_reducible refine i_gsub ?_
  | with_reducible refine i_gcons ?_
  | with_reducible refine i_gnil ?_
  | with_reducible refine i_for ?_
  | with_reducible refine i_iList ?_
  | with_reducible refine i_iRng1 ?_
  | with_reducible refine i_iRng2 ?_
  | with_reducible refine i_iTup ?_
  | with_reducible refine i_isN ?_
  | with_reducible refine i_notN ?_
  | with_reducible refine i_comp ?_
  | with_reducible refine i_yes ?_
  | with_reducible refine i_max ?_
  | with_reducible refine i_min ?_
  | with_reducible refine i_sortK ?_
  | with_reducible refine i_listRev ?_
  | with_reducible refine i_try ?_
  | with_reducible refine i_callT ?_
  | with_reducible refine i_callX ?_
  | with_reducible refine i_unb ?_
  | with_reducible refine i_meth ?_
  | with_reducible refine i_make ?_
  | with_reducible refine i_fld ?_
  | with_reducible refine i_sfld ?_
  | with_reducible refine i_dget ?_
  | with_reducible refine i_din ?_
  | with_reducible refine i_dnotin ?_
  | with_reducible refine i_dput ?_
  | with_reducible refine i_dpop ?_
  | with_reducible refine i_dnew ?_
  | with_reducible refine i_iEnum ?_
  | with_reducible refine i_iDict ?_
  | with_reducible refine iteT ?_
  | with_reducible refine iteF ?_
  | with_reducible refine i_ifnT ?_
  | with_reducible refine i_ifnF ?_
  | with_reducible refine i_eqI ?_
  | with_reducible refine i_neI ?_
  | ((with_reducible refine i_newT ?hl ?_); (case hl => exact Nat.le_of_ble_eq_true rfl))
  | ((with_reducible refine i_newL ?hl ?_); (case hl => exact Nat.le_of_ble_eq_true rfl))
  | ((with_reducible refine' i_rI ?hc ?_); (case hc => first | exact Or.inr (by decide) | exact Or.inl (by decide) | exact (by decide) | exact ⟨by decide, by decide⟩ | exact ⟨by decide, by decide, by decide⟩ | omega | assumption | exact Or.inr ⟨by omega, by omega⟩ | exact Or.inl ⟨by omega, by omega⟩ | exact ⟨by omega, by omega⟩)))
local macro_rules | `(tactic| walk_at "rd") => `(tactic| (walk_at "rd1"; (repeat walk_at "rd1")))
local macro_rules | `(tactic| walk_at "rdk") => `(tactic| (try dsimp only [L2.cxK0, L2.cxK1]))

/-! ### the text by places -/
def top (i : Nat) : Stmt := PySem.Challenge.pw_loftstore_k07_packed.main.body.getD i (.Pass ⟨0, 0, 0, 0⟩)
abbrev s_packed : Stmt := top 1
def lp_packed : Pos := ⟨5, 36, 5, 68⟩
theorem sc_packed : FnScope ["blocks", "laid", "end", "block"] ["blocks"] (defScope s_packed) := ⟨rfl, rfl, rfl, by decide +kernel, rfl, by decide +kernel, by decide +kernel⟩
abbrev s_law_whole : Stmt := top 3
theorem sc_law_whole : FnScope ["_law_found"] ["_law_found"] (defScope s_law_whole) := ⟨rfl, rfl, rfl, by decide +kernel, rfl, by decide +kernel, by decide +kernel⟩
abbrev s_law_at : Stmt := top 4
theorem sc_law_at : FnScope ["_law_script", "_law_k"] ["_law_script", "_law_k"] (defScope s_law_at) := ⟨rfl, rfl, rfl, by decide +kernel, rfl, by decide +kernel, by decide +kernel⟩
abbrev s_law_total : Stmt := top 5
theorem sc_law_total : FnScope ["_law_height", "_law_many", "_law_k"] ["_law_height"] (defScope s_law_total) := ⟨rfl, rfl, rfl, by decide +kernel, rfl, by decide +kernel, by decide +kernel⟩
abbrev s_law_marked : Stmt := top 6
theorem sc_law_marked : FnScope ["_law_cells", "_law_size", "_law_marks", "_law_k", "_law_span", "_law_start", "_law_spot"] ["_law_cells", "_law_size"] (defScope s_law_marked) := ⟨rfl, rfl, rfl, by decide +kernel, rfl, by decide +kernel, by decide +kernel⟩
abbrev s_law_whole_blocks : Stmt := top 7
theorem sc_law_whole_blocks : FnScope ["_law_marks", "_law_rows", "_law_todo", "_law_start", "_law_span", "_law_part"] ["_law_marks"] (defScope s_law_whole_blocks) := ⟨rfl, rfl, rfl, by decide +kernel, rfl, by decide +kernel, by decide +kernel⟩
abbrev s_law_rows_same : Stmt := top 8
theorem sc_law_rows_same : FnScope ["_law_found", "_law_due", "_law_k", "_law_part"] ["_law_found", "_law_due"] (defScope s_law_rows_same) := ⟨rfl, rfl, rfl, by decide +kernel, rfl, by decide +kernel, by decide +kernel⟩
abbrev s_law : Stmt := top 9
theorem sc_law : FnScope ["_law_script", "_law_marks", "_law_used", "_law_many", "_law_blocks", "_law_k", "_law_handed", "_law_given", "_law_found", "_law_due", "_law_here", "_law_size", "_law_block"] ["_law_script"] (defScope s_law) := ⟨rfl, rfl, rfl, by decide +kernel, rfl, by decide +kernel, by decide +kernel⟩
section
variable {c_packed P_packed : Addr}
variable {P : Program} {w : World} {K : PySem.W.Frag} {mg : Str → Option Value} {base : Heap}
def SP_law_whole : Sp := fun vs H Q _ => ∃ i : Int, vs = [.int i] ∧ Q (.bl true) H
theorem ok_law_whole {f : Addr} {fd : FuncData} (F : Fun K "_law_whole" "_law_whole" s_law_whole f fd) (z_isinstance : mg "isinstance" = none) (z_bool : mg "bool" = none) (z_int : mg "int" = none) : FnOk P w K mg base CX0 1 f fd ["_law_found"] SP_law_whole := by
  refine F.okS sc_law_whole (fun vs H Q E h => ?_) (fun cdv A outer s H vs Q E hr h => ?_)
  · obtain ⟨a, rfl, _⟩ := h; rfl
  obtain ⟨a, rfl, k⟩ := h
  refine ⟨_, (ss_one (ps_ret (pe_and (pe_callB call_isinst rfl z_isinstance b_isinstance (pa_cons (pv 0) (pa_cons (pe_bltn (v := .ty "int") rfl z_int b_int rfl) pa_nil))) (pe_one (pe_not (pe_callB call_isinst rfl z_isinstance b_isinstance (pa_cons (pv 0) (pa_cons (pe_bltn (v := .ty "bool") rfl z_bool b_bool rfl) pa_nil)))))))), ?_⟩
  walk_at "rdk"
  walk_at "rd"
  refine i_isi (TyOf.int a) (kit_ii _) ?_
  walk_at "rd"
  refine i_isi (TyOf.int a) (kit_ib _) ?_
  walk_at "rd"
  exact k
def SP_law_at (K : PySem.W.Frag) : Sp := fun vs H Q _ => ∃ (a : Addr) (ns : List Int) (i : Nat), vs = [.ref a, .int i] ∧ SqL K H a (ns.map V.int) ∧ Q (.int (ns.getD i 0)) H
theorem ok_law_at {f : Addr} {fd : FuncData} (F : Fun K "_law_at" "_law_at" s_law_at f fd) (z_len : mg "len" = none) : FnOk P w K mg base CX0 1 f fd ["_law_script", "_law_k"] (SP_law_at K) := by
  refine F.okS sc_law_at (fun vs H Q E h => ?_) (fun cdv A outer s H vs Q E hr h => ?_)
  · obtain ⟨a, ns, i, rfl, _⟩ := h; rfl
  obtain ⟨a, ns, i, rfl, hS, k⟩ := h
  refine ⟨_, (ss_cons (ps_if (pt_cmpR op_lt (pv 1) (pe_callB call_lenR rfl z_len b_len (pa_cons (pv 0) pa_nil star_Name)) (nomark _))
      (pss_one (ps_ret (pe_ix ix2 (pv 0) (pv 1) (fun _ _ => rfl)))) pss_nil)
      (ss_one (ps_ret pe_int))), ?_⟩
  walk_at "rdk"
  walk_at "rd"
  refine i_lenL hS ?_
  walk_at "rd"
  refine i_ifd (fun c => ?_) (fun c => ?_)
  · rw [List.length_map] at c
    have hi : i < ns.length := by omega
    walk_at "rd"
    refine i_ixL hS (atInt hi) ?_
    rw [List.getD_eq_getElem?_getD, List.getElem?_eq_getElem hi] at k
    exact k
  · rw [List.length_map] at c
    have hi : ¬ i < ns.length := by omega
    walk_at "rd"
    rw [List.getD_eq_getElem?_getD, List.getElem?_eq_none (by omega)] at k
    exact k
def SP_law_total : Sp := fun vs H Q _ => ∃ h : Nat, vs = [.int h] ∧ h ≤ 20 ∧ Q (.int (2 ^ h)) H
theorem ok_law_total {f : Addr} {fd : FuncData} (F : Fun K "_law_total" "_law_total" s_law_total f fd) (z_range : mg "range" = none) : FnOk P w K mg base CX0 1 f fd ["_law_height"] SP_law_total := by
  refine F.okS sc_law_total (fun vs H Q E h => ?_) (fun cdv A outer s H vs Q E hr h => ?_)
  · obtain ⟨a, rfl, _⟩ := h; rfl
  obtain ⟨h, rfl, h20, k⟩ := h
  refine ⟨_, (ss_cons (ps_set (i := 1) sc_law_total.nd rfl (Or.inl rfl) pe_int)
      (ss_cons (ps_for PassesOwn.never rfl (pi_range1 rfl z_range (pa_cons (pv 0) pa_nil star_Name)) (pg_name (i := 2) sc_law_total.nd rfl (Or.inl rfl))
      (pss_one (ps_set (i := 1) sc_law_total.nd rfl (Or.inl rfl) (pe_op op_add (pv 1) (pv 1)))))
      (ss_one (ps_ret (pv 1))))), ?_⟩
  walk_at "rdk"
  walk_at "rd"
  refine i_rng1 (by omega) (by omega) ?_
  refine i_forR (fun i σ H' => ∃ o, σ = [some (.int h), some (.int (2 ^ i)), o] ∧ H' = H) ⟨none, rfl, rfl⟩ ?_ ?_
  · rintro i σ H' hi ⟨o, rfl, rfl⟩
    walk_at "rd"
    exact ⟨_, by rw [pow_succ2] <;> rfl, rfl⟩
  · rintro σ H' ⟨o, rfl, rfl⟩
    walk_at "rd"
    rw [Int.toNat_natCast]
    exact k
theorem four {x : Int} (h0 : 0 ≤ x) (h : x < 4) : ∃ j : Nat, atI ([V.int 1, .int 2, .int 4, .int 8]) x = some (.int (2 ^ j)) ∧ j ≤ 3 := by
  rcases (by omega : x = 0 ∨ x = 1 ∨ x = 2 ∨ x = 3) with rfl | rfl | rfl | rfl
  · exact ⟨0, rfl, by decide⟩
  · exact ⟨1, rfl, by decide⟩
  · exact ⟨2, rfl, by decide⟩
  · exact ⟨3, rfl, by decide⟩
theorem le64 {h : Nat} (h6 : h ≤ 6) : (2 : Int) ^ h ≤ 64 := pow_le2 h6
theorem minSpan {h j : Nat} (h6 : h ≤ 6) : ∃ i : Nat, (if (2 : Int) ^ j < 2 ^ h then (2 : Int) ^ j else 2 ^ h) = 2 ^ i ∧ i ≤ h := by
  by_cases c : (2 : Int) ^ j < 2 ^ h
  · rw [if_pos c]
    refine ⟨j, rfl, ?_⟩
    rcases Nat.lt_or_ge h j with q | q
    · have := pow_lt2 q; omega
    · exact q
  · rw [if_neg c]
    exact ⟨h, rfl, Nat.le_refl _⟩
/-- a drawn start is in the loft -/
theorem startIn {N sp x : Int} (h0 : 0 < sp) (hN : sp ≤ N) : 0 < N / sp ∧ 0 ≤ x % (N / sp) * sp ∧ x % (N / sp) * sp + sp ≤ N := by
  have q : 0 < N / sp := Int.le_ediv_of_mul_le h0 (by omega)
  have m0 : 0 ≤ x % (N / sp) := Int.emod_nonneg _ (by omega)
  have m1 : x % (N / sp) < N / sp := Int.emod_lt_of_pos _ q
  refine ⟨q, Int.mul_nonneg m0 (by omega), ?_⟩
  have a : (x % (N / sp) + 1) * sp ≤ N / sp * sp := Int.mul_le_mul_of_nonneg_right (by omega) (by omega)
  have b : N / sp * sp ≤ N := Int.ediv_mul_le N (by omega)
  rw [Int.add_mul, Int.one_mul] at a
  omega
def SP_law_marked (K : PySem.W.Frag) : Sp := fun vs H Q _ => ∃ (c : Addr) (cs : List Int) (h : Nat), vs = [.ref c, .int (2 ^ h)] ∧ SqL K H c (cs.map V.int) ∧ cs.length ≤ 1000 ∧ h ≤ 6 ∧
  ∀ (l : Addr) (ms : List Bool) (H' : Hp), Same H H' → H l = none → H' l = some (.lst (ms.map V.bl)) → ms.length = 2 ^ h → Q (.ref l) H'
theorem ok_law_marked {f : Addr} {fd : FuncData} (F : Fun K "_law_marked" "_law_marked" s_law_marked f fd) (z_range : mg "range" = none) (z_len : mg "len" = none) (z_min : mg "min" = none) : FnOk P w K mg base CX0 1 f fd ["_law_cells", "_law_size"] (SP_law_marked K) := by
  refine F.okS sc_law_marked (fun vs H Q E h => ?_) (fun cdv A outer s H vs Q E hr h => ?_)
  · obtain ⟨c, cs, h, rfl, _⟩ := h; rfl
  have hu := hu_of hr
  obtain ⟨c, cs, h, rfl, hS, hl, h6, k⟩ := h
  have e64 := le64 h6
  have p0 := pow_pos2 h
  have en : ((2 ^ h : Nat) : Int) = 2 ^ h := by simp
  refine ⟨_, (ss_cons (ps_set (i := 2) sc_law_marked.nd rfl (Or.inl rfl) (pe_op op_rep (pe_lst (pa_cons pe_bl pa_nil star_Constant)) (pv 1)))
      (ss_cons (ps_for PassesOwn.never rfl (pi_range1 rfl z_range (pa_cons (pe_callB call_lenR rfl z_len b_len (pa_cons (pv 0) pa_nil star_Name)) pa_nil star_Call)) (pg_name (i := 3) sc_law_marked.nd rfl (Or.inl rfl))
      (pss_cons (ps_set (i := 4) sc_law_marked.nd rfl (Or.inl rfl) (pe_callB (call_minR rfl) rfl z_min b_min (pa_cons (pv 1) (pa_cons (pe_ix ix2 (pe_lst (pa_cons pe_int (pa_cons pe_int (pa_cons pe_int (pa_cons pe_int pa_nil star_Constant) star_Constant) star_Constant) star_Constant)) (pe_op op_mod (pe_ix ix2 (pv 0) (pv 3) (fun _ _ => rfl)) pe_int) (fun _ _ => rfl)) pa_nil star_Subscript) star_Name)))
      (pss_cons (ps_set (i := 5) sc_law_marked.nd rfl (Or.inl rfl) (pe_op op_mul (pe_op op_mod (pe_op op_add (pe_op op_fdiv (pe_ix ix2 (pv 0) (pv 3) (fun _ _ => rfl)) pe_int) (pe_op op_mul pe_int (pv 3))) (pe_op op_fdiv (pv 1) (pv 4))) (pv 4)))
      (pss_one (ps_for PassesOwn.never rfl (pi_range2 rfl z_range (pa_cons (pv 5) (pa_cons (pe_op op_add (pv 5) (pv 4)) pa_nil star_BinOp) star_Name)) (pg_name (i := 6) sc_law_marked.nd rfl (Or.inl rfl))
      (pss_one (ps_asg (pe_cmpR (op_eqX hu) (pe_op op_mod (pe_op op_add (pe_op op_fdiv (pe_ix ix2 (pv 0) (pv 3) (fun _ _ => rfl)) pe_int) (pv 3)) pe_int) pe_int (nomark _)) (pg_sub (pv 2) (pv 6) set_list))))))))
      (ss_one (ps_ret (pv 2))))), ?_⟩
  walk_at "rdk"
  walk_at "rd"
  intro q hq
  walk_at "rd"
  refine i_rep upd_same (by omega) (by omega) (Nat.le_of_lt (small1000 (by rw [List.length_singleton]; omega))) ?_
  intro l hl0
  have hl1 : H l = none := (Same.new hq).free hl0
  rw [repBl]
  have sm0 : Same H (upd (upd H q (.lst [.bl true])) l (.lst ((List.replicate ((2 : Int) ^ h).toNat true).map V.bl))) := (Same.new hq).upd hl1
  have hL0 : (upd (upd H q (.lst [.bl true])) l (.lst ((List.replicate ((2 : Int) ^ h).toNat true).map V.bl))) l = some (.lst ((List.replicate ((2 : Int) ^ h).toNat true).map V.bl)) := upd_same
  generalize (upd (upd H q (.lst [.bl true])) l (.lst ((List.replicate ((2 : Int) ^ h).toNat true).map V.bl))) = H1 at sm0 hL0
  walk_at "rd"
  refine i_lenL (sm0.seq hS) ?_
  rw [List.length_map]
  walk_at "rd"
  refine i_rng1 (by omega) (by omega) ?_
  refine i_forR (fun i σ H' => ∃ (ms : List Bool) (o3 o4 o5 o6 : Option V), σ = [some (.ref c), some (.int (2 ^ h)), some (.ref l), o3, o4, o5, o6] ∧ Same H H' ∧ H' l = some (.lst (ms.map V.bl)) ∧ ms.length = 2 ^ h)
    ⟨_, none, none, none, none, rfl, sm0, hL0, by rw [List.length_replicate]; omega⟩ ?_ ?_
  · rintro i σ H' hi ⟨ms, o3, o4, o5, o6, rfl, sm, hL, hm⟩
    rw [Int.zero_add]
    have hi' : i < cs.length := by omega
    walk_at "rd"
    intro q2 hq2
    have sm2 : Same H (upd H' q2 (.lst [.int 1, .int 2, .int 4, .int 8])) := sm.trans (Same.new hq2)
    have hQ2 : (upd H' q2 (.lst [.int 1, .int 2, .int 4, .int 8])) q2 = some (.lst [.int 1, .int 2, .int 4, .int 8]) := upd_same
    have hL2 : (upd H' q2 (.lst [.int 1, .int 2, .int 4, .int 8])) l = some (.lst (ms.map V.bl)) := Same.new hq2 _ _ hL
    generalize (upd H' q2 (.lst [.int 1, .int 2, .int 4, .int 8])) = H2 at sm2 hQ2 hL2
    walk_at "rd"
    refine i_ixL (sm2.seq hS) (atInt hi') ?_
    walk_at "rd"
    obtain ⟨j, ej, hj⟩ := four (x := cs[i] % 4) (by omega) (by omega)
    refine i_ixL (SqL.of hQ2) ej ?_
    walk_at "rd"
    obtain ⟨b, eb, hb⟩ := minSpan (h := h) (j := j) h6
    rw [eb]
    have sp0 := pow_pos2 b
    have spN := pow_le2 hb
    generalize (2 : Int) ^ b = sp at sp0 spN
    refine i_ixL (sm2.seq hS) (atInt hi') ?_
    have st := startIn (N := 2 ^ h) (sp := sp) (x := cs[i] / 4 + 3 * (i : Int)) sp0 spN
    obtain ⟨st0, st1, st2⟩ := st
    walk_at "rd"
    generalize (cs[i] / 4 + 3 * (i : Int)) % (2 ^ h / sp) * sp = st at st1 st2
    refine i_rng2 (by omega) (by omega) (by omega) (by omega) ?_
    refine i_forR (fun _ σ H' => ∃ (ms : List Bool) (o6 : Option V), σ = [some (.ref c), some (.int (2 ^ h)), some (.ref l), some (.int i), some (.int sp), some (.int st), o6] ∧ Same H H' ∧ H' l = some (.lst (ms.map V.bl)) ∧ ms.length = 2 ^ h)
      ⟨ms, _, rfl, sm2, hL2, hm⟩ ?_ ?_
    · rintro t σ H3 ht ⟨ms3, o6', rfl, sm3, hL3, hm3⟩
      walk_at "rd"
      refine i_ixL (sm3.seq hS) (atInt hi') ?_
      walk_at "rd"
      refine i_setL hL3 (ixN_in (by omega) (by rw [List.length_map]; omega)) ?_
      rw [setBl]
      exact ⟨_, _, rfl, sm3.upd hl1, upd_same, by rw [List.length_set]; exact hm3⟩
    · rintro σ H3 ⟨ms3, o6', rfl, sm3, hL3, hm3⟩
      exact ⟨ms3, _, _, _, _, rfl, sm3, hL3, hm3⟩
  · rintro σ H' ⟨ms, o3, o4, o5, o6, rfl, sm, hL, hm⟩
    walk_at "rd"
    exact k l ms H' sm hl1 hL hm
def eG (g : Int × Nat) : List V := eB (tb g)
theorem canon_len {m : Int → Bool} : ∀ {k : Nat} {s : Int}, (canon m s k).length ≤ 2 ^ k
  | 0, s => by
    unfold canon
    by_cases c : m s = true
    · rw [if_pos c]; exact Nat.le_refl _
    · rw [if_neg c]; exact Nat.zero_le _
  | k + 1, s => by
    unfold canon
    have e : (2 : Nat) ^ (k + 1) = 2 ^ k + 2 ^ k := by rw [Nat.pow_succ]; omega
    have p : 0 < (2 : Nat) ^ k := Nat.pow_pos (by decide)
    by_cases c : full m s (k + 1) = true
    · rw [if_pos c, List.length_singleton]; omega
    · rw [if_neg c, List.length_append]
      have a := canon_len (m := m) (k := k) (s := s)
      have b := canon_len (m := m) (k := k) (s := s + 2 ^ k)
      omega
theorem work_ge (G : Todo) : G.length ≤ work G := by
  induction G with
  | nil => exact Nat.le_refl _
  | cons g G ih =>
    have e : work (g :: G) = (2 ^ (g.2 + 1) - 1) + work G := by
      unfold work
      rw [List.map_cons, List.sum_cons]
    have q : (2 : Nat) ^ (g.2 + 1) = 2 ^ g.2 + 2 ^ g.2 := by rw [Nat.pow_succ]; omega
    have p : 0 < (2 : Nat) ^ g.2 := Nat.pow_pos (by decide)
    rw [e, List.length_cons]; omega
def SP_law_whole_blocks (K : PySem.W.Frag) : Sp := fun vs H Q _ => ∃ (a : Addr) (ms : List Bool) (h : Nat), vs = [.ref a] ∧ SqL K H a (ms.map V.bl) ∧ ms.length = 2 ^ h ∧ h ≤ 6 ∧
  ∀ (l : Addr) (H' : Hp), Same H H' → H l = none → RowsAt eB H' l (canon (mk ms) 0 h) → Q (.ref l) H'
theorem partFull {ms : List Bool} {s k : Nat} (h : s + 2 ^ k ≤ ms.length) (hn : ¬ false ∈ part ms s (2 ^ k)) : full (mk ms) s k = true :=
  full_iff.mpr fun x a b => by
    cases e : mk ms x with
    | true => rfl
    | false => exact absurd ((part_mem h).mpr ⟨x, a, by simpa using b, e⟩) hn
theorem partNone {ms : List Bool} {s k : Nat} (h : s + 2 ^ k ≤ ms.length) (hn : ¬ true ∈ part ms s (2 ^ k)) : canon (mk ms) s k = [] :=
  canon_none fun x a b => by
    cases e : mk ms x with
    | false => rfl
    | true => exact absurd ((part_mem h).mpr ⟨x, a, by simpa using b, e⟩) hn
theorem partMix {ms : List Bool} {s k : Nat} (h : s + 2 ^ k ≤ ms.length) (hf : false ∈ part ms s (2 ^ k)) (ht : true ∈ part ms s (2 ^ k)) : ∃ j, k = j + 1 ∧ canon (mk ms) s k = canon (mk ms) s j ++ canon (mk ms) (s + 2 ^ j) j := by
  obtain ⟨x, x1, x2, x3⟩ := (part_mem h).mp hf
  obtain ⟨y, y1, y2, y3⟩ := (part_mem h).mp ht
  cases k with
  | zero =>
    have : x = y := by simp at x2 y2; omega
    rw [this, y3] at x3; cases x3
  | succ j =>
    refine ⟨j, rfl, canon_mix fun z => ?_⟩
    rw [full_iff.mp z x x1 (by simpa using x2)] at x3; cases x3
structure WB (H H' : Hp) (r t : Addr) (m : Int → Bool) (h n : Nat) (R : List Blk) (G : Todo) (xr xt : List V) : Prop where
  sm : Same H H'
  hr : H' r = some (.lst xr)
  tr : TupsAt eB H' xr R
  ht : H' t = some (.lst xt)
  tt : TupsAt eG H' xt G
  ok : ∀ g ∈ G, TOk (2 ^ h) g
  due_ : R ++ due m G = canon m 0 h
  wk : work G = n
  wl : n ≤ 2 ^ (h + 1) - 1
  ne : r ≠ t
  fr : H r = none
  ft : H t = none
theorem ok_law_whole_blocks {f : Addr} {fd : FuncData} (F : Fun K "_law_whole_blocks" "_law_whole_blocks" s_law_whole_blocks f fd) (z_len : mg "len" = none) : FnOk P w K mg base CX0 1 f fd ["_law_marks"] (SP_law_whole_blocks K) := by
  refine F.okS sc_law_whole_blocks (fun vs H Q E h => ?_) (fun cdv A outer s H vs Q E hr h => ?_)
  · obtain ⟨c, cs, h, rfl, _⟩ := h; rfl
  have hu := hu_of hr
  obtain ⟨a, ms, h, rfl, hS, hm, h6, k⟩ := h
  have n64 : (2 : Nat) ^ h ≤ 64 := Nat.pow_le_pow_right (by decide) h6
  have n128 : (2 : Nat) ^ (h + 1) ≤ 128 := Nat.pow_le_pow_right (n := 2) (by decide) (show h + 1 ≤ 7 by omega)
  have e64 := le64 h6
  have en : ((2 ^ h : Nat) : Int) = 2 ^ h := by simp
  refine ⟨_, (ss_cons (ps_set (i := 1) sc_law_whole_blocks.nd rfl (Or.inl rfl) (pe_lst pa_nil))
      (ss_cons (ps_set (i := 2) sc_law_whole_blocks.nd rfl (Or.inl rfl) (pe_lst (pa_cons (pe_tup (pa_cons pe_int (pa_cons (pe_callB call_lenR rfl z_len b_len (pa_cons (pv 0) pa_nil star_Name)) pa_nil star_Call) star_Constant)) pa_nil star_Tuple)))
      (ss_cons (ps_while PassesOwn.never (pt_cmpR (op_neX hu) (pv 2) (pe_lst pa_nil) (nomark _))
      (pss_cons (ps_asg (pe_bm0 PySem.F.plainAttrs_list PySem.F.slot_list_pop PySem.F.type_list_pop mt_pop (pv 2)) (pg_tup rfl (pgs_cons (pg_name (i := 3) sc_law_whole_blocks.nd rfl (Or.inl rfl)) (pgs_cons (pg_name (i := 4) sc_law_whole_blocks.nd rfl (Or.inl rfl)) pgs_nil))))
      (pss_cons (ps_set (i := 5) sc_law_whole_blocks.nd rfl (Or.inl rfl) (pe_slice sl_list (pv 0) (po_some (pv 3)) (po_some (pe_op op_add (pv 3) (pv 4)))))
      (pss_one (ps_if (pt_cmpR (op_notInX hu) pe_bl (pv 5) rfl)
      (pss_one (ps_expr (pe_bm PySem.F.plainAttrs_list PySem.F.slot_list_append PySem.F.type_list_append mt_append (pv 1) (pa_cons (pe_tup (pa_cons (pv 3) (pa_cons (pv 4) pa_nil star_Name) star_Name)) pa_nil star_Tuple)))) (pss_one (ps_if (pt_cmpR (op_inX hu) pe_bl (pv 5) rfl)
      (pss_cons (ps_expr (pe_bm PySem.F.plainAttrs_list PySem.F.slot_list_append PySem.F.type_list_append mt_append (pv 2) (pa_cons (pe_tup (pa_cons (pe_op op_add (pv 3) (pe_op op_fdiv (pv 4) pe_int)) (pa_cons (pe_op op_fdiv (pv 4) pe_int) pa_nil star_BinOp) star_BinOp)) pa_nil star_Tuple)))
      (pss_one (ps_expr (pe_bm PySem.F.plainAttrs_list PySem.F.slot_list_append PySem.F.type_list_append mt_append (pv 2) (pa_cons (pe_tup (pa_cons (pv 3) (pa_cons (pe_op op_fdiv (pv 4) pe_int) pa_nil star_BinOp) star_Name)) pa_nil star_Tuple))))) pss_nil)))))))
      (ss_one (ps_ret (pv 1)))))), ?_⟩
  walk_at "rdk"
  walk_at "rd"
  intro r fr
  walk_at "rd"
  refine i_lenL ((Same.new fr).seq hS) ?_
  rw [List.length_map, hm, en]
  walk_at "rd"
  intro p fp
  walk_at "rd"
  intro t ft
  have fp' : H p = none := (Same.new fr).free fp
  have ft1 : (upd H r (.lst [])) t = none := (Same.new fp).free ft
  have ft' : H t = none := (Same.new fr).free ft1
  have hrt : r ≠ t := ne_of_none (H := upd H r (.lst [])) upd_same ft1
  have hrp : r ≠ p := ne_of_none (H := upd H r (.lst [])) upd_same fp
  have hpt : p ≠ t := ne_of_none (H := upd (upd H r (.lst [])) p (.tup [.int 0, .int (2 ^ h)])) upd_same ft
  refine i_whileN (fun n σ H' => ∃ (R : List Blk) (G : Todo) (xr xt : List V) (o3 o4 o5 : Option V), σ = [some (.ref a), some (.ref r), some (.ref t), o3, o4, o5] ∧ WB H H' r t (mk ms) h n R G xr xt) (work [(0, h)])
    ⟨[], [(0, h)], [], [.ref p], none, none, none, rfl, ?_⟩ ?_
  · refine ⟨((Same.new fr).upd fp').upd ft', ?_, trivial, upd_same, ⟨⟨p, rfl, ?_⟩, trivial⟩, fun g hg => ?_, ?_, rfl, ?_, hrt, fr, ft'⟩
    · rw [upd_ne hrt, upd_ne hrp]; exact upd_same
    · rw [upd_ne hpt]; exact upd_same
    · have : g = (0, h) := by simpa using hg
      subst this
      exact ⟨Int.dvd_zero _, Int.le_refl _, by simp⟩
    · simp [due]
    · unfold work; simp
  · rintro n σ H' ⟨R, G, xr, xt, o3, o4, o5, rfl, w⟩
    walk_at "rd"
    intro e fe
    have ht2 : (upd H' e (.lst [])) t = some (.lst xt) := Same.new fe _ _ w.ht
    refine i_neL (SqL.of ht2) (SqL.of upd_same) ?_
    walk_at "rd"
    rcases snoc_cases G with rfl | ⟨G, g, rfl⟩
    · have ex : xt = [] := List.length_eq_zero_iff.mp (by rw [w.tt.length]; rfl)
      subst ex
      refine iteF ?_
      walk_at "rd"
      have dd := w.due_
      have d0 : due (mk ms) [] = [] := rfl
      rw [d0, List.append_nil] at dd
      refine k r _ (w.sm.trans (Same.new fe)) fr ⟨xr, Same.new fe _ _ w.hr, ?_⟩
      rw [← dd]
      exact w.tr.mono (KeepT.new fe)
    · obtain ⟨ys, q, rfl, ty, hq⟩ := w.tt.unsnoc
      have ne0 : (ys ++ [V.ref q]).isEmpty = false := by cases ys <;> rfl
      rw [ne0]
      refine iteT ?_
      refine i_turnN ?_
      walk_at "rd"
      refine i_bmL ht2 ?_
      refine i_pop ht2 ?_
      have hq2 : (upd (upd H' e (.lst [])) t (.lst ys)) q = some (.tup (eG g)) := KeepT.lst ht2 _ _ (KeepT.new fe _ _ hq)
      have sm2 : Same H (upd (upd H' e (.lst [])) t (.lst ys)) := (w.sm.trans (Same.new fe)).upd w.ft
      have tr2 : TupsAt eB (upd (upd H' e (.lst [])) t (.lst ys)) xr R := (w.tr.mono (KeepT.new fe)).mono (KeepT.lst ht2)
      have ty2 : TupsAt eG (upd (upd H' e (.lst [])) t (.lst ys)) ys G := (ty.mono (KeepT.new fe)).mono (KeepT.lst ht2)
      have hr2 : (upd (upd H' e (.lst [])) t (.lst ys)) r = some (.lst xr) := by rw [upd_ne w.ne]; exact Same.new fe _ _ w.hr
      have ht3 : (upd (upd H' e (.lst [])) t (.lst ys)) t = some (.lst ys) := upd_same
      generalize (upd (upd H' e (.lst [])) t (.lst ys)) = H2 at hq2 sm2 tr2 ty2 hr2 ht3
      obtain ⟨s0, kk⟩ := g
      have og : TOk (2 ^ h) (s0, kk) := w.ok _ (List.mem_append_right _ (List.mem_singleton.mpr rfl))
      have okG : ∀ g ∈ G, TOk (2 ^ h) g := fun g hg => w.ok g (List.mem_append_left _ hg)
      have dd := w.due_
      rw [due_push] at dd
      have wk := w.wk
      have wl := w.wl
      obtain ⟨al, lo, hi⟩ := og
      simp only at al lo hi
      obtain ⟨sn, rfl⟩ := Int.eq_ofNat_of_zero_le lo
      have ek : ((2 ^ kk : Nat) : Int) = 2 ^ kk := by simp
      have sin : sn + 2 ^ kk ≤ ms.length := by omega
      refine i_gtup (xs := [.int (sn : Int), .int (2 ^ kk)]) (SqT.of hq2) rfl ?_
      walk_at "rd"
      refine i_slL (sm2.seq hS) ?_
      have ec : cutV (ms.map V.bl) (some (sn : Int)) (some ((sn : Int) + 2 ^ kk)) = (part ms sn (2 ^ kk)).map V.bl := by
        rw [← ek]; exact cutPart ms sn (2 ^ kk) sin
      intro pp fpp
      rw [ec]
      have hpp : (upd H2 pp (.lst ((part ms sn (2 ^ kk)).map V.bl))) pp = some (.lst ((part ms sn (2 ^ kk)).map V.bl)) := upd_same
      have sm3 : Same H (upd H2 pp (.lst ((part ms sn (2 ^ kk)).map V.bl))) := sm2.trans (Same.new fpp)
      have tr3 := tr2.mono (KeepT.new (o := .lst ((part ms sn (2 ^ kk)).map V.bl)) fpp)
      have ty3 := ty2.mono (KeepT.new (o := .lst ((part ms sn (2 ^ kk)).map V.bl)) fpp)
      have hr3 := Same.new (o := .lst ((part ms sn (2 ^ kk)).map V.bl)) fpp _ _ hr2
      have ht4 := Same.new (o := .lst ((part ms sn (2 ^ kk)).map V.bl)) fpp _ _ ht3
      generalize (upd H2 pp (.lst ((part ms sn (2 ^ kk)).map V.bl))) = H3 at hpp sm3 tr3 ty3 hr3 ht4
      clear hq2 sm2 tr2 ty2 hr2 ht3 fpp
      have lR : R.length ≤ 64 := by
        have z := congrArg List.length dd
        rw [List.length_append] at z
        have := canon_len (m := mk ms) (k := h) (s := 0)
        omega
      have lxr := tr3.length
      have lys := ty3.length
      have lG := work_ge G
      have wless := work_less G ((sn : Int), kk)
      walk_at "rd"
      refine i_notInF (SqL.of hpp) rfl (bl_flat _) ?_
      rw [inV_bl]
      walk_at "rd"
      refine i_ifnd (fun cF => ?_) (fun cF => ?_)
      · -- some cell is used
        walk_at "rd"
        refine i_inF (SqL.of hpp) rfl (bl_flat _) ?_
        rw [inV_bl]
        walk_at "rd"
        refine i_ifd (fun cT => ?_) (fun cT => ?_)
        · -- and some is free: its halves
          obtain ⟨j, rfl, ej⟩ := partMix sin cF cT
          have og' : TOk (2 ^ h) ((sn : Int), j + 1) := ⟨al, lo, hi⟩
          walk_at "rd"
          refine i_bmL ht4 ?_
          walk_at "rd"
          intro p2 fp2
          rw [half_pow]
          walk_at "rd"
          refine i_app (xs := ys) (Same.new fp2 _ _ ht4) (small1000 (by omega)) ?_
          obtain ⟨z1, hz1, tz1⟩ := RowsAt.push (enc := eG) (H := upd H3 p2 (.tup [.int ((sn : Int) + 2 ^ j), .int (2 ^ j)])) (l := t) (p := p2) (xs := ys) (bs := G) (b := ((sn : Int) + 2 ^ j, j)) (Same.new fp2 _ _ ht4) (ty3.mono (KeepT.new fp2)) upd_same
          have sm4 : Same H (upd (upd H3 p2 (.tup [.int ((sn : Int) + 2 ^ j), .int (2 ^ j)])) t (.lst (ys ++ [.ref p2]))) := (sm3.trans (Same.new fp2)).upd w.ft
          have hr4 : (upd (upd H3 p2 (.tup [.int ((sn : Int) + 2 ^ j), .int (2 ^ j)])) t (.lst (ys ++ [.ref p2]))) r = some (.lst xr) := by rw [upd_ne w.ne]; exact Same.new fp2 _ _ hr3
          have tr4 : TupsAt eB (upd (upd H3 p2 (.tup [.int ((sn : Int) + 2 ^ j), .int (2 ^ j)])) t (.lst (ys ++ [.ref p2]))) xr R := (tr3.mono (KeepT.new fp2)).mono (KeepT.lst (Same.new fp2 _ _ ht4))
          generalize (upd (upd H3 p2 (.tup [.int ((sn : Int) + 2 ^ j), .int (2 ^ j)])) t (.lst (ys ++ [.ref p2]))) = H4 at hz1 tz1 sm4 hr4 tr4
          have lz1 := tz1.length
          rw [List.length_append, List.length_singleton] at lz1
          walk_at "rd"
          refine i_bmL hz1 ?_
          walk_at "rd"
          intro p3 fp3
          rw [half_pow]
          walk_at "rd"
          refine i_app (xs := z1) (Same.new fp3 _ _ hz1) (small1000 (by omega)) ?_
          obtain ⟨z2, hz2, tz2⟩ := RowsAt.push (enc := eG) (H := upd H4 p3 (.tup [.int (sn : Int), .int (2 ^ j)])) (l := t) (p := p3) (xs := z1) (bs := G ++ [((sn : Int) + 2 ^ j, j)]) (b := ((sn : Int), j)) (Same.new fp3 _ _ hz1) (tz1.mono (KeepT.new fp3)) upd_same
          have wh := work_halve G (sn : Int) ((sn : Int) + 2 ^ j) j
          refine ⟨work (G ++ [((sn : Int) + 2 ^ j, j)] ++ [((sn : Int), j)]), by omega, R, _, xr, z2, _, _, _, rfl, ⟨(sm4.trans (Same.new fp3)).upd w.ft, ?_, ?_, hz2, tz2, ?_, ?_, rfl, by omega, w.ne, w.fr, w.ft⟩⟩
          · rw [upd_ne w.ne]; exact Same.new fp3 _ _ hr4
          · exact (tr4.mono (KeepT.new fp3)).mono (KeepT.lst (Same.new fp3 _ _ hz1))
          · intro g hg
            rcases List.mem_append.mp hg with hg | hg
            · rcases List.mem_append.mp hg with hg | hg
              · exact okG g hg
              · rw [List.mem_singleton.mp hg]; exact og'.right
            · rw [List.mem_singleton.mp hg]; exact og'.left
          · rw [due_push, due_push, ← dd, ej, List.append_assoc]
        · -- none is free
          walk_at "rd"
          rw [partNone sin cT, List.nil_append] at dd
          exact ⟨work G, by omega, R, G, xr, ys, _, _, _, rfl, ⟨sm3, hr3, tr3, ht4, ty3, okG, dd, rfl, by omega, w.ne, w.fr, w.ft⟩⟩
      · -- all are free
        walk_at "rd"
        refine i_bmL hr3 ?_
        walk_at "rd"
        intro p2 fp2
        walk_at "rd"
        refine i_app (xs := xr) (Same.new fp2 _ _ hr3) (small1000 (by omega)) ?_
        obtain ⟨zs, hz, tz⟩ := RowsAt.push (enc := eB) (H := upd H3 p2 (.tup (eB ((sn : Int), 2 ^ kk)))) (l := r) (p := p2) (xs := xr) (bs := R) (b := ((sn : Int), 2 ^ kk)) (Same.new fp2 _ _ hr3) (tr3.mono (KeepT.new fp2)) upd_same
        rw [canon_full (partFull sin cF)] at dd
        refine ⟨work G, by omega, R ++ [((sn : Int), 2 ^ kk)], G, zs, ys, _, _, _, rfl, ⟨(sm3.trans (Same.new fp2)).upd fr, hz, tz, ?_, ?_, okG, ?_, rfl, by omega, w.ne, w.fr, w.ft⟩⟩
        · show (upd (upd H3 p2 (.tup (eB ((sn : Int), 2 ^ kk)))) r _) t = _
          rw [upd_ne w.ne.symm]; exact Same.new fp2 _ _ ht4
        · exact (ty3.mono (KeepT.new fp2)).mono (KeepT.lst (Same.new fp2 _ _ hr3))
        · rw [List.append_assoc]; exact dd
def e3 (t : Tri) : List V := [.int t.1, .int t.2.1, .int t.2.2]
def s3 (t : Tri) : List Int := [t.1, t.2.1, t.2.2]
theorem e3_flat (t : Tri) : (e3 t).all flatV = true := rfl
def SP_law_rows_same : Sp := fun vs H Q _ => ∃ (l1 l2 : Addr) (bs : List Tri), vs = [.ref l1, .ref l2] ∧ RowsAt e3 H l1 bs ∧ RowsAt e3 H l2 bs ∧ bs.length ≤ 1000 ∧ Q (.bl true) H
theorem ok_law_rows_same {f : Addr} {fd : FuncData} (F : Fun K "_law_rows_same" "_law_rows_same" s_law_rows_same f fd) (c__law_whole : Has P w K mg base 1 "_law_whole" ["_law_found"] SP_law_whole) (z_range : mg "range" = none) (z_len : mg "len" = none) (z_isinstance : mg "isinstance" = none) (z_tuple : mg "tuple" = none) (z_list : mg "list" = none) : FnOk P w K mg base CX0 2 f fd ["_law_found", "_law_due"] SP_law_rows_same := by
  refine F.okS sc_law_rows_same (fun vs H Q E h => ?_) (fun cdv A outer s H vs Q E hr h => ?_)
  · obtain ⟨c, cs, h, rfl, _⟩ := h; rfl
  have hu := hu_of hr
  obtain ⟨l1, l2, bs, rfl, ⟨xs, h1, t1⟩, ⟨ys, h2, t2⟩, hl, k⟩ := h
  have e1 := t1.length
  have e2 := t2.length
  refine ⟨_, (ss_cons (ps_if (PW.pt (pw_or (pt_not (pt_val (pe_callB call_isinst rfl z_isinstance b_isinstance (pa_cons (pv 0) (pa_cons (pe_bltn (v := .ty "list") rfl z_list b_list rfl) pa_nil))))) (pw_or1 (pt_cmpR (op_neX hu) (pe_callB call_lenR rfl z_len b_len (pa_cons (pv 0) pa_nil star_Name)) (pe_callB call_lenR rfl z_len b_len (pa_cons (pv 1) pa_nil star_Name)) (nomark _)))))
      (pss_one (ps_ret pe_bl)) pss_nil)
      (ss_cons (ps_for PassesOwn.never rfl (pi_range1 rfl z_range (pa_cons (pe_callB call_lenR rfl z_len b_len (pa_cons (pv 1) pa_nil star_Name)) pa_nil star_Call)) (pg_name (i := 2) sc_law_rows_same.nd rfl (Or.inl rfl))
      (pss_cons (ps_if (PW.pt (pw_or (pt_not (pt_val (pe_callB call_isinst rfl z_isinstance b_isinstance (pa_cons (pe_ix ix2 (pv 0) (pv 2) (fun _ _ => rfl)) (pa_cons (pe_bltn (v := .ty "tuple") rfl z_tuple b_tuple rfl) pa_nil))))) (pw_or1 (pt_cmpR (op_neX hu) (pe_callB call_lenR rfl z_len b_len (pa_cons (pe_ix ix2 (pv 0) (pv 2) (fun _ _ => rfl)) pa_nil star_Subscript)) (pe_callB call_lenR rfl z_len b_len (pa_cons (pe_ix ix2 (pv 1) (pv 2) (fun _ _ => rfl)) pa_nil star_Subscript)) (nomark _)))))
      (pss_one (ps_ret pe_bl)) pss_nil)
      (pss_cons (ps_for PassesOwn.never rfl (pi_tup (pe_ix ix2 (pv 0) (pv 2) (fun _ _ => rfl))) (pg_name (i := 3) sc_law_rows_same.nd rfl (Or.inl rfl))
      (pss_one (ps_if (pt_not (pt_val (pe_use c__law_whole (hr.mono (by decide)) rfl (pa_cons (pv 3) pa_nil star_Name))))
      (pss_one (ps_ret pe_bl)) pss_nil)))
      (pss_one (ps_if (pt_cmpR (op_neX hu) (pe_ix ix2 (pv 0) (pv 2) (fun _ _ => rfl)) (pe_ix ix2 (pv 1) (pv 2) (fun _ _ => rfl)) (nomark _))
      (pss_one (ps_ret pe_bl)) pss_nil)))))
      (ss_one (ps_ret pe_bl)))), ?_⟩
  walk_at "rdk"
  walk_at "rd"
  refine i_isi (TyOf.lst h1) (kit_ll _) ?_
  walk_at "rd"
  refine i_lenL (SqL.of h1) ?_
  walk_at "rd"
  refine i_lenL (SqL.of h2) ?_
  walk_at "rd"
  refine i_ifndF (by rw [e1, e2]) ?_
  walk_at "rd"
  refine i_lenL (SqL.of h2) ?_
  walk_at "rd"
  refine i_rng1 (by omega) (by omega) ?_
  refine i_forR (fun i σ H' => ∃ o2 o3, σ = [some (.ref l1), some (.ref l2), o2, o3] ∧ H' = H) ⟨none, none, rfl, rfl⟩ ?_ ?_
  · rintro i σ H' hi ⟨o2, o3, rfl, rfl⟩
    rw [Int.zero_add]
    have hb : bs[i]? = some bs[i] := List.getElem?_eq_getElem (by omega)
    obtain ⟨p, ep, hp⟩ := t1.getB hb
    obtain ⟨q, eq, hq⟩ := t2.getB hb
    generalize bs[i] = b at hp hq
    have ap : atI xs (i : Int) = some (.ref p) := atI_nat ep
    have aq : atI ys (i : Int) = some (.ref q) := atI_nat eq
    walk_at "rd"
    refine i_ixL (SqL.of h1) ap ?_
    walk_at "rd"
    refine i_isi (TyOf.tup hp) (kit_tt _) ?_
    walk_at "rd"
    refine i_ixL (SqL.of h1) ap ?_
    walk_at "rd"
    refine i_lenT (SqT.of hp) ?_
    walk_at "rd"
    refine i_ixL (SqL.of h2) aq ?_
    walk_at "rd"
    refine i_lenT (SqT.of hq) ?_
    walk_at "rd"
    refine i_ifndF rfl ?_
    walk_at "rd"
    refine i_ixL (SqL.of h1) ap ?_
    refine i_forT (xs := e3 b) (fun j σ H2 => ∃ o3, σ = [some (.ref l1), some (.ref l2), some (.int i), o3] ∧ H2 = H') (SqT.of hp) ⟨_, rfl, rfl⟩ (fun j σ H2 _ ⟨_, _, e⟩ => by rw [e]; exact SqT.of hp) ?_ ?_
    · rintro j x σ H2 hx ⟨o3', rfl, rfl⟩
      have ix : ∃ v : Int, x = .int v := by
        have m : x ∈ e3 b := List.mem_of_getElem? hx
        unfold e3 at m
        rcases List.mem_cons.mp m with rfl | m
        · exact ⟨_, rfl⟩
        · rcases List.mem_cons.mp m with rfl | m
          · exact ⟨_, rfl⟩
          · exact ⟨_, List.mem_singleton.mp m⟩
      obtain ⟨v, rfl⟩ := ix
      walk_at "rd"
      refine ⟨v, rfl, ?_⟩
      walk_at "rd"
      exact ⟨_, rfl, rfl⟩
    · rintro σ H2 ⟨o3', rfl, rfl⟩
      walk_at "rd"
      refine i_ixL (SqL.of h1) ap ?_
      walk_at "rd"
      refine i_ixL (SqL.of h2) aq ?_
      refine i_neT (SqT.of hp) (SqT.of hq) (e3_flat b) (e3_flat b) ?_
      rw [eqVs_refl _ (e3_flat b)]
      walk_at "rd"
      exact ⟨_, _, rfl, rfl⟩
  · rintro σ H' ⟨o2, o3, rfl, rfl⟩
    walk_at "rd"
    exact k
def kP (t : Tri) : List Int := [-t.2.2, t.2.1]
theorem kP_le {a b : Tri} (h : HT.lexLt (kP b) (kP a) = false) : ¬ pkLt b a := by
  unfold kP at h
  rw [HT.lexLt_cons] at h
  unfold pkLt
  by_cases e : -b.2.2 = -a.2.2
  · rw [if_pos e, lex1] at h
    have := of_decide_eq_false h
    omega
  · rw [if_neg e] at h
    have := of_decide_eq_false h
    omega
def SP_packed (P_packed : Addr) : Sp := fun vs H Q _ => ∃ (l : Addr) (bs : List Tri), vs = [.ref l] ∧ RowsAt e3 H l bs ∧ bs.length < 64 ∧ TabIs P_packed lp_packed (lq "packed") H ∧
  ∀ (r : Addr) (H' : Hp) (cs : List Tri), SamB [P_packed] H H' → TabIs P_packed lp_packed (lq "packed") H' → H r = none → cs.Perm bs → cs.Pairwise (fun a b => ¬ pkLt b a) → RowsAt e3 H' r (lay 0 cs) → Q (.ref r) H'
theorem ok_packed {f : Addr} {fd : FuncData} (F : Fun K "packed" "packed" s_packed f fd) (z_sorted : mg "sorted" = none) (hcode : fd.code = .ref c_packed) (d_packed : PySem.W.codeHdIn K c_packed P_packed = true) (bmf : BM base mg) : FnOk P w K mg base CX0 4 f fd ["blocks"] (SP_packed P_packed) := by
  refine F.okCS hcode sc_packed (fun vs H Q E h => ?_) (fun A outer s H vs Q E hr h => ?_)
  · obtain ⟨_, _, rfl, _⟩ := h; rfl
  have hu := hu_of hr
  obtain ⟨l, bs, rfl, ⟨xs, hL, ht⟩, h64, tab, k⟩ := h
  have lx := ht.length
  refine ⟨_, (ss_cons (ps_set (i := 1) sc_packed.nd rfl (Or.inl rfl) (pe_lst pa_nil))
      (ss_cons (ps_set (i := 2) sc_packed.nd rfl (Or.inl rfl) pe_int)
      (ss_cons (ps_for PassesOwn.never rfl (pi_list (pe_sortK true (P := P_packed) (k := 0) (y := "each") rfl z_sorted (pv 0) (hr.mono (by decide)) (pe_lam bmf rfl d_packed (by decide +kernel)) ⟨rfl, rfl, rfl, by decide +kernel, rfl, by decide +kernel, by decide +kernel⟩ (fun _ _ _ _ => rfl) (fun _ _ _ _ _ _ => (pe_tup (pa_cons (pe_un un_neg (pe_ix (IxR.cast (rIx2 K) ix2) (pv 0) pe_int (fun _ _ => rfl))) (pa_cons (pe_ix (IxR.cast (rIx2 K) ix2) (pv 0) pe_int (fun _ _ => rfl)) pa_nil star_Subscript) star_UnaryOp))))) (pg_name (i := 3) sc_packed.nd rfl (Or.inl rfl))
      (pss_cons (ps_expr (pe_bm PySem.F.plainAttrs_list PySem.F.slot_list_append PySem.F.type_list_append mt_append (pv 1) (pa_cons (pe_tup (pa_cons (pe_ix ix2 (pv 3) pe_int (fun _ _ => rfl)) (pa_cons (pv 2) (pa_cons (pe_ix ix2 (pv 3) pe_int (fun _ _ => rfl)) pa_nil star_Subscript) star_Name) star_Subscript)) pa_nil star_Tuple)))
      (pss_one (ps_set (i := 2) sc_packed.nd rfl (Or.inl rfl) (pe_op op_add (pv 2) (pe_ix ix2 (pv 3) pe_int (fun _ _ => rfl)))))))
      (ss_one (ps_ret (pv 1)))))), ?_⟩
  walk_at "rdk"
  walk_at "rd"
  intro ld fld
  walk_at "rd"
  have sm1 : Same H (upd H ld (.lst [])) := Same.new fld
  refine ⟨Tri, s3, kP, l, xs, bs, rfl, SqL.of (sm1 _ _ hL), ht.mono sm1.keepT, by omega, fun b h => (by cases h), tab.same sm1, ?_, ?_⟩
  · intro H1 a b ha
    have ha' : H1 a = some (.tup (e3 b)) := ha
    walk_at "rd"
    refine i_ixT (xs := e3 b) (SqT.of ha') rfl ?_
    walk_at "rd"
    refine i_ixT (xs := e3 b) (SqT.of ha') rfl ?_
    walk_at "rd"
    intro p fp
    exact ⟨Same.new fp, p, rfl, upd_same⟩
  · intro p ys cs H2 fp sb tab2 hp ty pm pw
    have ty' : TupsAt e3 H2 ys cs := ty
    have lc := ty'.length
    have lp := pm.length_eq
    have nld : ld ∉ [P_packed] := fun z => by
      obtain ⟨ps, e, _⟩ := tab
      have : ld = P_packed := by simpa using z
      rw [this, e] at fld; cases fld
    have hld2 : H2 ld = some (.lst []) := sb _ _ nld upd_same
    have sb1 : SamB [P_packed] H H2 := sm1.samB.trans sb
    have pld : p ≠ ld := (ne_of_none (H := upd H ld (.lst [])) upd_same fp).symm
    refine i_forL (xs := ys) (fun i σ H' => ∃ (zs : List V) (o3 : Option V), σ = [some (.ref l), some (.ref ld), some (.int (tot (cs.take i))), o3] ∧ SamB [P_packed] H H' ∧ TabIs P_packed lp_packed (lq "packed") H' ∧ H' p = some (.lst ys) ∧ TupsAt e3 H' ys cs ∧
        H' ld = some (.lst zs) ∧ TupsAt e3 H' zs (lay 0 (cs.take i)) ∧ i ≤ cs.length)
      (SqL.of hp) ⟨[], none, rfl, sb1, tab2, hp, ty', hld2, trivial, Nat.zero_le _⟩ (fun i σ H' _ ⟨_, _, _, _, _, h, _⟩ => SqL.of h) ?_ ?_
    · rintro i x σ H' hx ⟨zs, o3, rfl, sb2, tab3, hp', ty2, hz, tz, hi⟩
      obtain ⟨q, c, rfl, hc, hq⟩ := ty2.get hx
      have ic := (List.getElem?_eq_some_iff.mp hc).1
      have lz := tz.length
      rw [lay_length, List.length_take] at lz
      have et : cs.take (i + 1) = cs.take i ++ [c] := by rw [List.take_add_one, hc]; rfl
      walk_at "rd"
      refine i_bmL hz ?_
      walk_at "rd"
      refine i_ixT (xs := e3 c) (SqT.of hq) rfl ?_
      walk_at "rd"
      refine i_ixT (xs := e3 c) (SqT.of hq) rfl ?_
      walk_at "rd"
      intro t ft
      walk_at "rd"
      have hz1 := Same.new (o := .tup [.int c.1, .int (tot (cs.take i)), .int c.2.2]) ft _ _ hz
      refine i_app (xs := zs) hz1 (small1000 (by omega)) ?_
      have hq1 := KeepT.lst (o := .lst (zs ++ [.ref t])) hz1 _ _ (KeepT.new (o := .tup [.int c.1, .int (tot (cs.take i)), .int c.2.2]) ft _ _ hq)
      walk_at "rd"
      refine i_ixT (xs := e3 c) (SqT.of hq1) rfl ?_
      walk_at "rd"
      obtain ⟨ws, hw, tw⟩ := RowsAt.push (enc := e3) (H := upd H' t (.tup [.int c.1, .int (tot (cs.take i)), .int c.2.2])) (l := ld) (p := t) (xs := zs) (bs := lay 0 (cs.take i)) (b := (c.1, tot (cs.take i), c.2.2)) hz1 (tz.mono (KeepT.new ft)) upd_same
      refine ⟨ws, _, by rw [et, tot_snoc]; rfl, ((sb2.trans (Same.new ft).samB).upd fld), (tab3.same (Same.new ft)).lst hz1, ?_, (ty2.mono (KeepT.new ft)).mono (KeepT.lst hz1), hw, ?_, ic⟩
      · rw [upd_ne pld]; exact Same.new ft _ _ hp'
      · rw [et, lay_snoc, Int.zero_add]; exact tw
    · rintro σ H' ⟨zs, o3, rfl, sb2, tab3, hp', ty2, hz, tz, _⟩
      walk_at "rd"
      rw [lc, List.take_length] at tz
      exact k ld H' cs sb2 tab3 fld pm (pw.imp fun z => kP_le z) ⟨zs, hz, tz⟩
def But (l : Addr) (H H' : Hp) : Prop := ∀ b o, b ≠ l → H b = some o → H' b = some o
theorem rows_but {l a : Addr} {H H' : Hp} {bs : List Tri} {xs : List V} (h : RowsAt e3 H a bs) (s : But l H H') (hl : H l = some (.lst xs)) (ne : a ≠ l) : RowsAt e3 H' a bs := by
  obtain ⟨ys, e, t⟩ := h
  exact ⟨ys, s _ _ ne e, t.mono fun b zs q => s _ _ (ne_of q hl (by intro z; cases z)) q⟩
theorem mk_nots {ms : List Bool} {x : Int} (h0 : 0 ≤ x) (h1 : x < ms.length) : mk (ms.map (!·)) x = !mk ms x := by
  obtain ⟨i, rfl⟩ := Int.eq_ofNat_of_zero_le h0
  have hi : i < ms.length := by omega
  rw [mk_nat, mk_nat, List.getD_eq_getElem?_getD, List.getD_eq_getElem?_getD, List.getElem?_map, List.getElem?_eq_getElem hi]; rfl
/-- the blocks with their tickets -/
def tick (t0 : Int) (used : List Blk) (n : Nat) : List Tri := (List.range n).map fun (k : Nat) => (((k : Int) * 37 + t0) % 101, (used.getD k (0, 1)).1, (used.getD k (0, 1)).2)
theorem tick_succ (t0 : Int) (used : List Blk) (n : Nat) : tick t0 used (n + 1) = tick t0 used n ++ [(((n : Int) * 37 + t0) % 101, (used.getD n (0, 1)).1, (used.getD n (0, 1)).2)] := by
  unfold tick; rw [List.range_succ, List.map_append]; rfl
theorem tick_len (t0 : Int) (used : List Blk) (n : Nat) : (tick t0 used n).length = n := by unfold tick; rw [List.length_map, List.length_range]
theorem tick_mem {t0 : Int} {used : List Blk} {t : Tri} (h : t ∈ tick t0 used used.length) : (t.2.1, t.2.2) ∈ used := by
  unfold tick at h
  obtain ⟨k, hk, e⟩ := List.mem_map.mp h
  have hk' : k < used.length := by simpa using hk
  rw [← e]
  rw [List.getD_eq_getElem?_getD, List.getElem?_eq_getElem hk']
  exact List.getElem_mem hk'
theorem tick_rise {t0 : Int} {used : List Blk} (h : used.Pairwise Ends) (hp : ∀ b ∈ used, 0 < b.2) : (tick t0 used used.length).Pairwise fun a b => a.2.1 < b.2.1 := by
  unfold tick
  rw [List.pairwise_map]
  refine List.pairwise_iff_getElem.mpr fun i j hi hj hij => ?_
  rw [List.getElem_range, List.getElem_range]
  have i' : i < used.length := by simpa using hi
  have j' : j < used.length := by simpa using hj
  rw [List.getD_eq_getElem?_getD, List.getElem?_eq_getElem i', List.getD_eq_getElem?_getD, List.getElem?_eq_getElem j']
  have e := List.pairwise_iff_getElem.mp h i j i' j' hij
  have p := hp _ (List.getElem_mem i')
  show used[i].1 < used[j].1
  unfold Loft.Ends at e
  omega
theorem ofSize_snoc (L : List Tri) (t : Tri) (z : Int) : ofSize (L ++ [t]) z = if t.2.2 = z then ofSize L z ++ [t] else ofSize L z := by
  unfold ofSize
  rw [List.filter_append]
  by_cases c : t.2.2 = z
  · rw [if_pos c]; simp [c]
  · rw [if_neg c]; simp [c]
theorem orderBy_snoc (zs : List Int) (z : Int) (bs : List Tri) : orderBy (zs ++ [z]) bs = orderBy zs bs ++ ofSize bs z := by
  unfold orderBy; rw [List.flatMap_append]; simp
def SP_law (K : PySem.W.Frag) (P_packed : Addr) : Sp := fun vs H Q _ => ∃ (a : Addr) (ns : List Int), vs = [.ref a] ∧ SqL K H a (ns.map V.int) ∧ ns.length ≤ 63 ∧ H P_packed = some (.tbl #[]) ∧ ∀ H', Q (.bl true) H'
theorem ok_law {f : Addr} {fd : FuncData} (F : Fun K "law" "law" s_law f fd) (c__law_rows_same : Has P w K mg base 2 "_law_rows_same" ["_law_found", "_law_due"] SP_law_rows_same) (c_packed : Has P w K mg base 4 "packed" ["blocks"] (SP_packed P_packed)) (c__law_at : Has P w K mg base 1 "_law_at" ["_law_script", "_law_k"] (SP_law_at K)) (c__law_whole_blocks : Has P w K mg base 1 "_law_whole_blocks" ["_law_marks"] (SP_law_whole_blocks K)) (c__law_marked : Has P w K mg base 1 "_law_marked" ["_law_cells", "_law_size"] (SP_law_marked K)) (c__law_total : Has P w K mg base 1 "_law_total" ["_law_height"] SP_law_total) (z_list : mg "list" = none) (z_reversed : mg "reversed" = none) (z_range : mg "range" = none) (z_len : mg "len" = none) : FnOk P w K mg base CX0 5 f fd ["_law_script"] (SP_law K P_packed) := by
  refine F.okS sc_law (fun vs H Q E h => ?_) (fun cdv A outer s H vs Q E hr h => ?_)
  · obtain ⟨a, ns, rfl, _⟩ := h; rfl
  have hu := hu_of hr
  obtain ⟨a, ns, rfl, hS, h63, hT, k⟩ := h
  have tab : TabIs P_packed lp_packed (lq "packed") H := ⟨_, hT, .inl rfl⟩
  clear hT
  refine ⟨_, (ss_cons (ps_set (i := 0) sc_law.nd rfl (Or.inl rfl) (pe_slice sl_list (pv 0) po_none (po_some pe_int)))
      (ss_cons (ps_set (i := 1) sc_law.nd rfl (Or.inl rfl) (pe_use c__law_marked (hr.mono (by decide)) rfl (pa_cons (pe_slice sl_list (pv 0) (po_some pe_int) po_none) (pa_cons (pe_use c__law_total (hr.mono (by decide)) rfl (pa_cons (pe_op op_mod (pe_use c__law_at (hr.mono (by decide)) rfl (pa_cons (pv 0) (pa_cons pe_int pa_nil star_Constant) star_Name)) pe_int) pa_nil star_BinOp)) pa_nil star_Call) star_Subscript)))
      (ss_cons (ps_set (i := 2) sc_law.nd rfl (Or.inl rfl) (pe_use c__law_whole_blocks (hr.mono (by decide)) rfl (pa_cons (pe_comp (x := "_law_mark") (ys := []) (js := []) (CompOk.of rfl (by decide +kernel) (by decide +kernel) rfl (by decide +kernel) (by decide +kernel) trivial) rfl (pi_list (pv 1)) (fun _ _ _ _ => pts_nil) (fun _ _ _ _ => (pe_not (pv 0)))) pa_nil star_ListComp)))
      (ss_cons (ps_set (i := 3) sc_law.nd rfl (Or.inl rfl) (pe_callB call_lenR rfl z_len b_len (pa_cons (pv 2) pa_nil star_Name)))
      (ss_cons (ps_set (i := 4) sc_law.nd rfl (Or.inl rfl) (pe_lst pa_nil))
      (ss_cons (ps_for PassesOwn.never rfl (pi_range1 rfl z_range (pa_cons (pv 3) pa_nil star_Name)) (pg_name (i := 5) sc_law.nd rfl (Or.inl rfl))
      (pss_one (ps_expr (pe_bm PySem.F.plainAttrs_list PySem.F.slot_list_append PySem.F.type_list_append mt_append (pv 4) (pa_cons (pe_tup (pa_cons (pe_op op_mod (pe_op op_add (pe_op op_mul (pv 5) pe_int) (pe_use c__law_at (hr.mono (by decide)) rfl (pa_cons (pv 0) (pa_cons pe_int pa_nil star_Constant) star_Name))) pe_int) (pa_cons (pe_ix ix2 (pe_ix ix2 (pv 2) (pv 5) (fun _ _ => rfl)) pe_int (fun _ _ => rfl)) (pa_cons (pe_ix ix2 (pe_ix ix2 (pv 2) (pv 5) (fun _ _ => rfl)) pe_int (fun _ _ => rfl)) pa_nil star_Subscript) star_Subscript) star_BinOp)) pa_nil star_Tuple)))))
      (ss_cons (ps_set (i := 6) sc_law.nd rfl (Or.inl rfl) (pe_listRev rfl rfl z_list rfl z_reversed (pv 4)))
      (ss_cons (ps_if (pt_cmpR (op_eqX hu) (pe_op op_mod (pe_use c__law_at (hr.mono (by decide)) rfl (pa_cons (pv 0) (pa_cons pe_int pa_nil star_Constant) star_Name)) pe_int) pe_int (nomark _))
      (pss_one (ps_set (i := 6) sc_law.nd rfl (Or.inl rfl) (pe_op op_cat (pe_slice sl_list (pv 4) (po_some (pe_op op_fdiv (pv 3) pe_int)) po_none) (pe_slice sl_list (pv 4) po_none (po_some (pe_op op_fdiv (pv 3) pe_int)))))) pss_nil)
      (ss_cons (ps_set (i := 7) sc_law.nd rfl (Or.inl rfl) (pe_callTy call_lofR rfl z_list b_list (pa_cons (pv 6) pa_nil star_Name)))
      (ss_cons (ps_set (i := 8) sc_law.nd rfl (Or.inl rfl) (pe_use c_packed (hr.mono (by decide)) rfl (pa_cons (pv 7) pa_nil star_Name)))
      (ss_cons (ps_set (i := 9) sc_law.nd rfl (Or.inl rfl) (pe_lst pa_nil))
      (ss_cons (ps_set (i := 10) sc_law.nd rfl (Or.inl rfl) pe_int)
      (ss_forL PassesOwn.never rfl rfl (pg_name (i := 11) sc_law.nd rfl (Or.inl rfl))
      (pss_one (ps_for PassesOwn.never rfl (pi_list (pv 4)) (pg_name (i := 12) sc_law.nd rfl (Or.inl rfl))
      (pss_one (ps_if (pt_cmpR (op_eqX hu) (pe_ix ix2 (pv 12) pe_int (fun _ _ => rfl)) (pv 11) (nomark _))
      (pss_cons (ps_expr (pe_bm PySem.F.plainAttrs_list PySem.F.slot_list_append PySem.F.type_list_append mt_append (pv 9) (pa_cons (pe_tup (pa_cons (pe_ix ix2 (pv 12) pe_int (fun _ _ => rfl)) (pa_cons (pv 10) (pa_cons (pv 11) pa_nil star_Name) star_Name) star_Subscript)) pa_nil star_Tuple)))
      (pss_one (ps_set (i := 10) sc_law.nd rfl (Or.inl rfl) (pe_op op_add (pv 10) (pv 11))))) pss_nil))))
      (ss_cons (ps_if (PW.pt (pw_or (pt_not (pt_val (pe_use c__law_rows_same (hr.mono (by decide)) rfl (pa_cons (pv 7) (pa_cons (pv 6) pa_nil star_Name) star_Name)))) (pw_or1 (pt_not (pt_val (pe_use c__law_rows_same (hr.mono (by decide)) rfl (pa_cons (pv 8) (pa_cons (pv 9) pa_nil star_Name) star_Name)))))))
      (pss_one (ps_ret pe_bl)) pss_nil)
      (ss_cons (ps_for PassesOwn.never rfl (pi_list (pv 8)) (pg_name (i := 12) sc_law.nd rfl (Or.inl rfl))
      (pss_one (ps_if (pt_cmpR (op_neX hu) (pe_op op_mod (pe_ix ix2 (pv 12) pe_int (fun _ _ => rfl)) (pe_ix ix2 (pv 12) pe_int (fun _ _ => rfl))) pe_int (nomark _))
      (pss_one (ps_ret pe_bl)) pss_nil)))
      (ss_one (ps_ret pe_bl))))))))))))))))), ?_⟩
  walk_at "rdk"
  walk_at "rd"
  refine i_slL hS fun sc hsc => ?_
  rw [cut900 h63]
  have hS0 : SqL K (upd H sc (.lst (ns.map V.int))) sc (ns.map V.int) := SqL.of upd_same
  have tab0 := tab.same (Same.new (o := .lst (ns.map V.int)) hsc)
  generalize upd H sc (.lst (ns.map V.int)) = H0 at hS0 tab0
  walk_at "rd"
  refine i_slL hS0 fun c2 hc2 => ?_
  rw [show cutV (ns.map V.int) (some 2) none = (ns.drop 2).map V.int from cutFrom ns 2]
  have hS1 := (Same.new (o := .lst ((ns.drop 2).map V.int)) hc2).seq hS0
  have tab1 := tab0.same (Same.new (o := .lst ((ns.drop 2).map V.int)) hc2)
  have hC1 : SqL K (upd H0 c2 (.lst ((ns.drop 2).map V.int))) c2 ((ns.drop 2).map V.int) := SqL.of upd_same
  generalize upd H0 c2 (.lst ((ns.drop 2).map V.int)) = H1 at hS1 hC1 tab1
  walk_at "rd"
  refine ⟨sc, ns, 0, rfl, hS1, ?_⟩
  walk_at "rd"
  obtain ⟨h, eh, h6⟩ : ∃ h : Nat, ns.getD 0 0 % 7 = h ∧ h ≤ 6 := ⟨(ns.getD 0 0 % 7).toNat, by omega, by omega⟩
  rw [eh]
  refine ⟨h, rfl, by omega, ?_⟩
  walk_at "rd"
  refine ⟨c2, ns.drop 2, h, rfl, hC1, by rw [List.length_drop]; omega, h6, fun lm ms H2 sm2 flm hlm hm => ?_⟩
  have hS2 := sm2.seq hS1
  have tab2 := tab1.same sm2
  walk_at "rd"
  refine i_compL (xs := ms.map V.bl) (fun D i ys H' => Same H2 H' ∧ i ≤ ms.length ∧ ys = ((ms.take i).map (!·)).map V.bl) (SqL.of hlm) (fun D hD => ⟨Same.new hD, Nat.zero_le _, rfl⟩)
    (fun D i ys H' hi p => ⟨SqL.of (p.1 _ _ hlm), small1000 (by
      have n64 : (2 : Nat) ^ h ≤ 64 := Nat.pow_le_pow_right (by decide) h6
      rw [p.2.2, List.length_map, List.length_map, List.length_take]; omega)⟩) ?_ ?_
  · rintro D i ys H' x hD hx ⟨sm4, il, rfl⟩ hDy
    have il' : i < ms.length := by
      have := (List.getElem?_eq_some_iff.mp hx).1
      rw [List.length_map] at this; exact this
    rw [List.getElem?_map, List.getElem?_eq_getElem il'] at hx
    have ex : V.bl ms[i] = x := Option.some.inj hx
    subst ex
    walk_at "rd"
    refine i_cmpY (x := V.bl ms[i]) (by rw [List.getElem?_map, List.getElem?_eq_getElem il']; rfl) hDy ⟨sm4.upd hD, il', ?_⟩
    have e9 : ms.take (i + 1) = ms.take i ++ [ms[i]] := by rw [List.take_add_one, List.getElem?_eq_getElem il']; rfl
    rw [e9, List.map_append, List.map_append]
    rfl
  rintro D ys H4 hD ⟨sm4, _, rfl⟩ hDy
  rw [List.length_map, List.take_length] at hDy
  walk_at "rd"
  refine ⟨D, ms.map (!·), h, rfl, SqL.of hDy, by rw [List.length_map]; exact hm, h6, fun us H5 sm5 fus rowsU => ?_⟩
  have sm25 := sm4.trans sm5
  have hS5 := sm25.seq hS2
  have tab5 := tab2.same sm25
  have boU : Blocks (mk (ms.map (!·))) 0 h (canon (mk (ms.map (!·))) 0 h) := canon_blocks (Int.dvd_zero _)
  have rise := canon_ends (m := mk (ms.map (!·))) (k := h) (s := 0) (Int.dvd_zero _)
  have ul := canon_32 (m := mk (ms.map (!·))) (s := 0) h6
  have ub : ∀ b ∈ canon (mk (ms.map (!·))) 0 h, ∃ j : Nat, b.2 = 2 ^ j ∧ j ≤ 6 := fun b hb => by
    have bk := boU.blk b hb
    obtain ⟨j, ej⟩ := bk.sp
    refine ⟨j, ej, ?_⟩
    have w := bk.wide
    rw [ej] at w
    rcases Nat.lt_or_ge h j with q | q
    · have := pow_lt2 q; omega
    · omega
  clear boU hDy hD sm4 sm5 sm25 fus hlm hS2 tab2 sm2 hm flm tab1 hS1 hC1 hS0 tab0
  generalize canon (mk (ms.map (!·))) 0 h = used at rowsU rise ul ub
  obtain ⟨xu, hxu, tu⟩ := rowsU
  have lu := tu.length
  walk_at "rd"
  refine i_lenL (SqL.of hxu) ?_
  walk_at "rd"
  intro bl fbl
  walk_at "rd"
  have sm6 : Same H5 (upd H5 bl (.lst [])) := Same.new fbl
  refine i_rng1 (by omega) (by omega) ?_
  refine i_forR (fun i σ H' => ∃ (o5 : Option V) (xb : List V), σ = [some (.ref sc), some (.ref lm), some (.ref us), some (.int xu.length), some (.ref bl), o5, none, none, none, none, none, none, none] ∧ Same H5 H' ∧ H' bl = some (.lst xb) ∧ TupsAt e3 H' xb (tick (ns.getD 1 0) used i))
    ⟨none, [], rfl, sm6, upd_same, trivial⟩ ?_ ?_
  · rintro i σ H' hi ⟨o5, xb, rfl, sm7, hbl, tb⟩
    rw [Int.zero_add]
    have hi' : i < used.length := by omega
    have hb : used[i]? = some used[i] := List.getElem?_eq_getElem hi'
    obtain ⟨q, eq, hq⟩ := tu.getB hb
    have gd : used.getD i (0, 1) = used[i] := by rw [List.getD_eq_getElem?_getD, hb]; rfl
    have lb := tb.length
    rw [tick_len] at lb
    have hq7 := sm7 _ _ hq
    walk_at "rd"
    refine i_bmL hbl ?_
    walk_at "rd"
    refine ⟨sc, ns, 1, rfl, sm7.seq hS5, ?_⟩
    walk_at "rd"
    refine i_ixL (SqL.of (sm7 _ _ hxu)) (atI_nat eq) ?_
    walk_at "rd"
    refine i_ixT (SqT.of hq7) atI0 ?_
    walk_at "rd"
    refine i_ixL (SqL.of (sm7 _ _ hxu)) (atI_nat eq) ?_
    walk_at "rd"
    refine i_ixT (SqT.of hq7) atI1 ?_
    walk_at "rd"
    intro t ft
    walk_at "rd"
    refine i_app (xs := xb) (Same.new ft _ _ hbl) (small1000 (by omega)) ?_
    obtain ⟨ws, hw, tw⟩ := RowsAt.push (enc := e3) (H := upd H' t (.tup [.int (((i : Int) * 37 + ns.getD 1 0) % 101), .int used[i].1, .int used[i].2])) (l := bl) (p := t) (xs := xb) (bs := tick (ns.getD 1 0) used i) (b := (((i : Int) * 37 + ns.getD 1 0) % 101, used[i].1, used[i].2)) (Same.new ft _ _ hbl) (tb.mono (KeepT.new ft)) upd_same
    refine ⟨_, ws, rfl, (sm7.trans (Same.new ft)).upd fbl, hw, ?_⟩
    rw [tick_succ, gd]
    exact tw
  rintro σ H6 ⟨o5, xb, rfl, sm7, hbl, tb⟩
  rw [Int.toNat_natCast, lu] at tb
  have up : ∀ b ∈ used, 0 < b.2 := fun b hb => by
    obtain ⟨j, e, _⟩ := ub b hb
    rw [e]; exact pow_pos2 j
  have bR := tick_rise (t0 := ns.getD 1 0) rise up
  have bL := tick_len (ns.getD 1 0) used used.length
  have bP : ∀ t ∈ tick (ns.getD 1 0) used used.length, ∃ j : Nat, t.2.2 = 2 ^ j ∧ j ≤ 6 := fun t ht => ub _ (tick_mem ht)
  have hS6 := sm7.seq hS5
  have tab6 := tab5.same sm7
  rw [lu]
  generalize tick (ns.getD 1 0) used used.length = bs at tb bR bL bP
  have lb := tb.length
  rw [← bL] at ul ⊢
  clear rise ub up hxu tu lu bL sm7 sm6 fbl hS5 tab5 xu used
  walk_at "rd"
  refine ⟨bl, xb, rfl, SqL.of hbl, fun hd0 fhd0 => ?_⟩
  have sm8 : Same H6 (upd H6 hd0 (.lst xb.reverse)) := Same.new fhd0
  have rH0 : RowsAt e3 (upd H6 hd0 (.lst xb.reverse)) hd0 bs.reverse := ⟨_, upd_same, (tb.mono sm8.keepT).rev⟩
  have hbl8 := sm8 _ _ hbl
  have tb8 := tb.mono sm8.keepT
  have hS8 := sm8.seq hS6
  have tab8 := tab6.same sm8
  generalize upd H6 hd0 (.lst xb.reverse) = H8 at rH0 hbl8 tb8 hS8 tab8
  clear sm8 hbl tb hS6 tab6 fhd0
  walk_at "rd"
  refine ⟨sc, ns, 1, rfl, hS8, ?_⟩
  walk_at "rd"
  refine i_ifd (fun cO => ?_) (fun cO => ?_)
  case' refine_1 =>
    obtain ⟨n2, en2⟩ : ∃ n2 : Nat, (bs.length : Int) / 2 = n2 := ⟨bs.length / 2, by omega⟩
    walk_at "rd"
    refine i_slL (SqL.of hbl8) fun s1 fs1 => ?_
    rw [en2, cutDrop]
    have sm9 : Same H8 (upd H8 s1 (.lst (xb.drop n2))) := Same.new fs1
    walk_at "rd"
    refine i_slL (SqL.of (sm9 _ _ hbl8)) fun s2 fs2 => ?_
    rw [en2, cutTake]
    have sm10 := sm9.trans (Same.new (o := .lst (xb.take n2)) fs2)
    have hs1 : upd (upd H8 s1 (.lst (xb.drop n2))) s2 (.lst (xb.take n2)) s1 = some (.lst (xb.drop n2)) := Same.new fs2 _ _ upd_same
    refine i_cat (K := K) hs1 upd_same (by rw [List.length_drop, List.length_take]; omega) fun hd fhd => ?_
    have sm11 := sm10.trans (Same.new (o := .lst (xb.drop n2 ++ xb.take n2)) fhd)
    have t11 := tb8.mono sm11.keepT
    have rH : RowsAt e3 (upd (upd (upd H8 s1 (.lst (xb.drop n2))) s2 (.lst (xb.take n2))) hd (.lst (xb.drop n2 ++ xb.take n2))) hd (bs.drop n2 ++ bs.take n2) := ⟨_, upd_same, (t11.drop n2).append (t11.take n2)⟩
    have pm : (bs.drop n2 ++ bs.take n2).Perm bs := List.perm_append_comm.trans (by rw [List.take_append_drop])
    have hblX := sm11 _ _ hbl8
    have hSX := sm11.seq hS8
    have tabX := tab8.same sm11
    generalize upd (upd (upd H8 s1 (.lst (xb.drop n2))) s2 (.lst (xb.take n2))) hd (.lst (xb.drop n2 ++ xb.take n2)) = HX at rH hblX hSX tabX t11
    generalize bs.drop n2 ++ bs.take n2 = hs at rH pm
    clear sm9 sm10 sm11 hs1 fs1 fs2 fhd hbl8 tb8 hS8 tab8 en2 rH0
    obtain ⟨H8, rfl⟩ : ∃ X, X = HX := ⟨_, rfl⟩
    obtain ⟨hd0, rfl⟩ : ∃ X, X = hd := ⟨_, rfl⟩
  case' refine_2 =>
    have pm : bs.reverse.Perm bs := List.reverse_perm bs
    have rH := rH0
    have hblX := hbl8
    have hSX := hS8
    have tabX := tab8
    have t11 := tb8
    generalize bs.reverse = hs at rH pm
    clear hbl8 tb8 hS8 tab8 rH0
  all_goals
    walk_at "rd"
    obtain ⟨xh, hxh, th⟩ := rH
    refine i_listof (SqL.of hxh) fun gv fgv => ?_
    have sm12 : Same H8 (upd H8 gv (.lst xh)) := Same.new fgv
    have ph := pm.length_eq
    walk_at "rd"
    have gv12 : RowsAt e3 (upd H8 gv (.lst xh)) gv hs := ⟨xh, upd_same, th.mono sm12.keepT⟩
    have hd12 : RowsAt e3 (upd H8 gv (.lst xh)) hd0 hs := ⟨xh, sm12 _ _ hxh, th.mono sm12.keepT⟩
    have bl12 : RowsAt e3 (upd H8 gv (.lst xh)) bl bs := ⟨xb, sm12 _ _ hblX, t11.mono sm12.keepT⟩
    have tab12 := tabX.same sm12
    generalize upd H8 gv (.lst xh) = H12 at gv12 hd12 bl12 tab12
    refine ⟨gv, hs, rfl, gv12, by omega, tab12, fun fo H13 cs sb13 tab13 ffo pc so rF => ?_⟩
    have nT : ∀ {b : Addr} {xs : List V}, H12 b = some (.lst xs) → b ∉ [P_packed] := fun {b xs} e z => by
      obtain ⟨ps, e2, _⟩ := tab12
      have : b = P_packed := by simpa using z
      rw [this, e2] at e; cases e
    have kT : KeepT H12 H13 := by
      obtain ⟨ps, e2, _⟩ := tab12
      exact sb13.keepT e2
    have rows13 : ∀ {b : Addr} {L : List Tri}, RowsAt e3 H12 b L → RowsAt e3 H13 b L := fun {b L} ⟨xs, e, t⟩ => ⟨xs, sb13 _ _ (nT e) e, t.mono kT⟩
    have gv13 := rows13 gv12
    have hd13 := rows13 hd12
    have bl13 := rows13 bl12
    have es : cs = order bs := packed_order (fun t ht => by
      obtain ⟨j, e, h6⟩ := bP t ht
      rw [e]; exact pow_sizes (by omega)) bR (pc.trans pm) so
    subst es
    clear gv12 hd12 bl12 tab12 tab13 sb13 so pc nT kT rows13 hxh th hblX hSX tabX t11 sm12
    walk_at "rd"
    intro dl fdl
    walk_at "rd"
    have nfo : fo ≠ dl := by
      obtain ⟨_, e, _⟩ := rF
      exact ne_of_none e fdl
    have nbl : bl ≠ dl := by
      obtain ⟨_, e, _⟩ := bl13
      exact ne_of_none e fdl
    have ngv : gv ≠ dl := by
      obtain ⟨_, e, _⟩ := gv13
      exact ne_of_none e fdl
    have nhd : hd0 ≠ dl := by
      obtain ⟨_, e, _⟩ := hd13
      exact ne_of_none e fdl
    have smd : Same H13 (upd H13 dl (.lst [])) := Same.new fdl
    intro sz fsz
    have smz := smd.trans (Same.new (o := .lst (sizes.map V.int)) fsz)
    have hdl0 : upd (upd H13 dl (.lst [])) sz (.lst (sizes.map V.int)) dl = some (.lst []) := Same.new fsz _ _ upd_same
    have nsz : sz ≠ dl := (ne_of_none (H := upd H13 dl (.lst [])) upd_same fsz).symm
    have hsz0 : upd (upd H13 dl (.lst [])) sz (.lst (sizes.map V.int)) sz = some (.lst (sizes.map V.int)) := upd_same
    have gv14 := gv13.same smz
    have hd14 := hd13.same smz
    have bl14 := bl13.same smz
    have fo14 := rF.same smz
    show ListEnd _ _ _ (upd (upd H13 dl (.lst [])) sz (.lst (sizes.map V.int)))
    generalize upd (upd H13 dl (.lst [])) sz (.lst (sizes.map V.int)) = H14 at hdl0 hsz0 gv14 hd14 bl14 fo14
    clear gv13 hd13 bl13 rF smz smd fsz fdl
    have oL : ∀ (i : Nat), (orderBy (sizes.take i) bs).length ≤ 700 := fun i => by
      have z : ∀ (zs : List Int), (orderBy zs bs).length ≤ zs.length * 32 := fun zs => by
        induction zs with
        | nil => exact Nat.zero_le _
        | cons z zs ih =>
          have e1 : orderBy (z :: zs) bs = ofSize bs z ++ orderBy zs bs := rfl
          have e2 : (ofSize bs z).length ≤ bs.length := List.length_filter_le _ _
          rw [e1, List.length_append, List.length_cons]; omega
      have := z (sizes.take i)
      have : (sizes.take i).length ≤ 11 := by rw [List.length_take]; exact Nat.min_le_right _ _
      omega
    refine i_forL (xs := sizes.map V.int) (fun i σ H' => ∃ (o11 o12 : Option V) (xd : List V), σ = [some (.ref sc), some (.ref lm), some (.ref us), some (.int bs.length), some (.ref bl), o5, some (.ref hd0), some (.ref gv), some (.ref fo), some (.ref dl), some (.int (tot (orderBy (sizes.take i) bs))), o11, o12] ∧
        But dl H14 H' ∧ H' dl = some (.lst xd) ∧ TupsAt e3 H' xd (lay 0 (orderBy (sizes.take i) bs)))
      (SqL.of hsz0) ⟨none, none, [], rfl, fun _ _ _ e => e, hdl0, trivial⟩ (fun i σ H' _ ⟨_, _, _, _, bt, _⟩ => SqL.of (bt _ _ nsz hsz0)) ?_ ?_
    · rintro i x σ H' hx ⟨o11, o12, xd, rfl, bt, hd0', td⟩
      rw [List.getElem?_map] at hx
      obtain ⟨z, ez, rfl⟩ : ∃ z, sizes[i]? = some z ∧ V.int z = x := by
        cases q : sizes[i]? with
        | none => rw [q] at hx; cases hx
        | some z => rw [q] at hx; exact ⟨z, rfl, Option.some.inj hx⟩
      have etz : sizes.take (i + 1) = sizes.take i ++ [z] := by rw [List.take_add_one, ez]; rfl
      have oLi := oL i
      have blH := rows_but bl14 bt hdl0 nbl
      obtain ⟨yb, hyb, tyb⟩ := blH
      have lyb := tyb.length
      walk_at "rd"
      refine i_forL (xs := yb) (fun j σ H2 => ∃ (o12 : Option V) (xd : List V), σ = [some (.ref sc), some (.ref lm), some (.ref us), some (.int bs.length), some (.ref bl), o5, some (.ref hd0), some (.ref gv), some (.ref fo), some (.ref dl), some (.int (tot (orderBy (sizes.take i) bs ++ ofSize (bs.take j) z))), some (.int z), o12] ∧
          But dl H' H2 ∧ H2 dl = some (.lst xd) ∧ TupsAt e3 H2 xd (lay 0 (orderBy (sizes.take i) bs ++ ofSize (bs.take j) z)))
        (SqL.of hyb) ⟨_, xd, by rw [show ofSize (bs.take 0) z = [] from rfl, List.append_nil] <;> rfl, fun _ _ _ e => e, hd0', by rw [show ofSize (bs.take 0) z = [] from rfl, List.append_nil]; exact td⟩ (fun j σ H2 _ ⟨_, _, _, bt2, _⟩ => SqL.of (bt2 _ _ nbl hyb)) ?_ ?_
      · rintro j x σ H2 hx ⟨o12', xd2, rfl, bt2, hd2, td2⟩
        obtain ⟨p, c, rfl, hc, hp⟩ := tyb.get hx
        have et : bs.take (j + 1) = bs.take j ++ [c] := by rw [List.take_add_one, hc]; rfl
        have hp2 := bt2 _ _ (ne_of hp hd0' (by intro z; cases z)) hp
        have ld2 := td2.length
        have lo2 : (ofSize (bs.take j) z).length ≤ (bs.take j).length := List.length_filter_le _ _
        rw [List.length_take] at lo2
        rw [lay_length, List.length_append] at ld2
        walk_at "rd"
        refine i_ixT (xs := e3 c) (SqT.of hp2) rfl ?_
        walk_at "rd"
        rw [et, ofSize_snoc]
        refine i_ifd (fun cz => ?_) (fun cz => ?_)
        · rw [if_pos cz, ← List.append_assoc]
          walk_at "rd"
          refine i_bmL hd2 ?_
          walk_at "rd"
          refine i_ixT (xs := e3 c) (SqT.of hp2) rfl ?_
          walk_at "rd"
          intro t ft
          walk_at "rd"
          refine i_app (xs := xd2) (Same.new ft _ _ hd2) (small1000 (by omega)) ?_
          walk_at "rd"
          obtain ⟨ws, hw, tw⟩ := RowsAt.push (enc := e3) (H := upd H2 t (.tup [.int c.1, .int (tot (orderBy (sizes.take i) bs ++ ofSize (bs.take j) z)), .int z])) (l := dl) (p := t) (xs := xd2) (bs := lay 0 (orderBy (sizes.take i) bs ++ ofSize (bs.take j) z)) (b := (c.1, tot (orderBy (sizes.take i) bs ++ ofSize (bs.take j) z), z)) (Same.new ft _ _ hd2) (td2.mono (KeepT.new ft)) upd_same
          refine ⟨_, ws, by rw [tot_snoc, cz] <;> rfl, fun b o hb e => by rw [upd_ne hb]; exact Same.new ft _ _ (bt2 b o hb e), hw, ?_⟩
          rw [lay_snoc, Int.zero_add, cz]
          exact tw
        · rw [if_neg cz]
          walk_at "rd"
          exact ⟨_, xd2, rfl, bt2, hd2, td2⟩
      · rintro σ H2 ⟨o12', xd2, rfl, bt2, hd2, td2⟩
        have eb : bs.take yb.length = bs := by rw [lyb, List.take_length]
        rw [eb] at td2 ⊢
        refine ⟨_, _, xd2, by rw [etz, orderBy_snoc] <;> rfl, fun b o hb e => bt2 b o hb (bt b o hb e), hd2, by rw [etz, orderBy_snoc]; exact td2⟩
    · rintro σ H' ⟨o11, o12, xd, rfl, bt, hd0', td⟩
      have eo : orderBy (sizes.take (sizes.map V.int).length) bs = order bs := by rw [List.length_map, List.take_length]; rfl
      rw [eo] at td ⊢
      have gvE := rows_but gv14 bt hdl0 ngv
      have hdE := rows_but hd14 bt hdl0 nhd
      have foE := rows_but fo14 bt hdl0 nfo
      have oln : (order bs).length ≤ 700 := by
        have := oL 11
        exact this
      walk_at "rd"
      refine ⟨gv, hd0, hs, rfl, gvE, hdE, by omega, ?_⟩
      walk_at "rd"
      refine ⟨fo, dl, lay 0 (order bs), rfl, foE, ⟨xd, hd0', td⟩, by rw [lay_length]; omega, ?_⟩
      walk_at "rd"
      have al := order_al (fun t ht => let ⟨j, e, _⟩ := bP t ht; ⟨j, e⟩) bR
      have lp : ∀ t ∈ lay 0 (order bs), 0 < t.2.2 := fun t ht => by
        have z : ∀ (L : List Tri) (h : Int), (∀ t ∈ L, 0 < t.2.2) → ∀ t ∈ lay h L, 0 < t.2.2 := fun L => by
          induction L with
          | nil => intro h _ t ht; cases ht
          | cons u L ih =>
            intro h hp t ht
            rcases List.mem_cons.mp ht with e | ht
            · rw [e]; exact hp u List.mem_cons_self
            · exact ih _ (fun v hv => hp v (List.mem_cons_of_mem _ hv)) t ht
        exact z _ _ (fun t ht => by
          obtain ⟨j, e, _⟩ := bP t (order_mem ht)
          rw [e]; exact pow_pos2 j) t ht
      obtain ⟨xf, hxf, tf⟩ := foE
      refine i_forL (xs := xf) (fun i σ H2 => ∃ o12, σ = [some (.ref sc), some (.ref lm), some (.ref us), some (.int bs.length), some (.ref bl), o5, some (.ref hd0), some (.ref gv), some (.ref fo), some (.ref dl), some (.int (tot (order bs))), o11, o12] ∧ H2 = H') (SqL.of hxf) ⟨_, rfl, rfl⟩ (fun i σ H2 _ ⟨_, _, e⟩ => by rw [e]; exact SqL.of hxf) ?_ ?_
      · rintro i x σ H2 hx ⟨o12', rfl, rfl⟩
        obtain ⟨p, c, rfl, hc, hp⟩ := tf.get hx
        have mc := List.mem_of_getElem? hc
        have c0 := lp c mc
        walk_at "rd"
        refine i_ixT (xs := e3 c) (SqT.of hp) rfl ?_
        walk_at "rd"
        refine i_ixT (xs := e3 c) (SqT.of hp) rfl ?_
        walk_at "rd"
        refine i_ifndF (Int.emod_eq_zero_of_dvd (al c mc)) ?_
        walk_at "rd"
        exact ⟨_, rfl, rfl⟩
      · rintro σ H2 ⟨o12', rfl, rfl⟩
        walk_at "rd"
        exact k _

end
theorem all_mk {ts : List Addr} {l : PySem.W.OpenLaw} {w : World} {K : PySem.W.Frag} {h : Heap} {mg : Str → Option Value} {fa : Addr} (X : K.In h) (G : h.Ns mainGlobals mg) (hfa : mg "law" = some (.ref fa))
    {f0 : Addr} {od0 an0 : Option Addr} {sl0 : Array (Option Value)} {oc0 kV0 dc0 pm0 cd0 ct0 : Value}
    {f1 : Addr} {od1 an1 : Option Addr} {sl1 : Array (Option Value)} {oc1 kV1 dc1 pm1 cd1 ct1 : Value}
    {f2 : Addr} {od2 an2 : Option Addr} {sl2 : Array (Option Value)} {oc2 kV2 dc2 pm2 ct2 : Value} {c_packed P_packed : Addr}
    {f3 : Addr} {od3 an3 : Option Addr} {sl3 : Array (Option Value)} {oc3 kV3 dc3 pm3 cd3 ct3 : Value}
    {f4 : Addr} {od4 an4 : Option Addr} {sl4 : Array (Option Value)} {oc4 kV4 dc4 pm4 cd4 ct4 : Value}
    {f5 : Addr} {od5 an5 : Option Addr} {sl5 : Array (Option Value)} {oc5 kV5 dc5 pm5 cd5 ct5 : Value}
    {f6 : Addr} {od6 an6 : Option Addr} {sl6 : Array (Option Value)} {oc6 kV6 dc6 pm6 cd6 ct6 : Value}
    {f7 : Addr} {od7 an7 : Option Addr} {sl7 : Array (Option Value)} {oc7 kV7 dc7 pm7 cd7 ct7 : Value}
    (a0 : PySem.W.nsIn K mainGlobals "_law_whole" = some (some (.ref f0))) (l0 : K.lookup f0 = some ⟨oc0, od0, .func (PySem.W.fnOf "_law_whole" "_law_whole" (defArgs s_law_whole) (defBody s_law_whole) (defScope s_law_whole) .none kV0 dc0 pm0 an0 cd0 ct0), sl0⟩) (c0 : PySem.W.codeIn K cd0 "_law_whole" = true) (k0 : PySem.W.keepIn K (.ref f0) = true)
    (a1 : PySem.W.nsIn K mainGlobals "_law_rows_same" = some (some (.ref f1))) (l1 : K.lookup f1 = some ⟨oc1, od1, .func (PySem.W.fnOf "_law_rows_same" "_law_rows_same" (defArgs s_law_rows_same) (defBody s_law_rows_same) (defScope s_law_rows_same) .none kV1 dc1 pm1 an1 cd1 ct1), sl1⟩) (c1 : PySem.W.codeIn K cd1 "_law_rows_same" = true) (k1 : PySem.W.keepIn K (.ref f1) = true)
    (a2 : PySem.W.nsIn K mainGlobals "packed" = some (some (.ref f2))) (l2 : K.lookup f2 = some ⟨oc2, od2, .func (PySem.W.fnOf "packed" "packed" (defArgs s_packed) (defBody s_packed) (defScope s_packed) .none kV2 dc2 pm2 an2 (.ref c_packed) ct2), sl2⟩) (c2 : PySem.W.codeIn K (.ref c_packed) "packed" = true) (k2 : PySem.W.keepIn K (.ref f2) = true)
    (a3 : PySem.W.nsIn K mainGlobals "_law_at" = some (some (.ref f3))) (l3 : K.lookup f3 = some ⟨oc3, od3, .func (PySem.W.fnOf "_law_at" "_law_at" (defArgs s_law_at) (defBody s_law_at) (defScope s_law_at) .none kV3 dc3 pm3 an3 cd3 ct3), sl3⟩) (c3 : PySem.W.codeIn K cd3 "_law_at" = true) (k3 : PySem.W.keepIn K (.ref f3) = true)
    (a4 : PySem.W.nsIn K mainGlobals "_law_whole_blocks" = some (some (.ref f4))) (l4 : K.lookup f4 = some ⟨oc4, od4, .func (PySem.W.fnOf "_law_whole_blocks" "_law_whole_blocks" (defArgs s_law_whole_blocks) (defBody s_law_whole_blocks) (defScope s_law_whole_blocks) .none kV4 dc4 pm4 an4 cd4 ct4), sl4⟩) (c4 : PySem.W.codeIn K cd4 "_law_whole_blocks" = true) (k4 : PySem.W.keepIn K (.ref f4) = true)
    (a5 : PySem.W.nsIn K mainGlobals "_law_marked" = some (some (.ref f5))) (l5 : K.lookup f5 = some ⟨oc5, od5, .func (PySem.W.fnOf "_law_marked" "_law_marked" (defArgs s_law_marked) (defBody s_law_marked) (defScope s_law_marked) .none kV5 dc5 pm5 an5 cd5 ct5), sl5⟩) (c5 : PySem.W.codeIn K cd5 "_law_marked" = true) (k5 : PySem.W.keepIn K (.ref f5) = true)
    (a6 : PySem.W.nsIn K mainGlobals "_law_total" = some (some (.ref f6))) (l6 : K.lookup f6 = some ⟨oc6, od6, .func (PySem.W.fnOf "_law_total" "_law_total" (defArgs s_law_total) (defBody s_law_total) (defScope s_law_total) .none kV6 dc6 pm6 an6 cd6 ct6), sl6⟩) (c6 : PySem.W.codeIn K cd6 "_law_total" = true) (k6 : PySem.W.keepIn K (.ref f6) = true)
    (a7 : PySem.W.nsIn K mainGlobals "law" = some (some (.ref f7))) (l7 : K.lookup f7 = some ⟨oc7, od7, .func (PySem.W.fnOf "law" "law" (defArgs s_law) (defBody s_law) (defScope s_law) .none kV7 dc7 pm7 an7 cd7 ct7), sl7⟩) (c7 : PySem.W.codeIn K cd7 "law" = true) (k7 : PySem.W.keepIn K (.ref f7) = true)
    (td_packed : P_packed ∈ ts ∧ PySem.W.codeHdIn K c_packed P_packed = true ∧ K.lookup P_packed = none)
    (y_isinstance : PySem.W.nsIn K mainGlobals "isinstance" = some none)
    (y_bool : PySem.W.nsIn K mainGlobals "bool" = some none)
    (y_int : PySem.W.nsIn K mainGlobals "int" = some none)
    (y_range : PySem.W.nsIn K mainGlobals "range" = some none)
    (y_len : PySem.W.nsIn K mainGlobals "len" = some none)
    (y_tuple : PySem.W.nsIn K mainGlobals "tuple" = some none)
    (y_list : PySem.W.nsIn K mainGlobals "list" = some none)
    (y_sorted : PySem.W.nsIn K mainGlobals "sorted" = some none)
    (y_min : PySem.W.nsIn K mainGlobals "min" = some none)
    (y_reversed : PySem.W.nsIn K mainGlobals "reversed" = some none) :
    ∃ (fd : FuncData) (sp' : Sp) (tabs : List (Addr × Addr)), (∀ (s : Shared) (v : Value), BindsTo s fd ⟨[v], []⟩ [("_law_script", v)]) ∧ (∀ p ∈ tabs, p.2 ∈ ts) ∧ (∀ p ∈ tabs, PySem.W.codeHdIn K p.1 p.2 = true) ∧ (∀ p ∈ tabs, K.lookup p.2 = none) ∧ (∀ base : Heap, K.In base → base.Ns mainGlobals mg → BM base mg → FnOk l.prog w K mg base CX0 5 fa fd ["_law_script"] sp') ∧ ∀ (H : Hp) (a : Addr) (ns : List Int), ns.length ≤ 63 → (∀ p ∈ tabs, H p.2 = some (.tbl #[])) → SqL K H a (ns.map V.int) → sp' [.ref a] H (fun v _ => v = .bl true) fun _ _ _ => False := by
  have e := hfa.symm.trans (PySem.W.mg_of X G a7)
  cases e
  have z_isinstance := PySem.W.mg_none_of X G y_isinstance
  have z_bool := PySem.W.mg_none_of X G y_bool
  have z_int := PySem.W.mg_none_of X G y_int
  have z_range := PySem.W.mg_none_of X G y_range
  have z_len := PySem.W.mg_none_of X G y_len
  have z_tuple := PySem.W.mg_none_of X G y_tuple
  have z_list := PySem.W.mg_none_of X G y_list
  have z_sorted := PySem.W.mg_none_of X G y_sorted
  have z_min := PySem.W.mg_none_of X G y_min
  have z_reversed := PySem.W.mg_none_of X G y_reversed
  have F0 := fun_mk (st := s_law_whole) l0 c0 k0
  have b0 := F0.binds (ps := ["_law_found"]) fun _ _ _ _ _ _ us hl => match us, hl with | [_], _ => rfl
  have F1 := fun_mk (st := s_law_rows_same) l1 c1 k1
  have b1 := F1.binds (ps := ["_law_found", "_law_due"]) fun _ _ _ _ _ _ us hl => match us, hl with | [_, _], _ => rfl
  have F2 := fun_mk (st := s_packed) l2 c2 k2
  have b2 := F2.binds (ps := ["blocks"]) fun _ _ _ _ _ _ us hl => match us, hl with | [_], _ => rfl
  have F3 := fun_mk (st := s_law_at) l3 c3 k3
  have b3 := F3.binds (ps := ["_law_script", "_law_k"]) fun _ _ _ _ _ _ us hl => match us, hl with | [_, _], _ => rfl
  have F4 := fun_mk (st := s_law_whole_blocks) l4 c4 k4
  have b4 := F4.binds (ps := ["_law_marks"]) fun _ _ _ _ _ _ us hl => match us, hl with | [_], _ => rfl
  have F5 := fun_mk (st := s_law_marked) l5 c5 k5
  have b5 := F5.binds (ps := ["_law_cells", "_law_size"]) fun _ _ _ _ _ _ us hl => match us, hl with | [_, _], _ => rfl
  have F6 := fun_mk (st := s_law_total) l6 c6 k6
  have b6 := F6.binds (ps := ["_law_height"]) fun _ _ _ _ _ _ us hl => match us, hl with | [_], _ => rfl
  have F7 := fun_mk (st := s_law) l7 c7 k7
  refine ⟨PySem.W.fnOf "law" "law" (defArgs s_law) (defBody s_law) (defScope s_law) .none kV7 dc7 pm7 an7 cd7 ct7, (SP_law K P_packed), [(c_packed, P_packed)], fun s v => .of_eq rfl, (List.forall_mem_cons.mpr ⟨td_packed.1, (fun _ h => nomatch h)⟩), (List.forall_mem_cons.mpr ⟨td_packed.2.1, (fun _ h => nomatch h)⟩), (List.forall_mem_cons.mpr ⟨td_packed.2.2, (fun _ h => nomatch h)⟩), fun base _ _ bmf => ?_, fun H a ns hl ht hS => ⟨a, ns, rfl, hS, hl, ht (c_packed, P_packed) (by simp), fun _ => rfl⟩⟩
  have h__law_whole : Has l.prog w K mg base 1 "_law_whole" ["_law_found"] SP_law_whole := ⟨f0, _, ok_law_whole (P := l.prog) (w := w) (base := base) F0 (z_isinstance := z_isinstance) (z_bool := z_bool) (z_int := z_int), PySem.W.mg_of X G a0, k0, b0⟩
  have h__law_rows_same : Has l.prog w K mg base 2 "_law_rows_same" ["_law_found", "_law_due"] SP_law_rows_same := ⟨f1, _, ok_law_rows_same (P := l.prog) (w := w) (base := base) F1 (c__law_whole := h__law_whole) (z_range := z_range) (z_len := z_len) (z_isinstance := z_isinstance) (z_tuple := z_tuple) (z_list := z_list), PySem.W.mg_of X G a1, k1, b1⟩
  have h_packed : Has l.prog w K mg base 4 "packed" ["blocks"] (SP_packed P_packed) := ⟨f2, _, ok_packed (P := l.prog) (w := w) (base := base) F2 (z_sorted := z_sorted) (hcode := rfl) (d_packed := td_packed.2.1) (bmf := bmf), PySem.W.mg_of X G a2, k2, b2⟩
  have h__law_at : Has l.prog w K mg base 1 "_law_at" ["_law_script", "_law_k"] (SP_law_at K) := ⟨f3, _, ok_law_at (P := l.prog) (w := w) (base := base) F3 (z_len := z_len), PySem.W.mg_of X G a3, k3, b3⟩
  have h__law_whole_blocks : Has l.prog w K mg base 1 "_law_whole_blocks" ["_law_marks"] (SP_law_whole_blocks K) := ⟨f4, _, ok_law_whole_blocks (P := l.prog) (w := w) (base := base) F4 (z_len := z_len), PySem.W.mg_of X G a4, k4, b4⟩
  have h__law_marked : Has l.prog w K mg base 1 "_law_marked" ["_law_cells", "_law_size"] (SP_law_marked K) := ⟨f5, _, ok_law_marked (P := l.prog) (w := w) (base := base) F5 (z_range := z_range) (z_len := z_len) (z_min := z_min), PySem.W.mg_of X G a5, k5, b5⟩
  have h__law_total : Has l.prog w K mg base 1 "_law_total" ["_law_height"] SP_law_total := ⟨f6, _, ok_law_total (P := l.prog) (w := w) (base := base) F6 (z_range := z_range), PySem.W.mg_of X G a6, k6, b6⟩
  exact ok_law (P := l.prog) (w := w) (base := base) F7 (c__law_rows_same := h__law_rows_same) (c_packed := h_packed) (c__law_at := h__law_at) (c__law_whole_blocks := h__law_whole_blocks) (c__law_marked := h__law_marked) (c__law_total := h__law_total) (z_list := z_list) (z_reversed := z_reversed) (z_range := z_range) (z_len := z_len)
theorem walk {ts : List Addr} {l : PySem.W.OpenLaw} {q : Program} {loose : List Str} {XP : (Str → Option Value) → Heap → Prop} {YP : World → Heap → Prop} {d : DefRec} {K : Params → PySem.W.Frag} (hn : l.most = some 63) (hdf : d.params.defaults = [])
    (hY : ∀ (w : World) (h : Heap), YP w h → (K w.params).In h ∧ ∀ P ∈ ts, h.get? P = some (PySem.W.tabObj #[]))
    (F : ∀ (w : World) (mg : Str → Option Value) (fa : Addr) (h : Heap), (K w.params).In h → h.Ns mainGlobals mg → mg d.name = some (.ref fa) →
      ∃ (fd : FuncData) (sp' : Sp) (tabs : List (Addr × Addr)), (∀ (s : Shared) (v : Value), BindsTo s fd ⟨[v], []⟩ [("_law_script", v)]) ∧ (∀ p ∈ tabs, p.2 ∈ ts) ∧ (∀ p ∈ tabs, PySem.W.codeHdIn (K w.params) p.1 p.2 = true) ∧ (∀ p ∈ tabs, (K w.params).lookup p.2 = none) ∧ (∀ base : Heap, (K w.params).In base → base.Ns mainGlobals mg → BM base mg → FnOk l.prog w (K w.params) mg base CX0 5 fa fd ["_law_script"] sp') ∧ ∀ (H : Hp) (a : Addr) (ns : List Int), ns.length ≤ 63 → (∀ p ∈ tabs, H p.2 = some (.tbl #[])) → SqL (K w.params) H a (ns.map V.int) → sp' [.ref a] H (fun v _ => v = .bl true) fun _ _ _ => False) :
    PySem.W.WalkO q loose XP YP l.row.toRowW d [] (fun f vs => PySem.call f vs) :=
  L2.walk_ofT (n := 63) (k := 5) (x := "_law_script") hn (by decide) hdf ⟨rfl, by decide, by decide⟩ hY F
end My
open PySem PySem.W PyProof.Rows
set_option maxRecDepth 100000 in
set_option maxHeartbeats 0 in
theorem PySem.Challenge.cw_loftstore_k07_packed_holds : PySem.Challenge.rw_loftstore_k07_packed.Holds := by
  w_on; o_law; k_head; (case hw => w_witness2)
  k_fill
  refine My.walk (l := PySem.Challenge.rw_loftstore_k07_packed) rfl rfl (fun w h Y => ⟨PySem.W.km_in_of Y, PySem.W.km_tabs_of Y⟩) ?F
  case F =>
    intro w mg fa h KX G hmg
    refine' My.all_mk KX G hmg ?a0 ?l0 ?c0 ?k0 ?a1 ?l1 ?c1 ?k1 ?a2 ?l2 ?c2 ?k2 ?a3 ?l3 ?c3 ?k3 ?a4 ?l4 ?c4 ?k4 ?a5 ?l5 ?c5 ?k5 ?a6 ?l6 ?c6 ?k6 ?a7 ?l7 ?c7 ?k7 ?td_packed ?y_isinstance ?y_bool ?y_int ?y_range ?y_len ?y_tuple ?y_list ?y_sorted ?y_min ?y_reversed
    (case a0 => k_is)
    (case l0 => k_is)
    (case c0 => k_is)
    (case k0 => k_is)
    (case a1 => k_is)
    (case l1 => k_is)
    (case c1 => k_is)
    (case k1 => k_is)
    (case a2 => k_is)
    (case l2 => k_is)
    (case c2 => k_is)
    (case k2 => k_is)
    (case a3 => k_is)
    (case l3 => k_is)
    (case c3 => k_is)
    (case k3 => k_is)
    (case a4 => k_is)
    (case l4 => k_is)
    (case c4 => k_is)
    (case k4 => k_is)
    (case a5 => k_is)
    (case l5 => k_is)
    (case c5 => k_is)
    (case k5 => k_is)
    (case a6 => k_is)
    (case l6 => k_is)
    (case c6 => k_is)
    (case k6 => k_is)
    (case a7 => k_is)
    (case l7 => k_is)
    (case c7 => k_is)
    (case k7 => k_is)
    (case td_packed => first | exact ⟨.head _, by kernel_rfl, by kernel_rfl⟩ | exact ⟨.tail _ (.head _), by kernel_rfl, by kernel_rfl⟩)
    (case y_isinstance => k_is)
    (case y_bool => k_is)
    (case y_int => k_is)
    (case y_range => k_is)
    (case y_len => k_is)
    (case y_tuple => k_is)
    (case y_list => k_is)
    (case y_sorted => k_is)
    (case y_min => k_is)
    (case y_reversed => k_is)
#print axioms PySem.Challenge.cw_loftstore_k07_packed_holds

