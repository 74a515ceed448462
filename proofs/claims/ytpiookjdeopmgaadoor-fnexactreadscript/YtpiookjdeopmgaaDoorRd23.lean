/-
  The words of a script as function values; maps by words.
-/
import Derived.Test.YtpiookjdeopmgaaDoorRd14
import Derived.Test.YtpiookjdeopmgaaDoorRd20
namespace Go.Proofs.YtpiookjdeopmgaaDoor
open Go.RowKit
open Go.ChangeMaps (setBlock)

set_option linter.unusedSimpArgs false
set_option linter.unusedVariables false

inductive WK where
  | net
  | lnk
  | thg (far : Bool)
  | nod (kd : Int)
  | plc (kd : Int)
  | byt

def wTab : List (List UInt8 × WK) := [(wNet, .net), (wLink, .lnk), (wThing, .thg false), (wFar, .thg true), ([116, 105, 99, 107], .nod 1), ([100, 101, 108, 105, 118, 101, 114], .plc 2), ([100, 114, 111, 112], .plc 3), ([99, 111, 112, 121], .plc 4), ([99, 117, 116], .plc 5), ([114, 97, 105, 115, 101], .plc 6), ([100, 111, 119, 110], .nod 7), ([117, 112], .nod 8), (wBytes, .byt)]

def PtrAt (W : World) (p sa : Nat) : Prop := W.heap[p]? = some (.cells #[.pointer (some ⟨sa, 0, none⟩)] 57)

def wordOk (W : World) (sa : Nat) : WK → Value → Prop
  | .net, v => ∃ p, v = .func (.func 49) #[] #[.pointer (some ⟨p, 0, none⟩)] ∧ PtrAt W p sa
  | .lnk, v => ∃ p, v = .func (.func 52) #[] #[.pointer (some ⟨p, 0, none⟩)] ∧ PtrAt W p sa
  | .thg far, v => ∃ p q, v = .func (.func 75) #[] #[.pointer (some ⟨p, 0, none⟩), .pointer (some ⟨q, 0, none⟩)] ∧ PtrAt W p sa ∧ W.heap[q]? = some (.cells #[.bool far] 4)
  | .nod kd, v => ∃ p q, v = .func (.func 77) #[] #[.pointer (some ⟨p, 0, none⟩), .pointer (some ⟨q, 0, none⟩)] ∧ PtrAt W p sa ∧ W.heap[q]? = some (.cells #[.int .i64 kd] 3)
  | .plc kd, v => ∃ p q, v = .func (.func 79) #[] #[.pointer (some ⟨p, 0, none⟩), .pointer (some ⟨q, 0, none⟩)] ∧ PtrAt W p sa ∧ W.heap[q]? = some (.cells #[.int .i64 kd] 3)
  | .byt, v => ∃ p, v = .func (.func 80) #[] #[.pointer (some ⟨p, 0, none⟩)] ∧ PtrAt W p sa

/-- blocks of cells that are no row of a script and no box of one stay -/
def Kp (w w' : World) : Prop := ∀ (k : Nat) (cs : Array Value) (t : TypeId) (fr : Nat × Nat), w.heap[k]? = some (.cells cs t fr) → t ≠ 77 ∧ t ≠ 81 ∧ t ≠ 53 ∧ t ≠ 62 → w'.heap[k]? = some (.cells cs t fr)

theorem Kp.of {w w' : World} (h : Below w.heap.size w w') : Kp w w' := fun k _ _ _ hk _ => (h.block k (lt_of_heap hk)).trans hk
theorem Kp.trans {a b c : World} (h : Kp a b) (g : Kp b c) : Kp a c := fun k cs t fr hk ht => g k cs t fr (h k cs t fr hk ht) ht
theorem FrS.kp {lo : Nat} {w w' : World} (h : FrS lo w w') : Kp w w' := fun k cs t fr hk ht => h.other k _ hk (fun cs' t' fr' e => by cases e; exact ht)

theorem wordOk.kp {W W' : World} {sa : Nat} {k : WK} {v : Value} (h : wordOk W sa k v) (g : Kp W W') : wordOk W' sa k v := by
  have hp : ∀ p, PtrAt W p sa → PtrAt W' p sa := fun p hp => g p _ _ _ hp (by decide)
  cases k with
  | net => obtain ⟨p, e, h1⟩ := h; exact ⟨p, e, hp p h1⟩
  | lnk => obtain ⟨p, e, h1⟩ := h; exact ⟨p, e, hp p h1⟩
  | thg far => obtain ⟨p, q, e, h1, h2⟩ := h; exact ⟨p, q, e, hp p h1, g q _ _ _ h2 (by decide)⟩
  | nod kd => obtain ⟨p, q, e, h1, h2⟩ := h; exact ⟨p, q, e, hp p h1, g q _ _ _ h2 (by decide)⟩
  | plc kd => obtain ⟨p, q, e, h1, h2⟩ := h; exact ⟨p, q, e, hp p h1, g q _ _ _ h2 (by decide)⟩
  | byt => obtain ⟨p, e, h1⟩ := h; exact ⟨p, e, hp p h1⟩

set_option maxRecDepth 100000 in
set_option maxHeartbeats 1000000 in
theorem thingWord_any (sa : Nat) (far : Bool) (w : World) : Calls Tryd.prog 54 #[.pointer (some ⟨sa, 0, none⟩), .bool far] w fun e w' => ∃ v, e = .returned v ∧ wordOk w' sa (.thg far) v ∧ Below w.heap.size w w' := by
  have hmf : ∀ (fn : Fn) (first cap : Array Value) (w : World), (Instr.makeFunc fn first cap).run Tryd.prog w = .ok (.func fn first cap) w := fun _ _ _ _ => rfl
  have h1 : ∀ o, PtrAt ((w.alloc (.cells #[.pointer (some ⟨sa, 0, none⟩)] 57)).alloc o) w.heap.size sa := fun o => by
    unfold PtrAt; rw [Below.heap_alloc _ _ _ (by simp), heap_alloc_new]
  have h2 := heap_alloc_new (w.alloc (.cells #[.pointer (some ⟨sa, 0, none⟩)] 57)) (.cells #[.bool far] 4)
  go_enter Tryd.func54, Tryd.ntmps54
  go_wp2
  go_ret
  exact ⟨_, rfl, ⟨w.heap.size, w.heap.size + 1, rfl, h1 _, by simpa using h2⟩, below_two _ _⟩

set_option maxRecDepth 100000 in
set_option maxHeartbeats 1000000 in
theorem nodeWord_any (sa : Nat) (kd : Int) (w : World) : Calls Tryd.prog 55 #[.pointer (some ⟨sa, 0, none⟩), .int .i64 kd] w fun e w' => ∃ v, e = .returned v ∧ wordOk w' sa (.nod kd) v ∧ Below w.heap.size w w' := by
  have hmf : ∀ (fn : Fn) (first cap : Array Value) (w : World), (Instr.makeFunc fn first cap).run Tryd.prog w = .ok (.func fn first cap) w := fun _ _ _ _ => rfl
  have h1 : ∀ o, PtrAt ((w.alloc (.cells #[.pointer (some ⟨sa, 0, none⟩)] 57)).alloc o) w.heap.size sa := fun o => by
    unfold PtrAt; rw [Below.heap_alloc _ _ _ (by simp), heap_alloc_new]
  have h2 := heap_alloc_new (w.alloc (.cells #[.pointer (some ⟨sa, 0, none⟩)] 57)) (.cells #[.int .i64 kd] 3)
  go_enter Tryd.func55, Tryd.ntmps55
  go_wp2
  go_ret
  exact ⟨_, rfl, ⟨w.heap.size, w.heap.size + 1, rfl, h1 _, by simpa using h2⟩, below_two _ _⟩

set_option maxRecDepth 100000 in
set_option maxHeartbeats 1000000 in
theorem placeWord_any (sa : Nat) (kd : Int) (w : World) : Calls Tryd.prog 56 #[.pointer (some ⟨sa, 0, none⟩), .int .i64 kd] w fun e w' => ∃ v, e = .returned v ∧ wordOk w' sa (.plc kd) v ∧ Below w.heap.size w w' := by
  have hmf : ∀ (fn : Fn) (first cap : Array Value) (w : World), (Instr.makeFunc fn first cap).run Tryd.prog w = .ok (.func fn first cap) w := fun _ _ _ _ => rfl
  have h1 : ∀ o, PtrAt ((w.alloc (.cells #[.pointer (some ⟨sa, 0, none⟩)] 57)).alloc o) w.heap.size sa := fun o => by
    unfold PtrAt; rw [Below.heap_alloc _ _ _ (by simp), heap_alloc_new]
  have h2 := heap_alloc_new (w.alloc (.cells #[.pointer (some ⟨sa, 0, none⟩)] 57)) (.cells #[.int .i64 kd] 3)
  go_enter Tryd.func56, Tryd.ntmps56
  go_wp2
  go_ret
  exact ⟨_, rfl, ⟨w.heap.size, w.heap.size + 1, rfl, h1 _, by simpa using h2⟩, below_two _ _⟩

set_option maxRecDepth 100000 in
set_option maxHeartbeats 1000000 in
theorem bytesWord_any (sa : Nat) (w : World) : Calls Tryd.prog 57 #[.pointer (some ⟨sa, 0, none⟩)] w fun e w' => ∃ v, e = .returned v ∧ wordOk w' sa .byt v ∧ Below w.heap.size w w' := by
  have hmf : ∀ (fn : Fn) (first cap : Array Value) (w : World), (Instr.makeFunc fn first cap).run Tryd.prog w = .ok (.func fn first cap) w := fun _ _ _ _ => rfl
  have h1 : PtrAt (w.alloc (.cells #[.pointer (some ⟨sa, 0, none⟩)] 57)) w.heap.size sa := heap_alloc_new w _
  go_enter Tryd.func57, Tryd.ntmps57
  go_wp2
  go_ret
  exact ⟨_, rfl, ⟨w.heap.size, rfl, h1⟩, (Below.refl _ _).alloc (Nat.le_refl _) _⟩

theorem findS (w : World) (s : ByteArray) (es : List MapEntry) (hk : ∀ x ∈ es, ∃ t, x.key = .string t) :
    ((∀ x ∈ es, x.key ≠ .string s) ∧ (Instr.findKey 9 (.string s) es).run Tryd.prog w = .ok none w) ∨ ∃ j e, es[j]? = some e ∧ e.key = .string s ∧ (Instr.findKey 9 (.string s) es).run Tryd.prog w = .ok (some (j, e.val)) w := by
  have hks : ∀ x ∈ es, MapKept.IsKey .string x.key := fun x hx => by obtain ⟨t, e⟩ := hk x hx; rw [e]; trivial
  unfold Instr.findKey
  simp only [Sem.run_bind, run_underlying Tryd.underlying9, Result.andThen]
  rcases MapKept.findNow_spec (d := .string) (k := .string s) trivial es 0 hks with ⟨h1, h2⟩ | ⟨j, e, h1, h2, h3⟩
  · exact .inl ⟨h2, by rw [h1]; rfl⟩
  · exact .inr ⟨j, e, h2, h3, by rw [h1]; simp⟩

set_option maxRecDepth 100000 in
theorem lookS (w : World) (m : Nat) (es : Array MapEntry) (clock : Nat) (s : ByteArray) (hm : w.heap[m]? = some (.map es clock)) (hk : ∀ x ∈ es.toList, ∃ t, x.key = .string t) :
    ((∀ x ∈ es.toList, x.key ≠ .string s) ∧ (Instr.lookup 60 (.map (some m)) (.string s) true).run Tryd.prog w = .ok (.tuple #[.nilFunc, .bool false]) w) ∨
    ∃ e ∈ es.toList, e.key = .string s ∧ (Instr.lookup 60 (.map (some m)) (.string s) true).run Tryd.prog w = .ok (.tuple #[e.val, .bool true]) w := by
  have hc : ∀ b, (Instr.checkKey b 10000 9 (.string s)).run Tryd.prog w = .ok () w := fun b => rfl
  have hz : (zeroValue 89).run Tryd.prog w = .ok .nilFunc w := by kernel_rfl
  unfold Instr.lookup
  simp only [Sem.run_bind, run_underlying Tryd.underlying60, Result.andThen, MapKept.run_getObj_map hm, Sem.run_pure, hc]
  rcases findS w s es.toList hk with ⟨h1, h2⟩ | ⟨j, e, h1, h2, h3⟩
  · refine .inl ⟨h1, ?_⟩
    rw [h2]
    simp [Result.andThen, hz]
  · refine .inr ⟨e, List.mem_of_getElem? h1, h2, ?_⟩
    rw [h3]
    simp [Result.andThen]

set_option maxRecDepth 100000 in
theorem putS (w : World) (m : Nat) (es : Array MapEntry) (clock : Nat) (s : ByteArray) (v : Value) (hm : w.heap[m]? = some (.map es clock)) (hk : ∀ x ∈ es.toList, ∃ t, x.key = .string t) (hno : ∀ x ∈ es.toList, x.key ≠ .string s) :
    (Instr.mapUpdate 60 (.map (some m)) (.string s) v).run Tryd.prog w = .ok () (setBlock w m (.map (es.push ⟨.string s, v, clock⟩) (clock + 1))) := by
  have hc : ∀ b, (Instr.checkKey b 10000 9 (.string s)).run Tryd.prog w = .ok () w := fun b => rfl
  unfold Instr.mapUpdate
  simp only [Sem.run_bind, run_underlying Tryd.underlying60, Result.andThen, MapKept.run_getObj_map hm, Sem.run_pure, hc]
  rcases findS w s es.toList hk with ⟨h1, h2⟩ | ⟨j, e, h1, h2, h3⟩
  · rw [h2]
    simp [setObj, Sem.run, hm, setBlock, Result.andThen]
  · exact absurd h2 (hno e (List.mem_of_getElem? h1))
end Go.Proofs.YtpiookjdeopmgaaDoor
