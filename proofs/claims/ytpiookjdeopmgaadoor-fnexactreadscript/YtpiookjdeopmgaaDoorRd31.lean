/-
  impl.newScript: the operations of its region, one by one.
-/
import Derived.Test.YtpiookjdeopmgaaDoorRd27
namespace Go.Proofs.YtpiookjdeopmgaaDoor
open Go.RowKit
open Go.ChangeMaps (setBlock)

set_option linter.unusedSimpArgs false
set_option linter.unusedVariables false

set_option maxRecDepth 100000 in
def nsOps : Array Oper := #[{ dst := some 5, op := Op.load 57 (Operand.tmp 1), type := 57, pos := "l14_console.go:68", after := #[], guard := none }, { dst := some 6, op := Op.makeMap 60 none, type := 60, pos := "l14_console.go:68", after := #[], guard := none }, { dst := some 7, op := Op.makeFunc (Fn.func 49) #[] #[Operand.tmp 1], type := 87, pos := "l14_console.go:68", after := #[], guard := none }, { dst := none, op := Op.insert 60 (Operand.tmp 6) (Operand.const (Value.string { data := #[110, 101, 116] })) (Operand.tmp 7), type := 0, pos := "l14_console.go:68", after := #[{ on := 1, ground := Ground.data }, { on := 2, ground := Ground.data }], guard := none }, { dst := some 8, op := Op.makeFunc (Fn.func 52) #[] #[Operand.tmp 1], type := 87, pos := "l14_console.go:68", after := #[], guard := none }, { dst := none, op := Op.insert 60 (Operand.tmp 6) (Operand.const (Value.string { data := #[108, 105, 110, 107] })) (Operand.tmp 8), type := 0, pos := "l14_console.go:68", after := #[{ on := 1, ground := Ground.data }, { on := 4, ground := Ground.data }], guard := none }, { dst := some 9, op := Op.load 57 (Operand.tmp 1), type := 57, pos := "l14_console.go:68", after := #[], guard := none }, { dst := some 10, op := Op.call { callee := Callee.value (Operand.func 54), args := #[Operand.tmp 9, Operand.const (Value.bool false)], argTypes := #[57, 4] }, type := 89, pos := "l14_console.go:77", after := #[{ on := 6, ground := Ground.data }], guard := none }, { dst := none, op := Op.insert 60 (Operand.tmp 6) (Operand.const (Value.string { data := #[116, 104, 105, 110, 103] })) (Operand.tmp 10), type := 0, pos := "l14_console.go:68", after := #[{ on := 1, ground := Ground.data }, { on := 7, ground := Ground.data }], guard := none }, { dst := some 11, op := Op.load 57 (Operand.tmp 1), type := 57, pos := "l14_console.go:68", after := #[], guard := none }, { dst := some 12, op := Op.call { callee := Callee.value (Operand.func 54), args := #[Operand.tmp 11, Operand.const (Value.bool true)], argTypes := #[57, 4] }, type := 89, pos := "l14_console.go:78", after := #[{ on := 9, ground := Ground.data }, { on := 7, ground := Ground.chain }], guard := none }, { dst := none, op := Op.insert 60 (Operand.tmp 6) (Operand.const (Value.string { data := #[102, 97, 114] })) (Operand.tmp 12), type := 0, pos := "l14_console.go:68", after := #[{ on := 1, ground := Ground.data }, { on := 10, ground := Ground.data }], guard := none }, { dst := some 13, op := Op.load 57 (Operand.tmp 1), type := 57, pos := "l14_console.go:68", after := #[], guard := none }, { dst := some 14, op := Op.call { callee := Callee.value (Operand.func 55), args := #[Operand.tmp 13, Operand.const (Value.int IntKind.i64 1)], argTypes := #[57, 3] }, type := 89, pos := "l14_console.go:79", after := #[{ on := 12, ground := Ground.data }, { on := 10, ground := Ground.chain }], guard := none }, { dst := none, op := Op.insert 60 (Operand.tmp 6) (Operand.const (Value.string { data := #[116, 105, 99, 107] })) (Operand.tmp 14), type := 0, pos := "l14_console.go:68", after := #[{ on := 1, ground := Ground.data }, { on := 13, ground := Ground.data }], guard := none }, { dst := some 15, op := Op.load 57 (Operand.tmp 1), type := 57, pos := "l14_console.go:68", after := #[], guard := none }, { dst := some 16, op := Op.call { callee := Callee.value (Operand.func 56), args := #[Operand.tmp 15, Operand.const (Value.int IntKind.i64 2)], argTypes := #[57, 3] }, type := 89, pos := "l14_console.go:80", after := #[{ on := 15, ground := Ground.data }, { on := 13, ground := Ground.chain }], guard := none }, { dst := none, op := Op.insert 60 (Operand.tmp 6) (Operand.const (Value.string { data := #[100, 101, 108, 105, 118, 101, 114] })) (Operand.tmp 16), type := 0, pos := "l14_console.go:68", after := #[{ on := 1, ground := Ground.data }, { on := 16, ground := Ground.data }], guard := none }, { dst := some 17, op := Op.load 57 (Operand.tmp 1), type := 57, pos := "l14_console.go:68", after := #[], guard := none }, { dst := some 18, op := Op.call { callee := Callee.value (Operand.func 56), args := #[Operand.tmp 17, Operand.const (Value.int IntKind.i64 3)], argTypes := #[57, 3] }, type := 89, pos := "l14_console.go:81", after := #[{ on := 18, ground := Ground.data }, { on := 16, ground := Ground.chain }], guard := none }, { dst := none, op := Op.insert 60 (Operand.tmp 6) (Operand.const (Value.string { data := #[100, 114, 111, 112] })) (Operand.tmp 18), type := 0, pos := "l14_console.go:68", after := #[{ on := 1, ground := Ground.data }, { on := 19, ground := Ground.data }], guard := none }, { dst := some 19, op := Op.load 57 (Operand.tmp 1), type := 57, pos := "l14_console.go:68", after := #[], guard := none }, { dst := some 20, op := Op.call { callee := Callee.value (Operand.func 56), args := #[Operand.tmp 19, Operand.const (Value.int IntKind.i64 4)], argTypes := #[57, 3] }, type := 89, pos := "l14_console.go:82", after := #[{ on := 21, ground := Ground.data }, { on := 19, ground := Ground.chain }], guard := none }, { dst := none, op := Op.insert 60 (Operand.tmp 6) (Operand.const (Value.string { data := #[99, 111, 112, 121] })) (Operand.tmp 20), type := 0, pos := "l14_console.go:68", after := #[{ on := 1, ground := Ground.data }, { on := 22, ground := Ground.data }], guard := none }, { dst := some 21, op := Op.load 57 (Operand.tmp 1), type := 57, pos := "l14_console.go:68", after := #[], guard := none }, { dst := some 22, op := Op.call { callee := Callee.value (Operand.func 56), args := #[Operand.tmp 21, Operand.const (Value.int IntKind.i64 5)], argTypes := #[57, 3] }, type := 89, pos := "l14_console.go:83", after := #[{ on := 24, ground := Ground.data }, { on := 22, ground := Ground.chain }], guard := none }, { dst := none, op := Op.insert 60 (Operand.tmp 6) (Operand.const (Value.string { data := #[99, 117, 116] })) (Operand.tmp 22), type := 0, pos := "l14_console.go:68", after := #[{ on := 1, ground := Ground.data }, { on := 25, ground := Ground.data }], guard := none }, { dst := some 23, op := Op.load 57 (Operand.tmp 1), type := 57, pos := "l14_console.go:68", after := #[], guard := none }, { dst := some 24, op := Op.call { callee := Callee.value (Operand.func 56), args := #[Operand.tmp 23, Operand.const (Value.int IntKind.i64 6)], argTypes := #[57, 3] }, type := 89, pos := "l14_console.go:84", after := #[{ on := 27, ground := Ground.data }, { on := 25, ground := Ground.chain }], guard := none }, { dst := none, op := Op.insert 60 (Operand.tmp 6) (Operand.const (Value.string { data := #[114, 97, 105, 115, 101] })) (Operand.tmp 24), type := 0, pos := "l14_console.go:68", after := #[{ on := 1, ground := Ground.data }, { on := 28, ground := Ground.data }], guard := none }, { dst := some 25, op := Op.load 57 (Operand.tmp 1), type := 57, pos := "l14_console.go:68", after := #[], guard := none }, { dst := some 26, op := Op.call { callee := Callee.value (Operand.func 55), args := #[Operand.tmp 25, Operand.const (Value.int IntKind.i64 7)], argTypes := #[57, 3] }, type := 89, pos := "l14_console.go:85", after := #[{ on := 30, ground := Ground.data }, { on := 28, ground := Ground.chain }], guard := none }, { dst := none, op := Op.insert 60 (Operand.tmp 6) (Operand.const (Value.string { data := #[100, 111, 119, 110] })) (Operand.tmp 26), type := 0, pos := "l14_console.go:68", after := #[{ on := 1, ground := Ground.data }, { on := 31, ground := Ground.data }], guard := none }, { dst := some 27, op := Op.load 57 (Operand.tmp 1), type := 57, pos := "l14_console.go:68", after := #[], guard := none }, { dst := some 28, op := Op.call { callee := Callee.value (Operand.func 55), args := #[Operand.tmp 27, Operand.const (Value.int IntKind.i64 8)], argTypes := #[57, 3] }, type := 89, pos := "l14_console.go:86", after := #[{ on := 33, ground := Ground.data }, { on := 31, ground := Ground.chain }], guard := none }, { dst := none, op := Op.insert 60 (Operand.tmp 6) (Operand.const (Value.string { data := #[117, 112] })) (Operand.tmp 28), type := 0, pos := "l14_console.go:68", after := #[{ on := 1, ground := Ground.data }, { on := 34, ground := Ground.data }], guard := none }, { dst := some 29, op := Op.load 57 (Operand.tmp 1), type := 57, pos := "l14_console.go:68", after := #[], guard := none }, { dst := some 30, op := Op.call { callee := Callee.value (Operand.func 57), args := #[Operand.tmp 29], argTypes := #[57] }, type := 89, pos := "l14_console.go:87", after := #[{ on := 36, ground := Ground.data }, { on := 34, ground := Ground.chain }], guard := none }, { dst := none, op := Op.insert 60 (Operand.tmp 6) (Operand.const (Value.string { data := #[98, 121, 116, 101, 115] })) (Operand.tmp 30), type := 0, pos := "l14_console.go:68", after := #[{ on := 1, ground := Ground.data }, { on := 37, ground := Ground.data }], guard := none }, { dst := some 31, op := Op.move (Operand.tmp 6), type := 60, pos := "l14_console.go:68", after := #[{ on := 1, ground := Ground.data }, { on := 2, ground := Ground.data }, { on := 3, ground := Ground.data }, { on := 4, ground := Ground.data }, { on := 5, ground := Ground.data }, { on := 6, ground := Ground.data }, { on := 7, ground := Ground.data }, { on := 8, ground := Ground.data }, { on := 9, ground := Ground.data }, { on := 10, ground := Ground.data }, { on := 11, ground := Ground.data }, { on := 12, ground := Ground.data }, { on := 13, ground := Ground.data }, { on := 14, ground := Ground.data }, { on := 15, ground := Ground.data }, { on := 16, ground := Ground.data }, { on := 17, ground := Ground.data }, { on := 18, ground := Ground.data }, { on := 19, ground := Ground.data }, { on := 20, ground := Ground.data }, { on := 21, ground := Ground.data }, { on := 22, ground := Ground.data }, { on := 23, ground := Ground.data }, { on := 24, ground := Ground.data }, { on := 25, ground := Ground.data }, { on := 26, ground := Ground.data }, { on := 27, ground := Ground.data }, { on := 28, ground := Ground.data }, { on := 29, ground := Ground.data }, { on := 30, ground := Ground.data }, { on := 31, ground := Ground.data }, { on := 32, ground := Ground.data }, { on := 33, ground := Ground.data }, { on := 34, ground := Ground.data }, { on := 35, ground := Ground.data }, { on := 36, ground := Ground.data }, { on := 37, ground := Ground.data }, { on := 38, ground := Ground.data }], guard := none }, { dst := some 32, op := Op.nilCheck (Operand.tmp 5), type := 0, pos := "l14_console.go:68", after := #[{ on := 0, ground := Ground.data }, { on := 0, ground := Ground.phase }, { on := 1, ground := Ground.phase }, { on := 2, ground := Ground.phase }, { on := 3, ground := Ground.phase }, { on := 4, ground := Ground.phase }, { on := 5, ground := Ground.phase }, { on := 6, ground := Ground.phase }, { on := 7, ground := Ground.phase }, { on := 8, ground := Ground.phase }, { on := 9, ground := Ground.phase }, { on := 10, ground := Ground.phase }, { on := 11, ground := Ground.phase }, { on := 12, ground := Ground.phase }, { on := 13, ground := Ground.phase }, { on := 14, ground := Ground.phase }, { on := 15, ground := Ground.phase }, { on := 16, ground := Ground.phase }, { on := 17, ground := Ground.phase }, { on := 18, ground := Ground.phase }, { on := 19, ground := Ground.phase }, { on := 20, ground := Ground.phase }, { on := 21, ground := Ground.phase }, { on := 22, ground := Ground.phase }, { on := 23, ground := Ground.phase }, { on := 24, ground := Ground.phase }, { on := 25, ground := Ground.phase }, { on := 26, ground := Ground.phase }, { on := 27, ground := Ground.phase }, { on := 28, ground := Ground.phase }, { on := 29, ground := Ground.phase }, { on := 30, ground := Ground.phase }, { on := 31, ground := Ground.phase }, { on := 32, ground := Ground.phase }, { on := 33, ground := Ground.phase }, { on := 34, ground := Ground.phase }, { on := 35, ground := Ground.phase }, { on := 36, ground := Ground.phase }, { on := 37, ground := Ground.phase }, { on := 38, ground := Ground.phase }, { on := 39, ground := Ground.phase }], guard := none }, { dst := some 33, op := Op.fieldAddr 62 (Operand.tmp 32) 2, type := 0, pos := "l14_console.go:68", after := #[{ on := 40, ground := Ground.data }, { on := 0, ground := Ground.phase }, { on := 1, ground := Ground.phase }, { on := 2, ground := Ground.phase }, { on := 3, ground := Ground.phase }, { on := 4, ground := Ground.phase }, { on := 5, ground := Ground.phase }, { on := 6, ground := Ground.phase }, { on := 7, ground := Ground.phase }, { on := 8, ground := Ground.phase }, { on := 9, ground := Ground.phase }, { on := 10, ground := Ground.phase }, { on := 11, ground := Ground.phase }, { on := 12, ground := Ground.phase }, { on := 13, ground := Ground.phase }, { on := 14, ground := Ground.phase }, { on := 15, ground := Ground.phase }, { on := 16, ground := Ground.phase }, { on := 17, ground := Ground.phase }, { on := 18, ground := Ground.phase }, { on := 19, ground := Ground.phase }, { on := 20, ground := Ground.phase }, { on := 21, ground := Ground.phase }, { on := 22, ground := Ground.phase }, { on := 23, ground := Ground.phase }, { on := 24, ground := Ground.phase }, { on := 25, ground := Ground.phase }, { on := 26, ground := Ground.phase }, { on := 27, ground := Ground.phase }, { on := 28, ground := Ground.phase }, { on := 29, ground := Ground.phase }, { on := 30, ground := Ground.phase }, { on := 31, ground := Ground.phase }, { on := 32, ground := Ground.phase }, { on := 33, ground := Ground.phase }, { on := 34, ground := Ground.phase }, { on := 35, ground := Ground.phase }, { on := 36, ground := Ground.phase }, { on := 37, ground := Ground.phase }, { on := 38, ground := Ground.phase }, { on := 39, ground := Ground.phase }], guard := none }, { dst := none, op := Op.store 60 (Operand.tmp 33) (Operand.tmp 31), type := 0, pos := "l14_console.go:68", after := #[{ on := 41, ground := Ground.data }, { on := 39, ground := Ground.data }, { on := 37, ground := Ground.chain }, { on := 0, ground := Ground.phase }, { on := 1, ground := Ground.phase }, { on := 2, ground := Ground.phase }, { on := 3, ground := Ground.phase }, { on := 4, ground := Ground.phase }, { on := 5, ground := Ground.phase }, { on := 6, ground := Ground.phase }, { on := 7, ground := Ground.phase }, { on := 8, ground := Ground.phase }, { on := 9, ground := Ground.phase }, { on := 10, ground := Ground.phase }, { on := 11, ground := Ground.phase }, { on := 12, ground := Ground.phase }, { on := 13, ground := Ground.phase }, { on := 14, ground := Ground.phase }, { on := 15, ground := Ground.phase }, { on := 16, ground := Ground.phase }, { on := 17, ground := Ground.phase }, { on := 18, ground := Ground.phase }, { on := 19, ground := Ground.phase }, { on := 20, ground := Ground.phase }, { on := 21, ground := Ground.phase }, { on := 22, ground := Ground.phase }, { on := 23, ground := Ground.phase }, { on := 24, ground := Ground.phase }, { on := 25, ground := Ground.phase }, { on := 26, ground := Ground.phase }, { on := 27, ground := Ground.phase }, { on := 28, ground := Ground.phase }, { on := 29, ground := Ground.phase }, { on := 30, ground := Ground.phase }, { on := 31, ground := Ground.phase }, { on := 32, ground := Ground.phase }, { on := 33, ground := Ground.phase }, { on := 34, ground := Ground.phase }, { on := 35, ground := Ground.phase }, { on := 36, ground := Ground.phase }, { on := 37, ground := Ground.phase }, { on := 38, ground := Ground.phase }, { on := 39, ground := Ground.phase }], guard := none }]

def NsI (lo ev pz sa : Nat) (wE : World) (listed : Array Bool) (a : Act) (w : World) : Prop := ∃ x, a = nsA x ∧ NsF lo ev pz sa wE listed x w

theorem YieldsP {P : Program} {ops : Array Oper} {Q : Exit → Act → World → Prop} {i : Nat} {o : Oper} {v : Value} {a : Act} {K : Act → World → Prop} {w : World} (hi : ops[i]? = some o) (hw : Region.wanted o (yielded ops a.tmps) = true) (hy : (execOp a.eval o).run P w = .ok (.value v) w) (h : K (a.put o.dst v) w) : wpOp P ops Q i K a w :=
  YieldsIf.wpOp (S := fun W => W = w) hi (.inl ⟨hw, fun W e => by subst e; exact hy⟩) rfl h

section
variable {Q : Exit → Act → World → Prop} {lo ev pz sa : Nat} {wE w : World} {listed : Array Bool} {x : Nat → Value}

set_option maxRecDepth 100000 in
theorem ns_0 (hF : NsF lo ev pz sa wE listed x w) (hr : 0 ∈ Region.ready .any nsOps listed) : wpOp Tryd.prog nsOps Q 0 (fun a' w' => NsI lo ev pz sa wE (listed.setIfInBounds 0 true) a' w') (nsA x) w := by
  obtain ⟨h1, o, ho, hall⟩ := mem_ready.1 hr
  have hoi : nsOps[0]? = some ({ dst := some 5, op := Op.load 57 (Operand.tmp 1), type := 57, pos := "l14_console.go:68", after := #[], guard := none }) := by unfold nsOps; simp only [List.getElem?_toArray, List.getElem?_cons_succ, List.getElem?_cons_zero]
  rw [hoi] at ho
  cases ho
  have c := cells_at hF.zc 0
  simp at c
  refine YieldsP hoi rfl (v := .pointer (some ⟨sa, 0, none⟩)) ?_ ⟨upd x 5 (.pointer (some ⟨sa, 0, none⟩)), rfl, hF.step 0 5 _ (by decide) (by decide) (Below.refl _ _) (by decide) (fun _ => rfl) (by decide) (fun p hp e => absurd (show (nsMk.any fun p => p.1 == 0) = true from List.any_eq_true.2 ⟨p, hp, by simp [e]⟩) (by decide)) (by decide) (by decide) (by decide) (fun h => absurd h (by decide)) (by decide) (fun h => absurd h (by decide))⟩
  unfold nsA
  rw [hF.x1]
  go_simp <;> with_reducible rfl

set_option maxRecDepth 100000 in
theorem ns_1 (hF : NsF lo ev pz sa wE listed x w) (hr : 1 ∈ Region.ready .any nsOps listed) : wpOp Tryd.prog nsOps Q 1 (fun a' w' => NsI lo ev pz sa wE (listed.setIfInBounds 1 true) a' w') (nsA x) w := by
  obtain ⟨h1, o, ho, hall⟩ := mem_ready.1 hr
  have hoi : nsOps[1]? = some ({ dst := some 6, op := Op.makeMap 60 none, type := 60, pos := "l14_console.go:68", after := #[], guard := none }) := by unfold nsOps; simp only [List.getElem?_toArray, List.getElem?_cons_succ, List.getElem?_cons_zero]
  rw [hoi] at ho
  cases ho
  refine wpOp_step hoi (fun K hK => ?_)
  rw [if_pos (by rfl)]
  unfold nsA
  go_simp
  exact hK _ _ ⟨upd x 6 (.map (some w.heap.size)), rfl, hF.made h1⟩

set_option maxRecDepth 100000 in
theorem ns_2 (hF : NsF lo ev pz sa wE listed x w) (hr : 2 ∈ Region.ready .any nsOps listed) : wpOp Tryd.prog nsOps Q 2 (fun a' w' => NsI lo ev pz sa wE (listed.setIfInBounds 2 true) a' w') (nsA x) w := by
  obtain ⟨h1, o, ho, hall⟩ := mem_ready.1 hr
  have hoi : nsOps[2]? = some ({ dst := some 7, op := Op.makeFunc (Fn.func 49) #[] #[Operand.tmp 1], type := 87, pos := "l14_console.go:68", after := #[], guard := none }) := by unfold nsOps; simp only [List.getElem?_toArray, List.getElem?_cons_succ, List.getElem?_cons_zero]
  rw [hoi] at ho
  cases ho
  refine YieldsP hoi rfl (v := .func (.func 49) #[] #[.pointer (some ⟨pz, 0, none⟩)]) ?_ ⟨upd x 7 (.func (.func 49) #[] #[.pointer (some ⟨pz, 0, none⟩)]), rfl, hF.step 2 7 _ (by decide) (by decide) (Below.refl _ _) (by decide) (fun h => absurd h (by decide)) (by decide) (fun p hp e => by simp only [nsMk, List.mem_cons, List.not_mem_nil, or_false] at hp; rcases hp with rfl | rfl | rfl | rfl | rfl | rfl | rfl | rfl | rfl | rfl | rfl | rfl | rfl <;> first | exact ⟨pz, rfl, hF.zc⟩ | cases e) (by decide) (by decide) (by decide) (fun h => absurd h (by decide)) (by decide) (fun h => absurd h (by decide))⟩
  unfold nsA
  rw [hF.x1]
  go_simp <;> with_reducible rfl

set_option maxRecDepth 100000 in
theorem ns_3 (hF : NsF lo ev pz sa wE listed x w) (hr : 3 ∈ Region.ready .any nsOps listed) : wpOp Tryd.prog nsOps Q 3 (fun a' w' => NsI lo ev pz sa wE (listed.setIfInBounds 3 true) a' w') (nsA x) w := by
  obtain ⟨h1, o, ho, hall⟩ := mem_ready.1 hr
  have hoi : nsOps[3]? = some ({ dst := none, op := Op.insert 60 (Operand.tmp 6) (Operand.const (Value.string { data := #[110, 101, 116] })) (Operand.tmp 7), type := 0, pos := "l14_console.go:68", after := #[{ on := 1, ground := Ground.data }, { on := 2, ground := Ground.data }], guard := none }) := by unfold nsOps; simp only [List.getElem?_toArray, List.getElem?_cons_succ, List.getElem?_cons_zero]
  rw [hoi] at ho
  cases ho
  obtain ⟨m, o, e6, hup, hF2⟩ := hF.ins 3 0 7 (by decide) h1 (hall ⟨1, .data⟩ (by simp) rfl) ⟨(2, 7, 0), by decide, rfl, (hall ⟨2, .data⟩ (by simp) rfl)⟩
  refine wpOp_step hoi (fun K hK => ?_)
  rw [if_pos (by rfl)]
  have hup2 : (Instr.mapUpdate 60 (.map (some m)) (.string ⟨#[110, 101, 116]⟩) (x 7)).run Tryd.prog w = .ok () (setBlock w m o) := hup
  unfold nsA
  rw [e6]
  go_simp
  refine hK _ _ ⟨x, ?_, hF2⟩
  rw [← e6]
  rfl

set_option maxRecDepth 100000 in
theorem ns_4 (hF : NsF lo ev pz sa wE listed x w) (hr : 4 ∈ Region.ready .any nsOps listed) : wpOp Tryd.prog nsOps Q 4 (fun a' w' => NsI lo ev pz sa wE (listed.setIfInBounds 4 true) a' w') (nsA x) w := by
  obtain ⟨h1, o, ho, hall⟩ := mem_ready.1 hr
  have hoi : nsOps[4]? = some ({ dst := some 8, op := Op.makeFunc (Fn.func 52) #[] #[Operand.tmp 1], type := 87, pos := "l14_console.go:68", after := #[], guard := none }) := by unfold nsOps; simp only [List.getElem?_toArray, List.getElem?_cons_succ, List.getElem?_cons_zero]
  rw [hoi] at ho
  cases ho
  refine YieldsP hoi rfl (v := .func (.func 52) #[] #[.pointer (some ⟨pz, 0, none⟩)]) ?_ ⟨upd x 8 (.func (.func 52) #[] #[.pointer (some ⟨pz, 0, none⟩)]), rfl, hF.step 4 8 _ (by decide) (by decide) (Below.refl _ _) (by decide) (fun h => absurd h (by decide)) (by decide) (fun p hp e => by simp only [nsMk, List.mem_cons, List.not_mem_nil, or_false] at hp; rcases hp with rfl | rfl | rfl | rfl | rfl | rfl | rfl | rfl | rfl | rfl | rfl | rfl | rfl <;> first | exact ⟨pz, rfl, hF.zc⟩ | cases e) (by decide) (by decide) (by decide) (fun h => absurd h (by decide)) (by decide) (fun h => absurd h (by decide))⟩
  unfold nsA
  rw [hF.x1]
  go_simp <;> with_reducible rfl

set_option maxRecDepth 100000 in
theorem ns_5 (hF : NsF lo ev pz sa wE listed x w) (hr : 5 ∈ Region.ready .any nsOps listed) : wpOp Tryd.prog nsOps Q 5 (fun a' w' => NsI lo ev pz sa wE (listed.setIfInBounds 5 true) a' w') (nsA x) w := by
  obtain ⟨h1, o, ho, hall⟩ := mem_ready.1 hr
  have hoi : nsOps[5]? = some ({ dst := none, op := Op.insert 60 (Operand.tmp 6) (Operand.const (Value.string { data := #[108, 105, 110, 107] })) (Operand.tmp 8), type := 0, pos := "l14_console.go:68", after := #[{ on := 1, ground := Ground.data }, { on := 4, ground := Ground.data }], guard := none }) := by unfold nsOps; simp only [List.getElem?_toArray, List.getElem?_cons_succ, List.getElem?_cons_zero]
  rw [hoi] at ho
  cases ho
  obtain ⟨m, o, e6, hup, hF2⟩ := hF.ins 5 1 8 (by decide) h1 (hall ⟨1, .data⟩ (by simp) rfl) ⟨(4, 8, 1), by decide, rfl, (hall ⟨4, .data⟩ (by simp) rfl)⟩
  refine wpOp_step hoi (fun K hK => ?_)
  rw [if_pos (by rfl)]
  have hup2 : (Instr.mapUpdate 60 (.map (some m)) (.string ⟨#[108, 105, 110, 107]⟩) (x 8)).run Tryd.prog w = .ok () (setBlock w m o) := hup
  unfold nsA
  rw [e6]
  go_simp
  refine hK _ _ ⟨x, ?_, hF2⟩
  rw [← e6]
  rfl

set_option maxRecDepth 100000 in
theorem ns_6 (hF : NsF lo ev pz sa wE listed x w) (hr : 6 ∈ Region.ready .any nsOps listed) : wpOp Tryd.prog nsOps Q 6 (fun a' w' => NsI lo ev pz sa wE (listed.setIfInBounds 6 true) a' w') (nsA x) w := by
  obtain ⟨h1, o, ho, hall⟩ := mem_ready.1 hr
  have hoi : nsOps[6]? = some ({ dst := some 9, op := Op.load 57 (Operand.tmp 1), type := 57, pos := "l14_console.go:68", after := #[], guard := none }) := by unfold nsOps; simp only [List.getElem?_toArray, List.getElem?_cons_succ, List.getElem?_cons_zero]
  rw [hoi] at ho
  cases ho
  have c := cells_at hF.zc 0
  simp at c
  refine YieldsP hoi rfl (v := .pointer (some ⟨sa, 0, none⟩)) ?_ ⟨upd x 9 (.pointer (some ⟨sa, 0, none⟩)), rfl, hF.step 6 9 _ (by decide) (by decide) (Below.refl _ _) (by decide) (fun _ => rfl) (by decide) (fun p hp e => absurd (show (nsMk.any fun p => p.1 == 6) = true from List.any_eq_true.2 ⟨p, hp, by simp [e]⟩) (by decide)) (by decide) (by decide) (by decide) (fun h => absurd h (by decide)) (by decide) (fun h => absurd h (by decide))⟩
  unfold nsA
  rw [hF.x1]
  go_simp <;> with_reducible rfl

set_option maxRecDepth 100000 in
theorem ns_7 (hF : NsF lo ev pz sa wE listed x w) (hr : 7 ∈ Region.ready .any nsOps listed) : wpOp Tryd.prog nsOps Q 7 (fun a' w' => NsI lo ev pz sa wE (listed.setIfInBounds 7 true) a' w') (nsA x) w := by
  obtain ⟨h1, o, ho, hall⟩ := mem_ready.1 hr
  have hoi : nsOps[7]? = some ({ dst := some 10, op := Op.call { callee := Callee.value (Operand.func 54), args := #[Operand.tmp 9, Operand.const (Value.bool false)], argTypes := #[57, 4] }, type := 89, pos := "l14_console.go:77", after := #[{ on := 6, ground := Ground.data }], guard := none }) := by unfold nsOps; simp only [List.getElem?_toArray, List.getElem?_cons_succ, List.getElem?_cons_zero]
  rw [hoi] at ho
  cases ho
  have e := hF.ld (6, 9) (by decide) (hall ⟨6, .data⟩ (by simp) rfl)
  simp only [] at e
  refine wpOp_step hoi (fun K hK => ?_)
  rw [if_pos (by rfl)]
  have HC := thingWord_any sa false w
  unfold nsA
  rw [e]
  go_simp
  refine HC.mono ?_
  rintro e2 w2 ⟨v, rfl, hv, b2⟩
  refine hK _ _ ⟨upd x 10 v, ?_, hF.step 7 10 v (by decide) (by decide) b2 (by decide) (fun h => absurd h (by decide)) (by decide) (fun p hp e => by simp only [nsMk, List.mem_cons, List.not_mem_nil, or_false] at hp; rcases hp with rfl | rfl | rfl | rfl | rfl | rfl | rfl | rfl | rfl | rfl | rfl | rfl | rfl <;> first | exact hv | cases e) (by decide) (by decide) (by decide) (fun h => absurd h (by decide)) (by decide) (fun h => absurd h (by decide))⟩
  rw [← e]
  rfl

set_option maxRecDepth 100000 in
theorem ns_8 (hF : NsF lo ev pz sa wE listed x w) (hr : 8 ∈ Region.ready .any nsOps listed) : wpOp Tryd.prog nsOps Q 8 (fun a' w' => NsI lo ev pz sa wE (listed.setIfInBounds 8 true) a' w') (nsA x) w := by
  obtain ⟨h1, o, ho, hall⟩ := mem_ready.1 hr
  have hoi : nsOps[8]? = some ({ dst := none, op := Op.insert 60 (Operand.tmp 6) (Operand.const (Value.string { data := #[116, 104, 105, 110, 103] })) (Operand.tmp 10), type := 0, pos := "l14_console.go:68", after := #[{ on := 1, ground := Ground.data }, { on := 7, ground := Ground.data }], guard := none }) := by unfold nsOps; simp only [List.getElem?_toArray, List.getElem?_cons_succ, List.getElem?_cons_zero]
  rw [hoi] at ho
  cases ho
  obtain ⟨m, o, e6, hup, hF2⟩ := hF.ins 8 2 10 (by decide) h1 (hall ⟨1, .data⟩ (by simp) rfl) ⟨(7, 10, 2), by decide, rfl, (hall ⟨7, .data⟩ (by simp) rfl)⟩
  refine wpOp_step hoi (fun K hK => ?_)
  rw [if_pos (by rfl)]
  have hup2 : (Instr.mapUpdate 60 (.map (some m)) (.string ⟨#[116, 104, 105, 110, 103]⟩) (x 10)).run Tryd.prog w = .ok () (setBlock w m o) := hup
  unfold nsA
  rw [e6]
  go_simp
  refine hK _ _ ⟨x, ?_, hF2⟩
  rw [← e6]
  rfl

set_option maxRecDepth 100000 in
theorem ns_9 (hF : NsF lo ev pz sa wE listed x w) (hr : 9 ∈ Region.ready .any nsOps listed) : wpOp Tryd.prog nsOps Q 9 (fun a' w' => NsI lo ev pz sa wE (listed.setIfInBounds 9 true) a' w') (nsA x) w := by
  obtain ⟨h1, o, ho, hall⟩ := mem_ready.1 hr
  have hoi : nsOps[9]? = some ({ dst := some 11, op := Op.load 57 (Operand.tmp 1), type := 57, pos := "l14_console.go:68", after := #[], guard := none }) := by unfold nsOps; simp only [List.getElem?_toArray, List.getElem?_cons_succ, List.getElem?_cons_zero]
  rw [hoi] at ho
  cases ho
  have c := cells_at hF.zc 0
  simp at c
  refine YieldsP hoi rfl (v := .pointer (some ⟨sa, 0, none⟩)) ?_ ⟨upd x 11 (.pointer (some ⟨sa, 0, none⟩)), rfl, hF.step 9 11 _ (by decide) (by decide) (Below.refl _ _) (by decide) (fun _ => rfl) (by decide) (fun p hp e => absurd (show (nsMk.any fun p => p.1 == 9) = true from List.any_eq_true.2 ⟨p, hp, by simp [e]⟩) (by decide)) (by decide) (by decide) (by decide) (fun h => absurd h (by decide)) (by decide) (fun h => absurd h (by decide))⟩
  unfold nsA
  rw [hF.x1]
  go_simp <;> with_reducible rfl

set_option maxRecDepth 100000 in
theorem ns_10 (hF : NsF lo ev pz sa wE listed x w) (hr : 10 ∈ Region.ready .any nsOps listed) : wpOp Tryd.prog nsOps Q 10 (fun a' w' => NsI lo ev pz sa wE (listed.setIfInBounds 10 true) a' w') (nsA x) w := by
  obtain ⟨h1, o, ho, hall⟩ := mem_ready.1 hr
  have hoi : nsOps[10]? = some ({ dst := some 12, op := Op.call { callee := Callee.value (Operand.func 54), args := #[Operand.tmp 11, Operand.const (Value.bool true)], argTypes := #[57, 4] }, type := 89, pos := "l14_console.go:78", after := #[{ on := 9, ground := Ground.data }, { on := 7, ground := Ground.chain }], guard := none }) := by unfold nsOps; simp only [List.getElem?_toArray, List.getElem?_cons_succ, List.getElem?_cons_zero]
  rw [hoi] at ho
  cases ho
  have e := hF.ld (9, 11) (by decide) (hall ⟨9, .data⟩ (by simp) rfl)
  simp only [] at e
  refine wpOp_step hoi (fun K hK => ?_)
  rw [if_pos (by rfl)]
  have HC := thingWord_any sa true w
  unfold nsA
  rw [e]
  go_simp
  refine HC.mono ?_
  rintro e2 w2 ⟨v, rfl, hv, b2⟩
  refine hK _ _ ⟨upd x 12 v, ?_, hF.step 10 12 v (by decide) (by decide) b2 (by decide) (fun h => absurd h (by decide)) (by decide) (fun p hp e => by simp only [nsMk, List.mem_cons, List.not_mem_nil, or_false] at hp; rcases hp with rfl | rfl | rfl | rfl | rfl | rfl | rfl | rfl | rfl | rfl | rfl | rfl | rfl <;> first | exact hv | cases e) (by decide) (by decide) (by decide) (fun h => absurd h (by decide)) (by decide) (fun h => absurd h (by decide))⟩
  rw [← e]
  rfl

set_option maxRecDepth 100000 in
theorem ns_11 (hF : NsF lo ev pz sa wE listed x w) (hr : 11 ∈ Region.ready .any nsOps listed) : wpOp Tryd.prog nsOps Q 11 (fun a' w' => NsI lo ev pz sa wE (listed.setIfInBounds 11 true) a' w') (nsA x) w := by
  obtain ⟨h1, o, ho, hall⟩ := mem_ready.1 hr
  have hoi : nsOps[11]? = some ({ dst := none, op := Op.insert 60 (Operand.tmp 6) (Operand.const (Value.string { data := #[102, 97, 114] })) (Operand.tmp 12), type := 0, pos := "l14_console.go:68", after := #[{ on := 1, ground := Ground.data }, { on := 10, ground := Ground.data }], guard := none }) := by unfold nsOps; simp only [List.getElem?_toArray, List.getElem?_cons_succ, List.getElem?_cons_zero]
  rw [hoi] at ho
  cases ho
  obtain ⟨m, o, e6, hup, hF2⟩ := hF.ins 11 3 12 (by decide) h1 (hall ⟨1, .data⟩ (by simp) rfl) ⟨(10, 12, 3), by decide, rfl, (hall ⟨10, .data⟩ (by simp) rfl)⟩
  refine wpOp_step hoi (fun K hK => ?_)
  rw [if_pos (by rfl)]
  have hup2 : (Instr.mapUpdate 60 (.map (some m)) (.string ⟨#[102, 97, 114]⟩) (x 12)).run Tryd.prog w = .ok () (setBlock w m o) := hup
  unfold nsA
  rw [e6]
  go_simp
  refine hK _ _ ⟨x, ?_, hF2⟩
  rw [← e6]
  rfl

set_option maxRecDepth 100000 in
theorem ns_12 (hF : NsF lo ev pz sa wE listed x w) (hr : 12 ∈ Region.ready .any nsOps listed) : wpOp Tryd.prog nsOps Q 12 (fun a' w' => NsI lo ev pz sa wE (listed.setIfInBounds 12 true) a' w') (nsA x) w := by
  obtain ⟨h1, o, ho, hall⟩ := mem_ready.1 hr
  have hoi : nsOps[12]? = some ({ dst := some 13, op := Op.load 57 (Operand.tmp 1), type := 57, pos := "l14_console.go:68", after := #[], guard := none }) := by unfold nsOps; simp only [List.getElem?_toArray, List.getElem?_cons_succ, List.getElem?_cons_zero]
  rw [hoi] at ho
  cases ho
  have c := cells_at hF.zc 0
  simp at c
  refine YieldsP hoi rfl (v := .pointer (some ⟨sa, 0, none⟩)) ?_ ⟨upd x 13 (.pointer (some ⟨sa, 0, none⟩)), rfl, hF.step 12 13 _ (by decide) (by decide) (Below.refl _ _) (by decide) (fun _ => rfl) (by decide) (fun p hp e => absurd (show (nsMk.any fun p => p.1 == 12) = true from List.any_eq_true.2 ⟨p, hp, by simp [e]⟩) (by decide)) (by decide) (by decide) (by decide) (fun h => absurd h (by decide)) (by decide) (fun h => absurd h (by decide))⟩
  unfold nsA
  rw [hF.x1]
  go_simp <;> with_reducible rfl

set_option maxRecDepth 100000 in
theorem ns_13 (hF : NsF lo ev pz sa wE listed x w) (hr : 13 ∈ Region.ready .any nsOps listed) : wpOp Tryd.prog nsOps Q 13 (fun a' w' => NsI lo ev pz sa wE (listed.setIfInBounds 13 true) a' w') (nsA x) w := by
  obtain ⟨h1, o, ho, hall⟩ := mem_ready.1 hr
  have hoi : nsOps[13]? = some ({ dst := some 14, op := Op.call { callee := Callee.value (Operand.func 55), args := #[Operand.tmp 13, Operand.const (Value.int IntKind.i64 1)], argTypes := #[57, 3] }, type := 89, pos := "l14_console.go:79", after := #[{ on := 12, ground := Ground.data }, { on := 10, ground := Ground.chain }], guard := none }) := by unfold nsOps; simp only [List.getElem?_toArray, List.getElem?_cons_succ, List.getElem?_cons_zero]
  rw [hoi] at ho
  cases ho
  have e := hF.ld (12, 13) (by decide) (hall ⟨12, .data⟩ (by simp) rfl)
  simp only [] at e
  refine wpOp_step hoi (fun K hK => ?_)
  rw [if_pos (by rfl)]
  have HC := nodeWord_any sa 1 w
  unfold nsA
  rw [e]
  go_simp
  refine HC.mono ?_
  rintro e2 w2 ⟨v, rfl, hv, b2⟩
  refine hK _ _ ⟨upd x 14 v, ?_, hF.step 13 14 v (by decide) (by decide) b2 (by decide) (fun h => absurd h (by decide)) (by decide) (fun p hp e => by simp only [nsMk, List.mem_cons, List.not_mem_nil, or_false] at hp; rcases hp with rfl | rfl | rfl | rfl | rfl | rfl | rfl | rfl | rfl | rfl | rfl | rfl | rfl <;> first | exact hv | cases e) (by decide) (by decide) (by decide) (fun h => absurd h (by decide)) (by decide) (fun h => absurd h (by decide))⟩
  rw [← e]
  rfl

set_option maxRecDepth 100000 in
theorem ns_14 (hF : NsF lo ev pz sa wE listed x w) (hr : 14 ∈ Region.ready .any nsOps listed) : wpOp Tryd.prog nsOps Q 14 (fun a' w' => NsI lo ev pz sa wE (listed.setIfInBounds 14 true) a' w') (nsA x) w := by
  obtain ⟨h1, o, ho, hall⟩ := mem_ready.1 hr
  have hoi : nsOps[14]? = some ({ dst := none, op := Op.insert 60 (Operand.tmp 6) (Operand.const (Value.string { data := #[116, 105, 99, 107] })) (Operand.tmp 14), type := 0, pos := "l14_console.go:68", after := #[{ on := 1, ground := Ground.data }, { on := 13, ground := Ground.data }], guard := none }) := by unfold nsOps; simp only [List.getElem?_toArray, List.getElem?_cons_succ, List.getElem?_cons_zero]
  rw [hoi] at ho
  cases ho
  obtain ⟨m, o, e6, hup, hF2⟩ := hF.ins 14 4 14 (by decide) h1 (hall ⟨1, .data⟩ (by simp) rfl) ⟨(13, 14, 4), by decide, rfl, (hall ⟨13, .data⟩ (by simp) rfl)⟩
  refine wpOp_step hoi (fun K hK => ?_)
  rw [if_pos (by rfl)]
  have hup2 : (Instr.mapUpdate 60 (.map (some m)) (.string ⟨#[116, 105, 99, 107]⟩) (x 14)).run Tryd.prog w = .ok () (setBlock w m o) := hup
  unfold nsA
  rw [e6]
  go_simp
  refine hK _ _ ⟨x, ?_, hF2⟩
  rw [← e6]
  rfl

set_option maxRecDepth 100000 in
theorem ns_15 (hF : NsF lo ev pz sa wE listed x w) (hr : 15 ∈ Region.ready .any nsOps listed) : wpOp Tryd.prog nsOps Q 15 (fun a' w' => NsI lo ev pz sa wE (listed.setIfInBounds 15 true) a' w') (nsA x) w := by
  obtain ⟨h1, o, ho, hall⟩ := mem_ready.1 hr
  have hoi : nsOps[15]? = some ({ dst := some 15, op := Op.load 57 (Operand.tmp 1), type := 57, pos := "l14_console.go:68", after := #[], guard := none }) := by unfold nsOps; simp only [List.getElem?_toArray, List.getElem?_cons_succ, List.getElem?_cons_zero]
  rw [hoi] at ho
  cases ho
  have c := cells_at hF.zc 0
  simp at c
  refine YieldsP hoi rfl (v := .pointer (some ⟨sa, 0, none⟩)) ?_ ⟨upd x 15 (.pointer (some ⟨sa, 0, none⟩)), rfl, hF.step 15 15 _ (by decide) (by decide) (Below.refl _ _) (by decide) (fun _ => rfl) (by decide) (fun p hp e => absurd (show (nsMk.any fun p => p.1 == 15) = true from List.any_eq_true.2 ⟨p, hp, by simp [e]⟩) (by decide)) (by decide) (by decide) (by decide) (fun h => absurd h (by decide)) (by decide) (fun h => absurd h (by decide))⟩
  unfold nsA
  rw [hF.x1]
  go_simp <;> with_reducible rfl

set_option maxRecDepth 100000 in
theorem ns_16 (hF : NsF lo ev pz sa wE listed x w) (hr : 16 ∈ Region.ready .any nsOps listed) : wpOp Tryd.prog nsOps Q 16 (fun a' w' => NsI lo ev pz sa wE (listed.setIfInBounds 16 true) a' w') (nsA x) w := by
  obtain ⟨h1, o, ho, hall⟩ := mem_ready.1 hr
  have hoi : nsOps[16]? = some ({ dst := some 16, op := Op.call { callee := Callee.value (Operand.func 56), args := #[Operand.tmp 15, Operand.const (Value.int IntKind.i64 2)], argTypes := #[57, 3] }, type := 89, pos := "l14_console.go:80", after := #[{ on := 15, ground := Ground.data }, { on := 13, ground := Ground.chain }], guard := none }) := by unfold nsOps; simp only [List.getElem?_toArray, List.getElem?_cons_succ, List.getElem?_cons_zero]
  rw [hoi] at ho
  cases ho
  have e := hF.ld (15, 15) (by decide) (hall ⟨15, .data⟩ (by simp) rfl)
  simp only [] at e
  refine wpOp_step hoi (fun K hK => ?_)
  rw [if_pos (by rfl)]
  have HC := placeWord_any sa 2 w
  unfold nsA
  rw [e]
  go_simp
  refine HC.mono ?_
  rintro e2 w2 ⟨v, rfl, hv, b2⟩
  refine hK _ _ ⟨upd x 16 v, ?_, hF.step 16 16 v (by decide) (by decide) b2 (by decide) (fun h => absurd h (by decide)) (by decide) (fun p hp e => by simp only [nsMk, List.mem_cons, List.not_mem_nil, or_false] at hp; rcases hp with rfl | rfl | rfl | rfl | rfl | rfl | rfl | rfl | rfl | rfl | rfl | rfl | rfl <;> first | exact hv | cases e) (by decide) (by decide) (by decide) (fun h => absurd h (by decide)) (by decide) (fun h => absurd h (by decide))⟩
  rw [← e]
  rfl

set_option maxRecDepth 100000 in
theorem ns_17 (hF : NsF lo ev pz sa wE listed x w) (hr : 17 ∈ Region.ready .any nsOps listed) : wpOp Tryd.prog nsOps Q 17 (fun a' w' => NsI lo ev pz sa wE (listed.setIfInBounds 17 true) a' w') (nsA x) w := by
  obtain ⟨h1, o, ho, hall⟩ := mem_ready.1 hr
  have hoi : nsOps[17]? = some ({ dst := none, op := Op.insert 60 (Operand.tmp 6) (Operand.const (Value.string { data := #[100, 101, 108, 105, 118, 101, 114] })) (Operand.tmp 16), type := 0, pos := "l14_console.go:68", after := #[{ on := 1, ground := Ground.data }, { on := 16, ground := Ground.data }], guard := none }) := by unfold nsOps; simp only [List.getElem?_toArray, List.getElem?_cons_succ, List.getElem?_cons_zero]
  rw [hoi] at ho
  cases ho
  obtain ⟨m, o, e6, hup, hF2⟩ := hF.ins 17 5 16 (by decide) h1 (hall ⟨1, .data⟩ (by simp) rfl) ⟨(16, 16, 5), by decide, rfl, (hall ⟨16, .data⟩ (by simp) rfl)⟩
  refine wpOp_step hoi (fun K hK => ?_)
  rw [if_pos (by rfl)]
  have hup2 : (Instr.mapUpdate 60 (.map (some m)) (.string ⟨#[100, 101, 108, 105, 118, 101, 114]⟩) (x 16)).run Tryd.prog w = .ok () (setBlock w m o) := hup
  unfold nsA
  rw [e6]
  go_simp
  refine hK _ _ ⟨x, ?_, hF2⟩
  rw [← e6]
  rfl

set_option maxRecDepth 100000 in
theorem ns_18 (hF : NsF lo ev pz sa wE listed x w) (hr : 18 ∈ Region.ready .any nsOps listed) : wpOp Tryd.prog nsOps Q 18 (fun a' w' => NsI lo ev pz sa wE (listed.setIfInBounds 18 true) a' w') (nsA x) w := by
  obtain ⟨h1, o, ho, hall⟩ := mem_ready.1 hr
  have hoi : nsOps[18]? = some ({ dst := some 17, op := Op.load 57 (Operand.tmp 1), type := 57, pos := "l14_console.go:68", after := #[], guard := none }) := by unfold nsOps; simp only [List.getElem?_toArray, List.getElem?_cons_succ, List.getElem?_cons_zero]
  rw [hoi] at ho
  cases ho
  have c := cells_at hF.zc 0
  simp at c
  refine YieldsP hoi rfl (v := .pointer (some ⟨sa, 0, none⟩)) ?_ ⟨upd x 17 (.pointer (some ⟨sa, 0, none⟩)), rfl, hF.step 18 17 _ (by decide) (by decide) (Below.refl _ _) (by decide) (fun _ => rfl) (by decide) (fun p hp e => absurd (show (nsMk.any fun p => p.1 == 18) = true from List.any_eq_true.2 ⟨p, hp, by simp [e]⟩) (by decide)) (by decide) (by decide) (by decide) (fun h => absurd h (by decide)) (by decide) (fun h => absurd h (by decide))⟩
  unfold nsA
  rw [hF.x1]
  go_simp <;> with_reducible rfl

set_option maxRecDepth 100000 in
theorem ns_19 (hF : NsF lo ev pz sa wE listed x w) (hr : 19 ∈ Region.ready .any nsOps listed) : wpOp Tryd.prog nsOps Q 19 (fun a' w' => NsI lo ev pz sa wE (listed.setIfInBounds 19 true) a' w') (nsA x) w := by
  obtain ⟨h1, o, ho, hall⟩ := mem_ready.1 hr
  have hoi : nsOps[19]? = some ({ dst := some 18, op := Op.call { callee := Callee.value (Operand.func 56), args := #[Operand.tmp 17, Operand.const (Value.int IntKind.i64 3)], argTypes := #[57, 3] }, type := 89, pos := "l14_console.go:81", after := #[{ on := 18, ground := Ground.data }, { on := 16, ground := Ground.chain }], guard := none }) := by unfold nsOps; simp only [List.getElem?_toArray, List.getElem?_cons_succ, List.getElem?_cons_zero]
  rw [hoi] at ho
  cases ho
  have e := hF.ld (18, 17) (by decide) (hall ⟨18, .data⟩ (by simp) rfl)
  simp only [] at e
  refine wpOp_step hoi (fun K hK => ?_)
  rw [if_pos (by rfl)]
  have HC := placeWord_any sa 3 w
  unfold nsA
  rw [e]
  go_simp
  refine HC.mono ?_
  rintro e2 w2 ⟨v, rfl, hv, b2⟩
  refine hK _ _ ⟨upd x 18 v, ?_, hF.step 19 18 v (by decide) (by decide) b2 (by decide) (fun h => absurd h (by decide)) (by decide) (fun p hp e => by simp only [nsMk, List.mem_cons, List.not_mem_nil, or_false] at hp; rcases hp with rfl | rfl | rfl | rfl | rfl | rfl | rfl | rfl | rfl | rfl | rfl | rfl | rfl <;> first | exact hv | cases e) (by decide) (by decide) (by decide) (fun h => absurd h (by decide)) (by decide) (fun h => absurd h (by decide))⟩
  rw [← e]
  rfl

set_option maxRecDepth 100000 in
theorem ns_20 (hF : NsF lo ev pz sa wE listed x w) (hr : 20 ∈ Region.ready .any nsOps listed) : wpOp Tryd.prog nsOps Q 20 (fun a' w' => NsI lo ev pz sa wE (listed.setIfInBounds 20 true) a' w') (nsA x) w := by
  obtain ⟨h1, o, ho, hall⟩ := mem_ready.1 hr
  have hoi : nsOps[20]? = some ({ dst := none, op := Op.insert 60 (Operand.tmp 6) (Operand.const (Value.string { data := #[100, 114, 111, 112] })) (Operand.tmp 18), type := 0, pos := "l14_console.go:68", after := #[{ on := 1, ground := Ground.data }, { on := 19, ground := Ground.data }], guard := none }) := by unfold nsOps; simp only [List.getElem?_toArray, List.getElem?_cons_succ, List.getElem?_cons_zero]
  rw [hoi] at ho
  cases ho
  obtain ⟨m, o, e6, hup, hF2⟩ := hF.ins 20 6 18 (by decide) h1 (hall ⟨1, .data⟩ (by simp) rfl) ⟨(19, 18, 6), by decide, rfl, (hall ⟨19, .data⟩ (by simp) rfl)⟩
  refine wpOp_step hoi (fun K hK => ?_)
  rw [if_pos (by rfl)]
  have hup2 : (Instr.mapUpdate 60 (.map (some m)) (.string ⟨#[100, 114, 111, 112]⟩) (x 18)).run Tryd.prog w = .ok () (setBlock w m o) := hup
  unfold nsA
  rw [e6]
  go_simp
  refine hK _ _ ⟨x, ?_, hF2⟩
  rw [← e6]
  rfl

set_option maxRecDepth 100000 in
theorem ns_21 (hF : NsF lo ev pz sa wE listed x w) (hr : 21 ∈ Region.ready .any nsOps listed) : wpOp Tryd.prog nsOps Q 21 (fun a' w' => NsI lo ev pz sa wE (listed.setIfInBounds 21 true) a' w') (nsA x) w := by
  obtain ⟨h1, o, ho, hall⟩ := mem_ready.1 hr
  have hoi : nsOps[21]? = some ({ dst := some 19, op := Op.load 57 (Operand.tmp 1), type := 57, pos := "l14_console.go:68", after := #[], guard := none }) := by unfold nsOps; simp only [List.getElem?_toArray, List.getElem?_cons_succ, List.getElem?_cons_zero]
  rw [hoi] at ho
  cases ho
  have c := cells_at hF.zc 0
  simp at c
  refine YieldsP hoi rfl (v := .pointer (some ⟨sa, 0, none⟩)) ?_ ⟨upd x 19 (.pointer (some ⟨sa, 0, none⟩)), rfl, hF.step 21 19 _ (by decide) (by decide) (Below.refl _ _) (by decide) (fun _ => rfl) (by decide) (fun p hp e => absurd (show (nsMk.any fun p => p.1 == 21) = true from List.any_eq_true.2 ⟨p, hp, by simp [e]⟩) (by decide)) (by decide) (by decide) (by decide) (fun h => absurd h (by decide)) (by decide) (fun h => absurd h (by decide))⟩
  unfold nsA
  rw [hF.x1]
  go_simp <;> with_reducible rfl

set_option maxRecDepth 100000 in
theorem ns_22 (hF : NsF lo ev pz sa wE listed x w) (hr : 22 ∈ Region.ready .any nsOps listed) : wpOp Tryd.prog nsOps Q 22 (fun a' w' => NsI lo ev pz sa wE (listed.setIfInBounds 22 true) a' w') (nsA x) w := by
  obtain ⟨h1, o, ho, hall⟩ := mem_ready.1 hr
  have hoi : nsOps[22]? = some ({ dst := some 20, op := Op.call { callee := Callee.value (Operand.func 56), args := #[Operand.tmp 19, Operand.const (Value.int IntKind.i64 4)], argTypes := #[57, 3] }, type := 89, pos := "l14_console.go:82", after := #[{ on := 21, ground := Ground.data }, { on := 19, ground := Ground.chain }], guard := none }) := by unfold nsOps; simp only [List.getElem?_toArray, List.getElem?_cons_succ, List.getElem?_cons_zero]
  rw [hoi] at ho
  cases ho
  have e := hF.ld (21, 19) (by decide) (hall ⟨21, .data⟩ (by simp) rfl)
  simp only [] at e
  refine wpOp_step hoi (fun K hK => ?_)
  rw [if_pos (by rfl)]
  have HC := placeWord_any sa 4 w
  unfold nsA
  rw [e]
  go_simp
  refine HC.mono ?_
  rintro e2 w2 ⟨v, rfl, hv, b2⟩
  refine hK _ _ ⟨upd x 20 v, ?_, hF.step 22 20 v (by decide) (by decide) b2 (by decide) (fun h => absurd h (by decide)) (by decide) (fun p hp e => by simp only [nsMk, List.mem_cons, List.not_mem_nil, or_false] at hp; rcases hp with rfl | rfl | rfl | rfl | rfl | rfl | rfl | rfl | rfl | rfl | rfl | rfl | rfl <;> first | exact hv | cases e) (by decide) (by decide) (by decide) (fun h => absurd h (by decide)) (by decide) (fun h => absurd h (by decide))⟩
  rw [← e]
  rfl

set_option maxRecDepth 100000 in
theorem ns_23 (hF : NsF lo ev pz sa wE listed x w) (hr : 23 ∈ Region.ready .any nsOps listed) : wpOp Tryd.prog nsOps Q 23 (fun a' w' => NsI lo ev pz sa wE (listed.setIfInBounds 23 true) a' w') (nsA x) w := by
  obtain ⟨h1, o, ho, hall⟩ := mem_ready.1 hr
  have hoi : nsOps[23]? = some ({ dst := none, op := Op.insert 60 (Operand.tmp 6) (Operand.const (Value.string { data := #[99, 111, 112, 121] })) (Operand.tmp 20), type := 0, pos := "l14_console.go:68", after := #[{ on := 1, ground := Ground.data }, { on := 22, ground := Ground.data }], guard := none }) := by unfold nsOps; simp only [List.getElem?_toArray, List.getElem?_cons_succ, List.getElem?_cons_zero]
  rw [hoi] at ho
  cases ho
  obtain ⟨m, o, e6, hup, hF2⟩ := hF.ins 23 7 20 (by decide) h1 (hall ⟨1, .data⟩ (by simp) rfl) ⟨(22, 20, 7), by decide, rfl, (hall ⟨22, .data⟩ (by simp) rfl)⟩
  refine wpOp_step hoi (fun K hK => ?_)
  rw [if_pos (by rfl)]
  have hup2 : (Instr.mapUpdate 60 (.map (some m)) (.string ⟨#[99, 111, 112, 121]⟩) (x 20)).run Tryd.prog w = .ok () (setBlock w m o) := hup
  unfold nsA
  rw [e6]
  go_simp
  refine hK _ _ ⟨x, ?_, hF2⟩
  rw [← e6]
  rfl

set_option maxRecDepth 100000 in
theorem ns_24 (hF : NsF lo ev pz sa wE listed x w) (hr : 24 ∈ Region.ready .any nsOps listed) : wpOp Tryd.prog nsOps Q 24 (fun a' w' => NsI lo ev pz sa wE (listed.setIfInBounds 24 true) a' w') (nsA x) w := by
  obtain ⟨h1, o, ho, hall⟩ := mem_ready.1 hr
  have hoi : nsOps[24]? = some ({ dst := some 21, op := Op.load 57 (Operand.tmp 1), type := 57, pos := "l14_console.go:68", after := #[], guard := none }) := by unfold nsOps; simp only [List.getElem?_toArray, List.getElem?_cons_succ, List.getElem?_cons_zero]
  rw [hoi] at ho
  cases ho
  have c := cells_at hF.zc 0
  simp at c
  refine YieldsP hoi rfl (v := .pointer (some ⟨sa, 0, none⟩)) ?_ ⟨upd x 21 (.pointer (some ⟨sa, 0, none⟩)), rfl, hF.step 24 21 _ (by decide) (by decide) (Below.refl _ _) (by decide) (fun _ => rfl) (by decide) (fun p hp e => absurd (show (nsMk.any fun p => p.1 == 24) = true from List.any_eq_true.2 ⟨p, hp, by simp [e]⟩) (by decide)) (by decide) (by decide) (by decide) (fun h => absurd h (by decide)) (by decide) (fun h => absurd h (by decide))⟩
  unfold nsA
  rw [hF.x1]
  go_simp <;> with_reducible rfl

set_option maxRecDepth 100000 in
theorem ns_25 (hF : NsF lo ev pz sa wE listed x w) (hr : 25 ∈ Region.ready .any nsOps listed) : wpOp Tryd.prog nsOps Q 25 (fun a' w' => NsI lo ev pz sa wE (listed.setIfInBounds 25 true) a' w') (nsA x) w := by
  obtain ⟨h1, o, ho, hall⟩ := mem_ready.1 hr
  have hoi : nsOps[25]? = some ({ dst := some 22, op := Op.call { callee := Callee.value (Operand.func 56), args := #[Operand.tmp 21, Operand.const (Value.int IntKind.i64 5)], argTypes := #[57, 3] }, type := 89, pos := "l14_console.go:83", after := #[{ on := 24, ground := Ground.data }, { on := 22, ground := Ground.chain }], guard := none }) := by unfold nsOps; simp only [List.getElem?_toArray, List.getElem?_cons_succ, List.getElem?_cons_zero]
  rw [hoi] at ho
  cases ho
  have e := hF.ld (24, 21) (by decide) (hall ⟨24, .data⟩ (by simp) rfl)
  simp only [] at e
  refine wpOp_step hoi (fun K hK => ?_)
  rw [if_pos (by rfl)]
  have HC := placeWord_any sa 5 w
  unfold nsA
  rw [e]
  go_simp
  refine HC.mono ?_
  rintro e2 w2 ⟨v, rfl, hv, b2⟩
  refine hK _ _ ⟨upd x 22 v, ?_, hF.step 25 22 v (by decide) (by decide) b2 (by decide) (fun h => absurd h (by decide)) (by decide) (fun p hp e => by simp only [nsMk, List.mem_cons, List.not_mem_nil, or_false] at hp; rcases hp with rfl | rfl | rfl | rfl | rfl | rfl | rfl | rfl | rfl | rfl | rfl | rfl | rfl <;> first | exact hv | cases e) (by decide) (by decide) (by decide) (fun h => absurd h (by decide)) (by decide) (fun h => absurd h (by decide))⟩
  rw [← e]
  rfl

set_option maxRecDepth 100000 in
theorem ns_26 (hF : NsF lo ev pz sa wE listed x w) (hr : 26 ∈ Region.ready .any nsOps listed) : wpOp Tryd.prog nsOps Q 26 (fun a' w' => NsI lo ev pz sa wE (listed.setIfInBounds 26 true) a' w') (nsA x) w := by
  obtain ⟨h1, o, ho, hall⟩ := mem_ready.1 hr
  have hoi : nsOps[26]? = some ({ dst := none, op := Op.insert 60 (Operand.tmp 6) (Operand.const (Value.string { data := #[99, 117, 116] })) (Operand.tmp 22), type := 0, pos := "l14_console.go:68", after := #[{ on := 1, ground := Ground.data }, { on := 25, ground := Ground.data }], guard := none }) := by unfold nsOps; simp only [List.getElem?_toArray, List.getElem?_cons_succ, List.getElem?_cons_zero]
  rw [hoi] at ho
  cases ho
  obtain ⟨m, o, e6, hup, hF2⟩ := hF.ins 26 8 22 (by decide) h1 (hall ⟨1, .data⟩ (by simp) rfl) ⟨(25, 22, 8), by decide, rfl, (hall ⟨25, .data⟩ (by simp) rfl)⟩
  refine wpOp_step hoi (fun K hK => ?_)
  rw [if_pos (by rfl)]
  have hup2 : (Instr.mapUpdate 60 (.map (some m)) (.string ⟨#[99, 117, 116]⟩) (x 22)).run Tryd.prog w = .ok () (setBlock w m o) := hup
  unfold nsA
  rw [e6]
  go_simp
  refine hK _ _ ⟨x, ?_, hF2⟩
  rw [← e6]
  rfl

set_option maxRecDepth 100000 in
theorem ns_27 (hF : NsF lo ev pz sa wE listed x w) (hr : 27 ∈ Region.ready .any nsOps listed) : wpOp Tryd.prog nsOps Q 27 (fun a' w' => NsI lo ev pz sa wE (listed.setIfInBounds 27 true) a' w') (nsA x) w := by
  obtain ⟨h1, o, ho, hall⟩ := mem_ready.1 hr
  have hoi : nsOps[27]? = some ({ dst := some 23, op := Op.load 57 (Operand.tmp 1), type := 57, pos := "l14_console.go:68", after := #[], guard := none }) := by unfold nsOps; simp only [List.getElem?_toArray, List.getElem?_cons_succ, List.getElem?_cons_zero]
  rw [hoi] at ho
  cases ho
  have c := cells_at hF.zc 0
  simp at c
  refine YieldsP hoi rfl (v := .pointer (some ⟨sa, 0, none⟩)) ?_ ⟨upd x 23 (.pointer (some ⟨sa, 0, none⟩)), rfl, hF.step 27 23 _ (by decide) (by decide) (Below.refl _ _) (by decide) (fun _ => rfl) (by decide) (fun p hp e => absurd (show (nsMk.any fun p => p.1 == 27) = true from List.any_eq_true.2 ⟨p, hp, by simp [e]⟩) (by decide)) (by decide) (by decide) (by decide) (fun h => absurd h (by decide)) (by decide) (fun h => absurd h (by decide))⟩
  unfold nsA
  rw [hF.x1]
  go_simp <;> with_reducible rfl

set_option maxRecDepth 100000 in
theorem ns_28 (hF : NsF lo ev pz sa wE listed x w) (hr : 28 ∈ Region.ready .any nsOps listed) : wpOp Tryd.prog nsOps Q 28 (fun a' w' => NsI lo ev pz sa wE (listed.setIfInBounds 28 true) a' w') (nsA x) w := by
  obtain ⟨h1, o, ho, hall⟩ := mem_ready.1 hr
  have hoi : nsOps[28]? = some ({ dst := some 24, op := Op.call { callee := Callee.value (Operand.func 56), args := #[Operand.tmp 23, Operand.const (Value.int IntKind.i64 6)], argTypes := #[57, 3] }, type := 89, pos := "l14_console.go:84", after := #[{ on := 27, ground := Ground.data }, { on := 25, ground := Ground.chain }], guard := none }) := by unfold nsOps; simp only [List.getElem?_toArray, List.getElem?_cons_succ, List.getElem?_cons_zero]
  rw [hoi] at ho
  cases ho
  have e := hF.ld (27, 23) (by decide) (hall ⟨27, .data⟩ (by simp) rfl)
  simp only [] at e
  refine wpOp_step hoi (fun K hK => ?_)
  rw [if_pos (by rfl)]
  have HC := placeWord_any sa 6 w
  unfold nsA
  rw [e]
  go_simp
  refine HC.mono ?_
  rintro e2 w2 ⟨v, rfl, hv, b2⟩
  refine hK _ _ ⟨upd x 24 v, ?_, hF.step 28 24 v (by decide) (by decide) b2 (by decide) (fun h => absurd h (by decide)) (by decide) (fun p hp e => by simp only [nsMk, List.mem_cons, List.not_mem_nil, or_false] at hp; rcases hp with rfl | rfl | rfl | rfl | rfl | rfl | rfl | rfl | rfl | rfl | rfl | rfl | rfl <;> first | exact hv | cases e) (by decide) (by decide) (by decide) (fun h => absurd h (by decide)) (by decide) (fun h => absurd h (by decide))⟩
  rw [← e]
  rfl

set_option maxRecDepth 100000 in
theorem ns_29 (hF : NsF lo ev pz sa wE listed x w) (hr : 29 ∈ Region.ready .any nsOps listed) : wpOp Tryd.prog nsOps Q 29 (fun a' w' => NsI lo ev pz sa wE (listed.setIfInBounds 29 true) a' w') (nsA x) w := by
  obtain ⟨h1, o, ho, hall⟩ := mem_ready.1 hr
  have hoi : nsOps[29]? = some ({ dst := none, op := Op.insert 60 (Operand.tmp 6) (Operand.const (Value.string { data := #[114, 97, 105, 115, 101] })) (Operand.tmp 24), type := 0, pos := "l14_console.go:68", after := #[{ on := 1, ground := Ground.data }, { on := 28, ground := Ground.data }], guard := none }) := by unfold nsOps; simp only [List.getElem?_toArray, List.getElem?_cons_succ, List.getElem?_cons_zero]
  rw [hoi] at ho
  cases ho
  obtain ⟨m, o, e6, hup, hF2⟩ := hF.ins 29 9 24 (by decide) h1 (hall ⟨1, .data⟩ (by simp) rfl) ⟨(28, 24, 9), by decide, rfl, (hall ⟨28, .data⟩ (by simp) rfl)⟩
  refine wpOp_step hoi (fun K hK => ?_)
  rw [if_pos (by rfl)]
  have hup2 : (Instr.mapUpdate 60 (.map (some m)) (.string ⟨#[114, 97, 105, 115, 101]⟩) (x 24)).run Tryd.prog w = .ok () (setBlock w m o) := hup
  unfold nsA
  rw [e6]
  go_simp
  refine hK _ _ ⟨x, ?_, hF2⟩
  rw [← e6]
  rfl

set_option maxRecDepth 100000 in
theorem ns_30 (hF : NsF lo ev pz sa wE listed x w) (hr : 30 ∈ Region.ready .any nsOps listed) : wpOp Tryd.prog nsOps Q 30 (fun a' w' => NsI lo ev pz sa wE (listed.setIfInBounds 30 true) a' w') (nsA x) w := by
  obtain ⟨h1, o, ho, hall⟩ := mem_ready.1 hr
  have hoi : nsOps[30]? = some ({ dst := some 25, op := Op.load 57 (Operand.tmp 1), type := 57, pos := "l14_console.go:68", after := #[], guard := none }) := by unfold nsOps; simp only [List.getElem?_toArray, List.getElem?_cons_succ, List.getElem?_cons_zero]
  rw [hoi] at ho
  cases ho
  have c := cells_at hF.zc 0
  simp at c
  refine YieldsP hoi rfl (v := .pointer (some ⟨sa, 0, none⟩)) ?_ ⟨upd x 25 (.pointer (some ⟨sa, 0, none⟩)), rfl, hF.step 30 25 _ (by decide) (by decide) (Below.refl _ _) (by decide) (fun _ => rfl) (by decide) (fun p hp e => absurd (show (nsMk.any fun p => p.1 == 30) = true from List.any_eq_true.2 ⟨p, hp, by simp [e]⟩) (by decide)) (by decide) (by decide) (by decide) (fun h => absurd h (by decide)) (by decide) (fun h => absurd h (by decide))⟩
  unfold nsA
  rw [hF.x1]
  go_simp <;> with_reducible rfl

set_option maxRecDepth 100000 in
theorem ns_31 (hF : NsF lo ev pz sa wE listed x w) (hr : 31 ∈ Region.ready .any nsOps listed) : wpOp Tryd.prog nsOps Q 31 (fun a' w' => NsI lo ev pz sa wE (listed.setIfInBounds 31 true) a' w') (nsA x) w := by
  obtain ⟨h1, o, ho, hall⟩ := mem_ready.1 hr
  have hoi : nsOps[31]? = some ({ dst := some 26, op := Op.call { callee := Callee.value (Operand.func 55), args := #[Operand.tmp 25, Operand.const (Value.int IntKind.i64 7)], argTypes := #[57, 3] }, type := 89, pos := "l14_console.go:85", after := #[{ on := 30, ground := Ground.data }, { on := 28, ground := Ground.chain }], guard := none }) := by unfold nsOps; simp only [List.getElem?_toArray, List.getElem?_cons_succ, List.getElem?_cons_zero]
  rw [hoi] at ho
  cases ho
  have e := hF.ld (30, 25) (by decide) (hall ⟨30, .data⟩ (by simp) rfl)
  simp only [] at e
  refine wpOp_step hoi (fun K hK => ?_)
  rw [if_pos (by rfl)]
  have HC := nodeWord_any sa 7 w
  unfold nsA
  rw [e]
  go_simp
  refine HC.mono ?_
  rintro e2 w2 ⟨v, rfl, hv, b2⟩
  refine hK _ _ ⟨upd x 26 v, ?_, hF.step 31 26 v (by decide) (by decide) b2 (by decide) (fun h => absurd h (by decide)) (by decide) (fun p hp e => by simp only [nsMk, List.mem_cons, List.not_mem_nil, or_false] at hp; rcases hp with rfl | rfl | rfl | rfl | rfl | rfl | rfl | rfl | rfl | rfl | rfl | rfl | rfl <;> first | exact hv | cases e) (by decide) (by decide) (by decide) (fun h => absurd h (by decide)) (by decide) (fun h => absurd h (by decide))⟩
  rw [← e]
  rfl

set_option maxRecDepth 100000 in
theorem ns_32 (hF : NsF lo ev pz sa wE listed x w) (hr : 32 ∈ Region.ready .any nsOps listed) : wpOp Tryd.prog nsOps Q 32 (fun a' w' => NsI lo ev pz sa wE (listed.setIfInBounds 32 true) a' w') (nsA x) w := by
  obtain ⟨h1, o, ho, hall⟩ := mem_ready.1 hr
  have hoi : nsOps[32]? = some ({ dst := none, op := Op.insert 60 (Operand.tmp 6) (Operand.const (Value.string { data := #[100, 111, 119, 110] })) (Operand.tmp 26), type := 0, pos := "l14_console.go:68", after := #[{ on := 1, ground := Ground.data }, { on := 31, ground := Ground.data }], guard := none }) := by unfold nsOps; simp only [List.getElem?_toArray, List.getElem?_cons_succ, List.getElem?_cons_zero]
  rw [hoi] at ho
  cases ho
  obtain ⟨m, o, e6, hup, hF2⟩ := hF.ins 32 10 26 (by decide) h1 (hall ⟨1, .data⟩ (by simp) rfl) ⟨(31, 26, 10), by decide, rfl, (hall ⟨31, .data⟩ (by simp) rfl)⟩
  refine wpOp_step hoi (fun K hK => ?_)
  rw [if_pos (by rfl)]
  have hup2 : (Instr.mapUpdate 60 (.map (some m)) (.string ⟨#[100, 111, 119, 110]⟩) (x 26)).run Tryd.prog w = .ok () (setBlock w m o) := hup
  unfold nsA
  rw [e6]
  go_simp
  refine hK _ _ ⟨x, ?_, hF2⟩
  rw [← e6]
  rfl

set_option maxRecDepth 100000 in
theorem ns_33 (hF : NsF lo ev pz sa wE listed x w) (hr : 33 ∈ Region.ready .any nsOps listed) : wpOp Tryd.prog nsOps Q 33 (fun a' w' => NsI lo ev pz sa wE (listed.setIfInBounds 33 true) a' w') (nsA x) w := by
  obtain ⟨h1, o, ho, hall⟩ := mem_ready.1 hr
  have hoi : nsOps[33]? = some ({ dst := some 27, op := Op.load 57 (Operand.tmp 1), type := 57, pos := "l14_console.go:68", after := #[], guard := none }) := by unfold nsOps; simp only [List.getElem?_toArray, List.getElem?_cons_succ, List.getElem?_cons_zero]
  rw [hoi] at ho
  cases ho
  have c := cells_at hF.zc 0
  simp at c
  refine YieldsP hoi rfl (v := .pointer (some ⟨sa, 0, none⟩)) ?_ ⟨upd x 27 (.pointer (some ⟨sa, 0, none⟩)), rfl, hF.step 33 27 _ (by decide) (by decide) (Below.refl _ _) (by decide) (fun _ => rfl) (by decide) (fun p hp e => absurd (show (nsMk.any fun p => p.1 == 33) = true from List.any_eq_true.2 ⟨p, hp, by simp [e]⟩) (by decide)) (by decide) (by decide) (by decide) (fun h => absurd h (by decide)) (by decide) (fun h => absurd h (by decide))⟩
  unfold nsA
  rw [hF.x1]
  go_simp <;> with_reducible rfl

set_option maxRecDepth 100000 in
theorem ns_34 (hF : NsF lo ev pz sa wE listed x w) (hr : 34 ∈ Region.ready .any nsOps listed) : wpOp Tryd.prog nsOps Q 34 (fun a' w' => NsI lo ev pz sa wE (listed.setIfInBounds 34 true) a' w') (nsA x) w := by
  obtain ⟨h1, o, ho, hall⟩ := mem_ready.1 hr
  have hoi : nsOps[34]? = some ({ dst := some 28, op := Op.call { callee := Callee.value (Operand.func 55), args := #[Operand.tmp 27, Operand.const (Value.int IntKind.i64 8)], argTypes := #[57, 3] }, type := 89, pos := "l14_console.go:86", after := #[{ on := 33, ground := Ground.data }, { on := 31, ground := Ground.chain }], guard := none }) := by unfold nsOps; simp only [List.getElem?_toArray, List.getElem?_cons_succ, List.getElem?_cons_zero]
  rw [hoi] at ho
  cases ho
  have e := hF.ld (33, 27) (by decide) (hall ⟨33, .data⟩ (by simp) rfl)
  simp only [] at e
  refine wpOp_step hoi (fun K hK => ?_)
  rw [if_pos (by rfl)]
  have HC := nodeWord_any sa 8 w
  unfold nsA
  rw [e]
  go_simp
  refine HC.mono ?_
  rintro e2 w2 ⟨v, rfl, hv, b2⟩
  refine hK _ _ ⟨upd x 28 v, ?_, hF.step 34 28 v (by decide) (by decide) b2 (by decide) (fun h => absurd h (by decide)) (by decide) (fun p hp e => by simp only [nsMk, List.mem_cons, List.not_mem_nil, or_false] at hp; rcases hp with rfl | rfl | rfl | rfl | rfl | rfl | rfl | rfl | rfl | rfl | rfl | rfl | rfl <;> first | exact hv | cases e) (by decide) (by decide) (by decide) (fun h => absurd h (by decide)) (by decide) (fun h => absurd h (by decide))⟩
  rw [← e]
  rfl

set_option maxRecDepth 100000 in
theorem ns_35 (hF : NsF lo ev pz sa wE listed x w) (hr : 35 ∈ Region.ready .any nsOps listed) : wpOp Tryd.prog nsOps Q 35 (fun a' w' => NsI lo ev pz sa wE (listed.setIfInBounds 35 true) a' w') (nsA x) w := by
  obtain ⟨h1, o, ho, hall⟩ := mem_ready.1 hr
  have hoi : nsOps[35]? = some ({ dst := none, op := Op.insert 60 (Operand.tmp 6) (Operand.const (Value.string { data := #[117, 112] })) (Operand.tmp 28), type := 0, pos := "l14_console.go:68", after := #[{ on := 1, ground := Ground.data }, { on := 34, ground := Ground.data }], guard := none }) := by unfold nsOps; simp only [List.getElem?_toArray, List.getElem?_cons_succ, List.getElem?_cons_zero]
  rw [hoi] at ho
  cases ho
  obtain ⟨m, o, e6, hup, hF2⟩ := hF.ins 35 11 28 (by decide) h1 (hall ⟨1, .data⟩ (by simp) rfl) ⟨(34, 28, 11), by decide, rfl, (hall ⟨34, .data⟩ (by simp) rfl)⟩
  refine wpOp_step hoi (fun K hK => ?_)
  rw [if_pos (by rfl)]
  have hup2 : (Instr.mapUpdate 60 (.map (some m)) (.string ⟨#[117, 112]⟩) (x 28)).run Tryd.prog w = .ok () (setBlock w m o) := hup
  unfold nsA
  rw [e6]
  go_simp
  refine hK _ _ ⟨x, ?_, hF2⟩
  rw [← e6]
  rfl

set_option maxRecDepth 100000 in
theorem ns_36 (hF : NsF lo ev pz sa wE listed x w) (hr : 36 ∈ Region.ready .any nsOps listed) : wpOp Tryd.prog nsOps Q 36 (fun a' w' => NsI lo ev pz sa wE (listed.setIfInBounds 36 true) a' w') (nsA x) w := by
  obtain ⟨h1, o, ho, hall⟩ := mem_ready.1 hr
  have hoi : nsOps[36]? = some ({ dst := some 29, op := Op.load 57 (Operand.tmp 1), type := 57, pos := "l14_console.go:68", after := #[], guard := none }) := by unfold nsOps; simp only [List.getElem?_toArray, List.getElem?_cons_succ, List.getElem?_cons_zero]
  rw [hoi] at ho
  cases ho
  have c := cells_at hF.zc 0
  simp at c
  refine YieldsP hoi rfl (v := .pointer (some ⟨sa, 0, none⟩)) ?_ ⟨upd x 29 (.pointer (some ⟨sa, 0, none⟩)), rfl, hF.step 36 29 _ (by decide) (by decide) (Below.refl _ _) (by decide) (fun _ => rfl) (by decide) (fun p hp e => absurd (show (nsMk.any fun p => p.1 == 36) = true from List.any_eq_true.2 ⟨p, hp, by simp [e]⟩) (by decide)) (by decide) (by decide) (by decide) (fun h => absurd h (by decide)) (by decide) (fun h => absurd h (by decide))⟩
  unfold nsA
  rw [hF.x1]
  go_simp <;> with_reducible rfl

set_option maxRecDepth 100000 in
theorem ns_37 (hF : NsF lo ev pz sa wE listed x w) (hr : 37 ∈ Region.ready .any nsOps listed) : wpOp Tryd.prog nsOps Q 37 (fun a' w' => NsI lo ev pz sa wE (listed.setIfInBounds 37 true) a' w') (nsA x) w := by
  obtain ⟨h1, o, ho, hall⟩ := mem_ready.1 hr
  have hoi : nsOps[37]? = some ({ dst := some 30, op := Op.call { callee := Callee.value (Operand.func 57), args := #[Operand.tmp 29], argTypes := #[57] }, type := 89, pos := "l14_console.go:87", after := #[{ on := 36, ground := Ground.data }, { on := 34, ground := Ground.chain }], guard := none }) := by unfold nsOps; simp only [List.getElem?_toArray, List.getElem?_cons_succ, List.getElem?_cons_zero]
  rw [hoi] at ho
  cases ho
  have e := hF.ld (36, 29) (by decide) (hall ⟨36, .data⟩ (by simp) rfl)
  simp only [] at e
  refine wpOp_step hoi (fun K hK => ?_)
  rw [if_pos (by rfl)]
  have HC := bytesWord_any sa w
  unfold nsA
  rw [e]
  go_simp
  refine HC.mono ?_
  rintro e2 w2 ⟨v, rfl, hv, b2⟩
  refine hK _ _ ⟨upd x 30 v, ?_, hF.step 37 30 v (by decide) (by decide) b2 (by decide) (fun h => absurd h (by decide)) (by decide) (fun p hp e => by simp only [nsMk, List.mem_cons, List.not_mem_nil, or_false] at hp; rcases hp with rfl | rfl | rfl | rfl | rfl | rfl | rfl | rfl | rfl | rfl | rfl | rfl | rfl <;> first | exact hv | cases e) (by decide) (by decide) (by decide) (fun h => absurd h (by decide)) (by decide) (fun h => absurd h (by decide))⟩
  rw [← e]
  rfl

set_option maxRecDepth 100000 in
theorem ns_38 (hF : NsF lo ev pz sa wE listed x w) (hr : 38 ∈ Region.ready .any nsOps listed) : wpOp Tryd.prog nsOps Q 38 (fun a' w' => NsI lo ev pz sa wE (listed.setIfInBounds 38 true) a' w') (nsA x) w := by
  obtain ⟨h1, o, ho, hall⟩ := mem_ready.1 hr
  have hoi : nsOps[38]? = some ({ dst := none, op := Op.insert 60 (Operand.tmp 6) (Operand.const (Value.string { data := #[98, 121, 116, 101, 115] })) (Operand.tmp 30), type := 0, pos := "l14_console.go:68", after := #[{ on := 1, ground := Ground.data }, { on := 37, ground := Ground.data }], guard := none }) := by unfold nsOps; simp only [List.getElem?_toArray, List.getElem?_cons_succ, List.getElem?_cons_zero]
  rw [hoi] at ho
  cases ho
  obtain ⟨m, o, e6, hup, hF2⟩ := hF.ins 38 12 30 (by decide) h1 (hall ⟨1, .data⟩ (by simp) rfl) ⟨(37, 30, 12), by decide, rfl, (hall ⟨37, .data⟩ (by simp) rfl)⟩
  refine wpOp_step hoi (fun K hK => ?_)
  rw [if_pos (by rfl)]
  have hup2 : (Instr.mapUpdate 60 (.map (some m)) (.string ⟨#[98, 121, 116, 101, 115]⟩) (x 30)).run Tryd.prog w = .ok () (setBlock w m o) := hup
  unfold nsA
  rw [e6]
  go_simp
  refine hK _ _ ⟨x, ?_, hF2⟩
  rw [← e6]
  rfl

set_option maxRecDepth 100000 in
theorem ns_39 (hF : NsF lo ev pz sa wE listed x w) (hr : 39 ∈ Region.ready .any nsOps listed) : wpOp Tryd.prog nsOps Q 39 (fun a' w' => NsI lo ev pz sa wE (listed.setIfInBounds 39 true) a' w') (nsA x) w := by
  obtain ⟨h1, o, ho, hall⟩ := mem_ready.1 hr
  have hoi : nsOps[39]? = some ({ dst := some 31, op := Op.move (Operand.tmp 6), type := 60, pos := "l14_console.go:68", after := #[{ on := 1, ground := Ground.data }, { on := 2, ground := Ground.data }, { on := 3, ground := Ground.data }, { on := 4, ground := Ground.data }, { on := 5, ground := Ground.data }, { on := 6, ground := Ground.data }, { on := 7, ground := Ground.data }, { on := 8, ground := Ground.data }, { on := 9, ground := Ground.data }, { on := 10, ground := Ground.data }, { on := 11, ground := Ground.data }, { on := 12, ground := Ground.data }, { on := 13, ground := Ground.data }, { on := 14, ground := Ground.data }, { on := 15, ground := Ground.data }, { on := 16, ground := Ground.data }, { on := 17, ground := Ground.data }, { on := 18, ground := Ground.data }, { on := 19, ground := Ground.data }, { on := 20, ground := Ground.data }, { on := 21, ground := Ground.data }, { on := 22, ground := Ground.data }, { on := 23, ground := Ground.data }, { on := 24, ground := Ground.data }, { on := 25, ground := Ground.data }, { on := 26, ground := Ground.data }, { on := 27, ground := Ground.data }, { on := 28, ground := Ground.data }, { on := 29, ground := Ground.data }, { on := 30, ground := Ground.data }, { on := 31, ground := Ground.data }, { on := 32, ground := Ground.data }, { on := 33, ground := Ground.data }, { on := 34, ground := Ground.data }, { on := 35, ground := Ground.data }, { on := 36, ground := Ground.data }, { on := 37, ground := Ground.data }, { on := 38, ground := Ground.data }], guard := none }) := by unfold nsOps; simp only [List.getElem?_toArray, List.getElem?_cons_succ, List.getElem?_cons_zero]
  rw [hoi] at ho
  cases ho
  exact YieldsP hoi rfl (v := x 6) (by unfold nsA; rfl) ⟨upd x 31 (x 6), rfl, hF.moved (hall ⟨1, .data⟩ (by simp) rfl)⟩

set_option maxRecDepth 100000 in
theorem ns_40 (hF : NsF lo ev pz sa wE listed x w) (hr : 40 ∈ Region.ready .any nsOps listed) : wpOp Tryd.prog nsOps Q 40 (fun a' w' => NsI lo ev pz sa wE (listed.setIfInBounds 40 true) a' w') (nsA x) w := by
  obtain ⟨h1, o, ho, hall⟩ := mem_ready.1 hr
  have hoi : nsOps[40]? = some ({ dst := some 32, op := Op.nilCheck (Operand.tmp 5), type := 0, pos := "l14_console.go:68", after := #[{ on := 0, ground := Ground.data }, { on := 0, ground := Ground.phase }, { on := 1, ground := Ground.phase }, { on := 2, ground := Ground.phase }, { on := 3, ground := Ground.phase }, { on := 4, ground := Ground.phase }, { on := 5, ground := Ground.phase }, { on := 6, ground := Ground.phase }, { on := 7, ground := Ground.phase }, { on := 8, ground := Ground.phase }, { on := 9, ground := Ground.phase }, { on := 10, ground := Ground.phase }, { on := 11, ground := Ground.phase }, { on := 12, ground := Ground.phase }, { on := 13, ground := Ground.phase }, { on := 14, ground := Ground.phase }, { on := 15, ground := Ground.phase }, { on := 16, ground := Ground.phase }, { on := 17, ground := Ground.phase }, { on := 18, ground := Ground.phase }, { on := 19, ground := Ground.phase }, { on := 20, ground := Ground.phase }, { on := 21, ground := Ground.phase }, { on := 22, ground := Ground.phase }, { on := 23, ground := Ground.phase }, { on := 24, ground := Ground.phase }, { on := 25, ground := Ground.phase }, { on := 26, ground := Ground.phase }, { on := 27, ground := Ground.phase }, { on := 28, ground := Ground.phase }, { on := 29, ground := Ground.phase }, { on := 30, ground := Ground.phase }, { on := 31, ground := Ground.phase }, { on := 32, ground := Ground.phase }, { on := 33, ground := Ground.phase }, { on := 34, ground := Ground.phase }, { on := 35, ground := Ground.phase }, { on := 36, ground := Ground.phase }, { on := 37, ground := Ground.phase }, { on := 38, ground := Ground.phase }, { on := 39, ground := Ground.phase }], guard := none }) := by unfold nsOps; simp only [List.getElem?_toArray, List.getElem?_cons_succ, List.getElem?_cons_zero]
  rw [hoi] at ho
  cases ho
  have e := hF.ld (0, 5) (by decide) (hall ⟨0, .data⟩ (by simp) rfl)
  simp only [] at e
  refine YieldsP hoi rfl (v := .pointer (some ⟨sa, 0, none⟩)) ?_ ⟨upd x 32 (.pointer (some ⟨sa, 0, none⟩)), rfl, hF.step 40 32 _ (by decide) (by decide) (Below.refl _ _) (by decide) (fun h => absurd h (by decide)) (by decide) (fun p hp e => absurd (show (nsMk.any fun p => p.1 == 40) = true from List.any_eq_true.2 ⟨p, hp, by simp [e]⟩) (by decide)) (by decide) (by decide) (by decide) (fun _ => rfl) (by decide) (fun h => absurd h (by decide))⟩
  unfold nsA
  rw [e]
  go_simp <;> with_reducible rfl

set_option maxRecDepth 100000 in
theorem ns_41 (hF : NsF lo ev pz sa wE listed x w) (hr : 41 ∈ Region.ready .any nsOps listed) : wpOp Tryd.prog nsOps Q 41 (fun a' w' => NsI lo ev pz sa wE (listed.setIfInBounds 41 true) a' w') (nsA x) w := by
  obtain ⟨h1, o, ho, hall⟩ := mem_ready.1 hr
  have hoi : nsOps[41]? = some ({ dst := some 33, op := Op.fieldAddr 62 (Operand.tmp 32) 2, type := 0, pos := "l14_console.go:68", after := #[{ on := 40, ground := Ground.data }, { on := 0, ground := Ground.phase }, { on := 1, ground := Ground.phase }, { on := 2, ground := Ground.phase }, { on := 3, ground := Ground.phase }, { on := 4, ground := Ground.phase }, { on := 5, ground := Ground.phase }, { on := 6, ground := Ground.phase }, { on := 7, ground := Ground.phase }, { on := 8, ground := Ground.phase }, { on := 9, ground := Ground.phase }, { on := 10, ground := Ground.phase }, { on := 11, ground := Ground.phase }, { on := 12, ground := Ground.phase }, { on := 13, ground := Ground.phase }, { on := 14, ground := Ground.phase }, { on := 15, ground := Ground.phase }, { on := 16, ground := Ground.phase }, { on := 17, ground := Ground.phase }, { on := 18, ground := Ground.phase }, { on := 19, ground := Ground.phase }, { on := 20, ground := Ground.phase }, { on := 21, ground := Ground.phase }, { on := 22, ground := Ground.phase }, { on := 23, ground := Ground.phase }, { on := 24, ground := Ground.phase }, { on := 25, ground := Ground.phase }, { on := 26, ground := Ground.phase }, { on := 27, ground := Ground.phase }, { on := 28, ground := Ground.phase }, { on := 29, ground := Ground.phase }, { on := 30, ground := Ground.phase }, { on := 31, ground := Ground.phase }, { on := 32, ground := Ground.phase }, { on := 33, ground := Ground.phase }, { on := 34, ground := Ground.phase }, { on := 35, ground := Ground.phase }, { on := 36, ground := Ground.phase }, { on := 37, ground := Ground.phase }, { on := 38, ground := Ground.phase }, { on := 39, ground := Ground.phase }], guard := none }) := by unfold nsOps; simp only [List.getElem?_toArray, List.getElem?_cons_succ, List.getElem?_cons_zero]
  rw [hoi] at ho
  cases ho
  have e := hF.nc (hall ⟨40, .data⟩ (by simp) rfl)
  refine YieldsP hoi rfl (v := .pointer (some ⟨sa, 4, none⟩)) ?_ ⟨upd x 33 (.pointer (some ⟨sa, 4, none⟩)), rfl, hF.step 41 33 _ (by decide) (by decide) (Below.refl _ _) (by decide) (fun h => absurd h (by decide)) (by decide) (fun p hp e => absurd (show (nsMk.any fun p => p.1 == 41) = true from List.any_eq_true.2 ⟨p, hp, by simp [e]⟩) (by decide)) (by decide) (by decide) (by decide) (fun h => absurd h (by decide)) (by decide) (fun _ => rfl)⟩
  unfold nsA
  rw [e]
  go_simp <;> with_reducible rfl

set_option maxRecDepth 100000 in
theorem ns_42 (hF : NsF lo ev pz sa wE listed x w) (hr : 42 ∈ Region.ready .any nsOps listed) : wpOp Tryd.prog nsOps Q 42 (fun a' w' => NsI lo ev pz sa wE (listed.setIfInBounds 42 true) a' w') (nsA x) w := by
  obtain ⟨h1, o, ho, hall⟩ := mem_ready.1 hr
  have hoi : nsOps[42]? = some ({ dst := none, op := Op.store 60 (Operand.tmp 33) (Operand.tmp 31), type := 0, pos := "l14_console.go:68", after := #[{ on := 41, ground := Ground.data }, { on := 39, ground := Ground.data }, { on := 37, ground := Ground.chain }, { on := 0, ground := Ground.phase }, { on := 1, ground := Ground.phase }, { on := 2, ground := Ground.phase }, { on := 3, ground := Ground.phase }, { on := 4, ground := Ground.phase }, { on := 5, ground := Ground.phase }, { on := 6, ground := Ground.phase }, { on := 7, ground := Ground.phase }, { on := 8, ground := Ground.phase }, { on := 9, ground := Ground.phase }, { on := 10, ground := Ground.phase }, { on := 11, ground := Ground.phase }, { on := 12, ground := Ground.phase }, { on := 13, ground := Ground.phase }, { on := 14, ground := Ground.phase }, { on := 15, ground := Ground.phase }, { on := 16, ground := Ground.phase }, { on := 17, ground := Ground.phase }, { on := 18, ground := Ground.phase }, { on := 19, ground := Ground.phase }, { on := 20, ground := Ground.phase }, { on := 21, ground := Ground.phase }, { on := 22, ground := Ground.phase }, { on := 23, ground := Ground.phase }, { on := 24, ground := Ground.phase }, { on := 25, ground := Ground.phase }, { on := 26, ground := Ground.phase }, { on := 27, ground := Ground.phase }, { on := 28, ground := Ground.phase }, { on := 29, ground := Ground.phase }, { on := 30, ground := Ground.phase }, { on := 31, ground := Ground.phase }, { on := 32, ground := Ground.phase }, { on := 33, ground := Ground.phase }, { on := 34, ground := Ground.phase }, { on := 35, ground := Ground.phase }, { on := 36, ground := Ground.phase }, { on := 37, ground := Ground.phase }, { on := 38, ground := Ground.phase }, { on := 39, ground := Ground.phase }], guard := none }) := by unfold nsOps; simp only [List.getElem?_toArray, List.getElem?_cons_succ, List.getElem?_cons_zero]
  rw [hoi] at ho
  cases ho
  have e1 := hF.fa (hall ⟨41, .data⟩ (by simp) rfl)
  have e2 := hF.mv (hall ⟨39, .data⟩ (by simp) rfl)
  obtain ⟨m, e6, hF2⟩ := hF.stored h1 (hall ⟨1, .phase⟩ (by simp) rfl)
  rw [e6] at e2
  have hsc := hF.sc (un_f h1)
  have c := cells_at hsc 4
  have fz := frozen_at hsc
  simp at c
  refine wpOp_step hoi (fun K hK => ?_)
  rw [if_pos (by rfl)]
  unfold nsA
  rw [e1, e2]
  go_simp
  refine hK _ _ ⟨x, ?_, hF2⟩
  unfold nsA
  rw [e1, e2, e6]

theorem ns_step (i : Nat) (listed : Array Bool) (a : Act) (w : World) (h : NsI lo ev pz sa wE listed a w) (hr : i ∈ Region.ready .any nsOps listed) : wpOp Tryd.prog nsOps Q i (fun a' w' => NsI lo ev pz sa wE (listed.setIfInBounds i true) a' w') a w := by
  obtain ⟨x, rfl, hF⟩ := h
  have hi : i < 43 := by
    obtain ⟨_, o, ho, _⟩ := mem_ready.1 hr
    exact (Array.getElem?_eq_some_iff.1 ho).1
  rcases (by omega : i = 0 ∨ i = 1 ∨ i = 2 ∨ i = 3 ∨ i = 4 ∨ i = 5 ∨ i = 6 ∨ i = 7 ∨ i = 8 ∨ i = 9 ∨ i = 10 ∨ i = 11 ∨ i = 12 ∨ i = 13 ∨ i = 14 ∨ i = 15 ∨ i = 16 ∨ i = 17 ∨ i = 18 ∨ i = 19 ∨ i = 20 ∨ i = 21 ∨ i = 22 ∨ i = 23 ∨ i = 24 ∨ i = 25 ∨ i = 26 ∨ i = 27 ∨ i = 28 ∨ i = 29 ∨ i = 30 ∨ i = 31 ∨ i = 32 ∨ i = 33 ∨ i = 34 ∨ i = 35 ∨ i = 36 ∨ i = 37 ∨ i = 38 ∨ i = 39 ∨ i = 40 ∨ i = 41 ∨ i = 42) with rfl | rfl | rfl | rfl | rfl | rfl | rfl | rfl | rfl | rfl | rfl | rfl | rfl | rfl | rfl | rfl | rfl | rfl | rfl | rfl | rfl | rfl | rfl | rfl | rfl | rfl | rfl | rfl | rfl | rfl | rfl | rfl | rfl | rfl | rfl | rfl | rfl | rfl | rfl | rfl | rfl | rfl | rfl
  · exact ns_0 hF hr
  · exact ns_1 hF hr
  · exact ns_2 hF hr
  · exact ns_3 hF hr
  · exact ns_4 hF hr
  · exact ns_5 hF hr
  · exact ns_6 hF hr
  · exact ns_7 hF hr
  · exact ns_8 hF hr
  · exact ns_9 hF hr
  · exact ns_10 hF hr
  · exact ns_11 hF hr
  · exact ns_12 hF hr
  · exact ns_13 hF hr
  · exact ns_14 hF hr
  · exact ns_15 hF hr
  · exact ns_16 hF hr
  · exact ns_17 hF hr
  · exact ns_18 hF hr
  · exact ns_19 hF hr
  · exact ns_20 hF hr
  · exact ns_21 hF hr
  · exact ns_22 hF hr
  · exact ns_23 hF hr
  · exact ns_24 hF hr
  · exact ns_25 hF hr
  · exact ns_26 hF hr
  · exact ns_27 hF hr
  · exact ns_28 hF hr
  · exact ns_29 hF hr
  · exact ns_30 hF hr
  · exact ns_31 hF hr
  · exact ns_32 hF hr
  · exact ns_33 hF hr
  · exact ns_34 hF hr
  · exact ns_35 hF hr
  · exact ns_36 hF hr
  · exact ns_37 hF hr
  · exact ns_38 hF hr
  · exact ns_39 hF hr
  · exact ns_40 hF hr
  · exact ns_41 hF hr
  · exact ns_42 hF hr

theorem ns_ord : ∀ i o, nsOps[i]? = some o → ∀ e ∈ o.after, Region.binds .any e = true → e.on < i := by
  have h : ((List.range 43).all fun i => (nsOps[i]?).all fun o => o.after.toList.all fun e => decide (e.on < i)) = true := by decide
  intro i o ho e he _
  have hi : i < 43 := (Array.getElem?_eq_some_iff.1 ho).1
  have h2 := List.all_eq_true.1 h i (List.mem_range.2 hi)
  rw [ho] at h2
  have h3 := List.all_eq_true.1 h2 e (by simpa using he)
  simpa using h3
end
end Go.Proofs.YtpiookjdeopmgaaDoor
