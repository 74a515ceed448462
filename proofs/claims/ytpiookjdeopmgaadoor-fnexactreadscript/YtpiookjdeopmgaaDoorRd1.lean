/-
  The plain mathematics of numbers in bytes and figures; small laws on rows of bytes that a call makes.
  Contracts of the library, laid at this program: strings_Fields, stringslite_Clone, strings_HasPrefix.
  What every walk of this seat imports; the element type's row of the table.
  The plain mathematics of decimal figures.
  The plain mathematics of reading hex figures.
-/
import Derived.Shelf.Strconv.Clone
import Derived.Shelf.Strings.Prefix
import Derived.Shelf.Strings.FieldsAny
import Derived.Test.YtpiookjdeopmgaaDoorRows
import Derived.WalkSpells
import Derived.WalkLawsBesides
namespace Go.Proofs.YtpiookjdeopmgaaDoor
open Go.RowKit

theorem hide {p : Prop} (h : p) : Hid p := h

def bs (l : List UInt8) : ByteArray := ⟨l.toArray⟩

def cellsOf (l : List UInt8) : List Value := l.map fun b => Value.int .u8 (b.toNat : Int)

theorem cellsOf_length (l : List UInt8) : (cellsOf l).length = l.length := by simp [cellsOf]

theorem cellsOf_append (a b : List UInt8) : cellsOf (a ++ b) = cellsOf a ++ cellsOf b := by simp [cellsOf]

/-- 'string(out)' of a row that the call itself made, its cells the bytes l. -/
theorem run_str_own {P : Program} {w : World} {base : Nat} {v : Value} {l : List UInt8} {n : Nat} (src dst e : TypeId) (hs : P.underlying src = some (.slice e)) (he : P.underlying e = some (.int .u8)) (hd : P.underlying dst = some .string)
    (hown : w.ownsRow base e 1 v n (cellsOf l)) : (convert src dst v).run P w = .ok (.string (bs l)) w := by
  have hl : l.length = n := by have := hown.1; simpa [cellsOf_length] using this
  subst hl
  rcases hown.2 with ⟨rfl, hn⟩ | ⟨g, cap, cur, rfl, hb, hg, hnc, hcm, hcs, htk⟩
  · have : l = [] := List.length_eq_zero_iff.1 hn
    subst this
    rw [run_convert_bytes_string w src dst e none 0 0 hs he hd]
    simp [Conv.bytesToString, bs, Sem.run_pure]
    rfl
  · exact run_convert_bytes_back w src dst e ⟨g, 0, none⟩ cap l hs he hd (fun j hj => by
      have := hown.cellAt j (by omega)
      have e1 : (⟨g, 0, none⟩ : Addr).add j = ⟨g, j, none⟩ := by
        simp only [Addr.add, Nat.zero_add]
        split <;> simp_all
      rw [e1, this]
      simp [cellsOf, List.getElem?_eq_getElem hj])

/-- 'append(out, b1, ..)' of bytes, out a row that the call itself made. -/
theorem wpList_append_bytes {P : Program} (w : World) {ops : Array Oper} {rest : List Oper} {o : Oper} {a : Act} {Q : Exit → Act → World → Prop} (hgd : o.guard = none) (s x : Operand) (t : TypeId)
    (ho : o.op = .call { callee := .builtin .append, args := #[s, x], argTypes := #[t, t] }) (base : Nat) (e : TypeId) (ht : P.underlying t = some (.slice e))
    (hinfo : (P.info? e).map (fun i => (i.zero, i.size, i.bytes)) = some (some (.int .u8 0), 1, 1))
    (v : Value) (l nb : List UInt8) (hs : a.eval s = v) (hown : w.ownsRow base e 1 v l.length (cellsOf l))
    (ad : Addr) (c : Nat) (hx : a.eval x = .slice (some ad) nb.length c) (hnews : ∀ j (h : j < nb.length), w.cell? (ad.add j) = some (.int .u8 (nb[j].toNat : Int)))
    (hlen : l.length + nb.length ≤ 100000000000) (hbase : base ≤ w.heap.size)
    (h : ∀ v' w' l', Hid (l' = l ++ nb) → w'.ownsRow base e 1 v' l'.length (cellsOf l') → w.grownBy w' v.ownBlock → wpList P ops Q rest (a.put o.dst v') w') : wpList P ops Q (o :: rest) a w := by
  obtain ⟨i0, hi, hz0, hz1, hz2⟩ := info_parts hinfo
  refine wpList_append_own w hgd s x t ho base e i0 (.int .u8 0) 1 1 ht hi hz0 hz1 hz2 rfl (by decide) v l.length (cellsOf l) hs hown ad nb.length c (cellsOf nb) hx (by simp [cellsOf]) ?_ ?_ (by unfold maxLen; omega) (by omega) hbase ?_
  · intro j u hj
    have hj' : j < nb.length := by have := (List.getElem?_eq_some_iff.1 hj).1; simpa [cellsOf] using this
    rw [hnews j hj']
    simpa [cellsOf, List.getElem?_eq_getElem hj'] using hj
  · intro u hu
    simp only [cellsOf, List.mem_map] at hu
    obtain ⟨b, _, rfl⟩ := hu
    rfl
  · intro v' w' h1 h2 _
    rw [← cellsOf_append, ← List.length_append] at h1
    exact h v' w' _ rfl h1 h2

theorem add_zero' (b o : Nat) : (⟨b, o, none⟩ : Addr).add 0 = ⟨b, o, none⟩ := rfl

/-- the one new cell of 'append(out, x)' -/
theorem news_one {w : World} (y : Int) (b : UInt8) (t : TypeId) (h : y = (b.toNat : Int)) : ∀ j (_ : j < [b].length), (w.alloc (.cells #[.int .u8 y] t)).cell? ((⟨w.heap.size, 0, none⟩ : Addr).add j) = some (.int .u8 ([b][j].toNat : Int)) := by
  intro j hj
  have : j = 0 := by simpa using hj
  subst this
  rw [add_zero', World.cell?_alloc_at _ _ _ _ rfl, h]
  rfl

theorem wrap_fit (x : Int) (h0 : -1000000000000000000 ≤ x) (h1 : x ≤ 1000000000000000000) : IntKind.i64.wrap x = x := by
  simp only [IntKind.wrap, IntKind.signed, IntKind.bits]
  simp
  omega

theorem idx_str {P : Program} {t : TypeId} (hu : P.underlying t = some .string) (s : ByteArray) (q c : Nat) (hq : q < s.size) (hc : c = s[q].toNat) (w : World) :
    (Instr.index t (.string s) (.int .i64 (q : Int))).run P w = .ok (.int .u8 (c : Int)) w := by
  rw [hc]; simp [go_sem, hq, hu]

theorem sl_str {P : Program} {t : TypeId} (hu : P.underlying t = some .string) (s u : ByteArray) (i j : Int) (h0 : 0 ≤ i) (h1 : i ≤ j) (h2 : j ≤ s.size) (he : u = s.extract i.toNat j.toNat) (w : World) :
    (Instr.slice t (.string s) (some (.int .i64 i)) (some (.int .i64 j)) none).run P w = .ok (.string u) w := by
  rw [he, run_slice_string w t s .i64 .i64 i j hu h0 h1 h2]

/-- what an append leaves of old memory -/
theorem below_append {B : Nat} {w0 w w' : World} {v : Value} {base : Nat} {e : TypeId} {n : Nat} {xs : List Value} (o : Obj) (h : Below B w0 w) (hown : w.ownsRow base e 1 v n xs) (hB : B ≤ base) (hBw : B ≤ w.heap.size) (hg : (w.alloc o).grownBy w' v.ownBlock) : Below B w0 w' :=
  (h.alloc hBw o).grown hg (by simp; omega) (fun k hk => Nat.le_trans hB (hown.lt k hk).1)

def fig (x : Int) : UInt8 := if x < 10 then UInt8.ofNat (48 + x.toNat) else UInt8.ofNat (87 + x.toNat)

theorem fig_lo (x : Int) (h0 : 0 ≤ x) (h : x < 10) : (48 : Int) + x = ((fig x).toNat : Int) := by simp [fig, h]; omega

theorem fig_hi (x : Int) (h0 : 10 ≤ x) (h : x < 16) : (97 : Int) + x - 10 = ((fig x).toNat : Int) := by
  have : ¬ x < 10 := by omega
  simp [fig, this]; omega

theorem ret_int {k : IntKind} {a b : Int} (h : a = b) : Ending.returned (.int k a) = .returned (.int k b) := by rw [h]
end Go.Proofs.YtpiookjdeopmgaaDoor
namespace Go.Proofs
open Go.Shelf
def Tryd.lays157_ren : Go.Shelf.Ren := ⟨fun | 157 => 97 | 229 => 111 | 199 => 112 | 261 => 121 | 311 => 129 | 312 => 130 | n => n, fun | 9 => 9 | 31 => 43 | 3 => 3 | 5 => 5 | 4 => 4 | 119 => 134 | 0 => 0 | 40 => 136 | 152 => 144 | 21 => 21 | 154 => 146 | 51 => 147 | 141 => 149 | 196 => 159 | 193 => 156 | 198 => 162 | 49 => 160 | 194 => 157 | 201 => 165 | 226 => 169 | 46 => 130 | 227 => 170 | n => n, fun | 0 => 0 | 6 => 2 | n => n⟩
theorem Tryd.lays157 : Go.Proofs.Lays.n157 Tryd.prog Tryd.lays157_ren := {
  mixed := by kernel_rfl
  f157 := Tryd.func97.trans (congrArg some (by kernel_rfl))
  f199 := Tryd.func112.trans (congrArg some (by kernel_rfl))
  f229 := Tryd.func111.trans (congrArg some (by kernel_rfl))
  f261 := Tryd.func121.trans (congrArg some (by kernel_rfl))
  f311 := Tryd.func129.trans (congrArg some (by kernel_rfl))
  f312 := Tryd.func130.trans (congrArg some (by kernel_rfl))
  t0 := Tryd.underlying0
  a0 := Tryd.isAgg0
  z0 := Tryd.sizeOf0
  v0 := Tryd.zeroValue0
  t3 := Tryd.underlying3
  a3 := Tryd.isAgg3
  z3 := Tryd.sizeOf3
  v3 := Tryd.zeroValue3
  t4 := Tryd.underlying4
  a4 := Tryd.isAgg4
  z4 := Tryd.sizeOf4
  v4 := Tryd.zeroValue4
  t5 := Tryd.underlying5
  a5 := Tryd.isAgg5
  z5 := Tryd.sizeOf5
  v5 := Tryd.zeroValue5
  t9 := Tryd.underlying9
  a9 := Tryd.isAgg9
  z9 := Tryd.sizeOf9
  v9 := Tryd.zeroValue9
  t21 := Tryd.underlying21
  a21 := Tryd.isAgg21
  z21 := Tryd.sizeOf21
  v21 := Tryd.zeroValue21
  t31 := Tryd.underlying43
  a31 := Tryd.isAgg43
  z31 := Tryd.sizeOf43
  v31 := Tryd.zeroValue43
  t40 := Tryd.underlying136
  a40 := Tryd.isAgg136
  z40 := Tryd.sizeOf136
  v40 := Tryd.zeroValue136
  t46 := Tryd.underlying130
  a46 := Tryd.isAgg130
  z46 := Tryd.sizeOf130
  v46 := Tryd.zeroValue130
  t49 := Tryd.underlying160
  a49 := Tryd.isAgg160
  z49 := Tryd.sizeOf160
  v49 := Tryd.zeroValue160
  t51 := Tryd.underlying147
  a51 := Tryd.isAgg147
  z51 := Tryd.sizeOf147
  v51 := Tryd.zeroValue147
  t119 := Tryd.underlying134
  a119 := Tryd.isAgg134
  z119 := Tryd.sizeOf134
  t141 := Tryd.underlying149
  a141 := Tryd.isAgg149
  z141 := Tryd.sizeOf149
  v141 := Tryd.zeroValue149
  t152 := Tryd.underlying144
  a152 := Tryd.isAgg144
  z152 := Tryd.sizeOf144
  v152 := Tryd.zeroValue144
  t154 := Tryd.underlying146
  a154 := Tryd.isAgg146
  z154 := Tryd.sizeOf146
  v154 := Tryd.zeroValue146
  t193 := Tryd.underlying156
  a193 := Tryd.isAgg156
  z193 := Tryd.sizeOf156
  v193 := Tryd.zeroValue156
  t194 := Tryd.underlying157
  a194 := Tryd.isAgg157
  z194 := Tryd.sizeOf157
  v194 := Tryd.zeroValue157
  t196 := Tryd.underlying159
  a196 := Tryd.isAgg159
  z196 := Tryd.sizeOf159
  v196 := Tryd.zeroValue159
  t198 := Tryd.underlying162
  a198 := Tryd.isAgg162
  z198 := Tryd.sizeOf162
  v198 := Tryd.zeroValue162
  t201 := Tryd.underlying165
  a201 := Tryd.isAgg165
  z201 := Tryd.sizeOf165
  v201 := Tryd.zeroValue165
  t226 := Tryd.underlying169
  a226 := Tryd.isAgg169
  z226 := Tryd.sizeOf169
  v226 := Tryd.zeroValue169
  t227 := Tryd.underlying170
  a227 := Tryd.isAgg170
  z227 := Tryd.sizeOf170
  v227 := Tryd.zeroValue170
  g0 := by kernel_rfl
  g6 := by kernel_rfl }
open Go.RowKit Go.Lib in
theorem Tryd.strings_Fields (s : ByteArray) (w : World) (hs : s.size < 4294967281) (hascii : ∀ (j : Nat) b, s.data.toList[j]? = some b → b.toNat < 128) (htab : Lib.TabIs Tryd.prog w "strings.asciiSpace" .u8 Lib.asciiSpaceTab) :
    Calls Tryd.prog 97 #[.string s] w fun e w' =>
      e = .returned (.slice (some ⟨w.heap.size, 0, none⟩) (Lib.fields s.data.toList).length (Lib.fields s.data.toList).length) ∧ w' = w.alloc (.cells ((Lib.fields s.data.toList).map fun l => Value.string ⟨l.toArray⟩).toArray 9) := Any.strings_Fields Tryd.lays157 (by kernel_rfl) (by kernel_rfl) s w hs hascii htab
def Tryd.laysM316_ren : Go.Shelf.Ren := ⟨fun | 316 => 113 | n => n, fun | 9 => 9 | 3 => 3 | 4 => 4 | 37 => 95 | 0 => 0 | 127 => 114 | 5 => 5 | n => n, fun | n => n⟩
theorem Tryd.laysM316 : Go.Proofs.LaysM.n316 Tryd.prog Tryd.laysM316_ren := {
  mixed := by kernel_rfl
  f316 := Tryd.func113.trans (congrArg some (by kernel_rfl))
  t0 := Tryd.underlying0
  a0 := Tryd.isAgg0
  z0 := Tryd.sizeOf0
  v0 := Tryd.zeroValue0
  t3 := Tryd.underlying3
  a3 := Tryd.isAgg3
  z3 := Tryd.sizeOf3
  v3 := Tryd.zeroValue3
  t4 := Tryd.underlying4
  a4 := Tryd.isAgg4
  z4 := Tryd.sizeOf4
  v4 := Tryd.zeroValue4
  t9 := Tryd.underlying9
  a9 := Tryd.isAgg9
  z9 := Tryd.sizeOf9
  v9 := Tryd.zeroValue9
  t37 := Tryd.underlying95
  a37 := Tryd.isAgg95
  z37 := Tryd.sizeOf95
  v37 := Tryd.zeroValue95
  t127 := Tryd.underlying114
  a127 := Tryd.isAgg114
  z127 := Tryd.sizeOf114
  v127 := Tryd.zeroValue114
  t5 := Tryd.underlying5
  a5 := Tryd.isAgg5
  z5 := Tryd.sizeOf5
  v5 := Tryd.zeroValue5
  i0 := by kernel_rfl
  i3 := by kernel_rfl
  i4 := by kernel_rfl
  i5 := by kernel_rfl
  i9 := by kernel_rfl
  i37 := by kernel_rfl
  i127 := by kernel_rfl }
open Go.RowKit in
theorem Tryd.stringslite_Clone (s : ByteArray) (w : World) (hlim : s.size ≤ 281474976710656) :
    Calls Tryd.prog 113 #[.string s] w fun e w' => e = .returned (.string s) ∧ Below w.heap.size w w' := Any.stringslite_Clone Tryd.laysM316 s w hlim
def Tryd.lays99_ren : Go.Shelf.Ren := ⟨fun | 99 => 83 | 206 => 99 | n => n, fun | 9 => 9 | 4 => 4 | 3 => 3 | n => n, fun | n => n⟩
theorem Tryd.lays99 : Go.Proofs.Lays.n99 Tryd.prog Tryd.lays99_ren := {
  mixed := by kernel_rfl
  f99 := Tryd.func83.trans (congrArg some (by kernel_rfl))
  f206 := Tryd.func99.trans (congrArg some (by kernel_rfl))
  t3 := Tryd.underlying3
  a3 := Tryd.isAgg3
  z3 := Tryd.sizeOf3
  v3 := Tryd.zeroValue3
  t4 := Tryd.underlying4
  a4 := Tryd.isAgg4
  z4 := Tryd.sizeOf4
  v4 := Tryd.zeroValue4
  t9 := Tryd.underlying9
  a9 := Tryd.isAgg9
  z9 := Tryd.sizeOf9
  v9 := Tryd.zeroValue9 }
open Go.RowKit Go.Lib in
theorem Tryd.strings_HasPrefix (s p : ByteArray) (w : World) :
    Calls Tryd.prog 83 #[.string s, .string p] w fun e w' => e = .returned (.bool (Lib.hasPrefix s.data.toList p.data.toList)) ∧ w' = w := Any.strings_HasPrefix Tryd.lays99 s p w
end Go.Proofs
namespace Go.Proofs.YtpiookjdeopmgaaDoor
open Go.RowKit

theorem Tryd.info5 : (Tryd.prog.info? 5).map (fun i => (i.zero, i.size, i.bytes)) = some (some (.int .u8 0), 1, 1) := by kernel_rfl
end Go.Proofs.YtpiookjdeopmgaaDoor
namespace Go.Proofs.YtpiookjdeopmgaaDoor
open Go.RowKit

def digB (n : Nat) : UInt8 := UInt8.ofNat (48 + n % 10)
def decN (n : Nat) : List UInt8 := if _h : 0 < n then decN (n / 10) ++ [digB n] else []
def decS (n : Nat) : List UInt8 := if n = 0 then [48] else decN n

theorem decN_pos {n : Nat} (h : 0 < n) : decN n = decN (n / 10) ++ [digB n] := by rw [decN]; simp [h]
theorem decN_zero : decN 0 = [] := by rw [decN]; simp

theorem decN_head (n : Nat) (h : 0 < n) : ∃ c t, decN n = c :: t ∧ c ≠ 48 := by
  induction n using Nat.strongRecOn with
  | _ n ih =>
    rw [decN_pos h]
    by_cases h2 : 0 < n / 10
    · obtain ⟨c, t, e, hc⟩ := ih (n / 10) (by omega) h2
      exact ⟨c, t ++ [digB n], by rw [e]; simp, hc⟩
    · have e : n / 10 = 0 := by omega
      rw [e, decN_zero]
      refine ⟨digB n, [], rfl, fun hh => ?_⟩
      have := congrArg UInt8.toNat hh
      simp [digB] at this
      omega

def val10 : List UInt8 → Nat → Nat
  | [], a => a
  | c :: r, a => val10 r (10 * a + (c.toNat - 48))
def valD (l : List UInt8) : Nat := val10 l 0
def isD (c : UInt8) : Bool := decide (48 ≤ c.toNat) && decide (c.toNat ≤ 57)
def allD (l : List UInt8) : Bool := l.all isD

theorem val10_snoc : ∀ (l : List UInt8) (c : UInt8) (a : Nat), val10 (l ++ [c]) a = 10 * val10 l a + (c.toNat - 48)
  | [], _, _ => rfl
  | b :: r, c, a => by simp only [List.cons_append, val10]; exact val10_snoc r c _
theorem valD_snoc (l : List UInt8) (c : UInt8) : valD (l ++ [c]) = 10 * valD l + (c.toNat - 48) := val10_snoc l c 0
theorem val10_ge : ∀ (l : List UInt8) (a : Nat), a ≤ val10 l a
  | [], _ => Nat.le_refl _
  | c :: r, a => by have := val10_ge r (10 * a + (c.toNat - 48)); simp only [val10]; omega
theorem val10_append : ∀ (l r : List UInt8) (a : Nat), val10 (l ++ r) a = val10 r (val10 l a)
  | [], _, _ => rfl
  | b :: l, r, a => by simp only [List.cons_append, val10]; exact val10_append l r _
theorem valD_ge (l r : List UInt8) : valD l ≤ valD (l ++ r) := by unfold valD; rw [val10_append]; exact val10_ge _ _
theorem allD_snoc (l : List UInt8) (c : UInt8) : allD (l ++ [c]) = (allD l && isD c) := by simp [allD]
theorem allD_append (l r : List UInt8) : allD (l ++ r) = (allD l && allD r) := by simp [allD]

theorem val10_big : ∀ (l : List UInt8) (a : Nat), a * 10 ^ l.length ≤ val10 l a
  | [], a => by simp [val10]
  | c :: r, a => by
    have h := val10_big r (10 * a + (c.toNat - 48))
    simp only [val10, List.length_cons, Nat.pow_succ]
    refine Nat.le_trans ?_ h
    have : a * (10 ^ r.length * 10) = (10 * a) * 10 ^ r.length := by rw [Nat.mul_comm (10 ^ r.length) 10, ← Nat.mul_assoc, Nat.mul_comm a 10]
    rw [this]
    exact Nat.mul_le_mul_right _ (by omega)

theorem dec_val (h : UInt8) (h1 : 49 ≤ h.toNat) (h2 : h.toNat ≤ 57) : ∀ r : List UInt8, allD r.reverse = true → 0 < valD (h :: r.reverse) ∧ decN (valD (h :: r.reverse)) = h :: r.reverse
  | [], _ => by
    have e : valD [h] = h.toNat - 48 := by simp [valD, val10]
    simp only [List.reverse_nil, e]
    refine ⟨by omega, ?_⟩
    rw [decN_pos (by omega), show (h.toNat - 48) / 10 = 0 by omega, decN_zero]
    have : digB (h.toNat - 48) = h := by
      apply UInt8.toNat_inj.1
      simp [digB]
      omega
    rw [this]; rfl
  | c :: r, hd => by
    rw [List.reverse_cons, allD_snoc, Bool.and_eq_true] at hd
    obtain ⟨hp, he⟩ := dec_val h h1 h2 r hd.1
    have hc : 48 ≤ c.toNat ∧ c.toNat ≤ 57 := by simpa [isD] using hd.2
    have e : valD (h :: (c :: r).reverse) = 10 * valD (h :: r.reverse) + (c.toNat - 48) := by
      rw [List.reverse_cons, ← List.cons_append, valD_snoc]
    rw [e]
    refine ⟨by omega, ?_⟩
    rw [decN_pos (by omega), show (10 * valD (h :: r.reverse) + (c.toNat - 48)) / 10 = valD (h :: r.reverse) by omega, he]
    have : digB (10 * valD (h :: r.reverse) + (c.toNat - 48)) = c := by
      apply UInt8.toNat_inj.1
      simp [digB]
      omega
    rw [this]; simp

/-- a text of figures that is the text of its number -/
def canon (l : List UInt8) : Bool := match l with
  | [] => false
  | c :: t => allD (c :: t) && (t.isEmpty || decide (c.toNat ≠ 48))

theorem dec_iff (l : List UInt8) (hd : allD l = true) : (decS (valD l) = l) ↔ canon l = true := by
  cases l with
  | nil => simp [canon, valD, val10, decS]
  | cons c t =>
    have hc : 48 ≤ c.toNat ∧ c.toNat ≤ 57 := by simp [allD, isD] at hd; exact hd.1
    have ht : allD t = true := by simp [allD] at hd ⊢; exact hd.2
    by_cases h48 : c.toNat = 48
    · have e : c = 48 := UInt8.toNat_inj.1 (by rw [h48]; rfl)
      subst e
      cases t with
      | nil => simp [canon, valD, val10, decS, hd]
      | cons d u =>
        simp only [canon, hd]
        simp
        intro hh
        unfold decS at hh
        split at hh
        · simp at hh
        · rename_i hz
          obtain ⟨x, y, e1, e2⟩ := decN_head _ (Nat.pos_of_ne_zero hz)
          rw [e1] at hh
          simp at hh
          exact e2 hh.1
    · have h := dec_val c (by omega) hc.2 t.reverse (by simpa using ht)
      rw [List.reverse_reverse] at h
      have e : decS (valD (c :: t)) = c :: t := by unfold decS; rw [if_neg (by omega)]; exact h.2
      simp [e, canon, hd, h48]

/-- more than ten figures of a number's text are too many -/
theorem canon_long (l : List UInt8) (h : canon l = true) (hl : 10 < l.length) : 1000000000 < valD l := by
  cases l with
  | nil => simp at hl
  | cons c t =>
    simp only [canon, Bool.and_eq_true, Bool.or_eq_true] at h
    have ht : t.isEmpty = false := by cases t with | nil => simp at hl | cons _ _ => rfl
    rw [ht] at h
    have hc : 48 ≤ c.toNat := by have := h.1; simp [allD, isD] at this; exact this.1.1
    have h48 : c.toNat ≠ 48 := by simpa using h.2
    have hb := val10_big t (10 * 0 + (c.toNat - 48))
    have hp : 10 ^ 10 ≤ 10 ^ t.length := Nat.pow_le_pow_right (by omega) (by simp at hl; omega)
    have : 1 * 10 ^ t.length ≤ (10 * 0 + (c.toNat - 48)) * 10 ^ t.length := Nat.mul_le_mul_right _ (by omega)
    have e : valD (c :: t) = val10 t (10 * 0 + (c.toNat - 48)) := rfl
    rw [e]
    omega

def rdDO (l : List UInt8) : Option Nat := if canon l = true ∧ valD l ≤ 1000000000 then some (valD l) else none
def rdDT : Option Nat → Value
  | some n => .tuple #[.int .i64 (n : Int), .bool true]
  | none => .tuple #[.int .i64 0, .bool false]
def rdDV (s : ByteArray) : Value := rdDT (rdDO s.data.toList)

theorem rdDV_no {s : ByteArray} (h : ¬ (canon s.data.toList = true ∧ valD s.data.toList ≤ 1000000000)) : rdDV s = .tuple #[.int .i64 0, .bool false] := by
  unfold rdDV rdDO; rw [if_neg h]; rfl
theorem rdDV_yes {s : ByteArray} (h : canon s.data.toList = true) (h2 : valD s.data.toList ≤ 1000000000) : rdDV s = .tuple #[.int .i64 (valD s.data.toList : Int), .bool true] := by
  unfold rdDV rdDO; rw [if_pos ⟨h, h2⟩]; rfl
theorem canon_allD {l : List UInt8} (h : canon l = true) : allD l = true := by
  cases l with
  | nil => simp [canon] at h
  | cons c t => simp only [canon, Bool.and_eq_true] at h; exact h.1

theorem allD_bad (s : ByteArray) (k : Nat) (h : k < s.size) (hb : s[k].toNat < 48 ∨ 57 < s[k].toNat) : allD s.data.toList = false := by
  have e : s.data.toList = s.data.toList.take k ++ (s[k] :: s.data.toList.drop (k + 1)) := by
    have : s.data.toList.drop k = s[k] :: s.data.toList.drop (k + 1) := by
      rw [List.drop_eq_getElem_cons (by simpa using h)]; rfl
    rw [← this, List.take_append_drop]
  rw [e, allD_append]
  have : isD s[k] = false := by
    rcases hb with hb | hb
    · simp [isD]; omega
    · simp [isD]; omega
  simp [allD, this]

theorem takeD_one (s : ByteArray) (k : Nat) (h : k < s.size) : s.data.toList.take (k + 1) = s.data.toList.take k ++ [s[k]] := by
  rw [List.take_succ_eq_append_getElem (by simpa using h)]; rfl

theorem bs_append (a b : List UInt8) : bs a ++ bs b = bs (a ++ b) := by
  apply ByteArray.ext
  simp [bs]
end Go.Proofs.YtpiookjdeopmgaaDoor
namespace Go.Proofs.YtpiookjdeopmgaaDoor
open Go.RowKit

def fv (c : Nat) : Int := if 48 ≤ c ∧ c ≤ 57 then (c : Int) - 48 else if 97 ≤ c ∧ c ≤ 102 then (c : Int) - 87 else -1

theorem fv_dig {c : Nat} (h : 48 ≤ c ∧ c ≤ 57) : fv c = (c : Int) - 48 := by unfold fv; rw [if_pos h]
theorem fv_let {c : Nat} (h : 97 ≤ c ∧ c ≤ 102) : fv c = (c : Int) - 87 := by unfold fv; rw [if_neg (by omega), if_pos h]
theorem fv_no {c : Nat} (h1 : ¬ (48 ≤ c ∧ c ≤ 57)) (h2 : ¬ (97 ≤ c ∧ c ≤ 102)) : fv c = -1 := by unfold fv; rw [if_neg h1, if_neg h2]
theorem fv_le (c : Nat) : fv c ≤ 15 ∧ -1 ≤ fv c := by unfold fv; split; omega; split <;> omega

def pairB (a b : UInt8) : UInt8 := UInt8.ofNat ((fv a.toNat).toNat * 16 + (fv b.toNat).toNat)
def unL : List UInt8 → List UInt8
  | a :: b :: r => pairB a b :: unL r
  | _ => []
def okF (l : List UInt8) : Bool := l.all fun b => decide (0 ≤ fv b.toNat)

theorem okF_snoc (l : List UInt8) (b : UInt8) : okF (l ++ [b]) = (okF l && decide (0 ≤ fv b.toNat)) := by simp [okF]
theorem okF_append (l r : List UInt8) : okF (l ++ r) = (okF l && okF r) := by simp [okF]

def oneB (a : UInt8) : UInt8 := UInt8.ofNat (fv a.toNat).toNat
def rowU : Nat → List UInt8 → List UInt8
  | m, [] => List.replicate m 0
  | m, [a] => oneB a :: List.replicate (m - 1) 0
  | m, a :: b :: r => pairB a b :: rowU (m - 1) r

theorem rowU_full : ∀ (m : Nat) (l : List UInt8), l.length = 2 * m → rowU m l = unL l
  | m, [], h => by
    have : m = 0 := by simp at h; omega
    subst this
    simp [rowU, unL]
  | m, [a], h => by simp at h; omega
  | m, a :: b :: r, h => by simp at h; simp [rowU, unL, rowU_full (m - 1) r (by omega)]

/-- one figure more: what the row holds behind it -/
theorem rowU_step : ∀ (m : Nat) (l : List UInt8) (c : UInt8), l.length < 2 * m → okF l = true →
    ∃ x : UInt8, (rowU m l)[l.length / 2]? = some x ∧ x.toNat ≤ 15 ∧ rowU m (l ++ [c]) = (rowU m l).set (l.length / 2) (UInt8.ofNat (x.toNat * 16 + (fv c.toNat).toNat))
  | m, [], c, h, _ => by
    obtain ⟨k, rfl⟩ : ∃ k, m = k + 1 := ⟨m - 1, by simp at h; omega⟩
    refine ⟨0, by simp [rowU], by simp, ?_⟩
    simp [rowU, oneB, List.replicate_succ]
  | m, [a], c, h, hok => by
    have hv := fv_le a.toNat
    refine ⟨oneB a, by simp [rowU], ?_, ?_⟩
    · simp [oneB]; omega
    · have e : (oneB a).toNat = (fv a.toNat).toNat := by simp [oneB]; omega
      rw [e]
      simp [rowU, pairB]
  | m, a :: b :: r, c, h, hok => by
    simp only [List.length_cons] at h
    have hok' : okF r = true := by simp [okF] at hok ⊢; exact hok.2.2
    obtain ⟨x, hx, hx15, hst⟩ := rowU_step (m - 1) r c (by omega) hok'
    have e : (a :: b :: r).length / 2 = r.length / 2 + 1 := by simp; omega
    refine ⟨x, ?_, hx15, ?_⟩
    · rw [e]; simpa [rowU] using hx
    · rw [e]
      simp only [List.cons_append, rowU, List.set_cons_succ, hst]

theorem unL_snoc : ∀ (l : List UInt8) (a b : UInt8), l.length % 2 = 0 → unL (l ++ [a, b]) = unL l ++ [pairB a b]
  | [], a, b, _ => by simp [unL]
  | [_], _, _, h => by simp at h
  | x :: y :: r, a, b, h => by
    simp at h
    simp [unL, unL_snoc r a b (by omega)]

theorem unL_len : ∀ l : List UInt8, 2 * (unL l).length ≤ l.length
  | [] => by simp [unL]
  | [_] => by simp [unL]
  | x :: y :: r => by have := unL_len r; simp [unL]; omega

theorem take_one (s : ByteArray) (k : Nat) (h : k < s.size) : s.data.toList.take (k + 1) = s.data.toList.take k ++ [s[k]] := by
  rw [List.take_succ_eq_append_getElem (by simpa using h)]; rfl

def unV (s : ByteArray) : Value := if okF s.data.toList = true then .tuple #[.string (bs (unL s.data.toList)), .bool true] else .tuple #[.string (bs []), .bool false]

theorem unV_yes {s : ByteArray} (h : okF s.data.toList = true) : unV s = .tuple #[.string (bs (unL s.data.toList)), .bool true] := by unfold unV; rw [if_pos h]
theorem unV_no {s : ByteArray} (h : okF s.data.toList = false) : unV s = .tuple #[.string (bs []), .bool false] := by unfold unV; rw [if_neg (by simp [h])]

theorem okF_bad (s : ByteArray) (k : Nat) (h : k < s.size) (hb : fv s[k].toNat < 0) : okF s.data.toList = false := by
  have e : s.data.toList = s.data.toList.take k ++ (s[k] :: s.data.toList.drop (k + 1)) := by
    have : s.data.toList.drop k = s[k] :: s.data.toList.drop (k + 1) := by
      rw [List.drop_eq_getElem_cons (by simpa using h)]; rfl
    rw [← this, List.take_append_drop]
  rw [e, okF_append]
  have : ¬ 0 ≤ fv s[k].toNat := by omega
  simp [okF, this]

theorem cells_rep (n : Nat) : (madeCells (Value.int .u8 0).cells (n * 1)).toList = cellsOf (List.replicate n 0) := by
  have h : (Value.int .u8 0).cells = #[Value.int .u8 0] := rfl
  rw [h, toList_madeCells_one]
  simp [cellsOf]

theorem cellsOf_set (l : List UInt8) (j : Nat) (b : UInt8) : (cellsOf l).set j (.int .u8 (b.toNat : Int)) = cellsOf (l.set j b) := by simp [cellsOf]
theorem cellsOf_get (l : List UInt8) (j : Nat) (b : UInt8) (h : l[j]? = some b) : (cellsOf l)[j]? = some (.int .u8 (b.toNat : Int)) := by simp [cellsOf, h]

theorem un_stored {w : World} {base g cap m j : Nat} {R R' : List UInt8} {N : Nat} {v : Int} (hown : w.ownsRow base 5 1 (.slice (some ⟨g, 0, none⟩) m cap) m (cellsOf R)) (hst : R' = R.set j (UInt8.ofNat N)) (hv : v = (N : Int)) (hN : N < 256) :
    (w.setCell ⟨g, j, none⟩ (.int .u8 v)).ownsRow base 5 1 (.slice (some ⟨g, 0, none⟩) m cap) m (cellsOf R') := by
  have h := (hown.stored j (.int .u8 v)).1
  have e : v = ((UInt8.ofNat N).toNat : Int) := by rw [hv]; simp; omega
  rw [e, cellsOf_set, ← hst] at h
  rw [e]
  exact h
end Go.Proofs.YtpiookjdeopmgaaDoor
