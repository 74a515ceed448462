/-
  impl.waysToTell, impl.Beyond: their contracts.
  laws.FnExactBeyond: its walk.
-/
import Derived.Test.YtidoieolejkflaaGreatPk45
import Derived.Test.YtidoieolejkflaaGreatPk47
import Derived.Test.YtidoieolejkflaaGreatPk48
import Derived.Test.YtidoieolejkflaaGreatPk46
import Derived.Test.YtidoieolejkflaaGreatPk30
import Derived.Test.YtidoieolejkflaaGreatPk19
namespace Go.Proofs.YtidoieolejkflaaGreat
open Go.RowKit

set_option linter.unusedSimpArgs false

/-- 'append(out, xs...)' of a row of structs, both the caller's own -/
theorem append_rowM {α : Type} {enc : α → List Value} {sz bytes : Nat} (hlen : ∀ l : List α, (flat enc l).length = l.length * sz) (hpos : 0 < sz) (hbb : bytes ≤ 100) {P : Program} (w : World) {ops : Array Oper} {rest : List Oper} {o : Oper} {a : Act} {Q : Exit → Act → World → Prop} (hgd : o.guard = none) (s x : Operand) (t : TypeId)
    (ho : o.op = .call { callee := .builtin .append, args := #[s, x], argTypes := #[t, t] }) (base : Nat) (e : TypeId) (ht : P.underlying t = some (.slice e)) (zv : Value) (hzv : zv.cells.size = sz)
    (hinfo : (P.info? e).map (fun i => (i.zero, i.size, i.bytes)) = some (some zv, sz, bytes))
    (v : Value) (l : List α) (hs : a.eval s = v) (hown : w.ownsRow base e sz v l.length (flat enc l))
    (base2 : Nat) (v2 : Value) (l2 : List α) (hone : ∀ a ∈ l2, ∀ u ∈ enc a, u.oneCell' = true) (hx : a.eval x = v2) (hown2 : w.ownsRow base2 e sz v2 l2.length (flat enc l2))
    (hl : l.length + l2.length ≤ 1000000000) (hbase : base ≤ w.heap.size)
    (h : ∀ v' w', w'.ownsRow base e sz v' (l ++ l2).length (flat enc (l ++ l2)) → w.grownBy w' v.ownBlock → wpList P ops Q rest (a.put o.dst v') w') : wpList P ops Q (o :: rest) a w := by
  obtain ⟨i0, hi, hz0, hz1, hz2⟩ := info_parts hinfo
  rcases hown2.2 with ⟨e1, e2⟩ | ⟨g, cap, cur, e1, _⟩
  · have e3 : l2 = [] := List.eq_nil_of_length_eq_zero e2
    subst e3
    refine wpList_append_own_none hgd s x t ho base e i0 sz ht hi v l.length (flat enc l) hs hown (hx.trans e1) ?_
    exact h v w (by simpa using hown) (grown_refl w _)
  · refine wpList_append_own w hgd s x t ho base e i0 zv sz bytes ht hi hz0 hz1 hz2 hzv hpos v l.length (flat enc l) hs hown ⟨g, 0, none⟩ l2.length cap (flat enc l2) (hx.trans e1) (hlen l2) (hown2.cells (by rw [e1]; rfl)) ?_ (by unfold maxLen; omega) ?_ hbase ?_
    · intro u hu
      simp only [flat, List.mem_flatMap] at hu
      obtain ⟨b, hbm, hb⟩ := hu
      exact hone b hbm u hb
    · have : (l.length + l2.length) * bytes ≤ 1000000000 * 100 := Nat.mul_le_mul hl hbb
      omega
    · intro v' w' h1 h2 _
      have e1 : flat enc l ++ flat enc l2 = flat enc (l ++ l2) := by rw [flat_append]
      rw [e1] at h1
      exact h v' w' (by simpa using h1) h2

/-- two lists of ways in one row -/
theorem WaysOwn.join {W Wa W2 : World} {lo : Nat} {v v' u : Value} {qs bs : List WP} (h : WaysOwn W lo W.heap.size v qs) (hb : Below W.heap.size W Wa) (hlo : lo ≤ W.heap.size) (hu : WaysOwn Wa W.heap.size Wa.heap.size u bs)
    (row : W2.ownsRow lo 46 3 v' (qs ++ bs).length (flat encW (qs ++ bs))) (hg : Wa.grownBy W2 v.ownBlock) : WaysOwn W2 lo W2.heap.size v' (qs ++ bs) where
  row := row
  top := fun k hk => (row.lt k hk).2
  apart := by
    rw [List.pairwise_append]
    refine ⟨h.apart, hu.apart, fun p hp q hq k hk he => ?_⟩
    have h1 := (h.nears p hp).2 k hk
    have h2 := ((hu.nears q hq).1.lt k he).1
    omega
  nears := by
    have rowa := owns_below h.row hb (Nat.le_refl _)
    have key : ∀ q, HopOwn Wa lo Wa.heap.size q → HopOwn W2 lo W2.heap.size q := fun q hq =>
      ⟨owns_keepB hq.1 (fun j hj => hg.block j (hq.2 j hj) (hop_row_ne hq rowa j hj)), fun k hk => Nat.lt_of_lt_of_le (hq.2 k hk) hg.size⟩
    intro q hq
    rcases List.mem_append.1 hq with h1 | h1
    · exact key q (((h.nears q h1).keep (W' := Wa) (fun j _ h2 _ => hb.block j h2)).wide (Nat.le_refl _) hb.size)
    · exact key q ((hu.nears q h1).wide hlo (Nat.le_refl _))

/-- the ways by which something may be told -/
def ToTell (xs : List RecD) (al : List Int) (src area : Int) (ds : List WayD) : Prop := ∃ ns bs, ds = ns ++ bs ∧ IsBest (withinS xs al src) ns ∧ (area = 0 → bs = []) ∧ (area ≠ 0 → IsBest (beyondS xs al true src) bs)

theorem ToTell.good {xs : List RecD} {al : List Int} {src area : Int} {ds : List WayD} (h : ToTell xs al src area ds) : ds.length ≤ 12 ∧ ∀ d ∈ ds, GoodW d := by
  obtain ⟨ns, bs, rfl, h1, h2, h3⟩ := h
  have hn := h1.good (fun to d h => withinS_good h)
  have ln := asc_tos h1.1 (fun d hd => (hn d hd).node)
  by_cases e : area = 0
  · rw [h2 e, List.append_nil]
    exact ⟨by omega, hn⟩
  · have hb := (h3 e).good (fun to d h => beyondS_good h)
    have lb := asc_tos (h3 e).1 (fun d hd => (hb d hd).node)
    refine ⟨by rw [List.length_append]; omega, fun d hd => ?_⟩
    rcases List.mem_append.1 hd with h4 | h4
    · exact hn d h4
    · exact hb d h4

theorem best_mem {S : Int → WayD → Prop} {ds : List WayD} (h : IsBest S ds) (d : WayD) : d ∈ ds ↔ BestOf d.to (S d.to) (some d) := by
  constructor
  · intro hd
    have := h.2 d.to
    rw [findW_of h.1 hd] at this
    exact this
  · intro hb
    have := (h.2 d.to).unique hb
    exact (findW_some this).1

/-- no two of them lead to one node -/
theorem ToTell.apart {xs : List RecD} {al : List Int} {src area : Int} {ds : List WayD} (h : ToTell xs al src area ds) : ds.Pairwise (fun x y => x.to ≠ y.to) := by
  obtain ⟨ns, bs, rfl, h1, h2, h3⟩ := h
  rw [List.pairwise_append]
  refine ⟨List.Pairwise.imp (fun h => by omega) h1.1, ?_, ?_⟩
  · by_cases e : area = 0
    · rw [h2 e]; exact List.Pairwise.nil
    · exact List.Pairwise.imp (fun h => by omega) (h3 e).1
  · intro x hx y hy e
    by_cases e0 : area = 0
    · rw [h2 e0] at hy; cases hy
    · have b1 := (best_mem h1 x).1 hx
      have b2 := (best_mem (h3 e0) y).1 hy
      obtain ⟨_, ⟨u, hu, _⟩, _⟩ := b1
      obtain ⟨_, ⟨u', hu', _⟩, _⟩ := b2
      rw [← e] at hu'
      exact hu'.1 u hu

theorem ToTell.told {xs : List RecD} {al : List Int} {src area : Int} {ds : List WayD} (h : ToTell xs al src area ds) (to c : Int) : toldTo xs al src area to c ↔ (notNear xs area src to ∧ to ≠ src ∧ ∃ d ∈ ds, d.to = to ∧ c = d.cost) := by
  obtain ⟨ns, bs, rfl, h1, h2, h3⟩ := h
  unfold toldTo
  constructor
  · rintro ⟨n1, n2, ⟨w, hb, rfl⟩ | ⟨e0, w, hb, rfl⟩⟩
    · have ht : w.to = to := hb.1
      subst ht
      exact ⟨n1, n2, w, List.mem_append.2 (.inl ((best_mem h1 w).2 hb)), rfl, rfl⟩
    · have ht : w.to = to := hb.1
      subst ht
      exact ⟨n1, n2, w, List.mem_append.2 (.inr ((best_mem (h3 e0) w).2 hb)), rfl, rfl⟩
  · rintro ⟨n1, n2, d, hd, rfl, rfl⟩
    refine ⟨n1, n2, ?_⟩
    rcases List.mem_append.1 hd with h4 | h4
    · exact .inl ⟨d, (best_mem h1 d).1 h4, rfl⟩
    · by_cases e0 : area = 0
      · rw [h2 e0] at h4; cases h4
      · exact .inr ⟨e0, d, (best_mem (h3 e0) d).1 h4, rfl⟩

set_option maxRecDepth 100000 in
set_option maxHeartbeats 4000000 in
theorem toTell_any (v u : Value) (ps : List RP) (al : List Int) (hi : Nat) (src area : Int) (w : World) (hv : RecsIn w hi v ps) (ha : HopsAt w u al hi) (hhi : hi ≤ w.heap.size) (hn : tot ps ≤ 1048576) (hal : al.length ≤ 1048576) :
    Calls Tryz.prog 69 #[v, u, .int .i64 src, .int .i64 area] w fun e w' => ∃ x qs, e = .returned x ∧ ToTell (fsts ps) al src area (fstsW qs) ∧ WaysOwn w' w.heap.size w'.heap.size x qs ∧ Below w.heap.size w w' := by
  obtain ⟨a1, c1, rfl⟩ := owns_lenS hv.row
  obtain ⟨a2, c2, rfl⟩ := ha.shape
  have HWI := hide (iwithin_any (.slice a1 ps.length c1) (.slice a2 al.length c2) ps al hi src w hv ha hhi hn hal)
  have HWB := hide (fun W (hb : Below w.heap.size w W) => ibeyond_any (.slice a1 ps.length c1) (.slice a2 al.length c2) ps al hi true src W (hv.below hb hhi) (RowAt.later ha hb hhi) (Nat.le_trans hhi hb.size) hn hal)
  clear hv ha
  by_cases ha0 : area = 0
  · have hd : (area == 0) = true := by simpa using ha0
    have HA0 := hide ha0
    clear ha0 HWB
    go_enter Tryz.func69, Tryz.ntmps69
    go_wp2_with fail
    refine HWI.out.mono ?_
    rintro e w1 ⟨x, ns, rfl, hbn, hon, b1⟩
    obtain ⟨xa, xc, rfl⟩ := owns_lenS hon.row
    have HE := hide (show ToTell (fsts ps) al src area (fstsW ns) from ⟨fstsW ns, [], by simp, hbn, fun _ => rfl, fun h => absurd HA0.out h⟩)
    have HO := hide hon
    clear hbn hon
    go_wp2
    go_ret
    first
      | exact ⟨_, ns, rfl, HE.out, HO.out, b1⟩
      | exact ⟨_, rfl, ns, HE.out, HO.out, b1⟩
  · have hd : (area == 0) = false := by simpa using ha0
    have HA0 := hide ha0
    clear ha0
    go_enter Tryz.func69, Tryz.ntmps69
    go_wp2_with fail
    refine HWI.out.mono ?_
    rintro e w1 ⟨x, ns, rfl, hbn, hon, b1⟩
    obtain ⟨xa, xc, rfl⟩ := owns_lenS hon.row
    have hb1 := b1.size
    have HO := hide hon
    have HN := hide hbn
    clear hbn hon
    go_wp2_with fail
    refine (HWB.out _ b1).mono ?_
    rintro e w2 ⟨y, bs, rfl, hbb, hob, b2⟩
    obtain ⟨ya, yc, rfl⟩ := owns_lenS hob.row
    have hb2 := b2.size
    have HE := hide (show ToTell (fsts ps) al src area (fstsW (ns ++ bs)) from ⟨fstsW ns, fstsW bs, by simp [fstsW], HN.out, fun h => absurd h HA0.out, fun _ => hbb⟩)
    have hls := HE.out.good.1
    have hls2 : ns.length + bs.length ≤ 12 := by simpa [fstsW] using hls
    have HOB := hide hob
    have OW := hide (owns_below HO.out.row b2 (Nat.le_refl _))
    have HB2 := hide b2
    clear hbb hob b2 hls
    go_wp2_with (first
      | (at_builtin; refine append_rowM (fun l => flat_len encW_len l) (by omega) (by omega) _ rfl _ _ 39 rfl w.heap.size 46 Tryz.underlying39 (.agg (wayC zeroWD (.slice none 0 0))) rfl Tryz.infoWay _ ns rfl OW.out w1.heap.size _ bs (fun q hq => hop_one (HOB.out.nears q hq)) rfl HOB.out.row (by omega) (by omega) ?_))
    intro v' w3 hown' hgrow
    have N1 := hide (HO.out.join HB2.out hb1 HOB.out (by rw [List.length_append]; exact hown') hgrow)
    have N2 := hide ((b1.trans (HB2.out.mono hb1)).grown hgrow (by omega) (fun j hj => (HO.out.row.lt j hj).1))
    obtain ⟨va, vc, rfl⟩ := owns_lenS hown'
    clear hown' hgrow OW HOB HO HB2
    go_wp2
    go_ret
    first
      | exact ⟨_, ns ++ bs, rfl, HE.out, N1.out, N2.out⟩
      | exact ⟨_, rfl, ns ++ bs, HE.out, N1.out, N2.out⟩

/-- the records of the first j ways -/
def ToldOf (xs : List RecD) (src area : Int) (ds : List WayD) (j : Nat) (rs : List RecD) : Prop := Asc rs ∧ ∀ r, r ∈ rs ↔ ∃ d ∈ ds.take j, r = tellR area src d.to d.cost ∧ notNear xs area src d.to ∧ d.to ≠ src

theorem ToldOf.skip {xs : List RecD} {src area : Int} {ds : List WayD} {j : Nat} {rs : List RecD} {d : WayD} (h : ToldOf xs src area ds j rs) (hd : ds[j]? = some d) (hn : ¬ (notNear xs area src d.to ∧ d.to ≠ src)) : ToldOf xs src area ds (j + 1) rs := by
  refine ⟨h.1, fun r => ?_⟩
  rw [h.2]
  constructor
  · rintro ⟨x, hx, h2⟩
    exact ⟨x, (take_mem_step hd x).2 (.inl hx), h2⟩
  · rintro ⟨x, hx, h2, h3⟩
    rcases (take_mem_step hd x).1 hx with h4 | h4
    · exact ⟨x, h4, h2, h3⟩
    · subst h4; exact absurd h3 hn

theorem put_mem {rs : List RecD} {r : RecD} (h : ∀ x ∈ rs, sameKeyB x r = false) (x : RecD) : x ∈ putD rs r ↔ x ∈ rs ∨ x = r := by
  unfold putD
  simp only [List.mem_append, List.mem_filter, List.mem_singleton]
  constructor
  · rintro ((⟨h1, _⟩ | h1) | ⟨h1, _⟩)
    · exact .inl h1
    · exact .inr h1
    · exact .inl h1
  · rintro (h1 | h1)
    · rcases bef_tri x r with h2 | h2 | h2
      · exact .inl (.inl ⟨h1, h2⟩)
      · rw [h x h1] at h2; cases h2
      · exact .inr ⟨h1, h2⟩
    · exact .inl (.inr h1)

theorem asc_put {rs : List RecD} (h : Asc rs) (r : RecD) : Asc (putD rs r) := by
  unfold putD Asc
  rw [List.append_assoc, List.pairwise_append]
  refine ⟨List.Pairwise.filter _ h, ?_, ?_⟩
  · rw [List.pairwise_append]
    refine ⟨by simp, List.Pairwise.filter _ h, fun a ha b hb => ?_⟩
    have : a = r := by simpa using ha
    subst this
    exact (List.mem_filter.1 hb).2
  · intro a ha b hb
    have h1 := (List.mem_filter.1 ha).2
    rcases List.mem_append.1 hb with h2 | h2
    · have : b = r := by simpa using h2
      subst this
      exact h1
    · exact bef_trans h1 (List.mem_filter.1 h2).2

theorem ToldOf.put {xs : List RecD} {src area : Int} {ds : List WayD} {j : Nat} {rs : List RecD} {d : WayD} (h : ToldOf xs src area ds j rs) (hd : ds[j]? = some d) (hn : notNear xs area src d.to ∧ d.to ≠ src) (hap : ds.Pairwise (fun x y => x.to ≠ y.to)) : ToldOf xs src area ds (j + 1) (putD rs (tellR area src d.to d.cost)) := by
  obtain ⟨hj, e⟩ := List.getElem?_eq_some_iff.1 hd
  have hne : ∀ x ∈ ds.take j, x.to ≠ d.to := by
    intro x hx
    rw [← List.take_append_drop j ds, List.pairwise_append] at hap
    exact hap.2.2 x hx d (by rw [List.drop_eq_getElem_cons hj, e]; exact List.mem_cons_self)
  have hk : ∀ x ∈ rs, sameKeyB x (tellR area src d.to d.cost) = false := by
    intro x hx
    obtain ⟨y, hy, rfl, _⟩ := (h.2 x).1 hx
    have := hne y hy
    simp [sameKeyB, tellR, this]
  refine ⟨asc_put h.1 _, fun r => ?_⟩
  rw [put_mem hk, h.2]
  constructor
  · rintro (⟨x, hx, h2⟩ | h2)
    · exact ⟨x, (take_mem_step hd x).2 (.inl hx), h2⟩
    · exact ⟨d, (take_mem_step hd d).2 (.inr rfl), h2, hn⟩
  · rintro ⟨x, hx, h2, h3⟩
    rcases (take_mem_step hd x).1 hx with h4 | h4
    · exact .inl ⟨x, h4, h2, h3⟩
    · subst h4; exact .inr h2

theorem ToldOf.all {xs : List RecD} {al : List Int} {src area : Int} {ds : List WayD} {rs : List RecD} (h : ToldOf xs src area ds ds.length rs) (ht : ToTell xs al src area ds) : IsTold xs al src area rs := by
  refine ⟨h.1, fun r => ?_⟩
  rw [h.2, List.take_length]
  constructor
  · rintro ⟨d, hd, h1, h2, h3⟩
    exact ⟨d.to, d.cost, h1, (ht.told d.to d.cost).2 ⟨h2, h3, d, hd, rfl, rfl⟩⟩
  · rintro ⟨to, c, h1, h2⟩
    obtain ⟨n1, n2, d, hd, rfl, rfl⟩ := (ht.told to c).1 h2
    exact ⟨d, hd, h1, n1, n2⟩

theorem ToldOf.tot {xs : List RecD} {src area : Int} {ds : List WayD} {j : Nat} {rs : List RecD} (h : ToldOf xs src area ds j rs) (hg : ∀ d ∈ ds, GoodW d) : rs.length ≤ 6 ∧ ∀ r ∈ rs, r.near = [] := by
  constructor
  · have h1 : (rs.map (·.key)).Pairwise (· < ·) := by
      rw [List.pairwise_map]
      refine List.Pairwise.imp_of_mem ?_ h.1
      intro a b ha hb hab
      obtain ⟨x, _, rfl, _⟩ := (h.2 a).1 ha
      obtain ⟨y, _, rfl, _⟩ := (h.2 b).1 hb
      rw [tellR_before] at hab
      exact of_decide_eq_true hab
    have h2 := asc6_len h1 (fun z hz => by
      obtain ⟨r, hr, rfl⟩ := List.mem_map.1 hz
      obtain ⟨x, hx, rfl, _⟩ := (h.2 r).1 hr
      exact (hg x (List.mem_of_mem_take hx)).node)
    simpa using h2
  · intro r hr
    obtain ⟨x, _, rfl, _⟩ := (h.2 r).1 hr
    rfl

theorem tot_bare {qs : List RP} (hl : qs.length ≤ 6) (hg : ∀ r ∈ fsts qs, r.near = []) : tot qs ≤ 1048576 := by
  have : ∀ l : List RP, (∀ r ∈ fsts l, r.near = []) → tot l ≤ l.length := by
    intro l
    induction l with
    | nil => intro _; simp [tot]
    | cons q l ih =>
      intro h
      rw [tot_cons, List.length_cons]
      have h1 := h q.1 (by simp [fsts])
      have h2 := ih (fun r hr => h r (by simp only [fsts, List.map_cons, List.mem_cons] at hr ⊢; exact .inr hr))
      rw [h1]
      simp only [List.length_nil]
      omega
  have := this qs hg
  omega
set_option maxRecDepth 100000 in
set_option maxHeartbeats 8000000 in
theorem itell_any (v u : Value) (ps : List RP) (al : List Int) (hi : Nat) (src area : Int) (w : World) (hv : RecsIn w hi v ps) (ha : HopsAt w u al hi) (hhi : hi ≤ w.heap.size) (hn : tot ps ≤ 1048576) (hal : al.length ≤ 1048576) :
    Calls Tryz.prog 23 #[v, u, .int .i64 src, .int .i64 area] w fun e w' => ∃ x qs, e = .returned x ∧ IsTold (fsts ps) al src area (fsts qs) ∧ RecsOwn w' w.heap.size w'.heap.size x qs ∧ Below w.heap.size w w' := by
  obtain ⟨a1, c1, rfl⟩ := owns_lenS hv.row
  obtain ⟨a2, c2, rfl⟩ := ha.shape
  have HWI := hide (iwaysIn_any (.slice a1 ps.length c1) ps hi area src w hv hhi hn)
  have HTT := hide (fun W (hb : Below w.heap.size w W) => toTell_any (.slice a1 ps.length c1) (.slice a2 al.length c2) ps al hi src area W (hv.below hb hhi) (RowAt.later ha hb hhi) (Nat.le_trans hhi hb.size) hn hal)
  clear hv ha
  go_enter Tryz.func23, Tryz.ntmps23
  go_wp2_with fail
  refine HWI.out.mono ?_
  rintro e w1 ⟨uh, hs, rfl, hhs0, hoh, b1⟩
  obtain ⟨uha, uhc, rfl⟩ := owns_lenS hoh.row
  have hhs := hhs0.eq
  have hb1 := b1.size
  have hht : totW hs ≤ 1048576 := by have := ways_totI hhs; omega
  have HTH := hide (fun (z : Int) (W : World) (h : WaysOwn W w.heap.size w1.heap.size (.slice uha hs.length uhc) hs) (hh : w1.heap.size ≤ W.heap.size) => by have r := iwayTo_any (.slice uha hs.length uhc) hs w.heap.size w1.heap.size z W h hh hht; rw [hhs] at r; exact r)
  have LIT := recs_lit w1 w1.heap.size (Nat.le_refl _)
  have hs2 : (w1.alloc (.cells #[] 71)).heap.size = w1.heap.size + 1 := by simp
  have B2 : Below w1.heap.size w1 (w1.alloc (.cells #[] 71)) := (Below.refl _ _).alloc (Nat.le_refl _) _
  obtain ⟨w2, hw2⟩ : ∃ W, W = w1.alloc (.cells #[] 71) := ⟨_, rfl⟩
  rw [← hw2] at LIT hs2 B2
  have BW2 : Below w.heap.size w w2 := b1.trans (B2.mono hb1)
  have HS2 := hide hs2
  have HLIT := hide LIT
  have HOH := hide hoh
  clear hs2 LIT hoh hhs0 hhs hht HWI
  go_wp2_with fail
  rw [← hw2]
  clear hw2
  refine (HTT.out _ BW2).mono ?_
  rintro e w3 ⟨ut, ws, rfl, htt, hot, b3⟩
  obtain ⟨uta, utc, rfl⟩ := owns_lenS hot.row
  have hb2 := B2.size
  have hb3 := b3.size
  have hgd := htt.good
  have hwl : ws.length ≤ 12 := by simpa [fstsW] using hgd.1
  have BW3 : Below w1.heap.size w1 w3 := B2.trans (b3.mono hb2)
  have HO3 := hide ((HLIT.out.below b3 (Nat.le_refl _)).wide (Nat.le_refl _) hb3)
  have HH3 := hide (HOH.out.below BW3 (Nat.le_refl _))
  have HW3 := hide hot
  have HTT2 := hide htt
  have HGD := hide hgd.2
  clear hot htt b3 HLIT HOH HTT hgd
  go_wp2
  go_loopw [26, 10] (fun i o wr => ∃ (j : Nat) (x : Value) (qs : List RP), j ≤ ws.length ∧ i = .int .i64 (j : Int) ∧ o = x ∧ RecsOwn wr w1.heap.size wr.heap.size x qs ∧ Hid (ToldOf (fsts ps) src area (fstsW ws) j (fsts qs)) ∧ Off x w2.heap.size w3.heap.size ∧ WaysOwn wr w.heap.size w1.heap.size (.slice uha hs.length uhc) hs ∧ WaysOwn wr w2.heap.size w3.heap.size (.slice uta ws.length utc) ws ∧ Below w1.heap.size w1 wr ∧ w3.heap.size ≤ wr.heap.size) (fun i _ _ => ws.length - (intOf i).toNat)
  case atStart => exact ⟨0, _, [], by omega, rfl, rfl, HO3.out, hide ⟨List.Pairwise.nil, fun r => by simp [fsts]⟩, fun b hb => by simp [Value.ownBlock] at hb; have := HS2.out; omega, HH3.out, HW3.out, BW3, Nat.le_refl _⟩
  case round =>
    obtain ⟨j, x, qs, hj, rfl, rfl, hown, HT0, hoff, hhw, hww, hnx, hsz⟩ := hrel
    clear HO3 HH3 HW3 BW3
    obtain ⟨xa, xc, rfl⟩ := owns_lenS hown.row
    by_cases hjl : j < ws.length
    · obtain ⟨r, hr⟩ : ∃ r, ws[j]? = some r := ⟨ws[j], List.getElem?_eq_getElem hjl⟩
      obtain ⟨bo, offo, cpo, hve, hbbo, c0, c1, c2, _⟩ := hww.at.cells j r hr
      cases hve
      have hji : (0 : Int) ≤ (j : Int) := by omega
      have hjj : (j : Int) < (ws.length : Int) := by omega
      obtain ⟨rra, rrc, hrn⟩ := owns_lenS (hww.nears r (List.mem_of_getElem? hr)).1
      rw [hrn] at c2
      have HRD := hide (fstsW_at hr)
      have BA : Below wr.heap.size wr (wr.alloc (.cells #[.int .i64 r.1.to, .int .i64 r.1.cost, .slice rra r.1.hops.length rrc] 46)) := (Below.refl _ _).alloc (Nat.le_refl _) _
      have hxb := heap_alloc_new wr (.cells #[.int .i64 r.1.to, .int .i64 r.1.cost, .slice rra r.1.hops.length rrc] 46)
      obtain ⟨w4, hw4⟩ : ∃ W, W = wr.alloc (.cells #[.int .i64 r.1.to, .int .i64 r.1.cost, .slice rra r.1.hops.length rrc] 46) := ⟨_, rfl⟩
      rw [← hw4] at BA hxb
      have hs4 := BA.size
      have hl4 := lt_of_heap hxb
      have HW := HTH.out r.1.to w4 (hhw.below BA (by have := hnx.size; omega)) (by have := hnx.size; omega)
      have hnh := near_has (fsts ps) area src r.1.to
      obtain ⟨D, hD⟩ : ∃ D, D = wayToD (waysD (fsts ps) area src) r.1.to := ⟨_, rfl⟩
      obtain ⟨FB, hFB⟩ : ∃ F, F = wayToB (waysD (fsts ps) area src) r.1.to := ⟨_, rfl⟩
      rw [← hD, ← hFB] at HW
      rw [← hFB] at hnh
      have HWW := hide HW
      have HNH := hide hnh
      have HOW := hide hown
      have HOFF := hide hoff
      have HHS := hide hhw
      have HWS := hide hww
      have HXB := hide hxb
      have HBA := hide BA
      unfold wayC at HWW
      clear HW hnh hown hoff hhw hww hr hrn hxb BA hD hFB
      go_wp2_with fail
      rw [← hw4]
      clear hw4
      refine HWW.out.mono ?_
      rintro e w5 ⟨du, rfl, hdu, b5⟩
      obtain ⟨da, dc, rfl⟩ := owns_lenS hdu
      have hb5 := b5.size
      have BC : Below w5.heap.size w5 (w5.alloc (.cells #[.int .i64 D.to, .int .i64 D.cost, .slice da D.hops.length dc] 46)) := (Below.refl _ _).alloc (Nat.le_refl _) _
      have hxb5 := (b5.block _ hl4).trans HXB.out
      have hxb6 := (BC.block _ (lt_of_heap hxb5)).trans hxb5
      have d0 := cells_at hxb6 0
      have d1 := cells_at hxb6 1
      have d2 := cells_at hxb6 2
      simp at d0 d1 d2
      have BT : Below wr.heap.size wr (w5.alloc (.cells #[.int .i64 D.to, .int .i64 D.cost, .slice da D.hops.length dc] 46)) := HBA.out.trans ((b5.mono hs4).trans (BC.mono (by omega)))
      clear hdu b5 BC hxb5 hxb6 HWW HXB HBA
      cases FB
      case true =>
        have N1 := hide ((HOW.out.below BT (Nat.le_refl _)).wide (Nat.le_refl _) BT.size)
        have N2 := hide (HT0.out.skip HRD.out (fun h => by rcases HNH.out with ⟨_, h2⟩ | ⟨h1, _⟩; exact h2 h.1; cases h1))
        have N3 := hide (HHS.out.below BT (by omega))
        have N4 := hide (HWS.out.below BT (by omega))
        have N5 := hide (hnx.trans (BT.mono hnx.size))
        have hszr : w3.heap.size ≤ (w5.alloc (.cells #[.int .i64 D.to, .int .i64 D.cost, .slice da D.hops.length dc] 46)).heap.size := by have := BT.size; omega
        clear HOW HT0 HHS HWS BT
        go_wp2
        go_roundw
        case rel => exact ⟨j + 1, _, qs, by omega, by go_num, rfl, N1.out, N2, HOFF.out, N3.out, N4.out, N5.out, hszr⟩
        case measure => simp [intOf]; omega
      have hnn : notNear (fsts ps) area src r.1.to := by
        rcases HNH.out with ⟨h1, _⟩ | ⟨_, h2⟩
        · cases h1
        · exact h2
      have HNN := hide hnn
      clear hnn HNH
      by_cases hts : r.1.to = src
      case pos =>
        have hd : (r.1.to != src) = false := by simpa using hts
        have HTS := hide hts
        clear hts
        have N1 := hide ((HOW.out.below BT (Nat.le_refl _)).wide (Nat.le_refl _) BT.size)
        have N2 := hide (HT0.out.skip HRD.out (fun h => h.2 HTS.out))
        have N3 := hide (HHS.out.below BT (by omega))
        have N4 := hide (HWS.out.below BT (by omega))
        have N5 := hide (hnx.trans (BT.mono hnx.size))
        have hszr : w3.heap.size ≤ (w5.alloc (.cells #[.int .i64 D.to, .int .i64 D.cost, .slice da D.hops.length dc] 46)).heap.size := by have := BT.size; omega
        clear HOW HT0 HHS HWS BT
        go_wp2
        go_roundw
        case rel => exact ⟨j + 1, _, qs, by omega, by go_num, rfl, N1.out, N2, HOFF.out, N3.out, N4.out, N5.out, hszr⟩
        case measure => simp [intOf]; omega
      have hd : (r.1.to != src) = true := by simpa using hts
      have HTS := hide hts
      clear hts
      have hrt := HT0.out.tot HGD.out
      have hql : qs.length ≤ 6 := by simpa [fsts] using hrt.1
      have hqt : tot qs ≤ 1048576 := tot_bare hql hrt.2
      have own6 := (HOW.out.below BT (Nat.le_refl _)).wide (Nat.le_refl _) BT.size
      have hs6 := BT.size
      have hn1 := hnx.size
      have HPW := iputC_any (.slice xa qs.length xc) qs w1.heap.size (tellR area src r.1.to r.1.cost, .slice none 0 0) (w5.alloc (.cells #[.int .i64 D.to, .int .i64 D.cost, .slice da D.hops.length dc] 46)) own6 (by omega) hqt HT0.out.1 ⟨World.ownsRow_nil _ _ _ _, fun k hk => by simp [Value.ownBlock] at hk⟩ (fun p _ k _ he => by simp [Value.ownBlock] at he)
      have HP := hide HPW
      have HN2 := hide (HT0.out.put HRD.out ⟨HNN.out, HTS.out⟩ HTT2.out.apart)
      have HH6 := hide (HHS.out.below BT (by omega))
      have HW6 := hide (HWS.out.below BT (by omega))
      have HB6 := hide (hnx.trans (BT.mono hn1))
      have HOW6 := hide own6
      unfold recC tellR at HP
      simp only [] at HP
      clear HPW hrt own6 HOW HHS HWS HT0
      go_wp2_with fail
      refine HP.out.mono ?_
      rintro e w7 ⟨x', qs', rfl, hf', ho', hbk, hg⟩
      have N1 := hide ho'
      have N2 := hide (show ToldOf (fsts ps) src area (fstsW ws) (j + 1) (fsts qs') by rw [hf']; exact HN2.out)
      have N3 := hide (HOFF.out.next hbk (by omega))
      have N4 := hide (HH6.out.keep (fun k _ h2 h3 => hg.block k h3 (fun e => by have := (HOW6.out.row.lt k e.symm).1; omega)))
      have N5 := hide (HW6.out.keep (HOFF.out.kept hg))
      have N6 := hide (HB6.out.grown hg (by omega) (fun k hk => (HOW6.out.row.lt k hk).1))
      have hszr : w3.heap.size ≤ w7.heap.size := by have := hg.size; omega
      obtain ⟨x'a, x'c, rfl⟩ := owns_lenS ho'.row
      clear hf' ho' hbk hg HP HN2 HH6 HW6 HB6 HOW6 BT
      go_wp2
      go_roundw
      case rel => exact ⟨j + 1, _, qs', by omega, by go_num, rfl, N1.out, N2, N3.out, N4.out, N5.out, N6.out, hszr⟩
      case measure => simp [intOf]; omega
    · have hjn : ¬ (j : Int) < (ws.length : Int) := by omega
      have hje : j = (fstsW ws).length := by simp [fstsW]; omega
      have HE := hide (show IsTold (fsts ps) al src area (fsts qs) from ToldOf.all (by rw [← hje]; exact HT0.out) HTT2.out)
      have HO := hide (hown.wide (lo' := w.heap.size) hb1 (Nat.le_refl _))
      have HB := hide (b1.trans (hnx.mono hb1))
      clear hown hoff hhw hww hnx hje HT0
      go_wp2
      go_ret
      first
        | exact ⟨_, qs, rfl, HE.out, HO.out, HB.out⟩
        | exact ⟨_, rfl, qs, HE.out, HO.out, HB.out⟩
end Go.Proofs.YtidoieolejkflaaGreat
namespace Go.Proofs.YtidoieolejkflaaGreat
open Go.RowKit

set_option maxRecDepth 100000 in
set_option maxHeartbeats 4000000 in
theorem fnExactBeyond_walk (v0 : Value) (ps0 : List RP) (v1 : Value) (al1 : List Int) (a2 a3 : Int) (w : World) (hx0 : RecsAt w v0 ps0 w.heap.size ∧ ps0.length ≤ maxLen ∧ ∀ p ∈ ps0, p.1.near.length ≤ maxLen) (hx1 : HopsAt w v1 al1 w.heap.size ∧ al1.length ≤ maxLen) (_ : (Lit.int .i64 a2).wf = true) (_ : (Lit.int .i64 a3).wf = true) :
    Calls Tryz.prog 7 #[v0, v1, .int .i64 a2, .int .i64 a3] w fun e w' => e = .returned (.bool true) ∧ Below w.heap.size w w' := by
  obtain ⟨hx0, hl0, hm0⟩ := hx0
  obtain ⟨hx1, hl1⟩ := hx1
  obtain ⟨xa0, xc0, rfl⟩ := hx0.shape
  obtain ⟨xa1, xc1, rfl⟩ := hx1.shape
  have hmx : maxLen ≤ 9223372036854775807 := by unfold maxLen; omega
  have hl1 : (al1.length : Int) ≤ 9223372036854775807 := by omega
  clear hmx
  have HX0 := hide hx0
  have HX1 := hide hx1
  clear hx0 hx1
  have HS0 := hide (fun W q => szRecordS_any (.slice xa0 ps0.length xc0) ps0 q W hl0 hm0)
  clear hm0 hl0
  have BW0 : Below w.heap.size w w := Below.refl _ _
  by_cases hAL : al1.length ≤ 1048576
  case neg =>
    have hgt : ¬ (al1.length : Int) ≤ 1048576 := by omega
    clear HX0 HX1 HS0
    go_enter Tryz.func7, Tryz.ntmps7
    go_wp2
    go_ret
    exact ⟨rfl, BW0⟩
  have hle : (al1.length : Int) ≤ 1048576 := by omega
  go_enter Tryz.func7, Tryz.ntmps7
  go_wp2_with fail
  refine (HS0.out _ 1048576 (by omega) (by omega) ((HX0.out.later BW0 (Nat.le_refl _)).more BW0.size)).mono ?_
  rintro e w1 ⟨z0, rfl, hz0, b1⟩
  have hs1 := b1.size
  have BW1 : Below w.heap.size w w1 := b1
  clear b1
  rcases hz0 with hz0 | ⟨hz0, hy0⟩
  · go_wp2
    go_ret
    exact ⟨rfl, BW1⟩
  have hT0 : tot ps0 ≤ 1048576 := by omega
  clear hy0
  have HTO0 := hide (fun W hb => toRecS_own (.slice xa0 ps0.length xc0) ps0 w W HX0.out hb hT0)
  have HTO1 := hide (fun W hb => toInts_own (.slice xa1 al1.length xc1) al1 w W HX1.out hb hAL)
  have HSP := hide (fun v qs lo hi (hf : fsts qs = fsts ps0) u lo2 hi2 W (hv : RecsOwn W lo hi v qs) (hh : hi ≤ W.heap.size) (hu : IntsOwn W lo2 hi2 u al1) (hh2 : hi2 ≤ W.heap.size) => by have h := stell_any v u qs al1 W.heap.size a2 a3 W (hv.in.wide hh) (RowAt.more hu.at hh2) (Nat.le_refl _) (by rw [tot_eq hf]; exact hT0) hAL; rw [hf] at h; exact h)
  have HIM := hide (fun v qs lo hi (hf : fsts qs = fsts ps0) u lo2 hi2 W (hv : RecsOwn W lo hi v qs) (hh : hi ≤ W.heap.size) (hu : IntsOwn W lo2 hi2 u al1) (hh2 : hi2 ≤ W.heap.size) => by have h := itell_any v u qs al1 W.heap.size a2 a3 W (hv.in.wide hh) (RowAt.more hu.at hh2) (Nat.le_refl _) (by rw [tot_eq hf]; exact hT0) hAL; rw [hf] at h; exact h)
  clear HX0 HX1 HS0
  go_wp2_with fail
  refine (HTO0.out _ BW1).mono ?_
  rintro e w2 ⟨vA0, qA0, rfl, fA0, oA0, b2⟩
  obtain ⟨aA0, cA0, rfl⟩ := owns_lenS oA0.row
  have hs2 := b2.size
  have BW2 : Below w.heap.size w w2 := BW1.trans (b2.mono BW1.size)
  clear b2 BW1
  have KA02 := hide oA0
  have TA0 : tot qA0 ≤ 1048576 := by rw [tot_eq fA0]; exact hT0
  have FA0 := hide fA0
  clear oA0 fA0
  go_wp2_with fail
  refine (HTO1.out _ BW2).mono ?_
  rintro e w3 ⟨vA1, rfl, oA1, b3⟩
  obtain ⟨aA1, cA1, rfl⟩ := owns_lenS oA1.row
  have hs3 := b3.size
  have BW3 : Below w.heap.size w w3 := BW2.trans (b3.mono BW2.size)
  have KA03 := hide (KA02.out.below b3 (by omega))
  clear b3 BW2 KA02
  have KA13 := hide oA1
  clear oA1
  go_wp2_with fail
  refine (HSP.out _ _ _ _ FA0.out _ _ _ _ KA03.out (by omega) KA13.out (by omega)).mono ?_
  rintro e w4 ⟨vW, qW, rfl, fW, oW, b4⟩
  obtain ⟨aW, cW, rfl⟩ := owns_lenS oW.row
  have hs4 := b4.size
  have BW4 : Below w.heap.size w w4 := BW3.trans (b4.mono BW3.size)
  have KA04 := hide (KA03.out.below b4 (by omega))
  have KA14 := hide (KA13.out.below b4 (by omega))
  clear b4 BW3 KA03 KA13
  have KW4 := hide oW
  have TW : tot qW ≤ 1048576 := tot_bare (by have h := fW.tot.1; simpa [fsts] using h) fW.tot.2
  have FW := hide fW
  clear oW fW
  clear KA04
  clear KA14
  go_wp2_with fail
  refine (HTO0.out _ BW4).mono ?_
  rintro e w5 ⟨vX0, qX0, rfl, fX0, oX0, b5⟩
  obtain ⟨aX0, cX0, rfl⟩ := owns_lenS oX0.row
  have hs5 := b5.size
  have BW5 : Below w.heap.size w w5 := BW4.trans (b5.mono BW4.size)
  have KW5 := hide (KW4.out.below b5 (by omega))
  clear b5 BW4 KW4
  have KX05 := hide oX0
  have TX0 : tot qX0 ≤ 1048576 := by rw [tot_eq fX0]; exact hT0
  have FX0 := hide fX0
  clear oX0 fX0
  go_wp2_with fail
  refine (HTO1.out _ BW5).mono ?_
  rintro e w6 ⟨vX1, rfl, oX1, b6⟩
  obtain ⟨aX1, cX1, rfl⟩ := owns_lenS oX1.row
  have hs6 := b6.size
  have BW6 : Below w.heap.size w w6 := BW5.trans (b6.mono BW5.size)
  have KW6 := hide (KW5.out.below b6 (by omega))
  have KX06 := hide (KX05.out.below b6 (by omega))
  clear b6 BW5 KW5 KX05
  have KX16 := hide oX1
  clear oX1
  go_wp2_with fail
  refine (HIM.out _ _ _ _ FX0.out _ _ _ _ KX06.out (by omega) KX16.out (by omega)).mono ?_
  rintro e w7 ⟨vG, qG, rfl, fG, oG, b7⟩
  obtain ⟨aG, cG, rfl⟩ := owns_lenS oG.row
  have hs7 := b7.size
  have BW7 : Below w.heap.size w w7 := BW6.trans (b7.mono BW6.size)
  have KW7 := hide (KW6.out.below b7 (by omega))
  have KX07 := hide (KX06.out.below b7 (by omega))
  have KX17 := hide (KX16.out.below b7 (by omega))
  clear b7 BW6 KW6 KX06 KX16
  have KG7 := hide oG
  have TG : tot qG ≤ 1048576 := tot_bare (by have h := fG.tot.1; simpa [fsts] using h) fG.tot.2
  have FG := hide fG
  clear oG fG
  go_wp2_with fail
  refine (eqRecS_own _ _ _ _ _ _ _ _ _ KG7.out KW7.out (FG.out.unique FW.out) TG (by omega) (by omega)).mono ?_
  rintro e w8 ⟨rfl, b8⟩
  have hs8 := b8.size
  have BW8 : Below w.heap.size w w8 := BW7.trans (b8.mono BW7.size)
  have KW8 := hide (KW7.out.below b8 (by omega))
  have KX08 := hide (KX07.out.below b8 (by omega))
  have KX18 := hide (KX17.out.below b8 (by omega))
  have KG8 := hide (KG7.out.below b8 (by omega))
  clear b8 BW7 KW7 KX07 KX17 KG7
  go_wp2_with fail
  refine (HTO0.out _ BW8).mono ?_
  rintro e w9 ⟨vY0, qY0, rfl, fY0, oY0, b9⟩
  obtain ⟨aY0, cY0, rfl⟩ := owns_lenS oY0.row
  have hs9 := b9.size
  have BW9 : Below w.heap.size w w9 := BW8.trans (b9.mono BW8.size)
  have KW9 := hide (KW8.out.below b9 (by omega))
  have KX09 := hide (KX08.out.below b9 (by omega))
  have KX19 := hide (KX18.out.below b9 (by omega))
  have KG9 := hide (KG8.out.below b9 (by omega))
  clear b9 BW8 KW8 KX08 KX18 KG8
  have KY09 := hide oY0
  have TY0 : tot qY0 ≤ 1048576 := by rw [tot_eq fY0]; exact hT0
  have FY0 := hide fY0
  clear oY0 fY0
  go_wp2_with fail
  refine (eqRecS_own _ _ _ _ _ _ _ _ _ KX09.out KY09.out (FX0.out.trans FY0.out.symm) TX0 (by omega) (by omega)).mono ?_
  rintro e w10 ⟨rfl, b10⟩
  have hs10 := b10.size
  have BW10 : Below w.heap.size w w10 := BW9.trans (b10.mono BW9.size)
  have KW10 := hide (KW9.out.below b10 (by omega))
  have KX010 := hide (KX09.out.below b10 (by omega))
  have KX110 := hide (KX19.out.below b10 (by omega))
  have KG10 := hide (KG9.out.below b10 (by omega))
  have KY010 := hide (KY09.out.below b10 (by omega))
  clear b10 BW9 KW9 KX09 KX19 KG9 KY09
  clear KY010
  go_wp2_with fail
  refine (HTO1.out _ BW10).mono ?_
  rintro e w11 ⟨vY1, rfl, oY1, b11⟩
  obtain ⟨aY1, cY1, rfl⟩ := owns_lenS oY1.row
  have hs11 := b11.size
  have BW11 : Below w.heap.size w w11 := BW10.trans (b11.mono BW10.size)
  have KW11 := hide (KW10.out.below b11 (by omega))
  have KX011 := hide (KX010.out.below b11 (by omega))
  have KX111 := hide (KX110.out.below b11 (by omega))
  have KG11 := hide (KG10.out.below b11 (by omega))
  clear b11 BW10 KW10 KX010 KX110 KG10
  have KY111 := hide oY1
  clear oY1
  go_wp2_with fail
  refine (eqInts_own _ _ _ _ _ _ _ _ KX111.out KY111.out hAL (by omega) (by omega)).mono ?_
  rintro e w12 ⟨rfl, b12⟩
  have hs12 := b12.size
  have BW12 : Below w.heap.size w w12 := BW11.trans (b12.mono BW11.size)
  have KW12 := hide (KW11.out.below b12 (by omega))
  have KX012 := hide (KX011.out.below b12 (by omega))
  have KX112 := hide (KX111.out.below b12 (by omega))
  have KG12 := hide (KG11.out.below b12 (by omega))
  have KY112 := hide (KY111.out.below b12 (by omega))
  clear b12 BW11 KW11 KX011 KX111 KG11 KY111
  clear KY112
  go_wp2_with fail
  refine (markRecordS_any _ _ _ _ 1 _ KX012.out TX0 (by omega) (by omega)).mono ?_
  rintro e w13 ⟨rfl, oX0, b13⟩
  have hs13 := b13.size
  have BW13 : Below w.heap.size w w13 := BW12.trans ((b13.below (by omega)).mono (by omega))
  have KW13 := hide (KW12.out.frame b13 (by omega))
  have KX113 := hide (KX112.out.frame b13 (by omega))
  have KG13 := hide (KG12.out.frame b13 (by omega))
  clear b13 BW12 KW12 KX112 KG12
  have KX013 := hide oX0
  clear oX0
  have hmt := mkE_tot 1 qX0
  obtain ⟨mk0, hmk0⟩ : ∃ m, m = mkE 1 qX0 := ⟨_, rfl⟩
  rw [← hmk0] at hmt ⊢
  have hmk1 : 0 ≤ mk0 := by omega
  have hmk2 : mk0 ≤ 100000000 := by omega
  clear hmt hmk0
  clear KX013
  go_wp2_with fail
  refine (markInts_own _ _ _ _ mk0 _ KX113.out hAL (by omega) (by omega)).mono ?_
  rintro e w14 ⟨rfl, oX1, b14⟩
  have hs14 := b14.size
  have BW14 : Below w.heap.size w w14 := BW13.trans ((b14.below (by omega)).mono (by omega))
  have KW14 := hide (KW13.out.frame b14 (by omega))
  have KG14 := hide (KG13.out.frame b14 (by omega))
  clear b14 BW13 KW13 KG13
  have KX114 := hide oX1
  clear oX1
  have hpos : ¬ mk0 + (al1.length : Int) < 0 := by omega
  clear KX114
  go_wp2_with fail
  refine (eqRecS_own _ _ _ _ _ _ _ _ _ KG14.out KW14.out (FG.out.unique FW.out) TG (by omega) (by omega)).mono ?_
  rintro e w15 ⟨rfl, b15⟩
  have hs15 := b15.size
  have BW15 : Below w.heap.size w w15 := BW14.trans (b15.mono BW14.size)
  have KW15 := hide (KW14.out.below b15 (by omega))
  have KG15 := hide (KG14.out.below b15 (by omega))
  clear b15 BW14 KW14 KG14
  go_wp2_with fail
  refine (markRecordS_any _ _ _ _ 1 _ KG15.out TG (by omega) (by omega)).mono ?_
  rintro e w16 ⟨rfl, oG, b16⟩
  have hs16 := b16.size
  have BW16 : Below w.heap.size w w16 := BW15.trans ((b16.below (by omega)).mono (by omega))
  have KW16 := hide (KW15.out.frame b16 (by omega))
  clear b16 BW15 KW15
  have KG16 := hide oG
  clear oG
  have hposG := mkE_pos qG
  go_wp2_with fail
  refine (heldS_own _ _ _ _ _ KG16.out TG (by omega)).mono ?_
  rintro e w17 ⟨rfl, rfl⟩
  go_wp2_with fail
  refine (HTO0.out _ BW16).mono ?_
  rintro e w17 ⟨vB0, qB0, rfl, fB0, oB0, b17⟩
  obtain ⟨aB0, cB0, rfl⟩ := owns_lenS oB0.row
  have hs17 := b17.size
  have BW17 : Below w.heap.size w w17 := BW16.trans (b17.mono BW16.size)
  have KW17 := hide (KW16.out.below b17 (by omega))
  have KG17 := hide (KG16.out.below b17 (by omega))
  clear b17 BW16 KW16 KG16
  have KB017 := hide oB0
  have TB0 : tot qB0 ≤ 1048576 := by rw [tot_eq fB0]; exact hT0
  have FB0 := hide fB0
  clear oB0 fB0
  go_wp2_with fail
  refine (HTO1.out _ BW17).mono ?_
  rintro e w18 ⟨vB1, rfl, oB1, b18⟩
  obtain ⟨aB1, cB1, rfl⟩ := owns_lenS oB1.row
  have hs18 := b18.size
  have BW18 : Below w.heap.size w w18 := BW17.trans (b18.mono BW17.size)
  have KW18 := hide (KW17.out.below b18 (by omega))
  have KG18 := hide (KG17.out.below b18 (by omega))
  have KB018 := hide (KB017.out.below b18 (by omega))
  clear b18 BW17 KW17 KG17 KB017
  have KB118 := hide oB1
  clear oB1
  go_wp2_with fail
  refine (HIM.out _ _ _ _ FB0.out _ _ _ _ KB018.out (by omega) KB118.out (by omega)).mono ?_
  rintro e w19 ⟨vH, qH, rfl, fH, oH, b19⟩
  obtain ⟨aH, cH, rfl⟩ := owns_lenS oH.row
  have hs19 := b19.size
  have BW19 : Below w.heap.size w w19 := BW18.trans (b19.mono BW18.size)
  have KW19 := hide (KW18.out.below b19 (by omega))
  have KG19 := hide (KG18.out.below b19 (by omega))
  have KB019 := hide (KB018.out.below b19 (by omega))
  have KB119 := hide (KB118.out.below b19 (by omega))
  clear b19 BW18 KW18 KG18 KB018 KB118
  have KH19 := hide oH
  have TH : tot qH ≤ 1048576 := tot_bare (by have h := fH.tot.1; simpa [fsts] using h) fH.tot.2
  have FH := hide fH
  clear oH fH
  clear KB019
  clear KB119
  go_wp2_with fail
  refine (eqRecS_own _ _ _ _ _ _ _ _ _ KH19.out KW19.out (FH.out.unique FW.out) TH (by omega) (by omega)).mono ?_
  rintro e w20 ⟨rfl, b20⟩
  have hs20 := b20.size
  have BW20 : Below w.heap.size w w20 := BW19.trans (b20.mono BW19.size)
  have KW20 := hide (KW19.out.below b20 (by omega))
  have KG20 := hide (KG19.out.below b20 (by omega))
  have KH20 := hide (KH19.out.below b20 (by omega))
  clear b20 BW19 KW19 KG19 KH19
  go_wp2_with fail
  refine (heldS_own _ _ _ _ _ KG20.out TG (by omega)).mono ?_
  rintro e w21 ⟨rfl, rfl⟩
  go_wp2
  go_ret
  exact ⟨rfl, BW20⟩
end Go.Proofs.YtidoieolejkflaaGreat
