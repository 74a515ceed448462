/-
  Parts.
-/
import Derived.Test.YtikloccefmofdaaGreatFi33
import Derived.Test.YtikloccefmofdaaGreatFi32
namespace Go.Proofs.YtikloccefmofdaaGreat
open Go.RowKit
set_option linter.unusedSimpArgs false
set_option linter.unusedVariables false
set_option maxRecDepth 100000
set_option maxHeartbeats 8000000
variable {a area src v:Int}{bs zs:List Bool}{al l:List Int}{ls:List Lk}{xs ys:List RecD}{ds es:List WayD}{N z:Nat}{r:RecD}{hv v1 v2:Value}{W:World}
theorem Zo7 (f t r:Int):ZdD f t r=ZdD t f r:=by
 funext p;unfold ZdD ZbD;rw [Bool.or_comm ((p.1.a==f)&&(p.1.b==t))]
theorem Zo8 (ls:List Lk)(bs:List Bool)(f t r:Int):Zcw ls bs f t r=Zcw ls bs t f r:=by
 unfold Zcw;rw [Zo7]
theorem Zhl :∀ {ts xs:List RecD}{r:RecD},r∈ZdW xs ts->r∈xs\/∃ t∈ts,r=seq1 t
 | [],xs,r,h=>.inl h
 | t::ts,xs,r,h=>by
  rcases Zhl (ts:=ts) (xs:=putD xs (seq1 t)) h with h | ⟨u,hu,e⟩
  ·rcases ZeA h with h | h
   ·exact .inl h
   ·exact .inr ⟨t,by simp,h⟩
  ·exact .inr ⟨u,by simp [hu],e⟩
theorem Zmk (h:r∈beyD xs al v):r∈xs\/r.kind=2:=by
 unfold beyD at h;rcases Zhl h with h | ⟨t,ht,e⟩
 ·exact .inl (YAP.1 h).1
 ·obtain ⟨a,to,c,_,e2,_⟩:=ZbV ht;refine .inr ?_;rw [e,(ZfW t).1,e2];rfl
def Told (ls:List Lk)(bs zs:List Bool)(N:Nat)(xs:List RecD):Prop:=∀ r∈xs,r.kind=1->r.near=ZbI ls bs zs r.owner r.area N
theorem Told.put (h:Told ls bs zs N xs)(hr:r.kind=1->r.near=ZbI ls bs zs r.owner r.area N):Told ls bs zs N (putD xs r):=by
 intro q hq hk;rcases ZeA hq with h1 | h1
 ·exact h q h1 hk
 ·subst h1;exact hr hk
theorem Ziw (h:Told ls bs zs N xs):∀ j,Told ls bs zs N (ZeJ ls bs zs N v al xs j)
 | 0=>h
 | j+1=>(Ziw h j).put (fun _=>rfl)
theorem Zjy :∀ k,Told ls bs zs N (idA ls bs zs N k)
 | 0=>fun r hr=>by cases hr
 | k+1=>by
  unfold idA
  split
  ·exact Ziw (Zjy k) _
  ·exact Zjy k
theorem ZgS {ts:List Th}(h:Told ls bs zs N xs):∀ k,Told ls bs zs N (idB ts zs xs k)
 | 0=>h
 | k+1=>by
  unfold idB
  split
  ·split
   ·exact (ZgS h k).put (fun e=>by simp [Zb6] at e)
   ·exact ZgS h k
  ·exact ZgS h k
theorem Zjz (h:Told ls bs zs N xs):∀ k,Told ls bs zs N (idC ls zs xs k)
 | 0=>h
 | k+1=>by
  unfold idC
  split
  ·intro r hr hk;rcases Zmk hr with h1 | h1
   ·exact Zjz h k r h1 hk
   ·rw [hk] at h1;cases h1
  ·exact Zjz h k
theorem ZmM (h:Told ls bs zs N xs):∀ r,Told ls bs zs N (idR ls zs N xs r)
 | 0=>h
 | r+1=>Zjz (ZmM h r) N
theorem ZnQ (ls:List Lk)(ts:List Th)(bs zs:List Bool)(N:Nat):Told ls bs zs N (ZcI ls ts bs zs N):=ZmM (ZgS (Zjy N) _) 3
theorem Zkn {n:Nr}:∀ k,n∈ZbI ls bs zs v a k->n.c=Zcw ls bs v n.to a
 | 0,h=>by cases h
 | k+1,h=>by
  unfold ZbI at h;rcases YAF.1 h with h | h
  ·exact Zkn k h
  ·split at h
   ·rw [YAw.1 h]
   ·cases h
theorem Ziy (h:Told ls bs zs N xs){u c:Int}(ht:ZdZ xs a u v=some c):c=Zcw ls bs u v a:=by
 unfold ZdZ at ht
 split at ht
 ·rename_i k hk
  obtain⟨x,hx,hm,_⟩:=Zph hk;rw [hx] at ht;simp only [] at ht;cases e:x.near.find? (fun n=>n.to==v) with
  | none=>rw [e] at ht;cases ht
  | some n=>
   rw [e] at ht;simp only [Option.map_some,Option.some.injEq] at ht;have h1:=List.mem_of_find?_eq_some e;have h2:n.to=v:=by simpa using List.find?_some e
   simp only [ZgB,YAJ,beq_iff_eq] at hm;have h3:=h x (YAG hx) (by omega);rw [h3] at h1;have h4:=Zkn N h1;rw [<-ht,h4,h2];congr 1 <;> omega
 ·cases ht
theorem ZoD (hs:Zax xs=true)(h:Told ls bs zs N xs)(a:Int):∀ u v,Zb3 xs a u v=Zb3 xs a v u:=by
 intro u v;by_cases hr:(1<=u/\u<=6)/\(1<=v/\v<=6)
 ·rw [<-Zdk hs a hr.1 hr.2, <-Zdk hs a hr.2 hr.1];unfold Ze4;cases e1:ZdZ xs a (v:Int) (u:Int) with
  | none=>cases e2:ZdZ xs a (u:Int) (v:Int) <;> rfl
  | some c=>
   cases e2:ZdZ xs a (u:Int) (v:Int) with
   | none=>rfl
   | some d=>
    simp only [];rw [Ziy h e1,Ziy h e2,Zo8]
 ·unfold Zb3;rw [if_neg hr,if_neg (fun h=>hr ⟨h.2,h.1⟩)]
theorem ZpR {v t:Nat}(hs:Zax xs=true)(hsym:∀ a b,Zb3 xs area a b=Zb3 xs area b a)(hw:ZaX xs area (v:Int) ds){w:WayD}(hm:w∈ds)(ht:w.to=(t:Int))(he:ZaX xs area (t:Int) es):
  Zbk es (v:Int)=true/\(Zbo es (v:Int)).cost=w.cost:=by
 have hv:1<=v/\v<=6/\Zdt xs area (v:Int)=true:=by
  unfold ZaX at hw
  split at hw
  ·rename_i h
   simp only [YAJ,inB,YAS] at h;exact⟨by omega,by omega,h.2⟩
  ·subst hw;cases hm
 obtain⟨c,h,A,rfl⟩:=ZmQ hw hm;obtain⟨t',h1,h2,h3,rfl⟩:=(Zdg 6).1 hm;have e:t'=t:=by simp at ht;omega
 subst e;have hn:Zdt xs area (t':Int)=true:=by
  by_cases htv:t'=v
  ·rw [htv];exact hv.2.2
  ·obtain ⟨F,I,hF⟩:=A;obtain⟨u,_,hl,_⟩:=I.pred t' htv h3;exact Zkl hs hl
 have hin:inB (t':Int) 1 6=true:=by simp [inB];omega
 unfold ZaX at he;rw [hs,hin,hn,if_pos (by decide)] at he;obtain⟨d,g,B0,rfl⟩:=he;have B:Fix (Zb3 xs area) t' d g:=by simpa using B0
 have hsy:=Fix.sym hsym A B h3;obtain⟨k1,k2⟩:=Zrq (c:=d) (h:=g) (t:=v) ⟨hv.1,hv.2.1⟩;refine⟨by rw [k1];exact YAT hsy.1,?_⟩;rw [k2 hsy.1];exact hsy.2
def hrdA (f:Int->Int->Bool)(u:Int):Nat->List Int
 | 0=>[]
 | c+1=>hrdA f u c++(if f u (c:Int) then [u,(c:Int)] else [])
def hrdK (f:Int->Int->Bool):Nat->List Int
 | 0=>[]
 | k+1=>hrdK f k++hrdA f ((k:Int)+1) 3
theorem Zja (f:Int->Int->Bool)(u:Int):∀ c,(hrdA f u c).length<=2*c
 | 0=>by simp [hrdA]
 | c+1=>by
  have:=Zja f u c;unfold hrdA;rw [YAN]
  split <;> simp <;> omega
theorem ZgL (f:Int->Int->Bool):∀ k,(hrdK f k).length<=6*k
 | 0=>by simp [hrdK]
 | k+1=>by
  have h1:=ZgL f k;have h2:=Zja f ((k:Int)+1) 3;unfold hrdK;rw [YAN];omega
def carB (N:Nat)(ls:List Lk)(bs zs:List Bool)(v u a:Int):Bool:=upI N zs v&&upI N zs u&&lkUp ls bs v u a
def slfD (N:Nat)(ls:List Lk)(ts:List Th)(bs zs:List Bool)(v:Int):SelfD:=⟨v,0,⟨(N:Int),ls,ts⟩,hrdK (carB N ls bs zs v) N⟩
structure HrSt (W:World) (z N:Nat) (v:Int) (v1 v2 hv:Value) (l:List Int):Prop where
 box:W.heap[z]? = some (.cells #[.int .i64 v,.int .i64 0,.int .i64 (N:Int),v1,v2,hv,.slice none 0 0] 86)
 own:W.ownsRow (z+1) 3 1 hv l.length (flat intE l)
theorem HrSt.below {W':World}(h:HrSt W z N v v1 v2 hv l)(hb:Below W.heap.size W W'):HrSt W' z N v v1 v2 hv l:=
 ⟨by rw [hb.block z (Zab h.box)];exact h.box,Zad h.own hb (YA _)⟩
theorem HrSt.kept {w w':World}{o:Obj}(h:HrSt w z N v v1 v2 hv l)(hg:(w.alloc o).grownBy w' hv.ownBlock):w'.heap[z]? = some (.cells #[.int .i64 v,.int .i64 0,.int .i64 (N:Int),v1,v2,hv,.slice none 0 0] 86):=by
 have hz:=Zab h.box;rw [hg.block z (by simp;omega) (fun e=>by have:=(h.own.lt z e.symm).1;omega),YAH _ _ _ hz];exact h.box
theorem HrSt.push {w w':World}{hv':Value}{l':List Int}{o:Obj}(h:HrSt w z N v v1 v2 hv l)(hg:(w.alloc o).grownBy w' hv.ownBlock)(ho:w'.ownsRow (z+1) 3 1 hv' l'.length (flat intE l')):HrSt (w'.setCell ⟨z,5,none⟩ hv') z N v v1 v2 hv' l':=by
 refine⟨?_,ZaG ho (by omega)⟩;rw [YAU _ _ 5 _ _ hv' (h.kept hg)];rfl
theorem RecsOwn.concat {Wa Wb:World}{lo:Nat}{v u x:Value}{qs bs:List RP}(h:RecsOwn W lo W.heap.size v qs)(hb:Below W.heap.size W Wa)(hlo:lo<=W.heap.size)(hu:RecsOwn Wa W.heap.size Wa.heap.size u bs)
  (row:Wb.ownsRow Wa.heap.size 37 8 x (qs++bs).length (flat encP (qs++bs))) (hg:Below Wa.heap.size Wa Wb):RecsOwn Wb lo Wb.heap.size x (qs++bs) where
 row:=Zaf row (by have:=hb.size;omega)
 top:=fun k hk=>(row.lt k hk).2
 apart:=by
  rw [YAM];refine⟨h.apart,hu.apart,fun p hp q hq k hk he=>?_⟩;have h1:=(h.nears p hp).2 k hk;have h2:=((hu.nears q hq).1.lt k he).1;omega
 nears:=fun p hp=>by
  have hs:=hb.size;rcases YAF.1 hp with h1 | h1
  ·exact ((h.nears p h1).keep (fun j _ h2 _=>((hb.trans (hg.mono hs)).block j h2))).wide (YA _) (by have:=hg.size;omega)
  ·exact ((hu.nears p h1).keep (fun j _ h2 _=>hg.block j h2)).wide hlo hg.size
theorem Zoc (w:World)(va vb:Value)(la lb:List RP)(t:TypeId):∀ j x,([(va,la),(vb,lb)]:List (Value × List RP))[j]? = some x->(w.alloc (.cells #[va,vb] t)).cell? ⟨w.heap.size,j,none⟩=some x.1:=by
 intro j x hj;rw [Zaa (YAE w _)]
 match j,hj with
 | 0,hj=>simp at hj;subst hj;rfl
 | 1,hj=>simp at hj;subst hj;rfl
 | j+2,hj=>simp at hj
theorem Zp6 {va vb:Value}{la lb:List RP}{b1 b2:Nat}(h1:W.ownsRow b1 37 8 va la.length (flat encP la))(h2:W.ownsRow b2 37 8 vb lb.length (flat encP lb)):∀ x∈([(va,la),(vb,lb)]:List (Value × List RP)),∃ base,W.ownsRow base 37 8 x.1 x.2.length (flat encP x.2):=by
 intro x hx;simp at hx;rcases hx with rfl | rfl
 ·exact ⟨_,h1⟩
 ·exact ⟨_,h2⟩
theorem ZrM {W':World}{va vb:Value}{la lb:List RP}{b1 b2 c1 c2:Nat}(h1:RecsOwn W b1 c1 va la)(h2:RecsOwn W' b2 c2 vb lb):∀ x∈([(va,la),(vb,lb)]:List (Value × List RP)),∀ p∈x.2,∀ u∈encP p,u.oneCell'=true:=by
 intro x hx p hp;simp at hx;rcases hx with rfl | rfl
 ·exact Zec (h1.nears p hp)
 ·exact Zec (h2.nears p hp)
theorem Zsi (N:Nat)(v1 v2 v3 v4 v5 v6 v7 v8:Value)(er:Int)(v:Int)(ls:List Lk)(ts:List Th)(bs zs:List Bool)(w:World)(h1:w.ownsRow 0 78 4 v1 ls.length (flat lkE ls))(h2:ZaS w v2 ts w.heap.size)(h3:Zbh w v3 bs w.heap.size)(h4:Zbh w v4 zs w.heap.size)(hl:bs.length=ls.length)(hls:ls.length<=1000)(hts:ts.length<=1000)(hz:zs.length=N)(hN:N<=6):
  Calls Tryz.prog 19 #[wldV N v1 v2 v3 v4 v5 v6 v7 v8 er,.int .i64 v] w fun e w'=>∃ u qs,e=.returned u/\fsts qs=nodD (slfD N ls ts bs zs v) (ZbR ls v)++Zfj (slfD N ls ts bs zs v) ts/\RecsOwn w' w.heap.size w'.heap.size u qs/\Below w.heap.size w w':=by
 have HC:=hide (fun W (hb:Below w.heap.size w W) (t r:Int)=>Zk0 N v1 v2 v3 v4 v5 v6 v7 v8 er 0 v t r (.slice none 0 0) (.slice none 0 0) ls bs zs W (Zad h1 hb (YA _)) (Zav.then h3 hb) (Zav.then h4 hb) hl (by omega) hz (by omega));have HN:=hide (fun W (hb:Below w.heap.size w W) (hv:Value) (l:List Int) (hll:l.length<=1048576) (hh:ZaI W hv l W.heap.size)=>Zo1 v1 v2 hv (.slice none 0 0) ⟨v,0,⟨(N:Int),ls,ts⟩,l⟩ W (by show ls.length<=_;omega) hll (Zav.then (show ZaK w v1 ls w.heap.size from Zam h1) hb) hh);have HT:=hide (fun W (hb:Below w.heap.size w W) (hv:Value) (l:List Int)=>ZnO v1 v2 hv (.slice none 0 0) ⟨v,0,⟨(N:Int),ls,ts⟩,l⟩ W (by show ts.length<=_;omega) (Zav.then h2 hb));obtain⟨a1,c1,hv1⟩:=Zac h1;obtain⟨a2,c2,hv2⟩:=ZaS.shape h2;obtain⟨a3,c3,hv3⟩:=h3.shape;obtain⟨a4,c4,hv4⟩:=h4.shape;have HTS:=hide hts;clear h1 h2 h3 h4 hls hts hz hl;unfold wldV pakV at HC;unfold ZlI at HN HT;simp only [] at HN HT;unfold wldV;obtain⟨f,hf⟩:∃ f,f=carB N ls bs zs v:=⟨_,rfl⟩;have HC2:=hide (fun W hb t r=>by have h:=HC.out W hb t r;rw [show (upI N zs v&&upI N zs t&&lkUp ls bs v t r)=f t r by rw [hf];rfl] at h;exact h);have HSL:=hide (show slfD N ls ts bs zs v=⟨v,0,⟨(N:Int),ls,ts⟩,hrdK f N⟩ by rw [hf];rfl);clear HC hf;have hg0:((w.alloc (.cells #[.int .i64 (N:Int),v1,v2,v3,v4,v5,v6,v7,v8,.int .i64 er] 52)).alloc (.cells #[.int .i64 v,.int .i64 0,.int .i64 (N:Int),v1,v2,.slice none 0 0,.slice none 0 0] 86)).heap[w.heap.size]? = some (.cells #[.int .i64 (N:Int),v1,v2,v3,v4,v5,v6,v7,v8,.int .i64 er] 52):=by rw [YAH _ _ _ (by simp),YAE]
 have hg1:((w.alloc (.cells #[.int .i64 (N:Int),v1,v2,v3,v4,v5,v6,v7,v8,.int .i64 er] 52)).alloc (.cells #[.int .i64 v,.int .i64 0,.int .i64 (N:Int),v1,v2,.slice none 0 0,.slice none 0 0] 86)).heap[w.heap.size+1]? = some (.cells #[.int .i64 v,.int .i64 0,.int .i64 (N:Int),v1,v2,.slice none 0 0,.slice none 0 0] 86):=by
  have:=YAE (w.alloc (.cells #[.int .i64 (N:Int),v1,v2,v3,v4,v5,v6,v7,v8,.int .i64 er] 52)) (.cells #[.int .i64 v,.int .i64 0,.int .i64 (N:Int),v1,v2,.slice none 0 0,.slice none 0 0] 86);simpa using this
 have B0:Below w.heap.size w ((w.alloc (.cells #[.int .i64 (N:Int),v1,v2,v3,v4,v5,v6,v7,v8,.int .i64 er] 52)).alloc (.cells #[.int .i64 v,.int .i64 0,.int .i64 (N:Int),v1,v2,.slice none 0 0,.slice none 0 0] 86)):=ZaB _ _;have ST0:=hide (show HrSt _ (w.heap.size+1) N v v1 v2 (.slice none 0 0) (hrdK f 0) from ⟨hg1,by simp [hrdK,flat];exact YAZ _ _ _ _⟩);have HG0:=hide hg0;have HB0:=hide B0;clear hg0 hg1 B0;subst hv1 hv2 hv3 hv4
 go_enter Tryz.func19,Tryz.ntmps19
 go_wp2;generalize (w.alloc (.cells #[.int .i64 (N:Int),.slice a1 ls.length c1,.slice a2 ts.length c2,.slice a3 bs.length c3,.slice a4 zs.length c4,v5,v6,v7,v8,.int .i64 er] 52)).alloc (.cells #[.int .i64 v,.int .i64 0,.int .i64 (N:Int),.slice a1 ls.length c1,.slice a2 ts.length c2,.slice none 0 0,.slice none 0 0] 86)=w0 at *;have hw0:=HB0.out.size;have hz0:=Zab HG0.out
 go_loopw [6] (fun i wr=>∃ (k:Nat) (hv:Value),k<=N/\i=.int .i64 ((k:Int)+1)/\Hid (HrSt wr (w.heap.size+1) N v (.slice a1 ls.length c1) (.slice a2 ts.length c2) hv (hrdK f k))/\Hid (wr.heap[w.heap.size]? = some (.cells #[.int .i64 (N:Int),.slice a1 ls.length c1,.slice a2 ts.length c2,.slice a3 bs.length c3,.slice a4 zs.length c4,v5,v6,v7,v8,.int .i64 er] 52))/\Below w.heap.size w wr) (fun i _=>N+1-(intOf i).toNat)
 case atStart=>exact ⟨0,_,by omega,rfl,ST0,HG0,HB0.out⟩
 case round=>
  obtain⟨k,hv,hk,rfl,ST,GB,hnx⟩:=hrel;have hlk:=ZgL f k;have zq:=Zaa GB.out 0;simp only [YAd,YAW] at zq
  rename World=>wa
  by_cases hlt:k<N
  ·have hle:(k:Int)+1<=(N:Int):=by omega
   have HST0:=hide (show hrdK f k++hrdA f ((k:Int)+1) 0=hrdK f k by simp [hrdA]);have HSTN:=hide (show hrdK f (k+1)=hrdK f k++hrdA f ((k:Int)+1) 3 from rfl);go_wp2
   go_loopw [19] (fun i wr=>∃ (c:Nat) (hv:Value),c<=3/\i=.int .i64 (c:Int)/\Hid (HrSt wr (w.heap.size+1) N v (.slice a1 ls.length c1) (.slice a2 ts.length c2) hv (hrdK f k++hrdA f ((k:Int)+1) c))/\Hid (wr.heap[w.heap.size]? = some (.cells #[.int .i64 (N:Int),.slice a1 ls.length c1,.slice a2 ts.length c2,.slice a3 bs.length c3,.slice a4 zs.length c4,v5,v6,v7,v8,.int .i64 er] 52))/\Below w.heap.size w wr) (fun i _=>3-(intOf i).toNat)
   case atStart=>exact ⟨0,hv,by omega,rfl,hide (by rw [HST0.out];exact ST.out),GB,hnx⟩
   case round=>
    clear ST GB zq hnx;obtain⟨c,hv,hc,rfl,ST,GB,hnx⟩:=hrel;have hsz:=hnx.size;by_cases hct:c<3
    ·have hci:(c:Int)<3:=by omega
     have HSA:=hide (show hrdA f ((k:Int)+1) (c+1)=hrdA f ((k:Int)+1) c++(if f ((k:Int)+1) (c:Int) then [(k:Int)+1,(c:Int)] else []) from rfl);have hlA:=Zja f ((k:Int)+1) c;have HCX:=hide (HC2.out wr hnx ((k:Int)+1) (c:Int));obtain⟨q,hq⟩:∃ q,q=f ((k:Int)+1) (c:Int):=⟨_,rfl⟩;rw [<-hq] at HCX HSA;clear hq;have z0:=Zaa GB.out 0;have z1:=Zaa GB.out 1;have z2:=Zaa GB.out 2;have z3:=Zaa GB.out 3;have z4:=Zaa GB.out 4;have z5:=Zaa GB.out 5;have z6:=Zaa GB.out 6;have z7:=Zaa GB.out 7;have z8:=Zaa GB.out 8;have z9:=Zaa GB.out 9;simp only [YAd,YAX,YAW] at z0 z1 z2 z3 z4 z5 z6 z7 z8 z9
     go_wp2_with fail
     refine HCX.out.mono ?_;rintro e w2 ⟨rfl,b2⟩;have hs2:=b2.size;have ST2:=hide (ST.out.below b2);have G2:=hide ((b2.block _ (Zab GB.out)).trans GB.out);have B2:Below w.heap.size w w2:=hnx.trans (b2.mono hsz);clear b2 z0 z1 z2 z3 z4 z5 z6 z7 z8 z9 ST GB;cases q
     ·go_wp2;go_roundw
      case rel=>exact ⟨c+1,hv,by omega,by go_num,hide (by rw [HSA.out];simp only [Bool.false_eq_true,if_false,List.append_nil];exact ST2.out),G2,B2⟩
      case measure=>simp [intOf];omega
     ·obtain ⟨l,hl⟩:∃ l,l=hrdK f k++hrdA f ((k:Int)+1) c:=⟨_,rfl⟩;have HQL:=hide (show l.length<=1000 by rw [hl,YAN];omega);rw [<-hl] at ST2;have HLL:=hide hl;clear hl;obtain⟨ha,hcc,hve⟩:=Zac ST2.out.own;have y5:=Zaa ST2.out.box 5;simp only [YAd,YAX,YAW] at y5;have hz2:w.heap.size+1<w2.heap.size:=Zab ST2.out.box;subst hve
      go_wp2_with (first
       | (at_builtin;(refine Zgm (by decide) _ rfl _ _ 40 rfl (w.heap.size+1+1) 3 Tryz.underlying40 Tryz.info3 _ l ((k:Int)+1) (c:Int) rfl (ST2.out.own.alloc _) ⟨w2.heap.size,0,none⟩ 2 rfl (Zan (cs:=[.int .i64 ((k:Int)+1),.int .i64 (c:Int)])) (by have:=HQL.out;omega) (by simp;try omega) ?_;intro v' w4 l' hl' hown' hgrow;have k4:=ST2.out.kept hgrow;have f5:=Zae k4 5;have c5:=Zaa k4 5;simp only [YAd,YAX,YAW] at c5;have ST4:=hide (ST2.out.push hgrow hown');have hg4:w.heap.size<w2.heap.size:=(by omega);have g4:=(hgrow.block w.heap.size (by simp;try omega) (fun e=>by have:=(ST2.out.own.lt _ e.symm).1;omega)).trans ((YAH _ _ _ hg4).trans G2.out);have G4:=hide ((YAO w4 ⟨w.heap.size+1,5,none⟩ w.heap.size v' (by simp)).trans g4);have B4:=hide (((B2.alloc (by omega) _).grown hgrow (by simp;try omega) (fun k hk=>by have:=(ST2.out.own.lt k hk).1;omega)).trans (Frame.below (Frame.set (lo:=w.heap.size) (hi:=w.heap.size+2) w4 (w.heap.size+1) 5 v' (by omega) (by omega)) (by have:=hgrow.size;simp at this;try omega)));obtain⟨va,vc,hvv⟩:=Zac hown';subst hvv;clear k4 hown' hgrow g4)))
      go_roundw
      case rel=>exact ⟨c+1,_,by omega,by go_num,hide (by rw [HSA.out];simp only [if_true];rw [<-YAY, <-HLL.out, <-hl'.out];exact ST4.out),G4,B4.out⟩
      case measure=>simp [intOf];omega
    ·have KN:=hide (show c=3 by omega);have hci:¬(c:Int)<3:=by omega
     go_wp2;go_roundw
     case rel=>exact ⟨k+1,hv,by omega,by go_num,hide (by rw [HSTN.out, <-KN.out];exact ST.out),GB,hnx⟩
     case measure=>simp [intOf];omega
  ·have KN:=hide (show k=N by omega);have hle:¬(k:Int)+1<=(N:Int):=by omega
   have hv5:∃ hv5,hv5=hv:=⟨_,rfl⟩;have h0:=ST.out;rw [KN.out] at h0;clear ST;obtain⟨ha,hc,hve⟩:=Zac h0.own;subst hve;have HQL:=hide (show (hrdK f N).length<=36 by have:=ZgL f N;omega);have hz2:w.heap.size+1<wa.heap.size:=Zab h0.box;have y0:=Zaa h0.box 0;have y1:=Zaa h0.box 1;have y2:=Zaa h0.box 2;have y3:=Zaa h0.box 3;have y4:=Zaa h0.box 4;have y5:=Zaa h0.box 5;have y6:=Zaa h0.box 6;simp only [YAd,YAX,YAW] at y0 y1 y2 y3 y4 y5 y6;have HH:=hide (show ZaI wa.drew (.slice ha (hrdK f N).length hc) (hrdK f N) wa.drew.heap.size from Zam h0.own.drew);clear h0 hv5 GB;go_wp2;clear zq;refine Zag (S:=(fun (W:World)=>W.cell? ⟨w.heap.size+1,0,none⟩=some (.int .i64 v)/\W.cell? ⟨w.heap.size+1,1,none⟩=some (.int .i64 0)/\W.cell? ⟨w.heap.size+1,2,none⟩=some (.int .i64 (N:Int))/\W.cell? ⟨w.heap.size+1,3,none⟩=some (.slice a1 ls.length c1)/\W.cell? ⟨w.heap.size+1,4,none⟩=some (.slice a2 ts.length c2)/\W.cell? ⟨w.heap.size+1,5,none⟩=some (.slice ha (hrdK f N).length hc)/\W.cell? ⟨w.heap.size+1,6,none⟩=some (.slice none 0 0))) (by kernel_rfl) 7 rfl ⟨y0,y1,y2,y3,y4,y5,y6⟩ (fun ops hops hHeld=>?_);refine TD 0 ?_
   try simp only [putS]
   refine TD 2 ?_
   try simp only [putS]
   refine TC 1 ?_;intro K hK;go_simp;refine (HN.out wa.drew hnx.drew _ _ (by have:=HQL.out;omega) HH.out).mono ?_;rintro e w2 ⟨u2,q2,rfl,e2,o2,b2⟩;have hs2:wa.heap.size<=w2.heap.size:=b2.size;obtain⟨a5,c5,rfl⟩:=Zac o2.row;have E2:=hide e2;have O2:=hide o2;clear e2 o2;refine hK.out _ _ ?_ (fun hHeld=>?_)
   ·obtain ⟨m0,m1,m2,m3,m4,m5,m6⟩:=hHeld;exact⟨(b2.cell hz2).trans m0,(b2.cell hz2).trans m1,(b2.cell hz2).trans m2,(b2.cell hz2).trans m3,(b2.cell hz2).trans m4,(b2.cell hz2).trans m5,(b2.cell hz2).trans m6⟩
   clear hK K
   try simp only [putS]
   refine TC 3 ?_;intro K hK;go_simp;refine (HT.out w2 (hnx.drew.trans (b2.mono hnx.size)) _ (hrdK f N)).mono ?_;rintro e w3 ⟨u3,q3,rfl,e3,o3,b3⟩;have hs3:w2.heap.size<=w3.heap.size:=b3.size;obtain⟨a6,c6,rfl⟩:=Zac o3.row;have E3:=hide e3;have O3:=hide o3;clear e3 o3;refine hK.out _ _ ?_ (fun hHeld=>?_)
   ·obtain ⟨m0,m1,m2,m3,m4,m5,m6⟩:=hHeld;exact⟨(b3.cell (YAB hz2 hs2)).trans m0,(b3.cell (YAB hz2 hs2)).trans m1,(b3.cell (YAB hz2 hs2)).trans m2,(b3.cell (YAB hz2 hs2)).trans m3,(b3.cell (YAB hz2 hs2)).trans m4,(b3.cell (YAB hz2 hs2)).trans m5,(b3.cell (YAB hz2 hs2)).trans m6⟩
   clear hK K
   try simp only [putS]
   refine TC 4 ?_;intro K hK;go_simp;refine hK.out _ _ ?_ (fun hHeld=>?_)
   ·obtain ⟨m0,m1,m2,m3,m4,m5,m6⟩:=hHeld;exact⟨(((YAC w3.heap.size w3).alloc (YA _) _).cell (YAB hz2 (YAK hs2 hs3))).trans m0,(((YAC w3.heap.size w3).alloc (YA _) _).cell (YAB hz2 (YAK hs2 hs3))).trans m1,(((YAC w3.heap.size w3).alloc (YA _) _).cell (YAB hz2 (YAK hs2 hs3))).trans m2,(((YAC w3.heap.size w3).alloc (YA _) _).cell (YAB hz2 (YAK hs2 hs3))).trans m3,(((YAC w3.heap.size w3).alloc (YA _) _).cell (YAB hz2 (YAK hs2 hs3))).trans m4,(((YAC w3.heap.size w3).alloc (YA _) _).cell (YAB hz2 (YAK hs2 hs3))).trans m5,(((YAC w3.heap.size w3).alloc (YA _) _).cell (YAB hz2 (YAK hs2 hs3))).trans m6⟩
   clear hK K
   try simp only [putS]
   refine TC 5 ?_;intro K hK;go_simp;refine (Zk3 [(.slice a5 q2.length c5,q2),(.slice a6 q3.length c6,q3)] w3.heap.size _ (Zoc _ _ _ _ _ _) (Zp6 ((Zad O2.out.row b3 (YA _)).alloc _) (O3.out.row.alloc _)) (ZrM O2.out O3.out) (by have h1:=congrArg List.length E2.out;have h2:=congrArg List.length E3.out;have h3:=Zdw ls v;have h4:=Zjv ⟨v,0,⟨(N:Int),ls,ts⟩,hrdK f N⟩ ts;have h5:=HTS.out;rw [ZoZ] at h1;simp [fsts] at h1 h2 h3 h4;simp [sumL];omega) (by simp) (by simp)).mono ?_;rintro e w4 ⟨x,rfl,ho,b4⟩;have HO:=hide ho;clear ho;refine hK.out _ _ ?_ (fun hHeld=>?_)
   ·obtain ⟨m0,m1,m2,m3,m4,m5,m6⟩:=hHeld;exact⟨(b4.cell (YAB hz2 (YAK hs2 (YAK hs3 (by simp))))).trans m0,(b4.cell (YAB hz2 (YAK hs2 (YAK hs3 (by simp))))).trans m1,(b4.cell (YAB hz2 (YAK hs2 (YAK hs3 (by simp))))).trans m2,(b4.cell (YAB hz2 (YAK hs2 (YAK hs3 (by simp))))).trans m3,(b4.cell (YAB hz2 (YAK hs2 (YAK hs3 (by simp))))).trans m4,(b4.cell (YAB hz2 (YAK hs2 (YAK hs3 (by simp))))).trans m5,(b4.cell (YAB hz2 (YAK hs2 (YAK hs3 (by simp))))).trans m6⟩
   clear hK K
   try simp only [putS]
   refine TD 6 ?_
   try simp only [putS]
   refine wpAnyH_done (by rw [hops.out];kernel_rfl) ?_ _;clear hops ops;go_wp2;go_ret;have h9:=HO.out;simp only [ZbZ,List.map_cons,List.map_nil,List.flatten_cons,List.flatten_nil,List.append_nil] at h9;refine⟨_,q2++q3,rfl,?_,RecsOwn.wide (RecsOwn.concat (lo:=wa.drew.heap.size) O2.out b3 b2.size O3.out (Zaf h9 (by simp)) (((YAC _ _).alloc (YA _) _).trans (b4.mono (by simp)))) hnx.size (YA _),((hnx.drew.trans (b2.mono hnx.size)).trans (b3.mono (YAK hnx.size hs2))).trans ((((YAC w3.heap.size w3).alloc (YA _) _).trans (b4.mono (by simp))).mono (YAK hnx.size (YAK hs2 hs3)))⟩;rw [HSL.out];show (q2++q3).map (·.1)=_;rw [YAf];exact congr (congrArg _ E2.out) E3.out
def upsK (zs:List Bool):Nat->List Int
 | 0=>[]
 | k+1=>upsK zs k++(if upB zs k then [(k:Int)+1] else [])
theorem ZjF (zs:List Bool):∀ k,(upsK zs k).length<=k
 | 0=>by simp [upsK]
 | k+1=>by
  have:=ZjF zs k;unfold upsK;rw [YAN]
  split <;> simp <;> omega
theorem Zlz (N:Nat)(v1 v2 v3 v4 v5 v6 v7 v8:Value)(er:Int)(zs:List Bool)(w:World)(hz:Zbh w v4 zs w.heap.size)(hl:zs.length=N)(hN:N<=100000):
  Calls Tryz.prog 16 #[wldV N v1 v2 v3 v4 v5 v6 v7 v8 er] w fun e w'=>∃ x,e=.returned x/\w'.ownsRow w.heap.size 3 1 x (upsK zs N).length (Zbb (upsK zs N))/\Below w.heap.size w w':=by
 have HU:=hide (fun W (hb:Below w.heap.size w W) (v:Int)=>Zmh N v1 v2 v3 v4 v5 v6 v7 v8 er zs v W (Zav.then hz hb) hl (by omega));obtain⟨a4,c4,rfl⟩:=hz.shape;rw [hl] at HU |-;unfold wldV at *;have HL:=hide hl;clear hz hl;have G0:=hide (YAE w (.cells #[.int .i64 (N:Int),v1,v2,v3,.slice a4 N c4,v5,v6,v7,v8,.int .i64 er] 52));have B0:Below w.heap.size w (w.alloc (.cells #[.int .i64 (N:Int),v1,v2,v3,.slice a4 N c4,v5,v6,v7,v8,.int .i64 er] 52)):=(YAC _ _).alloc (YA _) _
 go_enter Tryz.func16,Tryz.ntmps16
 go_wp2;generalize w.alloc (.cells #[.int .i64 (N:Int),v1,v2,v3,.slice a4 N c4,v5,v6,v7,v8,.int .i64 er] 52)=w0 at *;have z0:=Zaa G0.out 0;have z1:=Zaa G0.out 1;have z2:=Zaa G0.out 2;have z3:=Zaa G0.out 3;have z4:=Zaa G0.out 4;have z5:=Zaa G0.out 5;have z6:=Zaa G0.out 6;have z7:=Zaa G0.out 7;have z8:=Zaa G0.out 8;have z9:=Zaa G0.out 9;simp at z0 z1 z2 z3 z4 z5 z6 z7 z8 z9;have hz0:=Zab G0.out;have hw0:=B0.size
 go_loopw [4,3] (fun i o wr=>∃ (k:Nat) (u:Value),k<=N/\i=.int .i64 ((k:Int)+1)/\o=u/\Hid (wr.ownsRow w0.heap.size 3 1 u (upsK zs k).length (Zbb (upsK zs k)))/\Below w0.heap.size w0 wr) (fun i _ _=>N+1-(intOf i).toNat)
 case atStart=>exact ⟨0,_,by omega,rfl,rfl,hide (by simp [upsK,Zbb];exact YAZ _ _ _ _),YAC _ _⟩
 case round=>
  obtain⟨k,u,hk,rfl,rfl,OW,hnx⟩:=hrel;obtain⟨ua,uc,hue⟩:=ZcD OW.out;have hsz:=hnx.size;replace z0:=(hnx.cell hz0).trans z0;replace z1:=(hnx.cell hz0).trans z1;replace z2:=(hnx.cell hz0).trans z2;replace z3:=(hnx.cell hz0).trans z3;replace z4:=(hnx.cell hz0).trans z4;replace z5:=(hnx.cell hz0).trans z5;replace z6:=(hnx.cell hz0).trans z6;replace z7:=(hnx.cell hz0).trans z7;replace z8:=(hnx.cell hz0).trans z8;replace z9:=(hnx.cell hz0).trans z9;by_cases hlt:k<N
  ·obtain ⟨b,hb⟩:∃ b,upB zs k=b:=⟨_,rfl⟩;have hI:upI N zs ((k:Int)+1)=b:=by
    unfold upI;rw [show inB ((k:Int)+1) 1 (N:Int)=true by simp [inB];omega,show ((k:Int)+1-1).toNat=k by omega,hb];rfl
   have HCX:=hide (HU.out wr (B0.trans (hnx.mono hw0)) ((k:Int)+1));rw [hI] at HCX;have HST:=hide (show upsK zs (k+1)=upsK zs k++(if b then [(k:Int)+1] else []) by rw [<-hb];rfl);have hpl:=ZjF zs k;have hle:(k:Int)+1<=(N:Int):=by omega
   clear hI hb;subst hue
   go_wp2_with fail
   refine HCX.out.mono ?_;rintro e w1 ⟨rfl,b1⟩;have hs1:=b1.size;have OW1:=hide (Zad OW.out b1 (YA _));have BF:Below w0.heap.size w0 w1:=hnx.trans (b1.mono hsz);clear b1 z0 z1 z2 z3 z4 z5 z6 z7 z8 z9;cases b
   ·go_wp2;go_roundw
    case rel=>exact ⟨k+1,_,by omega,by go_num,rfl,hide (by rw [HST.out];simp only [Bool.false_eq_true,if_false,List.append_nil];exact OW1.out),BF⟩
    case measure=>simp [intOf];omega
   ·go_wp2_with (first
     | (at_builtin;refine Zbp _ rfl _ _ 40 rfl w0.heap.size 3 Tryz.underlying40 Tryz.info3 _ (upsK zs k) ((k:Int)+1) rfl (OW1.out.alloc _) ⟨w1.heap.size,0,none⟩ 1 rfl ?_ (by omega) (by simp;omega) ?_))
    ·rw [add_zero',World.cell?_alloc_at _ _ _ _ rfl];rfl
    intro v' w4 l' hl' hown' hgrow;have hb4:Below w0.heap.size w0 w4:=(BF.alloc (by omega) _).grown hgrow (by simp;omega) (fun k hk=>(OW1.out.lt k hk).1);have OW2:=hide (show w4.ownsRow w0.heap.size 3 1 v' (upsK zs (k+1)).length (Zbb (upsK zs (k+1))) by
     have e:l'=upsK zs (k+1):=by rw [hl'.out,HST.out];rfl
     rw [<-e];exact hown')
    clear hgrow hown' hl';go_wp2;go_roundw
    case rel=>exact ⟨k+1,_,by omega,by go_num,rfl,OW2,hb4⟩
    case measure=>simp [intOf];omega
  ·have KN:=hide (show k=N by omega);have hle:¬(k:Int)+1<=(N:Int):=by omega
   subst hue;go_wp2;go_ret;have h1:=OW.out;rw [KN.out] at h1;exact⟨_,by rw [KN.out];rfl,ZfP h1 hw0,B0.trans (hnx.mono hw0)⟩
theorem Zhi (x y:RecD):Zap x y=true↔x.area=y.area/\x.kind=y.kind/\x.owner=y.owner/\x.key=y.key:=by
 simp [Zap,and_assoc]
def difK (x y:RecD):Prop:=Zap x y=false
theorem Zq5 (xs:List RecD)(r x:RecD):x∈putD xs r↔x=r\/(x∈xs/\Zap x r=false):=by
 unfold putD;simp only [YAY,YAF,YAP,YAw];constructor
 ·rintro (h | h | h)
  ·refine .inr ⟨h.1,?_⟩;cases e:Zap x r with
   | false=>rfl
   | true=>rw [(Zbq e).1] at h;exact absurd h.2 (by decide)
  ·exact .inl h
  ·refine .inr ⟨h.1,?_⟩;cases e:Zap x r with
   | false=>rfl
   | true=>rw [(Zbq e).2] at h;exact absurd h.2 (by decide)
 ·rintro (h | ⟨h,hk⟩)
  ·exact .inr (.inl h)
  ·rcases ZiK x r with e | e | e
   ·exact .inl ⟨h,e⟩
   ·rw [hk] at e;cases e
   ·exact .inr (.inr ⟨h,e⟩)
theorem Zd5 :∀ (ts xs:List RecD)(x:RecD),ts.Pairwise difK->(x∈ts.foldl putD xs↔x∈ts\/(x∈xs/\∀ t∈ts,Zap x t=false))
 | [],xs,x,_=>by simp
 | t::ts,xs,x,h=>by
  rw [List.foldl_cons,Zd5 ts (putD xs t) x (YAo.1 h).2,Zq5];have h1:=(YAo.1 h).1;constructor
  ·rintro (h2 | ⟨h2 | h2,h3⟩)
   ·exact .inl (YAg _ h2)
   ·exact .inl (by rw [h2];exact List.mem_cons_self ..)
   ·refine .inr ⟨h2.1,fun u hu=>?_⟩;rcases YAb.1 hu with e | e
    ·rw [e];exact h2.2
    ·exact h3 u e
  ·rintro (h2 | ⟨h2,h3⟩)
   ·rcases YAb.1 h2 with e | e
    ·refine .inr ⟨.inl e,fun u hu=>?_⟩;rw [e];exact h1 u hu
    ·exact .inl e
   ·exact .inr ⟨.inr ⟨h2,h3 t (List.mem_cons_self ..)⟩,fun u hu=>h3 u (YAg _ hu)⟩
theorem Zes :∀ (ts xs:List RecD),Asc xs->Asc (ts.foldl putD xs)
 | [],_,h=>h
 | t::ts,xs,h=>Zes ts (putD xs t) (ZiJ h t)
theorem ZhH (xs ts:List RecD):ZdW xs ts=(ts.map seq1).foldl putD xs:=by
 unfold ZdW;rw [List.foldl_map]
theorem ZrG (h:Asc xs):xs.Pairwise difK:=h.imp (fun {a b} hab=>by
 unfold difK;cases e:Zap a b with
 | false=>rfl
 | true=>rw [(Zbq e).1] at hab;cases hab)
theorem ZrH (h:Asc xs){x y:RecD}(hx:x∈xs)(hy:y∈xs)(hs:Zap x y=true):x=y:=by
 induction xs with
 | nil=>cases hx
 | cons z zs ih=>
  have h1:=(YAo.1 h);rcases YAb.1 hx with rfl | hx'
  ·rcases YAb.1 hy with e | hy'
   ·exact e.symm
   ·have:=h1.1 y hy';rw [(Zbq hs).1] at this;cases this
  ·rcases YAb.1 hy with rfl | hy'
   ·have:=h1.1 x hx';rw [(Zbq hs).2] at this;cases this
   ·exact ih h1.2 hx' hy'
theorem Zg9 (h:ZdY xs r=true):ZeZ xs r∈xs/\Zap (ZeZ xs r) r=true:=by
 rcases ZcY xs r with hz | ⟨k,x,hz,hx,hs⟩
 ·rw [(Zfv hz).2] at h;cases h
 ·rw [(Zi2 hz hx).1];exact⟨YAG hx,hs⟩
theorem Zi3 (h:ZdY xs r=false):ZeZ xs r=Za9/\∀ x∈xs,Zap x r=false:=by
 rcases ZcY xs r with hz | ⟨k,x,hz,hx,hs⟩
 ·refine ⟨(Zfv hz).1,fun x hx=>?_⟩;cases e:Zap x r with
  | false=>rfl
  | true=>
   unfold atZ at hz;cases hi:xs.findIdx? (fun x=>Zap x r) with
   | none=>rw [List.findIdx?_eq_none_iff] at hi;rw [hi x hx] at e;cases e
   | some i=>rw [hi] at hz;simp at hz
 ·rw [(Zi2 hz hx).2] at h;cases h
theorem Zqe {x:RecD}(ha:Asc xs)(hx:x∈xs)(hs:Zap x r=true):ZeZ xs r=x/\ZdY xs r=true:=by
 cases e:ZdY xs r with
 | false=>rw [(Zi3 e).2 x hx] at hs;cases hs
 | true=>
  have h:=Zg9 e;refine⟨ZrH ha h.1 hx ?_,rfl⟩;rw [Zhi] at *;obtain⟨_,a,b,c,d⟩:=h;obtain⟨a',b',c',d'⟩:=hs;exact⟨a.trans a'.symm,b.trans b'.symm,c.trans c'.symm,d.trans d'.symm⟩
theorem Zm5 (hx:Asc xs)(hy:Asc ys)(h:∀ z,Zap z r=true->(z∈xs↔z∈ys)):ZeZ xs r=ZeZ ys r/\ZdY xs r=ZdY ys r:=by
 cases e:ZdY xs r with
 | true=>
  have h1:=Zg9 e;have h2:=Zqe hy ((h _ h1.2).1 h1.1) h1.2;exact⟨h2.1.symm,h2.2.symm⟩
 | false=>
  have h1:=Zi3 e;cases e2:ZdY ys r with
  | false=>exact ⟨h1.1.trans (Zi3 e2).1.symm,rfl⟩
  | true=>
   have h2:=Zg9 e2;have:=h1.2 _ ((h _ h2.2).2 h2.1);rw [h2.2] at this;cases this
theorem Zir (h:Zax xs=true):Asc xs:=by
 unfold Zax at h;simp only [YAJ] at h;exact asc_of h.2
theorem ZnS (hx:Zax xs=true)(hy:Zax ys=true)(h:∀ z,z.kind=1->z.area=a->(z∈xs↔z∈ys)):ZbE xs a src=ZbE ys a src:=by
 have hn:∀ node,Zcd xs a node=Zcd ys a node/\Zdt xs a node=Zdt ys a node:=fun node=>
  Zm5 (Zir hx) (Zir hy) (fun z hz=>by
   have:=(Zhi _ _).1 hz;exact h z this.2.1 this.1)
 have hl:Zb3 xs a=Zb3 ys a:=by
  funext u v;unfold Zb3 Znm Zc8;simp only [(hn _).1]
 have hw:ZaX xs a src=ZaX ys a src:=by
  funext ds;unfold ZaX;rw [hx,hy,(hn src).2,hl]
 by_cases hd:∃ ds,ZaX xs a src ds
 ·obtain ⟨ds,hds⟩:=hd;have h1:=ZaX.eq hds;rw [hw] at hds;rw [<-h1, <-ZaX.eq hds]
 ·have hd2:¬∃ ds,ZaX ys a src ds:=by rw [<-hw];exact hd
  unfold ZbE;rw [dif_neg hd,dif_neg hd2]
theorem Zix (hx:Zax xs=true)(hy:Zax ys=true)(ha:area∈al)(h1:∀ z,z.kind=1->z.area∈al->(z∈xs↔z∈ys))(h2:∀ z,z.kind=2->z.owner≠src->z.area∈al->(z∈xs↔z∈ys))(to c:Int):
  Zcl xs al src area to c↔Zcl ys al src area to c:=by
 have hw:∀ a∈al,ZbE xs a src=ZbE ys a src:=fun a hin=>ZnS hx hy (fun z hk hz=>h1 z hk (by rw [hz];exact hin));have e1:Zcv xs area src to=Zcv ys area src to:=by unfold Zcv;rw [hw area ha]
 have e2:Zaq xs al src to=Zaq ys al src to:=by
  funext w;unfold Zaq;apply propext;constructor
  ·rintro ⟨a,b,hb,hc⟩;exact⟨a,b,hb,by rw [<-hw b hb];exact hc⟩
  ·rintro ⟨a,b,hb,hc⟩;exact⟨a,b,hb,by rw [hw b hb];exact hc⟩
 have e3:Zbw xs al true src to=Zbw ys al true src to:=by
  funext d;unfold Zbw outS Zcz;rw [e2];apply propext;constructor
  ·rintro ⟨p,a,ha',hb,hd,r,hr,hk,har,ho,v,hv⟩;exact⟨p,a,ha',hb,hd,r,(h2 r hk ho (by rw [har];exact ha')).1 hr,hk,har,ho,v,by rw [<-hw a ha'];exact hv⟩
  ·rintro ⟨p,a,ha',hb,hd,r,hr,hk,har,ho,v,hv⟩;exact⟨p,a,ha',hb,hd,r,(h2 r hk ho (by rw [har];exact ha')).2 hr,hk,har,ho,v,by rw [hw a ha'];exact hv⟩
 unfold Zcl;rw [e1,e2,e3]
theorem Zgt {ds:List RecD}(hx:Zax xs=true)(hy:Zax ys=true)(ha:area∈al)(h1:∀ z,z.kind=1->z.area∈al->(z∈xs↔z∈ys))(h2:∀ z,z.kind=2->z.owner≠src->z.area∈al->(z∈xs↔z∈ys))(h:ZbO xs al src area ds):ZbO ys al src area ds:=
 ⟨h.1,fun r=>by rw [h.2 r];constructor <;> (rintro ⟨to,c,e,ht⟩;exact⟨to,c,e,by first | exact (Zix hx hy ha h1 h2 to c).1 ht | exact (Zix hx hy ha h1 h2 to c).2 ht⟩)⟩
def offQ (r:RecD)(d:WayD):RtD:=if r.far then ⟨true,r.key,4,d.cost,r.cost,d.hops⟩ else ⟨true,r.key,3,r.cost+d.cost,0,d.hops⟩
theorem Zo5 (r:RecD)(d:WayD):wOf (offQ r d)=⟨r.key,Zsc r.far r.cost d.cost,d.hops⟩:=by
 unfold offQ Zsc wOf;cases r.far <;> simp
theorem Zo4 (r:RecD)(d:WayD):(offQ r d).hops=d.hops:=by unfold offQ;split <;> rfl
theorem Zr4 {d:WayD}(hs:Zax xs=true)(hr:r∈xs)(hd:ZkS ds)(he:ZkS es)(hk:r.kind=3)(hc:r.cost<60000)(ho:ZcO ds es src r.owner=some d):OffR (offQ r d):=by
 have h1:=Zkv hs hr hk hc;have h2:=Zho hd he ho;unfold offQ;cases hf:r.far
 ·rw [if_neg (by simp)];exact⟨rfl,.inl ⟨rfl,rfl⟩,by show 0<=r.cost+d.cost/\r.cost+d.cost<=61000;omega,by simp,h2.2.1,h2.2.2,h1.1⟩
 ·rw [if_pos rfl];exact⟨rfl,.inr rfl,by show 0<=d.cost/\d.cost<=61000;omega,by show 0<=r.cost/\r.cost<=1000;omega,h2.2.1,h2.2.2,h1.1⟩
theorem Zo6 (r:RecD)(d:WayD)(na ua:Option Addr)(nn nc un uc:Nat)(w:World)(hr:0<=r.cost/\r.cost<=60000)(hd:0<=d.cost/\d.cost<=60000):
  Calls Tryz.prog 97 #[.agg (recC r (.slice na nn nc)),.agg (wayC d (.slice ua un uc))] w fun e w'=>e=.returned (.agg (rtC (offQ r d) (.slice ua un uc)))/\Below w.heap.size w w':=by
 cases hf:r.far
 ·skip
  have hoq:offQ r d=⟨true,r.key,3,r.cost+d.cost,0,d.hops⟩:=by unfold offQ;rw [hf];rfl
  rw [hoq];clear hoq;unfold rtC recC wayC;rw [hf];have BB:=hide ((ZaB (w:=w) (.cells #[.int .i64 r.area,.int .i64 r.kind,.int .i64 r.owner,.int .i64 r.key,.int .i64 r.seq,.slice na nn nc,.int .i64 r.cost,.bool false] 37) (.cells #[.int .i64 d.to,.int .i64 d.cost,.slice ua un uc] 108)).alloc (by simp;omega) (.cells #[.bool true,.int .i64 r.key,.int .i64 3,.int .i64 (r.cost+d.cost),.int .i64 (0),.slice ua un uc] 42));clear hf
  go_enter Tryz.func97,Tryz.ntmps97
  go_wp2
  go_returns
  exact⟨rfl,BB.out⟩
 ·skip
  have hoq:offQ r d=⟨true,r.key,4,d.cost,r.cost,d.hops⟩:=by unfold offQ;rw [hf];rfl
  rw [hoq];clear hoq;unfold rtC recC wayC;rw [hf];have BB:=hide ((ZaB (w:=w) (.cells #[.int .i64 r.area,.int .i64 r.kind,.int .i64 r.owner,.int .i64 r.key,.int .i64 r.seq,.slice na nn nc,.int .i64 r.cost,.bool true] 37) (.cells #[.int .i64 d.to,.int .i64 d.cost,.slice ua un uc] 108)).alloc (by simp;omega) (.cells #[.bool true,.int .i64 r.key,.int .i64 4,.int .i64 (d.cost),.int .i64 (r.cost),.slice ua un uc] 42));clear hf
  go_enter Tryz.func97,Tryz.ntmps97
  go_wp2
  go_returns
  exact⟨rfl,BB.out⟩
def OffK (xs:List RecD)(ds es:List WayD)(src:Int)(k:Nat)(ys:List RtD):Prop:=∀ y,y∈ys↔∃ r∈xs.take k,r.kind=3/\r.cost<60000/\∃ d,ZcO ds es src r.owner=some d/\y=offQ r d
theorem OffK.quiet {k:Nat}{ys:List RtD}(h:OffK xs ds es src k ys)(hr:xs[k]? = some r)(hn:r.kind=3->r.cost<60000->ZcO ds es src r.owner=none):OffK xs ds es src (k+1) ys:=by
 obtain⟨hk,e⟩:=YAD.1 hr;intro y;rw [h y,YAI hk,e];constructor
 ·rintro ⟨x,hx,ht⟩;exact⟨x,YAF.2 (.inl hx),ht⟩
 ·rintro ⟨x,hx,h1,h2,d,h3,h4⟩;rcases YAF.1 hx with h5 | h5
  ·exact ⟨x,h5,h1,h2,d,h3,h4⟩
  ·have:x=r:=by simpa using h5
   subst this;rw [hn h1 h2] at h3;cases h3
theorem OffK.more {k:Nat}{ys:List RtD}{d:WayD}(h:OffK xs ds es src k ys)(hr:xs[k]? = some r)(h1:r.kind=3)(h2:r.cost<60000)(h3:ZcO ds es src r.owner=some d):OffK xs ds es src (k+1) (ys++[offQ r d]):=by
 obtain⟨hk,e⟩:=YAD.1 hr;intro y;rw [YAF,h y,YAI hk,e];constructor
 ·rintro (⟨x,hx,ht⟩ | h4)
  ·exact ⟨x,YAF.2 (.inl hx),ht⟩
  ·have:y=offQ r d:=by simpa using h4
   exact⟨r,YAF.2 (.inr (by simp)),h1,h2,d,h3,this⟩
 ·rintro ⟨x,hx,g1,g2,d',g3,g4⟩;rcases YAF.1 hx with h5 | h5
  ·exact .inl ⟨x,h5,g1,g2,d',g3,g4⟩
  ·have:x=r:=by simpa using h5
   subst this;rw [h3] at g3;cases g3;exact .inr (by simp [g4])
theorem Zo2 {ys bs:List RtD}(h:OffK xs ds es src xs.length ys)(hb:ZcP ys bs):ZaE (ZpG xs ds es src) (bs.map wOf):=by
 unfold ZcP at hb;refine hb.congr (fun to d=>?_);constructor
 ·rintro ⟨q,hq,rfl,ht⟩;obtain⟨r,hr,h1,h2,v,h3,rfl⟩:=(h q).1 hq;rw [YAh] at hr;exact⟨ht,r,hr,h1,h2,v,h3,Zo5 r v⟩
 ·rintro ⟨ht,r,hr,h1,h2,v,h3,rfl⟩;refine⟨offQ r v,(h _).2 ⟨r,by rw [YAh];exact hr,h1,h2,v,h3,rfl⟩,(Zo5 r v).symm,?_⟩;have:=congrArg WayD.to (Zo5 r v);exact this.trans ht
theorem Zq7 {bs:List QP}(h:OffL bs):((Za7 bs).map wOf).map rtOf=Za7 bs:=by
 rw [List.map_map];have:∀ y∈Za7 bs,(rtOf ∘ wOf) y=y:=fun y hy=>by
  obtain⟨b,hb,rfl⟩:=YAR.1 hy;exact (h b hb).rt
 conv=>rhs;rw [<-List.map_id (Za7 bs)]
 exact List.map_congr_left this
theorem Zo3 {os:List QP}{p:QP}(h:OffL os)(hp:OffR p.1):OffL (os++[p]):=fun b hb=>by
 rcases YAF.1 hb with h1 | h1
 ·exact h b h1
 ·have:b=p:=by simpa using h1
  subst this;exact hp
theorem Zln (v vc:Value)(ps:List RP)(cs:List WP)(ds es:List WayD)(hc:Zaj cs=ds++es)(hi lo2 hi2:Nat)(src:Int)(w:World)(hv:RecsIn w hi v ps)(hhi:hi<=w.heap.size)(hw:WaysOwn w lo2 hi2 vc cs)(hh2:hi2<=w.heap.size)(hnw:totW cs<=1048576)(hs:Zax (fsts ps)=true)(hgd:ZkS ds)(hge:ZkS es):
  Calls Tryz.prog 63 #[v,vc,.int .i64 src] w fun e w'=>∃ x bs,e=.returned x/\OffL bs/\ZaE (ZpG (fsts ps) ds es src) ((Za7 bs).map wOf)/\RtsOwn w' w.heap.size w'.heap.size x bs/\Below w.heap.size w w':=by
 obtain⟨a0,c0,rfl⟩:=Zac hv.row;obtain⟨a1,c1,rfl⟩:=Zac hw.row;have hpl:ps.length<=150:=by
  unfold Zax at hs;simp only [YAJ,YAS] at hs;have:=hs.1.1;simpa [fsts] using this
 have HOW:=hide (fun (o:Int) W (hb:Below w.heap.size w W)=>Znh (.slice a1 cs.length c1) cs ds es hc o src W (fun W' hb'=>Zew (.slice a1 cs.length c1) cs lo2 hi2 o W' ((hw.below hb hh2).below hb' (YAK hh2 hb.size)) (YAK (YAK hh2 hb.size) hb'.size) hnw) ⟨_,_,_,rfl⟩);unfold wayC at HOW;have HV:=hide hv;have HRT:=hide (fun r (hr:r∈fsts ps)=>Zkv hs hr);have HGO:=hide (fun o d (h:ZcO ds es src o=some d)=>Zho hgd hge h);have HOK:=hide (fun r d (hr:r∈fsts ps)=>Zr4 (src:=src) (d:=d) hs hr hgd hge);clear hv hw hs hgd hge hc
 go_enter Tryz.func63,Tryz.ntmps63
 go_wp2
 go_loopw [14,7] (fun i o wr=>∃ (k:Nat) (x:Value) (os:List QP),k<=ps.length/\i=.int .i64 (k:Int)/\o=x/\RtsOwn wr w.heap.size wr.heap.size x os/\Hid (OffK (fsts ps) ds es src k (Za7 os))/\OffL os/\os.length<=k/\Below w.heap.size w wr) (fun i _ _=>ps.length-(intOf i).toNat)
 case atStart=>exact ⟨0,_,[],by omega,rfl,rfl,⟨YAZ _ _ _ _,fun k hk=>by simp [Value.ownBlock] at hk,by simp,by simp⟩,hide (fun y=>by simp [Za7]),fun b hb=>by simp at hb,by simp,YAC _ _⟩
 case round=>
  obtain⟨k,x,os,hk,rfl,rfl,hown,HM,hol,hql,BW⟩:=hrel;obtain⟨xa,xc,rfl⟩:=Zac hown.row;have hsz:=BW.size;by_cases hlt:k<ps.length
  ·obtain ⟨p,hp⟩:∃ p,ps[k]? = some p:=⟨ps[k],YAA hlt⟩;obtain⟨bb,off,cap',hve,hbb,c0,c1,c2,c3,c4,c5,c6,c7,hnr⟩:=HV.out.at.cells k p hp;cases hve;obtain⟨pa,pc,hpn⟩:=Zat.shape hnr;rw [hpn] at c5;replace c0:=(BW.cell (YAB hbb hhi)).trans c0;replace c1:=(BW.cell (YAB hbb hhi)).trans c1;replace c2:=(BW.cell (YAB hbb hhi)).trans c2;replace c3:=(BW.cell (YAB hbb hhi)).trans c3;replace c4:=(BW.cell (YAB hbb hhi)).trans c4;replace c5:=(BW.cell (YAB hbb hhi)).trans c5;replace c6:=(BW.cell (YAB hbb hhi)).trans c6;replace c7:=(BW.cell (YAB hbb hhi)).trans c7;have HPP:=hide (Zbf hp);have HPM:=hide (YAG (Zbf hp));have BAL:Below wr.heap.size wr (wr.alloc (.cells #[.int .i64 p.1.area,.int .i64 p.1.kind,.int .i64 p.1.owner,.int .i64 p.1.key,.int .i64 p.1.seq,.slice pa p.1.near.length pc,.int .i64 p.1.cost,.bool p.1.far] 37)):=(YAC _ _).alloc (YA _) _;have hxl:=YAE wr (.cells #[.int .i64 p.1.area,.int .i64 p.1.kind,.int .i64 p.1.owner,.int .i64 p.1.key,.int .i64 p.1.seq,.slice pa p.1.near.length pc,.int .i64 p.1.cost,.bool p.1.far] 37);obtain⟨wl,hwl⟩:∃ W,W=(wr.alloc (.cells #[.int .i64 p.1.area,.int .i64 p.1.kind,.int .i64 p.1.owner,.int .i64 p.1.key,.int .i64 p.1.seq,.slice pa p.1.near.length pc,.int .i64 p.1.cost,.bool p.1.far] 37)):=⟨_,rfl⟩;rw [<-hwl] at BAL hxl;have hki:(0:Int)<=(k:Int):=by omega
   have hkj:(k:Int)<(ps.length:Int):=by omega
   have HOL:=hide hol;have HOW2:=hide hown;have HBW:=hide BW;clear hp hnr hpn hol hown BW;by_cases hK:p.1.kind=3
   case neg=>
    have hd:(p.1.kind != 3)=true:=by simpa using hK
    have HhK:=hide hK;clear hK;have HN:=hide (show OffK (fsts ps) ds es src (k+1) (Za7 os) from HM.out.quiet HPP.out (fun h _=>absurd h HhK.out));have N1:=hide ((HOW2.out.below BAL (YA _)).wide (YA _) BAL.size);have N2:=hide (HBW.out.trans (BAL.mono hsz));rw [hwl] at N1 N2;clear HM HPP HPM HOW BAL hwl hxl HRT HGO HOK HOW2 HBW;go_wp2;go_roundw
    case rel=>exact ⟨k+1,_,os,by omega,by go_num,rfl,N1.out,HN,HOL.out,by omega,N2.out⟩
    case measure=>simp [intOf];omega
   have hdK:(p.1.kind != 3)=false:=by simpa using hK
   have HhK:=hide hK;clear hK;by_cases hC:p.1.cost<60000
   case neg=>
    have hd:p.1.cost>=60000:=by omega
    have HhC:=hide hC;clear hC;have HN:=hide (show OffK (fsts ps) ds es src (k+1) (Za7 os) from HM.out.quiet HPP.out (fun _ h=>absurd h HhC.out));have N1:=hide ((HOW2.out.below BAL (YA _)).wide (YA _) BAL.size);have N2:=hide (HBW.out.trans (BAL.mono hsz));rw [hwl] at N1 N2;clear HM HPP HPM HOW BAL hwl hxl HRT HGO HOK HOW2 HBW;go_wp2;go_roundw
    case rel=>exact ⟨k+1,_,os,by omega,by go_num,rfl,N1.out,HN,HOL.out,by omega,N2.out⟩
    case measure=>simp [intOf];omega
   have hdC:¬p.1.cost>=60000:=by omega
   have hrb:=HRT.out p.1 HPM.out HhK.out hC;have HhC:=hide hC;clear hC;have hfd:=ZqT ds es src p.1.owner;have HW:=HOW.out p.1.owner wl (HBW.out.trans (BAL.mono hsz));obtain⟨D,hD⟩:∃ D,D=ownD ds es src p.1.owner:=⟨_,rfl⟩;obtain⟨FB,hFB⟩:∃ F,F=ownB ds es src p.1.owner:=⟨_,rfl⟩;rw [<-hD, <-hFB] at HW hfd;have hx2:=Zaa hxl 2;simp at hx2;rw [hwl] at hx2;have HXL:=hide hxl;have HWW:=hide HW;have HFD:=hide hfd;have HBL:=hide BAL;clear HW hfd hD hFB hxl BAL HOW
   go_wp2_with fail
   rw [<-hwl];clear hwl hx2;refine HWW.out.mono ?_;rintro e w3 ⟨du,rfl,hdu,b3⟩;obtain⟨da,dc,rfl⟩:=Zac hdu;have hb3:=b3.size;have hbl:=HBL.out.size;have hxl3:=(b3.block _ (Zab HXL.out)).trans HXL.out;have B3:Below wr.heap.size wr w3:=HBL.out.trans (b3.mono hbl);have BA:Below w3.heap.size w3 (w3.alloc (.cells #[.int .i64 D.to,.int .i64 D.cost,.slice da D.hops.length dc] 108)):=(YAC _ _).alloc (YA _) _;have B4:Below wr.heap.size wr (w3.alloc (.cells #[.int .i64 D.to,.int .i64 D.cost,.slice da D.hops.length dc] 108)):=B3.trans (BA.mono (by omega));cases FB
   ·have HN:=hide (show OffK (fsts ps) ds es src (k+1) (Za7 os) from HM.out.quiet HPP.out (fun _ _=>by
     rcases HFD.out with ⟨h1,_⟩ | ⟨_,h2,_⟩
     ·cases h1
     ·exact h2))
    have N1:=hide ((HOW2.out.below B4 (YA _)).wide (YA _) B4.size);have N2:=hide (HBW.out.trans (B4.mono hsz));clear HM HPP HPM HBL B3 B4 BA HRT HGO HOK HOW2 HBW HFD hdu b3 hxl3 HXL HWW;go_wp2;go_roundw
    case rel=>exact ⟨k+1,_,os,by omega,by go_num,rfl,N1.out,HN,HOL.out,by omega,N2.out⟩
    case measure=>simp [intOf];omega
   have hfound:ZcO ds es src p.1.owner=some D:=by
    rcases HFD.out with ⟨_,h2⟩ | ⟨h1,_⟩
    ·exact h2
    ·cases h1
   have hDg:=HGO.out p.1.owner D hfound;have HN:=hide (HM.out.more HPP.out HhK.out HhC.out hfound);have HNO:=hide (HOK.out p.1 D HPM.out HhK.out HhC.out hfound);have HOF:=hide (fun W=>Zo6 p.1 D pa da p.1.near.length pc D.hops.length dc W (by omega) hDg.1);unfold recC wayC at HOF;have hxl4:=(BA.block _ (Zab hxl3)).trans hxl3;have hx4:=YAE w3 (.cells #[.int .i64 D.to,.int .i64 D.cost,.slice da D.hops.length dc] 108);have r0:=Zaa hxl4 0;have r1:=Zaa hxl4 1;have r2:=Zaa hxl4 2;have r3:=Zaa hxl4 3;have r4:=Zaa hxl4 4;have r5:=Zaa hxl4 5;have r6:=Zaa hxl4 6;have r7:=Zaa hxl4 7;have d0:=Zaa hx4 0;have d1:=Zaa hx4 1;have d2:=Zaa hx4 2;simp only [YAd,YAX,YAW] at r0 r1 r2 r3 r4 r5 r6 r7 d0 d1 d2;have HB4:=hide B4;have HDU:=hide (hdu.alloc (.cells #[.int .i64 D.to,.int .i64 D.cost,.slice da D.hops.length dc] 108));have hwls:wr.heap.size<wl.heap.size:=Zab HXL.out;clear HM HPP HPM HBL B3 B4 BA HRT HGO HOK HFD hdu b3 hxl3 hxl4 hx4 HXL HWW hfound hDg
   go_wp2_with fail
   refine (HOF.out _).mono ?_;rintro e w5 ⟨rfl,b5⟩;have B5:Below wr.heap.size wr w5:=HB4.out.trans (b5.mono HB4.out.size);have hd5:=Zad HDU.out b5 (YA _);obtain⟨Q,hQ⟩:∃ Q,Q=offQ p.1 D:=⟨_,rfl⟩;have hQh:Q.hops=D.hops:=by rw [hQ];exact Zo4 _ _
   rw [<-hQ] at HN HNO |-;rw [<-hQh] at hd5 |-;have HQO:=hide (show Zbv w5 wr.heap.size w5.heap.size (Q,.slice da Q.hops.length dc) from ⟨Zaf hd5 (by omega),fun j hj=>(hd5.lt j hj).2⟩);have HB5:=hide B5;have hw5:=B5.size;clear hQ hQh hd5 HDU HB4 b5 HOF B5;unfold rtC;have BZ:=hide (HB5.out.alloc hw5 (.cells (encQ (Q,.slice da Q.hops.length dc)).toArray 42));have OW:=hide ((Zad HOW2.out.row HB5.out (YA _)).alloc (.cells (encQ (Q,.slice da Q.hops.length dc)).toArray 42))
   go_wp2_with (first
    | (at_builtin;refine ZaZ Zcg (by omega) (by omega) _ rfl _ _ 38 rfl w.heap.size 42 Tryz.underlying38 (.agg (rtC Zf3 (.slice none 0 0))) rfl Tryz.infoRoute _ os (Q,.slice da Q.hops.length dc) (Zep _ _ _ _) rfl OW.out ⟨w5.heap.size,0,none⟩ 1 rfl (Zan (cs:=encQ (Q,.slice da Q.hops.length dc))) (by omega) (by simp;omega) ?_))
   intro v' w6 hown' hgrow hat;have NW:=hide (HOW2.out.push BZ.out (((HQO.out.keep (W':=w5.alloc (.cells (encQ (Q,.slice da Q.hops.length dc)).toArray 42)) (fun j _ h2 h3=>((YAC w5.heap.size w5).alloc (YA _) (.cells (encQ (Q,.slice da Q.hops.length dc)).toArray 42)).block j h3)).wide hsz (by simp))) (fun b hb j hj e=>by
    have h1:=(HOW2.out.nears b hb).2 j hj;have h2:=(HQO.out.1.lt j e).1;omega) (by simpa using hown') hgrow)
   have N2:=hide ((HBW.out.trans (BZ.out.mono hsz)).grown hgrow (by have:=BZ.out.size;omega) (fun j hj=>(HOW2.out.row.lt j hj).1));have N3:=hide (show OffK (fsts ps) ds es src (k+1) (Za7 (os++[(Q,.slice da Q.hops.length dc)])) by rw [Zbm];exact HN.out);have N4:=hide (Zo3 (p:=(Q,.slice da Q.hops.length dc)) HOL.out HNO.out);obtain⟨va,vc,rfl⟩:=Zac hown';clear hown' hgrow hat OW BZ HOW2 HQO HB5 HN HNO HBW HOL;go_wp2;go_roundw
   case rel=>exact ⟨k+1,_,os++[(Q,.slice da Q.hops.length dc)],by omega,by go_num,rfl,NW.out,N3,N4.out,by simp;omega,N2.out⟩
   case measure=>simp [intOf];omega
  ·have hkn:¬(k:Int)<(ps.length:Int):=by omega
   have HE:=hide (show OffK (fsts ps) ds es src (fsts ps).length (Za7 os) by have h:=HM.out;rw [show k=(fsts ps).length by simp [fsts];omega] at h;exact h);have HBE:=hide (Zp0 (.slice xa os.length xc) os w.heap.size wr hown hsz hol (by omega));have HBW:=hide BW;clear hown HM BW hol
   go_wp2_with fail
   refine HBE.out.mono ?_;rintro e w3 ⟨y,bs,rfl,hbq,hol3,how3,b3⟩;obtain⟨ya,yc,rfl⟩:=Zac how3.row;have N1:=hide (Zo2 HE.out hbq);have N2:=hide how3;have N3:=hide (HBW.out.trans b3);have N4:=hide hol3;clear hbq how3 b3 hol3 HBE HE;go_wp2;go_ret
   first
    | exact ⟨_,bs,rfl,N4.out,N1.out,N2.out,N3.out⟩
    | exact ⟨_,rfl,bs,N4.out,N1.out,N2.out,N3.out⟩
end Go.Proofs.YtikloccefmofdaaGreat
