/-
  WithS ILinkR
-/
import Derived.Test.YtadokhjefnkajaaGreatIe29
namespace Go.Proofs.YtadokhjefnkajaaGreat
open Go.RowKit
set_option linter.unusedSimpArgs false
set_option linter.unusedVariables false
set_option maxRecDepth 100000
set_option maxHeartbeats 8000000
def seq1 (r:RecD):RecD:=if r.seq=0 then { r with seq:=1 } else r
def Zdq (xs ts:List RecD):List RecD:=ts.foldl (fun a r=>putD a (seq1 r)) xs
theorem Zho {xs ts:List RecD}{k:Nat}{r:RecD}(h:ts[k]? = some r):Zdq xs (ts.take (k+1))=putD (Zdq xs (ts.take k)) (seq1 r):=by
 obtain⟨hk,e⟩:=List.getElem?_eq_some_iff.1 h;unfold Zdq;rw [List.take_succ_eq_append_getElem hk,e,List.foldl_append]
 rfl
theorem ZnV {ts:List RP}{k:Nat}{p:RP}(h:ts[k]? = some p):tot (ts.take (k+1))=tot (ts.take k)+(1+p.1.near.length):=by
 obtain⟨hk,e⟩:=List.getElem?_eq_some_iff.1 h;rw [List.take_succ_eq_append_getElem hk,ZcE,e];simp [tot]
theorem Zjm (ts:List RP)(k:Nat):tot (ts.take k)<=tot ts:=by
 have h:=ZcE (ts.take k) (ts.drop k);rw [List.take_append_drop] at h;omega
theorem Zph (v v2:Value)(ps ts:List RP)(hi:Nat)(w:World)(hv:RecsIn w hi v ps)(ht:RecsIn w hi v2 ts)(hhi:hi<=w.heap.size)(hn:tot ps+tot ts<=1048576):
  Calls Tryz.prog 69 #[v,v2] w fun e w'=>∃ x qs,e=.returned x/\fsts qs=Zdq (fsts ps) (fsts ts)/\RecsIn w' w'.heap.size x qs/\tot qs<=tot ps+tot ts/\Below w.heap.size w w':=by
 have htl:=Zbh ts;obtain⟨a1,c1,rfl⟩:=Zac hv.row;obtain⟨a2,c2,rfl⟩:=Zac ht.row;have HT:=hide ht;have HV0:=hide (hv.wide hhi);clear hv ht
 go_enter Tryz.func69,Tryz.ntmps69
 go_wp2
 go_loopw [6,5] (fun i o wr=>∃ (k:Nat) (x:Value) (qs:List RP),k<=ts.length/\i=.int .i64 (k:Int)/\o=x/\RecsIn wr wr.heap.size x qs/\Hid (fsts qs=Zdq (fsts ps) ((fsts ts).take k))/\tot qs<=tot ps+tot (ts.take k)/\Below w.heap.size w wr) (fun i _ _=>ts.length-(intOf i).toNat)
 case atStart=>exact ⟨0,_,ps,by omega,rfl,rfl,HV0.out,hide (by simp [Zdq]),by omega,Below.refl _ _⟩
 case round=>
  obtain⟨k,x,qs,hk,rfl,rfl,hin,HF,htq,hnx⟩:=hrel;clear HV0;obtain⟨xa,xc,rfl⟩:=Zac hin.row;have hsz:=hnx.size;by_cases hlt:k<ts.length
  ·obtain ⟨p,hp⟩:∃ p,ts[k]? = some p:=⟨ts[k],List.getElem?_eq_getElem hlt⟩
   obtain⟨bb,off,cap',hve,hbb,c0,c1,c2,c3,c4,c5,c6,c7,hnr⟩:=HT.out.at.cells k p hp;cases hve
   obtain⟨pa,pc,hpn⟩:=ZaC.shape hnr;rw [hpn] at c5;rw [<-hnx.cell (p:=⟨bb,off+k*8,none⟩) (Nat.lt_of_lt_of_le hbb hhi)] at c0;rw [<-hnx.cell (p:=⟨bb,off+k*8+1,none⟩) (Nat.lt_of_lt_of_le hbb hhi)] at c1;rw [<-hnx.cell (p:=⟨bb,off+k*8+2,none⟩) (Nat.lt_of_lt_of_le hbb hhi)] at c2;rw [<-hnx.cell (p:=⟨bb,off+k*8+3,none⟩) (Nat.lt_of_lt_of_le hbb hhi)] at c3;rw [<-hnx.cell (p:=⟨bb,off+k*8+4,none⟩) (Nat.lt_of_lt_of_le hbb hhi)] at c4;rw [<-hnx.cell (p:=⟨bb,off+k*8+5,none⟩) (Nat.lt_of_lt_of_le hbb hhi)] at c5;rw [<-hnx.cell (p:=⟨bb,off+k*8+6,none⟩) (Nat.lt_of_lt_of_le hbb hhi)] at c6;rw [<-hnx.cell (p:=⟨bb,off+k*8+7,none⟩) (Nat.lt_of_lt_of_le hbb hhi)] at c7;have htk:=ZnV hp;have htl2:=Zjm ts (k+1);have hno0:=HT.out.nears p (List.mem_of_getElem? hp);have hno1:ZaD wr 0 wr.heap.size p:=(hno0.keep (W':=wr) (fun j _ h2 _=>hnx.block j (by omega))).wide (Nat.le_refl _) (by omega)
   have hpe:p=(p.1,.slice pa p.1.near.length pc):=by rw [<-hpn]
   have hki:(0:Int)<=(k:Int):=by omega
   have hkj:(k:Int)<(ts.length:Int):=by omega
   by_cases hs0:p.1.seq=0
   ·have hd:(p.1.seq==0)=true:=by simpa using hs0
    have hse:seq1 p.1 = { p.1 with seq:=1 }:=by unfold seq1;rw [if_pos hs0]
    have hno:ZaD wr 0 wr.heap.size ({ p.1 with seq:=1 },.slice pa p.1.near.length pc):=by rw [hpe] at hno1;exact hno1
    clear hs0 hpe hno0 hno1 hnr hpn;have BA:Below wr.heap.size wr (wr.alloc (.cells #[.int .i64 p.1.area,.int .i64 p.1.kind,.int .i64 p.1.owner,.int .i64 p.1.key,.int .i64 1,.slice pa p.1.near.length pc,.int .i64 p.1.cost,.bool p.1.far] 39)):=(Below.refl _ _).alloc (Nat.le_refl _) _;have hno2:ZaD (wr.alloc (.cells #[.int .i64 p.1.area,.int .i64 p.1.kind,.int .i64 p.1.owner,.int .i64 p.1.key,.int .i64 1,.slice pa p.1.near.length pc,.int .i64 p.1.cost,.bool p.1.far] 39)) 0 (wr.alloc (.cells #[.int .i64 p.1.area,.int .i64 p.1.kind,.int .i64 p.1.owner,.int .i64 p.1.key,.int .i64 1,.slice pa p.1.near.length pc,.int .i64 p.1.cost,.bool p.1.far] 39)).heap.size ({ p.1 with seq:=1 },.slice pa p.1.near.length pc):=(hno.keep (W':=(wr.alloc (.cells #[.int .i64 p.1.area,.int .i64 p.1.kind,.int .i64 p.1.owner,.int .i64 p.1.key,.int .i64 1,.slice pa p.1.near.length pc,.int .i64 p.1.cost,.bool p.1.far] 39))) (fun j _ _ h3=>BA.block j h3)).wide (Nat.le_refl _) BA.size
    have HP:=hide (Zh6 (.slice xa qs.length xc) qs (wr.alloc (.cells #[.int .i64 p.1.area,.int .i64 p.1.kind,.int .i64 p.1.owner,.int .i64 p.1.key,.int .i64 1,.slice pa p.1.near.length pc,.int .i64 p.1.cost,.bool p.1.far] 39)).heap.size ({ p.1 with seq:=1 },.slice pa p.1.near.length pc) (wr.alloc (.cells #[.int .i64 p.1.area,.int .i64 p.1.kind,.int .i64 p.1.owner,.int .i64 p.1.key,.int .i64 1,.slice pa p.1.near.length pc,.int .i64 p.1.cost,.bool p.1.far] 39)) ((hin.below BA (Nat.le_refl _)).wide BA.size) (Nat.le_refl _) (by omega) hno2)
    have HF2:=hide (show fsts (putL qs ({ p.1 with seq:=1 },.slice pa p.1.near.length pc))=Zdq (fsts ps) ((fsts ts).take (k+1)) by
     rw [Ze0,Zho (Zbw hp), <-HF.out,hse])
    have htp:=Zie qs ({ p.1 with seq:=1 },.slice pa p.1.near.length pc)
    have HB:=hide (hnx.trans (BA.mono hnx.size));have HTK:=hide htk;have htp2:tot (putL qs ({ p.1 with seq:=1 },.slice pa p.1.near.length pc))<=tot qs+(1+p.1.near.length):=htp
    obtain⟨Q,hQ⟩:∃ Q,Q=putL qs ({ p.1 with seq:=1 },.slice pa p.1.near.length pc):=⟨_,rfl⟩
    rw [<-hQ] at HP HF2 htp2;unfold recC at HP;simp only [] at HP
    clear hno hno2 hin hse htp hp HF htk hQ
    go_wp2_with fail
    refine HP.out.mono ?_
    rintro e w2 ⟨y,rfl,hy,b2⟩;obtain⟨ya,yc,rfl⟩:=Zac hy.row;have HY:=hide hy;have HB2:=hide (HB.out.trans (b2.mono HB.out.size));clear hy b2 HP HB BA
    go_wp2
    go_roundw
    case rel=>exact ⟨k+1,_,Q,by omega,by go_num,rfl,HY.out,HF2,by have:=HTK.out;omega,HB2.out⟩
    case measure=>simp [intOf];omega
   ·have hd:(p.1.seq==0)=false:=by simpa using hs0
    have hse:seq1 p.1=p.1:=by unfold seq1;rw [if_neg hs0]
    have hno:ZaD wr 0 wr.heap.size (p.1,.slice pa p.1.near.length pc):=by rw [hpe] at hno1;exact hno1
    clear hs0 hpe hno0 hno1 hnr hpn;have BA:Below wr.heap.size wr (wr.alloc (.cells #[.int .i64 p.1.area,.int .i64 p.1.kind,.int .i64 p.1.owner,.int .i64 p.1.key,.int .i64 p.1.seq,.slice pa p.1.near.length pc,.int .i64 p.1.cost,.bool p.1.far] 39)):=(Below.refl _ _).alloc (Nat.le_refl _) _;have hno2:ZaD (wr.alloc (.cells #[.int .i64 p.1.area,.int .i64 p.1.kind,.int .i64 p.1.owner,.int .i64 p.1.key,.int .i64 p.1.seq,.slice pa p.1.near.length pc,.int .i64 p.1.cost,.bool p.1.far] 39)) 0 (wr.alloc (.cells #[.int .i64 p.1.area,.int .i64 p.1.kind,.int .i64 p.1.owner,.int .i64 p.1.key,.int .i64 p.1.seq,.slice pa p.1.near.length pc,.int .i64 p.1.cost,.bool p.1.far] 39)).heap.size (p.1,.slice pa p.1.near.length pc):=(hno.keep (W':=(wr.alloc (.cells #[.int .i64 p.1.area,.int .i64 p.1.kind,.int .i64 p.1.owner,.int .i64 p.1.key,.int .i64 p.1.seq,.slice pa p.1.near.length pc,.int .i64 p.1.cost,.bool p.1.far] 39))) (fun j _ _ h3=>BA.block j h3)).wide (Nat.le_refl _) BA.size
    have HP:=hide (Zh6 (.slice xa qs.length xc) qs (wr.alloc (.cells #[.int .i64 p.1.area,.int .i64 p.1.kind,.int .i64 p.1.owner,.int .i64 p.1.key,.int .i64 p.1.seq,.slice pa p.1.near.length pc,.int .i64 p.1.cost,.bool p.1.far] 39)).heap.size (p.1,.slice pa p.1.near.length pc) (wr.alloc (.cells #[.int .i64 p.1.area,.int .i64 p.1.kind,.int .i64 p.1.owner,.int .i64 p.1.key,.int .i64 p.1.seq,.slice pa p.1.near.length pc,.int .i64 p.1.cost,.bool p.1.far] 39)) ((hin.below BA (Nat.le_refl _)).wide BA.size) (Nat.le_refl _) (by omega) hno2)
    have HF2:=hide (show fsts (putL qs (p.1,.slice pa p.1.near.length pc))=Zdq (fsts ps) ((fsts ts).take (k+1)) by
     rw [Ze0,Zho (Zbw hp), <-HF.out,hse])
    have htp:=Zie qs (p.1,.slice pa p.1.near.length pc);have HB:=hide (hnx.trans (BA.mono hnx.size));have HTK:=hide htk;have htp2:tot (putL qs (p.1,.slice pa p.1.near.length pc))<=tot qs+(1+p.1.near.length):=htp;obtain⟨Q,hQ⟩:∃ Q,Q=putL qs (p.1,.slice pa p.1.near.length pc):=⟨_,rfl⟩;rw [<-hQ] at HP HF2 htp2;unfold recC at HP;simp only [] at HP
    clear hno hno2 hin hse htp hp HF htk hQ
    go_wp2_with fail
    refine HP.out.mono ?_
    rintro e w2 ⟨y,rfl,hy,b2⟩;obtain⟨ya,yc,rfl⟩:=Zac hy.row;have HY:=hide hy;have HB2:=hide (HB.out.trans (b2.mono HB.out.size));clear hy b2 HP HB BA
    go_wp2
    go_roundw
    case rel=>exact ⟨k+1,_,Q,by omega,by go_num,rfl,HY.out,HF2,by have:=HTK.out;omega,HB2.out⟩
    case measure=>simp [intOf];omega
  ·have hkn:¬(k:Int)<(ts.length:Int):=by omega
   have HE:=hide (show fsts qs=Zdq (fsts ps) (fsts ts) by have h:=HF.out;rw [List.take_of_length_le (by simp [fsts];omega)] at h;exact h)
   have HI:=hide hin;have hq:tot qs<=tot ps+tot ts:=by have:=Zjm ts k;omega
   clear hin HF
   go_wp2
   go_ret
   first
    | exact ⟨_,qs,rfl,HE.out,HI.out,hq,hnx⟩
    | exact ⟨_,rfl,qs,HE.out,HI.out,hq,hnx⟩
theorem ZlX {x:RecD}(h:ZaX x=true)(hk:x.kind=1):x.key=0:=by
 unfold ZaX at h;simp only [Bool.and_eq_true] at h
 have h2:=h.2;rw [if_pos hk] at h2;simp only [Bool.and_eq_true,beq_iff_eq] at h2
 exact h2.1.1.1.2
theorem Zjc {xs:List RecD}(h:ZaI xs=true){x:RecD}(hx:x∈xs):ZaX x=true:=by
 unfold ZaI at h;simp only [Bool.and_eq_true] at h
 exact Zdr h.1.2 hx
theorem Zgj {xs:List RecD}(h:ZaI xs=true){area owner:Int}{x:RecD}(hx:x∈xs):Zgi area owner x=Zaw x (ZfA area owner):=by
 have hok:=Zjc h hx;unfold Zgi Zaw ZfA;by_cases hk:x.kind=1
 ·have:=ZlX hok hk
  simp [this]
 ·have hb:(x.kind==1)=false:=by simpa using hk
  simp [hb]
theorem Zi5 {xs:List RecD}(h:ZaI xs=true)(area owner:Int):plN xs area owner=xs.findIdx? (fun x=>Zaw x (ZfA area owner)):=by
 unfold plN;cases e:xs.findIdx? (Zgi area owner) with
 | none=>
  rw [List.findIdx?_eq_none_iff] at e;rw [Eq.comm,List.findIdx?_eq_none_iff];intro x hx;rw [<-Zgj h hx];exact e x hx
 | some k=>
  obtain⟨h1,h2,h3⟩:=List.findIdx?_eq_some_iff_getElem.1 e;rw [Eq.comm,List.findIdx?_eq_some_iff_getElem];refine⟨h1,?_,fun j hj=>?_⟩
  ·rw [<-Zgj h (List.getElem_mem _)];exact h2
  ·rw [<-Zgj h (List.getElem_mem _)];exact h3 j hj
theorem ZlP {xs:List RecD}(h:ZaI xs=true)(area owner:Int):Zgh xs area owner=(plN xs area owner).isSome:=by
 unfold Zgh Zeh atZ;rw [<-Zi5 h];cases plN xs area owner with
 | none=>rfl
 | some k=>
  show (!decide ((k:Int)<0))=true
  simp
theorem Zhl {xs:List RecD}(h:ZaI xs=true)(area owner to:Int):Zib xs area owner to=((Zci xs area owner).near.find? (fun n=>n.to==to)).map (·.c):=by
 unfold Zib Zci ZeI atZ;rw [<-Zi5 h];cases e:plN xs area owner with
 | none=>rfl
 | some k=>
  obtain⟨x,hx,_,_⟩:=Zpp e
  show (match xs[k]? with
   | some x=>(x.near.find? (fun (n:Nr)=>n.to==to)).map (fun (n:Nr)=>n.c)
   | none=>none)=_
  rw [hx]
  show _=(((if ((k:Int)<0) then Za6 else xs.getD ((k:Int)).toNat Za6).near.find? (fun (n:Nr)=>n.to==to)).map (fun (n:Nr)=>n.c))
  rw [if_neg (by omega)]
  simp [hx]
def AscN (ns:List Nr):Prop:=∀ (i j:Nat) (a b:Nr),i<j->ns[i]? = some a->ns[j]? = some b->a.to<b.to
theorem ZlO {o:Int}{ns:List Nr}(h:Zbi o ns=true):AscN ns:=by
 unfold Zbi at h;simp only [Bool.and_eq_true] at h
 have hasc:=h.2;unfold ascB at hasc;rw [List.all_eq_true] at hasc;have step:∀ (j:Nat) (a b:Nr),ns[j]? = some a->ns[j+1]? = some b->a.to<b.to:=by
  intro j a b ha hb;have hj:j+1<ns.length:=(List.getElem?_eq_some_iff.1 hb).1;have:=hasc (j+1) (by simpa using hj)
  unfold Zb0 at this;simp only [ha,hb] at this
  unfold ordN at this;simp at this
  omega
 intro i j a b hij
 induction j generalizing b with
 | zero=>omega
 | succ j ih=>
  intro ha hb;have hj:j+1<ns.length:=(List.getElem?_eq_some_iff.1 hb).1;obtain⟨m,hm⟩:∃ m,ns[j]? = some m:=⟨ns[j]'(by omega),List.getElem?_eq_getElem (by omega)⟩
  have s:=step j m b hm hb;by_cases e:i=j
  ·subst e
   rw [ha] at hm;cases hm
   exact s
  ·have:=ih m (by omega) ha hm;omega
theorem ZlE {ns:List Nr}{bk:Int->Int}{v:Nat}(hv:1<=v/\v<=6)(hasc:AscN ns):∀ k,k<=ns.length->ZdA ns bk v k=(if 0<bk (v:Int) then (((ns.take k).find? (fun n=>n.to==(v:Int))).map (·.c)).getD 0 else 0):=by
 intro k
 induction k with
 | zero=>intro _;simp [ZdA]
 | succ k ih=>
  intro hk;have hlt:k<ns.length:=by omega
  rw [ZdW bk v (List.getElem?_eq_getElem hlt),ih (by omega),List.take_succ_eq_append_getElem hlt,List.find?_append]
  by_cases e:ns[k].to=(v:Int)
  ·by_cases hb:0<bk (v:Int)
   ·rw [if_pos ⟨e,by rw [e];exact Zdx.2 (by omega),by rw [e];exact hb⟩,if_pos hb]
    have hno:(ns.take k).find? (fun n=>n.to==(v:Int))=none:=by
     rw [List.find?_eq_none];intro x hx;obtain⟨i,hi,e2⟩:=List.mem_iff_getElem.1 hx;rw [List.length_take] at hi;rw [List.getElem_take] at e2;have:=hasc i k x ns[k] (by omega) (by rw [List.getElem?_eq_getElem (by omega),e2]) (List.getElem?_eq_getElem hlt)
     simp
     omega
    rw [hno];simp [e]
   ·rw [if_neg (fun hc=>by rw [e] at hc;exact hb hc.2.2),if_neg hb,if_neg hb]
  ·rw [if_neg (fun hc=>e hc.1)]
   have e2:(ns[k].to==(v:Int))=false:=by simpa using e
   simp [e2]
theorem ZiV {xs:List RecD}(h:ZaI xs=true)(area:Int){u v:Nat}(hu:1<=u/\u<=6)(hv:1<=v/\v<=6):Zgb xs area (u:Int) (v:Int)=Zdz xs area u v:=by
 unfold Zgb Zdz;rw [if_pos ⟨hu,hv⟩,Zhl h,Zhl h];unfold ZlD;have hasc:AscN (Zci xs area (u:Int)).near:=by
  unfold Zci
  rcases ZiG (xs:=xs) (r:=ZfA area (u:Int)) with hm | he
  ·rcases Zgr (Zjc h hm) with e | ⟨_,e⟩
   ·rw [e];intro i j a b _ ha _;simp at ha
   ·exact ZlO e
  ·rw [he];intro i j a b _ ha _;simp [Za6] at ha
 rw [ZlE hv hasc _ (Nat.le_refl _),List.take_length];have hback:∀ c,((Zci xs area (v:Int)).near.find? (fun n=>n.to==(u:Int))).map (·.c)=some c->0<c:=by
  intro c hc;obtain⟨n,hn,rfl⟩:=Option.map_eq_some_iff.1 hc;have:=Zgk (area:=area) (node:=(v:Int)) h n (List.mem_of_find?_eq_some hn);omega
 have htell:Zeb xs area (v:Int) (u:Int)=(((Zci xs area (v:Int)).near.find? (fun n=>n.to==(u:Int))).map (·.c)).getD 0:=by
  unfold Zeb ZgB;cases (Zci xs area (v:Int)).near.find? (fun n=>n.to==(u:Int)) <;> rfl
 cases e:((Zci xs area (v:Int)).near.find? (fun n=>n.to==(u:Int))).map (·.c) with
 | none=>
  rw [if_neg (by rw [htell,e];simp)]
 | some c=>
  rw [if_pos (by rw [htell,e];exact hback c e)]
  cases ((Zci xs area (u:Int)).near.find? (fun n=>n.to==(v:Int))) <;> rfl
end Go.Proofs.YtadokhjefnkajaaGreat
