/-
  Parts.
-/
import Derived.Test.YtikloccefmofdaaGreatFi35
namespace Go.Proofs.YtikloccefmofdaaGreat
open Go.RowKit
set_option linter.unusedSimpArgs false
set_option linter.unusedVariables false
set_option maxRecDepth 100000
set_option maxHeartbeats 8000000
variable {a f node r t v:Int}{bs zs:List Bool}{al:List Int}{ls:List Lk}{s xs:List RecD}{ts:List Th}{N k:Nat}{x:RecD}
def tofD (N:Nat)(ls:List Lk)(ts:List Th)(bs zs:List Bool)(v:Int):List RecD:=(nodD (slfD N ls ts bs zs v) (ZbR ls v)++Zfj (slfD N ls ts bs zs v) ts).map Zcm
def iA (N:Nat)(ls:List Lk)(ts:List Th)(bs zs:List Bool)(us:List Int):List RecD:=us.foldl (fun s v=>(tofD N ls ts bs zs v).foldl putD s) []
noncomputable def ZhK (ls:List Lk) (s:List RecD) (v:Int):List RecD:=if ZiO ls v then wbyD (ZbR ls v) v s (ZbR ls v) else s
noncomputable def iC (ls:List Lk) (us:List Int) (xs:List RecD):List RecD:=us.foldl (ZhK ls) xs
noncomputable def iR (ls:List Lk) (us:List Int) (xs:List RecD):Nat->List RecD
 | 0=>xs
 | r+1=>iC ls us (iR ls us xs r)
theorem ZhN (l:List Int):(ZaJ l).length<=l.length:=by rw [ZfR];omega
theorem ZpH (hN:N<=6)(ht:ts.length<=4):totD (tofD N ls ts bs zs v)<=200:=by
 unfold tofD;rw [YAf,ZcB];have h1:∀ al:List Int,totD ((nodD (slfD N ls ts bs zs v) al).map Zcm)<=37*al.length:=by
  intro al
  induction al with
  | nil=>simp [nodD,totD]
  | cons a al ih=>
   have e:(nodD (slfD N ls ts bs zs v) (a::al)).map Zcm=Zcm (nodR (slfD N ls ts bs zs v) a)::(nodD (slfD N ls ts bs zs v) al).map Zcm:=rfl;rw [e,Zda,YAk];have h2:=Zov ls v a (ZaJ (hrdK (carB N ls bs zs v) N));have h3:=ZhN (hrdK (carB N ls bs zs v) N);have h4:=ZgL (carB N ls bs zs v) N;have h5:(Zcm (nodR (slfD N ls ts bs zs v) a)).near.length=(hinD ls v a (ZaJ (hrdK (carB N ls bs zs v) N))).length:=rfl;omega
 have h2:∀ l:List RecD,(∀ r∈l,r.near=[])->totD (l.map Zcm)=l.length:=by
  intro l
  induction l with
  | nil=>intro _;rfl
  | cons r l ih=>
   intro h;rw [List.map_cons,Zda,ih (fun q hq=>h q (YAg _ hq))];have:(Zcm r).near=[]:=h r (List.mem_cons_self ..);rw [this];simp;omega
 have h3:=h1 (ZbR ls v);have h4:=Zdw ls v;have h5:=h2 (Zfj (slfD N ls ts bs zs v) ts) (fun r hr=>by
  unfold Zfj at hr;obtain⟨t,_,rfl⟩:=YAR.1 hr;rfl)
 have h6:=Zjv (slfD N ls ts bs zs v) ts;omega
theorem ZrT {us:List Int}(h:us[k]? = some v):iA N ls ts bs zs (us.take (k+1))=(tofD N ls ts bs zs v).foldl putD (iA N ls ts bs zs (us.take k)):=by
 obtain⟨hk,e⟩:=YAD.1 h;unfold iA;rw [YAI hk,e,List.foldl_append];rfl
theorem Zrx (N:Nat)(ls:List Lk)(ts:List Th)(bs zs:List Bool):∀ us,Asc (iA N ls ts bs zs us):=by
 have h:∀ (us:List Int) (s:List RecD),Asc s->Asc (us.foldl (fun s v=>(tofD N ls ts bs zs v).foldl putD s) s):=by
  intro us
  induction us with
  | nil=>intro s hs;exact hs
  | cons u us ih=>intro s hs;rw [List.foldl_cons];exact ih _ (Zes _ _ hs)
 exact fun us=>h us [] (by simp [Asc])
theorem iA_tot (hN:N<=6)(ht:ts.length<=4):∀ us,totD (iA N ls ts bs zs us)<=200*us.length:=by
 have h:∀ (us:List Int) (s:List RecD),totD (us.foldl (fun s v=>(tofD N ls ts bs zs v).foldl putD s) s)<=totD s+200*us.length:=by
  intro us
  induction us with
  | nil=>intro s;simp
  | cons u us ih=>
   intro s;rw [List.foldl_cons,YAk];have h1:=ih ((tofD N ls ts bs zs u).foldl putD s);have h2:=ZhF (tofD N ls ts bs zs u) s;have h3:=ZpH (ls:=ls) (bs:=bs) (zs:=zs) (v:=u) hN ht;omega
 intro us;have:=h us [];simp [totD] at this;exact this
theorem ZrU {us:List Int}(h:us[k]? = some v):iC ls (us.take (k+1)) xs=ZhK ls (iC ls (us.take k) xs) v:=by
 obtain⟨hk,e⟩:=YAD.1 h;unfold iC;rw [YAI hk,e,List.foldl_append];rfl
theorem Zp1 (h:Asc s)(v:Int):Asc (ZhK ls s v):=by
 unfold ZhK
 split
 ·exact ZlR _ _ _ h
 ·exact h
theorem Zp2 (ls:List Lk)(s:List RecD)(v:Int):totD (ZhK ls s v)<=totD s+18:=by
 unfold ZhK
 split
 ·have h1:=ZlS (ZbR ls v) v (ZbR ls v) s;have h2:=Zdw ls v;omega
 ·omega
theorem Zox (ls:List Lk):∀ (us:List Int) {xs:List RecD},Asc xs->Asc (iC ls us xs)
 | [],xs,h=>h
 | u::us,xs,h=>by unfold iC;rw [List.foldl_cons];exact Zox ls us (Zp1 h u)
theorem Zoy (ls:List Lk):∀ (us:List Int) (xs:List RecD),totD (iC ls us xs)<=totD xs+18*us.length
 | [],xs=>by simp [iC]
 | u::us,xs=>by
  have h1:=Zoy ls us (ZhK ls xs u);have h2:=Zp2 ls xs u;unfold iC at *;rw [List.foldl_cons,YAk];omega
theorem Zry (ls:List Lk)(us:List Int)(h:Asc xs):∀ r,Asc (iR ls us xs r)
 | 0=>h
 | r+1=>Zox ls us (Zry ls us h r)
theorem Zoz (ls:List Lk)(us:List Int)(xs:List RecD):∀ r,totD (iR ls us xs r)<=totD xs+18*us.length*r
 | 0=>by simp [iR]
 | r+1=>by
  have h1:=Zoz ls us xs r;have h2:=Zoy ls us (iR ls us xs r);unfold iR;rw [Nat.mul_succ];omega
structure KpSt (w wr:World) (v x:Value):Prop where
 keep:∀ j,j<w.heap.size->v.ownBlock≠some j->wr.heap[j]? = w.heap[j]?
 row:∀ j,x.ownBlock=some j->v.ownBlock=some j\/w.heap.size<=j
 size:w.heap.size<=wr.heap.size
theorem KpSt.cell {w wr:World}{v x:Value}(h:KpSt w wr v x){b o:Nat}(hb:b<w.heap.size)(hv:v.ownBlock≠some b):wr.cell? ⟨b,o,none⟩=w.cell? ⟨b,o,none⟩:=by
 simp only [World.cell?,h.keep b hb hv]
theorem KpSt.next {w wr wa wb:World}{lo:Nat}{v x x':Value}{ps ts qs:List RP}(h:KpSt w wr v x)(hb:Below wr.heap.size wr wa)(hp:PASt wa wb lo x x' ps ts qs k)(hx:∀ j,x.ownBlock=some j->j<wr.heap.size):KpSt w wb v x' where
 keep:=fun j hj hv=>by
  have hs:=h.size;have hs2:=hb.size;rw [hp.keep j (by omega) (fun e=>by
   rcases h.row j e with h1 | h1
   ·exact hv h1
   ·omega),hb.block j (by omega),h.keep j hj hv]
 row:=fun j hj=>by
  have hs:=h.size;have hs2:=hb.size;rcases hp.row j hj with h1 | h1
  ·exact h.row j h1
  ·exact .inr (by omega)
 size:=by have:=h.size;have:=hb.size;have:=hp.bel.size;omega
theorem Znb (v1 v2 y z:Value)(N:Nat)(ls:List Lk)(ts:List Th)(bs zs:List Bool)(w:World)(hok:Za0 ⟨(N:Int),ls,ts⟩=true)(hN6:N<=6)(hls:ls.length<=12)(hts:ts.length<=4)
  (h1:w.ownsRow 0 78 4 v1 ls.length (flat lkE ls)) (h2:ZaS w v2 ts w.heap.size) (h3:Zbh w y bs w.heap.size) (h4:Zbh w z zs w.heap.size) (hbs:bs.length=ls.length) (hzs:zs.length=N):
  Calls Tryz.prog 6 #[.agg #[.int .i64 (N:Int),v1,v2],y,z] w fun e w'=>∃ o qs,e=.returned (.tuple #[o,.bool true])/\fsts qs=iR ls (upsK zs N) (iA N ls ts bs zs (upsK zs N)) 3/\tot qs<=2000/\RecsOwn w' w.heap.size w'.heap.size o qs/\Below w.heap.size w w':=by
 have hL:ZaK w v1 ls w.heap.size:=Zam h1;have HNO:=hide (fun W (hb:Below w.heap.size w W)=>Zh8 (.agg #[.int .i64 (N:Int),v1,v2]) ⟨(N:Int),ls,ts⟩ W (by show ls.length<=_;omega) (by show ts.length<=_;omega) ⟨v1,v2,rfl,Zav.then hL hb,Zav.then h2 hb⟩);rw [hok] at HNO;have HNU:=hide (fun W (hb:Below w.heap.size w W)=>Zlz N v1 v2 y z (.slice none 0 0) (.slice none 0 0) (.slice none 0 0) (.slice none 0 0) 0 zs W (Zav.then h4 hb) hzs (by omega));have HTO:=hide (fun W (hb:Below w.heap.size w W) (v:Int)=>Zsi N v1 v2 y z (.slice none 0 0) (.slice none 0 0) (.slice none 0 0) (.slice none 0 0) 0 v ls ts bs zs W (Zad h1 hb (YA _)) (Zav.then h2 hb) (Zav.then h3 hb) (Zav.then h4 hb) hbs (by omega) (by omega) hzs hN6);have HWB:=hide (fun W (hb:Below w.heap.size w W) (x:Value) (qs:List RP) (lo:Nat) (node:Int) (hx:RecsOwn W lo W.heap.size x qs) (hlo:lo<=W.heap.size) (ht:tot qs<=100000) (ha:Asc (fsts qs))=>Zss x qs lo (.int .i64 (N:Int)) v1 v2 ls node W hx hlo (Zav.then hL hb) (by omega) ht ha);have htT:=fun v=>ZpH (ls:=ls) (ts:=ts) (bs:=bs) (zs:=zs) (v:=v) hN6 hts;have hiT:=iA_tot (ls:=ls) (ts:=ts) (bs:=bs) (zs:=zs) hN6 hts;have hul:=ZjF zs N;obtain⟨a1,c1,rfl⟩:=Zac h1;obtain⟨a2,c2,rfl⟩:=ZaS.shape h2;obtain⟨a3,c3,rfl⟩:=h3.shape;obtain⟨a4,c4,rfl⟩:=h4.shape;rw [hbs] at HNU HTO |-;rw [hzs] at HNU HTO |-;unfold wldV at HNU HTO;obtain⟨us,hus⟩:∃ us,us=upsK zs N:=⟨_,rfl⟩;rw [<-hus] at HNU hul |-;have HTT:=hide htT;have HIT:=hide hiT;clear h1 h2 h3 h4 hbs hzs hL hok hus htT hiT;have G0:=hide (YAE w (.cells #[.int .i64 (N:Int),.slice a1 ls.length c1,.slice a2 ts.length c2] 27));have B0:Below w.heap.size w (w.alloc (.cells #[.int .i64 (N:Int),.slice a1 ls.length c1,.slice a2 ts.length c2] 27)):=(YAC _ _).alloc (YA _) _
 go_enter Tryz.func6,Tryz.ntmps6
 go_wp2_with fail
 refine (HNO.out _ B0).mono ?_;rintro e w1 ⟨rfl,b1⟩;have B1:Below w.heap.size w w1:=B0.trans (b1.mono B0.size);have hg1:=(b1.block _ (Zab G0.out)).trans G0.out;have n0:=Zaa hg1 0;have n1:=Zaa hg1 1;have n2:=Zaa hg1 2;simp only [YAd,YAX,YAW] at n0 n1 n2;have G1:=hide hg1;have hzn:w.heap.size<w1.heap.size:=Zab hg1;have hs1:=B1.size;clear hg1 b1 G0 B0 HNO;have gw:((w1.alloc (.cells #[.int .i64 (N:Int),.slice a1 ls.length c1,.slice a2 ts.length c2,.slice a3 ls.length c3,.slice a4 N c4,.slice none 0 0,.slice none 0 0,.slice none 0 0,.slice none 0 0,.int .i64 0] 52)).alloc (.cells #[] 37)).heap[w1.heap.size]? = some (.cells #[.int .i64 (N:Int),.slice a1 ls.length c1,.slice a2 ts.length c2,.slice a3 ls.length c3,.slice a4 N c4,.slice none 0 0,.slice none 0 0,.slice none 0 0,.slice none 0 0,.int .i64 0] 52):=by rw [YAH _ _ _ (by simp),YAE]
 have GW:=hide gw;have GN:=hide (show ((w1.alloc (.cells #[.int .i64 (N:Int),.slice a1 ls.length c1,.slice a2 ts.length c2,.slice a3 ls.length c3,.slice a4 N c4,.slice none 0 0,.slice none 0 0,.slice none 0 0,.slice none 0 0,.int .i64 0] 52)).alloc (.cells #[] 37)).heap[w.heap.size]? = some (.cells #[.int .i64 (N:Int),.slice a1 ls.length c1,.slice a2 ts.length c2] 27) by rw [YAH _ _ _ (by simp;omega),YAH _ _ _ hzn];exact G1.out);have R0:=hide (show RecsOwn ((w1.alloc (.cells #[.int .i64 (N:Int),.slice a1 ls.length c1,.slice a2 ts.length c2,.slice a3 ls.length c3,.slice a4 N c4,.slice none 0 0,.slice none 0 0,.slice none 0 0,.slice none 0 0,.int .i64 0] 52)).alloc (.cells #[] 37)) (w1.heap.size+1) ((w1.alloc (.cells #[.int .i64 (N:Int),.slice a1 ls.length c1,.slice a2 ts.length c2,.slice a3 ls.length c3,.slice a4 N c4,.slice none 0 0,.slice none 0 0,.slice none 0 0,.slice none 0 0,.int .i64 0] 52)).alloc (.cells #[] 37)).heap.size (.slice (some ⟨w1.heap.size+1,0,none⟩) 0 0) [] by
  have h:=ZcR (w1.alloc (.cells #[.int .i64 (N:Int),.slice a1 ls.length c1,.slice a2 ts.length c2,.slice a3 ls.length c3,.slice a4 N c4,.slice none 0 0,.slice none 0 0,.slice none 0 0,.slice none 0 0,.int .i64 0] 52)) (w1.heap.size+1) (by simp);rw [show (w1.alloc (.cells #[.int .i64 (N:Int),.slice a1 ls.length c1,.slice a2 ts.length c2,.slice a3 ls.length c3,.slice a4 N c4,.slice none 0 0,.slice none 0 0,.slice none 0 0,.slice none 0 0,.int .i64 0] 52)).heap.size=w1.heap.size+1 by simp] at h;exact h)
 have HSZ2:=hide (show ((w1.alloc (.cells #[.int .i64 (N:Int),.slice a1 ls.length c1,.slice a2 ts.length c2,.slice a3 ls.length c3,.slice a4 N c4,.slice none 0 0,.slice none 0 0,.slice none 0 0,.slice none 0 0,.int .i64 0] 52)).alloc (.cells #[] 37)).heap.size=w1.heap.size+2 by simp);have B2:=hide (show Below w.heap.size w ((w1.alloc (.cells #[.int .i64 (N:Int),.slice a1 ls.length c1,.slice a2 ts.length c2,.slice a3 ls.length c3,.slice a4 N c4,.slice none 0 0,.slice none 0 0,.slice none 0 0,.slice none 0 0,.int .i64 0] 52)).alloc (.cells #[] 37)) from B1.trans ((ZaB _ _).mono hs1));clear gw
 go_upto_region 5 with fail
 obtain⟨w2,hw2⟩:∃ w2,w2=(w1.alloc (.cells #[.int .i64 (N:Int),.slice a1 ls.length c1,.slice a2 ts.length c2,.slice a3 ls.length c3,.slice a4 N c4,.slice none 0 0,.slice none 0 0,.slice none 0 0,.slice none 0 0,.int .i64 0] 52)).alloc (.cells #[] 37):=⟨_,rfl⟩;rw [<-hw2] at GW GN R0 HSZ2 B2 |-;clear hw2 n0 n1 n2;have z0:=Zaa GW.out 0;have z1:=Zaa GW.out 1;have z2:=Zaa GW.out 2;have z3:=Zaa GW.out 3;have z4:=Zaa GW.out 4;have z5:=Zaa GW.out 5;have z6:=Zaa GW.out 6;have z7:=Zaa GW.out 7;have z8:=Zaa GW.out 8;have z9:=Zaa GW.out 9;simp only [YAd,YAX,YAW] at z0 z1 z2 z3 z4 z5 z6 z7 z8 z9
 go_wp2_with fail
 refine (HNU.out _ B2.out).mono ?_;rintro e w3 ⟨u,rfl,hu,b3⟩;obtain⟨ea,ec,rfl⟩:=ZcD hu;have hs3:=b3.size;have hsz2:=HSZ2.out;have EA:=hide (show ZaI w3 (.slice ea us.length ec) us w3.heap.size from Zam (by rw [<-Zb7] at hu;exact hu));have HU:=hide hu;have B3:Below w.heap.size w w3:=B2.out.trans (b3.mono B2.out.size);have GW3:=hide ((b3.block _ (Zab GW.out)).trans GW.out);have GN3:=hide ((b3.block _ (Zab GN.out)).trans GN.out);have R3:=hide ((R0.out.below b3 (YA _)).wide (YA _) hs3);have K0:=hide (show KpSt w3 w3 (.slice (some ⟨w1.heap.size+1,0,none⟩) 0 0) (.slice (some ⟨w1.heap.size+1,0,none⟩) 0 0) from ⟨fun _ _ _=>rfl,fun j h=>.inl h,YA _⟩);have hw13:w1.heap.size+2<=w3.heap.size:=by omega
 have HB2:=hide (show w1.heap.size+2<=w2.heap.size by omega);clear hu b3 z0 z1 z2 z3 z4 z5 z6 z7 z8 z9 GW GN R0 B2 hsz2 HSZ2;go_wp2
 go_loopw [41,9] (fun i o wr=>∃ (k:Nat) (x:Value) (qs:List RP),k<=us.length/\i=.int .i64 k/\o=x/\Hid (fsts qs=iA N ls ts bs zs (us.take k))/\Hid (RecsOwn wr (w1.heap.size+1) wr.heap.size x qs)/\Hid (KpSt w3 wr (.slice (some ⟨w1.heap.size+1,0,none⟩) 0 0) x)/\Below w.heap.size w wr) (fun i _ _=>us.length-(intOf i).toNat)
 case atStart=>exact ⟨0,_,[],by omega,rfl,rfl,hide (by simp [fsts,iA]),R3,K0,B3⟩
 case round=>
  obtain⟨k,x,qs,hk,rfl,rfl,HM,ST,KP,hnx⟩:=hrel;obtain⟨xa,xc,hxe⟩:=Zac ST.out.row;have hsz:=hnx.size;have hkp:=KP.out.size;have HTQ:=hide (show tot qs<=1200 by
   rw [ZjB,HM.out];have h2:=HIT.out (us.take k);simp at h2;omega)
  by_cases hlt:k<us.length
  ·obtain ⟨v,hv⟩:∃ v,us[k]? = some v:=⟨us[k],YAA hlt⟩;obtain⟨b,off,cap',hve,hbb,d0⟩:=EA.out.cell k v hv;cases hve;have hbl:w1.heap.size+2<=b:=by have:=(HU.out.lt b rfl).1;have:=HB2.out;omega
   rw [<-KP.out.cell hbb (by simp [Value.ownBlock];omega)] at d0;have gw:=(KP.out.keep w1.heap.size (by omega) (by simp [Value.ownBlock])).trans GW3.out;have z0:=Zaa gw 0;have z1:=Zaa gw 1;have z2:=Zaa gw 2;have z3:=Zaa gw 3;have z4:=Zaa gw 4;have z5:=Zaa gw 5;have z6:=Zaa gw 6;have z7:=Zaa gw 7;have z8:=Zaa gw 8;have z9:=Zaa gw 9;simp only [YAd,YAX,YAW] at z0 z1 z2 z3 z4 z5 z6 z7 z8 z9;have hki:(0:Int)<=(k:Int):=by omega
   have hkj:(k:Int)<(us.length:Int):=by omega
   have HST:=hide (ZrT (N:=N) (ls:=ls) (ts:=ts) (bs:=bs) (zs:=zs) hv);have HTX:=hide (HTO.out wr hnx v);have HT2:=hide (HTT.out v);clear hv gw;subst hxe
   go_wp2_with fail
   refine HTX.out.mono ?_;rintro e w4 ⟨u4,q4,rfl,e4,o4,b4⟩;obtain⟨a5,c5,rfl⟩:=Zac o4.row;have hs4:=b4.size;have E4:=hide (show (fsts q4).map Zcm=tofD N ls ts bs zs v by rw [e4];rfl);have hq4:q4.length<=200:=by
    have h1:=congrArg List.length E4.out;have h2:=HT2.out;have h3:∀ l:List RecD,l.length<=totD l:=fun l=>by
     induction l with
     | nil=>simp
     | cons a l ih=>rw [Zda,YAk];omega
    have h4:=h3 (tofD N ls ts bs zs v);simp [fsts] at h1;omega
   have HON:=hide (Zkq _ q4 wr.heap.size w4 o4 (by omega));have O4:=hide o4;clear e4 o4 d0 z0 z1 z2 z3 z4 z5 z6 z7 z8 z9
   go_wp2_with fail
   refine HON.out.mono ?_;rintro e w5 ⟨rfl,o5,g5⟩;have hs5:=g5.size;have BB:Below wr.heap.size wr w5:=b4.grown g5 hs4 (fun k hk=>(O4.out.row.lt k hk).1);have HE5:=hide (show fsts (q4.map ZeM)=tofD N ls ts bs zs v by rw [<-E4.out];simp [fsts,ZeM,Function.comp_def]);have HPA:=hide (Znx _ _ qs (q4.map ZeM) (w1.heap.size+1) w5 ((ST.out.below BB (YA _)).wide (YA _) BB.size) (o5.at.more (YA _)) (by omega) (by
     have h1:=HTQ.out;have h2:=HT2.out;rw [ZjB (q4.map ZeM),HE5.out];omega) (by rw [HM.out];exact Zrx _ _ _ _ _ _) (fun t ht=>(o5.nears t ht).wide (by omega) (YA _)) (fun p hp t ht j h1 h2=>by
     have a1:=(ST.out.nears p hp).2 j h1;have a2:=((o5.nears t ht).1.lt j h2).1;omega) o5.apart (fun j h1 h2=>by
     have a1:=ST.out.top j h1;have a2:=(o5.row.lt j h2).1;omega))
   rw [show (q4.map ZeM).length=q4.length by simp] at HPA;clear o5 g5 b4
   go_wp2_with fail
   refine HPA.out.mono ?_;rintro e w6 ⟨x6,q6,rfl,pa⟩;have O6:=hide pa.own;have HE6:=hide (show fsts q6=iA N ls ts bs zs (us.take (k+1)) by
    have h9:=pa.eq;rw [show (q4.map ZeM).take q4.length=q4.map ZeM from YAL (by simp),HE5.out,HM.out, <-HST.out] at h9;exact h9)
   have K6:=hide (KP.out.next BB pa (fun j h=>ST.out.top j h));have B6:Below w.heap.size w w6:=(hnx.trans (BB.mono hsz)).trans (pa.bel.mono (by omega));obtain⟨x6a,x6c,rfl⟩:=Zac pa.own.row;clear pa;go_wp2;go_roundw
   case rel=>exact ⟨k+1,_,q6,by omega,by go_num,rfl,HE6,O6,K6,B6⟩
   case measure=>simp [intOf];omega
  ·have HE0:=hide (show fsts qs=iR ls us (iA N ls ts bs zs us) 0 by rw [HM.out,show us.take k=us from YAL (by omega)];rfl);have GW4:=hide ((KP.out.keep w1.heap.size (by omega) (by simp [Value.ownBlock])).trans GW3.out);have GN4:=hide ((KP.out.keep w.heap.size (by omega) (by simp [Value.ownBlock];omega)).trans GN3.out);have HIA:=hide (show Asc (iA N ls ts bs zs us) from Zrx _ _ _ _ _ _);have HIB:=hide (show totD (iA N ls ts bs zs us)<=1200 by have:=HIT.out us;omega);subst hxe;clear HM KP EA HU GW3 GN3 R3 K0 B3 HTO HTT HIT
   rename World=>wa
   have hwa:w1.heap.size+1<=wa.heap.size:=by omega
   go_wp2
   go_loopw [52,9] (fun i o wr=>∃ (r:Nat) (x:Value) (qs:List RP),r<=3/\i=.int .i64 r/\o=x/\Hid (fsts qs=iR ls us (iA N ls ts bs zs us) r)/\Hid (RecsOwn wr (w1.heap.size+1) wr.heap.size x qs)/\Hid (wr.heap[w1.heap.size]? = some (.cells #[.int .i64 (N:Int),.slice a1 ls.length c1,.slice a2 ts.length c2,.slice a3 ls.length c3,.slice a4 N c4,.slice none 0 0,.slice none 0 0,.slice none 0 0,.slice none 0 0,.int .i64 0] 52))/\Hid (wr.heap[w.heap.size]? = some (.cells #[.int .i64 (N:Int),.slice a1 ls.length c1,.slice a2 ts.length c2] 27))/\Below w.heap.size w wr/\w1.heap.size+1<=wr.heap.size) (fun i _ _=>3-(intOf i).toNat)
   case atStart=>exact ⟨0,_,qs,by omega,rfl,rfl,HE0,ST,GW4,GN4,hnx,hwa⟩
   case round=>
    clear HE0 ST GW4 GN4 hnx HTQ;obtain⟨r,x,qs,hr,rfl,rfl,HM,ST,GW,GN,hnx,hwb⟩:=hrel;obtain⟨xa,xc,hxe⟩:=Zac ST.out.row;have hsz:=hnx.size
    rename World=>wb
    by_cases hrt:r<3
    ·have hri:(r:Int)<3:=by omega
     have z0:=Zaa GW.out 0;have z1:=Zaa GW.out 1;have z2:=Zaa GW.out 2;have z3:=Zaa GW.out 3;have z4:=Zaa GW.out 4;have z5:=Zaa GW.out 5;have z6:=Zaa GW.out 6;have z7:=Zaa GW.out 7;have z8:=Zaa GW.out 8;have z9:=Zaa GW.out 9;simp only [YAd,YAX,YAW] at z0 z1 z2 z3 z4 z5 z6 z7 z8 z9;have HNX:=hide (HNU.out wb hnx);have HRS:=hide (show iR ls us (iA N ls ts bs zs us) (r+1)=iC ls us (iR ls us (iA N ls ts bs zs us) r) from rfl);subst hxe
     go_wp2_with fail
     refine HNX.out.mono ?_;rintro e w4 ⟨u,rfl,hu,b4⟩;obtain⟨ea,ec,rfl⟩:=ZcD hu;have hs4:=b4.size;have EA:=hide (show ZaI w4 (.slice ea us.length ec) us w4.heap.size from Zam (by rw [<-Zb7] at hu;exact hu));have B4:Below w.heap.size w w4:=hnx.trans (b4.mono hsz);have GW4:=hide ((b4.block _ (Zab GW.out)).trans GW.out);have GN4:=hide ((b4.block _ (Zab GN.out)).trans GN.out);have R4:=hide ((ST.out.below b4 (YA _)).wide (YA _) hs4);have hw4:=B4.size;clear hu b4 z0 z1 z2 z3 z4 z5 z6 z7 z8 z9 ST GW GN;go_wp2
     go_loopw [57,9] (fun i o wr=>∃ (k:Nat) (x:Value) (qs:List RP),k<=us.length/\i=.int .i64 k/\o=x/\Hid (fsts qs=iC ls (us.take k) (iR ls us (iA N ls ts bs zs us) r))/\Hid (RecsOwn wr (w1.heap.size+1) wr.heap.size x qs)/\Below w4.heap.size w4 wr) (fun i _ _=>us.length-(intOf i).toNat)
     case atStart=>exact ⟨0,_,qs,by omega,rfl,rfl,hide (by rw [HM.out];simp [iC]),R4,YAC _ _⟩
     case round=>
      clear R4;obtain⟨k,x,qs2,hk,rfl,rfl,HM2,ST,hny⟩:=hrel;obtain⟨xa2,xc2,hxe2⟩:=Zac ST.out.row;have hsy:=hny.size;have hzm:w.heap.size<w4.heap.size:=Zab GN4.out;by_cases hlt:k<us.length
      ·obtain ⟨v,hv⟩:∃ v,us[k]? = some v:=⟨us[k],YAA hlt⟩;obtain⟨b,off,cap',hve,hbb,d0⟩:=EA.out.cell k v hv;cases hve;replace d0:=(hny.cell hbb).trans d0;have gn:=(hny.block _ hzm).trans GN4.out;have n0:=Zaa gn 0;have n1:=Zaa gn 1;have n2:=Zaa gn 2;simp only [YAd,YAX,YAW] at n0 n1 n2;have hki:(0:Int)<=(k:Int):=by omega
       have hkj:(k:Int)<(us.length:Int):=by omega
       have HST:=hide (ZrU (ls:=ls) (xs:=iR ls us (iA N ls ts bs zs us) r) hv);have hT2:tot qs2<=100000:=by
        rw [ZjB,HM2.out];have h1:=Zoy ls (us.take k) (iR ls us (iA N ls ts bs zs us) r);have h2:=Zoz ls us (iA N ls ts bs zs us) r;have h3:=HIB.out;have h4:18*us.length*r<=18*us.length*3:=Nat.mul_le_mul_left _ (by omega);simp at h1;omega
       have HWX:=hide (HWB.out wr (B4.trans (hny.mono hw4)) _ qs2 (w1.heap.size+1) v ST.out (by omega) hT2 (by rw [HM2.out];exact Zox _ _ (Zry _ _ HIA.out _)));clear hv gn hT2;subst hxe2
       go_wp2_with fail
       refine HWX.out.mono ?_;rintro e w6 ⟨x6,q6,rfl,e6,o6,b6⟩;have HE6:=hide (show fsts q6=iC ls (us.take (k+1)) (iR ls us (iA N ls ts bs zs us) r) by rw [HST.out,e6, <-HM2.out];rfl);obtain⟨x6a,x6c,rfl⟩:=Zac o6.row;have O6:=hide o6;have B6:Below w4.heap.size w4 w6:=hny.trans (b6.mono hsy);clear e6 o6 b6 n0 n1 n2 d0;go_wp2;go_roundw
       case rel=>exact ⟨k+1,_,q6,by omega,by go_num,rfl,HE6,O6,B6⟩
       case measure=>simp [intOf];omega
      ·have HE9:=hide (show fsts qs2=iR ls us (iA N ls ts bs zs us) (r+1) by rw [HM2.out,show us.take k=us from YAL (by omega),HRS.out]);have GW9:=hide ((hny.block _ (Zab GW4.out)).trans GW4.out);have GN9:=hide ((hny.block _ (Zab GN4.out)).trans GN4.out);subst hxe2;go_wp2;go_roundw
       case rel=>exact ⟨r+1,_,qs2,by omega,by go_num,rfl,HE9,ST,GW9,GN9,B4.trans (hny.mono hw4),by omega⟩
       case measure=>simp [intOf];omega
    ·have hri:¬(r:Int)<3:=by omega
     have HR3:=hide (show r=3 by omega);have HT9:=hide (show tot qs<=2000 by
      rw [ZjB,HM.out];have h2:=Zoz ls us (iA N ls ts bs zs us) r;have h3:=HIB.out;have h4:18*us.length*r<=18*us.length*3:=Nat.mul_le_mul_left _ (by omega);omega)
     subst hxe;go_wp2;go_ret2
     first
      | exact ⟨_,qs,rfl,by rw [HM.out,HR3.out],HT9.out,ST.out.wide (by omega) (YA _),hnx⟩
      | exact ⟨_,rfl,qs,by rw [HM.out,HR3.out],HT9.out,ST.out.wide (by omega) (YA _),hnx⟩
theorem ZrZ (al:List Int)(node:Int)(s:List RecD)(a:Int)(x:RecD):x∈runD al node s a↔(x∈s/\(Zak x (keyB a node 0)=true\/Zak x (keyB a node 7)=false))\/x∈(tolD s al node a).map Zcm:=by
 unfold runD;simp only [YAF,YAP,Bool.not_eq_true',Bool.not_eq_true];constructor
 ·rintro ((h | h) | h)
  ·exact .inl ⟨h.1,.inl h.2⟩
  ·exact .inr h
  ·exact .inl ⟨h.1,.inr h.2⟩
 ·rintro (⟨h,h1 | h1⟩ | h)
  ·exact .inl (.inl ⟨h,h1⟩)
  ·exact .inr ⟨h,h1⟩
  ·exact .inl (.inr h)
theorem Zse (al:List Int)(node:Int)(s:List RecD)(a:Int):(runD al node s a).length<=s.length+6:=by
 unfold runD;rw [YAN,YAN,List.length_map];have h1:=Zjx s al node a;have h2:=Zl4 (fun _=>true) (fun x=>Zak x (keyB a node 0)) (fun x => !Zak x (keyB a node 7)) (fun x hx=>by
  have h:=(ZcK x a node 0).1 hx;have:Zak x (keyB a node 7)=true:=by rw [ZcK];omega
  simp [this]) s
 have h3:cntR (fun _=>true) s<=s.length:=List.length_filter_le _ _;have h4:∀ l:List RecD,cntR (fun _=>true) l=l.length:=fun l=>by simp [cntR,List.filter_eq_self.2]
 rw [h4,h4] at h2;omega
theorem Zpo (h:ZaW x=true)(hk:x.kind=2):1<=x.key/\x.key<=6:=by
 have hs:Zax [x]=true:=by
  unfold Zax ZbM ascB;simp [okAt,h,Zce]
 exact (ZeE hs (YAw.2 rfl) hk).1
theorem Zk5 (h:ZaW x=true):(Zak x (keyB a node 0)=true\/Zak x (keyB a node 7)=false)↔¬(x.kind=2/\x.owner=node/\x.area=a):=by
 constructor
 ·rintro (h1 | h1) ⟨a1,a2,a3⟩
  ·have:=Zpo h a1;rw [ZcK] at h1;omega
  ·have:=Zpo h a1;have h2:Zak x (keyB a node 7)=true:=by rw [ZcK];omega
   rw [h1] at h2;cases h2
 ·intro hn;cases h7:Zak x (keyB a node 7) with
  | false=>exact .inr rfl
  | true=>
   refine .inl ?_;rw [ZcK] at *;have h8:=hn;by_cases e:x.kind=2/\x.owner=node/\x.area=a
   ·exact absurd e hn
   ·omega
theorem ZjA (ha:0<=a/\a<=2)(hn:1<=node/\node<=6)(h:x∈(tolD xs al node a).map Zcm):ZaW x=true/\x.kind=2/\x.owner=node/\x.area=a:=by
 obtain⟨to,c,rfl,ht,h1,h2⟩:=Zlu h;exact⟨ZpE ha hn ⟨h1,h2⟩ (ZkK ht),rfl,rfl,rfl⟩
theorem ZpK {ys:List RecD}{src area:Int}(hx:Zax xs=true)(hy:Zax ys=true)(ha:area∈al)(h1:∀ z,z.kind=1->z.area∈al->(z∈xs↔z∈ys))(h2:∀ z,z.kind=2->z.owner≠src->z.area∈al->(z∈xs↔z∈ys)):tolD xs al src area=tolD ys al src area:=by
 by_cases h:∃ ds,ZbO xs al src area ds
 ·obtain ⟨ds,hd⟩:=h;rw [<-ZbO.eq hd, <-ZbO.eq (Zgt hx hy ha h1 h2 hd)]
 ·have h':¬∃ ds,ZbO ys al src area ds:=fun ⟨ds,hd⟩=>h ⟨ds,Zgt hy hx ha (fun z a b=>(h1 z a b).symm) (fun z a b c=>(h2 z a b c).symm) hd⟩;unfold tolD;rw [dif_neg h,dif_neg h']
structure WInv (xs:List RecD) (al:List Int) (node:Int) (dl:List Int) (s:List RecD):Prop where
 asc:Asc s
 len:s.length<=xs.length+6*dl.length
 mem:∀ x,x∈s↔(x∈xs/\¬(x.kind=2/\x.owner=node/\x.area∈dl))\/∃ a∈dl,x∈(tolD xs al node a).map Zcm
theorem Zrg (h1:Asc s)(h2:∀ x∈s,ZaW x=true)(h3:s.length<=150):Zax s=true:=by
 unfold Zax;simp only [YAJ,YAS];refine⟨⟨h3,?_⟩,Zl2 h1⟩;unfold ZbM;refine Za4 fun j hj=>?_;rw [Zck (YAA hj)];exact h2 _ (YAt hj)
theorem WInv.step {dl:List Int}(h:IdOk N xs)(hn:1<=node/\node<=6)(hal:∀ b∈al,0<=b/\b<=2)(hal3:al.length<=3)(hdl:∀ b∈dl,b∈al)(hd3:dl.length<=3)(ha:a∈al)(hna:a ∉ dl)(hs:WInv xs al node dl s):WInv xs al node (dl++[a]) (runD al node s a):=by
 have hl:=Zmg h;have hok:∀ x∈s,ZaW x=true:=fun x hx=>by
  rcases (hs.mem x).1 hx with h1 | ⟨b,hb,h1⟩
  ·exact h.ok x h1.1
  ·exact (ZjA (hal b (hdl b hb)) hn h1).1
 have hst:Zax s=true:=Zrg hs.asc hok (by have:=hs.len;omega);have hsx:Zax xs=true:=Zh7 h;have htol:tolD s al node a=tolD xs al node a:=by
  refine ZpK hst hsx ha (fun z hk _=>?_) (fun z hk ho _=>?_)
  ·rw [hs.mem z];constructor
   ·rintro (h1 | ⟨b,hb,h1⟩)
    ·exact h1.1
    ·have:=(ZjA (hal b (hdl b hb)) hn h1).2.1;omega
   ·exact fun h1=>.inl ⟨h1,by rintro ⟨e,_⟩;omega⟩
  ·rw [hs.mem z];constructor
   ·rintro (h1 | ⟨b,hb,h1⟩)
    ·exact h1.1
    ·exact absurd (ZjA (hal b (hdl b hb)) hn h1).2.2.1 ho
   ·exact fun h1=>.inl ⟨h1,by rintro ⟨_,e,_⟩;exact ho e⟩
 refine⟨Zpu hs.asc a,?_,fun x=>?_⟩
 ·have h1:=Zse al node s a;have h2:=hs.len;simp;omega
 ·rw [ZrZ,htol];constructor
  ·rintro (⟨hx,hc⟩ | hx)
   ·have hc2:=(Zk5 (hok x hx)).1 hc;rcases (hs.mem x).1 hx with h1 | ⟨b,hb,h1⟩
    ·refine .inl ⟨h1.1,fun ⟨e1,e2,e3⟩=>?_⟩;rcases YAF.1 e3 with e4 | e4
     ·exact h1.2 ⟨e1,e2,e4⟩
     ·exact hc2 ⟨e1,e2,by simpa using e4⟩
    ·exact .inr ⟨b,List.mem_append_left _ hb,h1⟩
   ·exact .inr ⟨a,by simp,hx⟩
  ·rintro (⟨hx,hc⟩ | ⟨b,hb,hx⟩)
   ·refine .inl ⟨(hs.mem x).2 (.inl ⟨hx,fun ⟨e1,e2,e3⟩=>hc ⟨e1,e2,List.mem_append_left _ e3⟩⟩),(Zk5 (h.ok x hx)).2 (fun ⟨e1,e2,e3⟩=>hc ⟨e1,e2,by rw [e3];simp⟩)⟩
   ·rcases YAF.1 hb with hb1 | hb1
    ·have ht:=ZjA (hal b (hdl b hb1)) hn hx;exact .inl ⟨(hs.mem x).2 (.inr ⟨b,hb1,hx⟩),(Zk5 ht.1).2 (fun ⟨_,_,e3⟩=>hna (by rw [<-e3,ht.2.2.2];exact hb1))⟩
    ·have:b=a:=by simpa using hb1
     subst this;exact .inr hx
theorem WInv.all (h:IdOk N xs)(hn:1<=node/\node<=6)(hal:∀ b∈al,0<=b/\b<=2)(hal3:al.length<=3):∀ (as' dl:List Int) (s:List RecD),(dl++as').Nodup->(∀ b∈dl++as',b∈al)->(dl++as').length<=3->WInv xs al node dl s->WInv xs al node (dl++as') (wbyD al node s as')
 | [],dl,s,_,_,_,hs=>by simpa [wbyD] using hs
 | a::as',dl,s,hnd,hin,hlen,hs=>by
  have hna:a ∉ dl:=fun e=>(List.nodup_append.1 hnd).2.2 a e a (List.mem_cons_self ..) rfl;have h1:=hs.step h hn hal hal3 (fun b hb=>hin b (List.mem_append_left _ hb)) (by simp at hlen;omega) (hin a (by simp)) hna;have h2:=WInv.all h hn hal hal3 as' (dl++[a]) (runD al node s a) (by simpa using hnd) (fun b hb=>hin b (by simpa using hb)) (by simpa using hlen) h1;unfold wbyD at *;rw [List.foldl_cons];simpa using h2
theorem Zde (ls:List Lk)(v:Int):(Zas ls v).Nodup:=by
 unfold Zas;exact List.Pairwise.filter _ (by decide)
theorem ZeT (xs:List RecD)(al:List Int)(node:Int):∀ bl:List Int,bl.Nodup->((Zbd xs al node bl).map seq1).Pairwise difK
 | [],_=>by simp [Zbd]
 | b::bl,h=>by
  have h1:=List.nodup_cons.1 h;have e:Zbd xs al node (b::bl)=tolD xs al node b++Zbd xs al node bl:=rfl;rw [e,YAf,YAM];refine⟨?_,ZeT xs al node bl h1.2,?_⟩
  ·have e2:(tolD xs al node b).map seq1=(tolD xs al node b).map Zcm:=by
    refine List.map_congr_left fun r hr=>?_;obtain⟨to,c,rfl,_⟩:=ZdR hr;rfl
   rw [e2];exact ZrG (ZpJ _ _ _ _)
  ·intro x hx y hy;obtain⟨x0,hx0,rfl⟩:=YAR.1 hx;obtain⟨y0,hy0,rfl⟩:=YAR.1 hy;obtain⟨to,c,rfl,_⟩:=ZdR hx0;obtain⟨b',to',c',hb',rfl,_⟩:=ZbV hy0;unfold difK;cases e3:Zap (seq1 (ZbK b node to c)) (seq1 (ZbK b' node to' c')) with
   | false=>rfl
   | true=>
    have e4:b=b':=((Zhi _ _).1 e3).1;rw [e4] at h1;exact absurd hb' h1.1
theorem Zst (h:IdOk N xs)(hn:1<=node/\node<=6)(hin:∀ x∈xs,x.kind=2->x.owner=node->x.area∈Zas ls node):wbyD (Zas ls node) node xs (Zas ls node)=beyD xs (Zas ls node) node:=by
 have hI:=WInv.all h hn (al:=Zas ls node) (fun b hb=>Zez hb) (Zco ls node) (Zas ls node) [] xs (by simpa using Zde ls node) (fun b hb=>by simpa using hb) (by simpa using Zco ls node) ⟨h.asc,by simp,fun x=>by simp⟩;rw [List.nil_append] at hI;refine ZgF hI.asc ?_ (fun x=>?_)
 ·unfold beyD;rw [ZhH];exact Zes _ _ (List.Pairwise.filter _ h.asc)
 ·rw [hI.mem x];unfold beyD;rw [ZhH,Zd5 _ _ _ (ZeT xs _ node _ (Zde ls node))];have hmem:(x∈(Zbd xs (Zas ls node) node (Zas ls node)).map seq1)↔∃ a∈Zas ls node,x∈(tolD xs (Zas ls node) node a).map Zcm:=by
   constructor
   ·intro hx;obtain⟨r,hr,rfl⟩:=YAR.1 hx;unfold Zbd at hr;obtain⟨a,ha,hra⟩:=YAp.1 hr;refine⟨a,ha,YAR.2 ⟨r,hra,?_⟩⟩;obtain⟨to,c,rfl,_⟩:=ZdR hra;rfl
   ·rintro ⟨a,ha,hx⟩;obtain⟨r,hr,rfl⟩:=YAR.1 hx;refine YAR.2 ⟨r,?_,?_⟩
    ·unfold Zbd;exact YAp.2 ⟨a,ha,hr⟩
    ·obtain ⟨to,c,rfl,_⟩:=ZdR hr;rfl
  rw [hmem,YAP];constructor
  ·rintro (⟨hx,hc⟩ | hx)
   ·have hh:ZbQ node x=true:=by
     unfold ZbQ;cases e1:(x.kind != 2) with
     | true=>rfl
     | false=>
      cases e2:(x.owner != node) with
      | true=>rfl
      | false=>
       simp at e1 e2;exact absurd ⟨e1,e2,hin x hx e1 e2⟩ hc
    refine .inr ⟨⟨hx,hh⟩,fun t ht=>?_⟩;obtain⟨r,hr,rfl⟩:=YAR.1 ht;obtain⟨a,to,c,_,rfl,_⟩:=ZbV hr;cases e3:Zap x (seq1 (ZbK a node to c)) with
    | false=>rfl
    | true=>
     have e4:=(Zhi _ _).1 e3;have e5:x.kind=2:=e4.2.1;have e6:x.owner=node:=e4.2.2.1;unfold ZbQ at hh;simp [e5,e6] at hh
   ·exact .inl hx
  ·rintro (hx | ⟨⟨hx,hh⟩,_⟩)
   ·exact .inr hx
   ·refine .inl ⟨hx,fun ⟨e1,e2,_⟩=>?_⟩;unfold ZbQ at hh;simp [e1,e2] at hh
def ZjM (ls:List Lk)(xs:List RecD):Prop:=∀ x∈xs,x.kind=2->x.area∈Zas ls x.owner
theorem ZjM.bey (h:ZjM ls xs):ZjM ls (beyD xs (Zas ls node) node):=by
 intro x hx hk;unfold beyD at hx;rw [ZhH,Zd5 _ _ _ (ZeT xs _ node _ (Zde ls node))] at hx;rcases hx with hx | ⟨hx,_⟩
 ·obtain ⟨r,hr,rfl⟩:=YAR.1 hx;obtain⟨a,to,c,ha,rfl,_⟩:=ZbV hr;exact ha
 ·exact h x (YAP.1 hx).1 hk
theorem iC_eq {N:Nat}{n:Int}{ls:List Lk}{zs:List Bool}{xs:List RecD}(hl:∀ l∈ls,ZaP n l=true)(h:IdOk N xs)(hh:ZjM ls xs):∀ k,k<=6->iC ls (upsK zs k) xs=idC ls zs xs k/\ZjM ls (idC ls zs xs k)
 | 0,_=>⟨rfl,hh⟩
 | k+1,hk=>by
  obtain⟨e,hi⟩:=iC_eq hl h hh k (by omega);have hio:=ZoB (ls:=ls) (zs:=zs) h k (by omega);have e1:iC ls (upsK zs (k+1)) xs=(if upB zs k then ZhK ls (idC ls zs xs k) ((k:Int)+1) else idC ls zs xs k):=by
   show iC ls (upsK zs k++(if upB zs k then [(k:Int)+1] else [])) xs=_;unfold iC at *;rw [List.foldl_append,e];cases upB zs k <;> rfl
  have e2:ZhK ls (idC ls zs xs k) ((k:Int)+1)=if ZeW ls ((k:Int)+1) then beyD (idC ls zs xs k) (Zas ls ((k:Int)+1)) ((k:Int)+1) else idC ls zs xs k:=by
   unfold ZhK;rw [ZjY hl,Zdx hl,Zst hio (by omega) (fun x hx hk ho=>by rw [<-ho];exact hi x hx hk)]
  have e3:idC ls zs xs (k+1)=if upB zs k&&ZeW ls ((k:Int)+1) then beyD (idC ls zs xs k) (Zas ls ((k:Int)+1)) ((k:Int)+1) else idC ls zs xs k:=rfl
  refine⟨?_,?_⟩
  ·rw [e1,e2,e3];cases upB zs k <;> cases ZeW ls ((k:Int)+1) <;> rfl
  ·rw [e3]
   split
   ·exact hi.bey
   ·exact hi
theorem iR_eq {N:Nat}{n:Int}{ls:List Lk}{zs:List Bool}{xs:List RecD}(hN:N<=6)(hl:∀ l∈ls,ZaP n l=true)(h:IdOk N xs)(hh:ZjM ls xs):∀ r,iR ls (upsK zs N) xs r=idR ls zs N xs r/\ZjM ls (idR ls zs N xs r)
 | 0=>⟨rfl,hh⟩
 | r+1=>by
  obtain⟨e,hi⟩:=iR_eq hN hl h hh r;have ho:=ZoC (ls:=ls) (zs:=zs) hN h r;have h1:=iC_eq (zs:=zs) hl ho hi N hN;refine⟨?_,h1.2⟩;show iC ls (upsK zs N) (iR ls (upsK zs N) xs r)=idC ls zs (idR ls zs N xs r) N;rw [e];exact h1.1
theorem Zqm {n:Int}(h:Zb1 n ls=true){l m:Lk}(hl:l∈ls)(hm:m∈ls)(h1:ZbD f t r l=true)(h2:ZbD f t r m=true):l=m:=by
 have hp:=Znp h;have ho:=Zih h;have key:∀ x y:Lk,x∈ls->y∈ls->ZbD f t r x=true->ZbD f t r y=true->¬ordL x y<0:=fun x y hx hy k1 k2 hlt=>by
  have o1:=ho x hx;have o2:=ho y hy;unfold ZaP at o1 o2;simp only [YAJ,YAS] at o1 o2;unfold ZbD at k1 k2;simp only [YAJ,YAv,beq_iff_eq] at k1 k2;rw [Zpb] at hlt;omega
 obtain⟨i,hi⟩:=List.getElem?_of_mem hl;obtain⟨j,hj⟩:=List.getElem?_of_mem hm;obtain⟨hi1,hi2⟩:=YAD.1 hi;obtain⟨hj1,hj2⟩:=YAD.1 hj;rcases Nat.lt_trichotomy i j with e | e | e
 ·have:=YAa.1 hp i j hi1 hj1 e;rw [hi2,hj2] at this;exact absurd this (key l m hl hm h1 h2)
 ·subst e;rw [hi] at hj;exact Option.some.inj hj
 ·have:=YAa.1 hp j i hj1 hi1 e;rw [hi2,hj2] at this;exact absurd this (key m l hm hl h2 h1)
theorem ZqM {n:Int}(h:Zb1 n ls=true)(hu:lkUp ls bs f t r=true):Zcw ls bs f t r=ZcH ls f t r/\0<Zcw ls bs f t r:=by
 unfold lkUp at hu;obtain⟨x,hx,hh⟩:=List.any_eq_true.1 hu;unfold Zcw;cases hf:(ls.zip bs).find? (ZdD f t r) with
 | none=>exact absurd hh (by simpa using List.find?_eq_none.1 hf x hx)
 | some y=>
  have hy:=List.mem_of_find?_eq_some hf;have hyh:=List.find?_some hf;have hyl:y.1∈ls:=(List.of_mem_zip (a:=y.1) (b:=y.2) hy).1;have hyk:ZbD f t r y.1=true:=by unfold ZdD at hyh;simp only [YAJ] at hyh;exact hyh.2
  have hok:=Zih h y.1 hyl;unfold ZaP inB at hok;simp only [YAJ,YAS] at hok;unfold ZcH;cases hg:ls.find? (ZbD f t r) with
  | none=>exact absurd hyk (by simpa using List.find?_eq_none.1 hg y.1 hyl)
  | some m=>
   have e:=Zqm h (List.mem_of_find?_eq_some hg) hyl (List.find?_some hg) hyk;subst e;simp;omega
theorem ZqL (hu:lkUp ls bs f t r=false):Zcw ls bs f t r=0:=by
 unfold lkUp at hu;unfold Zcw;rw [List.find?_eq_none.2 (fun x hx=>by have:=List.any_eq_false.1 hu x hx;simpa using this)];rfl
theorem Zgw :∀ (l m:List Int),l.length%2=0->ZaJ (l++m)=ZaJ l++ZaJ m
 | [],m,_=>by simp [ZaJ]
 | [a],m,h=>by simp at h
 | a::b::l,m,h=>by
  have h1:l.length%2=0:=by simp at h;omega
  have:=Zgw l m h1;show (a,b)::ZaJ (l++m)=(a,b)::ZaJ l++ZaJ m;rw [this];rfl
theorem Zkf (f:Int->Int->Bool)(u:Int):∀ c,(hrdA f u c).length%2=0
 | 0=>rfl
 | c+1=>by
  have:=Zkf f u c;unfold hrdA;rw [YAN]
  split <;> simp <;> omega
theorem Zkg (f:Int->Int->Bool):∀ k,(hrdK f k).length%2=0
 | 0=>rfl
 | k+1=>by
  have h1:=Zkg f k;have h2:=Zkf f ((k:Int)+1) 3;unfold hrdK;rw [YAN];omega
theorem Zm9 (ls:List Lk)(v a:Int)(l m:List (Int × Int)):hinD ls v a (l++m)=hinD ls v a l++hinD ls v a m:=by
 unfold hinD;rw [List.filter_append,YAf]
theorem hin_A (ls:List Lk)(f:Int->Int->Bool)(v u a:Int)(ha:a=0\/a=1\/a=2):hinD ls v a (ZaJ (hrdA f u 3))=if f u a then [⟨u,ZcH ls v u a⟩] else []:=by
 have e:hrdA f u 3=(if f u 0 then [u,0] else [])++((if f u 1 then [u,1] else [])++(if f u 2 then [u,2] else [])):=by
  simp [hrdA]
 rw [e];rcases ha with rfl | rfl | rfl <;> cases h0:f u 0 <;> cases h1:f u 1 <;> cases h2:f u 2 <;> simp [hinD,ZaJ,h0,h1,h2]
theorem Zi6 {n:Int}{N:Nat}{ls:List Lk}{bs zs:List Bool}{v a:Int}(h:Zb1 n ls=true)(hv:upI N zs v=true)(ha:a=0\/a=1\/a=2):∀ k,k<=N->hinD ls v a (ZaJ (hrdK (carB N ls bs zs v) k))=ZbI ls bs zs v a k
 | 0,_=>rfl
 | k+1,hk=>by
  have ih:=Zi6 (bs:=bs) h hv ha k (by omega);show hinD ls v a (ZaJ (hrdK (carB N ls bs zs v) k++hrdA (carB N ls bs zs v) ((k:Int)+1) 3))=_;rw [Zgw _ _ (Zkg _ k),Zm9,ih,hin_A _ _ _ _ _ ha];have hu:upI N zs ((k:Int)+1)=upB zs k:=by
   unfold upI;rw [show inB ((k:Int)+1) 1 (N:Int)=true by simp [inB];omega,show ((k:Int)+1-1).toNat=k by omega];rfl
  have hc:carB N ls bs zs v ((k:Int)+1) a=(upB zs k&&lkUp ls bs v ((k:Int)+1) a):=by
   unfold carB;rw [hv,hu];simp
  rw [hc];show _=ZbI ls bs zs v a k++_;congr 1;cases hb:lkUp ls bs v ((k:Int)+1) a with
  | false=>rw [ZqL hb];simp
  | true=>
   obtain⟨e1,e2⟩:=ZqM h hb;rw [YAT e2, <-e1];cases upB zs k <;> simp
theorem Zgo (h:a∈Zas ls v):a=0\/a=1\/a=2:=by
 have:=Zez h;omega
def Zee (ls:List Lk)(bs zs:List Bool)(N:Nat)(v:Int):List RecD:=(Zas ls v).map (fun a=>Zb2 v a (ZbI ls bs zs v a N))
theorem ZhY (ls:List Lk)(bs zs:List Bool)(N:Nat)(v:Int)(al:List Int)(xs:List RecD):∀ j,j<=al.length->ZeJ ls bs zs N v al xs j=((al.take j).map (fun a=>Zb2 v a (ZbI ls bs zs v a N))).foldl putD xs
 | 0,_=>by simp [ZeJ]
 | j+1,hj=>by
  have ih:=ZhY ls bs zs N v al xs j (by omega);have ha:al[j]? = some al[j]:=YAA (by omega);rw [Zf5 ha,ih,YAI (by omega),YAf,List.foldl_append];rfl
theorem Zme (ls:List Lk)(bs zs:List Bool)(N:Nat):∀ k,idA ls bs zs N k=((upsK zs k).flatMap (Zee ls bs zs N)).foldl putD []
 | 0=>rfl
 | k+1=>by
  have ih:=Zme ls bs zs N k;have e1:idA ls bs zs N (k+1)=if upB zs k then ZeJ ls bs zs N ((k:Int)+1) (Zas ls ((k:Int)+1)) (idA ls bs zs N k) (Zas ls ((k:Int)+1)).length else idA ls bs zs N k:=rfl
  have e2:upsK zs (k+1)=upsK zs k++(if upB zs k then [(k:Int)+1] else []):=rfl;rw [e1,e2,List.flatMap_append,List.foldl_append, <-ih];cases hu:upB zs k with
  | false=>simp
  | true=>
   simp only [if_true];rw [ZhY _ _ _ _ _ _ _ _ (YA _),YAh];simp [Zee]
theorem Zmf (ts:List Th)(zs:List Bool)(xs:List RecD):∀ k,idB ts zs xs k=(((ts.take k).filter (fun t=>upB zs (t.o-1).toNat)).map Zb6).foldl putD xs
 | 0=>rfl
 | k+1=>by
  have ih:=Zmf ts zs xs k;rcases Nat.lt_or_ge k ts.length with hk | hk
  ·have ht:ts[k]? = some ts[k]:=YAA hk;have e1:idB ts zs xs (k+1)=if upB zs (ts[k].o-1).toNat then putD (idB ts zs xs k) (Zb6 ts[k]) else idB ts zs xs k:=by
    show (match ts[k]? with | some t=>_ | none=>_)=_;rw [ht]
   rw [e1,ih,YAI hk,List.filter_append,YAf,List.foldl_append];obtain⟨q,hq⟩:∃ q,q=ts[k]:=⟨_,rfl⟩;rw [<-hq];generalize hf:(fun t:Th=>upB zs (t.o-1).toNat)=f;have hfq:upB zs (q.o-1).toNat=f q:=by rw [<-hf]
   rw [hfq];cases hu:f q with
   | false=>simp [hu]
   | true=>simp [hu]
  ·have e1:idB ts zs xs (k+1)=idB ts zs xs k:=by
    show (match ts[k]? with | some t=>_ | none=>_)=_;rw [List.getElem?_eq_none hk]
   rw [e1,ih,YAL hk,YAL (by omega)]
theorem Zol {a b:List RecD}(ha:a.Pairwise difK)(hb:b.Pairwise difK)(h:∀ x,x∈a↔x∈b):a.foldl putD []=b.foldl putD []:=by
 refine ZgF (Zes _ _ (by simp [Asc])) (Zes _ _ (by simp [Asc])) (fun x=>?_);rw [Zd5 _ _ _ ha,Zd5 _ _ _ hb,h x];simp
theorem ZfF {zs:List Bool}{v:Int}:∀ {k:Nat},v∈upsK zs k↔∃ j:Nat,j<k/\v=(j:Int)+1/\upB zs j=true
 | 0=>by simp [upsK]
 | k+1=>by
  have ih:=ZfF (zs:=zs) (v:=v) (k:=k);show v∈upsK zs k++(if upB zs k then [(k:Int)+1] else [])↔_;rw [YAF,ih];constructor
  ·rintro (⟨j,h1,h2,h3⟩ | h)
   ·exact ⟨j,by omega,h2,h3⟩
   ·cases hu:upB zs k with
    | false=>rw [hu] at h;simp at h
    | true=>rw [hu] at h;exact⟨k,by omega,by simpa using h,hu⟩
  ·rintro ⟨j,h1,h2,h3⟩;rcases Nat.lt_or_ge j k with e | e
   ·exact .inl ⟨j,e,h2,h3⟩
   ·have:j=k:=by omega
    subst this;exact .inr (by rw [h3];simpa using h2)
theorem Zgl (zs:List Bool):∀ k,(upsK zs k).Pairwise (fun a b=>a≠b)
 | 0=>by simp [upsK]
 | k+1=>by
  show (upsK zs k++(if upB zs k then [(k:Int)+1] else [])).Pairwise _;rw [YAM];refine⟨Zgl zs k,by split <;> simp,fun a ha b hb e=>?_⟩;obtain⟨j,h1,h2,_⟩:=ZfF.1 ha
  split at hb
  ·have:b=(k:Int)+1:=by simpa using hb
   omega
  ·cases hb
theorem ZjS (ls:List Lk)(v:Int):(Zas ls v).Pairwise (fun a b=>a≠b):=Zde ls v
theorem Zlg (hok:Za0 ⟨(N:Int),ls,ts⟩=true):iA N ls ts bs zs (upsK zs N)=idB ts zs (idA ls bs zs N N) ts.length:=by
 simp only [Za0,YAJ] at hok;obtain⟨⟨h1,h2⟩,h3⟩:=hok;have hl:=Zih h2;have ht:=Zmy h3;have htp:=ZlL h3;have e1:iA N ls ts bs zs (upsK zs N)=((upsK zs N).flatMap (tofD N ls ts bs zs)).foldl putD []:=by
  unfold iA;have h:∀ (us:List Int) (s:List RecD),us.foldl (fun s v=>(tofD N ls ts bs zs v).foldl putD s) s=(us.flatMap (tofD N ls ts bs zs)).foldl putD s:=by
   intro us
   induction us with
   | nil=>intro s;rfl
   | cons u us ih=>intro s;rw [List.foldl_cons,ih,List.flatMap_cons,List.foldl_append]
  exact h _ _
 rw [e1,Zmf,Zme,YAh, <-List.foldl_append];have hth:∀ t∈ts,(1<=t.o/\t.o<=(N:Int)):=fun t hin=>by
  have:=ht t hin;unfold Zc9 inB at this;simp only [YAJ,YAS] at this;omega
 have htof:∀ v∈upsK zs N,∀ x,x∈tofD N ls ts bs zs v↔(x∈Zee ls bs zs N v\/∃ t∈ts,t.o=v/\x=Zb6 t):=fun v hv x=>by
  have hup:upI N zs v=true:=by
   obtain⟨j,j1,rfl,j3⟩:=ZfF.1 hv;unfold upI;rw [show inB ((j:Int)+1) 1 (N:Int)=true by simp [inB];omega,show ((j:Int)+1-1).toNat=j by omega,j3];rfl
  unfold tofD;rw [YAf,YAF,Zdx hl];refine or_congr ?_ ?_
  ·unfold Zee nodD;rw [List.map_map,YAR,YAR];constructor
   ·rintro ⟨a,ha,rfl⟩;refine⟨a,ha,?_⟩;rw [<-Zi6 h2 hup (Zgo ha) N (YA _)];rfl
   ·rintro ⟨a,ha,rfl⟩;refine⟨a,ha,?_⟩;rw [<-Zi6 h2 hup (Zgo ha) N (YA _)];rfl
  ·unfold Zfj;rw [List.map_map,YAR];constructor
   ·rintro ⟨t,ht1,rfl⟩;have h9:=YAP.1 ht1;have h10:t.o=v:=eq_of_beq h9.2;refine⟨t,h9.1,h10,?_⟩;show Zcm (thgD v t)=Zb6 t;unfold Zcm thgD Zb6;rw [h10]
   ·rintro ⟨t,ht1,ho,rfl⟩;refine⟨t,YAP.2 ⟨ht1,beq_iff_eq.2 ho⟩,?_⟩;show Zcm (thgD v t)=Zb6 t;unfold Zcm thgD Zb6;rw [ho]
 have hown:∀ v∈upsK zs N,∀ x∈tofD N ls ts bs zs v,x.owner=v:=fun v hv x hx=>by
  rcases (htof v hv x).1 hx with h | ⟨t,_,ho,rfl⟩
  ·unfold Zee at h;obtain⟨a,_,rfl⟩:=YAR.1 h;rfl
  ·exact ho
 refine Zol ?_ ?_ (fun x=>?_)
 ·rw [List.pairwise_flatMap];refine⟨fun v hv=>?_,(Zgl zs N).imp_of_mem (fun {a b} ha hb hab x hx y hy=>Zfs (.inr (.inr (.inl (by rw [hown a ha x hx,hown b hb y hy];exact hab)))))⟩;unfold tofD;rw [YAf,YAM,Zdx hl];refine⟨?_,?_,fun x hx y hy=>?_⟩
  ·unfold nodD;rw [List.map_map,YAm];exact (ZjS ls v).imp (fun h=>Zfs (.inl h))
  ·unfold Zfj;rw [List.map_map,YAm];refine (htp.filter _).imp_of_mem (fun {a b} ha hb hab=>Zfs (.inr (.inr (.inr ?_))));have o1:a.o=v:=eq_of_beq (YAP.1 ha).2;have o2:b.o=v:=eq_of_beq (YAP.1 hb).2;show a.k≠b.k;have:=(ZlA a b).1 hab;omega
  ·unfold nodD at hx;unfold Zfj at hy;rw [List.map_map] at hx hy;obtain⟨a,_,rfl⟩:=YAR.1 hx;obtain⟨t,_,rfl⟩:=YAR.1 hy;exact Zfs (.inr (.inl (by show (1:Int)≠3;decide)))
 ·rw [YAM,List.pairwise_flatMap];refine⟨⟨fun v hv=>?_,(Zgl zs N).imp (fun {a b} hab x hx y hy=>?_)⟩,?_,fun x hx y hy=>?_⟩
  ·unfold Zee;rw [YAm];exact (ZjS ls v).imp (fun h=>Zfs (.inl h))
  ·unfold Zee at hx hy;obtain⟨_,_,rfl⟩:=YAR.1 hx;obtain⟨_,_,rfl⟩:=YAR.1 hy;exact Zfs (.inr (.inr (.inl hab)))
  ·rw [YAm];refine (htp.filter _).imp (fun {a b} hab=>?_);have:=(ZlA a b).1 hab;rcases this with h | ⟨h,h'⟩
   ·exact Zfs (.inr (.inr (.inr (by show a.k≠b.k;omega))))
   ·exact Zfs (.inr (.inr (.inl (by show a.o≠b.o;omega))))
  ·obtain ⟨v,_,hx2⟩:=YAp.1 hx;unfold Zee at hx2;obtain⟨_,_,rfl⟩:=YAR.1 hx2;obtain⟨_,_,rfl⟩:=YAR.1 hy;exact Zfs (.inr (.inl (by show (1:Int)≠3;decide)))
 ·rw [YAF,YAp,YAp,YAR];constructor
  ·rintro ⟨v,hv,hx⟩;rcases (htof v hv x).1 hx with h | ⟨t,ht1,ho,rfl⟩
   ·exact .inl ⟨v,hv,h⟩
   ·refine .inr ⟨t,YAP.2 ⟨ht1,?_⟩,rfl⟩;obtain⟨j,j1,j2,j3⟩:=ZfF.1 hv;rw [show (t.o-1).toNat=j by omega];exact j3
  ·rintro (⟨v,hv,hx⟩ | ⟨t,ht1,rfl⟩)
   ·exact ⟨v,hv,(htof v hv x).2 (.inl hx)⟩
   ·have h9:=YAP.1 ht1;have h10:=hth t h9.1;have hv:t.o∈upsK zs N:=ZfF.2 ⟨(t.o-1).toNat,by omega,by omega,h9.2⟩;exact⟨t.o,hv,(htof t.o hv _).2 (.inr ⟨t,h9.1,rfl,rfl⟩)⟩
theorem Zqq (hok:Za0 ⟨(N:Int),ls,ts⟩=true):iR ls (upsK zs N) (iA N ls ts bs zs (upsK zs N)) 3=ZcI ls ts bs zs N:=by
 have hok':=hok;simp only [Za0,YAJ] at hok;obtain⟨⟨h1,h2⟩,h3⟩:=hok;have hN:N<=6:=by simp only [inB,YAJ,YAS] at h1;omega
 have hl:=Zih h2;have ht:=Zmy h3;have htl:ts.length<=4:=by
  unfold Zbt at h3;simp only [YAJ,YAS] at h3;exact h3.1.1
 have hA:=Zle (bs:=bs) (zs:=zs) hl hN N hN;have hB:=Zlf (zs:=zs) (by omega) ht hA ts.length;have hok2:IdOk N (idB ts zs (idA ls bs zs N N) ts.length):=⟨hB.asc,hB.ok,by have:=hB.own;omega,fun u=>by rw [hB.his u];omega⟩;have hh:ZjM ls (idB ts zs (idA ls bs zs N N) ts.length):=fun x hx hk=>by
  have h9:=hB.his x.owner;unfold cntR at h9;have h10:=List.filter_eq_nil_iff.1 (List.length_eq_zero_iff.1 h9) x hx;exact absurd (by unfold hisR;simp [hk]) h10
 rw [Zlg hok'];exact (iR_eq (zs:=zs) hN hl hok2 hh 3).1
def ZcN (x:NetD)(bs zs:List Bool):Bool:=Za0 x&&(decide (bs.length=x.ls.length)&&decide ((zs.length:Int)=x.n))
noncomputable def Zfz (x:NetD) (bs zs:List Bool):List RecD:=if ZcN x bs zs then ZcI x.ls x.ts bs zs x.n.toNat else []
theorem ZfJ {x:NetD}(h:Za0 x=true):1<=x.n/\x.n<=6/\x.ls.length<=12/\x.ts.length<=4/\∀ t∈x.ts,1<=t.o/\t.o<=x.n:=by
 simp only [Za0,YAJ] at h;obtain⟨⟨h1,h2⟩,h3⟩:=h;have ht:=Zmy h3;have h4:=h2;have h5:=h3;unfold Zb1 at h4;unfold Zbt at h5;simp only [YAJ,YAS] at h4 h5;simp only [inB,YAJ,YAS] at h1;refine⟨h1.1,h1.2,h4.1.1,h5.1.1,fun t hin=>?_⟩;have:=ht t hin;unfold Zc9 inB at this;simp only [YAJ,YAS] at this;omega
theorem Zhf (v1 v2 y z:Value)(x:NetD)(bs zs:List Bool)(w:World)(hl:x.ls.length<=1048576)(ht:x.ts.length<=1048576)(hbl:bs.length<=1048576)(hzl:zs.length<=1048576)(h1:w.ownsRow 0 78 4 v1 x.ls.length (flat lkE x.ls))(h2:ZaS w v2 x.ts w.heap.size)(h3:Zbh w y bs w.heap.size)(h4:Zbh w z zs w.heap.size):
  Calls Tryz.prog 6 #[.agg #[.int .i64 x.n,v1,v2],y,z] w fun e w'=>∃ o qs,e=.returned (.tuple #[o,.bool (ZcN x bs zs)])/\fsts qs=Zfz x bs zs/\tot qs<=2000/\RecsOwn w' w.heap.size w'.heap.size o qs/\Below w.heap.size w w':=by
 by_cases hB:ZcN x bs zs=true
 ·unfold Zfz;rw [hB,if_pos rfl];unfold ZcN at hB;simp only [YAJ,YAS] at hB;obtain⟨k1,k2,k3,k4,k5⟩:=ZfJ hB.1;obtain⟨n,ls,ts⟩:=x;simp only [] at *;obtain⟨N,rfl⟩:∃ N:Nat,n=(N:Int):=⟨n.toNat,by omega⟩;rw [show ((N:Int)).toNat=N by omega];refine (Znb v1 v2 y z N ls ts bs zs w hB.1 (by omega) k3 k4 h1 h2 h3 h4 hB.2.1 (by omega)).mono ?_;rintro e w' ⟨o,qs,h5,h6,h7,h8,h9⟩;exact⟨o,qs,h5,by rw [h6];exact Zqq hB.1,by omega,h8,h9⟩
 have hB:ZcN x bs zs=false:=by cases e:ZcN x bs zs with
  | false=>rfl
  | true=>exact absurd e hB
 unfold Zfz;rw [hB];simp only [Bool.false_eq_true,if_false];obtain⟨n,ls,ts⟩:=x;simp only [] at *;have hL:ZaK w v1 ls w.heap.size:=Zam h1;obtain⟨a1,c1,rfl⟩:=Zac h1;obtain⟨a2,c2,rfl⟩:=ZaS.shape h2;obtain⟨a3,c3,rfl⟩:=h3.shape;obtain⟨a4,c4,rfl⟩:=h4.shape;have HNO:=hide (fun W (hb:Below w.heap.size w W)=>Zh8 (.agg #[.int .i64 n,.slice a1 ls.length c1,.slice a2 ts.length c2]) ⟨n,ls,ts⟩ W hl ht ⟨_,_,rfl,Zav.then hL hb,Zav.then h2 hb⟩);have GX:=hide (YAE w (.cells #[.int .i64 n,.slice a1 ls.length c1,.slice a2 ts.length c2] 27));have BX:Below w.heap.size w (w.alloc (.cells #[.int .i64 n,.slice a1 ls.length c1,.slice a2 ts.length c2] 27)):=(YAC _ _).alloc (YA _) _;clear h1 h2 h3 h4 hL;cases hok:Za0 ⟨n,ls,ts⟩ with
 | false=>
  have HOK:=hide hok;clear hok hB
  go_enter Tryz.func6,Tryz.ntmps6
  go_wp2_with fail
  refine (HNO.out _ BX).mono ?_;rintro e w2 ⟨rfl,b2⟩;rw [HOK.out];have B2:Below w.heap.size w w2:=BX.trans (b2.mono BX.size);have g2:=(b2.block _ (Zab GX.out)).trans GX.out;have y0:=Zaa g2 0;have y1:=Zaa g2 1;simp at y0 y1;have R2:=hide (ZcR w2 w.heap.size B2.size);have B3:=hide (B2.alloc B2.size (.cells #[] 37));clear g2 b2;go_wp2;go_ret2;exact⟨_,[],rfl,rfl,by simp [tot],R2.out,B3.out⟩
 | true=>
  have HOK:=hide hok;unfold ZcN at hB;simp only [hok,Bool.true_and,Bool.and_eq_false_iff,decide_eq_false_iff_not] at hB;clear hok;by_cases hlen:bs.length=ls.length
  ·have hup:((zs.length:Int) != n)=true:=by
    rcases hB with h | h
    ·exact absurd hlen h
    ·simpa using h
   rw [hlen] at *;clear hB hlen
   go_enter Tryz.func6,Tryz.ntmps6
   go_wp2_with fail
   refine (HNO.out _ BX).mono ?_;rintro e w2 ⟨rfl,b2⟩;rw [HOK.out];have B2:Below w.heap.size w w2:=BX.trans (b2.mono BX.size);have g2:=(b2.block _ (Zab GX.out)).trans GX.out;have y0:=Zaa g2 0;have y1:=Zaa g2 1;simp at y0 y1;have R2:=hide (ZcR w2 w.heap.size B2.size);have B3:=hide (B2.alloc B2.size (.cells #[] 37));clear g2 b2;go_wp2;go_ret2;exact⟨_,[],rfl,rfl,by simp [tot],R2.out,B3.out⟩
  ·have hne:((bs.length:Int) != (ls.length:Int))=true:=by simp;omega
   clear hB hlen
   go_enter Tryz.func6,Tryz.ntmps6
   go_wp2_with fail
   refine (HNO.out _ BX).mono ?_;rintro e w2 ⟨rfl,b2⟩;rw [HOK.out];have B2:Below w.heap.size w w2:=BX.trans (b2.mono BX.size);have g2:=(b2.block _ (Zab GX.out)).trans GX.out;have y0:=Zaa g2 0;have y1:=Zaa g2 1;simp at y0 y1;have R2:=hide (ZcR w2 w.heap.size B2.size);have B3:=hide (B2.alloc B2.size (.cells #[] 37));clear g2 b2;go_wp2;go_ret2;exact⟨_,[],rfl,rfl,by simp [tot],R2.out,B3.out⟩
end Go.Proofs.YtikloccefmofdaaGreat
