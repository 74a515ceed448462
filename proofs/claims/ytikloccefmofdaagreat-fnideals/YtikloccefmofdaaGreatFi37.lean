/-
  Parts.
-/
import Derived.Test.YtikloccefmofdaaGreatFi36
namespace Go.Proofs.YtikloccefmofdaaGreat
open Go.RowKit
set_option linter.unusedSimpArgs false
set_option linter.unusedVariables false
set_option maxRecDepth 100000
set_option maxHeartbeats 8000000
variable {bs zs:List Bool}{ls:List Lk}{xs:List RecD}{l m:List RtD}{N N2 k t v:Nat}
def ZhR (x:NetD)(bs zs:List Bool)(node:Int):Bool:=ZcN x bs zs&&inB node 1 x.n&&zs.getD (node-1).toNat false
def Zfm (x:NetD)(bs zs:List Bool)(node:Int)(l:List RtD):Prop:=if ZhR x bs zs node=true then Zdd (Zfz x bs zs) (Zas x.ls node) (ZeW x.ls node) node l else l=[]
theorem Zfm.unique {x:NetD}{node:Int}(h:Zfm x bs zs node l)(h':Zfm x bs zs node m):l=m:=by
 unfold Zfm at h h'
 split at h
 ·rw [if_pos (by assumption)] at h';exact h.unique h'
 ·rw [if_neg (by assumption)] at h';rw [h,h']
theorem Zjr (W:World)(lo:Nat)(hb:lo<=W.heap.size):RtsOwn (W.alloc (.cells #[] 42)) lo (W.alloc (.cells #[] 42)).heap.size (.slice (some ⟨W.heap.size,0,none⟩) 0 0) [] where
 row:=World.ownsRow_lit W #[] 0 hb (by unfold maxLen;omega) (by simp)
 top:=by intro k hk;simp [Value.ownBlock] at hk;subst hk;simp
 nears:=by simp
 apart:=by simp
theorem Znk (v1 v2 y z:Value)(x:NetD)(bs zs:List Bool)(node:Int)(w:World)(hl:x.ls.length<=1048576)(ht:x.ts.length<=1048576)(hbl:bs.length<=1048576)(hzl:zs.length<=1048576)(h1:w.ownsRow 0 78 4 v1 x.ls.length (flat lkE x.ls))(h2:ZaS w v2 x.ts w.heap.size)(h3:Zbh w y bs w.heap.size)(h4:Zbh w z zs w.heap.size):
  Calls Tryz.prog 9 #[.agg #[.int .i64 x.n,v1,v2],y,z,.int .i64 node] w fun e w'=>∃ o qs,e=.returned o/\Zfm x bs zs node (Za7 qs)/\RtsOwn w' w.heap.size w'.heap.size o qs/\Below w.heap.size w w':=by
 obtain⟨a1,c1,rfl⟩:=Zac h1;obtain⟨a2,c2,rfl⟩:=h2.shape;obtain⟨a3,c3,rfl⟩:=h3.shape;obtain⟨a4,c4,rfl⟩:=h4.shape;have hw0:=YAE w (.cells #[.int .i64 x.n,.slice a1 x.ls.length c1,.slice a2 x.ts.length c2] 27);have bw:=(YAC w.heap.size w).alloc (YA _) (.cells #[.int .i64 x.n,.slice a1 x.ls.length c1,.slice a2 x.ts.length c2] 27);obtain⟨W1,hW1⟩:∃ W1,W1=w.alloc (.cells #[.int .i64 x.n,.slice a1 x.ls.length c1,.slice a2 x.ts.length c2] 27):=⟨_,rfl⟩;rw [<-hW1] at hw0 bw;have HW1:=hide hW1;clear hW1;have HID:=hide (Zhf (.slice a1 x.ls.length c1) (.slice a2 x.ts.length c2) (.slice a3 bs.length c3) (.slice a4 zs.length c4) x bs zs W1 hl ht hbl hzl (Zad h1 bw (YA _)) (Zav.then h2 bw) (Zav.then h3 bw) (Zav.then h4 bw));have HAL:=hide (show (Zas x.ls node).length<=1048576 from YAK (Zco x.ls _) (by omega));have HL1:=hide (Zav.then (Zam h1) bw);have HZC:=hide h4;have hz:=Zab hw0;have hwg:=bw.size;have HW0:=hide hw0;have BW:=hide bw;have HIN:=hide (fun W=>Za5 node 1 (zs.length:Int) W);clear h1 h2 h3 h4 bw hw0;obtain⟨B,hB⟩:∃ B,B=ZcN x bs zs:=⟨_,rfl⟩;rw [<-hB] at HID;have HB:=hide hB;clear hB
 go_enter Tryz.func9,Tryz.ntmps9
 go_wp2_with fail
 rw [<-HW1.out];refine HID.out.mono ?_;rintro e w2 ⟨o,qs,rfl,hf,htq,hown,b2⟩;obtain⟨oa,oc,rfl⟩:=Zac hown.row;have HF:=hide hf;have HO2:=hide hown;have hs2:=b2.size;have G2:=hide ((b2.block _ hz).trans HW0.out);have B2:=hide (BW.out.trans (b2.mono hwg));have HL2':=hide (Zav.then HL1.out b2);have HL2:=hide (Zav.then HL2'.out (YAC w2.heap.size w2).drew);have hz2:=Zab G2.out;have s0:=Zaa G2.out 0;have s1:=Zaa G2.out 1;have s2:=Zaa G2.out 2;simp only [YAd,YAX,YAW] at s0 s1 s2;clear hf hown b2 HW0 HW1 HL1 HID hz;have hz:=hz2;cases B
 case false=>
  have CND:ZcN x bs zs=false:=HB.out.symm;have HC:=hide CND;clear CND;have LIT:=hide (Zjr w2 w2.heap.size (YA _));have BL:=hide (B2.out.alloc B2.out.size (.cells #[] 42));go_wp2;go_ret;exact⟨_,[],rfl,by unfold Zfm ZhR;rw [if_neg (by simp [HC.out])];rfl,LIT.out.wide B2.out.size (YA _),BL.out⟩
 case true=>
  have hI:ZcN x bs zs=true:=HB.out.symm;have hI2:=hI;unfold ZcN at hI2;simp only [YAJ,YAS] at hI2;obtain⟨hnet,hbn,hzn⟩:=hI2;have HST:=hide (show Zax (fsts qs)=true by
   rw [HF.out];unfold Zfz;rw [if_pos hI];obtain⟨hn1,hn6,_,_,_⟩:=ZfJ hnet;have h:=Ze1 (ls:=x.ls) (ts:=x.ts) (bs:=bs) (zs:=zs) (N:=x.n.toNat) (by rw [show ((x.n.toNat:Nat):Int)=x.n by omega];exact hnet);exact h)
  have HLK:=hide (show ∀ l∈x.ls,ZaP x.n l=true by have h:=hnet;simp only [Za0,YAJ] at h;exact Zih h.1.2);have HI:=hide hI;have HZN:=hide hzn;obtain⟨I,hIn⟩:∃ I,I=inB node 1 (zs.length:Int):=⟨_,rfl⟩;rw [<-hIn] at HIN;have HINB:=hide (show inB node 1 x.n=I by rw [hIn];rw [HZN.out]);have HIN2:=hide hIn;clear hI hnet hbn hzn hIn
  go_wp2_with fail
  refine (HIN.out _).mono ?_;rintro e w3 ⟨rfl,rfl⟩;cases I
  case false=>
   have CND:inB node 1 x.n=false:=HINB.out;have HC:=hide CND;clear CND;have LIT:=hide (Zjr w2 w2.heap.size (YA _));have BL:=hide (B2.out.alloc B2.out.size (.cells #[] 42));go_wp2;go_ret;exact⟨_,[],rfl,by unfold Zfm ZhR;rw [if_neg (by simp [HC.out])];rfl,LIT.out.wide B2.out.size (YA _),BL.out⟩
  case true=>
   obtain⟨m,rfl⟩:∃ m:Nat,node=(m:Int)+1:=by
    have h:=HINB.out;simp only [inB,YAJ,YAS] at h;exact⟨(node-1).toNat,by omega⟩
   have hml:m<zs.length:=by
    have h:=HINB.out;have h2:=HZN.out;simp only [inB,YAJ,YAS] at h;omega
   have hmi:(m:Int)<(zs.length:Int):=by omega
   obtain⟨ub,hub⟩:∃ b,zs[m]? = some b:=⟨zs[m],YAA hml⟩;obtain⟨ug,uo,uc0,huv,hug,ucell⟩:=HZC.out.cell m ub hub;obtain⟨rfl,rfl⟩:a4=some ⟨ug,uo,none⟩/\c4=uc0:=by cases huv;exact⟨rfl,rfl⟩
   have u2:w2.cell? ⟨ug,uo+m,none⟩=some (.bool ub):=by rw [B2.out.cell (p:=⟨ug,uo+m,none⟩) hug];exact ucell
   have HUP:=hide (show zs.getD ((m:Int)+1-1).toNat false=ub by rw [show ((m:Int)+1-1).toNat=m by omega];simp [List.getD,hub]);clear huv ucell hub;cases ub
   case false=>
    have HC:=HUP;have LIT:=hide (Zjr w2 w2.heap.size (YA _));have BL:=hide (B2.out.alloc B2.out.size (.cells #[] 42));go_wp2;go_ret;exact⟨_,[],rfl,by unfold Zfm ZhR;rw [if_neg (by rw [HC.out];simp)];rfl,LIT.out.wide B2.out.size (YA _),BL.out⟩
   case true=>
    have HCC:=hide (show ZhR x bs zs ((m:Int)+1)=true by unfold ZhR;rw [HI.out,HINB.out,HUP.out];rfl);obtain⟨node,hnode⟩:∃ node,node=(m:Int)+1:=⟨_,rfl⟩;have HND:=hide hnode
    go_wp2_with fail
    rw [<-HND.out];rw [<-HND.out] at HAL HCC;clear hnode;refine Zag (S:=(fun (W:World)=>W.cell? ⟨w.heap.size,0,none⟩=some (.int .i64 x.n)/\W.cell? ⟨w.heap.size,1,none⟩=some (.slice a1 x.ls.length c1)/\W.cell? ⟨w.heap.size,2,none⟩=some (.slice a2 x.ts.length c2))) (by kernel_rfl) 10 rfl ⟨s0,s1,s2⟩ (fun ops hops hHeld=>?_);refine TD 0 ?_
    try simp only [putS]
    refine TD 1 ?_
    try simp only [putS]
    refine TD 2 ?_
    try simp only [putS]
    refine TD 4 ?_
    try simp only [putS]
    refine TD 5 ?_
    try simp only [putS]
    refine TD 7 ?_
    try simp only [putS]
    refine TC 3 ?_;intro K hK;go_simp;refine (Zeu (.int .i64 x.n) (.slice a1 x.ls.length c1) (.slice a2 x.ts.length c2) x.ls node _ hl HL2.out).mono ?_;rintro e wa ⟨u,rfl,hu,ba⟩;rw [<-Zb7] at hu;rw [Zdx HLK.out] at hu;obtain⟨ua,uc,rfl⟩:=Zac hu;have HU:=hide hu;have hsa:=ba.size;clear hu;refine hK.out _ _ ?_ (fun hHeld=>?_)
    ·obtain ⟨m0,m1,m2⟩:=hHeld;exact⟨(ba.cell hz).trans m0,(ba.cell hz).trans m1,(ba.cell hz).trans m2⟩
    clear hK K
    try simp only [putS]
    have HLA:=hide (Zav.then HL2.out ba);refine TC 6 ?_;intro K hK;go_simp;refine (Zhe (.int .i64 x.n) (.slice a1 x.ls.length c1) (.slice a2 x.ts.length c2) x.ls node _ hl HLA.out).mono ?_;rintro e wb ⟨rfl,bb⟩;have hsb:=bb.size;rw [ZjY HLK.out];refine hK.out _ _ ?_ (fun hHeld=>?_)
    ·obtain ⟨m0,m1,m2⟩:=hHeld;exact⟨(bb.cell (YAB hz ba.size)).trans m0,(bb.cell (YAB hz ba.size)).trans m1,(bb.cell (YAB hz ba.size)).trans m2⟩
    clear hK K
    try simp only [putS]
    have HUB:=hide (Zch (Zad HU.out bb (YA _)));have HOB:=hide (HO2.out.below ((YAC w2.heap.size w2).drew.trans (ba.trans (bb.mono ba.size))) (YA _));refine TC 8 ?_;intro K hK;go_simp;refine (Zlm (.slice oa qs.length oc) (.slice ua (Zas x.ls node).length uc) qs (Zas x.ls node) wb.heap.size (ZeW x.ls node) node wb (HOB.out.wide (Nat.zero_le _) (by have:w2.drew.heap.size=w2.heap.size:=rfl;omega)).in HUB.out (YA _) (by omega) HAL.out HST.out).mono ?_;rintro e wc ⟨v9,rs,rfl,hir,hrs,bc⟩;obtain⟨xa,xc,rfl⟩:=Zac hrs.row;have HIR:=hide hir;have HRS:=hide hrs;clear hir hrs;refine hK.out _ _ ?_ (fun hHeld=>?_)
    ·obtain ⟨m0,m1,m2⟩:=hHeld;exact⟨(bc.cell (YAB hz (YAK ba.size bb.size))).trans m0,(bc.cell (YAB hz (YAK ba.size bb.size))).trans m1,(bc.cell (YAB hz (YAK ba.size bb.size))).trans m2⟩
    clear hK K
    try simp only [putS]
    refine TD 9 ?_
    try simp only [putS]
    refine wpAnyH_done (by rw [hops.out];kernel_rfl) ?_ _;clear hops ops;have B9:=hide (B2.out.drew.trans ((ba.trans ((bb.mono ba.size).trans (bc.mono (YAK ba.size bb.size)))).mono B2.out.size));have hfin:w.heap.size<=wb.heap.size:=by have:=B2.out.size;have h1:=ba.size;have h2:w2.drew.heap.size=w2.heap.size:=rfl;omega
    clear s0 s1 s2 u2 ba bb bc;go_wp2;go_ret;rw [HF.out] at HIR;exact⟨_,rs,rfl,by rw [<-HND.out];unfold Zfm;rw [if_pos HCC.out];exact HIR.out,HRS.out.wide hfin (YA _),B9.out⟩
theorem ZiC (hs:Zax xs=true)(hm:Home ls N xs)(hsym:∀ a u v,Zb3 xs a u v=Zb3 xs a v u){w:WayD}(hw:Zaq xs (Zas ls (v:Int)) (v:Int) (t:Int) w):
  ∃ w',Zaq xs (Zas ls (t:Int)) (t:Int) (v:Int) w'/\w'.cost=w.cost:=by
 obtain⟨hwt,a,ha,hwa⟩:=hw;obtain⟨k1,k2⟩:=ZpR hs (hsym a) (ZdP xs a (v:Int)) hwa hwt (ZdP xs a (t:Int));rcases Zcb (ZbE xs a (t:Int)) (v:Int) with ⟨_,g2⟩ | ⟨g1,_⟩
 ·obtain ⟨g3,g4⟩:=ZaM g2;have hn:Zdt xs a (t:Int)=true:=by
   have h:=ZdP xs a (t:Int);unfold ZaX at h
   split at h
   ·rename_i h2
    simp only [YAJ] at h2;exact h2.2
   ·rw [h] at g3;cases g3
  exact⟨_,⟨g4,a,(Zkd hm hn).1,g3⟩,k2⟩
 ·rw [k1] at g1;cases g1
theorem ZlU (hs:Zax xs=true)(hm:Home ls N xs)(hsym:∀ a u v,Zb3 xs a u v=Zb3 xs a v u){ds es:List WayD} (hd:ZaE (Zaq xs (Zas ls (v:Int)) (v:Int)) ds) (he:ZaE (Zaq xs (Zas ls (t:Int)) (t:Int)) es) {d:WayD} (hf:ZaV ds (t:Int)=some d):
  ∃ e∈es,e.to=(v:Int)/\e.cost=d.cost:=by
 have hb:=hd.2 (t:Int);rw [hf] at hb;obtain⟨h1,⟨w,hw,hwc⟩,hle,_,_⟩:=hb;obtain⟨w',hw',hc'⟩:=ZiC hs hm hsym hw;have hb2:=he.2 (v:Int);cases hfe:ZaV es (v:Int) with
 | none=>rw [hfe] at hb2;exact absurd hw' (hb2 _)
 | some e=>
  rw [hfe] at hb2;obtain⟨e1,⟨u,hu,huc⟩,hle2,_,_⟩:=hb2;obtain⟨m,hme⟩:=ZaM hfe;refine⟨e,m,hme,?_⟩;have a1:=hle2 _ hw';obtain⟨u',hu',huc'⟩:=ZiC hs hm hsym hu;have a2:=hle _ hu';omega
theorem ZlC (hs:Zax xs=true)(hm:Home ls N xs)(hsym:∀ a u v,Zb3 xs a u v=Zb3 xs a v u){b1 b2:Bool}(hl:Zdd xs (Zas ls (v:Int)) b1 (v:Int) l)(hr:Zdd xs (Zas ls (t:Int)) b2 (t:Int) m){r:RtD}(h:r∈l)(hk:r.kind=1)(ht:r.to=(t:Int)):
  ∃ q∈m,q.thing=false/\q.to=(v:Int)/\q.cost=r.cost:=by
 obtain⟨ds,bs,ts,hd,_,hth,rfl⟩:=hl;obtain⟨es,cs,us,he,_,_,rfl⟩:=hr;simp only [YAF] at h;rcases h with (h | h) | h
 ·unfold ZfM at h;simp only [YAR,YAP] at h;obtain⟨d,⟨hdm,hne⟩,rfl⟩:=h;have hne2:d.to≠(v:Int):=by simpa using hne
  simp only at ht;have hf:ZaV ds (t:Int)=some d:=by rw [<-ht];exact ZbP hd.1 hdm
  obtain⟨e,hem,hev,hec⟩:=ZlU hs hm hsym hd he hf;have hvt:(v:Int)≠(t:Int):=fun e=>hne2 (by rw [ht,e]);refine⟨⟨false,e.to,1,e.cost,0,e.hops⟩,?_,rfl,hev,hec⟩;simp only [YAF];refine .inl (.inl ?_);unfold ZfM;simp only [YAR,YAP];exact⟨e,⟨hem,by rw [hev];simpa using hvt⟩,rfl⟩
 ·unfold ZfM at h;simp only [YAR] at h;obtain⟨d,_,rfl⟩:=h;simp at hk
 ·obtain ⟨w,_,rfl⟩:=YAR.1 h;unfold rtOf at hk
  split at hk <;> simp at hk
def Zd0 (zs:List Bool)(xs:List RecD):Prop:=∀ r∈xs,r.seq=1/\∃ k:Nat,r.owner=(k:Int)+1/\upB zs k=true
theorem Zd0.put {r:RecD}(h:Zd0 zs xs)(hr:r.seq=1/\∃ k:Nat,r.owner=(k:Int)+1/\upB zs k=true):Zd0 zs (putD xs r):=by
 intro q hq;rcases ZeA hq with h1 | h1
 ·exact h q h1
 ·subst h1;exact hr
theorem ZkM {al:List Int}(h:Zd0 zs xs)(hv:upB zs k=true):∀ j,Zd0 zs (ZeJ ls bs zs N2 ((k:Int)+1) al xs j)
 | 0=>h
 | j+1=>(ZkM h hv j).put ⟨rfl,k,rfl,hv⟩
theorem ZlO :∀ k,Zd0 zs (idA ls bs zs N2 k)
 | 0=>fun r hr=>by cases hr
 | k+1=>by
  unfold idA
  split
  ·exact ZkM (ZlO k) (by assumption) _
  ·exact ZlO k
theorem ZjE {ts:List Th}(h:Zd0 zs xs)(ht:∀ t∈ts,1<=t.o):∀ k,Zd0 zs (idB ts zs xs k)
 | 0=>h
 | k+1=>by
  unfold idB
  split
  ·rename_i t hk
   split
   ·rename_i hu
    have:=ht t (YAG hk);exact (ZjE h ht k).put ⟨rfl,(t.o-1).toNat,by show t.o=_;omega,hu⟩
   ·exact ZjE h ht k
  ·exact ZjE h ht k
theorem Zsp {al:List Int}(h:Zd0 zs xs)(hu:upB zs k=true):Zd0 zs (beyD xs al ((k:Int)+1)):=by
 intro r hr;unfold beyD at hr;rcases Zhl hr with h1 | ⟨t,ht,e⟩
 ·exact h r (YAP.1 h1).1
 ·obtain ⟨a,to,c,_,e2,_⟩:=ZbV ht;subst e2;subst e;exact⟨rfl,k,rfl,hu⟩
theorem ZlP (h:Zd0 zs xs):∀ k,Zd0 zs (idC ls zs xs k)
 | 0=>h
 | k+1=>by
  unfold idC
  split
  ·rename_i hc
   simp only [YAJ] at hc;exact Zsp (ZlP h k) hc.1
  ·exact ZlP h k
theorem ZpQ (h:Zd0 zs xs):∀ r,Zd0 zs (idR ls zs N2 xs r)
 | 0=>h
 | r+1=>ZlP (ZpQ h r) N2
theorem ZkN (ls:List Lk)(ts:List Th)(bs zs:List Bool)(N:Nat)(ht:∀ t∈ts,1<=t.o):Zd0 zs (ZcI ls ts bs zs N):=ZpQ (ZjE (ZlO N) ht _) 3
theorem Zrp (h:Zd0 zs xs){area:Int}{u:Nat}(hn:Zdt xs area (u:Int)=true):1<=u/\upB zs (u-1)=true:=by
 unfold Zdt ZdY at hn;rcases ZcY xs (ZeL area (u:Int)) with h1 | ⟨k,x,h1,h2,h3⟩
 ·rw [h1] at hn;simp at hn
 ·simp only [Zap,ZeL,YAJ,beq_iff_eq] at h3;obtain⟨_,j,e1,e2⟩:=h x (YAG h2);rw [h3.1.2] at e1;have e3:u-1=j:=by omega
  exact⟨by omega,by rw [e3];exact e2⟩
theorem Zro :upB zs k=zs.getD k false:=by
 unfold upB;simp [List.getD]
theorem ZmW {x:NetD}(hI:ZcN x bs zs=true){v:Int}(hl:Zfm x bs zs v l){r:RtD}(hr:r∈l)(hk:r.kind=1)(hm:Zfm x bs zs r.to m):
  ∃ q∈m,q.thing=false/\q.to=v/\q.cost=r.cost:=by
 have hI2:=hI;unfold ZcN at hI2;simp only [YAJ,YAS] at hI2;obtain⟨hnet,hbn,hzn⟩:=hI2;obtain⟨hn1,hn6,_,_,hto⟩:=ZfJ hnet;have hnn:((x.n.toNat:Nat):Int)=x.n:=by omega
 have hst:Zax (ZcI x.ls x.ts bs zs x.n.toNat)=true:=Ze1 (by rw [hnn];exact hnet);have hhm:=Zna x.ls x.ts bs zs x.n.toNat;have hup:=ZkN x.ls x.ts bs zs x.n.toNat (fun t ht=>(hto t ht).1);have hsy:=ZoD hst (ZnQ x.ls x.ts bs zs x.n.toNat);have eL:Zfz x bs zs=ZcI x.ls x.ts bs zs x.n.toNat:=by unfold Zfz;rw [if_pos hI]
 unfold Zfm at hl
 split at hl
 ·rename_i hb
  unfold ZhR at hb;simp only [YAJ] at hb;have hv:=hb.1.2;unfold inB at hv;simp only [YAJ,YAS] at hv;obtain⟨u,rfl⟩:∃ u:Nat,v=(u:Int):=⟨v.toNat,by omega⟩;rw [eL] at hl
  -- where the route leads to
  have hT:∃ t:Nat,r.to=(t:Int)/\1<=t/\t<=x.n.toNat/\upB zs (t-1)=true:=by
   obtain⟨ds,es,ts,hd,_,_,rfl⟩:=hl;simp only [YAF] at hr;rcases hr with (h | h) | h
   ·unfold ZfM at h;simp only [YAR,YAP] at h;obtain⟨d,⟨hdm,hne⟩,rfl⟩:=h;have hbs:=hd.2 d.to;rw [ZbP hd.1 hdm] at hbs;obtain⟨_,⟨w,⟨hwt,a,ha,hwa⟩,_⟩,_⟩:=hbs;obtain⟨c,g,A,e⟩:=ZmQ (ZdP _ a (u:Int)) hwa;rw [e] at hwa;obtain⟨t,t1,t2,t3,hw⟩:=(Zdg 6).1 hwa;have htd:d.to=(t:Int):=by rw [<-hwt,hw]
    have hne2:¬t=u:=fun h=>by
     have:d.to≠(u:Int):=by simpa using hne
     rw [htd,h] at this;exact this rfl
    obtain⟨F,I,hF⟩:=A;obtain⟨p,_,hlk,_⟩:=I.pred t hne2 t3;have hn:=Zkl hst hlk;exact⟨t,htd,t1,(Zkd hhm hn).2.2,(Zrp hup hn).2⟩
   ·unfold ZfM at h;simp only [YAR] at h;obtain⟨d,_,rfl⟩:=h;simp at hk
   ·obtain ⟨w,_,rfl⟩:=YAR.1 h;unfold rtOf at hk
    split at hk <;> simp at hk
  obtain⟨t,ht,t1,t2,t3⟩:=hT;rw [ht] at hm;unfold Zfm at hm;have hbt:ZhR x bs zs (t:Int)=true:=by
   unfold ZhR;rw [hI];have e1:((t:Int)-1).toNat=t-1:=by omega
   rw [e1, <-Zro,t3];simp [inB];omega
  rw [if_pos hbt,eL] at hm;exact ZlC hst hhm hsy hl hm hr hk ht
 ·subst hl;cases hr
theorem Zsn (xs:List RecD):ttB xs xs=true:=by
 unfold ttB;rw [List.all_eq_true];intro y hy;unfold ttAt;exact List.any_eq_true.2 ⟨y,hy,by simp [ZeQ,Zej,Zap]⟩
end Go.Proofs.YtikloccefmofdaaGreat
