/-
  Parts.
-/
import Derived.Test.YtdhnddfnckgbjaaGreatZi24
namespace Go.Proofs.YtdhnddfnckgbjaaGreat
open Go.RowKit
set_option linter.unusedSimpArgs false
set_option linter.unusedVariables false
set_option maxRecDepth 100000
set_option maxHeartbeats 8000000
variable {a n src v:Int}{bs zs:List Bool}{al:List Int}{ls:List Lk}{xs:List RecD}{ts:List Th}{N:Nat}{r x:RecD}
theorem Zni (l:Nr):∀ u∈nrE l,u.oneCell'=true:=by
 intro u hu;simp only [nrE,YAR,List.not_mem_nil,or_false] at hu;rcases hu with h | h <;> subst h <;> rfl
def Zgq (wr:World)(z:Nat)(nv:Value)(x:RecD):Prop:=wr.heap[z]? = some (.cells (recC x nv) 132)/\wr.ownsRow (z+1) 135 2 nv x.near.length (flat nrE x.near)
theorem Zgq.start (w:World)(v a:Int):Zgq (w.alloc (.cells #[.int .i64 a,.int .i64 1,.int .i64 v,.int .i64 0,.int .i64 1,.slice none 0 0,.int .i64 0,.bool false] 132)) w.heap.size (.slice none 0 0) (ZbV v a []):=⟨YAE w _,YAj _ _ _ _⟩
theorem Zgq.below {w w':World}{z:Nat}{nv:Value}(h:Zgq w z nv x)(hb:Below w.heap.size w w'):Zgq w' z nv x:=⟨by rw [hb.block z (Zab h.1)];exact h.1,Zad h.2 hb (YA _)⟩
theorem Zgq.push {w w':World}{z:Nat}{nv nv':Value}{y:RecD}{o:Obj}(h:Zgq w z nv x)(hg:(w.alloc o).grownBy w' nv.ownBlock)(hy:∀ v,recC y v=recC x v)(ho:w'.ownsRow (z+1) 135 2 nv' y.near.length (flat nrE y.near)):Zgq (w'.setCell ⟨z,5,none⟩ nv') z nv' y:=by
 have hz:=Zab h.1;have h1:w'.heap[z]? = some (.cells (recC x nv) 132):=by
  rw [hg.block z (by simp;omega) (fun e=>by have:=(h.2.lt z e.symm).1;omega),YAI _ _ _ hz];exact h.1
 refine⟨?_,ZaH ho (by omega)⟩;rw [YAS _ _ 5 _ _ nv' h1,hy];rfl
theorem ZkS (v1 v2 y z:Value)(N:Nat)(ls:List Lk)(ts:List Th)(bs zs:List Bool)(w:World)(hok:ZaZ ⟨(N:Int),ls,ts⟩=true)(hN:1<=N)(hN6:N<=6)(hls:ls.length<=12)(hts:ts.length<=4)
  (htho:∀ t∈ts,1<=t.o/\t.o<=(N:Int)) (h1:ZaX w v1 ls w.heap.size) (h2:Zbq w v2 ts w.heap.size) (h3:Zcp w y bs w.heap.size) (h4:Zcp w z zs w.heap.size) (hbs:bs.length=ls.length) (hzs:zs.length=N):
  Calls Tryz.prog 58 #[.agg #[.int .i64 (N:Int),v1,v2],y,z] w fun e w'=>∃ o qs,e=.returned (.tuple #[o,.bool true])/\fsts qs=Zet ls ts bs zs N/\tot qs<=500/\RecsOwn w' w.heap.size w'.heap.size o qs/\Below w.heap.size w w':=by
 obtain⟨a1,c1,rfl⟩:=h1.shape;obtain⟨a2,c2,rfl⟩:=h2.shape;obtain⟨a3,c3,rfl⟩:=h3.shape;obtain⟨a4,c4,rfl⟩:=h4.shape;have HNO:=hide (fun W (hb:Below w.heap.size w W)=>ZkU (.agg #[.int .i64 (N:Int),.slice a1 ls.length c1,.slice a2 ts.length c2]) ⟨(N:Int),ls,ts⟩ W (show ls.length<=1048576 by omega) (show ts.length<=1048576 by omega) ⟨_,_,rfl,Zau.then h1 hb,Zau.then h2 hb⟩);have HAR:=hide (fun (f:Int) W (hb:Below w.heap.size w W)=>Ze4 (.int .i64 (N:Int)) (.slice a1 ls.length c1) (.slice a2 ts.length c2) ls f W (show ls.length<=1048576 by omega) (Zau.then h1 hb));have HBO:=hide (fun (f:Int) W (hb:Below w.heap.size w W)=>Zge (.int .i64 (N:Int)) (.slice a1 ls.length c1) (.slice a2 ts.length c2) ls f W (show ls.length<=1048576 by omega) (Zau.then h1 hb));have HOP:=hide (fun (f t r:Int) W (hb:Below w.heap.size w W)=>Zmi (.int .i64 (N:Int)) (.slice a1 ls.length c1) (.slice a2 ts.length c2) (.slice a3 bs.length c3) ls bs f t r W (show ls.length<=1048576 by omega) hbs (Zau.then h1 hb) (Zau.then h3 hb));have HUP:=hide (fun (k:Nat) (b:Bool) (hb:zs[k]? = some b)=>h4.cell k b hb);have HTH:=hide (fun (k:Nat) (t:Th) (ht:ts[k]? = some t)=>h2.cells k t ht);rw [hbs] at HOP |-;rw [hzs] at HUP |-;have HZL:=hide hzs;have HOK:=hide hok;have HTO:=hide htho;clear hok htho h1 h2 h3 h4 hbs hzs;have BX0:Below w.heap.size w (w.alloc (.cells #[.int .i64 (N:Int),.slice a1 ls.length c1,.slice a2 ts.length c2] 81)):=(YAB _ _).alloc (YA _) _;have hx0:(w.alloc (.cells #[.int .i64 (N:Int),.slice a1 ls.length c1,.slice a2 ts.length c2] 81)).heap[w.heap.size]? = some (.cells #[.int .i64 (N:Int),.slice a1 ls.length c1,.slice a2 ts.length c2] 81):=YAE w _;obtain⟨w0,hw0⟩:∃ W,W=w.alloc (.cells #[.int .i64 (N:Int),.slice a1 ls.length c1,.slice a2 ts.length c2] 81):=⟨_,rfl⟩;rw [<-hw0] at BX0 hx0;have LIT:=Zfz w0 w.heap.size BX0.size;have BX1:Below w.heap.size w (w0.alloc (.cells #[] 132)):=BX0.alloc BX0.size _;have hx1:(w0.alloc (.cells #[] 132)).heap[w.heap.size]? = some (.cells #[.int .i64 (N:Int),.slice a1 ls.length c1,.slice a2 ts.length c2] 81):=by rw [YAI _ _ _ (Zab hx0)];exact hx0
 have e0:=Zaa hx1 0;have e1:=Zaa hx1 1;have e2:=Zaa hx1 2;simp at e0 e1 e2;have HLIT:=hide LIT;have HX1:=hide hx1;clear LIT BX0 hx0 hx1;subst hw0
 go_enter Tryz.func58,Tryz.ntmps58
 go_wp2_with fail
 refine (HNO.out _ BX1).mono ?_;rintro e w2 ⟨rfl,b2⟩;rw [HOK.out];have hx2:=(b2.block _ (Zab HX1.out)).trans HX1.out;have B2:Below w.heap.size w w2:=BX1.trans (b2.mono BX1.size);have HS2:=hide ((HLIT.out.below b2 (YA _)).in.wide b2.size);have e0:=Zaa hx2 0;have e1:=Zaa hx2 1;have e2:=Zaa hx2 2;simp at e0 e1 e2;have HX2:=hide hx2;clear b2 HLIT HX1 hx2 BX1 HNO;go_wp2
 go_loopw [9,8] (fun i o wr=>∃ (k:Nat) (x:Value) (qs:List RP),k<=N/\i=.int .i64 ((k:Int)+1)/\o=x/\RecsIn wr wr.heap.size x qs/\Hid (fsts qs=idA ls bs zs N k)/\tot qs<=21*k/\Below w2.heap.size w2 wr) (fun i _ _=>8-(intOf i).toNat)
 case atStart=>exact ⟨0,_,[],by omega,rfl,rfl,by have h:=HS2.out;simpa using h,hide (by simp [fsts,idA]),by simp [tot],YAB _ _⟩
 case round=>
  obtain⟨k,x,qs,hk,rfl,rfl,hin,HF,htq,hnx⟩:=hrel;clear HS2 e0 e1 e2;obtain⟨xa,xc,rfl⟩:=Zac hin.row;have hsz:=hnx.size;have BR:Below w.heap.size w wr:=B2.trans (hnx.mono B2.size);have hxr:=(hnx.block _ (Zab HX2.out)).trans HX2.out;have e0:=Zaa hxr 0;have e1:=Zaa hxr 1;have e2:=Zaa hxr 2;simp at e0 e1 e2;have HXR:=hide hxr;have HIN:=hide hin;clear hxr hin;by_cases hlt:k<N
  ·obtain ⟨ub,hub⟩:∃ b,zs[k]? = some b:=⟨zs[k]'(by have:=HZL.out;omega),YAA _⟩;have hkn:(k:Int)+1<=(N:Int):=by omega
   go_wp2_with fail
   refine (HAR.out ((k:Int)+1) _ BR).mono ?_;rintro e w3 ⟨ua,rfl,oa,b3⟩;have hal:=ZcQ ls ((k:Int)+1);have HAU:=hide (idA_up (ls:=ls) (bs:=bs) (N:=N) (zs:=zs) (k:=k));have HAD:=hide (ZmY (ls:=ls) (bs:=bs) (N:=N) (zs:=zs) (k:=k));obtain⟨al,HAL⟩:∃ al,Hid (al=ZaB ls ((k:Int)+1)):=⟨_,hide rfl⟩;rw [<-HAL.out] at oa hal HAU;obtain⟨la,lc,rfl⟩:=Zac oa;have hop:Zal w3 (.slice la al.length lc) al w3.heap.size:=Zan (by rw [Zfw];exact oa);have HHO:=hide hop;have B3:Below w.heap.size w w3:=BR.trans (b3.mono BR.size);have hx3:=(b3.block _ (Zab HXR.out)).trans HXR.out;have e0:=Zaa hx3 0;have e1:=Zaa hx3 1;have e2:=Zaa hx3 2;simp at e0 e1 e2;have HX3:=hide hx3;have HI3:=hide ((HIN.out.below b3 (YA _)).wide b3.size);have B23:Below w2.heap.size w2 w3:=hnx.trans (b3.mono hsz);have HUB:=hide hub;clear oa hop hx3 b3 HXR HIN hub;go_wp2
   go_loopw [11,8] (fun i o wr=>∃ (j:Nat) (x:Value) (ps:List RP),j<=al.length/\i=.int .i64 (j:Int)/\o=x/\RecsIn wr wr.heap.size x ps/\Hid (fsts ps=Zgs ls bs zs N ((k:Int)+1) al (fsts qs) j)/\tot ps<=21*k+7*j/\Below w3.heap.size w3 wr/\(ub=false->j=0)) (fun i _ _=>8-(intOf i).toNat)
   case atStart=>exact ⟨0,_,qs,by omega,rfl,rfl,HI3.out,hide (by simp [Zgs]),by omega,YAB _ _,fun _=>rfl⟩
   case round=>
    rename World=>wa
    obtain⟨j,x,ps,hj,rfl,rfl,hin,HG,htp,hnx2,hj0⟩:=hrel;clear HI3 e0 e1 e2;obtain⟨xa,xc,rfl⟩:=Zac hin.row;have hsz2:=hnx2.size;have BW:Below w.heap.size w wa:=B3.trans (hnx2.mono B3.size);have hxa:=(hnx2.block _ (Zab HX3.out)).trans HX3.out;have e0:=Zaa hxa 0;have e1:=Zaa hxa 1;have e2:=Zaa hxa 2;simp at e0 e1 e2;have HXA:=hide hxa;have HIN:=hide hin;clear hxa hin;obtain⟨ug,uo,uc,huv,hug,ucell⟩:=HUP.out k ub HUB.out;cases huv;replace ucell:=(BW.cell hug).trans ucell;by_cases hlj:j<al.length
    ·obtain ⟨ar,har⟩:∃ a,al[j]? = some a:=⟨al[j],YAA hlj⟩;obtain⟨ag,ao,ac,hav,hag,acell⟩:=HHO.out.cell j ar har;cases hav;replace acell:=(hnx2.cell hag).trans acell;have hji:(j:Int)<(al.length:Int):=by omega
     have hj00:(0:Int)<=(j:Int):=by omega
     have HAT:=hide har;clear har;cases ub
     ·have hj1:=hj0 rfl;have HFN:=hide (show fsts ps=idA ls bs zs N (k+1) by
       have h:=HG.out;rw [hj1] at h;rw [h,HAD.out HUB.out, <-HF.out];rfl)
      have htn:tot ps<=21*(k+1):=by omega
      have HBN:=hide (B23.trans (hnx2.mono B23.size));go_wp2;go_roundw
      case rel=>exact ⟨k+1,_,ps,by omega,by go_num,rfl,HIN.out,HFN,htn,HBN.out⟩
      case measure=>simp [intOf];omega
     ·have HST:=hide (Zgq.start wa ((k:Int)+1) ar);have BST:=(YAB wa.heap.size wa).alloc (YA _) (.cells #[.int .i64 ar,.int .i64 1,.int .i64 ((k:Int)+1),.int .i64 0,.int .i64 1,.slice none 0 0,.int .i64 0,.bool false] 132);have HBS:=hide BST;clear BST;go_wp2
      go_loopw [13] (fun i wr=>∃ (m:Nat) (nv:Value),m<=N/\i=.int .i64 ((m:Int)+1)/\Zgq wr wa.heap.size nv (ZbV ((k:Int)+1) ar (ZbR ls bs zs ((k:Int)+1) ar m))/\Below wa.heap.size wa wr) (fun i _=>8-(intOf i).toNat)
      case atStart=>exact ⟨0,_,by omega,rfl,HST.out,HBS.out⟩
      case round=>
       obtain⟨m,nv,hm,rfl,hst,hnx3⟩:=hrel;clear HST HBS e0 e1 e2 ucell;have hsz3:=hnx3.size;have BR3:Below w.heap.size w wr:=BW.trans (hnx3.mono BW.size);have hxc:=(hnx3.block _ (Zab HXA.out)).trans HXA.out;have e0:=Zaa hxc 0;have e1:=Zaa hxc 1;have e2:=Zaa hxc 2;simp at e0 e1 e2;have hxlt:=Zab hxc;have HXC:=hide hxc;clear hxc;replace acell:=(hnx3.cell (by show ag<wa.heap.size;omega)).trans acell;have hagr:ag<wr.heap.size:=by omega
       have hnl:=Zil ls bs zs ((k:Int)+1) ar m;by_cases hlm:m<N
       ·obtain ⟨vb,hvb⟩:∃ b,zs[m]? = some b:=⟨zs[m]'(by have:=HZL.out;omega),YAA _⟩;obtain⟨vg,vo,vc,hvv,hvg,vcell⟩:=HUP.out m vb hvb;cases hvv;have hmn:(m:Int)+1<=(N:Int):=by omega
        have HVB:=hide hvb;have HNS:=hide hst;have BD:Below w.heap.size w wr.drew:=BR3.drew;clear hvb hst;go_wp2
        go_region_held3 (fun W=>W.cell? ⟨w.heap.size,0,none⟩=some (.int .i64 (N:Int))/\W.cell? ⟨w.heap.size,1,none⟩=some (.slice a1 ls.length c1)/\W.cell? ⟨w.heap.size,2,none⟩=some (.slice a2 ts.length c2)/\W.cell? ⟨ag,ao+j,none⟩=some (.int .i64 ar)) (first | (refine ⟨?_,?_,?_,?_⟩ <;> (rw [b5.cell (by assumption)];assumption)) | go_keep) (first | (go_at_call 80;refine (HOP.out ((k:Int)+1) ((m:Int)+1) ar _ BD).mono ?_;rintro e w5 ⟨rfl,b5⟩))
        have B5:Below wr.heap.size wr w5:=(YAB wr.heap.size wr).drew.trans b5;have BW5:Below w.heap.size w w5:=BR3.trans (B5.mono BR3.size);have BA5:Below wa.heap.size wa w5:=hnx3.trans (B5.mono hsz3);have hz5:=B5.size;have hst5:=HNS.out.below B5;obtain⟨na,nc,hnv⟩:=Zac hst5.2;subst hnv;have r5:=Zaa hst5.1 5;simp [recC] at r5;have hzlt:=Zab hst5.1;have f5:=Zae hst5.1;replace vcell:=(BW5.cell hvg).trans vcell;have hvgr:ug<w5.heap.size:=by have:=BW5.size;omega
        clear b5 e0 e1 e2 acell HNS BD hvg;obtain⟨q,HQ⟩:∃ q,Hid (q=ZdD ls bs ((k:Int)+1) ((m:Int)+1) ar):=⟨_,hide rfl⟩;rw [<-HQ.out];have HS5:=hide hst5;have HB5:=hide BA5;clear hst5 B5 BA5 BW5;have hrow:(ZbV ((k:Int)+1) ar (ZbR ls bs zs ((k:Int)+1) ar m)).near.length=(ZbR ls bs zs ((k:Int)+1) ar m).length:=rfl;rw [hrow] at r5;obtain⟨L,HL⟩:∃ L,Hid (L=ZbR ls bs zs ((k:Int)+1) ar m):=⟨_,hide rfl⟩;rw [<-HL.out] at r5 hnl HS5 hrow;by_cases h0:0<q
        ·cases vb
         ·have HNN:=hide (show ZbR ls bs zs ((k:Int)+1) ar (m+1)=L by rw [HL.out];exact Zj1 HQ.out HVB.out (.inr rfl));go_wp2;go_roundw
          case rel=>exact ⟨m+1,_,by omega,by go_num,by rw [HNN.out];exact HS5.out,HB5.out⟩
          case measure=>simp [intOf];omega
         ·have HNN:=hide (show ZbR ls bs zs ((k:Int)+1) ar (m+1)=L++[⟨(m:Int)+1,q⟩] by rw [HL.out];exact ZlW HQ.out h0 HVB.out);have OW:=hide HS5.out.2;have hwb:wa.heap.size+1<=(w5.alloc (.cells (nrE ⟨(m:Int)+1,q⟩).toArray 135)).heap.size:=by simp;omega
          go_wp2_with (first
           | (at_builtin;refine ZaG Zji (by omega) (by omega) _ rfl _ _ 130 rfl (wa.heap.size+1) 135 Tryz.underlying130 (nrV nr0) rfl Tryz.infoNr _ L ⟨(m:Int)+1,q⟩ (Zni _) rfl (OW.out.alloc _) ⟨w5.heap.size,0,none⟩ 1 rfl (Zak (cs:=nrE ⟨(m:Int)+1,q⟩)) (by omega) hwb ?_))
          intro v' w7 hown' hgrow hblk;obtain⟨va,vc,rfl⟩:=Zac hown';have hzz:wa.heap.size<w5.heap.size:=hzlt;have hb7:w7.heap[wa.heap.size]? = some (.cells (recC (ZbV ((k:Int)+1) ar L) (.slice na L.length nc)) 132):=by
           rw [hgrow.block _ (by simp;omega) (fun e=>by have:=(OW.out.lt _ e.symm).1;omega),YAI _ _ _ hzz];exact HS5.out.1
          have f7:=Zae hb7;have s5:=Zaa hb7 5;simp [recC] at s5;have h7lt:=Zab hb7;have PS:=hide (HS5.out.push (y:=ZbV ((k:Int)+1) ar (L++[⟨(m:Int)+1,q⟩])) hgrow (fun _=>rfl) (by simpa [ZbV] using hown'));have PB:=hide (((HB5.out.alloc HB5.out.size _).grown hgrow (by have:=HB5.out.size;simp;omega) (fun i hi=>by have:=(OW.out.lt i hi).1;omega)).setCell (p:=⟨wa.heap.size,5,none⟩) (YA _) (.slice va (L.length+1) vc));clear hown' hgrow hblk HS5 HB5 OW hb7 r5 f5;go_wp2;go_roundw
          case rel=>exact ⟨m+1,_,by omega,by go_num,by rw [HNN.out];exact PS.out,PB.out⟩
          case measure=>simp [intOf];omega
        ·have HNN:=hide (show ZbR ls bs zs ((k:Int)+1) ar (m+1)=L by rw [HL.out];exact Zj1 HQ.out HVB.out (.inl h0));go_wp2;go_roundw
         case rel=>exact ⟨m+1,_,by omega,by go_num,by rw [HNN.out];exact HS5.out,HB5.out⟩
         case measure=>simp [intOf];omega
       ·have hmn:¬(m:Int)+1<=(N:Int):=by omega
        have hmN:m=N:=by omega
        have HMN:=hide (show ZbR ls bs zs ((k:Int)+1) ar m=ZbR ls bs zs ((k:Int)+1) ar N by rw [hmN]);clear hmN;obtain⟨L,HL⟩:∃ L,Hid (L=ZbR ls bs zs ((k:Int)+1) ar m):=⟨_,hide rfl⟩;rw [<-HL.out] at hst hnl;obtain⟨na,nc,hnv⟩:=Zac hst.2;subst hnv;have r0:=Zaa hst.1 0;have r1:=Zaa hst.1 1;have r2:=Zaa hst.1 2;have r3:=Zaa hst.1 3;have r4:=Zaa hst.1 4;have r5:=Zaa hst.1 5;have r6:=Zaa hst.1 6;have r7:=Zaa hst.1 7;simp [recC,ZbV] at r0 r1 r2 r3 r4 r5 r6 r7;have hno:ZaE wr 0 wr.heap.size (ZbV ((k:Int)+1) ar L,.slice na L.length nc):=⟨Zaf hst.2 (Nat.zero_le _),fun i hi=>(hst.2.lt i hi).2⟩;have htt:=ZhO ps (ZbV ((k:Int)+1) ar L,.slice na L.length nc);have hne:(ZbV ((k:Int)+1) ar L).near.length=L.length:=rfl;have HP:=hide (ZhE (.slice xa ps.length xc) ps wr.heap.size (ZbV ((k:Int)+1) ar L,.slice na L.length nc) wr ((HIN.out.below hnx3 (YA _)).wide hnx3.size) (YA _) (by omega) hno);have HF2:=hide (show fsts (putL ps (ZbV ((k:Int)+1) ar L,.slice na L.length nc))=Zgs ls bs zs N ((k:Int)+1) al (fsts qs) (j+1) by
         rw [ZeF,Zkk HAT.out, <-HG.out,HL.out,HMN.out])
        have ht2:tot (putL ps (ZbV ((k:Int)+1) ar L,.slice na L.length nc))<=21*k+7*(j+1):=by simp only [hne] at htt;omega
        obtain⟨Q,hQ⟩:∃ Q,Q=putL ps (ZbV ((k:Int)+1) ar L,.slice na L.length nc):=⟨_,rfl⟩;rw [<-hQ] at HP HF2 ht2;unfold recC ZbV at HP;simp only [] at HP;have HB3:=hide (hnx2.trans (hnx3.mono hsz2));clear hno hst htt hQ acell
        go_wp2_with fail
        refine HP.out.mono ?_;rintro e w6 ⟨o,rfl,ho,b6⟩;obtain⟨oa,oc,rfl⟩:=Zac ho.row;have HO:=hide ho;have HB6:=hide (HB3.out.trans (b6.mono HB3.out.size));clear ho b6 HP HB3 r0 r1 r2 r3 r4 r5 r6 r7;go_wp2;go_roundw
        case rel=>exact ⟨j+1,_,Q,by omega,by go_num,rfl,HO.out,HF2,ht2,HB6.out,fun h=>by simp at h⟩
        case measure=>simp [intOf];omega
    ·have hji:¬(j:Int)<(al.length:Int):=by omega
     have HFN:=hide (show fsts ps=idA ls bs zs N (k+1) by
      have h:=HG.out;have hjl:j=al.length:=by omega
      cases ub
      ·rw [hj0 rfl] at h;rw [h,HAD.out HUB.out, <-HF.out];rfl
      ·rw [hjl] at h;rw [h,HAU.out HUB.out, <-HF.out,HAL.out])
     have htn:tot ps<=21*(k+1):=by omega
     have HBN:=hide (B23.trans (hnx2.mono B23.size));clear ucell hug;go_wp2;go_roundw
     case rel=>exact ⟨k+1,_,ps,by omega,by go_num,rfl,HIN.out,HFN,htn,HBN.out⟩
     case measure=>simp [intOf];omega
  ·have hkn:¬(k:Int)+1<=(N:Int):=by omega
   have hkN:k=N:=by omega
   have HF1:=hide (show fsts qs=idA ls bs zs N N by rw [HF.out,hkN]);have htq1:tot qs<=126:=by omega
   clear HF htq hkN
   rename World=>wb
   go_wp2
   go_loopw [15,8] (fun i o wr=>∃ (j:Nat) (x:Value) (ps:List RP),j<=ts.length/\i=.int .i64 (j:Int)/\o=x/\RecsIn wr wr.heap.size x ps/\Hid (fsts ps=idB ts zs (idA ls bs zs N N) j)/\tot ps<=126+j/\Below wb.heap.size wb wr) (fun i _ _=>8-(intOf i).toNat)
   case atStart=>exact ⟨0,_,qs,by omega,rfl,rfl,HIN.out,hide (by rw [HF1.out];rfl),by omega,YAB _ _⟩
   case round=>
    obtain⟨j,x,ps,hj,rfl,rfl,hin,HG,htp,hnx2⟩:=hrel;clear HIN e0 e1 e2;obtain⟨ya,yc,rfl⟩:=Zac hin.row;have hsz2:=hnx2.size;have BW:Below w.heap.size w wr:=BR.trans (hnx2.mono BR.size);have hxa:=(hnx2.block _ (Zab HXR.out)).trans HXR.out;have e0:=Zaa hxa 0;have e1:=Zaa hxa 1;have e2:=Zaa hxa 2;simp at e0 e1 e2;have HXA:=hide hxa;have HI2:=hide hin;clear hxa hin;by_cases hlj:j<ts.length
    ·obtain ⟨th,hth⟩:∃ a,ts[j]? = some a:=⟨ts[j],YAA hlj⟩;obtain⟨tg,to',tc,htv,htg,d0,d1,d2,d3⟩:=HTH.out j th hth;cases htv;obtain⟨ho1,ho2⟩:=HTO.out th (YAF hth);obtain⟨m,hm⟩:∃ m:Nat,th.o=(m:Int)+1:=⟨(th.o-1).toNat,by omega⟩;obtain⟨ub,hub⟩:∃ b,zs[m]? = some b:=⟨zs[m]'(by have:=HZL.out;omega),YAA _⟩;obtain⟨ug,uo,uc,huv,hug,ucell⟩:=HUP.out m ub hub;cases huv;replace ucell:=(BW.cell hug).trans ucell;rw [<-BW.cell (p:=⟨tg,to'+j*4,none⟩) htg,hm] at d0;replace d1:=(BW.cell htg).trans d1;replace d2:=(BW.cell htg).trans d2;replace d3:=(BW.cell htg).trans d3;have hmN:(m:Int)<(N:Int):=by omega
     have hji:(j:Int)<(ts.length:Int):=by omega
     have hj00:(0:Int)<=(j:Int):=by omega
     have hugr:ug<wr.heap.size:=by have:=BW.size;omega
     have HBA:=hide ((YAB wr.heap.size wr).alloc (YA _) (.cells #[.int .i64 ((m:Int)+1),.int .i64 th.k,.int .i64 th.c,.bool th.f] 103));cases ub
     ·have HGN:=hide (show fsts ps=idB ts zs (idA ls bs zs N N) (j+1) by rw [HG.out,ZmZ hth hm hub]);have HI3:=hide ((HI2.out.below HBA.out (YA _)).wide HBA.out.size);have HBN:=hide (hnx2.trans (HBA.out.mono hsz2));clear hub hth hm;go_wp2;go_roundw
      case rel=>exact ⟨j+1,_,ps,by omega,by go_num,rfl,HI3.out,HGN,by omega,HBN.out⟩
      case measure=>simp [intOf];omega
     ·have htt:=ZhO ps (Zdk th,.slice none 0 0);have HP:=hide (fun W (b:Below wr.heap.size wr W)=>ZhE (.slice ya ps.length yc) ps W.heap.size (Zdk th,.slice none 0 0) W ((HI2.out.below b (YA _)).wide b.size) (YA _) (by omega) ⟨YAj _ _ _ _,fun i hi=>by simp [Value.ownBlock] at hi⟩);have HGN:=hide (show fsts (putL ps (Zdk th,.slice none 0 0))=idB ts zs (idA ls bs zs N N) (j+1) by rw [ZeF,idB_up hth hm hub, <-HG.out]);have ht2:tot (putL ps (Zdk th,.slice none 0 0))<=126+(j+1):=by
       have h0:(Zdk th,Value.slice none 0 0).1.near.length=0:=rfl;rw [h0] at htt;omega
      obtain⟨Q,hQ⟩:∃ Q,Q=putL ps (Zdk th,.slice none 0 0):=⟨_,rfl⟩;rw [<-hQ] at HP HGN ht2;unfold recC Zdk at HP;simp only [hm] at HP;have HP1:=hide (HP.out _ HBA.out);clear hub hth hm htt hQ HP
      go_wp2_with fail
      refine HP1.out.mono ?_;rintro e w6 ⟨o,rfl,ho,b6⟩;obtain⟨oa,oc,rfl⟩:=Zac ho.row;have HO:=hide ho;have HBN0:=hnx2.trans (HBA.out.mono hsz2);have HB6:=hide (HBN0.trans (b6.mono HBN0.size));clear ho b6 HP1 HBN0;go_wp2;go_roundw
      case rel=>exact ⟨j+1,_,Q,by omega,by go_num,rfl,HO.out,HGN,ht2,HB6.out⟩
      case measure=>simp [intOf];omega
    ·have hji:¬(j:Int)<(ts.length:Int):=by omega
     have hjN:j=ts.length:=by omega
     have HG1:=hide (show fsts ps=idB ts zs (idA ls bs zs N N) ts.length by rw [HG.out,hjN]);have htp1:tot ps<=130:=by omega
     clear HG htp hjN HTH HTO;obtain⟨X,HX⟩:∃ X,Hid (X=idB ts zs (idA ls bs zs N N) ts.length):=⟨_,hide rfl⟩;rw [<-HX.out] at HG1
     rename World=>wc
     go_wp2
     go_loopw [17,8] (fun i o wr=>∃ (r:Nat) (x:Value) (os:List RP),r<=3/\i=.int .i64 (r:Int)/\o=x/\RecsIn wr wr.heap.size x os/\Hid (fsts os=idR ls zs N X r)/\tot os<=130+108*r/\Below wc.heap.size wc wr) (fun i _ _=>8-(intOf i).toNat)
     case atStart=>exact ⟨0,_,ps,by omega,rfl,rfl,HI2.out,hide (by rw [HG1.out];rfl),by omega,YAB _ _⟩
     case round=>
      rename World=>wd
      obtain⟨r,x,os,hr,rfl,rfl,hin,HH,hto,hnx3⟩:=hrel;clear HI2 e0 e1 e2;obtain⟨xo,xp,rfl⟩:=Zac hin.row;have hsz3:=hnx3.size;have BD:Below w.heap.size w wd:=BW.trans (hnx3.mono BW.size);have hxd:=(hnx3.block _ (Zab HXA.out)).trans HXA.out;have e0:=Zaa hxd 0;have e1:=Zaa hxd 1;have e2:=Zaa hxd 2;simp at e0 e1 e2;have HXD:=hide hxd;have HI3:=hide hin;clear hxd hin;by_cases hlr:r<3
      ·have hri:(r:Int)<3:=by omega
       have HRN:=hide (show idR ls zs N X (r+1)=idC ls zs (idR ls zs N X r) N from rfl);rw [<-HH.out] at HRN;clear HH;go_wp2
       go_loopw [18,8] (fun i o wr=>∃ (k:Nat) (x:Value) (us:List RP),k<=N/\i=.int .i64 ((k:Int)+1)/\o=x/\RecsIn wr wr.heap.size x us/\Hid (fsts us=idC ls zs (fsts os) k)/\tot us<=130+108*r+18*k/\Below wd.heap.size wd wr) (fun i _ _=>8-(intOf i).toNat)
       case atStart=>exact ⟨0,_,os,by omega,rfl,rfl,HI3.out,hide (by rfl),by omega,YAB _ _⟩
       case round=>
        rename World=>we
        obtain⟨kk,x,us,hkk,rfl,rfl,hin,HJ,htu,hnx4⟩:=hrel;clear HI3 e0 e1 e2;obtain⟨xu,xv,rfl⟩:=Zac hin.row;have hsz4:=hnx4.size;have BE:Below w.heap.size w we:=BD.trans (hnx4.mono BD.size);have hxe:=(hnx4.block _ (Zab HXD.out)).trans HXD.out;have e0:=Zaa hxe 0;have e1:=Zaa hxe 1;have e2:=Zaa hxe 2;simp at e0 e1 e2;have HXE:=hide hxe;have HI4:=hide hin;clear hxe hin;by_cases hlk:kk<N
        ·obtain ⟨ub,hub⟩:∃ b,zs[kk]? = some b:=⟨zs[kk]'(by have:=HZL.out;omega),YAA _⟩;obtain⟨ug,uo,uc,huv,hug,ucell⟩:=HUP.out kk ub hub;cases huv;replace ucell:=(BE.cell hug).trans ucell;have hkn2:(kk:Int)+1<=(N:Int):=by omega
         have HUB:=hide hub;clear hub;cases ub
         ·have HJN:=hide (show fsts us=idC ls zs (fsts os) (kk+1) by rw [HJ.out,ZnY HUB.out (.inl rfl)]);go_wp2;go_roundw
          case rel=>exact ⟨kk+1,_,us,by omega,by go_num,rfl,HI4.out,HJN,by omega,hnx4⟩
          case measure=>simp [intOf];omega
         ·go_wp2_with fail
          refine (HBO.out ((kk:Int)+1) _ BE).mono ?_;rintro e w7 ⟨rfl,b7⟩;have hx7:=(b7.block _ (Zab HXE.out)).trans HXE.out;have e0:=Zaa hx7 0;have e1:=Zaa hx7 1;have e2:=Zaa hx7 2;simp at e0 e1 e2;have HX7:=hide hx7;have B7:Below w.heap.size w w7:=BE.trans (b7.mono BE.size);have HB7:=hide (hnx4.trans (b7.mono hsz4));have HI7:=hide ((HI4.out.below b7 (YA _)).wide b7.size);clear hx7 b7 HXE HI4 hnx4 BE ucell;obtain⟨bb,HBB⟩:∃ b,Hid (b=Zfm ls ((kk:Int)+1)):=⟨_,hide rfl⟩;rw [<-HBB.out];cases bb
          ·have HJN:=hide (show fsts us=idC ls zs (fsts os) (kk+1) by rw [HJ.out,ZnY HUB.out (.inr HBB.out.symm)]);go_wp2;go_roundw
           case rel=>exact ⟨kk+1,_,us,by omega,by go_num,rfl,HI7.out,HJN,by omega,HB7.out⟩
           case measure=>simp [intOf];omega
          ·go_wp2_with fail
           refine (HAR.out ((kk:Int)+1) _ B7).mono ?_;rintro e w8 ⟨ua,rfl,oa,b8⟩;have hal:=ZcQ ls ((kk:Int)+1);have HAU:=hide (Zog (ls:=ls) (zs:=zs) (xs:=fsts os) HUB.out HBB.out.symm);obtain⟨al,HAL⟩:∃ al,Hid (al=ZaB ls ((kk:Int)+1)):=⟨_,hide rfl⟩;rw [<-HAL.out] at oa hal HAU;obtain⟨la,lc,rfl⟩:=Zac oa;have hop:Zal w8 (.slice la al.length lc) al w8.heap.size:=Zan (by rw [Zfw];exact oa);have HB8:=hide (HB7.out.trans (b8.mono HB7.out.size));have HP:=hide (Zm4 (.slice xu us.length xv) (.slice la al.length lc) us al w8.heap.size ((kk:Int)+1) w8 ((HI7.out.below b8 (YA _)).wide b8.size) hop (YA _) (by omega) (by omega));clear oa hop b8 HI7 HB7 HAL B7
           go_wp2_with fail
           refine HP.out.mono ?_;rintro e w9 ⟨o,ns,rfl,hns,ho,htn,b9⟩;obtain⟨oa,oc,rfl⟩:=Zac ho.row;have HJN:=hide (show fsts ns=idC ls zs (fsts os) (kk+1) by rw [hns,HJ.out,HAU.out]);have HO:=hide ho;have HB9:=hide (HB8.out.trans (b9.mono HB8.out.size));clear ho b9 HP HB8 hns e0 e1 e2;go_wp2;go_roundw
           case rel=>exact ⟨kk+1,_,ns,by omega,by go_num,rfl,HO.out,HJN,by omega,HB9.out⟩
           case measure=>simp [intOf];omega
        ·have hkn2:¬(kk:Int)+1<=(N:Int):=by omega
         have hkN:kk=N:=by omega
         have HRF:=hide (show fsts us=idR ls zs N X (r+1) by rw [HRN.out,HJ.out,hkN]);have htf:tot us<=130+108*(r+1):=by omega
         have HBF:=hide (hnx3.trans (hnx4.mono hsz3));clear hkN;go_wp2;go_roundw
         case rel=>exact ⟨r+1,_,us,by omega,by go_num,rfl,HI4.out,HRF,htf,HBF.out⟩
         case measure=>simp [intOf];omega
      ·have hri:¬(r:Int)<3:=by omega
       have hr3:r=3:=by omega
       have HFI:=hide (show fsts os=Zet ls ts bs zs N by unfold Zet;rw [HH.out,hr3,HX.out]);have HC:=hide (Zh7 (.slice xo os.length xp) os wd.heap.size wd HI3.out (YA _) (by omega));have HBD:=hide BD;clear hr3 HH
       go_wp2_with fail
       refine HC.out.mono ?_;rintro e w9 ⟨o,ns,rfl,hns,ho,b9⟩;have HO:=hide (ho.wide HBD.out.size (YA _));have HNS:=hide (hns.trans HFI.out);have HNT:=hide (show tot ns<=500 by have h:tot ns=tot os:=ZoG hns;omega);have HB9:=hide (HBD.out.trans (b9.mono HBD.out.size));clear ho hns b9 HC e0 e1 e2;go_wp2
       (try simp only [Exit.inBlock,Exit.then])
       refine bodyPost_ret (v:=.tuple #[o,.bool true]) (by simp [results,Tryz.results58,go_sem]) rfl ?_
       first
        | exact ⟨_,ns,rfl,HNS.out,HNT.out,HO.out,HB9.out⟩
        | exact ⟨_,rfl,ns,HNS.out,HNT.out,HO.out,HB9.out⟩
        | exact ⟨_,⟨rfl,rfl⟩,ns,HNS.out,HNT.out,HO.out,HB9.out⟩
theorem ZjK {rs:List RecD}(h:Asc rs)(r:RecD):Asc (putD rs r):=by
 unfold putD Asc;rw [List.append_assoc,YAP];refine⟨List.Pairwise.filter _ h,?_,?_⟩
 ·rw [YAP];refine⟨by simp,List.Pairwise.filter _ h,fun a ha b hb=>?_⟩;have:a=r:=by simpa using ha
  subst this;exact (YAT.1 hb).2
 ·intro a ha b hb;have h1:=(YAT.1 ha).2;rcases YAH.1 hb with h2 | h2
  ·have:b=r:=by simpa using h2
   subst this;exact h1
  ·exact Zh2 h1 (YAT.1 h2).2
theorem ZjZ (h:x∈putD xs r):x∈xs\/x=r:=by
 unfold putD at h;simp only [List.append_assoc,YAH,YAT,YAl] at h;rcases h with h | h | h
 ·exact .inl h.1
 ·exact .inr h
 ·exact .inl h.1
def cntR (p:RecD->Bool)(xs:List RecD):Nat:=(xs.filter p).length
theorem ZfI (p:RecD->Bool)(a b:List RecD):cntR p (a++b)=cntR p a+cntR p b:=by simp [cntR]
theorem ZmR (p f g:RecD->Bool)(hfg:∀ x,f x=true->g x=false)(xs:List RecD):cntR p (xs.filter f)+cntR p (xs.filter g)<=cntR p xs:=by
 induction xs with
 | nil=>simp [cntR]
 | cons x xs ih=>
  have h:=hfg x;unfold cntR at *;simp only [List.filter_cons];cases hf:f x <;> cases hg:g x <;> cases hp:p x <;> simp_all <;> omega
theorem Zhn (p:RecD->Bool)(xs:List RecD)(r:RecD):cntR p (putD xs r)<=cntR p xs+(if p r then 1 else 0):=by
 unfold putD;rw [ZfI,ZfI];have h:=ZmR p (fun x=>Zat x r) (fun x=>Zat r x) (fun x hx=>ZfF hx) xs;have h1:cntR p [r]=if p r then 1 else 0:=by unfold cntR;cases hp:p r <;> simp [hp]
 omega
theorem ZfJ (p f:RecD->Bool)(xs:List RecD):cntR p (xs.filter f)<=cntR p xs:=by
 unfold cntR;rw [List.filter_filter]
 induction xs with
 | nil=>simp
 | cons x xs ih=>
  simp only [List.filter_cons];cases hf:f x <;> cases hp:p x <;> simp_all;omega
theorem Zob (p:RecD->Bool)(xs:List RecD):cntR p xs<=xs.length:=List.length_filter_le _ _
theorem ZfK {p:RecD->Bool}(h:∀ x∈xs,p x=false):cntR p xs=0:=by
 unfold cntR;rw [List.length_eq_zero_iff,List.filter_eq_nil_iff];intro a ha;rw [h a ha];decide
def hisR (u:Int)(r:RecD):Bool:=r.kind==2&&r.owner==u
def ownR (r:RecD):Bool:=r.kind != 2
theorem Zhg :∀ {ts:List RecD}{xs:List RecD},Asc xs->(∀ r∈xs,Za7 r=true)->(∀ r∈ts,Za7 (seq1 r)=true)->Asc (ZdT xs ts)/\∀ r∈ZdT xs ts,Za7 r=true
 | [],xs,h1,h2,_=>⟨h1,h2⟩
 | t::ts,xs,h1,h2,h3=>by
  have:=Zhg (ts:=ts) (xs:=putD xs (seq1 t)) (ZjK h1 _) (fun r hr=>by
   rcases ZjZ hr with h | h
   ·exact h2 r h
   ·rw [h];exact h3 t (by simp)) (fun r hr=>h3 r (YAe _ hr))
  exact this
theorem Zho (p:RecD->Bool)(hp:∀ r,p (seq1 r)=p r):∀ (ts xs:List RecD),cntR p (ZdT xs ts)<=cntR p xs+cntR p ts
 | [],xs=>by simp [ZdT,cntR]
 | t::ts,xs=>by
  have h:=Zho p hp ts (putD xs (seq1 t));have h1:=Zhn p xs (seq1 t);have h2:cntR p (t::ts)=(if p t then 1 else 0)+cntR p ts:=by unfold cntR;cases hp':p t <;> simp [hp'] <;> omega
  rw [hp] at h1;have h3:ZdT xs (t::ts)=ZdT (putD xs (seq1 t)) ts:=rfl;rw [h3];omega
theorem Zgf (r:RecD):(seq1 r).kind=r.kind/\(seq1 r).owner=r.owner:=by unfold seq1;split <;> exact ⟨rfl,rfl⟩
theorem ZmW (u:Int)(r:RecD):hisR u (seq1 r)=hisR u r:=by unfold hisR;rw [(Zgf r).1,(Zgf r).2]
theorem Znn (r:RecD):ownR (seq1 r)=ownR r:=by unfold ownR;rw [(Zgf r).1]
theorem Zm7 (h:r∈tolD xs al src a):∃ to c,r=Zcc a src to c/\ZcX xs al src a to c:=by
 unfold tolD at h
 split at h
 ·rename_i hx
  exact ((Classical.choose_spec hx).2 r).1 h
 ·cases h
theorem ZnQ (xs:List RecD)(al:List Int)(src a:Int):(tolD xs al src a).length<=6:=by
 unfold tolD
 split
 ·rename_i hx
  exact (Classical.choose_spec hx).tot.1
 ·simp
theorem Zd6 {bl:List Int}(h:r∈Zbd xs al src bl):∃ a to c,a∈bl/\r=Zcc a src to c/\ZcX xs al src a to c:=by
 unfold Zbd at h;obtain⟨a,ha,hr⟩:=List.mem_flatMap.1 h;obtain⟨to,c,h1,h2⟩:=Zm7 hr;exact⟨a,to,c,ha,h1,h2⟩
theorem ZfC (xs:List RecD)(al:List Int)(src:Int):∀ bl:List Int,(Zbd xs al src bl).length<=6*bl.length
 | []=>by simp [Zbd]
 | a::bl=>by
  have h:=ZfC xs al src bl;have h1:=ZnQ xs al src a;have h2:Zbd xs al src (a::bl)=tolD xs al src a++Zbd xs al src bl:=rfl;rw [h2,YAM,YAd];omega
theorem Zmu {to c:Int}(h:ZcX xs al src a to c):0<=c/\c<=60000:=by
 obtain⟨_,_,⟨w,h1,e⟩ | ⟨_,w,h1,e⟩⟩:=h
 ·rw [e];exact (Zei h1 (fun d h=>ZaL h)).1.cost
 ·rw [e];exact (Zei h1 (fun d h=>ZaU h)).1.cost
theorem ZoC {node to c:Int}(ha:0<=a/\a<=2)(hn:1<=node/\node<=6)(ht:1<=to/\to<=6)(hc:0<=c/\c<=60000):Za7 (seq1 (Zcc a node to c))=true:=by
 simp [Za7,seq1,Zcc,inB];omega
theorem ZgR (h:a∈ZaB ls v):0<=a/\a<=2:=by
 unfold ZaB at h;have:=(YAT.1 h).1;simp at this;omega
structure IdOk (N:Nat) (xs:List RecD):Prop where
 asc:Asc xs
 ok:∀ r∈xs,Za7 r=true
 own:cntR ownR xs<=22
 his:∀ u,cntR (hisR u) xs<=18
theorem IdOk.bey (h:IdOk N xs){node:Int}(hn:1<=node/\node<=6):IdOk N (beyD xs (ZaB ls node) node):=by
 have hal:=ZcQ ls node;have hlen:=ZfC xs (ZaB ls node) node (ZaB ls node);obtain⟨k1,k2⟩:=Zhg (ts:=Zbd xs (ZaB ls node) node (ZaB ls node)) (xs:=xs.filter (ZbW node)) (List.Pairwise.filter _ h.asc) (fun r hr=>h.ok r (YAT.1 hr).1) (fun r hr=>by
  obtain⟨a,to,c,ha,rfl,ht⟩:=Zd6 hr;exact ZoC (ZgR ha) hn (ZcA ht) (Zmu ht))
 refine⟨k1,k2,?_,fun u=>?_⟩
 ·have h1:=Zho ownR Znn (Zbd xs (ZaB ls node) node (ZaB ls node)) (xs.filter (ZbW node));have h2:=ZfJ ownR (ZbW node) xs;have h3:cntR ownR (Zbd xs (ZaB ls node) node (ZaB ls node))=0:=ZfK (fun r hr=>by
   obtain⟨a,to,c,ha,rfl,ht⟩:=Zd6 hr;rfl)
  have h4:=h.own;unfold beyD;omega
 ·have h1:=Zho (hisR u) (ZmW u) (Zbd xs (ZaB ls node) node (ZaB ls node)) (xs.filter (ZbW node));have h2:=ZfJ (hisR u) (ZbW node) xs;unfold beyD;by_cases e:u=node
  ·have h3:cntR (hisR u) (xs.filter (ZbW node))=0:=ZfK (fun r hr=>by
    have:=(YAT.1 hr).2;subst e;unfold ZbW at this;unfold hisR;simp only [Bool.or_eq_true,bne_iff_ne,ne_eq] at this;simp only [Bool.and_eq_false_iff,beq_eq_false_iff_ne,ne_eq];exact this)
   have h4:=Zob (hisR u) (Zbd xs (ZaB ls node) node (ZaB ls node));omega
  ·have h3:cntR (hisR u) (Zbd xs (ZaB ls node) node (ZaB ls node))=0:=ZfK (fun r hr=>by
    obtain⟨a,to,c,ha,rfl,ht⟩:=Zd6 hr;simp [hisR,Zcc];exact fun h=>e h.symm)
   have h4:=h.his u;omega
theorem ZnZ {N:Nat}{ls:List Lk}{zs:List Bool}{xs:List RecD}(h:IdOk N xs):∀ k,k<=6->IdOk N (idC ls zs xs k)
 | 0,_=>h
 | k+1,hk=>by
  have ih:=ZnZ (ls:=ls) (zs:=zs) h k (by omega);unfold idC
  split
  ·exact ih.bey (by omega)
  ·exact ih
theorem Zn0 (hN:N<=6)(h:IdOk N xs):∀ r,IdOk N (idR ls zs N xs r)
 | 0=>h
 | r+1=>ZnZ (Zn0 hN h r) N hN
theorem Zm0 (h:IdOk N xs):xs.length<=130:=by
 have key:∀ ys:List RecD,(∀ r∈ys,Za7 r=true)->ys.length<=cntR ownR ys+(cntR (hisR 1) ys+cntR (hisR 2) ys+cntR (hisR 3) ys+cntR (hisR 4) ys+cntR (hisR 5) ys+cntR (hisR 6) ys):=by
  intro ys
  induction ys with
  | nil=>intro _;simp
  | cons y ys ih=>
   intro hy;have h1:=ih (fun r hr=>hy r (YAe _ hr));have h2:=hy y (by simp);have ho:1<=y.owner/\y.owner<=6:=by
    simp only [Za7,YAO,inB,YAk] at h2;exact h2.1.1
   have hc:∀ p:RecD->Bool,cntR p (y::ys)=(if p y then 1 else 0)+cntR p ys:=by
    intro p;unfold cntR;cases hp:p y <;> simp [hp] <;> omega
   simp only [hc,YAd];by_cases hk:y.kind=2
   ·have hcase:y.owner=1\/y.owner=2\/y.owner=3\/y.owner=4\/y.owner=5\/y.owner=6:=by omega
    rcases hcase with e | e | e | e | e | e <;> simp [hisR,ownR,hk,e] <;> omega
   ·have:ownR y=true:=by simp [ownR,hk]
    rw [this];simp only [if_true];omega
 have h0:=key xs h.ok;have h1:=h.own;have h2:=h.his;have a1:=h2 1;have a2:=h2 2;have a3:=h2 3;have a4:=h2 4;have a5:=h2 5;have a6:=h2 6;omega
theorem ZkA (h:IdOk N xs):ZaN xs=true:=by
 have hl:=Zm0 h;unfold ZaN;rw [ZmK h.asc,YAi (show xs.length<=150 by omega)];simp only [Bool.true_and,Bool.and_true];refine Zbr (fun j hj=>?_);rw [Zdd (YAA hj)];exact h.ok _ (YAr hj)
theorem okL_of (h:Zfe n ls=true):∀ l∈ls,Zbo n l=true:=by
 intro l hl;unfold Zfe at h;simp only [YAO] at h;obtain⟨i,hi,e⟩:=List.mem_iff_getElem.1 hl;have h1:=List.all_eq_true.1 h.1.2 i (List.mem_range.2 hi);rw [Zdd (YAA hi),e] at h1;exact h1
theorem Zn2 (h:Zdh n ts=true):∀ t∈ts,ZdS n t=true:=by
 intro l hl;unfold Zdh at h;simp only [YAO] at h;obtain⟨i,hi,e⟩:=List.mem_iff_getElem.1 hl;have h1:=List.all_eq_true.1 h.1.2 i (List.mem_range.2 hi);rw [Zdd (YAA hi),e] at h1;exact h1
theorem Znk (h:∀ l∈ls,Zbo n l=true){f t r:Int}(h0:0<ZdD ls bs f t r):1<=ZdD ls bs f t r/\ZdD ls bs f t r<=1000/\f≠t:=by
 unfold ZdD at *;cases hf:(ls.zip bs).find? (Zgw f t r) with
 | none=>rw [hf] at h0;simp at h0
 | some p=>
  rw [hf] at h0;simp only [Option.map_some,Option.getD_some] at h0 |-
  have hm:=List.mem_of_find?_eq_some hf;have hp:=List.find?_some hf;have hl:=h p.1 (List.of_mem_zip hm).1;simp only [Zbo,inB,YAO,YAk] at hl;simp only [Zgw,ZdQ,YAO,Bool.or_eq_true,beq_iff_eq] at hp;omega
theorem ZhA :∀ {k:Nat} {x:Nr},x∈ZbR ls bs zs v a k->1<=x.to/\x.to<=(k:Int)/\0<x.c/\x.c=ZdD ls bs v x.to a
 | 0,x,h=>by simp [ZbR] at h
 | k+1,x,h=>by
  unfold ZbR at h;rcases YAH.1 h with h1 | h1
  ·have:=ZhA h1;refine⟨this.1,by omega,this.2.2⟩
  ·split at h1
   ·rename_i hc
    simp only [YAO,YAk] at hc;have e:x=⟨(k:Int)+1,ZdD ls bs v ((k:Int)+1) a⟩:=by simpa using h1
    subst e;exact⟨by show (1:Int)<=(k:Int)+1;omega,by show (k:Int)+1<=((k+1:Nat):Int);omega,hc.1,rfl⟩
   ·cases h1
theorem Zik (ls:List Lk)(bs zs:List Bool)(v a:Int):∀ k,(ZbR ls bs zs v a k).Pairwise (fun x y=>x.to<y.to)
 | 0=>by simp [ZbR]
 | k+1=>by
  unfold ZbR;rw [YAP];refine⟨Zik ls bs zs v a k,?_,fun x hx y hy=>?_⟩
  ·split <;> simp
  ·have h1:=ZhA hx
   split at hy
   ·have e:y=⟨(k:Int)+1,ZdD ls bs v ((k:Int)+1) a⟩:=by simpa using hy
    subst e;show x.to<(k:Int)+1;omega
   ·cases hy
theorem Zne (h:∀ l∈ls,Zbo n l=true)(v a:Int)(hN:N<=6):Zb2 v (ZbR ls bs zs v a N)=true:=by
 unfold Zb2;rw [YAO];refine⟨Zbr (fun j hj=>?_),Zbr (fun j hj=>?_)⟩
 ·rw [Zdd (YAA hj)];have h1:=ZhA (YAr hj);have h2:=Znk h (by rw [<-h1.2.2.2];exact h1.2.2.1);rw [<-h1.2.2.2] at h2;simp only [Zdb,inB,YAO,YAk,Bool.not_eq_true',beq_eq_false_iff_ne,ne_eq];refine⟨⟨⟨h1.1,by omega⟩,fun e=>h2.2.2 e.symm⟩,h2.1,h2.2.1⟩
 ·cases j with
  | zero=>rfl
  | succ j=>
   rw [Zc3 (YAA (by omega)) (YAA hj)];have:=YAf.1 (Zik ls bs zs v a N) j (j+1) (by omega) hj (by omega);refine YAi ?_;show (ZbR ls bs zs v a N)[j].to-(ZbR ls bs zs v a N)[j+1].to<0;omega
theorem Zoo {near:List Nr}(hv:1<=v/\v<=6)(ha:0<=a/\a<=2)(hn:Zb2 v near=true):Za7 (ZbV v a near)=true:=by
 simp [Za7,ZbV,inB,hv.1,hv.2,ha.1,ha.2,hn]
theorem ZnP {t:Th}(ho:1<=t.o/\t.o<=6)(hk:1<=t.k/\t.k<=9)(hc:1<=t.c/\t.c<=1000):Za7 (Zdk t)=true:=by
 simp [Za7,Zdk,inB,ho.1,ho.2,hk.1,hk.2,hc.1,hc.2]
structure IdOwn (c:Nat) (xs:List RecD):Prop where
 asc:Asc xs
 ok:∀ r∈xs,Za7 r=true
 own:cntR ownR xs<=c
 his:∀ u,cntR (hisR u) xs=0
theorem IdOwn.put {c:Nat}(h:IdOwn c xs)(hr:Za7 r=true)(hk:r.kind≠2):IdOwn (c+1) (putD xs r) where
 asc:=ZjK h.asc r
 ok:=fun x hx=>by
  rcases ZjZ hx with h1 | h1
  ·exact h.ok x h1
  ·rw [h1];exact hr
 own:=by
  have:=Zhn ownR xs r;have h1:=h.own
  split at this <;> omega
 his:=fun u=>by
  have:=Zhn (hisR u) xs r;have h1:=h.his u;have h2:hisR u r=false:=by simp [hisR,hk]
  rw [h2] at this;simp at this;omega
theorem IdOwn.more {c d:Nat}(h:IdOwn c xs)(hd:c<=d):IdOwn d xs:=⟨h.asc,h.ok,YAG h.own hd,h.his⟩
theorem ZhY {n:Int}{ls:List Lk}{bs zs:List Bool}{N:Nat}{v:Int}{xs:List RecD}{c:Nat}(hl:∀ l∈ls,Zbo n l=true)(hN:N<=6)(hv:1<=v/\v<=6)(h:IdOwn c xs):∀ j,j<=(ZaB ls v).length->IdOwn (c+j) (Zgs ls bs zs N v (ZaB ls v) xs j)
 | 0,_=>h
 | j+1,hj=>by
  have ih:=ZhY (bs:=bs) (zs:=zs) hl hN hv h j (by omega);have hm:(ZaB ls v).getD j 0∈ZaB ls v:=by
   have:(ZaB ls v).getD j 0=(ZaB ls v)[j]'(by omega):=by simp [List.getD,YAA (show j<(ZaB ls v).length by omega)]
   rw [this];exact YAr _
  have ha:=ZgR hm;refine ih.put ?_ (by simp [ZbV]);obtain⟨q,hq⟩:∃ q,q=(ZaB ls v).getD j 0:=⟨_,rfl⟩;rw [<-hq] at ha |-;have hn:=Zne (bs:=bs) (zs:=zs) hl v q hN;exact Zoo hv ha hn
theorem ZlL {n:Int}{ls:List Lk}{bs zs:List Bool}{N:Nat}(hl:∀ l∈ls,Zbo n l=true)(hN:N<=6):∀ k,k<=6->IdOwn (3*k) (idA ls bs zs N k)
 | 0,_ => { asc:=List.Pairwise.nil,ok:=fun r hr=>by simp [idA] at hr,own:=by simp [cntR,idA],his:=fun u=>by simp [cntR,idA] }
 | k+1,hk=>by
  have ih:=ZlL (bs:=bs) (zs:=zs) hl hN k (by omega);have hal:=ZcQ ls ((k:Int)+1);unfold idA
  split
  ·exact (ZhY hl hN (by omega) ih _ (YA _)).more (by omega)
  ·exact ih.more (by omega)
theorem ZlM {n:Int}{ts:List Th}{zs:List Bool}{xs:List RecD}{c:Nat}(hn:n<=6)(ht:∀ t∈ts,ZdS n t=true)(h:IdOwn c xs):∀ k,IdOwn (c+k) (idB ts zs xs k)
 | 0=>h
 | k+1=>by
  have ih:=ZlM (zs:=zs) hn ht h k;unfold idB
  split
  ·rename_i t hk
   split
   ·refine ih.put ?_ (by simp [Zdk]);have h1:=ht t (YAF hk);simp only [ZdS,inB,YAO,YAk] at h1;exact ZnP ⟨h1.1.2.1,by omega⟩ h1.1.1 h1.2
   ·exact ih.more (by omega)
  ·exact ih.more (by omega)
theorem Zm1 (hok:ZaZ ⟨(N:Int),ls,ts⟩=true):IdOk N (Zet ls ts bs zs N):=by
 simp only [ZaZ,YAO] at hok;obtain⟨⟨h1,h2⟩,h3⟩:=hok;have hN:N<=6:=by simp only [inB,YAO,YAk] at h1;omega
 have hl:=okL_of h2;have ht:=Zn2 h3;have htl:ts.length<=4:=by
  unfold Zdh at h3;simp only [YAO,YAk] at h3;exact h3.1.1
 have hA:=ZlL (bs:=bs) (zs:=zs) hl hN N hN;have hB:=ZlM (zs:=zs) (by omega) ht hA ts.length;unfold Zet;refine Zn0 hN ⟨hB.asc,hB.ok,?_,fun u=>by rw [hB.his u];omega⟩ 3;have:=hB.own;omega
theorem Zd4 (hok:ZaZ ⟨(N:Int),ls,ts⟩=true):ZaN (Zet ls ts bs zs N)=true:=ZkA (Zm1 hok)
def OffL (bs:List QP):Prop:=∀ b∈bs,OffR b.1
def offQ (r:RecD)(d:WayD):RtD:=if r.far then ⟨true,r.key,4,d.cost,r.cost,d.hops⟩ else ⟨true,r.key,3,r.cost+d.cost,0,d.hops⟩
def OffK (xs:List RecD)(ds es:List WayD)(src:Int)(k:Nat)(ys:List RtD):Prop:=∀ y,y∈ys↔∃ r∈xs.take k,r.kind=3/\r.cost<60000/\∃ d,Zcw ds es src r.owner=some d/\y=offQ r d
theorem OffK.more {ds es:List WayD}{k:Nat}{ys:List RtD}{d:WayD}(h:OffK xs ds es src k ys)(hr:xs[k]? = some r)(h1:r.kind=3)(h2:r.cost<60000)(h3:Zcw ds es src r.owner=some d):OffK xs ds es src (k+1) (ys++[offQ r d]):=by
 obtain⟨hk,e⟩:=YAD.1 hr;intro y;rw [YAH,h y,YAJ hk,e];constructor
 ·rintro (⟨x,hx,ht⟩ | h4)
  ·exact ⟨x,YAH.2 (.inl hx),ht⟩
  ·have:y=offQ r d:=by simpa using h4
   exact⟨r,YAH.2 (.inr (by simp)),h1,h2,d,h3,this⟩
 ·rintro ⟨x,hx,g1,g2,d',g3,g4⟩;rcases YAH.1 hx with h5 | h5
  ·exact .inl ⟨x,h5,g1,g2,d',g3,g4⟩
  ·have:x=r:=by simpa using h5
   subst this;rw [h3] at g3;cases g3;exact .inr (by simp [g4])
theorem ZnC {bs:List QP}(h:OffL bs):((ZaY bs).map wOf).map rtOf=ZaY bs:=by
 rw [YAa];have:∀ y∈ZaY bs,(rtOf ∘ wOf) y=y:=fun y hy=>by
  obtain⟨b,hb,rfl⟩:=YAV.1 hy;exact (h b hb).rt
 conv=>rhs;rw [<-List.map_id (ZaY bs)]
 exact List.map_congr_left this
theorem Zip {os:List QP}{p:QP}(h:OffL os)(hp:OffR p.1):OffL (os++[p]):=fun b hb=>by
 rcases YAH.1 hb with h1 | h1
 ·exact h b h1
 ·have:b=p:=by simpa using h1
  subst this;exact hp
end Go.Proofs.YtdhnddfnckgbjaaGreat
