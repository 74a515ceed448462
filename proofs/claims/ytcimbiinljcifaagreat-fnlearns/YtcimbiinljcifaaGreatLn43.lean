/-
  LearnsLaw
-/
import Derived.Test.YtcimbiinljcifaaGreatLn38
import Derived.Test.YtcimbiinljcifaaGreatLn39
import Derived.Test.YtcimbiinljcifaaGreatLn42
import Derived.Test.YtcimbiinljcifaaGreatLn21
import Derived.Test.YtcimbiinljcifaaGreatLn18
import Derived.Deep.RegionHeld3
namespace Go.Proofs.YtcimbiinljcifaaGreat
open Go.RowKit
set_option linter.unusedSimpArgs false
set_option linter.unusedVariables false
set_option maxRecDepth 100000
set_option maxHeartbeats 8000000
theorem ZgY {x:SelfD}{ps qs:List RP}(h:ZcE x ps=true)(hs:Zaw (fsts qs)=true):ZcE x qs=true:=by
 unfold ZcE at *;simp only [Bool.and_eq_true] at *
 exact⟨h.1,h.2.1,h.2.2.1,h.2.2.2.1,hs⟩
theorem Zgd {x:SelfD}{ps:List RP}(h:ZcE x ps=true):Zaw (fsts ps)=true:=by
 unfold ZcE at h;simp only [Bool.and_eq_true] at h
 exact h.2.2.2.2
theorem ZfE:∀ (A B:List RecD),totD (Zbu A B)<=totD B
 | _,[]=>by simp [Zbu]
 | A,b::B=>by
  unfold Zbu;have h1:=ZfE (putD A b) B;have h2:=ZfE A B
  split
  ·rw [Zcr,Zcr];omega
  ·rw [Zcr];omega
theorem fnLearns_walk (a:Option Addr)(len cap:Nat)(w:World)(hw:len<=1048576->Code w a len w.heap.size):
  Calls Tryz.prog 3 #[.slice a len cap] w fun e w'=>e=.returned (.bool true)/\Below w.heap.size w w':=by
 have HW:=hide hw;clear hw;by_cases hlen:len<=1048576
 case neg=>
  have HBIG:=hide (ZjT a len cap);rw [decide_eq_true (show (1048576:Int)<(len:Int) by omega)] at HBIG
  go_enter Tryz.func3,Tryz.ntmps3
  go_wp2_with fail
  refine (HBIG.out _).mono ?_
  rintro e w1 ⟨rfl,rfl⟩
  go_wp2
  go_ret
  exact⟨rfl,Below.refl _ _⟩
 have HBIG:=hide (ZjT a len cap);rw [decide_eq_false (show ¬(1048576:Int)<(len:Int) by omega)] at HBIG
 have HCODE:=hide (HW.out hlen);clear HW
 go_enter Tryz.func3,Tryz.ntmps3
 go_wp2_with fail
 refine (HBIG.out _).mono ?_
 rintro e w1 ⟨rfl,rfl⟩
 go_wp2_with fail
 refine (Zhl a len cap _ HCODE.out).mono ?_
 rintro e w1 ⟨x,v1,v2,v3,v4,ps,rfl,hok,htt,src,b1⟩;obtain⟨⟨a1,a1c,rfl⟩,⟨a2,a2c,rfl⟩,⟨a3,a3c,rfl⟩,⟨a4,a4c,rfl⟩⟩:=src.in.shapes;have BX:Below w1.heap.size w1 (w1.alloc (.cells #[.int .i64 x.id,.int .i64 x.boot,.int .i64 x.net.n,.slice a1 x.net.ls.length a1c,.slice a2 x.net.ts.length a2c,.slice a3 x.heard.length a3c,.slice a4 ps.length a4c] 31)):=(Below.refl _ _).alloc (Nat.le_refl _) _;have g:=heap_alloc_new w1 (.cells #[.int .i64 x.id,.int .i64 x.boot,.int .i64 x.net.n,.slice a1 x.net.ls.length a1c,.slice a2 x.net.ts.length a2c,.slice a3 x.heard.length a3c,.slice a4 ps.length a4c] 31);have B1:Below w.heap.size w (w1.alloc (.cells #[.int .i64 x.id,.int .i64 x.boot,.int .i64 x.net.n,.slice a1 x.net.ls.length a1c,.slice a2 x.net.ts.length a2c,.slice a3 x.heard.length a3c,.slice a4 ps.length a4c] 31)):=b1.trans (BX.mono b1.size);have HDR:=hide (Zhk a len cap (w1.alloc (.cells #[.int .i64 x.id,.int .i64 x.boot,.int .i64 x.net.n,.slice a1 x.net.ls.length a1c,.slice a2 x.net.ts.length a2c,.slice a3 x.heard.length a3c,.slice a4 ps.length a4c] 31)) (ZfT HCODE.out B1));have SRC:=hide (src.below BX (Nat.le_refl _));have HG:=hide g;have HOK:=hide hok;have HTT:=hide htt;clear src b1 g hok htt
 go_wp2_with fail
 obtain⟨w1b,hw1b⟩:∃ W,W=w1.alloc (.cells #[.int .i64 x.id,.int .i64 x.boot,.int .i64 x.net.n,.slice a1 x.net.ls.length a1c,.slice a2 x.net.ts.length a2c,.slice a3 x.heard.length a3c,.slice a4 ps.length a4c] 31):=⟨_,rfl⟩;rw [<-hw1b] at BX B1 HDR SRC HG |-;clear hw1b;obtain⟨z3,hz3⟩:∃ z,z=w1.heap.size:=⟨_,rfl⟩;rw [<-hz3] at HG SRC BX |-;clear hz3;refine HDR.out.mono ?_
 rintro e w2 ⟨v5,ts,rfl,ol,hrk,hl13,b2⟩;obtain⟨l5,l5c,rfl⟩:=Zac ol.row;have htl:tot ts<=1000:=by
  have h1:=ZkK (xs:=fsts ts) (fun y hy=>by
   obtain⟨p,hp,rfl⟩:=List.mem_map.1 hy;exact hrk p hp)
  have h2:(fsts ts).length=ts.length:=by simp [fsts]
  rw [ZdQ];omega
 have hs1:=BX.size;have hs2:=b2.size;have B2:Below w.heap.size w w2:=B1.trans (b2.mono B1.size);have hz3l:=Zab HG.out;have SR2:=hide ((SRC.out.below b2 (by omega)).wide (show z3<=w2.heap.size by omega))
 have OL2:=hide ol.in;have g3:=(b2.block _ hz3l).trans HG.out;have G3:=hide g3;have s0:=Zaa g3 0;have s1:=Zaa g3 1;have s2:=Zaa g3 2;have s3:=Zaa g3 3;have s4:=Zaa g3 4;have s5:=Zaa g3 5;have s6:=Zaa g3 6;simp at s0 s1 s2 s3 s4 s5 s6
 have HTB:=hide (show totS x ps+tot ts<=1048576 by have:=HTT.out;omega)
 have HL1:=hide (ZfZ _ _ _ _ _ x ps ts w2.heap.size w2 SR2.out OL2.out (Nat.le_refl _) HTB.out);clear g3 HG SRC HDR ol hrk hl13 b2 B1 BX
 go_wp2_with fail
 refine HL1.out.mono ?_
 rintro e w3 ⟨u1,u2,u3,u4,u5,qs,ns,m1,m2,rfl,fq,fn,own,on,sep,b3⟩;obtain⟨⟨u1,u1c,rfl⟩,⟨u2,u2c,rfl⟩,⟨u3,u3c,rfl⟩,⟨u4,u4c,rfl⟩⟩:=own.in.shapes;obtain⟨n5,n5c,rfl⟩:=Zac on.row;have BY:Below w3.heap.size w3 (w3.alloc (.cells #[.int .i64 x.id,.int .i64 x.boot,.int .i64 x.net.n,.slice u1 x.net.ls.length u1c,.slice u2 x.net.ts.length u2c,.slice u3 x.heard.length u3c,.slice u4 qs.length u4c] 31)):=(Below.refl _ _).alloc (Nat.le_refl _) _;have g5:=heap_alloc_new w3 (.cells #[.int .i64 x.id,.int .i64 x.boot,.int .i64 x.net.n,.slice u1 x.net.ls.length u1c,.slice u2 x.net.ts.length u2c,.slice u3 x.heard.length u3c,.slice u4 qs.length u4c] 31);have hs3:=b3.size;have hst:=Zgd HOK.out;have hfold:fsts qs=(fsts ts).foldl Za7 (fsts ps):=by rw [fq];unfold Zc8;rw [HOK.out];rfl
 have hnews:fsts ns=Zbu (fsts ps) (fsts ts):=by rw [fn];unfold ZcB;rw [HOK.out];rfl
 have hsq:Zaw (fsts qs)=true:=by rw [hfold];exact ZfA hst
 have htq:tot qs<=1050:=by rw [ZdQ];exact ZcO hsq
 have HOQ:=hide (ZgY HOK.out hsq);have HFQ:=hide hfold;have HFN:=hide hnews;have HTQ:=hide htq;have hnl:tot ns<=1000:=by
  rw [ZdQ,hnews];exact Nat.le_trans (ZfE _ _) (by rw [<-ZdQ];exact htl)
 have HNL:=hide hnl;have SY:=hide ((own.src).below BY (Nat.le_refl _));have ON:=hide (on.in.below BY (Nat.le_refl _));have B3:Below w.heap.size w w3:=B2.trans (b3.mono B2.size);have SR3:=hide ((SR2.out.below b3 (Nat.le_refl _)).below BY hs3);have OL3:=hide ((OL2.out.below b3 (Nat.le_refl _)).below BY hs3);have G3b:=hide ((BY.block _ (by have:=Zab G3.out;omega)).trans ((b3.block _ (Zab G3.out)).trans G3.out))
 have G5:=hide g5;have HL2:=hide (ZjE _ _ _ _ _ x ps ts w2.heap.size (w3.alloc (.cells #[.int .i64 x.id,.int .i64 x.boot,.int .i64 x.net.n,.slice u1 x.net.ls.length u1c,.slice u2 x.net.ts.length u2c,.slice u3 x.heard.length u3c,.slice u4 qs.length u4c] 31)) SR3.out OL3.out (Nat.le_trans hs3 BY.size) HTB.out);have g33:=(b3.block _ (Zab G3.out)).trans G3.out;clear s0 s1 s2 s3 s4 s5 s6;have s0:=Zaa g33 0;have s1:=Zaa g33 1;have s2:=Zaa g33 2;have s3:=Zaa g33 3;have s4:=Zaa g33 4;have s5:=Zaa g33 5;have s6:=Zaa g33 6;simp at s0 s1 s2 s3 s4 s5 s6
 have hz33:=Zab g33;have hz3n:z3≠w3.heap.size:=by omega
 clear g33;clear own on sep b3 fq fn hfold hnews hsq htq hnl g5 HL1 SR2 OL2 G3 hst;obtain⟨w4,hw4⟩:∃ W,W=w3.alloc (.cells #[.int .i64 x.id,.int .i64 x.boot,.int .i64 x.net.n,.slice u1 x.net.ls.length u1c,.slice u2 x.net.ts.length u2c,.slice u3 x.heard.length u3c,.slice u4 qs.length u4c] 31):=⟨_,rfl⟩;rw [<-hw4] at BY SY ON SR3 OL3 G3b G5 HL2;have HZ5:w3.heap.size<w4.heap.size:=Zab G5.out
 go_wp2_with fail
 rw [<-hw4];clear hw4 s0 s1 s2 s3 s4 s5 s6;obtain⟨z5,hz5⟩:∃ z,z=w3.heap.size:=⟨_,rfl⟩;rw [<-hz5] at SY ON G5 HZ5 BY |-;have HZ5E:=hide hz5;clear hz5;refine HL2.out.mono ?_
 rintro e w5 ⟨y1,y2,y3,y4,y5,qs2,ns2,k1,k2,rfl,fq2,fn2,own2,on2,b5⟩;obtain⟨⟨y1,y1c,rfl⟩,⟨y2,y2c,rfl⟩,⟨y3,y3c,rfl⟩,⟨y4,y4c,rfl⟩⟩:=own2.in.shapes;obtain⟨o5,o5c,rfl⟩:=Zac on2.row;have hs4:=BY.size;have hs5:=b5.size;have hw2s:w2.heap.size<=w4.heap.size:=by omega
 have BZ:Below w5.heap.size w5 (w5.alloc (.cells #[.int .i64 x.id,.int .i64 x.boot,.int .i64 x.net.n,.slice y1 x.net.ls.length y1c,.slice y2 x.net.ts.length y2c,.slice y3 x.heard.length y3c,.slice y4 qs2.length y4c] 31)):=(Below.refl _ _).alloc (Nat.le_refl _) _;have HN2:=hide (show fsts ns2=fsts ns by rw [fn2,HFN.out];unfold ZcB;rw [HOK.out];rfl)
 have B4:Below w.heap.size w w4:=B3.trans (BY.mono (by have:=B3.size;have:=HZ5E.out;omega))
 have b57:Below w4.heap.size w4 (w5.alloc (.cells #[.int .i64 x.id,.int .i64 x.boot,.int .i64 x.net.n,.slice y1 x.net.ls.length y1c,.slice y2 x.net.ts.length y2c,.slice y3 x.heard.length y3c,.slice y4 qs2.length y4c] 31)):=b5.trans (BZ.mono hs5);have SY7:=hide (SY.out.below b57 (by omega))
 have ON7:=hide (ON.out.below b57 (by omega))
 have OL7:=hide (OL3.out.below b57 hw2s);have SR7:=hide (SR3.out.below b57 hw2s);have OW7:=hide (on2.in.below BZ (Nat.le_refl _));have G37:=hide ((b57.block _ (Zab G3b.out)).trans G3b.out);have G57:=hide ((b57.block _ (Zab G5.out)).trans G5.out);have HL3:=hide (ZfZ _ _ _ _ _ x qs ts w4.heap.size (w5.alloc (.cells #[.int .i64 x.id,.int .i64 x.boot,.int .i64 x.net.n,.slice y1 x.net.ls.length y1c,.slice y2 x.net.ts.length y2c,.slice y3 x.heard.length y3c,.slice y4 qs2.length y4c] 31)) (SY7.out.wide (by omega)) (OL7.out.wide hw2s) (Nat.le_trans hs5 BZ.size) (by have h1:=HTQ.out;have h2:=HTT.out;have h3:=htl;unfold totS at h2 |-;omega))
 have B7:Below w.heap.size w (w5.alloc (.cells #[.int .i64 x.id,.int .i64 x.boot,.int .i64 x.net.n,.slice y1 x.net.ls.length y1c,.slice y2 x.net.ts.length y2c,.slice y3 x.heard.length y3c,.slice y4 qs2.length y4c] 31)):=B4.trans (b57.mono B4.size);have g55:=(b5.block _ (Zab G5.out)).trans G5.out;have s0:=Zaa g55 0;have s1:=Zaa g55 1;have s2:=Zaa g55 2;have s3:=Zaa g55 3;have s4:=Zaa g55 4;have s5:=Zaa g55 5;have s6:=Zaa g55 6;simp at s0 s1 s2 s3 s4 s5 s6
 have hz55:=Zab g55;have hz5n:z5≠w5.heap.size:=by omega
 clear g55;clear fq2 fn2 own2 on2 b5 HL2 SY ON OL3 SR3;obtain⟨w7,hw7⟩:∃ W,W=w5.alloc (.cells #[.int .i64 x.id,.int .i64 x.boot,.int .i64 x.net.n,.slice y1 x.net.ls.length y1c,.slice y2 x.net.ts.length y2c,.slice y3 x.heard.length y3c,.slice y4 qs2.length y4c] 31):=⟨_,rfl⟩;rw [<-hw7] at BZ SY7 ON7 OL7 SR7 OW7 G37 G57 HL3 B7 b57;have hw7s:w4.heap.size<=w7.heap.size:=b57.size;have hw57:w5.heap.size<=w7.heap.size:=BZ.size;clear G3b G5 BZ
 go_wp2_with fail
 rw [<-hw7];clear hw7;clear b57;refine HL3.out.mono ?_
 rintro e w8 ⟨p1,p2,p3,p4,p5,qs3,ns3,j1,j2,rfl,fq3,fn3,own3,on3,sep3,b8⟩;obtain⟨⟨p1,p1c,rfl⟩,⟨p2,p2c,rfl⟩,⟨p3,p3c,rfl⟩,⟨p4,p4c,rfl⟩⟩:=own3.in.shapes;have hn3:ns3=[]:=by
  have h1:fsts ns3=[]:=by
   rw [fn3];unfold ZcB;rw [HOQ.out]
   show Zbu (fsts qs) (fsts ts)=[]
   rw [HFQ.out];exact Zjo (ZgX HOK.out) _
  simpa [fsts] using h1
 subst hn3;obtain⟨q5,q5c,rfl⟩:=Zac on3.row;have hs8:=b8.size;have B9:Below w7.heap.size w7 (w8.alloc (.cells #[.int .i64 x.id,.int .i64 x.boot,.int .i64 x.net.n,.slice p1 x.net.ls.length p1c,.slice p2 x.net.ts.length p2c,.slice p3 x.heard.length p3c,.slice p4 qs3.length p4c] 31)):=b8.trans (((Below.refl _ _).alloc (Nat.le_refl _) _).mono hs8);have SY9:=hide (SY7.out.below B9 (by omega))
 have ON9:=hide (ON7.out.below B9 (by omega))
 have OL9:=hide (OL7.out.below B9 (by omega))
 have SR9:=hide (SR7.out.below B9 (by omega))
 have OW9:=hide (OW7.out.below B9 (by omega))
 have G39:=hide ((B9.block _ (Zab G37.out)).trans G37.out);have G59:=hide ((B9.block _ (Zab G57.out)).trans G57.out);have BB:Below w.heap.size w (w8.alloc (.cells #[.int .i64 x.id,.int .i64 x.boot,.int .i64 x.net.n,.slice p1 x.net.ls.length p1c,.slice p2 x.net.ts.length p2c,.slice p3 x.heard.length p3c,.slice p4 qs3.length p4c] 31)):=B7.trans (B9.mono B7.size);have hw9s:=B9.size;have HSS:=hide (Zd8 _ _ ns ns2 w5.heap.size (w8.alloc (.cells #[.int .i64 x.id,.int .i64 x.boot,.int .i64 x.net.n,.slice p1 x.net.ls.length p1c,.slice p2 x.net.ts.length p2c,.slice p3 x.heard.length p3c,.slice p4 qs3.length p4c] 31)) (ON9.out.wide (by omega)) OW9.out HN2.out.symm (by omega) (by have:=HNL.out;omega))
 clear fq3 fn3 own3 on3 sep3 b8 HL3 SY7 ON7 OL7 SR7 OW7 G37 G57 s0 s1 s2 s3 s4 s5 s6 B7 B9;simp only [List.length_nil]
 obtain⟨w9,hw9⟩:∃ W,W=w8.alloc (.cells #[.int .i64 x.id,.int .i64 x.boot,.int .i64 x.net.n,.slice p1 x.net.ls.length p1c,.slice p2 x.net.ts.length p2c,.slice p3 x.heard.length p3c,.slice p4 qs3.length p4c] 31):=⟨_,rfl⟩;rw [<-hw9] at SY9 ON9 OL9 SR9 OW9 G39 G59 BB HSS hw9s
 go_wp2_with fail
 rw [<-hw9];clear hw9;refine HSS.out.mono ?_
 rintro e w10 ⟨rfl,b10⟩;have hs10:=b10.size;have SY10:=hide (SY9.out.below b10 (by omega))
 have ON10:=hide (ON9.out.below b10 (by omega))
 have OL10:=hide (OL9.out.below b10 (by omega))
 have SR10:=hide (SR9.out.below b10 (by omega))
 have G310:=hide ((b10.block _ (Zab G39.out)).trans G39.out);have G510:=hide ((b10.block _ (Zab G59.out)).trans G59.out);have B10:Below w.heap.size w w10:=BB.trans (b10.mono BB.size);have HSO:=hide (Zfa _ _ _ _ x qs w10 (by have h1:=HTQ.out;have h2:=HTT.out;unfold totS at h2 |-;omega) ((SY10.out.wide (show _<=w10.heap.size by omega)).in))
 rw [HOQ.out] at HSO;have s0:=Zaa G510.out 0;have s1:=Zaa G510.out 1;have s2:=Zaa G510.out 2;have s3:=Zaa G510.out 3;have s4:=Zaa G510.out 4;have s5:=Zaa G510.out 5;have s6:=Zaa G510.out 6;simp at s0 s1 s2 s3 s4 s5 s6
 clear b10 SY9 ON9 OL9 SR9 OW9 G39 G59 HSS BB
 go_wp2_with fail
 refine HSO.out.mono ?_
 rintro e w11 ⟨rfl,b11⟩;have hs11:=b11.size;have SY11:=hide (SY10.out.below b11 (by omega))
 have ON11:=hide (ON10.out.below b11 (by omega))
 have OL11:=hide (OL10.out.below b11 (by omega))
 have SR11:=hide (SR10.out.below b11 (by omega))
 have G311:=hide ((b11.block _ (Zab G310.out)).trans G310.out);have G511:=hide ((b11.block _ (Zab G510.out)).trans G510.out);have B11:Below w.heap.size w w11:=B10.trans (b11.mono B10.size);have hnn:ns.length<=1048576:=by have:=Za3 ns;have:=HNL.out;omega
 have hpp:ps.length<=1048576:=by have h1:=Za3 ps;have h2:=HTT.out;unfold totS at h2;omega
 clear b11 SY10 ON10 OL10 SR10 G310 G510 HSO s0 s1 s2 s3 s4 s5 s6 B10
 go_wp2
 go_loopw [11] (fun i wr=>∃ k:Nat,k<=ns.length/\i=.int .i64 k/\Below w11.heap.size w11 wr) (fun i _=>ns.length-(intOf i).toNat)
 case atStart=>exact ⟨0,by omega,rfl,Below.refl _ _⟩
 case round=>
  obtain⟨k,hk,rfl,hnx⟩:=hrel;have hszr:=hnx.size;have gr3:=(hnx.block _ (Zab G311.out)).trans G311.out;have gr5:=(hnx.block _ (Zab G511.out)).trans G511.out;have t3:=Zaa gr3 6;have t5:=Zaa gr5 6;simp at t3 t5
  have hl3:=Zab gr3;have hl5:=Zab gr5;clear gr3 gr5;by_cases hlt:k<ns.length
  ·obtain ⟨p,hp⟩:∃ p,ns[k]? = some p:=⟨ns[k],List.getElem?_eq_getElem hlt⟩
   obtain⟨b,off,cap',hve,hbb,c0,c1,c2,c3,c4,c5,c6,c7,hnr⟩:=ON11.out.at.cells k p hp;cases hve
   have hbb2:b<w11.heap.size:=by omega
   rw [<-hnx.cell (p:=⟨b,off+k*8,none⟩) hbb2] at c0;rw [<-hnx.cell (p:=⟨b,off+k*8+1,none⟩) hbb2] at c1;rw [<-hnx.cell (p:=⟨b,off+k*8+2,none⟩) hbb2] at c2;rw [<-hnx.cell (p:=⟨b,off+k*8+3,none⟩) hbb2] at c3;rw [<-hnx.cell (p:=⟨b,off+k*8+4,none⟩) hbb2] at c4;rw [<-hnx.cell (p:=⟨b,off+k*8+5,none⟩) hbb2] at c5;rw [<-hnx.cell (p:=⟨b,off+k*8+6,none⟩) hbb2] at c6;rw [<-hnx.cell (p:=⟨b,off+k*8+7,none⟩) hbb2] at c7;obtain⟨pa,pc,hpn⟩:=ZaA.shape hnr;rw [hpn] at c5;have hnew:Za8 (fsts ps) p.1<p.1.seq:=Zic (A:=fsts ps) (B:=fsts ts) (ZgX HOK.out) (by
    rw [<-HFN.out];exact List.mem_map_of_mem (List.mem_of_getElem? hp))
   have HNW:=fun W (hb:Below w11.heap.size w11 W)=>Zjn (.slice a4 ps.length a4c) ps w2.heap.size p W (SR11.out.store.below hb (by omega)) (by have:=hb.size;omega) hpp
   obtain⟨N,hN⟩:∃ N,N=Za8 (fsts ps) p.1:=⟨_,rfl⟩;rw [<-hN] at hnew HNW;unfold recC at HNW;rw [hpn] at HNW;have HNN:=hide HNW;clear hN HNW hp hnr hpn;have hle:¬p.1.seq<=N:=by omega
   have hki:(0:Int)<=(k:Int):=by omega
   have hkj:(k:Int)<(ns.length:Int):=by omega
   have hbr:b<wr.heap.size:=by omega
   go_wp2
   go_region_held3 (fun W=>W.cell? ⟨b,off+k*8,none⟩=some (.int .i64 p.1.area)/\W.cell? ⟨b,off+k*8+1,none⟩=some (.int .i64 p.1.kind)/\W.cell? ⟨b,off+k*8+2,none⟩=some (.int .i64 p.1.owner)/\W.cell? ⟨b,off+k*8+3,none⟩=some (.int .i64 p.1.key)/\W.cell? ⟨b,off+k*8+4,none⟩=some (.int .i64 p.1.seq)/\W.cell? ⟨b,off+k*8+5,none⟩=some (.slice pa p.1.near.length pc)/\W.cell? ⟨b,off+k*8+6,none⟩=some (.int .i64 p.1.cost)/\W.cell? ⟨b,off+k*8+7,none⟩=some (.bool p.1.far)/\W.cell? ⟨z3,6,none⟩=some (.slice a4 ps.length a4c)) (first | go_keep | (refine ⟨?_,?_,?_,?_,?_,?_,?_,?_,?_⟩ <;> (rw [bn.cell (by assumption)];assumption))) (first | (go_at_call 12;refine (HNN.out _ hnx.drew).mono ?_;rintro e w12 ⟨rfl,bn⟩))
   go_wp2
   go_roundw
   case rel=>exact ⟨k+1,by omega,by go_num,hnx.drew.trans (bn.mono hszr)⟩
   case measure=>simp [intOf];omega
  ·have hfs:fsts qs=fsts (Zfg ps ts):=by
    unfold Zfg;rw [if_pos (Zgd HOK.out),Zdc,HFQ.out]
   have HFS:=hide hfs;have HMG:=hide (fun W (hb:Below w11.heap.size w11 W)=>ZjG (.slice a4 ps.length a4c) (.slice l5 ts.length l5c) ps ts w2.heap.size W (SR11.out.store.below hb (by omega)) (OL11.out.below hb (by omega)) (by have:=hb.size;omega) (by have h1:=HTB.out;unfold totS at h1;omega))
   have HSM:=hide (fun W (v:Value) (rs:List RP) (hb:Below w11.heap.size w11 W) (ho:RecsIn W W.heap.size v rs) (hf:fsts rs=fsts (Zfg ps ts))=>Zd8 (.slice u4 qs.length u4c) v qs rs W.heap.size W ((SY11.out.store.below hb (by omega)).wide (by have:=hb.size;omega)) ho (HFS.out.trans hf.symm) (Nat.le_refl _) (by have:=HTQ.out;omega))
   clear hfs
   go_wp2
   go_region_held3 (fun W=>W.cell? ⟨z3,6,none⟩=some (.slice a4 ps.length a4c)/\W.cell? ⟨z5,6,none⟩=some (.slice u4 qs.length u4c)) (first | go_keep | (refine ⟨?_,?_⟩ <;> (rw [bs.cell (Nat.lt_of_lt_of_le (by assumption) bm.size),bm.cell (by assumption)];assumption)) | (refine ⟨?_,?_⟩ <;> (rw [bm.cell (by assumption)];assumption))) (first | (go_at_call 13;refine (HMG.out _ hnx.drew).mono ?_;rintro e w12 ⟨mx,rs,rfl,fm,om,bm⟩;obtain⟨ma,mc,rfl⟩:=Zac om.row) | (go_at_call 10;refine (HSM.out _ _ rs (hnx.drew.trans (bm.mono hszr)) om.in fm).mono ?_;rintro e w13 ⟨rfl,bs⟩))
   go_wp2
   go_ret
   exact⟨rfl,B11.trans (((hnx.drew.trans (bm.mono hszr)).trans (bs.mono (Nat.le_trans hszr bm.size))).mono B11.size)⟩
end Go.Proofs.YtcimbiinljcifaaGreat
