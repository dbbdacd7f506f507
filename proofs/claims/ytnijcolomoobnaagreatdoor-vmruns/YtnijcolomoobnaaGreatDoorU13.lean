/- Texts of ours, joined. -/
import Derived.Test.YtnijcolomoobnaaGreatDoorU12
import Derived.Test.YtnijcolomoobnaaGreatDoorU09
set_option linter.unusedVariables false
set_option linter.unusedSimpArgs false
set_option maxRecDepth 100000
set_option maxHeartbeats 16000000
namespace Go.Proofs.YtnijcolomoobnaaGreatDoor
section
open Go.RowKit
theorem V4{B:Nat->Prop}{v k:V}{ao ak:Option Addr}{cap ck:Nat}{w:World}(hv:IsW B w v (.slice ao v.l.length cap))(hk:IsW B w k (.slice ak k.l.length ck))(hwv:wt v<=400000)(ht:Et v) :
  Calls Tryz.prog 60 #[.agg #[iv v.k,iv v.n,bz v.t,.slice ao v.l.length cap],.agg #[iv k.k,iv k.n,bz k.t,.slice ak k.l.length ck]] w fun r w'=>Dz w (atV v k) r w':=by
 obtain⟨ao',cap',e,c1,c2⟩:=hv.vs.slice;simp only[Value.slice.injEq] at e;obtain⟨rfl,-,rfl⟩:=e;have hwts:=Bw v;have hlv:=A4 v.l;obtain⟨w0,w1,w2,hW,hW1,hW2,hs0,hs1,hs2,hB2,hc,hr⟩:=Fc w v (.slice ao v.l.length cap) k (.slice ak k.l.length ck);obtain⟨a0,a1,a2,a3,b0,b1,b2,b3⟩:=hc w2 (Below.refl _ _);have hP:=J5 (hv.below hB2) (hk.below hB2) (by omega) ht;have hlt:(plV v k).2=0->(plV v k).1<v.l.length:=Kt ht;have hfin:Hid (atV v k=if (plV v k).2=0 then (v.l.getD (plV v k).1 V.zero,0) else (V.zero,(plV v k).2)):=rfl;generalize (plV v k).1=i at *;generalize (plV v k).2=er at *;by_cases h0:er=0
 ·subst h0;have hi:i<v.l.length:=hlt rfl;have hx:v.l[i]?=some v.l[i]:=List.getElem?_eq_getElem hi;have hxd:v.l.getD i V.zero=v.l[i]:=by rw[List.getD_eq_getElem?_getD,hx];rfl
  have hfin':Hid (atV v k=(v.l[i],0)):=by show _=_;rw[hfin.out,if_pos rfl,hxd]
  have hwx:=Df hx;have hget:∀w3,Below w2.heap.size w2 w3->∃g o ax cx,ao=some ⟨g,o,none⟩∧g<w3.heap.size∧w3.cell? ⟨g,o+i*4,none⟩=some (iv v.l[i].k)∧w3.cell? ⟨g,o+i*4+1,none⟩=some (iv v.l[i].n)∧w3.cell? ⟨g,o+i*4+2,none⟩=some (.string ⟨v.l[i].t.toArray⟩)∧w3.cell? ⟨g,o+i*4+3,none⟩=some (.slice ax v.l[i].l.length cx)∧Calls Tryz.prog 32 #[.agg #[iv v.l[i].k,iv v.l[i].n,.string ⟨v.l[i].t.toArray⟩,.slice ax v.l[i].l.length cx]] w3 fun r w'=>Jk 1000001 w3 v.l[i] r w':=by
   intro w3 hb3;have hbw:Below w.heap.size w w3:=hB2.trans (hb3.mono hB2.size);obtain⟨g,o,ax,cx,e,_,hg,q0,q1,q2,q3,hw⟩:=(hv.vs.below hbw).get hx;exact⟨g,o,ax,cx,e,hg,q0,q1,q2,q3,Dl 1000001 _ _ B w3 (by omega) (by omega) hw⟩
  generalize v.l[i]=x at *;have hiI:(i:Int)<(v.l.length:Int):=by omega
  clear hfin hv hk hlt hx hxd hwx;go_enter Tryz.func60,Tryz.ntmps60;go_wp2_with fail;refine hP.mono ?_;rintro e w3 ⟨rfl,hb3⟩;clear hP;obtain⟨g,o,ax,cx,rfl,hg,q0,q1,q2,q3,hcp⟩:=hget w3 hb3;obtain⟨f0,f1,f2,f3,-⟩:=hc w3 hb3;clear hget hc;go_wp2_with fail;refine hcp.mono ?_;rintro e w4 ⟨⟨a4,c4,rfl,hx4,hz4⟩,hb4⟩;clear hcp;have hb24:Below w2.heap.size w2 w4:=hb3.trans (hb4.mono hb3.size);obtain⟨r0,r1,r2,r3,s0,s1,s2,s3,hz⟩:=hr w4 hb24;have hs3:=hb3.size;have hres:=Dz.stored (o:=(x,0)) hx4 (hB2.trans (hb24.mono hB2.size)) (g:=w.heap.size+2) (by omega) (by omega) hz4;clear hr hx4 hz4 q0 q1 q2 q3 f0 f1 f2 f3;go_wp2_with fail;exact bodyPost_ret (v:=.tuple #[.agg #[iv x.k,iv x.n,bz x.t,.slice a4 x.l.length c4],iv 0]) (by simp[results,Tryz.results60,go_sem,hz,r0,r1,r2,r3]) rfl (by rw[hfin'.out];exact hres)
 ·have h0':(er != 0)=true:=by simp[h0]
  have hfin':Hid (atV v k=(V.zero,er)):=by show _=_;rw[hfin.out,if_neg h0]
  clear hfin hv hk hlt h0 hc;go_enter Tryz.func60,Tryz.ntmps60;go_wp2_with fail;refine hP.mono ?_;rintro e w3 ⟨rfl,hb3⟩;clear hP;obtain⟨r0,r1,r2,r3,s0,s1,s2,s3,hz⟩:=hr w3 hb3;have hres:=C5 (e:=er) (Aj (hB2.trans (hb3.mono hB2.size)) (g:=w.heap.size+2) (by omega) (iv 0) (iv 0) (.string ⟨#[]⟩) sZ);clear hr;go_wp2_with fail;exact bodyPost_ret (v:=.tuple #[.agg #[iv 0,iv 0,.string ⟨#[]⟩,sZ],iv er]) (by simp[results,Tryz.results60,go_sem,hz,r0,r1,r2,r3]) rfl (by rw[hfin'.out];exact hres)
theorem Xm{B:Nat->Prop}{v k:V}{ao ak:Option Addr}{cap ck:Nat}{w:World}(hv:IsW B w v (.slice ao v.l.length cap))(hk:IsW B w k (.slice ak k.l.length ck))(hwv:wt v<=400000)(ht:Et v) :
  Calls Tryz.prog 60 #[.agg #[iv v.k,iv v.n,bz v.t,.slice ao v.l.length cap],.agg #[iv k.k,iv k.n,bz k.t,.slice ak k.l.length ck]] w fun r w'=>Br w (atV v k) r w':=(V4 hv hk hwv ht).mono fun e w' h=>h.out
theorem Xn{B:Nat->Prop}{w:World}:Al B w [] (.slice none ([]:List V).length 0):=Al.nil
theorem Tp{B:Nat->Prop}{v k:V}{ao ak:Option Addr}{cap ck:Nat}{w:World}(hv:IsW B w v (.slice ao v.l.length cap))(hk:IsW B w k (.slice ak k.l.length ck))(hwv:wt v<=400000)(ht:Et v) :
  Calls Tryz.prog 63 #[.agg #[iv v.k,iv v.n,bz v.t,.slice ao v.l.length cap],.agg #[iv k.k,iv k.n,bz k.t,.slice ak k.l.length ck]] w fun r w'=>Dz w (delV v k) r w':=by
 obtain⟨ao',cap',e,c1,c2⟩:=hv.vs.slice;simp only[Value.slice.injEq] at e;obtain⟨rfl,-,rfl⟩:=e;have hwts:=Bw v;have hlv:=A4 v.l;obtain⟨w0,w1,w2,hW,hW1,hW2,hs0,hs1,hs2,hB2,hc,hr⟩:=Fc w v (.slice ao v.l.length cap) k (.slice ak k.l.length ck);obtain⟨a0,a1,a2,a3,b0,b1,b2,b3⟩:=hc w2 (Below.refl _ _);by_cases h5:v.k=5
 ·have hk5:(v.k != 5)=false:=by simp[h5]
  obtain⟨t1,t2⟩:=ht h5;have hF:=Ga (hv.below hB2) (hk.below hB2) (by omega) t1 t2;have hfin:Hid (delV v k=if hit k v.l=true then (.mk v.k v.n v.t (spl v.l (2*kat k v.l) (2*kat k v.l+2) []),0) else (v,0)):=by show _=_;unfold delV;rw[if_neg (by simp[h5])]
  have hh:=@Da k v.l;clear h5;generalize kat k v.l=q at *;generalize hit k v.l=t at *;cases t
  ·have hfin':Hid (delV v k=(v,0)):=by show _=_;rw[hfin.out,if_neg (by simp)]
   have hcp:∀w3,Below w2.heap.size w2 w3->Calls Tryz.prog 32 #[.agg #[iv v.k,iv v.n,bz v.t,.slice ao v.l.length cap]] w3 fun r w'=>Jk 1000001 w3 v r w':=fun w3 hb3=>Dl 1000001 _ _ B w3 (by omega) (by omega) ((hv.below hB2).below hb3)
   clear hfin hv hk hh;go_enter Tryz.func63,Tryz.ntmps63;go_wp2_with fail;refine hF.mono ?_;rintro e w3 ⟨rfl,hb3⟩;clear hF;obtain⟨f0,f1,f2,f3,-⟩:=hc w3 hb3;have hcp3:=hcp w3 hb3;clear hc hcp;go_wp2_with fail;refine hcp3.mono ?_;rintro e w4 ⟨⟨a4,c4,rfl,hx4,hz4⟩,hb4⟩;clear hcp3;have hb24:Below w2.heap.size w2 w4:=hb3.trans (hb4.mono hb3.size);obtain⟨r0,r1,r2,r3,s0,s1,s2,s3,hz⟩:=hr w4 hb24;have hs3:=hb3.size;have hres:=Dz.stored (o:=(v,0)) hx4 (hB2.trans (hb24.mono hB2.size)) (g:=w.heap.size+2) (by omega) (by omega) hz4;clear hr hx4 hz4 f0 f1 f2 f3;go_wp2_with fail;exact bodyPost_ret (v:=.tuple #[.agg #[iv v.k,iv v.n,bz v.t,.slice a4 v.l.length c4],iv 0]) (by simp[results,Tryz.results63,go_sem,hz,r0,r1,r2,r3]) rfl (by rw[hfin'.out];exact hres)
  ·obtain⟨u,HU⟩:∃u:V,Hid (u=.mk v.k v.n v.t (spl v.l (2*q) (2*q+2) [])):=⟨_,rfl⟩;have hfin':Hid (delV v k=(u,0)):=by show _=_;rw[hfin.out,if_pos rfl,HU.out]
   have hq2:2*q<v.l.length:=(List.getElem?_eq_some_iff.1 (hh rfl)).1;have hul:u.l.length<=v.l.length:=by rw[HU.out];simp[V.l,spl];omega
   have huw:wt u<=1000000:=by rw[HU.out,H4];have:=F4 v.l (2*q) (2*q+2) [];simp only[wts] at this;omega
   have hS:∀w3,Below w2.heap.size w2 w3->Calls Tryz.prog 97 #[.agg #[iv v.k,iv v.n,bz v.t,.slice ao v.l.length cap],iv (2*q:Nat),iv (2*q+2:Nat),sZ] w3 fun r w'=>(∃ao' cap',r=.returned (.agg #[iv u.k,iv u.n,bz u.t,.slice ao' u.l.length cap'])∧IsW (fun k=>k≠w.heap.size) w' u (.slice ao' u.l.length cap'))∧Below w3.heap.size w3 w':=by
    intro w3 hb3;have hs3:=hb3.size;refine (E4 (B:=Lob B w.heap.size) (f:=2*q) (t:=2*q+2) (((hv.base (B':=Lob B w.heap.size) (fun k h1 h2=>⟨h1,h2⟩)).below hB2).below hb3) Xn (by omega) (by omega) (by have h9:=hul;rw[HU.out] at h9;exact Nat.le_trans h9 (by omega))).mono ?_;rintro e w' ⟨⟨x,y,rfl,h2⟩,h3⟩;rw[HU.out];exact⟨⟨x,y,rfl,hv.txt,hv.kr,hv.nr,h2.base (fun k hk _=>by
     show k≠w.heap.size;rcases hk with hk | hk
     ·have:=hk.1.2;omega
     ·omega)⟩,h3⟩
   clear hfin hv hk hh;have hz1:IntKind.i64.wrap (((2*q:Nat):Int)+2)=((2*q+2:Nat):Int):=by rw[IntKind.wrap_i64];omega
   have hz2:((2*q:Nat):Int)+2=((2*q+2:Nat):Int):=by omega
   have hz3:IntKind.i64.wrap ((2*q+2:Nat):Int)=((2*q+2:Nat):Int):=by rw[IntKind.wrap_i64];omega
   generalize 2*q+2=q2 at *;generalize 2*q=q1 at *;go_enter Tryz.func63,Tryz.ntmps63;go_wp2_with fail;refine hF.mono ?_;rintro e w3 ⟨rfl,hb3⟩;clear hF;obtain⟨f0,f1,f2,f3,-⟩:=hc w3 hb3;have hS3:=hS w3 hb3;clear hS;go_wp2_with fail;refine hS3.mono ?_;rintro e w4 ⟨⟨a4,c4,rfl,hx4⟩,hb4⟩;clear hS3 f0 f1 f2 f3;have hs4:=hb4.size;have hs3:=hb3.size;have hb24:Below w2.heap.size w2 w4:=hb3.trans (hb4.mono hb3.size);have hblk4:w4.heap[w.heap.size]?=some (.cells #[iv v.k,iv v.n,bz v.t,.slice ao v.l.length cap] 31):=by
    rw[hb24.block _ (by omega),<-hW2,heap_alloc_old _ _ (by omega),<-hW1,heap_alloc_old _ _ (by omega),<-hW];exact Ai _ _
   obtain⟨g0,g1,g2,g3,z0,z1,z2,z3⟩:=Aa hblk4;obtain⟨w5,hW5⟩:∃w5,Cx w4 w.heap.size (iv u.k) (iv u.n) (bz u.t) (.slice a4 u.l.length c4)=w5:=⟨_,rfl⟩;have hblk5:w5.heap[w.heap.size]?=some (.cells #[iv u.k,iv u.n,bz u.t,.slice a4 u.l.length c4] 31):=by rw[<-hW5];exact E0 hblk4 _ _ _ _
   obtain⟨y0,y1,y2,y3,-⟩:=Aa hblk5;have hs5:w5.heap.size=w4.heap.size:=by rw[<-hW5,D3]
   have hB5:Below w.heap.size w w5:=by rw[<-hW5];exact Aj (hB2.trans (hb24.mono hB2.size)) (Nat.le_refl _) _ _ _ _
   have hx5:IsW (fun k=>k≠w.heap.size) w5 u (.slice a4 u.l.length c4):=by rw[<-hW5];exact hx4.since (Ba (by simp) _ _ _ _)
   have hcp5:=Dl 1000001 _ _ _ w5 (by omega) huw hx5;obtain⟨r0,r1,r2,r3,s0,s1,s2,s3,hz⟩:=hr w4 hb24;have hblk6:∀w6,Below w5.heap.size w5 w6->w6.heap[w.heap.size+2]?=some (.cells #[iv 0,iv 0,.string ⟨#[]⟩,sZ] 31 (0,0)):=by
    intro w6 hb6;rw[hb6.block _ (by omega),<-hW5,H6 (by omega),hb24.block _ (by omega),<-hs1];exact E1 hW2 (Below.refl _ _)
   clear hx4 hx5 hr hc;go_wp2_with fail;refine hcp5.mono ?_;rintro e w6 ⟨⟨a6,c6,rfl,hx6,hzw6⟩,hb6⟩;clear hcp5;obtain⟨r0',r1',r2',r3',s0',s1',s2',s3'⟩:=Aa (hblk6 w6 hb6);have hs6:=hb6.size;have hz6:w.heap.size+2<w6.heap.size:=by omega
   have hres:=Dz.stored (o:=(u,0)) hx6 (hB5.trans (hb6.mono (by omega))) (g:=w.heap.size+2) (by omega) (by omega) hzw6;clear hx6 hzw6 hblk6 hblk5 hblk4 y0 y1 y2 y3 g0 g1 g2 g3 z0 z1 z2 z3 r0 r1 r2 r3 s0 s1 s2 s3;go_wp2_with fail;exact bodyPost_ret (v:=.tuple #[.agg #[iv u.k,iv u.n,bz u.t,.slice a6 u.l.length c6],iv 0]) (by simp[results,Tryz.results63,go_sem,hz6,r0',r1',r2',r3']) rfl (by rw[hfin'.out];exact hres)
 ·have hk5:(v.k != 5)=true:=by simp[h5]
  have hfin:delV v k=(V.zero,40):=by unfold delV;rw[if_pos h5]
  obtain⟨r0,r1,r2,r3,s0,s1,s2,s3,hz⟩:=hr w2 (Below.refl _ _);have hres:=C5 (e:=40) (Aj hB2 (g:=w.heap.size+2) (by omega) (iv 0) (iv 0) (.string ⟨#[]⟩) sZ);rw[<-hfin] at hres;clear hr hc hv hk hfin;go_enter Tryz.func63,Tryz.ntmps63;go_wp2_with fail;exact bodyPost_ret (v:=.tuple #[.agg #[iv 0,iv 0,.string ⟨#[]⟩,sZ],iv 40]) (by simp[results,Tryz.results63,go_sem,hz,r0,r1,r2,r3]) rfl hres
theorem V5{B:Nat->Prop}{v k:V}{ao ak:Option Addr}{cap ck:Nat}{w:World}(hv:IsW B w v (.slice ao v.l.length cap))(hk:IsW B w k (.slice ak k.l.length ck))(hwv:wt v<=400000)(ht:Et v) :
  Calls Tryz.prog 63 #[.agg #[iv v.k,iv v.n,bz v.t,.slice ao v.l.length cap],.agg #[iv k.k,iv k.n,bz k.t,.slice ak k.l.length ck]] w fun r w'=>Br w (delV v k) r w':=(Tp hv hk hwv ht).mono fun e w' h=>h.out
theorem Ep(w:World)(a:V)(sa:Value)(b:V)(sb:Value)(c:V)(sc:Value):∃w0 w1 w2 w3,w.alloc (.cells #[iv a.k,iv a.n,bz a.t,sa] 31)=w0∧w0.alloc (.cells #[iv b.k,iv b.n,bz b.t,sb] 31)=w1∧w1.alloc (.cells #[iv c.k,iv c.n,bz c.t,sc] 31)=w2∧w2.alloc (.cells #[iv 0,iv 0,.string ⟨#[]⟩,sZ] 31)=w3∧w0.heap.size=w.heap.size+1∧w1.heap.size=w.heap.size+2∧w2.heap.size=w.heap.size+3∧w3.heap.size=w.heap.size+4∧Below w.heap.size w w3 ∧
  (∀w4,Below w3.heap.size w3 w4->(w4.cell? ⟨w.heap.size,0,none⟩=some (iv a.k)∧w4.cell? ⟨w.heap.size,1,none⟩=some (iv a.n)∧w4.cell? ⟨w.heap.size,2,none⟩=some (bz a.t)∧w4.cell? ⟨w.heap.size,3,none⟩=some sa) ∧
   (w4.cell? ⟨w.heap.size+1,0,none⟩=some (iv b.k)∧w4.cell? ⟨w.heap.size+1,1,none⟩=some (iv b.n)∧w4.cell? ⟨w.heap.size+1,2,none⟩=some (bz b.t)∧w4.cell? ⟨w.heap.size+1,3,none⟩=some sb) ∧
   (w4.cell? ⟨w.heap.size+2,0,none⟩=some (iv c.k)∧w4.cell? ⟨w.heap.size+2,1,none⟩=some (iv c.n)∧w4.cell? ⟨w.heap.size+2,2,none⟩=some (bz c.t)∧w4.cell? ⟨w.heap.size+2,3,none⟩=some sc)) ∧
  (∀w4,Below w3.heap.size w3 w4->w4.cell? ⟨w.heap.size+3,0,none⟩=some (iv 0)∧w4.cell? ⟨w.heap.size+3,1,none⟩=some (iv 0)∧w4.cell? ⟨w.heap.size+3,2,none⟩=some (.string ⟨#[]⟩)∧w4.cell? ⟨w.heap.size+3,3,none⟩=some sZ ∧
   w4.frozen? ⟨w.heap.size+3,0,none⟩=false∧w4.frozen? ⟨w.heap.size+3,1,none⟩=false∧w4.frozen? ⟨w.heap.size+3,2,none⟩=false∧w4.frozen? ⟨w.heap.size+3,3,none⟩=false∧w.heap.size+3<w4.heap.size):=by
 obtain⟨w0,w1,hW,hW1,hs0,hs1,hB,d0,d1,d2,d3,e0,e1,e2,e3⟩:=Dn w a sa b sb;obtain⟨w2,hW2,hb2,hsz2,q0,q1,q2,q3⟩:=Aw w1 c sc;obtain⟨w3,hW3,hb3,hsz3,hr⟩:=G5 w2;have hs2:w2.heap.size=w.heap.size+3:=by omega
 rw[hs2] at hr;rw[hs1] at q0 q1 q2 q3;have h2:∀w4,Below w3.heap.size w3 w4->∀b o,b<w2.heap.size->w4.cell? ⟨b,o,none⟩=w2.cell? ⟨b,o,none⟩:=fun w4 h b o hb=>((Ag h).1 b o (by omega)).trans ((Ag hb3).1 b o hb)
 have h1:∀w4,Below w3.heap.size w3 w4->∀b o,b<w1.heap.size->w4.cell? ⟨b,o,none⟩=w1.cell? ⟨b,o,none⟩:=fun w4 h b o hb=>(h2 w4 h b o (by omega)).trans ((Ag hb2).1 b o hb)
 refine⟨w0,w1,w2,w3,hW,hW1,hW2,hW3,hs0,hs1,hs2,by omega,hB.trans ((hb2.trans (hb3.mono hb2.size)).mono hB.size),fun w4 h=>?_,hr⟩;have c1:=h1 w4 h;have c2:=h2 w4 h;exact⟨⟨(c1 _ _ (by omega)).trans d0,(c1 _ _ (by omega)).trans d1,(c1 _ _ (by omega)).trans d2,(c1 _ _ (by omega)).trans d3⟩,⟨(c1 _ _ (by omega)).trans e0,(c1 _ _ (by omega)).trans e1,(c1 _ _ (by omega)).trans e2,(c1 _ _ (by omega)).trans e3⟩,⟨(c2 _ _ (by omega)).trans q0,(c2 _ _ (by omega)).trans q1,(c2 _ _ (by omega)).trans q2,(c2 _ _ (by omega)).trans q3⟩⟩
theorem Mi{B B':Nat->Prop}{v:V}{ao ax:Option Addr}{cap cx f t:Nat}{xs:List V}{w:World}(hv:IsW B w v (.slice ao v.l.length cap))(hx:Al B w xs (.slice ax xs.length cx))(hf:f<=v.l.length)(ht:t<=v.l.length)(hw:1+v.t.length+(wts v.l+wts xs+wts v.l)<=1000000){u:V}(hu:u=.mk v.k v.n v.t (spl v.l f t xs)) :
  Calls Tryz.prog 97 #[.agg #[iv v.k,iv v.n,bz v.t,.slice ao v.l.length cap],iv f,iv t,.slice ax xs.length cx] w fun r w'=>(∃ao' cap',r=.returned (.agg #[iv u.k,iv u.n,bz u.t,.slice ao' u.l.length cap'])∧Calls Tryz.prog 96 #[.agg #[iv u.k,iv u.n,bz u.t,.slice ao' u.l.length cap']] w' fun r w''=>Dz w' (wgV u) r w'')∧Below w.heap.size w w':=by
 have h1:=F4 v.l f t xs;have h2:=A4 (spl v.l f t xs);refine (E4 hv hx hf ht (by omega)).mono ?_;rintro e w' ⟨⟨x,y,rfl,h3⟩,h4⟩;subst hu;refine⟨⟨x,y,rfl,F6 (B:=Up B w.heap.size) ⟨hv.txt,hv.kr,hv.nr,h3⟩ (by rw[H4];omega)⟩,h4⟩
theorem Tq{B:Nat->Prop}{v k x:V}{ao ak ax:Option Addr}{cap ck cx:Nat}{w:World}(hv:IsW B w v (.slice ao v.l.length cap))(hk:IsW B w k (.slice ak k.l.length ck))(hx:IsW B w x (.slice ax x.l.length cx))(hwv:wt v<=200000)(hwk:wt k<=200000)(hwx:wt x<=200000)(ht:Et v) :
  Calls Tryz.prog 98 #[.agg #[iv v.k,iv v.n,bz v.t,.slice ao v.l.length cap],.agg #[iv k.k,iv k.n,bz k.t,.slice ak k.l.length ck],.agg #[iv x.k,iv x.n,bz x.t,.slice ax x.l.length cx]] w fun r w'=>Dz w (putV v k x) r w':=by
 obtain⟨ao',cap',e,c1,c2⟩:=hv.vs.slice;simp only[Value.slice.injEq] at e;obtain⟨rfl,-,rfl⟩:=e;have hwts:=Bw v;have hlv:=A4 v.l;obtain⟨w0,w1,w2,w3,hW,hW1,hW2,hW3,hs0,hs1,hs2,hs3,hB3,hc,hr⟩:=Ep w v (.slice ao v.l.length cap) k (.slice ak k.l.length ck) x (.slice ax x.l.length cx);obtain⟨⟨a0,a1,a2,a3⟩,⟨b0,b1,b2,b3⟩,⟨x0,x1,x2,x3⟩⟩:=hc w3 (Below.refl _ _);have hP:=J5 (hv.below hB3) (hk.below hB3) (by omega) ht;have hlt:(plV v k).2=0->(plV v k).1<v.l.length:=Kt ht;obtain⟨o,HO⟩:∃o,Hid (putV v k x=o):=⟨_,rfl⟩;rw[HO.out];have hput:Hid (o=if (plV v k).2=0 then wgV (.mk v.k v.n v.t (spl v.l (plV v k).1 ((plV v k).1+1) [x])) else if v.k≠5 then (V.zero,(plV v k).2) else if 64<=v.l.length / 2 then (V.zero,53) else wgV (.mk v.k v.n v.t (spl v.l (2*kat k v.l) (2*kat k v.l) [k,x]))):=HO.out.symm;clear HO;generalize (plV v k).1=i at *;generalize (plV v k).2=er at *;by_cases h0:er=0
 ·subst h0;have hi:i<v.l.length:=hlt rfl;obtain⟨u,HU⟩:∃u:V,Hid (u=.mk v.k v.n v.t (spl v.l i (i+1) [x])):=⟨_,rfl⟩;have hfin:Hid (o=wgV u):=by show _=_;rw[hput.out,if_pos rfl,HU.out]
  have hS:∀w4,Below w3.heap.size w3 w4->Calls Tryz.prog 97 #[.agg #[iv v.k,iv v.n,bz v.t,.slice ao v.l.length cap],iv i,iv (i+1:Nat),sL w4.heap.size 0 1 1] (w4.alloc (.cells #[iv x.k,iv x.n,bz x.t,.slice ax x.l.length cx] 31)) fun r w'=>(∃ao' cap',r=.returned (.agg #[iv u.k,iv u.n,bz u.t,.slice ao' u.l.length cap'])∧Calls Tryz.prog 96 #[.agg #[iv u.k,iv u.n,bz u.t,.slice ao' u.l.length cap']] w' fun r w''=>Dz w' (wgV u) r w'')∧Below w3.heap.size w3 w':=by
   intro w4 hb4;have hba:Below w4.heap.size w4 (w4.alloc (.cells #[iv x.k,iv x.n,bz x.t,.slice ax x.l.length cx] 31)):=(Below.refl _ _).alloc (Nat.le_refl _) _;have hb34:Below w3.heap.size w3 (w4.alloc (.cells #[iv x.k,iv x.n,bz x.t,.slice ax x.l.length cx] 31)):=hb4.trans (hba.mono hb4.size);have hbw:Below w.heap.size w (w4.alloc (.cells #[iv x.k,iv x.n,bz x.t,.slice ax x.l.length cx] 31)):=hB3.trans (hb34.mono hB3.size);have hone:Al (fun k=>B k∨k=w4.heap.size) (w4.alloc (.cells #[iv x.k,iv x.n,bz x.t,.slice ax x.l.length cx] 31)) [x] (sL w4.heap.size 0 1 1):=Ta (Ai w4 _) (hx.below hbw) (fun k h _=>Or.inl h) (Or.inr rfl);refine (Mi (B':=B) ((hv.below hbw).base (B':=fun k=>B k∨k=w4.heap.size) (fun k h _=>Or.inl h)) hone (by omega) (by omega) (by simp only[wts];omega) HU.out).mono ?_;rintro e w' ⟨h1,h2⟩;exact⟨h1,hb34.trans (h2.mono hb34.size)⟩
  clear hput hv hk hx HU;have hz1:IntKind.i64.wrap ((i:Int)+1)=((i+1:Nat):Int):=by rw[IntKind.wrap_i64];omega
  have hz2:(i:Int)+1=((i+1:Nat):Int):=by omega
  have hz3:IntKind.i64.wrap ((i+1:Nat):Int)=((i+1:Nat):Int):=by rw[IntKind.wrap_i64];omega
  generalize i+1=i1 at *;go_enter Tryz.func98,Tryz.ntmps98;go_wp2_with fail;refine hP.mono ?_;rintro e w4 ⟨rfl,hb4⟩;clear hP;obtain⟨⟨a0',a1',a2',a3'⟩,-,⟨x0',x1',x2',x3'⟩⟩:=hc w4 hb4;have hS4:=hS w4 hb4;clear hS hc a0 a1 a2 a3 b0 b1 b2 b3 x0 x1 x2 x3;go_wp2_with fail;refine hS4.mono ?_;rintro e w5 ⟨⟨a5,c5,rfl,hWg⟩,hb5⟩;clear hS4;rw[<-hfin.out] at hWg;go_wp2_with fail;refine hWg.mono ?_;rintro e w6 ⟨⟨a6,c6,rfl,h6,hz6⟩,hb6⟩;clear hWg;have hb36:Below w3.heap.size w3 w6:=hb5.trans (hb6.mono hb5.size);obtain⟨r0,r1,r2,r3,s0,s1,s2,s3,hz⟩:=hr w6 hb36;have hs5:=hb5.size;have hres:=Dz.stored h6 (hB3.trans (hb36.mono hB3.size)) (g:=w.heap.size+3) (by omega) (by omega) hz6;clear hr h6 hz6;go_wp2_with fail;exact bodyPost_ret (v:=.tuple #[.agg #[iv o.1.k,iv o.1.n,.string ⟨o.1.t.toArray⟩,.slice a6 o.1.l.length c6],iv o.2]) (by simp[results,Tryz.results98,go_sem,hz,r0,r1,r2,r3]) rfl hres
 ·have h0':(er == 0)=false:=by simp[h0]
  by_cases h5:v.k=5
  ·have hk5:(v.k != 5)=false:=by simp[h5]
   obtain⟨t1,t2⟩:=ht h5;have hPr:∀w4,Below w3.heap.size w3 w4->Calls Tryz.prog 128 #[.agg #[iv v.k,iv v.n,bz v.t,.slice ao v.l.length cap]] w4 fun r w'=>r=.returned (iv ((v.l.length / 2:Nat):Int))∧Below w4.heap.size w4 w':=fun w4 hb4=>K3 ((hv.below hB3).below hb4)
   by_cases h64:64<=v.l.length / 2
   ·have hfin:Hid (o=(V.zero,53)):=by show _=_;rw[hput.out,if_neg h0,if_neg (by simp[h5]),if_pos h64]
    have h64I:(64:Int)<=((v.l.length / 2:Nat):Int):=by omega
    clear hput hv hk hx hlt h5 h0;generalize hL:v.l.length / 2=m at *;go_enter Tryz.func98,Tryz.ntmps98;go_wp2_with fail;refine hP.mono ?_;rintro e w4 ⟨rfl,hb4⟩;clear hP;obtain⟨⟨a0',a1',a2',a3'⟩,-⟩:=hc w4 hb4;have hPr4:=hPr w4 hb4;clear hPr hc a0 a1 a2 a3 b0 b1 b2 b3 x0 x1 x2 x3;go_wp2_with fail;refine hPr4.mono ?_;rintro e w5 ⟨rfl,hb5⟩;clear hPr4;have hb35:Below w3.heap.size w3 w5:=hb4.trans (hb5.mono hb4.size);obtain⟨r0,r1,r2,r3,s0,s1,s2,s3,hz⟩:=hr w5 hb35;have hres:=C5 (e:=53) (Aj (hB3.trans (hb35.mono hB3.size)) (g:=w.heap.size+3) (by omega) (iv 0) (iv 0) (.string ⟨#[]⟩) sZ);rw[<-hfin.out] at hres;clear hr;go_wp2_with fail;exact bodyPost_ret (v:=.tuple #[.agg #[iv 0,iv 0,.string ⟨#[]⟩,sZ],iv 53]) (by simp[results,Tryz.results98,go_sem,hz,r0,r1,r2,r3]) rfl hres
   ·have h64I:¬(64:Int)<=((v.l.length / 2:Nat):Int):=by omega
    have hF:∀w4,Below w3.heap.size w3 w4->Calls Tryz.prog 99 #[.agg #[iv v.k,iv v.n,bz v.t,.slice ao v.l.length cap],.agg #[iv k.k,iv k.n,bz k.t,.slice ak k.l.length ck]] w4 fun r w'=>r=.returned (.tuple #[iv (2*kat k v.l:Nat),.bool (hit k v.l)])∧Below w4.heap.size w4 w':=fun w4 hb4=>Ga ((hv.below hB3).below hb4) ((hk.below hB3).below hb4) (by omega) t1 t2
    have hle:=Ez k v.l;obtain⟨q,hq⟩:∃q,2*kat k v.l=q:=⟨_,rfl⟩;rw[hq] at hle;simp only[hq] at hF;obtain⟨u,HU⟩:∃u:V,Hid (u=.mk v.k v.n v.t (spl v.l q q [k,x])):=⟨_,rfl⟩;have hfin:Hid (o=wgV u):=by show _=_;rw[hput.out,if_neg h0,if_neg (by simp[h5]),if_neg h64,HU.out,hq]
    have hS:∀w4,Below w3.heap.size w3 w4->Calls Tryz.prog 97 #[.agg #[iv v.k,iv v.n,bz v.t,.slice ao v.l.length cap],iv q,iv q,sL w4.heap.size 0 2 2] (w4.alloc (.cells #[iv k.k,iv k.n,bz k.t,.slice ak k.l.length ck,iv x.k,iv x.n,bz x.t,.slice ax x.l.length cx] 31)) fun r w'=>(∃ao' cap',r=.returned (.agg #[iv u.k,iv u.n,bz u.t,.slice ao' u.l.length cap'])∧Calls Tryz.prog 96 #[.agg #[iv u.k,iv u.n,bz u.t,.slice ao' u.l.length cap']] w' fun r w''=>Dz w' (wgV u) r w'')∧Below w3.heap.size w3 w':=by
     intro w4 hb4;obtain⟨wa,hWa⟩:∃wa,w4.alloc (.cells #[iv k.k,iv k.n,bz k.t,.slice ak k.l.length ck,iv x.k,iv x.n,bz x.t,.slice ax x.l.length cx] 31)=wa:=⟨_,rfl⟩;have hblk:=Ai w4 (.cells #[iv k.k,iv k.n,bz k.t,.slice ak k.l.length ck,iv x.k,iv x.n,bz x.t,.slice ax x.l.length cx] 31);rw[hWa] at hblk ⊢;have hba:Below w4.heap.size w4 wa:=by rw[<-hWa];exact (Below.refl _ _).alloc (Nat.le_refl _) _
     have hb34:Below w3.heap.size w3 wa:=hb4.trans (hba.mono hb4.size);have hbw:Below w.heap.size w wa:=hB3.trans (hb34.mono hB3.size);have htwo:Al (fun k=>B k∨k=w4.heap.size) wa [k,x] (sL w4.heap.size 0 2 2):=by
      refine⟨[iv k.k,iv k.n,bz k.t,.slice ak k.l.length ck,iv x.k,iv x.n,bz x.t,.slice ax x.l.length cx],⟨rfl,Or.inr ⟨w4.heap.size,0,2,rfl,Nat.le_refl _,by unfold maxLen;omega,Or.inr rfl,(Array.getElem?_eq_some_iff.1 hblk).1,fun j u hj=>?_⟩⟩,?_⟩
      ·rw[cell_block hblk,Nat.zero_add];simpa using hj
      ·exact An.append (l:=[k]) (row:=[iv k.k,iv k.n,bz k.t,.slice ak k.l.length ck]) (An.one (At.2 ⟨_,rfl,(hk.below hbw).base (fun k h _=>Or.inl h)⟩)) (An.one (At.2 ⟨_,rfl,(hx.below hbw).base (fun k h _=>Or.inl h)⟩))
     refine (Mi (B':=B) ((hv.below hbw).base (B':=fun k=>B k∨k=w4.heap.size) (fun k h _=>Or.inl h)) htwo (by omega) (by omega) (by simp only[wts];omega) HU.out).mono ?_;rintro e w' ⟨h1,h2⟩;exact⟨h1,hb34.trans (h2.mono hb34.size)⟩
    clear hput hv hk hx hlt h5 h0 HU hq;generalize hit k v.l=t at *;generalize hL:v.l.length / 2=m at *;go_enter Tryz.func98,Tryz.ntmps98;go_wp2_with fail;refine hP.mono ?_;rintro e w4 ⟨rfl,hb4⟩;clear hP;obtain⟨⟨a0',a1',a2',a3'⟩,-⟩:=hc w4 hb4;have hPr4:=hPr w4 hb4;clear hPr a0 a1 a2 a3 b0 b1 b2 b3 x0 x1 x2 x3;go_wp2_with fail;refine hPr4.mono ?_;rintro e w5 ⟨rfl,hb5⟩;clear hPr4 a0' a1' a2' a3';have hb35:Below w3.heap.size w3 w5:=hb4.trans (hb5.mono hb4.size);obtain⟨⟨a0',a1',a2',a3'⟩,⟨b0',b1',b2',b3'⟩,-⟩:=hc w5 hb35;have hF5:=hF w5 hb35;clear hF;go_wp2_with fail;refine hF5.mono ?_;rintro e w6 ⟨rfl,hb6⟩;clear hF5 a0' a1' a2' a3' b0' b1' b2' b3';have hb36:Below w3.heap.size w3 w6:=hb35.trans (hb6.mono hb35.size);obtain⟨⟨a0',a1',a2',a3'⟩,⟨b0',b1',b2',b3'⟩,⟨x0',x1',x2',x3'⟩⟩:=hc w6 hb36;have hS6:=hS w6 hb36;clear hS hc;go_wp2_with fail;refine hS6.mono ?_;rintro e w7 ⟨⟨a7,c7,rfl,hWg⟩,hb7⟩;clear hS6 a0' a1' a2' a3' b0' b1' b2' b3' x0' x1' x2' x3';rw[<-hfin.out] at hWg;go_wp2_with fail;refine hWg.mono ?_;rintro e w8 ⟨⟨a8,c8,rfl,h8,hz8⟩,hb8⟩;clear hWg;have hb38:Below w3.heap.size w3 w8:=hb7.trans (hb8.mono hb7.size);obtain⟨r0,r1,r2,r3,s0,s1,s2,s3,hz⟩:=hr w8 hb38;have hs7:=hb7.size;have hres:=Dz.stored h8 (hB3.trans (hb38.mono hB3.size)) (g:=w.heap.size+3) (by omega) (by omega) hz8;clear hr h8 hz8;go_wp2_with fail;exact bodyPost_ret (v:=.tuple #[.agg #[iv o.1.k,iv o.1.n,.string ⟨o.1.t.toArray⟩,.slice a8 o.1.l.length c8],iv o.2]) (by simp[results,Tryz.results98,go_sem,hz,r0,r1,r2,r3]) rfl hres
  ·have hk5:(v.k != 5)=true:=by simp[h5]
   have hfin:Hid (o=(V.zero,er)):=by show _=_;rw[hput.out,if_neg h0,if_pos h5]
   clear hput hv hk hx hlt;go_enter Tryz.func98,Tryz.ntmps98;go_wp2_with fail;refine hP.mono ?_;rintro e w4 ⟨rfl,hb4⟩;clear hP;obtain⟨⟨a0',a1',a2',a3'⟩,-⟩:=hc w4 hb4;clear hc a0 a1 a2 a3 b0 b1 b2 b3 x0 x1 x2 x3;obtain⟨r0,r1,r2,r3,s0,s1,s2,s3,hz⟩:=hr w4 hb4;have hres:=C5 (e:=er) (Aj (hB3.trans (hb4.mono hB3.size)) (g:=w.heap.size+3) (by omega) (iv 0) (iv 0) (.string ⟨#[]⟩) sZ);rw[<-hfin.out] at hres;clear hr h0;go_wp2_with fail;exact bodyPost_ret (v:=.tuple #[.agg #[iv 0,iv 0,.string ⟨#[]⟩,sZ],iv er]) (by simp[results,Tryz.results98,go_sem,hz,r0,r1,r2,r3]) rfl hres
theorem V6{B:Nat->Prop}{v k x:V}{ao ak ax:Option Addr}{cap ck cx:Nat}{w:World}(hv:IsW B w v (.slice ao v.l.length cap))(hk:IsW B w k (.slice ak k.l.length ck))(hx:IsW B w x (.slice ax x.l.length cx))(hwv:wt v<=200000)(hwk:wt k<=200000)(hwx:wt x<=200000)(ht:Et v) :
  Calls Tryz.prog 98 #[.agg #[iv v.k,iv v.n,bz v.t,.slice ao v.l.length cap],.agg #[iv k.k,iv k.n,bz k.t,.slice ak k.l.length ck],.agg #[iv x.k,iv x.n,bz x.t,.slice ax x.l.length cx]] w fun r w'=>Br w (putV v k x) r w':=(Tq hv hk hx hwv hwk hwx ht).mono fun e w' h=>h.out
end
section
open Go.RowKit
attribute [local go_sem ↓] Go.wp_at_zero Go.wp_at_succ
theorem Ut{B:Nat->Prop}{v:V}{ao:Option Addr}{cap:Nat}{w:World}(hv:IsW B w v (.slice ao v.l.length cap)) :
  Calls Tryz.prog 108 #[.agg #[iv v.k,iv v.n,bz v.t,.slice ao v.l.length cap]] w fun r w'=>r=.returned (.tuple #[iv ((Bp v).1:Nat),iv (Bp v).2])∧Below w.heap.size w w':=by
 obtain⟨w0,hW,hb0,hsz,d0,d1,d2,d3⟩:=Aw w v (.slice ao v.l.length cap);have htx:=hv.txt;obtain⟨ao',cap',e,c1,c2⟩:=hv.vs.slice;simp only[Value.slice.injEq] at e;obtain⟨rfl,-,rfl⟩:=e;clear hv;by_cases h3:v.k=3
 ·have hk3:(v.k == 3)=true:=by simp[h3]
  have hfin:Hid (Bp v=(v.t.length,0)):=by show _=_;unfold Bp;rw[if_pos h3]
  clear h3;go_enter Tryz.func108,Tryz.ntmps108;go_wp2
  go_ret2
  exact⟨by rw[hfin.out];exact Bv (by simp) rfl,hb0⟩
 ·have hk3:(v.k == 3)=false:=by simp[h3]
  by_cases h4:v.k=4
  ·have hk4:(v.k == 4)=true:=by simp[h4]
   have hfin:Hid (Bp v=(v.l.length,0)):=by show _=_;unfold Bp;rw[if_neg h3,if_pos h4]
   clear h4;go_enter Tryz.func108,Tryz.ntmps108;go_wp2
   go_ret2
   exact⟨by rw[hfin.out];exact Bv (by simp) rfl,hb0⟩
  ·have hk4:(v.k == 4)=false:=by simp[h4]
   by_cases h5:v.k=5
   ·have hk5:(v.k == 5)=true:=by simp[h5]
    have hfin:Hid (Bp v=(v.l.length / 2,0)):=by show _=_;unfold Bp;rw[if_neg h3,if_neg h4,if_pos h5]
    clear h5;go_enter Tryz.func108,Tryz.ntmps108;go_wp2
    go_ret2
    exact⟨by rw[hfin.out];exact Bv (by simp) rfl,hb0⟩
   ·have hk5:(v.k == 5)=false:=by simp[h5]
    have hfin:Hid (Bp v=(0,40)):=by show _=_;unfold Bp;rw[if_neg h3,if_neg h4,if_neg h5]
    go_enter Tryz.func108,Tryz.ntmps108;go_wp2
    go_ret2
    exact⟨by rw[hfin.out];exact Bv rfl rfl,hb0⟩
theorem Dt{B:Nat->Prop}{v:V}{ao:Option Addr}{cap:Nat}{w:World}(hv:IsW B w v (.slice ao v.l.length cap))(hw:wt v<=1000000) :
  Calls Tryz.prog 140 #[.agg #[iv v.k,iv v.n,bz v.t,.slice ao v.l.length cap]] w fun r w'=>(∃ao cap,r=.returned (.tuple #[.agg #[iv (wgV v).1.k,iv (wgV v).1.n,.string ⟨(wgV v).1.t.toArray⟩,.slice ao (wgV v).1.l.length cap],iv (wgV v).2])∧IsW (Lob B w.heap.size) w' (wgV v).1 (.slice ao (wgV v).1.l.length cap))∧Below w.heap.size w w':=by
 obtain⟨w0,hW,hb0,hsz,d0,d1,d2,d3⟩:=Aw w v (.slice ao v.l.length cap);obtain⟨w1,hW1,hb1,hsz1,hr⟩:=G5 w0;rw[hsz] at hr;have hs1:w1.heap.size=w.heap.size+2:=by omega
 have hB1:Below w.heap.size w w1:=hb0.trans (hb1.mono (by omega));obtain⟨f1,-⟩:=Ag hb1;rw[<-f1 w.heap.size _ (by omega)] at d0 d1 d2 d3;clear f1 hsz1;have hWt:=Ex _ v _ B w1 (Nat.lt_succ_self _) (by omega) (hv.below hB1);have hv':=hv.base (B':=Lob B w.heap.size) (fun k h1 h2=>⟨h1,h2⟩);clear hv;have hgb:w.heap.size<w1.heap.size:=by omega
 by_cases hle:wt v<=16384
 ·have hI:¬(16384:Int)<(wt v:Int):=by omega
  have hfin:Hid (wgV v=(v,0)):=by show _=_;unfold wgV;rw[if_pos hle]
  generalize wt v=n at *;go_enter Tryz.func140,Tryz.ntmps140;go_wp2_with fail;refine hWt.mono ?_;rintro e w2 ⟨rfl,hb2⟩;have e0:=((Ag hb2).1 _ 0 hgb).trans d0;have e1:=((Ag hb2).1 _ 1 hgb).trans d1;have e2:=((Ag hb2).1 _ 2 hgb).trans d2;have e3:=((Ag hb2).1 _ 3 hgb).trans d3;clear hWt hW hW1 d0 d1 d2 d3;have hB2:Below w.heap.size w w2:=hB1.trans (hb2.mono hB1.size);obtain⟨r0,r1,r2,r3,s0,s1,s2,s3,hz⟩:=hr w2 hb2;have hres:(∃ao cap,Ending.returned (.tuple #[.agg #[iv v.k,iv v.n,bz v.t,.slice ao v.l.length cap],iv 0])=.returned (.tuple #[.agg #[iv (wgV v).1.k,iv (wgV v).1.n,.string ⟨(wgV v).1.t.toArray⟩,.slice ao (wgV v).1.l.length cap],iv (wgV v).2])∧IsW (Lob B w.heap.size) (Cx w2 (w.heap.size+1) (iv v.k) (iv v.n) (bz v.t) (.slice ao v.l.length cap)) (wgV v).1 (.slice ao (wgV v).1.l.length cap))∧True:=by
   rw[hfin.out];exact⟨⟨ao,cap,rfl,(hv'.below hB2).since (Ba (by show ¬(B (w.heap.size+1)∧w.heap.size+1<w.heap.size);omega) _ _ _ _)⟩,trivial⟩
  have hres2:IsW (Lob B w.heap.size) (Cx w2 (w.heap.size+1) (iv v.k) (iv v.n) (bz v.t) (.slice ao v.l.length cap)) v (.slice ao v.l.length cap):=(hv'.below hB2).since (Ba (by show ¬(B (w.heap.size+1)∧w.heap.size+1<w.heap.size);omega) _ _ _ _);clear hr hv' hres;go_wp2_with fail;exact bodyPost_ret (v:=.tuple #[.agg #[iv v.k,iv v.n,bz v.t,.slice ao v.l.length cap],iv 0]) (by simp[results,Tryz.results140,go_sem,hz,r0,r1,r2,r3]) rfl (by rw[hfin.out];exact⟨⟨ao,cap,rfl,hres2⟩,Aj hB2 (by omega) _ _ _ _⟩)
 ·have hI:(16384:Int)<(wt v:Int):=by omega
  have hfin:Hid (wgV v=(V.zero,53)):=by show _=_;unfold wgV;rw[if_neg hle]
  generalize wt v=n at *;go_enter Tryz.func140,Tryz.ntmps140;go_wp2_with fail;refine hWt.mono ?_;rintro e w2 ⟨rfl,hb2⟩;obtain⟨r0,r1,r2,r3,s0,s1,s2,s3,hz⟩:=hr w2 hb2;have hB2:Below w.heap.size w w2:=hB1.trans (hb2.mono hB1.size);clear hr hWt hW hW1 hv';go_wp2_with fail;exact bodyPost_ret (v:=.tuple #[.agg #[iv 0,iv 0,.string ⟨#[]⟩,sZ],iv 53]) (by simp[results,Tryz.results140,go_sem,hz,r0,r1,r2,r3]) rfl (by rw[hfin.out];exact⟨⟨none,0,rfl,Cv⟩,Aj hB2 (by omega) _ _ _ _⟩)
def plI(k:V)(l:List V):Int:=if hit k l=true then (2*kat k l:Nat) else -1
theorem Er{B:Nat->Prop}{v k:V}{ao ak:Option Addr}{cap ck:Nat}{w:World}(hv:IsW B w v (.slice ao v.l.length cap))(hk:IsW B w k (.slice ak k.l.length ck))(hn:v.l.length<=1000000)(he:v.l.length % 2=0)(hr:Cy v.l) :
  Calls Tryz.prog 139 #[.agg #[iv v.k,iv v.n,bz v.t,.slice ao v.l.length cap],.agg #[iv k.k,iv k.n,bz k.t,.slice ak k.l.length ck]] w fun r w'=>r=.returned (iv (plI k v.l))∧Below w.heap.size w w':=by
 obtain⟨w0,w1,hW,hW1,hs0,hs1,hB,d0,d1,d2,d3,e0,e1,e2,e3⟩:=Dn w v (.slice ao v.l.length cap) k (.slice ak k.l.length ck);have hround:∀(q:Nat) (wr:World),q<v.l.length->Below w1.heap.size w1 wr ->
   ∃x g o ax cx,v.l[q]?=some x∧ao=some ⟨g,o,none⟩∧g<wr.heap.size ∧
    (wr.cell? ⟨g,o+q*4,none⟩=some (iv x.k)∧wr.cell? ⟨g,o+q*4+1,none⟩=some (iv x.n)∧wr.cell? ⟨g,o+q*4+2,none⟩=some (bz x.t)∧wr.cell? ⟨g,o+q*4+3,none⟩=some (.slice ax x.l.length cx)) ∧
    (∀w2,Below wr.heap.size wr w2->Calls Tryz.prog 15 #[.agg #[iv x.k,iv x.n,bz x.t,.slice ax x.l.length cx],.agg #[iv k.k,iv k.n,bz k.t,.slice ak k.l.length ck]] w2 fun r w'=>r=.returned (.bool (cmpV x k == 0))∧Below w2.heap.size w2 w'):=by
  intro q wr h1 hBr;have hx:v.l[q]?=some v.l[q]:=List.getElem?_eq_getElem h1;have hBw:Below w.heap.size w wr:=hB.trans (hBr.mono hB.size);obtain⟨g,o,ax,cx,e,_,hg,c0,c1,c2,c3,hw⟩:=(hv.vs.below hBw).get hx;exact⟨v.l[q],g,o,ax,cx,hx,e,hg,⟨c0,c1,c2,c3⟩,fun w2 hb2=>Dk (hw.below hb2) ((hk.below hBw).below hb2)⟩
 have hcl:∀wr,Below w1.heap.size w1 wr->wr.cell? ⟨w.heap.size,3,none⟩=some (.slice ao v.l.length cap)∧wr.cell? ⟨w.heap.size+1,0,none⟩=some (iv k.k)∧wr.cell? ⟨w.heap.size+1,1,none⟩=some (iv k.n)∧wr.cell? ⟨w.heap.size+1,2,none⟩=some (bz k.t)∧wr.cell? ⟨w.heap.size+1,3,none⟩=some (.slice ak k.l.length ck):=by
  intro wr hb;obtain⟨f1,-⟩:=Ag hb;exact⟨(f1 _ _ (by omega)).trans d3,(f1 _ _ (by omega)).trans e0,(f1 _ _ (by omega)).trans e1,(f1 _ _ (by omega)).trans e2,(f1 _ _ (by omega)).trans e3⟩
 clear hv hk d0 d1 d2 d3 e0 e1 e2 e3;go_enter Tryz.func139,Tryz.ntmps139;go_wp2_with fail
 go_loopg [5] v.l.length (fun g i wr=>∃q m:Nat,Hid (m=2*q)∧m<=v.l.length∧g=v.l.length - m∧i=iv m∧Hid (∀j,j<q->v.l[2*j]?≠some k)∧Below w1.heap.size w1 wr)
 case atStart=>exact⟨0,0,rfl,Nat.zero_le _,rfl,rfl,fun j h=>by omega,Below.refl _ _⟩
 case round=>
  obtain⟨q,m,Hm,hm,rfl,rfl,HN,hBr⟩:=hrel;have hBw:Below w.heap.size w wr:=hB.trans (hBr.mono hB.size);obtain⟨b3,k0,k1,k2,k3⟩:=hcl wr hBr;by_cases hlt:m+1<v.l.length
  ·obtain⟨x,g,o,ax,cx,hx,rfl,hg,⟨c0,c1,c2,c3⟩,hcall⟩:=hround m wr (by omega) hBr;have hltI:(m:Int)+1<(v.l.length:Int):=by omega
   have hltI2:(m:Int)<(v.l.length:Int):=by omega
   have hm0:(0:Int)<=(m:Int):=by omega
   have hx':Hid (v.l[m]?=some x):=hx;clear hround hcl hx;have hgb:w.heap.size<wr.heap.size:=by have:=hBr.size;omega
   have hgb':w.heap.size+1<wr.heap.size:=by have:=hBr.size;omega
   go_wp2_with fail
   go_region_held3 (fun w'=>w'.cell? ⟨w.heap.size,3,none⟩=some (sL g o v.l.length cap)∧w'.cell? ⟨w.heap.size+1,0,none⟩=some (iv k.k)∧w'.cell? ⟨w.heap.size+1,1,none⟩=some (iv k.n)∧w'.cell? ⟨w.heap.size+1,2,none⟩=some (bz k.t)∧w'.cell? ⟨w.heap.size+1,3,none⟩=some (.slice ak k.l.length ck)∧w'.cell? ⟨g,o+m*4,none⟩=some (iv x.k)∧w'.cell? ⟨g,o+m*4+1,none⟩=some (iv x.n)∧w'.cell? ⟨g,o+m*4+2,none⟩=some (bz x.t)∧w'.cell? ⟨g,o+m*4+3,none⟩=some (.slice ax x.l.length cx)) (go_keep)
    ((go_at_call 15;refine (hcall _ (Below.refl _ _).drew).mono ?_;rintro e w3 ⟨rfl,hb3⟩;replace hb3:=Ad hb3;obtain⟨f3,-⟩:=Ag hb3))
   clear hcall f3 c0 c1 c2 c3 b3 k0 k1 k2 k3;have hB3:Below w1.heap.size w1 w3:=hBr.trans (hb3.mono hBr.size);have hB4:Below w.heap.size w w3:=hB.trans (hB3.mono hB.size);by_cases hxk:x=k
   ·have hd:(cmpV x k == 0)=true:=by simp[hxk,Dj]
    have hfin:Hid (plI k v.l=(m:Int)):=by
     have h1:=S0 hr he (i:=q) (by rw[<-Hm.out,hx'.out,hxk]);show _=_;unfold plI;rw[if_pos h1.2,h1.1,Hm.out]
    rw[hd];clear hxk hd;go_wp2;go_ret;exact⟨ret_int hfin.out.symm,hB4⟩
   ·have hd:(cmpV x k == 0)=false:=by simp[Cl,hxk]
    have HN2:Hid (∀j,j<q+1->v.l[2*j]?≠some k):=by
     intro j hj e;by_cases h:j=q
     ·subst h;rw[<-Hm.out,hx'.out] at e;exact hxk (Option.some.inj e)
     ·exact HN.out j (by omega) e
    have Hm2:Hid (m+2=2*(q+1)):=by have:=Hm.out;show _=_;omega
    rw[hd];clear hd HN Hm;go_wp2_with fail;go_roundg (v.l.length - (m+2))
    case measure=>omega
    case rel=>exact⟨q+1,m+2,Hm2,by omega,rfl,by go_num,HN2,hB3⟩
  ·have hltI:¬(m:Int)+1<(v.l.length:Int):=by omega
   have hfin:Hid (plI k v.l=-1):=by
    show _=_;unfold plI;rw[W8 (fun i e=>?_)]
    ·rfl
    ·have h1:=(List.getElem?_eq_some_iff.1 e).1;exact HN.out i (by have:=Hm.out;omega) e
   clear hround hcl k0 k1 k2 k3;go_wp2;go_ret;exact⟨ret_int hfin.out.symm,hBw⟩
end
end Go.Proofs.YtnijcolomoobnaaGreatDoor
