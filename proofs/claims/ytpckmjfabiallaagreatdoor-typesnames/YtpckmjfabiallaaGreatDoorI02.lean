/- Texts of ours, joined. -/
import Derived.Test.YtpckmjfabiallaaGreatDoorI01
import Derived.Deep.AppendLies
set_option linter.unusedVariables false
set_option linter.unusedSimpArgs false
set_option maxRecDepth 100000
set_option maxHeartbeats 16000000
namespace Go.Proofs.YtpckmjfabiallaaGreatDoor
variable{T:TypeId}{a:Act}{b f g i mb p sz:Nat}{cs:List Value}{sl v y0 y1 y2 y3 y4 y5:Value}{w w':World}
open List
open Tryz
section
open Go.RowKit
open Ck (CE CS CF CP Mng)
attribute [local go_sem ↓] Go.wp_at_zero Go.wp_at_succ
theorem Yz{c:Ck.Cx}(h:CkAt w b mb c)(t:AQ)(p:Nat)(k o n s:Int)(y:ByteArray)(sl:Value) :
  AA 192 #[pt b 0,.agg #[iv k,iv o,iv n,strV t,iv s,.string y,sl,iv p]] w λ e w'=>Af w (Ck.name c t p) e w':=by
 obtain⟨w0,ah⟩:∃w0,w.alloc (.cells #[iv k,iv o,iv n,strV t,iv s,.string y,sl,iv p] 48)=w0:=⟨_,rfl⟩;have ab:Below w w w0:=by rw[<-ah];exact (AF _ _).alloc (AD _) _
 have b8:w0=w.heap.size+1:=by rw[<-ah];simp
 have b4:w0.heap[w.heap.size]?=some (.cells #[iv k,iv o,iv n,strV t,iv s,.string y,sl,iv p] 48 (0,0)):=by rw[<-ah];exact heap_new _ _
 obtain⟨w1,-,bc,-,-,-,bf,b0,-,bh⟩:=Ca w0 (iv 0) (iv 0) (iv 0) sE (iv 0) sE sZ (iv 0);have l0:w<w0.heap.size:=by omega
 have l1:w0<w1.heap.size:=by omega
 clear b8 bf;have ar:Below w w w1:=ab.trans (b0.mono (by omega));have hc:=h.keep ar;have hb:=h.lt;obtain⟨v0,ss,fs,ls,ae,-⟩:=hc.blk;have a6:=hc.env;have bi:=(b0.block _ (by omega)).trans b4;obtain⟨c0,c1,c2,c3,c4,c5,-⟩:=Bc ae;obtain⟨d0,d1,d2,d3,d4,d5,d6,d7,-⟩:=Ac bi;have av:=λ w' (he:A9 w' mb c.env)=>Fv he t
 have aw:Ck.name c t p=Ck.bind (Ck.need ((Ck.look c.env t).kind != 0 && (Ck.look c.env t).kind != 2) p 33) λ _=>.inl (.mk (if (Ck.look c.env t).kind=1 then 5 else 4) 0 0 [] (Ck.look c.env t).slot (Ck.look c.env t).type []):=rfl
 rw[aw];generalize Ck.look c.env t=m at *;obtain⟨mk,ms,mt⟩:=m;simp only at *;obtain⟨R,HR⟩:∃R,Hid ((Ck.bind (Ck.need (mk != 0 && mk != 2) p 33) λ _=>.inl (CE.mk (if mk=1 then 5 else 4) 0 0 [] ms mt []))=R):=⟨_,rfl⟩;rw[HR.out];clear aw hc ae h;go_enter func192,ntmps192;go_wp2_with fail;refine Vv.wpE_begin (S:=λ w'=>w'.cell? ⟨b,3,none⟩=some (.map (some mb))/\w'.cell? ⟨w,3,none⟩=strV t/\A9 w' mb c.env) (N:=λ _=>true) (by kernel_rfl) ?_;have aa:w1.drew.cell? ⟨b,3,none⟩=some (.map (some mb))/\w1.drew.cell? ⟨w,3,none⟩=strV t/\A9 w1.drew mb c.env:=⟨c3,d3,a6⟩;refine Aa 7 [] 0 (pt b 0) aa ?_;refine Aa 8 [] 1 (pt b 0) aa ?_;refine Aa 9 [] 2 (pt b 3) aa ?_;refine Aa 10 [] 3 (.map (some mb)) aa ?_;refine Aa 11 [] 4 (pt w 3) aa ?_;refine Aa 12 [] 5 (strV t) aa ?_;refine Aa 13 [] 6 (Hu ⟨mk,ms,mt⟩) aa ?_ (hy:=(λ w' hS=>by obtain⟨g0,g1,g2⟩:=hS;have hr:=av w' g2;go_simp));obtain⟨wz,w3,ba,al,a7,aq,au,af,a3,a5⟩:=U5 w1.drew (iv mk) (iv ms) (strV mt);refine Ah 7 λ K hK=>?_
 go_simp;refine hK _ _ (λ _=>⟨((bcell af).1 _ _ (show b<w1 by omega)).trans c3,((bcell af).1 _ _ (show w<w1.heap.size by omega)).trans d3,a6.since (af.block _ a6.lt)⟩) ?_;clear hK K
 try simp only[aP]
 replace a5:wz.heap[w1.heap.size]?=some (.cells #[iv 0,iv 0,sE] 125 (0,0)):=a5;replace a3:w3.heap[w1.heap.size]?=some (.cells #[iv mk,iv ms,strV mt] 125 (0,0)):=a3;replace al:((wz.setCell w1 (iv mk)).setCell ⟨w1,1,none⟩ (iv ms)).setCell ⟨w1,2,none⟩ (.string ⟨mt.toArray⟩)=w3:=al;have bk:w1<w3.heap.size:=by have e:w3=w1.heap.size+1:=aq;omega
 have b6:w1<wz.heap.size:=by have e:wz=w1.heap.size+1:=au;omega
 clear aq au;replace a7:Below w1 w1 w3:=⟨a7.os,a7.tape,a7.output,a7.size,a7.block⟩;obtain⟨z0,z1,z2,f0,f1,f2⟩:=Az a5;have k3:=((bcell a7).1 b 3 (by omega)).trans c3;have kd:=((bcell a7).1 w 3 (by omega)).trans d3;refine Ah 8 λ K hK=>?_
 go_simp;refine hK _ _ (λ _=>⟨k3,kd,a6.since (a7.block _ a6.lt)⟩) ?_;clear hK K
 try simp only[aP]
 refine Vv.wpE_done (by kernel_rfl) ?_;have k7:=((bcell a7).1 w 7 (by omega)).trans d7;obtain⟨n0,n1,n2,-⟩:=Az a3;have ax:Below w w w3:=ar.trans (a7.mono (by omega));have ak:=(a7.block _ (by omega)).trans bh;clear z0 z1 z2 f0 f1 f2 b6 ba al aa av c0 c1 c2 c3 c4 c5 d0 d1 d2 d3 d4 d5 d6 d7 a6 ah bc a5 af;simp only[Exit.inBlock,Exit.then];refine ‹∀(a:Act) (w:World),_->_› _ _ ?_;have ad:Hid ((mk != 0 && mk != 2)=(((mk:Int) != 0) && ((mk:Int) != 2))):=by
  show _=_;have e0:((mk:Int) != 0)=(mk != 0):=by rw[Bool.eq_iff_iff];simp
  have e2:((mk:Int) != 2)=(mk != 2):=by rw[Bool.eq_iff_iff];simp;omega
  rw[e0,e2]
 cases hq:(mk != 0 && mk != 2)
 .have a0:Hid (Af w R (.panicked (Ag p 33)) w3):=by rw[<-HR.out,hq];exact⟨rfl,ax⟩
  rw[hq] at ad;have hN:=Ap p 33 w3;have ab:((mk:Int) != 0)=false\/((mk:Int) != 0)=true:=by cases ((mk:Int) != 0) <;> simp
  rcases ab with ab | ab
  .go_wp2_with fail
   refine hN.mono ?_;rintro e w4 ⟨rfl,rfl⟩;exact⟨rfl,a0.out⟩
  .have b9:((mk:Int) != 2)=false:=by have:=ad.out;rw[ab] at this;simpa using this.symm
   go_wp2_with fail
   refine hN.mono ?_;rintro e w4 ⟨rfl,rfl⟩;exact⟨rfl,a0.out⟩
 .rw[hq] at ad;have ab:((mk:Int) != 0)=true:=by exact (Bool.and_eq_true_iff.1 ad.out.symm).1
  have b9:((mk:Int) != 2)=true:=by exact (Bool.and_eq_true_iff.1 ad.out.symm).2
  have hN:=Aw p 33 w3;have Hq:Hid ((mk != 0 && mk != 2)=true):=hq;clear ad hq;go_wp2_with fail;refine hN.mono ?_;rintro e w4 ⟨rfl,b3⟩;obtain rfl:=b3.symm;clear hN;obtain⟨wy,w5,bp,bl,am,b7,b5,bj,a4,a8⟩:=Ca w3 (iv 4) (iv 0) (iv 0) sE (iv ms) (strV mt) sZ (iv 0);obtain⟨z0,z1,z2,z3,z4,z5,z6,z7,f0,f1,f2,f3,f4,f5,f6,f7⟩:=Ac a8;have bn:w3<wy.heap.size:=by omega
  have bq:w3<w5.heap.size:=by omega
  clear b7 b5;have p0:=((bcell am).1 w1 0 (by omega)).trans n0;have az:Below w w w5:=ax.trans (am.mono (by omega));have ag:=(am.block _ (by omega)).trans ak;by_cases h1:mk=1
  .have bg:((mk:Int) == 1)=true:=by simp[h1]
   obtain⟨g0,g1,g2,g3,g4,g5,g6,g7,e0,e1,e2,e3,e4,e5,e6,e7⟩:=Ac a4;obtain⟨w6,ai⟩:∃w6,w5.setCell w3 (iv 5)=w6:=⟨_,rfl⟩;have a9:w6.heap[w3.heap.size]?=some (.cells #[iv 5,iv 0,iv 0,sE,iv ms,strV mt,sZ,iv 0] 48 (0,0)):=by
    rw[<-ai];simp[World.setCell,Array.getElem?_modify,a4]
   have bb:Below w w w6:=by rw[<-ai];exact az.setCell (p:=⟨w3,0,none⟩) (by show w<=w3.heap.size;omega) _
   have ay:w6.heap[w0.heap.size]?=some (.cells #[iv 0,iv 0,iv 0,sE,iv 0,sE,sZ,iv 0] 48 (0,0)):=by rw[<-ai,Below.heap_setCell _ _ _ _ (by show w0≠w3.heap.size;omega)];exact ag
   obtain⟨q0,q1,q2,q3,q4,q5,q6,q7,-⟩:=Ac a9;obtain⟨r0,r1,r2,r3,r4,r5,r6,r7,t0,t1,t2,t3,t4,t5,t6,t7⟩:=Ac ay;have bo:w3<w6.heap.size:=(AB a9).1;have aj:w0<w6.heap.size:=by omega
   have a0:Af w R (.returned (.agg #[iv 5,iv 0,iv 0,sE,iv ms,strV mt,sZ,iv 0])) (setc8 w6 w0 (iv 5) (iv 0) (iv 0) sE (iv ms) (strV mt) sZ (iv 0)):=by
    rw[<-HR.out,Hq.out,if_pos h1];exact⟨⟨_,_,rfl,SlRow.nil8,Ar.nil⟩,As bb (by omega) _ _ _ _ _ _ _ _⟩
   clear h1 a9 ay ag ak a4 a8 a3;go_wp2_with fail;exact bodyPost_ret (by simp[results,results192,go_sem,aj,r0,r1,r2,r3,r4,r5,r6,r7]) rfl a0
  .have bg:((mk:Int) == 1)=false:=by simp;omega
   obtain⟨q0,q1,q2,q3,q4,q5,q6,q7,-⟩:=Ac a4;obtain⟨r0,r1,r2,r3,r4,r5,r6,r7,t0,t1,t2,t3,t4,t5,t6,t7⟩:=Ac ag;have aj:w0<w5.heap.size:=by omega
   have a0:Af w R (.returned (.agg #[iv 4,iv 0,iv 0,sE,iv ms,strV mt,sZ,iv 0])) (setc8 w5 w0 (iv 4) (iv 0) (iv 0) sE (iv ms) (strV mt) sZ (iv 0)):=by
    rw[<-HR.out,Hq.out,if_neg h1];exact⟨⟨_,_,rfl,SlRow.nil8,Ar.nil⟩,As az (by omega) _ _ _ _ _ _ _ _⟩
   clear h1 ag ak a4 a8 a3;go_wp2_with fail;exact bodyPost_ret (by simp[results,results192,go_sem,aj,r0,r1,r2,r3,r4,r5,r6,r7]) rfl a0
abbrev exA(k o n:Nat)(t:AQ)(sl:Value)(p:Nat):Array Value:=#[iv k,iv o,iv n,strV t,iv 0,sE,sl,iv p]
structure CxOk(c:Ck.Cx):Prop where
 env:∀x∈c.env,x.2.type.length<=1000
 res:∀h∈c.heads,h.result.length<=1000
 pars:∀h∈c.heads,∀t∈h.params,t.length<=1000
 num:c.number<=c.heads.length
def EOk(x:Px.Ex):Prop:=∀(k o n:Nat) (t:AQ) (args:List Px.Ex) (p:Nat),x=.mk k o n t args p->∀(w:World) (b mb:Nat) (c:Ck.Cx) (B:AS) (sl:Value) (row:AR),CkAt w b mb c->CxOk c->SlRow B w 8 sl args.length row->Ai B w args row ->
  AA 168 #[pt b 0,.agg (exA k o n t sl p)] w λ e w'=>Af w (Ck.cE c x) e w'
theorem Af.inl{k o n s:Nat}{t y:AQ}{args:List CE}{e:Ending}(h:Af w (.inl (.mk k o n t s y args)) e w'):∃sl row,e=.returned (.agg #[iv k,iv o,iv n,strV t,iv s,strV y,sl,iv 0])/\SlRow (From w) w' 8 sl args.length row/\Ar (From w) w' args row/\Below w w w':=by
 obtain⟨⟨sl,row,h1,h2,h3⟩,h4⟩:=h;exact⟨sl,row,h1,h2,h3,h4⟩
theorem SlRow.val{B:AS}{n:Nat}{row:AR}(h:SlRow B w sz v n row):∃ao cap,v=.slice ao n cap/\n<=cap/\cap<=9223372036854775807:=by
 rcases h.2 with⟨rfl,rfl⟩ | ⟨g,o,cap,rfl,h1,h2,_⟩
 .exact⟨none,0,rfl,AD _,by omega⟩
 .exact⟨_,cap,rfl,h1,by unfold maxLen at h2;omega⟩
theorem Cq.val{B:AS}{n:Nat}{row:AR}(h:Cq B w sz v n row):∃ao cap,v=.slice ao n cap/\n<=cap/\cap<=9223372036854775807:=h.1.val
theorem A0(w:World)(x0 x1 x2 x3 x4 x5 x6 x7:Value):∃w0 w1,w.alloc (.cells #[x0,x1,x2,x3,x4,x5,x6,x7] 48)=w0/\w0.alloc (.cells #[iv 0,iv 0,iv 0,sE,iv 0,sE,sZ,iv 0] 48)=w1/\w.heap.size<w0.heap.size/\w0.heap.size<w1.heap.size/\Below w w w1/\w1.heap[w.heap.size]?=some (.cells #[x0,x1,x2,x3,x4,x5,x6,x7] 48 (0,0))/\w1.heap[w0.heap.size]?=some (.cells #[iv 0,iv 0,iv 0,sE,iv 0,sE,sZ,iv 0] 48 (0,0)):=by
 obtain⟨w0,a0⟩:∃w0,w.alloc (.cells #[x0,x1,x2,x3,x4,x5,x6,x7] 48)=w0:=⟨_,rfl⟩;have a6:Below w w w0:=by rw[<-a0];exact (AF _ _).alloc (AD _) _
 have a8:w0=w.heap.size+1:=by rw[<-a0];simp
 have a7:w0.heap[w.heap.size]?=some (.cells #[x0,x1,x2,x3,x4,x5,x6,x7] 48 (0,0)):=by rw[<-a0];exact heap_new _ _
 obtain⟨w1,-,a4,-,-,-,a9,a3,-,a5⟩:=Ca w0 x0 x1 x2 x3 x4 x5 x6 x7;exact⟨w0,w1,a0,a4,by omega,by omega,a6.trans (a3.mono (by omega)),(a3.block _ (by omega)).trans a7,a5⟩
theorem B5{x:Px.Ex}(hE:EOk x){k o n:Nat}{t:AQ}{args:List Px.Ex}(hx:x=.mk k o n t args p){c:Ck.Cx}{B:AS}{row:AR}(hc:CkAt w b mb c)(al:CxOk c)(hr:SlRow B w 8 sl args.length row)(ha:Ai B w args row)(ty:AQ) :
  AA 143 #[pt b 0,.agg (exA k o n t sl p),strV ty] w λ e w'=>Af w (Ck.asked (Ck.cE c x,p) ty) e w':=by
 obtain⟨w0,w1,aq,am,l0,l1,a5,av,au⟩:=A0 w (iv k) (iv o) (iv n) (strV t) (iv 0) sE sl (iv p);have hC:=hE k o n t args p hx w1 b mb c B sl row (hc.keep a5) al (hr.since (Since.of_below a5)) (ha.since (Since.of_below a5));obtain⟨ao,cap,rfl,-,-⟩:=hr.val;obtain⟨d0,d1,d2,d3,d4,d5,d6,d7,-⟩:=Ac av;obtain⟨R,HR⟩:∃R,Hid (Ck.asked (Ck.cE c x,p) ty=R):=⟨_,rfl⟩;rw[HR.out];obtain⟨C,HC⟩:∃C,Hid (Ck.cE c x=C):=⟨_,rfl⟩;rw[HC.out] at hC HR;clear hc hr ha hE hx HC;go_enter func143,ntmps143;go_wp2_with fail;refine hC.mono ?_;rintro e w2 hP;clear hC aq am;rcases C with⟨k2,o2,n2,t2,s2,y2,a3⟩ | ⟨a,er⟩
 .obtain⟨sl2,row2,rfl,a8,ab,a9⟩:=hP.inl;obtain⟨wz,w3,ay,az,aa,ag,ai,ax,a7,a6⟩:=Ca w2 (iv k2) (iv o2) (iv n2) (strV t2) (iv s2) (strV y2) sl2 (iv 0);obtain⟨a2,c2,rfl,-,-⟩:=a8.val;have aj:=a9.size;have lz:w2<wz.heap.size:=by omega
  have l3:w2<w3.heap.size:=by omega
  clear ag ai;obtain⟨z0,z1,z2,z3,z4,z5,z6,z7,f0,f1,f2,f3,f4,f5,f6,f7⟩:=Ac a6;obtain⟨q0,q1,q2,q3,q4,q5,q6,q7,-⟩:=Ac a7;have a4:Below w1 w1 w3:=a9.trans (aa.mono aj);have p7:=((bcell a4).1 w 7 (by omega)).trans d7;have ad:Below w w w3:=a5.trans (a4.mono (by omega));have ak:=(a4.block _ (by omega)).trans au;obtain⟨r0,r1,r2,r3,r4,r5,r6,r7,t0,t1,aw,t3,t4,t5,t6,t7⟩:=Ac ak;have ar:w0<w3.heap.size:=by omega
  cases hq:(y2 == ty)
  .have a0:Hid (Af w R (.panicked (Ag p 35)) w3):=by
    rw[<-HR.out];show Af w (Ck.bind (Ck.need (y2 == ty) p 35) λ _=>_) _ _;rw[hq];exact⟨rfl,ad⟩
   have hN:=Ap p 35 w3;clear hP a8 ab HR;go_wp2_with fail;refine hN.mono ?_;rintro e w4 ⟨rfl,rfl⟩;exact⟨rfl,a0.out⟩
  .have a0:Af w R (.returned (.agg #[iv k2,iv o2,iv n2,strV t2,iv s2,strV y2,.slice a2 a3.length c2,iv 0])) (setc8 w3 w0 (iv k2) (iv o2) (iv n2) (strV t2) (iv s2) (strV y2) (.slice a2 a3.length c2) (iv 0)):=by
    rw[<-HR.out];show Af w (Ck.bind (Ck.need (y2 == ty) p 35) λ _=>_) _ _;rw[hq];have ae:Since (From w1) w2 (setc8 w3 w0 (iv k2) (iv o2) (iv n2) (strV t2) (iv s2) (strV y2) (.slice a2 a3.length c2) (iv 0)):=⟨by rw[A4];exact aa.size,λ j h1 h2=>by rw[A3 (by have:w1.heap.size<=j:=h1;omega)];exact aa.block j h2⟩;have af:∀j,From w1 j->j<(setc8 w3 w0 (iv k2) (iv o2) (iv n2) (strV t2) (iv s2) (strV y2) (.slice a2 a3.length c2) (iv 0)).heap.size->From w j:=λ j hj _=>by show w.heap.size<=j;have:w1.heap.size<=j:=hj;omega
    exact⟨⟨_,_,rfl,(a8.since ae).base' af,(ab.since ae).base af⟩,As ad (by omega) _ _ _ _ _ _ _ _⟩
   have hN:=Aw p 35 w3;clear hP a8 ab HR;go_wp2_with fail;refine hN.mono ?_;rintro e w4 ⟨rfl,ah⟩;obtain rfl:=ah.symm;clear hN;go_wp2_with fail;exact bodyPost_ret (by simp[results,results143,go_sem,ar,r0,r1,r2,r3,r4,r5,r6,r7]) rfl a0
 .obtain⟨hm,a9⟩:=hP;obtain rfl:=hm;have a0:Af w R (.panicked (Ag a er)) w2:=by rw[<-HR.out];exact⟨rfl,a5.trans (a9.mono (by omega))⟩
  exact⟨rfl,a0⟩
theorem Bd{B:AS}{args:List Px.Ex}{row:AR}(hr:SlRow B w 8 sl args.length row)(ha:Ai B w args row){x:Px.Ex}(hi:args[0]?=x):∃(g og cap k o n:Nat) (t:AQ) (a2:List Px.Ex) (p:Nat) (sl2:Value) (row2:AR),sl=sL g og args.length cap/\args.length<=cap/\g<w/\x=.mk k o n t a2 p/\(w.cell? ⟨g,og,none⟩=iv k/\w.cell? ⟨g,og+1,none⟩=iv o/\w.cell? ⟨g,og+2,none⟩=iv n/\w.cell? ⟨g,og+3,none⟩=strV t/\w.cell? ⟨g,og+4,none⟩=iv 0/\w.cell? ⟨g,og+5,none⟩=sE/\w.cell? ⟨g,og+6,none⟩=sl2/\w.cell? ⟨g,og+7,none⟩=iv p)/\SlRow B w 8 sl2 a2.length row2/\Ai B w a2 row2:=by
 have a6:=(AK hi).1;obtain⟨cs,a4,a3⟩:=ha.get hi;obtain⟨k,o,n,t,a2,p⟩:=x;rw[IsEx] at a4;obtain⟨sl2,row2,rfl,h2,h3⟩:=a4;rcases hr.2 with⟨_,h0⟩ | ⟨g,og,cap,hv,a5,a7,hB,hg,a0⟩
 .omega
 .refine⟨g,og,cap,k,o,n,t,a2,p,sl2,row2,hv,a5,hg,rfl,⟨a0 0 _ (a3 0 (by omega)),a0 1 _ (a3 1 (by omega)),a0 2 _ (a3 2 (by omega)),a0 3 _ (a3 3 (by omega)),a0 4 _ (a3 4 (by omega)),a0 5 _ (a3 5 (by omega)),a0 6 _ (a3 6 (by omega)),a0 7 _ (a3 7 (by omega))⟩,h2,h3⟩
theorem Ek{B:AS}{args:List Px.Ex}{row:AR}(hr:SlRow B w 8 sl args.length row)(ha:Ai B w args row){x:Px.Ex}(hi:args[1]?=x):∃(g og cap k o n:Nat) (t:AQ) (a2:List Px.Ex) (p:Nat) (sl2:Value) (row2:AR),sl=sL g og args.length cap/\args.length<=cap/\g<w/\x=.mk k o n t a2 p/\(w.cell? ⟨g,og+8,none⟩=iv k/\w.cell? ⟨g,og+9,none⟩=iv o/\w.cell? ⟨g,og+10,none⟩=iv n/\w.cell? ⟨g,og+11,none⟩=strV t/\w.cell? ⟨g,og+12,none⟩=iv 0/\w.cell? ⟨g,og+13,none⟩=sE/\w.cell? ⟨g,og+14,none⟩=sl2/\w.cell? ⟨g,og+15,none⟩=iv p)/\SlRow B w 8 sl2 a2.length row2/\Ai B w a2 row2:=by
 have a6:=(AK hi).1;obtain⟨cs,a4,a3⟩:=ha.get hi;obtain⟨k,o,n,t,a2,p⟩:=x;rw[IsEx] at a4;obtain⟨sl2,row2,rfl,h2,h3⟩:=a4;rcases hr.2 with⟨_,h0⟩ | ⟨g,og,cap,hv,a5,a7,hB,hg,a0⟩
 .omega
 .refine⟨g,og,cap,k,o,n,t,a2,p,sl2,row2,hv,a5,hg,rfl,⟨a0 8 _ (a3 0 (by omega)),a0 9 _ (a3 1 (by omega)),a0 10 _ (a3 2 (by omega)),a0 11 _ (a3 3 (by omega)),a0 12 _ (a3 4 (by omega)),a0 13 _ (a3 5 (by omega)),a0 14 _ (a3 6 (by omega)),a0 15 _ (a3 7 (by omega))⟩,h2,h3⟩
theorem El{n:Nat}{x0 x1 x2 x3 x4 x5 x6 x7:Value}(hn:n<=w):SlRow (From n) (w.alloc (.cells #[x0,x1,x2,x3,x4,x5,x6,x7] 48)) 8 (sL w 0 1 1) 1 [x0,x1,x2,x3,x4,x5,x6,x7]:=by
 refine⟨rfl,AJ ⟨w,0,1,rfl,AD _,by unfold maxLen;omega,hn,by simp,λ j u hj=>?_⟩⟩;rw[Nat.zero_add];have hb:=heap_new w (.cells #[x0,x1,x2,x3,x4,x5,x6,x7] 48);have:(w.alloc (.cells #[x0,x1,x2,x3,x4,x5,x6,x7] 48)).cell? ⟨w,j,none⟩=(#[x0,x1,x2,x3,x4,x5,x6,x7]:Array Value)[j]?:=by simp only[World.cell?,hb];rfl
 rw[this,<-hj,List.getElem?_toArray]
theorem L9{n:Nat}{x0 x1 x2 x3 x4 x5 x6 x7 y6 y7:Value}(hn:n<=w):SlRow (From n) (w.alloc (.cells #[x0,x1,x2,x3,x4,x5,x6,x7,y0,y1,y2,y3,y4,y5,y6,y7] 48)) 8 (sL w 0 2 2) 2 [x0,x1,x2,x3,x4,x5,x6,x7,y0,y1,y2,y3,y4,y5,y6,y7]:=by
 refine⟨rfl,AJ ⟨w,0,2,rfl,AD _,by unfold maxLen;omega,hn,by simp,λ j u hj=>?_⟩⟩;rw[Nat.zero_add];have hb:=heap_new w (.cells #[x0,x1,x2,x3,x4,x5,x6,x7,y0,y1,y2,y3,y4,y5,y6,y7] 48);have:(w.alloc (.cells #[x0,x1,x2,x3,x4,x5,x6,x7,y0,y1,y2,y3,y4,y5,y6,y7] 48)).cell? ⟨w,j,none⟩=(#[x0,x1,x2,x3,x4,x5,x6,x7,y0,y1,y2,y3,y4,y5,y6,y7]:Array Value)[j]?:=by simp only[World.cell?,hb];rfl
 rw[this,<-hj,List.getElem?_toArray]
theorem C7{B:AS}{k o n s:Nat}{t y:AQ}{args:List CE}{row:AR}(h1:SlRow B w 8 sl args.length row)(h2:Ar B w args row):Ce B w (.mk k o n t s y args) [iv k,iv o,iv n,strV t,iv s,strV y,sl,iv 0]:=by
 rw[Ce];exact⟨sl,row,rfl,h1,h2⟩
theorem Ka{B:AS}{x:CE}(h:Ce B w x cs):Ar B w [x] cs:=by
 rw[Ar];exact⟨cs,[],by simp,h,Ar.nil⟩
theorem Ax5{B:AS}{x y:CE}{ds:AR}(h:Ce B w x cs)(h2:Ce B w y ds):Ar B w [x,y] (cs ++ ds):=by
 rw[Ar];exact⟨cs,ds,rfl,h,Ka h2⟩
theorem Sv{x y:Px.Ex}(hE:EOk x)(bo:EOk y){k o n:Nat}{t:AQ}{c:Ck.Cx}{B:AS}{row:AR}(hc:CkAt w b mb c)(bk:CxOk c)(hr:SlRow B w 8 sl 2 row)(ha:Ai B w [x,y] row) :
  AA 197 #[pt b 0,.agg (exA k o n t sl p)] w λ e w'=>Af w (Ck.binary k o p (Ck.cEs c [x,y])) e w':=by
 obtain⟨w0,w1,cf,cd,l0,l1,ag,co,cm⟩:=A0 w (iv k) (iv o) (iv n) (strV t) (iv 0) sE sl (iv p);have b4:=hr.since (Since.of_below ag);have ax:=ha.since (Since.of_below ag);have bi:=hc.keep ag;obtain⟨g,og,cap,ka,oa,na,ta,aa,pa,c9,b7,rfl,b0,hg,rfl,⟨u0,u1,u2,u3,u4,u5,u6,u7⟩,ay,bq⟩:=Bd (args:=[x,y]) b4 ax rfl;obtain⟨g',cr,c5,kb,ob,nb,tb,ab,pb,cj,b8,e,-,-,rfl,⟨v0,v1,v2,v3,v4,v5,v6,v7⟩,bf,bt⟩:=Ek (args:=[_,y]) b4 ax rfl;simp only[Value.slice.injEq,Option.some.injEq,Addr.mk.injEq,and_true] at e;obtain⟨⟨rfl,rfl⟩,-,rfl⟩:=e;simp only[length_cons,length_nil,Nat.zero_add] at b0;have hC:=hE ka oa na ta aa pa rfl w1 b mb c B c9 b7 bi bk ay bq;have bl:=λ w' (hb:Below w1 w1 w')=>bo kb ob nb tb ab pb rfl w' b mb c B cj b8 (bi.keep hb) bk (bf.since (Since.of_below hb)) (bt.since (Since.of_below hb))
 obtain⟨ct,c0,rfl,-,-⟩:=ay.val;obtain⟨cy,ch,rfl,-,-⟩:=bf.val;obtain⟨d0,d1,d2,d3,d4,d5,d6,d7,-⟩:=Ac co;obtain⟨R,HR⟩:∃R,Hid (Ck.binary k o p (Ck.cEs c [.mk ka oa na ta aa pa,.mk kb ob nb tb ab pb])=R):=⟨_,rfl⟩;rw[HR.out];have am:Hid (R=Ck.bind (Ck.cE c (.mk ka oa na ta aa pa)) λ x=>Ck.bind (Ck.cE c (.mk kb ob nb tb ab pb)) λ y=>Ck.bind (Ck.need ((Ck.operated o x.type).2 && x.type == y.type) p 35) λ _=>.inl (.mk k o 0 [] 0 (Ck.operated o x.type).1 [x,y])):=by
  show _=_;rw[<-HR.out];simp only[Ck.binary,Ck.cEs,Ck.arg,getD_cons_zero,getD_cons_succ]
 clear HR;generalize Ck.cE c (.mk ka oa na ta aa pa)=C at *;generalize Ck.cE c (.mk kb ob nb tb ab pb)=C2 at *;have cv:([Px.Ex.mk ka oa na ta aa pa,.mk kb ob nb tb ab pb]:List Px.Ex).length=2:=rfl;have i0:(0:Int)<2:=by omega
 clear hc hr ha hE bo b4 ax bi ay bq bf bt;simp only[length_cons,length_nil,Nat.zero_add] at *;go_enter func197,ntmps197;go_wp2_with fail;refine hC.mono ?_;rintro e w2 hP;clear hC cf cd;rcases C with⟨k2,o2,n2,t2,s2,y2,a6⟩ | ⟨a,er⟩
 rotate_left
 .obtain⟨hm,ar⟩:=hP;obtain rfl:=hm;have a0:Af w R (.panicked (Ag a er)) w2:=by rw[am.out];exact⟨rfl,ag.trans (ar.mono (by omega))⟩
  exact⟨rfl,a0⟩
 obtain⟨sl2,row2,rfl,al,bh,ar⟩:=hP.inl;obtain⟨wz,w3,b9,cl,ba,bw,b3,c1,ad,a8⟩:=Ca w2 (iv k2) (iv o2) (iv n2) (strV t2) (iv s2) (strV y2) sl2 (iv 0);obtain⟨a2,c2,rfl,-,-⟩:=al.val;have c3:=ar.size;have lz:w2<wz.heap.size:=by omega
 have l3:w2<w3.heap.size:=by omega
 clear bw b3;obtain⟨z0,z1,z2,z3,z4,z5,z6,z7,f0,f1,f2,f3,f4,f5,f6,f7⟩:=Ac a8;have a3:Below w1 w1 w3:=ar.trans (ba.mono c3);obtain⟨bc,-⟩:=bcell a3;have g1:g<w3:=by have:=a3.size;omega
 rw[<-bc w _ (by omega)] at d0 d1 d2 d3 d4 d5 d6 d7;rw[<-bc g _ hg] at v0 v1 v2 v3 v4 v5 v6 v7;have bu:=bl w3 a3;clear u0 u1 u2 u3 u4 u5 u6 u7 hP bl bc;go_wp2_with fail;refine bu.mono ?_;rintro e w4 hP;clear bu b9 cl z0 z1 z2 z3 z4 z5 z6 z7 f0 f1 f2 f3 f4 f5 f6 f7 v0 v1 v2 v3 v4 v5 v6 v7;rcases C2 with⟨k4,o4,n4,t4,s4,y4,a7⟩ | ⟨a,er⟩
 rotate_left
 .obtain⟨hm,aw⟩:=hP;obtain rfl:=hm;have a0:Af w R (.panicked (Ag a er)) w4:=by rw[am.out];exact⟨rfl,ag.trans ((a3.trans (aw.mono a3.size)).mono (by omega))⟩
  exact⟨rfl,a0⟩
 obtain⟨ca,ce,rfl,av,az,aw⟩:=hP.inl;obtain⟨wz,w5,b9,cg,bg,c6,b3,c1,ae,a8⟩:=Ca w4 (iv k4) (iv o4) (iv n4) (strV t4) (iv s4) (strV y4) ca (iv 0);obtain⟨a4,c4,rfl,-,-⟩:=av.val;have ci:=aw.size;have lz:w4<wz.heap.size:=by omega
 have l5:w4<w5.heap.size:=by omega
 clear c6 b3;obtain⟨z0,z1,z2,z3,z4,z5,z6,z7,f0,f1,f2,f3,f4,f5,f6,f7⟩:=Ac a8;have a5:Below w3 w3 w5:=aw.trans (bg.mono ci);obtain⟨bc,-⟩:=bcell a5;have ai:=a3.size;rw[<-bc w _ (by omega)] at d0 d1 d2 d3 d4 d5 d6 d7;have a9:=(a5.block _ (by omega)).trans ad;obtain⟨q0,q1,q2,q3,q4,q5,q6,q7,-⟩:=Ac a9;obtain⟨m0,m1,m2,m3,m4,m5,m6,m7,-⟩:=Ac ae;have au:Below w w w5:=ag.trans ((a3.trans (a5.mono ai)).mono (by omega));have bn:=((a3.trans (a5.mono ai)).block _ (by omega)).trans cm;have hO:=Ai3 o y2 w5;have cz:w2<w5.heap.size:=by omega
 generalize hop:Ck.operated o y2=op at *;obtain⟨aq,bb⟩:=op;have ak:Hid (R=Ck.bind (Ck.need (bb && y2 == y4) p 35) λ _=>.inl (.mk k o 0 [] 0 aq [.mk k2 o2 n2 t2 s2 y2 a6,.mk k4 o4 n4 t4 s4 y4 a7])):=by
  show _=_;rw[am.out];show Ck.bind (Ck.need ((Ck.operated o y2).2 && y2 == y4) p 35) (λ _=>Sum.inl (CE.mk k o 0 [] 0 (Ck.operated o y2).1 _))=_;rw[hop]
 clear hP am hop bc;go_wp2_with fail;refine hO.mono ?_;rintro e w6 ⟨rfl,bx⟩;obtain rfl:=bx.symm;clear hO b9 cg z0 z1 z2 z3 z4 z5 z6 z7 f0 f1 f2 f3 f4 f5 f6 f7;cases hq:(bb && y2 == y4)
 .have a0:Hid (Af w R (.panicked (Ag p 35)) w5):=by rw[ak.out,hq];exact⟨rfl,au⟩
  have hN:=Ap p 35 w5;clear ak al bh av az;cases bb
  .go_wp2_with fail
   refine hN.mono ?_;rintro e w7 ⟨rfl,rfl⟩;exact⟨rfl,a0.out⟩
  .have cc:(y2 == y4)=false:=by simpa using hq
   clear hq;go_wp2_with fail;refine hN.mono ?_;rintro e w7 ⟨rfl,rfl⟩;exact⟨rfl,a0.out⟩
 .obtain⟨rfl,cc⟩:=Bool.and_eq_true_iff.1 hq;have hN:=Aw p 35 w5;rw[hq] at ak;clear hq;go_wp2_with fail;refine hN.mono ?_;rintro e w7 ⟨rfl,cp⟩;obtain rfl:=cp.symm;clear hN;obtain⟨w8,br⟩:∃w8,w5.alloc (.cells #[iv k2,iv o2,iv n2,strV t2,iv s2,strV y2,.slice a2 a6.length c2,iv 0,iv k4,iv o4,iv n4,strV t4,iv s4,strV y4,.slice a4 a7.length c4,iv 0] 48)=w8:=⟨_,rfl⟩;have ah:Below w5 w5 w8:=by rw[<-br];exact (AF _ _).alloc (AD _) _
  have b5:=(ah.block _ (by omega)).trans bn;obtain⟨r0,r1,r2,r3,r4,r5,r6,r7,t0,t1,cq,t3,cw,t5,t6,t7⟩:=Ac b5;have c8:w0.heap.size<w8.heap.size:=(AB b5).1;have a0:Af w R (.returned (.agg #[iv k,iv o,iv 0,sE,iv 0,strV aq,sL w5 0 2 2,iv 0])) (setc8 w8 w0 (iv k) (iv o) (iv 0) sE (iv 0) (strV aq) (sL w5 0 2 2) (iv 0)):=by
   rw[ak.out];have b6:∀{n:Nat} {wx:World},w0<n->wx<=w8.heap.size->(∀j,n<=j->j<wx.heap.size->w8.heap[j]?=wx.heap[j]?)->Since (From n) wx (setc8 w8 w0 (iv k) (iv o) (iv 0) sE (iv 0) (strV aq) (sL w5 0 2 2) (iv 0)):=λ {n wx} hn h1 h2=>⟨by rw[A4];exact h1,λ j h3 h4=>by rw[A3 (by have:n<=j:=h3;omega)];exact h2 j h3 h4⟩
   have aj:∀{n:Nat} {wx:World},w<=n->∀j,From n j->j<wx.heap.size->From w j:=λ {n wx} hn j hj _=>AP hn hj
   have cu:=ah.size;have bp:Below w2 w2 w8:=ba.trans (a5.trans (ah.mono a5.size) |>.mono ba.size);have bs:Below w4 w4 w8:=bg.trans (ah.mono bg.size);have bj:=b6 (n:=w1.heap.size) (wx:=w2) (by omega) bp.size (λ j _ hj=>bp.block j hj);have bv:=b6 (n:=w3.heap.size) (wx:=w4) (by omega) bs.size (λ j _ hj=>bs.block j hj);refine⟨⟨_,_,rfl,?_,Ax5 (C7 ((al.since bj).base' (aj (by omega))) ((bh.since bj).base (aj (by omega)))) (C7 ((av.since bv).base' (aj (by omega))) ((az.since bv).base (aj (by omega))))⟩,As (au.trans (ah.mono (by have:=au.size;omega))) (by omega) _ _ _ _ _ _ _ _⟩;have c7:=b6 (n:=w5.heap.size) (wx:=w8) (by omega) (AD _) (λ j _ hj=>rfl);have af:SlRow (From w5) w8 8 (sL w5 0 2 2) 2 [iv k2,iv o2,iv n2,strV t2,iv s2,strV y2,.slice a2 a6.length c2,iv 0,iv k4,iv o4,iv n4,strV t4,iv s4,strV y4,.slice a4 a7.length c4,iv 0]:=by rw[<-br];exact L9 (AD _)
   exact (af.since c7).base' (aj (by have:=au.size;omega))
  clear ak al bh av az b5 bn a9 ad ae;go_wp2_with fail;exact bodyPost_ret (by simp[results,results197,go_sem,c8,r0,r1,r2,r3,r4,r5,r6,r7]) rfl a0
theorem On{x:Px.Ex}(hE:EOk x){k o n:Nat}{t:AQ}{c:Ck.Cx}{B:AS}{row:AR}(hc:CkAt w b mb c)(ay:CxOk c)(hr:SlRow B w 8 sl 1 row)(ha:Ai B w [x] row)(ty:AQ) :
  AA 196 #[pt b 0,.agg (exA k o n t sl p),strV ty] w λ e w'=>Af w (Ck.unary k ty (Ck.cEs c [x])) e w':=by
 obtain⟨w0,w1,b5,b4,l0,l1,a8,b7,b6⟩:=A0 w (iv k) (iv o) (iv n) (strV t) (iv 0) sE sl (iv p);have am:=hr.since (Since.of_below a8);have ak:=ha.since (Since.of_below a8);have av:=hc.keep a8;obtain⟨g,og,cap,ka,oa,na,ta,aa,pa,b9,b0,rfl,aw,hg,rfl,⟨u0,u1,u2,u3,u4,u5,u6,u7⟩,ad,ar⟩:=Bd (args:=[x]) am ak rfl;have hA:=λ w' (hb:Below w1 w1 w')=>B5 hE rfl (av.keep hb) ay (ad.since (Since.of_below hb)) (ar.since (Since.of_below hb)) ty
 obtain⟨ag,a6,rfl,-,-⟩:=ad.val;obtain⟨d0,d1,d2,d3,d4,d5,d6,d7,-⟩:=Ac b7;obtain⟨R,HR⟩:∃R,Hid (Ck.unary k ty (Ck.cEs c [.mk ka oa na ta aa pa])=R):=⟨_,rfl⟩;rw[HR.out];have ah:Hid (R=Ck.bind (Ck.asked (Ck.cE c (.mk ka oa na ta aa pa),pa) ty) λ x=>.inl (.mk k 0 0 [] 0 ty [x])):=by
  show _=_;rw[<-HR.out];simp only[Ck.unary,Ck.cEs,Ck.arg,getD_cons_zero]
 clear HR;generalize Ck.asked (Ck.cE c (.mk ka oa na ta aa pa),pa) ty=C at *;have ba:([Px.Ex.mk ka oa na ta aa pa]:List Px.Ex).length=1:=rfl;clear hc hr ha hE am ak av ad ar;simp only[length_cons,length_nil,Nat.zero_add] at *;go_enter func196,ntmps196;go_wp2_with fail;refine Vv.wpE_begin (S:=λ w'=>w'.cell? w=iv k/\w'.cell? ⟨w,6,none⟩=sL g og 1 cap/\w'.cell? ⟨g,og,none⟩=iv ka/\w'.cell? ⟨g,og+1,none⟩=iv oa/\w'.cell? ⟨g,og+2,none⟩=iv na/\w'.cell? ⟨g,og+3,none⟩=strV ta/\w'.cell? ⟨g,og+4,none⟩=iv 0/\w'.cell? ⟨g,og+5,none⟩=sE/\w'.cell? ⟨g,og+6,none⟩=some (.slice ag aa.length a6)/\w'.cell? ⟨g,og+7,none⟩=iv pa) (N:=λ j=>decide (j<12)) (by kernel_rfl) ?_;have hS:∀w',Below w1 w1 w'->(w'.cell? w=iv k/\w'.cell? ⟨w,6,none⟩=sL g og 1 cap/\w'.cell? ⟨g,og,none⟩=iv ka/\w'.cell? ⟨g,og+1,none⟩=iv oa/\w'.cell? ⟨g,og+2,none⟩=iv na/\w'.cell? ⟨g,og+3,none⟩=strV ta/\w'.cell? ⟨g,og+4,none⟩=iv 0/\w'.cell? ⟨g,og+5,none⟩=sE/\w'.cell? ⟨g,og+6,none⟩=some (.slice ag aa.length a6)/\w'.cell? ⟨g,og+7,none⟩=iv pa):=λ w' hb=>by
  obtain⟨bc,-⟩:=bcell hb;exact⟨(bc _ _ (by omega)).trans d0,(bc _ _ (by omega)).trans d6,(bc _ _ hg).trans u0,(bc _ _ hg).trans u1,(bc _ _ hg).trans u2,(bc _ _ hg).trans u3,(bc _ _ hg).trans u4,(bc _ _ hg).trans u5,(bc _ _ hg).trans u6,(bc _ _ hg).trans u7⟩
 have a3:=hS w1.drew (AF _ _).drew;refine Aa 7 [12] 0 (pt w 0) a3 ?_;refine Aa 8 [12] 1 (iv k) a3 ?_;refine Aa 9 [12] 2 (strV ty) a3 ?_;refine Aa 10 [12] 3 (pt b 0) a3 ?_;refine Aa 11 [12] 4 (pt w 6) a3 ?_;refine Aa 12 [12] 5 (sL g og 1 cap) a3 ?_;refine Aa 13 [12] 6 (pt g og) a3 ?_;refine Aa 14 [12] 7 (.agg (exA ka oa na ta (.slice ag aa.length a6) pa)) a3 ?_;refine Aa 15 [12] 8 (strV ty) a3 ?_;refine Ah 9 λ K hK=>?_
 go_simp;refine (hA _ (AF _ _).drew).mono ?_;rintro e w2 hP;replace hP:Af w1 C e w2:=hP.of (AF _ _).drew;clear hA b5 b4 d0 d1 d2 d3 d4 d5 d6 d7 u0 u1 u2 u3 u4 u5 u6 u7 a3;rcases C with⟨k2,o2,n2,t2,s2,y2,a5⟩ | ⟨a,er⟩
 rotate_left
 .obtain⟨hm,a9⟩:=hP;obtain rfl:=hm;have a0:Af w R (.panicked (Ag a er)) w2:=by rw[ah.out];exact⟨rfl,a8.trans (a9.mono (by omega))⟩
  exact⟨rfl,a0⟩
 obtain⟨sl2,row2,rfl,ab,au,a9⟩:=hP.inl;obtain⟨a2,c2,rfl,-,-⟩:=ab.val;have ax:=a9.size;refine hK _ _ (λ _=>hS w2 a9) ?_;clear hK K hP
 try simp only[aP]
 obtain⟨w8,aj⟩:∃w8,w2.alloc (.cells #[iv k2,iv o2,iv n2,strV t2,iv s2,strV y2,.slice a2 a5.length c2,iv 0] 48)=w8:=⟨_,rfl⟩;have ae:Below w2 w2 w8:=by rw[<-aj];exact (AF _ _).alloc (AD _) _
 have a4:Below w1 w1 w8:=a9.trans (ae.mono ax);refine Ah 10 λ K hK=>?_
 go_simp;refine hK _ _ (λ _=>hS w8 a4) ?_;clear hK K
 try simp only[aP]
 refine Ah 11 λ K hK=>?_
 go_simp;refine hK _ _ (λ _=>hS w8 a4) ?_;clear hK K
 try simp only[aP]
 have af:=(a4.block _ (by omega)).trans b6;obtain⟨r0,r1,r2,r3,r4,r5,r6,r7,t0,t1,b8,t3,bb,t5,t6,t7⟩:=Ac af;have b3:w0<w8.heap.size:=(AB af).1;have a0:Af w R (.returned (.agg #[iv k,iv 0,iv 0,sE,iv 0,strV ty,sL w2 0 1 1,iv 0])) (setc8 w8 w0 (iv k) (iv 0) (iv 0) sE (iv 0) (strV ty) (sL w2 0 1 1) (iv 0)):=by
  rw[ah.out];have aq:∀{n:Nat} {wx:World},w0<n->wx<=w8.heap.size->(∀j,n<=j->j<wx.heap.size->w8.heap[j]?=wx.heap[j]?)->Since (From n) wx (setc8 w8 w0 (iv k) (iv 0) (iv 0) sE (iv 0) (strV ty) (sL w2 0 1 1) (iv 0)):=λ {n wx} hn h1 h2=>⟨by rw[A4];exact h1,λ j h3 h4=>by rw[A3 (by have:n<=j:=h3;omega)];exact h2 j h3 h4⟩
  have ai:∀{n:Nat} {wx:World},w<=n->∀j,From n j->j<wx.heap.size->From w j:=λ {n wx} hn j hj _=>AP hn hj
  have al:=aq (n:=w1.heap.size) (wx:=w2) (by omega) ae.size (λ j _ hj=>ae.block j hj);refine⟨⟨_,_,rfl,?_,Ka (C7 ((ab.since al).base' (ai (by omega))) ((au.since al).base (ai (by omega))))⟩,As (a8.trans (a4.mono (by omega))) (by omega) _ _ _ _ _ _ _ _⟩;have az:=aq (n:=w2.heap.size) (wx:=w8) (by omega) (AD _) (λ j _ hj=>rfl);have a7:SlRow (From w2) w8 8 (sL w2 0 1 1) 1 [iv k2,iv o2,iv n2,strV t2,iv s2,strV y2,.slice a2 a5.length c2,iv 0]:=by rw[<-aj];exact El (AD _)
  exact (a7.since az).base' (ai (by omega))
 refine Ah 12 λ K hK=>?_
 go_simp;refine hK _ _ (λ h=>by cases h) ?_;clear hK K
 try simp only[aP]
 refine Vv.wpE_done (by kernel_rfl) ?_;clear ah ab au af hS aj;simp only[Exit.inBlock,Exit.then];refine ‹∀(a:Act) (w:World),_->_› _ _ ?_;go_wp2_with fail;exact bodyPost_ret (by simp[results,results196,go_sem,b3,r0,r1,r2,r3,r4,r5,r6,r7]) rfl a0
end
section
open Ck (CE CS CF CP Mng)
theorem Ao{α β:Type}{r:Ck.R α}{f:α->Ck.R β}{y:β}(h:Ck.bind r f=.inl y):∃x,r=.inl x/\f x=.inl y:=by
 rcases r with x | e
 .exact⟨x,rfl,h⟩
 .cases h
theorem W8(t:AQ):(Vv.elT t).1.length<=100:=by
 unfold Vv.elT;split
 .rename_i T h;have h2:=((Vv.tyOf_iff _ _).1 h).2;have h3:=(Vv.tyT_len T).2;simp only[Vv.Ty.dp] at h2;show (Vv.tyT T).length<=100;omega
 .simp
theorem W9(t:AQ):(Vv.mpT t).1.length<=100/\(Vv.mpT t).2.1.length<=100:=by
 unfold Vv.mpT;split
 .rename_i k T h;have h2:=((Vv.tyOf_iff _ _).1 h).2;have h3:=(Vv.tyT_len T).2;simp only[Vv.Ty.dp] at h2;refine⟨?_,?_⟩
  .show (Vv.keyT k).length<=100;rw[<-Vv.keyTy_T];have:=(Vv.tyT_len (Vv.keyTy k)).2;rw[Vv.keyTy_dp] at this;omega
  .show (Vv.tyT T).length<=100;omega
 .simp
theorem within_len(t:AQ):(Ck.within t).1.length<=100/\(Ck.within t).2.1.length<=100:=by
 unfold Ck.within;split
 .exact⟨by simp[Ck.tInt],W8 t⟩
 .exact W9 t
theorem Xa{k:Nat}{t:AQ}(ht:t.length<=1000):(Ck.sig k t).1.length<=1000/\(Ck.sig k t).2.1.length<=1000:=by
 have h1:=W8 t;have h2:=W9 t;unfold Ck.sig;split
 .simp[Ck.tInt]
 .split
  .simp[Ck.tBool];omega
  .split
   .exact⟨ht,by show (Vv.elT t).1.length<=1000;omega⟩
   .simp[Ck.tText]
theorem Ai4{o:Nat}{t:AQ}(ht:t.length<=1000):(Ck.operated o t).1.length<=1000:=by
 unfold Ck.operated;split
 .exact ht
 .split
  .simp[Ck.tBool]
  .split
   .simp[Ck.tBool]
   .split
    .exact ht
    .exact ht
theorem Ma:∀(env:Ck.Env) (x:AQ),(∀y∈env,y.2.type.length<=1000)->(Ck.look env x).type.length<=1000
 | [],x,h=>by simp[Ck.look,Ck.Mng.no]
 |(n,m) :: r,x,h=>by
  rw[Ck.look];split
  .exact h (n,m) (AC ..)
  .exact Ma r x (λ y hy=>h y (AH _ hy))
abbrev Ax6(qs:List Ck.Q):Prop:=∀q∈qs,∀e,q.1=.inl e->e.type.length<=1000
theorem Xb{qs:List Ck.Q}(h:Ax6 qs){e:CE}(he:(Ck.arg qs i).1=.inl e):e.type.length<=1000:=by
 unfold Ck.arg at he;rw[getD_eq_getElem?_getD] at he;rcases hq:qs[i]? with _ | q
 .rw[hq] at he;cases he
 .rw[hq] at he;exact h q (mem_of_getElem? hq) e he
theorem Ai5{c:Ck.Cx}(hc:CxOk c){k o n:Nat}{t:AQ}{qs:List Ck.Q}(hq:Ax6 qs){e:CE}(h:Ck.comb c k o n t p qs=.inl e):e.type.length<=1000:=by
 unfold Ck.comb at h;split at h
 .simp only[Sum.inl.injEq] at h;subst h;simp[CE.type,Ck.tInt]
 split at h
 .simp only[Sum.inl.injEq] at h;subst h;simp[CE.type,Ck.tBool]
 split at h
 .simp only[Sum.inl.injEq] at h;subst h;simp[CE.type,Ck.tText]
 split at h
 .unfold Ck.name at h;obtain⟨u,h1,h2⟩:=Ao h;simp only[Sum.inl.injEq] at h2;subst h2;exact Ma _ _ hc.env
 split at h
 .split at h
  .unfold Ck.call at h;obtain⟨u,h1,h⟩:=Ao h;obtain⟨u,h2,h⟩:=Ao h;obtain⟨u,h3,h⟩:=Ao h;obtain⟨xs,h4,h⟩:=Ao h;simp only[Sum.inl.injEq] at h;subst h;show (c.heads.getD _ _).result.length<=1000;rw[getD_eq_getElem?_getD];rcases hh:c.heads[(Ck.look c.env t).slot]? with _ | hd
   .simp
   .exact hc.res hd (mem_of_getElem? hh)
  .unfold Ck.builtin at h;obtain⟨u,h1,h⟩:=Ao h;obtain⟨x,h2,h⟩:=Ao h;obtain⟨u,h3,h⟩:=Ao h;have hx:=Xb hq h2;split at h
   .obtain⟨y,h4,h⟩:=Ao h;simp only[Sum.inl.injEq] at h;subst h;exact (Xa hx).1
   .simp only[Sum.inl.injEq] at h;subst h;exact (Xa hx).1
 split at h
 .unfold Ck.at_ at h;obtain⟨x,h2,h⟩:=Ao h;obtain⟨u,h3,h⟩:=Ao h;obtain⟨y,h4,h⟩:=Ao h;simp only[Sum.inl.injEq] at h;subst h;have:=(within_len x.type).2;show (Ck.within x.type).2.1.length<=1000;omega
 split at h
 .unfold Ck.unary at h;obtain⟨x,h2,h⟩:=Ao h;simp only[Sum.inl.injEq] at h;subst h;simp[CE.type,Ck.tInt]
 split at h
 .unfold Ck.unary at h;obtain⟨x,h2,h⟩:=Ao h;simp only[Sum.inl.injEq] at h;subst h;simp[CE.type,Ck.tBool]
 .unfold Ck.binary at h;obtain⟨x,h2,h⟩:=Ao h;obtain⟨y,h3,h⟩:=Ao h;obtain⟨u,h4,h⟩:=Ao h;simp only[Sum.inl.injEq] at h;subst h;exact Ai4 (Xb hq h2)
mutual
theorem Hw{c:Ck.Cx}(hc:CxOk c):∀(x:Px.Ex) (e:CE),Ck.cE c x=.inl e->e.type.length<=1000
 | .mk k o n t args p,e,h=>by
  rw[Ck.cE] at h;exact Ai5 hc (Xc hc args) h
theorem Xc{c:Ck.Cx}(hc:CxOk c):∀l:List Px.Ex,Ax6 (Ck.cEs c l)
 | []=>by intro q hq;rw[Ck.cEs] at hq;cases hq
 | .mk k o n t args p :: r=>by
  intro q hq e he;rw[Ck.cEs] at hq;rcases mem_cons.1 hq with rfl | hq
  .exact Hw hc (.mk k o n t args p) e he
  .exact Xc hc r q hq e he
end
end
section
open Go.RowKit
open Ck (CE CS CF CP Mng)
attribute [local go_sem ↓] Go.wp_at_zero Go.wp_at_succ
theorem Ax7{x y:Px.Ex}(hE:EOk x)(bo:EOk y){o n:Nat}{t:AQ}{c:Ck.Cx}{B:AS}{row:AR}(hc:CkAt w b mb c)(b4:CxOk c)(hr:SlRow B w 8 sl 2 row)(ha:Ai B w [x,y] row) :
  AA 195 #[pt b 0,.agg (exA 12 o n t sl p)] w λ e w'=>Af w (Ck.at_ p (Ck.cEs c [x,y])) e w':=by
 obtain⟨k,Hk⟩:∃k:Nat,Hid (12=k):=⟨_,rfl⟩;rw[Hk.out];obtain⟨w0,w1,cf,cd,l0,l1,ag,cj,ci⟩:=A0 w (iv k) (iv o) (iv n) (strV t) (iv 0) sE sl (iv p);have b3:=hr.since (Since.of_below ag);have ax:=ha.since (Since.of_below ag);have bk:=hc.keep ag;obtain⟨g,og,cap,ka,oa,na,ta,aa,pa,cc,ba,rfl,b0,hg,rfl,⟨u0,u1,u2,u3,u4,u5,u6,u7⟩,az,bq⟩:=Bd (args:=[x,y]) b3 ax rfl;obtain⟨g',cq,c0,kb,ob,nb,tb,ab,pb,cw,c8,e,-,-,rfl,⟨v0,v1,v2,v3,v4,v5,v6,v7⟩,bi,bs⟩:=Ek (args:=[_,y]) b3 ax rfl;simp only[Value.slice.injEq,Option.some.injEq,Addr.mk.injEq,and_true] at e;obtain⟨⟨rfl,rfl⟩,-,rfl⟩:=e;simp only[length_cons,length_nil,Nat.zero_add] at b0;have hC:=hE ka oa na ta aa pa rfl w1 b mb c B cc ba bk b4 az bq;have hA:=λ w' (hb:Below w1 w1 w') ty=>B5 bo rfl (bk.keep hb) b4 (bi.since (Since.of_below hb)) (bs.since (Since.of_below hb)) ty
 obtain⟨cr,bv,rfl,-,-⟩:=az.val;obtain⟨bg,ae,rfl,-,-⟩:=bi.val;obtain⟨d0,d1,d2,d3,d4,d5,d6,d7,-⟩:=Ac cj;have aj:=Hw b4 (.mk ka oa na ta aa pa);obtain⟨R,HR⟩:∃R,Hid (Ck.at_ p (Ck.cEs c [.mk ka oa na ta aa pa,.mk kb ob nb tb ab pb])=R):=⟨_,rfl⟩;rw[HR.out];have b9:Hid (R=Ck.bind (Ck.cE c (.mk ka oa na ta aa pa)) λ x=>Ck.bind (Ck.need (Ck.within x.type).2.2 p 35) λ _=>Ck.bind (Ck.asked (Ck.cE c (.mk kb ob nb tb ab pb),pb) (Ck.within x.type).1) λ y=>.inl (.mk k 0 0 [] 0 (Ck.within x.type).2.1 [x,y])):=by
  show _=_;rw[<-HR.out,<-Hk.out];simp only[Ck.at_,Ck.cEs,Ck.arg,getD_cons_zero,getD_cons_succ]
 clear HR Hk;generalize Ck.cE c (.mk ka oa na ta aa pa)=C at *;generalize Ck.cE c (.mk kb ob nb tb ab pb)=C2 at *;have cu:([Px.Ex.mk ka oa na ta aa pa,.mk kb ob nb tb ab pb]:List Px.Ex).length=2:=rfl;have i0:(0:Int)<2:=by omega
 clear hc hr ha hE bo b3 ax bk az bq bi bs;simp only[length_cons,length_nil,Nat.zero_add] at *;go_enter func195,ntmps195;go_wp2_with fail;refine hC.mono ?_;rintro e w2 hP;clear hC cf cd;rcases C with⟨k2,o2,n2,t2,s2,y2,a0⟩ | ⟨a,er⟩
 rotate_left
 .obtain⟨hm,aw⟩:=hP;obtain rfl:=hm;have a3:Af w R (.panicked (Ag a er)) w2:=by rw[b9.out];exact⟨rfl,ag.trans (aw.mono (by omega))⟩
  exact⟨rfl,a3⟩
 obtain⟨sl2,row2,rfl,au,bj,aw⟩:=hP.inl;have c3:y2.length<=1000:=aj _ rfl;obtain⟨wz,w3,ca,cg,bb,bu,bw,cp,aq,ak⟩:=Ca w2 (iv k2) (iv o2) (iv n2) (strV t2) (iv s2) (strV y2) sl2 (iv 0);obtain⟨a2,c2,rfl,-,-⟩:=au.val;have bx:=aw.size;have lz:w2<wz.heap.size:=by omega
 have l3:w2<w3.heap.size:=by omega
 clear bu bw;obtain⟨z0,z1,z2,z3,z4,z5,z6,z7,f0,f1,f2,f3,f4,f5,f6,f7⟩:=Ac ak;obtain⟨q0,q1,q2,q3,q4,q5,q6,q7,-⟩:=Ac aq;have af:Below w1 w1 w3:=aw.trans (bb.mono bx);have ay:=Hv y2 (by omega) w3;have a9:Hid (R=Ck.bind (Ck.need (Ck.within y2).2.2 p 35) λ _=>Ck.bind (Ck.asked (C2,pb) (Ck.within y2).1) λ y=>.inl (.mk k 0 0 [] 0 (Ck.within y2).2.1 [.mk k2 o2 n2 t2 s2 y2 a0,y])):=b9.out;generalize Ck.within y2=wi at *;obtain⟨av,am,ch⟩:=wi;simp only at a9 ay;clear u0 u1 u2 u3 u4 u5 u6 u7 hP b9 aj c3;go_wp2_with fail;refine ay.mono ?_;rintro e w4 ⟨rfl,ah⟩;clear ay ca cg z0 z1 z2 z3 z4 z5 z6 z7 f0 f1 f2 f3 f4 f5 f6 f7;have a5:Below w1 w1 w4:=af.trans (ah.mono af.size);have c7:=af.size;have cv:=ah.size;obtain⟨bc,-⟩:=bcell a5;have cm:=(bc w 7 (by omega)).trans d7;have b8:Below w w w4:=ag.trans (a5.mono (by omega));cases ch
 .have a3:Hid (Af w R (.panicked (Ag p 35)) w4):=by rw[a9.out];exact⟨rfl,b8⟩
  have hN:=Ap p 35 w4;clear a9 au bj;go_wp2_with fail;refine hN.mono ?_;rintro e w7 ⟨rfl,rfl⟩;exact⟨rfl,a3.out⟩
 have hN:=Aw p 35 w4;replace a9:Hid (R=Ck.bind (Ck.asked (C2,pb) av) λ y=>.inl (.mk k 0 0 [] 0 am [.mk k2 o2 n2 t2 s2 y2 a0,y])):=a9.out;go_wp2_with fail;refine hN.mono ?_;rintro e w7 ⟨rfl,cl⟩;obtain rfl:=cl.symm;clear hN;have hS:∀w',Below w4 w4 w'->(w'.cell? w=iv k/\w'.cell? ⟨w,6,none⟩=sL g og 2 cap/\w'.cell? w2=iv k2/\w'.cell? ⟨w2,1,none⟩=iv o2/\w'.cell? ⟨w2,2,none⟩=iv n2/\w'.cell? ⟨w2,3,none⟩=strV t2/\w'.cell? ⟨w2,4,none⟩=iv s2/\w'.cell? ⟨w2,5,none⟩=strV y2/\w'.cell? ⟨w2,6,none⟩=some (.slice a2 a0.length c2)/\w'.cell? ⟨w2,7,none⟩=iv 0/\w'.cell? ⟨g,og+8,none⟩=iv kb/\w'.cell? ⟨g,og+9,none⟩=iv ob/\w'.cell? ⟨g,og+10,none⟩=iv nb/\w'.cell? ⟨g,og+11,none⟩=strV tb/\w'.cell? ⟨g,og+12,none⟩=iv 0/\w'.cell? ⟨g,og+13,none⟩=sE/\w'.cell? ⟨g,og+14,none⟩=some (.slice bg ab.length ae)/\w'.cell? ⟨g,og+15,none⟩=iv pb):=λ w' hb=>by
  obtain⟨bd,-⟩:=bcell (a5.trans (hb.mono a5.size));obtain⟨be,-⟩:=bcell (ah.trans (hb.mono ah.size));exact⟨(bd _ _ (by omega)).trans d0,(bd _ _ (by omega)).trans d6,(be _ _ l3).trans q0,(be _ _ l3).trans q1,(be _ _ l3).trans q2,(be _ _ l3).trans q3,(be _ _ l3).trans q4,(be _ _ l3).trans q5,(be _ _ l3).trans q6,(be _ _ l3).trans q7,(bd _ _ hg).trans v0,(bd _ _ hg).trans v1,(bd _ _ hg).trans v2,(bd _ _ hg).trans v3,(bd _ _ hg).trans v4,(bd _ _ hg).trans v5,(bd _ _ hg).trans v6,(bd _ _ hg).trans v7⟩
 have br:=hA w4.drew a5.drew av;generalize Ck.asked (C2,pb) av=D at *;go_wp2_with fail;refine Vv.wpE_begin (S:=λ w'=>w'.cell? w=iv k/\w'.cell? ⟨w,6,none⟩=sL g og 2 cap/\w'.cell? w2=iv k2/\w'.cell? ⟨w2,1,none⟩=iv o2/\w'.cell? ⟨w2,2,none⟩=iv n2/\w'.cell? ⟨w2,3,none⟩=strV t2/\w'.cell? ⟨w2,4,none⟩=iv s2/\w'.cell? ⟨w2,5,none⟩=strV y2/\w'.cell? ⟨w2,6,none⟩=some (.slice a2 a0.length c2)/\w'.cell? ⟨w2,7,none⟩=iv 0/\w'.cell? ⟨g,og+8,none⟩=iv kb/\w'.cell? ⟨g,og+9,none⟩=iv ob/\w'.cell? ⟨g,og+10,none⟩=iv nb/\w'.cell? ⟨g,og+11,none⟩=strV tb/\w'.cell? ⟨g,og+12,none⟩=iv 0/\w'.cell? ⟨g,og+13,none⟩=sE/\w'.cell? ⟨g,og+14,none⟩=some (.slice bg ab.length ae)/\w'.cell? ⟨g,og+15,none⟩=iv pb) (N:=λ j=>decide (j<13)) (by kernel_rfl) ?_;have a6:=hS w4.drew (AF _ _).drew;refine Aa 26 [13] 0 (pt w 0) a6 ?_;refine Aa 27 [13] 1 (iv k) a6 ?_;refine Aa 28 [13] 2 (strV am) a6 ?_;refine Aa 29 [13] 3 (.agg #[iv k2,iv o2,iv n2,strV t2,iv s2,strV y2,.slice a2 a0.length c2,iv 0]) a6 ?_;refine Aa 30 [13] 4 (pt b 0) a6 ?_;refine Aa 31 [13] 5 (pt w 6) a6 ?_;refine Aa 32 [13] 6 (sL g og 2 cap) a6 ?_;refine Aa 33 [13] 7 (pt g (og+8)) a6 ?_;refine Aa 34 [13] 8 (.agg (exA kb ob nb tb (.slice bg ab.length ae) pb)) a6 ?_
 refine Aa 35 [13] 9 (strV av) a6 ?_;refine Ah 10 λ K hK=>?_
 go_simp;refine br.mono ?_;rintro e w5 hP;replace hP:Af w4 D e w5:=hP.of (AF _ _).drew;clear br hA d0 d1 d2 d3 d4 d5 d6 d7 cm v0 v1 v2 v3 v4 v5 v6 v7 q0 q1 q2 q3 q4 q5 q6 q7 bc a6;rcases D with⟨k4,o4,n4,t4,s4,y4,a8⟩ | ⟨a,er⟩
 rotate_left
 .obtain⟨hm,ar⟩:=hP;obtain rfl:=hm;have a3:Af w R (.panicked (Ag a er)) w5:=by rw[a9.out];exact⟨rfl,b8.trans (ar.mono b8.size)⟩
  exact⟨rfl,a3⟩
 obtain⟨ct,ce,rfl,bh,bn,ar⟩:=hP.inl;obtain⟨a4,c4,rfl,-,-⟩:=bh.val;have c1:=ar.size;refine hK _ _ (λ _=>hS w5 ar) ?_;clear hK K hP
 try simp only[aP]
 obtain⟨w8,bf⟩:∃w8,w5.alloc (.cells #[iv k2,iv o2,iv n2,strV t2,iv s2,strV y2,.slice a2 a0.length c2,iv 0,iv k4,iv o4,iv n4,strV t4,iv s4,strV y4,.slice a4 a8.length c4,iv 0] 48)=w8:=⟨_,rfl⟩;have b5:Below w5 w5 w8:=by rw[<-bf];exact (AF _ _).alloc (AD _) _
 have a7:Below w4 w4 w8:=ar.trans (b5.mono c1);refine Ah 11 λ K hK=>?_
 go_simp;refine hK _ _ (λ _=>hS w8 a7) ?_;clear hK K
 try simp only[aP]
 refine Ah 12 λ K hK=>?_
 go_simp;refine hK _ _ (λ _=>hS w8 a7) ?_;clear hK K
 try simp only[aP]
 have ai:Below w1 w1 w8:=a5.trans (a7.mono a5.size);have b6:=(ai.block _ (by omega)).trans ci;obtain⟨r0,r1,r2,r3,r4,r5,r6,r7,t0,t1,co,t3,cy,t5,t6,t7⟩:=Ac b6;have c9:w0<w8.heap.size:=(AB b6).1;have c6:=a5.size;have a3:Af w R (.returned (.agg #[iv k,iv 0,iv 0,sE,iv 0,strV am,sL w5 0 2 2,iv 0])) (setc8 w8 w0 (iv k) (iv 0) (iv 0) sE (iv 0) (strV am) (sL w5 0 2 2) (iv 0)):=by
  rw[a9.out];have b7:∀{n:Nat} {wx:World},w0<n->wx<=w8.heap.size->(∀j,n<=j->j<wx.heap.size->w8.heap[j]?=wx.heap[j]?)->Since (From n) wx (setc8 w8 w0 (iv k) (iv 0) (iv 0) sE (iv 0) (strV am) (sL w5 0 2 2) (iv 0)):=λ {n wx} hn h1 h2=>⟨by rw[A4];exact h1,λ j h3 h4=>by rw[A3 (by have:n<=j:=h3;omega)];exact h2 j h3 h4⟩
  have al:∀{n:Nat} {wx:World},w<=n->∀j,From n j->j<wx.heap.size->From w j:=λ {n wx} hn j hj _=>AP hn hj
  have bp:Below w2 w2 w8:=bb.trans ((ah.trans (a7.mono ah.size)).mono bb.size);have bl:=b7 (n:=w1.heap.size) (wx:=w2) (by omega) bp.size (λ j _ hj=>bp.block j hj);have bt:=b7 (n:=w4.heap.size) (wx:=w5) (by omega) b5.size (λ j _ hj=>b5.block j hj);refine⟨⟨_,_,rfl,?_,Ax5 (C7 ((au.since bl).base' (al (by omega))) ((bj.since bl).base (al (by omega)))) (C7 ((bh.since bt).base' (al (by omega))) ((bn.since bt).base (al (by omega))))⟩,As (ag.trans (ai.mono (by omega))) (by omega) _ _ _ _ _ _ _ _⟩;have c5:=b7 (n:=w5.heap.size) (wx:=w8) (by omega) (AD _) (λ j _ hj=>rfl);have ad:SlRow (From w5) w8 8 (sL w5 0 2 2) 2 [iv k2,iv o2,iv n2,strV t2,iv s2,strV y2,.slice a2 a0.length c2,iv 0,iv k4,iv o4,iv n4,strV t4,iv s4,strV y4,.slice a4 a8.length c4,iv 0]:=by rw[<-bf];exact L9 (AD _)
  exact (ad.since c5).base' (al (by omega))
 refine Ah 13 λ K hK=>?_
 go_simp;refine hK _ _ (λ h=>by cases h) ?_;clear hK K
 try simp only[aP]
 refine Vv.wpE_done (by kernel_rfl) ?_;clear a9 au bj bh bn b6 hS bf;simp only[Exit.inBlock,Exit.then];refine ‹∀(a:Act) (w:World),_->_› _ _ ?_;go_wp2_with fail;exact bodyPost_ret (by simp[results,results195,go_sem,c9,r0,r1,r2,r3,r4,r5,r6,r7]) rfl a3
end
section
open Go.RowKit
open Ck (CE CS CF CP Mng)
theorem Fd{z:Value}{size bytes:Nat}(h:(prog.info? T).map (λ i=>(i.zero,i.size,i.bytes))=some (some z,size,bytes)):∃i,prog.info? T=some i/\i.zero=z/\i.size=size/\i.bytes=bytes:=by
 rcases hi:prog.info? T with _ | i
 .rw[hi] at h;cases h
 .rw[hi] at h;simp only[Option.map_some,Option.some.injEq,Prod.mk.injEq] at h;exact⟨i,rfl,h.1,h.2.1,h.2.2⟩
theorem Yx:(prog.info? 48).map (λ i=>(i.zero,i.size,i.bytes))=some (some (.agg #[iv 0,iv 0,iv 0,sE,iv 0,sE,sZ,iv 0]),8,96):=by kernel_rfl
theorem Yy:(prog.info? 46).map (λ i=>(i.zero,i.size,i.bytes))=some (some (.agg #[iv 0,sE,iv 0,.bool false,iv 0,sZ,sZ,sZ,iv 0]),9,128):=by kernel_rfl
theorem Be{cs:Array Value}(h:w.heap[g]?=some (.cells cs T (0,0)))(j:Nat):w.cell? ⟨g,j,none⟩=cs[j]?:=by simp[World.cell?,h]
theorem SlRow.one{B:AS}{n:Nat}{row:AR}(h:SlRow B w sz v n row):v.oneCell'=true:=by
 rcases h.2 with⟨rfl,_⟩ | ⟨g,o,cap,rfl,_⟩ <;> rfl
theorem Ce.ones{B:AS}{e:CE}(h:Ce B w e cs):∀u∈cs,u.oneCell'=true:=by
 obtain⟨k,o,n,s,t,y,args,sl,row,_,rfl,h1,_⟩:=h.cells;have:=h1.one;intro u hu;simp only[mem_cons,not_mem_nil,or_false] at hu;rcases hu with rfl | rfl | rfl | rfl | rfl | rfl | rfl | rfl <;> first | rfl | exact this
theorem Ch.cells{B:AS}{e:CS}(h:Ch B w e cs):∃(k s n:Nat) (f:Bool) (es:List CE) (b c:List CS) (s1 s2 s3:Value) (r1 r2 r3:AR),e=.mk k s f n es b c/\cs=[iv k,sE,iv s,.bool f,iv n,s1,s2,s3,iv 0]/\SlRow B w 8 s1 es.length r1/\Ar B w es r1/\SlRow B w 9 s2 b.length r2/\Aq B w b r2/\SlRow B w 9 s3 c.length r3/\Aq B w c r3:=by
 obtain⟨k,s,f,n,es,b,c⟩:=e;rw[Ch] at h;obtain⟨s1,s2,s3,r1,r2,r3,h⟩:=h;exact⟨k,s,n,f,es,b,c,s1,s2,s3,r1,r2,r3,rfl,h⟩
theorem Ch.len{B:AS}{e:CS}(h:Ch B w e cs):cs.length=9:=by
 obtain⟨k,s,n,f,es,b,c,s1,s2,s3,r1,r2,r3,_,rfl,_⟩:=h.cells;rfl
theorem Ch.ones{B:AS}{e:CS}(h:Ch B w e cs):∀u∈cs,u.oneCell'=true:=by
 obtain⟨k,s,n,f,es,b,c,s1,s2,s3,r1,r2,r3,_,rfl,h1,_,h2,_,h3,_⟩:=h.cells;have:=h1.one;have:=h2.one;have:=h3.one;intro u hu;simp only[mem_cons,not_mem_nil,or_false] at hu;rcases hu with rfl | rfl | rfl | rfl | rfl | rfl | rfl | rfl | rfl <;> first | rfl | assumption
def Ge(P:AS)(w:World)(sl:Value)(acc:List CE):Prop:=∃row,w.ownsRow 0 48 8 sl acc.length row/\(∀k,sl.ownBlock=some k->P k)/\Ar (λ k=>P k/\sl.ownBlock≠some k) w acc row
theorem Ge.nil(P:AS)(w:World):Ge P w sZ []:=⟨[],⟨rfl,AI ⟨rfl,rfl⟩⟩,λ k h=>by simp[Value.ownBlock] at h,by rw[Ar]⟩
theorem Ge.since{P:AS}{acc:List CE}(h:Ge P w sl acc)(s:Since P w w'):Ge P w' sl acc:=by
 obtain⟨row,h1,h0,h2⟩:=h;refine⟨row,⟨h1.1,?_⟩,h0,h2.since ⟨s.size,λ k hk hl=>s.block k hk.1 hl⟩⟩;rcases h1.2 with h3 | ⟨g,cap,cur,h3,h4,h5,h6⟩
 .exact AI h3
 .exact AJ ⟨g,cap,cur,h3,h4,by rw[s.block g (h0 g (by rw[h3];rfl)) (Array.getElem?_eq_some_iff.1 h5).1];exact h5,h6⟩
theorem Ge.below{P:AS}{acc:List CE}(h:Ge P w sl acc)(hb:Below w w w'):Ge P w' sl acc:=h.since (Since.of_below hb)
theorem Ge.row{P:AS}{w:World}{sl:Value}{acc:List CE}(h:Ge P w sl acc):∃row,SlRow P w 8 sl acc.length row/\Ar P w acc row:=by
 obtain⟨row,h1,h0,h2⟩:=h;refine⟨row,⟨by have:=h1.1;omega,?_⟩,h2.base (λ k hk _=>hk.1)⟩;rcases h1.2 with⟨h3,h4⟩ | ⟨g,cap,cur,h3,h4,h5,h6,h7,h8,h9⟩
 .exact AI ⟨h3,h4⟩
 .refine AJ ⟨g,0,cap,h3,h6,h7,h0 g (by rw[h3];rfl),(AB h5).1,λ j u hj=>?_⟩;rw[Be h5,Nat.zero_add];rw[<-h9,List.getElem?_take] at hj;split at hj
  .simpa using hj
  .cases hj
theorem Ge.apart{P:AS}{acc:List CE}(h:Ge P w sl acc){k:Nat}(hk:w<=k):sl.ownBlock≠k:=by
 obtain⟨row,h1,_⟩:=h;intro e;have:=(h1.lt k e).2;omega
theorem Ge.base{P P':AS}{acc:List CE}(h:Ge P w sl acc)(hb:∀k,P k->k<w.heap.size->P' k):Ge P' w sl acc:=by
 obtain⟨row,h1,h0,h2⟩:=h;exact⟨row,h1,λ k hk=>hb k (h0 k hk) (h1.lt k hk).2,h2.base (λ k hk hl=>⟨hb k hk.1 hl,hk.2⟩)⟩
theorem Ge.push{P:AS}{acc:List CE}(h:Ge P w sl acc){x:CE}{ad:Addr}(a4:∀(j:Nat) (u:Value),cs[j]?=u->w.cell? (ad.add j)=u)(hx:Ce (λ k=>P k/\sl.ownBlock≠some k) w x cs)(hn:acc.length+1<=1000000)(hm:∀k,w.heap.size<=k->P k)(c:Nat)(ty:TypeId) :
  ∃g cap w',(Builtin.append_ #[44,44] ty #[sl,.slice (some ad) 1 c]).run prog w=.ok (sL g 0 (acc.length+1) cap) w'/\Ge P w' (sL g 0 (acc.length+1) cap) (acc ++ [x])/\(∀m,m<=w.heap.size->(∀k,P k->m<=k)->Below m w w')/\(∀k,k<w.heap.size->sl.ownBlock≠some k->w'.heap[k]?=w.heap[k]?)/\w.heap.size<=w'.heap.size/\(sl.ownBlock=some g\/w.heap.size<=g):=by
 obtain⟨row,a5,hP,a7⟩:=h;obtain⟨i,hi,hz,hs,hb⟩:=Fd Yx;obtain⟨g,cap,w',hr,ho,hg,a6,aa⟩:=run_append_lies (P:=prog) w 44 ty 0 48 i _ 8 96 underlying44 hi hz hs hb rfl (by decide) sl acc.length row a5 ad 1 c cs (by rw[hx.len]) a4 hx.ones (by omega) (by unfold maxLen;omega) (by omega) (AO _) _ rfl;have a8:∀k,P k/\sl.ownBlock≠some k->k<w.heap.size->k≠g:=by
  intro k hk hl he;subst he;rcases a6 with h | h
  .exact hk.2 h
  .omega
 have a3:∀k,(P k/\sl.ownBlock≠some k)->k<w.heap.size->P k/\(sL g 0 (acc.length+1) cap).ownBlock≠some k/\(P k/\sl.ownBlock≠some k):=λ k h1 h2=>⟨h1.1,λ e=>a8 k h1 h2 (by simpa [Value.ownBlock] using e.symm),h1⟩
 have a0:Since (λ k=>P k/\(sL g 0 (acc.length+1) cap).ownBlock≠some k/\(P k/\sl.ownBlock≠some k)) w w':=⟨hg.size,λ k h1 h2=>hg.block k h2 (λ e=>h1.2.2.2 e.symm)⟩;refine⟨g,cap,w',hr,⟨row ++ cs,by simpa using ho,?_,?_⟩,λ m hm1 hm2=>(AF _ _).grown hg hm1 (λ k hk=>hm2 k (hP k hk)),λ k h1 h2=>hg.block k h1 (λ e=>h2 e.symm),hg.size,?_⟩
 .intro k hk;have a9:g=k:=by simpa [Value.ownBlock] using hk
  rw[<-a9];rcases a6 with h | h
  .exact hP g h
  .exact hm g (by omega)
 .exact (((a7.base a3).since a0).snoc ((hx.base a3).since a0)).base (λ k h _=>⟨h.1,h.2.1⟩)
 .rcases a6 with h | h
  .exact AI h
  .exact AJ (by omega)
def Gs(P:AS)(w:World)(sl:Value)(acc:List CS):Prop:=∃row,w.ownsRow 0 46 9 sl acc.length row/\(∀k,sl.ownBlock=some k->P k)/\Aq (λ k=>P k/\sl.ownBlock≠some k) w acc row
theorem Gs.nil(P:AS)(w:World):Gs P w sZ []:=⟨[],⟨rfl,AI ⟨rfl,rfl⟩⟩,λ k h=>by simp[Value.ownBlock] at h,by rw[Aq]⟩
theorem Gs.since{P:AS}{acc:List CS}(h:Gs P w sl acc)(s:Since P w w'):Gs P w' sl acc:=by
 obtain⟨row,h1,h0,h2⟩:=h;refine⟨row,⟨h1.1,?_⟩,h0,h2.since ⟨s.size,λ k hk hl=>s.block k hk.1 hl⟩⟩;rcases h1.2 with h3 | ⟨g,cap,cur,h3,h4,h5,h6⟩
 .exact AI h3
 .exact AJ ⟨g,cap,cur,h3,h4,by rw[s.block g (h0 g (by rw[h3];rfl)) (Array.getElem?_eq_some_iff.1 h5).1];exact h5,h6⟩
theorem Gs.below{P:AS}{acc:List CS}(h:Gs P w sl acc)(hb:Below w w w'):Gs P w' sl acc:=h.since (Since.of_below hb)
theorem Gs.row{P:AS}{w:World}{sl:Value}{acc:List CS}(h:Gs P w sl acc):∃row,SlRow P w 9 sl acc.length row/\Aq P w acc row:=by
 obtain⟨row,h1,h0,h2⟩:=h;refine⟨row,⟨by have:=h1.1;omega,?_⟩,h2.base (λ k hk _=>hk.1)⟩;rcases h1.2 with⟨h3,h4⟩ | ⟨g,cap,cur,h3,h4,h5,h6,h7,h8,h9⟩
 .exact AI ⟨h3,h4⟩
 .refine AJ ⟨g,0,cap,h3,h6,h7,h0 g (by rw[h3];rfl),(AB h5).1,λ j u hj=>?_⟩;rw[Be h5,Nat.zero_add];rw[<-h9,List.getElem?_take] at hj;split at hj
  .simpa using hj
  .cases hj
theorem Gs.apart{P:AS}{acc:List CS}(h:Gs P w sl acc){k:Nat}(hk:w<=k):sl.ownBlock≠k:=by
 obtain⟨row,h1,_⟩:=h;intro e;have:=(h1.lt k e).2;omega
theorem Gs.base{P P':AS}{acc:List CS}(h:Gs P w sl acc)(hb:∀k,P k->k<w.heap.size->P' k):Gs P' w sl acc:=by
 obtain⟨row,h1,h0,h2⟩:=h;exact⟨row,h1,λ k hk=>hb k (h0 k hk) (h1.lt k hk).2,h2.base (λ k hk hl=>⟨hb k hk.1 hl,hk.2⟩)⟩
theorem Gs.push{P:AS}{acc:List CS}(h:Gs P w sl acc){x:CS}{ad:Addr}(a4:∀(j:Nat) (u:Value),cs[j]?=u->w.cell? (ad.add j)=u)(hx:Ch (λ k=>P k/\sl.ownBlock≠some k) w x cs)(hn:acc.length+1<=1000000)(hm:∀k,w.heap.size<=k->P k)(c:Nat)(ty:TypeId) :
  ∃g cap w',(Builtin.append_ #[34,34] ty #[sl,.slice (some ad) 1 c]).run prog w=.ok (sL g 0 (acc.length+1) cap) w'/\Gs P w' (sL g 0 (acc.length+1) cap) (acc ++ [x])/\(∀m,m<=w.heap.size->(∀k,P k->m<=k)->Below m w w')/\(∀k,k<w.heap.size->sl.ownBlock≠some k->w'.heap[k]?=w.heap[k]?)/\w.heap.size<=w'.heap.size/\(sl.ownBlock=some g\/w.heap.size<=g):=by
 obtain⟨row,a5,hP,a7⟩:=h;obtain⟨i,hi,hz,hs,hb⟩:=Fd Yy;obtain⟨g,cap,w',hr,ho,hg,a6,aa⟩:=run_append_lies (P:=prog) w 34 ty 0 46 i _ 9 128 underlying34 hi hz hs hb rfl (by decide) sl acc.length row a5 ad 1 c cs (by rw[hx.len]) a4 hx.ones (by omega) (by unfold maxLen;omega) (by omega) (AO _) _ rfl;have a8:∀k,P k/\sl.ownBlock≠some k->k<w.heap.size->k≠g:=by
  intro k hk hl he;subst he;rcases a6 with h | h
  .exact hk.2 h
  .omega
 have a3:∀k,(P k/\sl.ownBlock≠some k)->k<w.heap.size->P k/\(sL g 0 (acc.length+1) cap).ownBlock≠some k/\(P k/\sl.ownBlock≠some k):=λ k h1 h2=>⟨h1.1,λ e=>a8 k h1 h2 (by simpa [Value.ownBlock] using e.symm),h1⟩
 have a0:Since (λ k=>P k/\(sL g 0 (acc.length+1) cap).ownBlock≠some k/\(P k/\sl.ownBlock≠some k)) w w':=⟨hg.size,λ k h1 h2=>hg.block k h2 (λ e=>h1.2.2.2 e.symm)⟩;refine⟨g,cap,w',hr,⟨row ++ cs,by simpa using ho,?_,?_⟩,λ m hm1 hm2=>(AF _ _).grown hg hm1 (λ k hk=>hm2 k (hP k hk)),λ k h1 h2=>hg.block k h1 (λ e=>h2 e.symm),hg.size,?_⟩
 .intro k hk;have a9:g=k:=by simpa [Value.ownBlock] using hk
  rw[<-a9];rcases a6 with h | h
  .exact hP g h
  .exact hm g (by omega)
 .exact (((a7.base a3).since a0).snoc ((hx.base a3).since a0)).base (λ k h _=>⟨h.1,h.2.1⟩)
 .rcases a6 with h | h
  .exact AI h
  .exact AJ (by omega)
theorem Cl{P:Program}{o:Oper}{K:Act->World->Prop}{Q:Exit->Act->World->Prop}(s x:Operand)(t:TypeId)(ho:o.op=.call { callee:=.builtin .append,args:=#[s,x],argTypes:=#[t,t] })(v xv:Value)(hs:a.eval s=v)(hx:a.eval x=xv)(v':Value)(ww:World)(hr:(Builtin.append_ #[t,t] o.type #[v,xv]).run P w=.ok v' ww)(h:K (a.put o.dst v') ww):o.wp P a w K Q:=by
 unfold Oper.wp execOp;simp only[ho,resolve,invoke,builtin,Sem.run_bind,Sem.run_pure,Result.andThen_ok,map_toArray,map_cons,map_nil,hs,hx,hr];exact h
end
section
open Go.RowKit
open Ck (CE CS CF CP Mng)
attribute [local go_sem ↓] Go.wp_at_zero Go.wp_at_succ
theorem Sw{k o n:Nat}{t:AQ}(ht:Ck.bkind t=8){mb:Nat}{c:Ck.Cx}{B:AS}{args:List Px.Ex}{row:AR}(hr:SlRow B w 8 sl args.length row)(hl:args.length≠1) :
  AA 193 #[pt b 0,.agg (exA k o n t sl p)] w λ e w'=>Af w (Ck.builtin t p (Ck.cEs c args)) e w':=by
 obtain⟨w0,w1,a8,a7,l0,l1,a4,a5,a9⟩:=A0 w (iv k) (iv o) (iv n) (strV t) (iv 0) sE sl (iv p);obtain⟨ao,cap,rfl,ab,aa⟩:=hr.val;obtain⟨d0,d1,d2,d3,d4,d5,d6,d7,-⟩:=Ac a5;have hk:=Cs t w1;rw[ht] at hk;have hR:Ck.builtin t p (Ck.cEs c args)=.inr (p,35):=by
  unfold Ck.builtin;simp only[ht,Ck.cEs_length,Ck.pair];have:(args.length == 1)=false:=by simpa using hl
  simp[this,Ck.need,Ck.bind]
 rw[hR];have a0:Hid (Af w (.inr (p,35)) (.panicked (Ag p 35)) w1):=⟨rfl,a4⟩;have hq:((args.length:Int) == 1)=false:=by rw[beq_eq_false_iff_ne];omega
 have hN:=Ap p 35 w1;generalize args.length=L at *;clear hr hR ht;by_cases h2:L=2
 .have a6:((L:Int) == 2)=true:=by simp[h2]
  clear h2;go_enter func193,ntmps193;go_wp2_with fail;refine hk.mono ?_;rintro e w2 ⟨rfl,a3⟩;obtain rfl:=a3.symm;clear hk;go_wp2_with fail;refine hN.mono ?_;rintro e w3 ⟨rfl,rfl⟩;exact⟨rfl,a0.out⟩
 .have a6:((L:Int) == 2)=false:=by rw[beq_eq_false_iff_ne];omega
  clear h2;go_enter func193,ntmps193;go_wp2_with fail;refine hk.mono ?_;rintro e w2 ⟨rfl,a3⟩;obtain rfl:=a3.symm;clear hk;go_wp2_with fail;refine hN.mono ?_;rintro e w3 ⟨rfl,rfl⟩;exact⟨rfl,a0.out⟩
theorem Sx{k o n:Nat}{t:AQ}(ht:Ck.bkind t=9){mb:Nat}{c:Ck.Cx}{B:AS}{args:List Px.Ex}{row:AR}(hr:SlRow B w 8 sl args.length row)(hl:args.length≠2) :
  AA 193 #[pt b 0,.agg (exA k o n t sl p)] w λ e w'=>Af w (Ck.builtin t p (Ck.cEs c args)) e w':=by
 obtain⟨w0,w1,a8,a7,l0,l1,a4,a5,a9⟩:=A0 w (iv k) (iv o) (iv n) (strV t) (iv 0) sE sl (iv p);obtain⟨ao,cap,rfl,ab,aa⟩:=hr.val;obtain⟨d0,d1,d2,d3,d4,d5,d6,d7,-⟩:=Ac a5;have hk:=Cs t w1;rw[ht] at hk;have hR:Ck.builtin t p (Ck.cEs c args)=.inr (p,35):=by
  unfold Ck.builtin;simp only[ht,Ck.cEs_length,Ck.pair];have:(args.length == 2)=false:=by simpa using hl
  simp[this,Ck.need,Ck.bind]
 rw[hR];have a0:Hid (Af w (.inr (p,35)) (.panicked (Ag p 35)) w1):=⟨rfl,a4⟩;have hq:((args.length:Int) == 2)=false:=by rw[beq_eq_false_iff_ne];omega
 have hN:=Ap p 35 w1;generalize args.length=L at *;clear hr hR ht;by_cases h2:L=1
 .have a6:((L:Int) == 1)=true:=by simp[h2]
  clear h2;go_enter func193,ntmps193;go_wp2_with fail;refine hk.mono ?_;rintro e w2 ⟨rfl,a3⟩;obtain rfl:=a3.symm;clear hk;go_wp2_with fail;refine hN.mono ?_;rintro e w3 ⟨rfl,rfl⟩;exact⟨rfl,a0.out⟩
 .have a6:((L:Int) == 1)=false:=by rw[beq_eq_false_iff_ne];omega
  clear h2;go_enter func193,ntmps193;go_wp2_with fail;refine hk.mono ?_;rintro e w2 ⟨rfl,a3⟩;obtain rfl:=a3.symm;clear hk;go_wp2_with fail;refine hN.mono ?_;rintro e w3 ⟨rfl,rfl⟩;exact⟨rfl,a0.out⟩
theorem Qb{k o n:Nat}{t:AQ}(ht:Ck.bkind t=10){mb:Nat}{c:Ck.Cx}{B:AS}{args:List Px.Ex}{row:AR}(hr:SlRow B w 8 sl args.length row)(hl:args.length≠2) :
  AA 193 #[pt b 0,.agg (exA k o n t sl p)] w λ e w'=>Af w (Ck.builtin t p (Ck.cEs c args)) e w':=by
 obtain⟨w0,w1,a8,a7,l0,l1,a4,a5,a9⟩:=A0 w (iv k) (iv o) (iv n) (strV t) (iv 0) sE sl (iv p);obtain⟨ao,cap,rfl,ab,aa⟩:=hr.val;obtain⟨d0,d1,d2,d3,d4,d5,d6,d7,-⟩:=Ac a5;have hk:=Cs t w1;rw[ht] at hk;have hR:Ck.builtin t p (Ck.cEs c args)=.inr (p,35):=by
  unfold Ck.builtin;simp only[ht,Ck.cEs_length,Ck.pair];have:(args.length == 2)=false:=by simpa using hl
  simp[this,Ck.need,Ck.bind]
 rw[hR];have a0:Hid (Af w (.inr (p,35)) (.panicked (Ag p 35)) w1):=⟨rfl,a4⟩;have hq:((args.length:Int) == 2)=false:=by rw[beq_eq_false_iff_ne];omega
 have hN:=Ap p 35 w1;generalize args.length=L at *;clear hr hR ht;by_cases h2:L=1
 .have a6:((L:Int) == 1)=true:=by simp[h2]
  clear h2;go_enter func193,ntmps193;go_wp2_with fail;refine hk.mono ?_;rintro e w2 ⟨rfl,a3⟩;obtain rfl:=a3.symm;clear hk;go_wp2_with fail;refine hN.mono ?_;rintro e w3 ⟨rfl,rfl⟩;exact⟨rfl,a0.out⟩
 .have a6:((L:Int) == 1)=false:=by rw[beq_eq_false_iff_ne];omega
  clear h2;go_enter func193,ntmps193;go_wp2_with fail;refine hk.mono ?_;rintro e w2 ⟨rfl,a3⟩;obtain rfl:=a3.symm;clear hk;go_wp2_with fail;refine hN.mono ?_;rintro e w3 ⟨rfl,rfl⟩;exact⟨rfl,a0.out⟩
theorem Qc{k o n:Nat}{t:AQ}(ht:Ck.bkind t=11){mb:Nat}{c:Ck.Cx}{B:AS}{args:List Px.Ex}{row:AR}(hr:SlRow B w 8 sl args.length row)(hl:args.length≠1) :
  AA 193 #[pt b 0,.agg (exA k o n t sl p)] w λ e w'=>Af w (Ck.builtin t p (Ck.cEs c args)) e w':=by
 obtain⟨w0,w1,a8,a7,l0,l1,a4,a5,a9⟩:=A0 w (iv k) (iv o) (iv n) (strV t) (iv 0) sE sl (iv p);obtain⟨ao,cap,rfl,ab,aa⟩:=hr.val;obtain⟨d0,d1,d2,d3,d4,d5,d6,d7,-⟩:=Ac a5;have hk:=Cs t w1;rw[ht] at hk;have hR:Ck.builtin t p (Ck.cEs c args)=.inr (p,35):=by
  unfold Ck.builtin;simp only[ht,Ck.cEs_length,Ck.pair];have:(args.length == 1)=false:=by simpa using hl
  simp[this,Ck.need,Ck.bind]
 rw[hR];have a0:Hid (Af w (.inr (p,35)) (.panicked (Ag p 35)) w1):=⟨rfl,a4⟩;have hq:((args.length:Int) == 1)=false:=by rw[beq_eq_false_iff_ne];omega
 have hN:=Ap p 35 w1;generalize args.length=L at *;clear hr hR ht;by_cases h2:L=2
 .have a6:((L:Int) == 2)=true:=by simp[h2]
  clear h2;go_enter func193,ntmps193;go_wp2_with fail;refine hk.mono ?_;rintro e w2 ⟨rfl,a3⟩;obtain rfl:=a3.symm;clear hk;go_wp2_with fail;refine hN.mono ?_;rintro e w3 ⟨rfl,rfl⟩;exact⟨rfl,a0.out⟩
 .have a6:((L:Int) == 2)=false:=by rw[beq_eq_false_iff_ne];omega
  clear h2;go_enter func193,ntmps193;go_wp2_with fail;refine hk.mono ?_;rintro e w2 ⟨rfl,a3⟩;obtain rfl:=a3.symm;clear hk;go_wp2_with fail;refine hN.mono ?_;rintro e w3 ⟨rfl,rfl⟩;exact⟨rfl,a0.out⟩
theorem Sy{x:Px.Ex}(hE:EOk x){k o n:Nat}{t:AQ}(ht:Ck.bkind t=8){c:Ck.Cx}{B:AS}{row:AR}(hc:CkAt w b mb c)(b7:CxOk c)(hr:SlRow B w 8 sl 1 row)(ha:Ai B w [x] row) :
  AA 193 #[pt b 0,.agg (exA k o n t sl p)] w λ e w'=>Af w (Ck.builtin t p (Ck.cEs c [x])) e w':=by
 obtain⟨w0,w1,c3,c0,l0,l1,ae,c7,c6⟩:=A0 w (iv k) (iv o) (iv n) (strV t) (iv 0) sE sl (iv p);have b6:=hr.since (Since.of_below ae);have b3:=ha.since (Since.of_below ae);have bf:=hc.keep ae;obtain⟨g,og,cap,ka,oa,na,ta,aa,pa,bw,aw,rfl,bk,hg,rfl,⟨u0,u1,u2,u3,u4,u5,u6,u7⟩,au,ba⟩:=Bd (args:=[x]) b6 b3 rfl;have hC:=hE ka oa na ta aa pa rfl w1 b mb c B bw aw bf b7 au ba;obtain⟨ce,bj,rfl,-,-⟩:=au.val;obtain⟨d0,d1,d2,d3,d4,d5,d6,d7,-⟩:=Ac c7;have ah:=Hw b7 (.mk ka oa na ta aa pa);have hk:=Cs t w1;rw[ht] at hk;obtain⟨R,HR⟩:∃R,Hid (Ck.builtin t p (Ck.cEs c [.mk ka oa na ta aa pa])=R):=⟨_,rfl⟩;rw[HR.out];have av:Hid (R=Ck.bind (Ck.cE c (.mk ka oa na ta aa pa)) λ x=>Ck.bind (Ck.need (Ck.sig 8 x.type).2.2 pa 35) λ _=>.inl (.mk 8 0 0 [] 0 (Ck.sig 8 x.type).1 [x])):=by
  show _=_;rw[<-HR.out];unfold Ck.builtin;simp only[ht,Ck.cEs,Ck.arg,getD_cons_zero,getD_cons_succ];rfl
 clear HR ht;generalize Ck.cE c (.mk ka oa na ta aa pa)=C at *;have cj:([.mk ka oa na ta aa pa]:List Px.Ex).length=1:=rfl;clear hc hr ha hE  b6 b3 bf au ba;simp only[length_cons,length_nil,Nat.zero_add] at *;have hN:=Aw p 35 w1;go_enter func193,ntmps193;go_wp2_with fail;refine hk.mono ?_;rintro e w2 ⟨rfl,bi⟩;obtain rfl:=bi.symm;clear hk;go_wp2_with fail;refine hN.mono ?_;rintro e w3 ⟨rfl,c1⟩;obtain rfl:=c1.symm;clear hN;go_wp2_with fail;refine hC.mono ?_;rintro e w2 hP;clear hC c3 c0;rcases C with⟨k2,o2,n2,t2,s2,y2,a0⟩ | ⟨a,er⟩
 rotate_left
 .obtain⟨hm,aq⟩:=hP;obtain rfl:=hm;have a3:Af w R (.panicked (Ag a er)) w2:=by rw[av.out];exact⟨rfl,ae.trans (aq.mono (by omega))⟩
  exact⟨rfl,a3⟩
 obtain⟨sl2,row2,rfl,am,b0,aq⟩:=hP.inl;have br:y2.length<=1000:=ah _ rfl;obtain⟨wz,w3,bv,c4,ax,bg,bl,cc,a6,ai⟩:=Ca w2 (iv k2) (iv o2) (iv n2) (strV t2) (iv s2) (strV y2) sl2 (iv 0);obtain⟨a2,c2,rfl,-,-⟩:=am.val;have bo:=aq.size;have lz:w2<wz.heap.size:=by omega
 have l3:w2<w3.heap.size:=by omega
 clear bg bl;obtain⟨z0,z1,z2,z3,z4,z5,z6,z7,f0,f1,f2,f3,f4,f5,f6,f7⟩:=Ac ai;obtain⟨q0,q1,q2,q3,q4,q5,q6,q7,-⟩:=Ac a6;have ad:Below w1 w1 w3:=aq.trans (ax.mono bo);have ag:=Ko 8 y2 (by omega) w3;have ab:Hid (R=Ck.bind (Ck.need (Ck.sig 8 y2).2.2 pa 35) λ _=>.inl (.mk 8 0 0 [] 0 (Ck.sig 8 y2).1 [.mk k2 o2 n2 t2 s2 y2 a0])):=av.out;generalize Ck.sig 8 y2=sg at *;obtain⟨af,bn,b4⟩:=sg;simp only at ab ag;replace ag:AA 218 #[iv 8,strV y2] w3 λ e w'=>e=.returned (.tuple #[strV af,strV bn,.bool b4])/\Below w3 w3 w':=ag
 clear u0 u1 u2 u3 u4 u5 u6 hP av ah br;go_wp2_with fail;refine ag.mono ?_;rintro e w4 ⟨rfl,al⟩;clear ag bv c4 z0 z1 z2 z3 z4 z5 z6 z7 f0 f1 f2 f3 f4 f5 f6 f7;have a5:Below w1 w1 w4:=ad.trans (al.mono ad.size);have bu:=ad.size;have cl:=al.size;obtain⟨bc,-⟩:=bcell a5;have cv:=(bc w 6 (by omega)).trans d6;have bx:=(bc g _ hg).trans u7;have cr:g<w4:=by omega
 have bt:Below w w w4:=ae.trans (a5.mono (by omega));cases b4
 .have a3:Hid (Af w R (.panicked (Ag pa 35)) w4):=by rw[ab.out];exact⟨rfl,bt⟩
  have hN:=Ap pa 35 w4;clear ab am b0;go_wp2_with fail;refine hN.mono ?_;rintro e w7 ⟨rfl,rfl⟩;exact⟨rfl,a3.out⟩
 have hN:=Aw pa 35 w4;replace ab:Hid (R=.inl (.mk 8 0 0 [] 0 af [.mk k2 o2 n2 t2 s2 y2 a0])):=ab.out;go_wp2_with fail;refine hN.mono ?_;rintro e w7 ⟨rfl,c8⟩;obtain rfl:=c8.symm;clear hN;have a4:=(al.block _ l3).trans a6;obtain⟨cp,cd,cw,ct,ch,ci,cm,cu,-⟩:=Ac a4;have ca:w2<w4.heap.size:=by omega
 obtain⟨w6,ar⟩:∃w6,w4.alloc (.cells #[iv k2,iv o2,iv n2,strV t2,iv s2,strV y2,.slice a2 a0.length c2,iv 0] 48)=w6:=⟨_,rfl⟩;have b8:Below w4 w4 w6:=by rw[<-ar];exact (AF _ _).alloc (AD _) _
 have l6:w4.heap.size<w6.heap.size:=by rw[<-ar];simp
 have a8:w6.heap[w4.heap.size]?=some (.cells #[iv k2,iv o2,iv n2,strV t2,iv s2,strV y2,.slice a2 a0.length c2,iv 0] 48 (0,0)):=by rw[<-ar];exact heap_new _ _
 obtain⟨wy,w7,cq,cg,bb,c5,bp,cf,a9,a7⟩:=Ca w6 (iv 8) (iv 0) (iv 0) sE (iv 0) (strV af) (sL w4 0 1 1) (iv 0);have ly:w6<wy.heap.size:=by omega
 have l7:w6<w7.heap.size:=by omega
 clear c5 bp;obtain⟨z0,z1,z2,z3,z4,z5,z6,z7,f0,f1,f2,f3,f4,f5,f6,f7⟩:=Ac a7;have ak:Below w4 w4 w7:=b8.trans (bb.mono b8.size);have aj:Below w1 w1 w7:=a5.trans (ak.mono a5.size);have bs:=a5.size;have az:Ge (λ j=>w1.heap.size<=j/\j<w6.heap.size) w7 (sL w4 0 1 1) [.mk k2 o2 n2 t2 s2 y2 a0]:=by
  have b5:Below w2 w2 w7:=ax.trans ((al.trans (ak.mono al.size)).mono ax.size);refine⟨[iv k2,iv o2,iv n2,strV t2,iv s2,strV y2,.slice a2 a0.length c2,iv 0],⟨rfl,AJ ⟨w4,1,#[iv k2,iv o2,iv n2,strV t2,iv s2,strV y2,.slice a2 a0.length c2,iv 0],rfl,AO _,(bb.block _ l6).trans a8,AD _,by unfold maxLen;omega,rfl,rfl⟩⟩,λ j hj=>?_,?_⟩
  .have:w4.heap.size=j:=by simpa [Value.ownBlock] using hj
   exact⟨by omega,by omega⟩
  .have h1:=Ka (C7 (k:=k2) (o:=o2) (n:=n2) (s:=s2) (t:=t2) (y:=y2) (am.base' (B':=λ j=>From w1 j/\j<w2.heap.size) (λ j h1 h2=>⟨h1,h2⟩)) (b0.base (B':=λ j=>From w1 j/\j<w2.heap.size) (λ j h1 h2=>⟨h1,h2⟩)));refine (h1.since ⟨b5.size,λ j hj hl=>b5.block j hl⟩).base (λ j hj _=>⟨⟨hj.1,by have:=hj.2;omega⟩,λ e=>?_⟩);have h3:w4.heap.size=j:=by simpa [Value.ownBlock] using e
   have:=hj.2;omega
 clear bx u7;have b9:Ge (From w1) w7 (sL w4 0 1 1) [.mk k2 o2 n2 t2 s2 y2 a0]:=az.base (λ j hj _=>hj.1);obtain⟨m0,m1,m2,m3,m4,m5,m6,m7,-⟩:=Ac a9;have ay:=(aj.block _ (by omega)).trans c6;obtain⟨r0,r1,r2,r3,r4,r5,r6,r7,t0,t1,c9,t3,co,t5,t6,t7⟩:=Ac ay;have bh:w0<w7.heap.size:=(AB ay).1;have a3:Af w R (.returned (.agg #[iv 8,iv 0,iv 0,sE,iv 0,strV af,sL w4 0 1 1,iv 0])) (setc8 w7 w0 (iv 8) (iv 0) (iv 0) sE (iv 0) (strV af) (sL w4 0 1 1) (iv 0)):=by
  rw[ab.out];have bq:Since (From w1) w7 (setc8 w7 w0 (iv 8) (iv 0) (iv 0) sE (iv 0) (strV af) (sL w4 0 1 1) (iv 0)):=⟨by rw[A4];exact AD _,λ j h3 h4=>A3 (by have:w1.heap.size<=j:=h3;omega) _ _ _ _ _ _ _ _⟩;obtain⟨row,e1,e2⟩:=(b9.since bq).row;exact⟨⟨_,row,rfl,e1.base' (λ j hj _=>by show w.heap.size<=j;have:w1.heap.size<=j:=hj;omega),e2.base (λ j hj _=>by show w.heap.size<=j;have:w1.heap.size<=j:=hj;omega)⟩,As (ae.trans (aj.mono (by omega))) (by omega) _ _ _ _ _ _ _ _⟩
 clear ab b9 am b0 ay a9 a7 a8 a4 a6;go_wp2_with fail;exact bodyPost_ret (by simp[results,results193,go_sem,bh,r0,r1,r2,r3,r4,r5,r6,r7]) rfl a3
theorem Qd{x:Px.Ex}(hE:EOk x){k o n:Nat}{t:AQ}(ht:Ck.bkind t=11){c:Ck.Cx}{B:AS}{row:AR}(hc:CkAt w b mb c)(b7:CxOk c)(hr:SlRow B w 8 sl 1 row)(ha:Ai B w [x] row) :
  AA 193 #[pt b 0,.agg (exA k o n t sl p)] w λ e w'=>Af w (Ck.builtin t p (Ck.cEs c [x])) e w':=by
 obtain⟨w0,w1,c3,c0,l0,l1,ae,c7,c6⟩:=A0 w (iv k) (iv o) (iv n) (strV t) (iv 0) sE sl (iv p);have b6:=hr.since (Since.of_below ae);have b3:=ha.since (Since.of_below ae);have bf:=hc.keep ae;obtain⟨g,og,cap,ka,oa,na,ta,aa,pa,bw,aw,rfl,bk,hg,rfl,⟨u0,u1,u2,u3,u4,u5,u6,u7⟩,au,ba⟩:=Bd (args:=[x]) b6 b3 rfl;have hC:=hE ka oa na ta aa pa rfl w1 b mb c B bw aw bf b7 au ba;obtain⟨ce,bj,rfl,-,-⟩:=au.val;obtain⟨d0,d1,d2,d3,d4,d5,d6,d7,-⟩:=Ac c7;have ah:=Hw b7 (.mk ka oa na ta aa pa);have hk:=Cs t w1;rw[ht] at hk;obtain⟨R,HR⟩:∃R,Hid (Ck.builtin t p (Ck.cEs c [.mk ka oa na ta aa pa])=R):=⟨_,rfl⟩;rw[HR.out];have av:Hid (R=Ck.bind (Ck.cE c (.mk ka oa na ta aa pa)) λ x=>Ck.bind (Ck.need (Ck.sig 11 x.type).2.2 pa 35) λ _=>.inl (.mk 11 0 0 [] 0 (Ck.sig 11 x.type).1 [x])):=by
  show _=_;rw[<-HR.out];unfold Ck.builtin;simp only[ht,Ck.cEs,Ck.arg,getD_cons_zero,getD_cons_succ];rfl
 clear HR ht;generalize Ck.cE c (.mk ka oa na ta aa pa)=C at *;have cj:([.mk ka oa na ta aa pa]:List Px.Ex).length=1:=rfl;clear hc hr ha hE  b6 b3 bf au ba;simp only[length_cons,length_nil,Nat.zero_add] at *;have hN:=Aw p 35 w1;go_enter func193,ntmps193;go_wp2_with fail;refine hk.mono ?_;rintro e w2 ⟨rfl,bi⟩;obtain rfl:=bi.symm;clear hk;go_wp2_with fail;refine hN.mono ?_;rintro e w3 ⟨rfl,c1⟩;obtain rfl:=c1.symm;clear hN;go_wp2_with fail;refine hC.mono ?_;rintro e w2 hP;clear hC c3 c0;rcases C with⟨k2,o2,n2,t2,s2,y2,a0⟩ | ⟨a,er⟩
 rotate_left
 .obtain⟨hm,aq⟩:=hP;obtain rfl:=hm;have a3:Af w R (.panicked (Ag a er)) w2:=by rw[av.out];exact⟨rfl,ae.trans (aq.mono (by omega))⟩
  exact⟨rfl,a3⟩
 obtain⟨sl2,row2,rfl,am,b0,aq⟩:=hP.inl;have br:y2.length<=1000:=ah _ rfl;obtain⟨wz,w3,bv,c4,ax,bg,bl,cc,a6,ai⟩:=Ca w2 (iv k2) (iv o2) (iv n2) (strV t2) (iv s2) (strV y2) sl2 (iv 0);obtain⟨a2,c2,rfl,-,-⟩:=am.val;have bo:=aq.size;have lz:w2<wz.heap.size:=by omega
 have l3:w2<w3.heap.size:=by omega
 clear bg bl;obtain⟨z0,z1,z2,z3,z4,z5,z6,z7,f0,f1,f2,f3,f4,f5,f6,f7⟩:=Ac ai;obtain⟨q0,q1,q2,q3,q4,q5,q6,q7,-⟩:=Ac a6;have ad:Below w1 w1 w3:=aq.trans (ax.mono bo);have ag:=Ko 11 y2 (by omega) w3;have ab:Hid (R=Ck.bind (Ck.need (Ck.sig 11 y2).2.2 pa 35) λ _=>.inl (.mk 11 0 0 [] 0 (Ck.sig 11 y2).1 [.mk k2 o2 n2 t2 s2 y2 a0])):=av.out;generalize Ck.sig 11 y2=sg at *;obtain⟨af,bn,b4⟩:=sg;simp only at ab ag;replace ag:AA 218 #[iv 11,strV y2] w3 λ e w'=>e=.returned (.tuple #[strV af,strV bn,.bool b4])/\Below w3 w3 w':=ag
 clear u0 u1 u2 u3 u4 u5 u6 hP av ah br;go_wp2_with fail;refine ag.mono ?_;rintro e w4 ⟨rfl,al⟩;clear ag bv c4 z0 z1 z2 z3 z4 z5 z6 z7 f0 f1 f2 f3 f4 f5 f6 f7;have a5:Below w1 w1 w4:=ad.trans (al.mono ad.size);have bu:=ad.size;have cl:=al.size;obtain⟨bc,-⟩:=bcell a5;have cv:=(bc w 6 (by omega)).trans d6;have bx:=(bc g _ hg).trans u7;have cr:g<w4:=by omega
 have bt:Below w w w4:=ae.trans (a5.mono (by omega));cases b4
 .have a3:Hid (Af w R (.panicked (Ag pa 35)) w4):=by rw[ab.out];exact⟨rfl,bt⟩
  have hN:=Ap pa 35 w4;clear ab am b0;go_wp2_with fail;refine hN.mono ?_;rintro e w7 ⟨rfl,rfl⟩;exact⟨rfl,a3.out⟩
 have hN:=Aw pa 35 w4;replace ab:Hid (R=.inl (.mk 11 0 0 [] 0 af [.mk k2 o2 n2 t2 s2 y2 a0])):=ab.out;go_wp2_with fail;refine hN.mono ?_;rintro e w7 ⟨rfl,c8⟩;obtain rfl:=c8.symm;clear hN;have a4:=(al.block _ l3).trans a6;obtain⟨cp,cd,cw,ct,ch,ci,cm,cu,-⟩:=Ac a4;have ca:w2<w4.heap.size:=by omega
 obtain⟨w6,ar⟩:∃w6,w4.alloc (.cells #[iv k2,iv o2,iv n2,strV t2,iv s2,strV y2,.slice a2 a0.length c2,iv 0] 48)=w6:=⟨_,rfl⟩;have b8:Below w4 w4 w6:=by rw[<-ar];exact (AF _ _).alloc (AD _) _
 have l6:w4.heap.size<w6.heap.size:=by rw[<-ar];simp
 have a8:w6.heap[w4.heap.size]?=some (.cells #[iv k2,iv o2,iv n2,strV t2,iv s2,strV y2,.slice a2 a0.length c2,iv 0] 48 (0,0)):=by rw[<-ar];exact heap_new _ _
 obtain⟨wy,w7,cq,cg,bb,c5,bp,cf,a9,a7⟩:=Ca w6 (iv 11) (iv 0) (iv 0) sE (iv 0) (strV af) (sL w4 0 1 1) (iv 0);have ly:w6<wy.heap.size:=by omega
 have l7:w6<w7.heap.size:=by omega
 clear c5 bp;obtain⟨z0,z1,z2,z3,z4,z5,z6,z7,f0,f1,f2,f3,f4,f5,f6,f7⟩:=Ac a7;have ak:Below w4 w4 w7:=b8.trans (bb.mono b8.size);have aj:Below w1 w1 w7:=a5.trans (ak.mono a5.size);have bs:=a5.size;have az:Ge (λ j=>w1.heap.size<=j/\j<w6.heap.size) w7 (sL w4 0 1 1) [.mk k2 o2 n2 t2 s2 y2 a0]:=by
  have b5:Below w2 w2 w7:=ax.trans ((al.trans (ak.mono al.size)).mono ax.size);refine⟨[iv k2,iv o2,iv n2,strV t2,iv s2,strV y2,.slice a2 a0.length c2,iv 0],⟨rfl,AJ ⟨w4,1,#[iv k2,iv o2,iv n2,strV t2,iv s2,strV y2,.slice a2 a0.length c2,iv 0],rfl,AO _,(bb.block _ l6).trans a8,AD _,by unfold maxLen;omega,rfl,rfl⟩⟩,λ j hj=>?_,?_⟩
  .have:w4.heap.size=j:=by simpa [Value.ownBlock] using hj
   exact⟨by omega,by omega⟩
  .have h1:=Ka (C7 (k:=k2) (o:=o2) (n:=n2) (s:=s2) (t:=t2) (y:=y2) (am.base' (B':=λ j=>From w1 j/\j<w2.heap.size) (λ j h1 h2=>⟨h1,h2⟩)) (b0.base (B':=λ j=>From w1 j/\j<w2.heap.size) (λ j h1 h2=>⟨h1,h2⟩)));refine (h1.since ⟨b5.size,λ j hj hl=>b5.block j hl⟩).base (λ j hj _=>⟨⟨hj.1,by have:=hj.2;omega⟩,λ e=>?_⟩);have h3:w4.heap.size=j:=by simpa [Value.ownBlock] using e
   have:=hj.2;omega
 clear bx u7;have b9:Ge (From w1) w7 (sL w4 0 1 1) [.mk k2 o2 n2 t2 s2 y2 a0]:=az.base (λ j hj _=>hj.1);obtain⟨m0,m1,m2,m3,m4,m5,m6,m7,-⟩:=Ac a9;have ay:=(aj.block _ (by omega)).trans c6;obtain⟨r0,r1,r2,r3,r4,r5,r6,r7,t0,t1,c9,t3,co,t5,t6,t7⟩:=Ac ay;have bh:w0<w7.heap.size:=(AB ay).1;have a3:Af w R (.returned (.agg #[iv 11,iv 0,iv 0,sE,iv 0,strV af,sL w4 0 1 1,iv 0])) (setc8 w7 w0 (iv 11) (iv 0) (iv 0) sE (iv 0) (strV af) (sL w4 0 1 1) (iv 0)):=by
  rw[ab.out];have bq:Since (From w1) w7 (setc8 w7 w0 (iv 11) (iv 0) (iv 0) sE (iv 0) (strV af) (sL w4 0 1 1) (iv 0)):=⟨by rw[A4];exact AD _,λ j h3 h4=>A3 (by have:w1.heap.size<=j:=h3;omega) _ _ _ _ _ _ _ _⟩;obtain⟨row,e1,e2⟩:=(b9.since bq).row;exact⟨⟨_,row,rfl,e1.base' (λ j hj _=>by show w.heap.size<=j;have:w1.heap.size<=j:=hj;omega),e2.base (λ j hj _=>by show w.heap.size<=j;have:w1.heap.size<=j:=hj;omega)⟩,As (ae.trans (aj.mono (by omega))) (by omega) _ _ _ _ _ _ _ _⟩
 clear ab b9 am b0 ay a9 a7 a8 a4 a6;go_wp2_with fail;exact bodyPost_ret (by simp[results,results193,go_sem,bh,r0,r1,r2,r3,r4,r5,r6,r7]) rfl a3
theorem Sz{x y:Px.Ex}(hE:EOk x)(c6:EOk y){k o n:Nat}{t:AQ}(ht:Ck.bkind t=9){c:Ck.Cx}{B:AS}{row:AR}(hc:CkAt w b mb c)(bn:CxOk c)(hr:SlRow B w 8 sl 2 row)(ha:Ai B w [x,y] row) :
  AA 193 #[pt b 0,.agg (exA k o n t sl p)] w λ e w'=>Af w (Ck.builtin t p (Ck.cEs c [x,y])) e w':=by
 obtain⟨w0,w1,dl,di,l0,l1,au,dx,dv⟩:=A0 w (iv k) (iv o) (iv n) (strV t) (iv 0) sE sl (iv p);have bl:=hr.since (Since.of_below au);have bg:=ha.since (Since.of_below au);have bx:=hc.keep au;obtain⟨g,og,cap,ka,oa,na,ta,aa,pa,de,br,rfl,bj,hg,rfl,⟨u0,u1,u2,u3,u4,u5,u6,u7⟩,bi,cc⟩:=Bd (args:=[x,y]) bl bg rfl;obtain⟨g',ec,cr,kb,ob,nb,tb,ab,pb,ei,d8,e,-,-,rfl,⟨v0,v1,v2,v3,v4,v5,v6,v7⟩,bv,ce⟩:=Ek (args:=[_,y]) bl bg rfl;simp only[Value.slice.injEq,Option.some.injEq,Addr.mk.injEq,and_true] at e;obtain⟨⟨rfl,rfl⟩,-,rfl⟩:=e;simp only[length_cons,length_nil,Nat.zero_add] at bj;have hC:=hE ka oa na ta aa pa rfl w1 b mb c B de br bx bn bi cc;have hA:=λ w' (hb:Below w1 w1 w') ty=>B5 c6 rfl (bx.keep hb) bn (bv.since (Since.of_below hb)) (ce.since (Since.of_below hb)) ty
 obtain⟨ed,cl,rfl,-,-⟩:=bi.val;obtain⟨bt,aw,rfl,-,-⟩:=bv.val;obtain⟨d0,d1,d2,d3,d4,d5,d6,d7,-⟩:=Ac dx;have b3:=Hw bn (.mk ka oa na ta aa pa);have hk:=Cs t w1;rw[ht] at hk;obtain⟨R,HR⟩:∃R,Hid (Ck.builtin t p (Ck.cEs c [.mk ka oa na ta aa pa,.mk kb ob nb tb ab pb])=R):=⟨_,rfl⟩;rw[HR.out];have bq:Hid (R=Ck.bind (Ck.cE c (.mk ka oa na ta aa pa)) λ x=>Ck.bind (Ck.need (Ck.sig 9 x.type).2.2 pa 35) λ _=>Ck.bind (Ck.asked (Ck.cE c (.mk kb ob nb tb ab pb),pb) (Ck.sig 9 x.type).2.1) λ y=>.inl (.mk 9 0 0 [] 0 (Ck.sig 9 x.type).1 [x,y])):=by
  show _=_;rw[<-HR.out];unfold Ck.builtin;simp only[ht,Ck.cEs,Ck.arg,getD_cons_zero,getD_cons_succ];rfl
 clear HR ht;generalize Ck.cE c (.mk ka oa na ta aa pa)=C at *;generalize Ck.cE c (.mk kb ob nb tb ab pb)=C2 at *;have eg:([.mk ka oa na ta aa pa,.mk kb ob nb tb ab pb]:List Px.Ex).length=2:=rfl;clear hc hr ha hE c6 bv ce bl bg bx bi cc;simp only[length_cons,length_nil,Nat.zero_add] at *;have hN:=Aw p 35 w1;go_enter func193,ntmps193;go_wp2_with fail;refine hk.mono ?_;rintro e w2 ⟨rfl,cj⟩;obtain rfl:=cj.symm;clear hk;go_wp2_with fail;refine hN.mono ?_;rintro e w3 ⟨rfl,dj⟩;obtain rfl:=dj.symm;clear hN;go_wp2_with fail;refine hC.mono ?_;rintro e w2 hP;clear hC dl di;rcases C with⟨k2,o2,n2,t2,s2,y2,a0⟩ | ⟨a,er⟩
 rotate_left
 .obtain⟨hm,bb⟩:=hP;obtain rfl:=hm;have a3:Af w R (.panicked (Ag a er)) w2:=by rw[bq.out];exact⟨rfl,au.trans (bb.mono (by omega))⟩
  exact⟨rfl,a3⟩
 obtain⟨sl2,row2,rfl,ba,bw,bb⟩:=hP.inl;have cv:y2.length<=1000:=b3 _ rfl;obtain⟨wz,w3,dc,dn,bs,ch,cm,eb,ai,b5⟩:=Ca w2 (iv k2) (iv o2) (iv n2) (strV t2) (iv s2) (strV y2) sl2 (iv 0);obtain⟨a2,c2,rfl,-,-⟩:=ba.val;have co:=bb.size;have lz:w2<wz.heap.size:=by omega
 have l3:w2<w3.heap.size:=by omega
 clear ch cm;obtain⟨z0,z1,z2,z3,z4,z5,z6,z7,f0,f1,f2,f3,f4,f5,f6,f7⟩:=Ac b5;obtain⟨q0,q1,q2,q3,q4,q5,q6,q7,-⟩:=Ac ai;have ay:Below w1 w1 w3:=bb.trans (bs.mono co);have az:=Ko 9 y2 (by omega) w3;have aq:Hid (R=Ck.bind (Ck.need (Ck.sig 9 y2).2.2 pa 35) λ _=>Ck.bind (Ck.asked (C2,pb) (Ck.sig 9 y2).2.1) λ y=>.inl (.mk 9 0 0 [] 0 (Ck.sig 9 y2).1 [.mk k2 o2 n2 t2 s2 y2 a0,y])):=bq.out;generalize Ck.sig 9 y2=sg at *;obtain⟨am,b4,c0⟩:=sg;simp only at aq az;replace az:AA 218 #[iv 9,strV y2] w3 λ e w'=>e=.returned (.tuple #[strV am,strV b4,.bool c0])/\Below w3 w3 w':=az
 clear u0 u1 u2 u3 u4 u5 u6 hP bq b3 cv;go_wp2_with fail;refine az.mono ?_;rintro e w4 ⟨rfl,b9⟩;clear az dc dn z0 z1 z2 z3 z4 z5 z6 z7 f0 f1 f2 f3 f4 f5 f6 f7;have ah:Below w1 w1 w4:=ay.trans (b9.mono ay.size);have cz:=ay.size;have eh:=b9.size;obtain⟨bc,-⟩:=bcell ah;have dz:=(bc w 6 (by omega)).trans d6;have dh:=(bc g _ hg).trans u7;have el:g<w4:=by omega
 have cy:Below w w w4:=au.trans (ah.mono (by omega));cases c0
 .have a3:Hid (Af w R (.panicked (Ag pa 35)) w4):=by rw[aq.out];exact⟨rfl,cy⟩
  have hN:=Ap pa 35 w4;clear aq ba bw;go_wp2_with fail;refine hN.mono ?_;rintro e w7 ⟨rfl,rfl⟩;exact⟨rfl,a3.out⟩
 have hN:=Aw pa 35 w4;replace aq:Hid (R=Ck.bind (Ck.asked (C2,pb) b4) λ y=>.inl (.mk 9 0 0 [] 0 am [.mk k2 o2 n2 t2 s2 y2 a0,y])):=aq.out;go_wp2_with fail;refine hN.mono ?_;rintro e w7 ⟨rfl,dy⟩;obtain rfl:=dy.symm;clear hN;have ae:=(b9.block _ l3).trans ai;obtain⟨dr,cp,e8,du,dd,df,dm,dw,-⟩:=Ac ae;have ea:w2<w4.heap.size:=by omega
 obtain⟨w6,bh⟩:∃w6,w4.alloc (.cells #[iv k2,iv o2,iv n2,strV t2,iv s2,strV y2,.slice a2 a0.length c2,iv 0] 48)=w6:=⟨_,rfl⟩;have ca:Below w4 w4 w6:=by rw[<-bh];exact (AF _ _).alloc (AD _) _
 have l6:w4.heap.size<w6.heap.size:=by rw[<-bh];simp
 have ar:w6.heap[w4.heap.size]?=some (.cells #[iv k2,iv o2,iv n2,strV t2,iv s2,strV y2,.slice a2 a0.length c2,iv 0] 48 (0,0)):=by rw[<-bh];exact heap_new _ _
 obtain⟨wy,w7,ds,db,cf,dq,cq,ee,aj,al⟩:=Ca w6 (iv 9) (iv 0) (iv 0) sE (iv 0) (strV am) (sL w4 0 1 1) (iv 0);have ly:w6<wy.heap.size:=by omega
 have l7:w6<w7.heap.size:=by omega
 clear dq cq;obtain⟨z0,z1,z2,z3,z4,z5,z6,z7,f0,f1,f2,f3,f4,f5,f6,f7⟩:=Ac al;have av:Below w4 w4 w7:=ca.trans (cf.mono ca.size);have a8:Below w1 w1 w7:=ah.trans (av.mono ah.size);have cw:=ah.size;have b6:Ge (λ j=>w1.heap.size<=j/\j<w6.heap.size) w7 (sL w4 0 1 1) [.mk k2 o2 n2 t2 s2 y2 a0]:=by
  have c3:Below w2 w2 w7:=bs.trans ((b9.trans (av.mono b9.size)).mono bs.size);refine⟨[iv k2,iv o2,iv n2,strV t2,iv s2,strV y2,.slice a2 a0.length c2,iv 0],⟨rfl,AJ ⟨w4,1,#[iv k2,iv o2,iv n2,strV t2,iv s2,strV y2,.slice a2 a0.length c2,iv 0],rfl,AO _,(cf.block _ l6).trans ar,AD _,by unfold maxLen;omega,rfl,rfl⟩⟩,λ j hj=>?_,?_⟩
  .have:w4.heap.size=j:=by simpa [Value.ownBlock] using hj
   exact⟨by omega,by omega⟩
  .have h1:=Ka (C7 (k:=k2) (o:=o2) (n:=n2) (s:=s2) (t:=t2) (y:=y2) (ba.base' (B':=λ j=>From w1 j/\j<w2.heap.size) (λ j h1 h2=>⟨h1,h2⟩)) (bw.base (B':=λ j=>From w1 j/\j<w2.heap.size) (λ j h1 h2=>⟨h1,h2⟩)));refine (h1.since ⟨c3.size,λ j hj hl=>c3.block j hl⟩).base (λ j hj _=>⟨⟨hj.1,by have:=hj.2;omega⟩,λ e=>?_⟩);have h3:w4.heap.size=j:=by simpa [Value.ownBlock] using e
   have:=hj.2;omega
 clear dh u7;obtain⟨m0,m1,m2,m3,m4,m5,m6,m7,-⟩:=Ac aj;have c7:=hA w7.drew a8.drew b4;generalize Ck.asked (C2,pb) b4=D at *;have hS:∀w',Below w7 w7 w'->(w'.cell? ⟨w6,6,none⟩=sL w4 0 1 1/\w'.cell? ⟨w,6,none⟩=sL g og 2 cap/\w'.cell? ⟨g,og+8,none⟩=iv kb/\w'.cell? ⟨g,og+9,none⟩=iv ob/\w'.cell? ⟨g,og+10,none⟩=iv nb/\w'.cell? ⟨g,og+11,none⟩=strV tb/\w'.cell? ⟨g,og+12,none⟩=iv 0/\w'.cell? ⟨g,og+13,none⟩=sE/\w'.cell? ⟨g,og+14,none⟩=some (.slice bt ab.length aw)/\w'.cell? ⟨g,og+15,none⟩=iv pb):=λ w' hb=>by
  obtain⟨bd,-⟩:=bcell (a8.trans (hb.mono a8.size));obtain⟨be,-⟩:=bcell hb;exact⟨(be _ _ l7).trans m6,(bd _ _ (by omega)).trans d6,(bd _ _ hg).trans v0,(bd _ _ hg).trans v1,(bd _ _ hg).trans v2,(bd _ _ hg).trans v3,(bd _ _ hg).trans v4,(bd _ _ hg).trans v5,(bd _ _ hg).trans v6,(bd _ _ hg).trans v7⟩
 go_wp2_with fail
 refine Vv.wpE_begin (S:=λ w'=>w'.cell? ⟨w6,6,none⟩=sL w4 0 1 1/\w'.cell? ⟨w,6,none⟩=sL g og 2 cap/\w'.cell? ⟨g,og+8,none⟩=iv kb/\w'.cell? ⟨g,og+9,none⟩=iv ob/\w'.cell? ⟨g,og+10,none⟩=iv nb/\w'.cell? ⟨g,og+11,none⟩=strV tb/\w'.cell? ⟨g,og+12,none⟩=iv 0/\w'.cell? ⟨g,og+13,none⟩=sE/\w'.cell? ⟨g,og+14,none⟩=some (.slice bt ab.length aw)/\w'.cell? ⟨g,og+15,none⟩=iv pb) (N:=λ j=>decide (j<10)) (by kernel_rfl) ?_;have ak:=hS w7.drew (AF _ _).drew;refine Aa 68 [1,10,11,12] 0 (pt w6 6) ak ?_;refine Aa 69 [10,11,12] 1 (sL w4 0 1 1) ak ?_;refine Aa 70 [8,9,10,11,12] 2 (pt b 0) ak ?_;refine Aa 71 [4,5,6,8,9,10,11,12] 3 (pt w 6) ak ?_;refine Aa 72 [5,6,8,9,10,11,12] 4 (sL g og 2 cap) ak ?_;refine Aa 73 [6,8,9,10,11,12] 5 (pt g (og+8)) ak ?_;refine Aa 74 [8,9,10,11,12] 6 (.agg (exA kb ob nb tb (.slice bt ab.length aw) pb)) ak ?_;refine Aa 75 [8,9,10,11,12] 7 (strV b4) ak ?_;refine Ah 8 λ K hK=>?_
 go_simp;refine c7.mono ?_;rintro e w5 hP;replace hP:Af w7 D e w5:=hP.of (AF _ _).drew;clear c7 hA d0 d1 d2 d3 d4 d5 d6 d7 dz v0 v1 v2 v3 v4 v5 v6 v7 q0 q1 q2 q3 q4 q5 q6 q7 dr cp e8 du dd df dm dw bc ak m0 m1 m2 m3 m4 m5 m6 m7 ds db z0 z1 z2 z3 z4 z5 z6 z7 f0 f1 f2 f3 f4 f5 f6 f7;rcases D with⟨k4,o4,n4,t4,s4,y4,a5⟩ | ⟨a,er⟩
 rotate_left
 .obtain⟨hm,b7⟩:=hP;obtain rfl:=hm;have a3:Af w R (.panicked (Ag a er)) w5:=by rw[aq.out];exact⟨rfl,au.trans ((a8.trans (b7.mono a8.size)).mono (by omega))⟩
  exact⟨rfl,a3⟩
 obtain⟨ef,dk,rfl,bu,c1,b7⟩:=hP.inl;obtain⟨a4,c4,rfl,-,-⟩:=bu.val;have ct:=b7.size;refine hK _ _ (λ _=>hS w5 b7) ?_;clear hK K hP
 try simp only[aP]
 obtain⟨w8,bf⟩:∃w8,w5.alloc (.cells #[iv k4,iv o4,iv n4,strV t4,iv s4,strV y4,.slice a4 a5.length c4,iv 0] 48)=w8:=⟨_,rfl⟩;have bo:Below w5 w5 w8:=by rw[<-bf];exact (AF _ _).alloc (AD _) _
 have l8:w5.heap.size<w8.heap.size:=by rw[<-bf];simp
 have b0:w8.heap[w5.heap.size]?=some (.cells #[iv k4,iv o4,iv n4,strV t4,iv s4,strV y4,.slice a4 a5.length c4,iv 0] 48 (0,0)):=by rw[<-bf];exact heap_new _ _
 have a9:Below w7 w7 w8:=b7.trans (bo.mono ct);refine Ah 9 λ K hK=>?_
 go_simp;refine hK _ _ (λ _=>hS w8 a9) ?_;clear hK K
 try simp only[aP]
 have d9:=a8.size;have c5:Ge (λ j=>w1.heap.size<=j/\j≠w6.heap.size) w8 (sL w4 0 1 1) [.mk k2 o2 n2 t2 s2 y2 a0]:=(b6.base (λ j hj _=>⟨hj.1,by omega⟩)).below a9;have cd:Ce (λ j=>(w1.heap.size<=j/\j≠w6.heap.size)/\(sL w4 0 1 1).ownBlock≠some j) w8 (.mk k4 o4 n4 t4 s4 y4 a5) [iv k4,iv o4,iv n4,strV t4,iv s4,strV y4,.slice a4 a5.length c4,iv 0]:=by
  have hw:∀j,From w7 j->j<w8.heap.size->(w1.heap.size<=j/\j≠w6.heap.size)/\(sL w4 0 1 1).ownBlock≠some j:=λ j hj _=>by
   have h1:w7.heap.size<=j:=hj;have h2:=av.size;refine⟨⟨by omega,by omega⟩,λ e=>?_⟩;have h3:w4.heap.size=j:=by simpa [Value.ownBlock] using e
   omega
  exact C7 ((bu.since (Since.of_below bo)).base' hw) ((c1.since (Since.of_below bo)).base hw)
 obtain⟨g9,c9,w9,cg,c8,bp,ci,em,da⟩:=c5.push (ad:=⟨w5,0,none⟩) (cs:=[iv k4,iv o4,iv n4,strV t4,iv s4,strV y4,.slice a4 a5.length c4,iv 0]) (λ j u hj=>by
  have h1:w8.cell? ⟨w5,j,none⟩=some u:=by rw[Be b0,List.getElem?_toArray];exact hj
  by_cases h0:j=0
  .subst h0;simpa [Addr.add] using h1
  .simpa [Addr.add,h0] using h1) cd (by simp) (λ j hj=>by have:=a9.size;exact⟨by omega,by omega⟩) 1 44
 replace bp:Below w1 w8 w9:=bp _ (by have:=a9.size;omega) (λ j hj=>hj.1);have a6:w9.heap[w6.heap.size]?=some (.cells #[iv 9,iv 0,iv 0,sE,iv 0,strV am,sL w4 0 1 1,iv 0] 48 (0,0)):=by
  rw[ci _ (by have:=a9.size;omega) (by simp[Value.ownBlock];omega),a9.block _ l7];exact aj
 refine Ah 10 λ K hK=>?_
 refine Cl _ _ 44 rfl _ _ rfl rfl _ _ cg ?_;refine hK _ _ (λ h=>by cases h) ?_;clear hK K
 try simp only[aP]
 obtain⟨e0,e1,e2,e3,e4,e5,e6,e7,h0,h1,h2,h3,h4,h5,h6,h7⟩:=Ac a6;have ek:w6<w9.heap.size:=(AB a6).1;refine Ah 11 λ K hK=>?_
 go_simp;refine hK _ _ (λ h=>by cases h) ?_;clear hK K
 try simp only[aP]
 refine Ah 12 λ K hK=>?_
 go_simp;refine hK _ _ (λ h=>by cases h) ?_;clear hK K
 try simp only[aP]
 refine Vv.wpE_done (by kernel_rfl) ?_;obtain⟨w10,ag⟩:∃w10,w9.setCell ⟨w6,6,none⟩ (sL g9 0 2 c9)=w10:=⟨_,rfl⟩;have a7:w10.heap[w6.heap.size]?=some (.cells #[iv 9,iv 0,iv 0,sE,iv 0,strV am,sL g9 0 2 c9,iv 0] 48 (0,0)):=by rw[<-ag];simp[World.setCell,Array.getElem?_modify,a6]
 have af:Below w1 w1 w10:=by rw[<-ag];exact ((a8.trans (a9.mono (by omega))).trans bp).setCell (p:=⟨w6,6,none⟩) (by show w1<=w6.heap.size;omega) _
 have b8:Ge (λ j=>w1.heap.size<=j/\j≠w6.heap.size) w10 (sL g9 0 2 c9) [.mk k2 o2 n2 t2 s2 y2 a0,.mk k4 o4 n4 t4 s4 y4 a5]:=by
  rw[<-ag];exact c8.since ⟨by simp[World.setCell],λ j hj _=>AG _ _ _ _ hj.2⟩
 obtain⟨m0,m1,m2,m3,m4,m5,m6,m7,-⟩:=Ac a7;have dt:w6<w10.heap.size:=(AB a7).1;have ax:=(af.block _ (by omega)).trans dv;obtain⟨r0,r1,r2,r3,r4,r5,r6,r7,t0,t1,e9,t3,ej,t5,t6,t7⟩:=Ac ax;have bk:w0<w10.heap.size:=(AB ax).1;have a3:Af w R (.returned (.agg #[iv 9,iv 0,iv 0,sE,iv 0,strV am,sL g9 0 2 c9,iv 0])) (setc8 w10 w0 (iv 9) (iv 0) (iv 0) sE (iv 0) (strV am) (sL g9 0 2 c9) (iv 0)):=by
  rw[aq.out];have cu:Since (λ j=>w1.heap.size<=j/\j≠w6.heap.size) w10 (setc8 w10 w0 (iv 9) (iv 0) (iv 0) sE (iv 0) (strV am) (sL g9 0 2 c9) (iv 0)):=⟨by rw[A4];exact AD _,λ j h3 h4=>A3 (by have:=h3.1;omega) _ _ _ _ _ _ _ _⟩;obtain⟨row,e1,e2⟩:=(b8.since cu).row;exact⟨⟨_,row,rfl,e1.base' (λ j hj _=>by show w.heap.size<=j;have:=hj.1;omega),e2.base (λ j hj _=>by show w.heap.size<=j;have:=hj.1;omega)⟩,As (au.trans (af.mono (by omega))) (by omega) _ _ _ _ _ _ _ _⟩
 rw[ag];clear aq b6 c5 c8 b8 ba bw bu c1 ax a7 a6 aj al ar ae ai hS bf ag cg cd;simp only[Exit.inBlock,Exit.then];refine ‹∀(a:Act) (w:World),_->_› _ _ ?_;go_wp2_with fail;exact bodyPost_ret (by simp[results,results193,go_sem,bk,r0,r1,r2,r3,r4,r5,r6,r7]) rfl a3
theorem Qe{x y:Px.Ex}(hE:EOk x)(c6:EOk y){k o n:Nat}{t:AQ}(ht:Ck.bkind t=10){c:Ck.Cx}{B:AS}{row:AR}(hc:CkAt w b mb c)(bn:CxOk c)(hr:SlRow B w 8 sl 2 row)(ha:Ai B w [x,y] row) :
  AA 193 #[pt b 0,.agg (exA k o n t sl p)] w λ e w'=>Af w (Ck.builtin t p (Ck.cEs c [x,y])) e w':=by
 obtain⟨w0,w1,dl,di,l0,l1,au,dx,dv⟩:=A0 w (iv k) (iv o) (iv n) (strV t) (iv 0) sE sl (iv p);have bl:=hr.since (Since.of_below au);have bg:=ha.since (Since.of_below au);have bx:=hc.keep au;obtain⟨g,og,cap,ka,oa,na,ta,aa,pa,de,br,rfl,bj,hg,rfl,⟨u0,u1,u2,u3,u4,u5,u6,u7⟩,bi,cc⟩:=Bd (args:=[x,y]) bl bg rfl;obtain⟨g',ec,cr,kb,ob,nb,tb,ab,pb,ei,d8,e,-,-,rfl,⟨v0,v1,v2,v3,v4,v5,v6,v7⟩,bv,ce⟩:=Ek (args:=[_,y]) bl bg rfl;simp only[Value.slice.injEq,Option.some.injEq,Addr.mk.injEq,and_true] at e;obtain⟨⟨rfl,rfl⟩,-,rfl⟩:=e;simp only[length_cons,length_nil,Nat.zero_add] at bj;have hC:=hE ka oa na ta aa pa rfl w1 b mb c B de br bx bn bi cc;have hA:=λ w' (hb:Below w1 w1 w') ty=>B5 c6 rfl (bx.keep hb) bn (bv.since (Since.of_below hb)) (ce.since (Since.of_below hb)) ty
 obtain⟨ed,cl,rfl,-,-⟩:=bi.val;obtain⟨bt,aw,rfl,-,-⟩:=bv.val;obtain⟨d0,d1,d2,d3,d4,d5,d6,d7,-⟩:=Ac dx;have b3:=Hw bn (.mk ka oa na ta aa pa);have hk:=Cs t w1;rw[ht] at hk;obtain⟨R,HR⟩:∃R,Hid (Ck.builtin t p (Ck.cEs c [.mk ka oa na ta aa pa,.mk kb ob nb tb ab pb])=R):=⟨_,rfl⟩;rw[HR.out];have bq:Hid (R=Ck.bind (Ck.cE c (.mk ka oa na ta aa pa)) λ x=>Ck.bind (Ck.need (Ck.sig 10 x.type).2.2 pa 35) λ _=>Ck.bind (Ck.asked (Ck.cE c (.mk kb ob nb tb ab pb),pb) (Ck.sig 10 x.type).2.1) λ y=>.inl (.mk 10 0 0 [] 0 (Ck.sig 10 x.type).1 [x,y])):=by
  show _=_;rw[<-HR.out];unfold Ck.builtin;simp only[ht,Ck.cEs,Ck.arg,getD_cons_zero,getD_cons_succ];rfl
 clear HR ht;generalize Ck.cE c (.mk ka oa na ta aa pa)=C at *;generalize Ck.cE c (.mk kb ob nb tb ab pb)=C2 at *;have eg:([.mk ka oa na ta aa pa,.mk kb ob nb tb ab pb]:List Px.Ex).length=2:=rfl;clear hc hr ha hE c6 bv ce bl bg bx bi cc;simp only[length_cons,length_nil,Nat.zero_add] at *;have hN:=Aw p 35 w1;go_enter func193,ntmps193;go_wp2_with fail;refine hk.mono ?_;rintro e w2 ⟨rfl,cj⟩;obtain rfl:=cj.symm;clear hk;go_wp2_with fail;refine hN.mono ?_;rintro e w3 ⟨rfl,dj⟩;obtain rfl:=dj.symm;clear hN;go_wp2_with fail;refine hC.mono ?_;rintro e w2 hP;clear hC dl di;rcases C with⟨k2,o2,n2,t2,s2,y2,a0⟩ | ⟨a,er⟩
 rotate_left
 .obtain⟨hm,bb⟩:=hP;obtain rfl:=hm;have a3:Af w R (.panicked (Ag a er)) w2:=by rw[bq.out];exact⟨rfl,au.trans (bb.mono (by omega))⟩
  exact⟨rfl,a3⟩
 obtain⟨sl2,row2,rfl,ba,bw,bb⟩:=hP.inl;have cv:y2.length<=1000:=b3 _ rfl;obtain⟨wz,w3,dc,dn,bs,ch,cm,eb,ai,b5⟩:=Ca w2 (iv k2) (iv o2) (iv n2) (strV t2) (iv s2) (strV y2) sl2 (iv 0);obtain⟨a2,c2,rfl,-,-⟩:=ba.val;have co:=bb.size;have lz:w2<wz.heap.size:=by omega
 have l3:w2<w3.heap.size:=by omega
 clear ch cm;obtain⟨z0,z1,z2,z3,z4,z5,z6,z7,f0,f1,f2,f3,f4,f5,f6,f7⟩:=Ac b5;obtain⟨q0,q1,q2,q3,q4,q5,q6,q7,-⟩:=Ac ai;have ay:Below w1 w1 w3:=bb.trans (bs.mono co);have az:=Ko 10 y2 (by omega) w3;have aq:Hid (R=Ck.bind (Ck.need (Ck.sig 10 y2).2.2 pa 35) λ _=>Ck.bind (Ck.asked (C2,pb) (Ck.sig 10 y2).2.1) λ y=>.inl (.mk 10 0 0 [] 0 (Ck.sig 10 y2).1 [.mk k2 o2 n2 t2 s2 y2 a0,y])):=bq.out;generalize Ck.sig 10 y2=sg at *;obtain⟨am,b4,c0⟩:=sg;simp only at aq az;replace az:AA 218 #[iv 10,strV y2] w3 λ e w'=>e=.returned (.tuple #[strV am,strV b4,.bool c0])/\Below w3 w3 w':=az
 clear u0 u1 u2 u3 u4 u5 u6 hP bq b3 cv;go_wp2_with fail;refine az.mono ?_;rintro e w4 ⟨rfl,b9⟩;clear az dc dn z0 z1 z2 z3 z4 z5 z6 z7 f0 f1 f2 f3 f4 f5 f6 f7;have ah:Below w1 w1 w4:=ay.trans (b9.mono ay.size);have cz:=ay.size;have eh:=b9.size;obtain⟨bc,-⟩:=bcell ah;have dz:=(bc w 6 (by omega)).trans d6;have dh:=(bc g _ hg).trans u7;have el:g<w4:=by omega
 have cy:Below w w w4:=au.trans (ah.mono (by omega));cases c0
 .have a3:Hid (Af w R (.panicked (Ag pa 35)) w4):=by rw[aq.out];exact⟨rfl,cy⟩
  have hN:=Ap pa 35 w4;clear aq ba bw;go_wp2_with fail;refine hN.mono ?_;rintro e w7 ⟨rfl,rfl⟩;exact⟨rfl,a3.out⟩
 have hN:=Aw pa 35 w4;replace aq:Hid (R=Ck.bind (Ck.asked (C2,pb) b4) λ y=>.inl (.mk 10 0 0 [] 0 am [.mk k2 o2 n2 t2 s2 y2 a0,y])):=aq.out;go_wp2_with fail;refine hN.mono ?_;rintro e w7 ⟨rfl,dy⟩;obtain rfl:=dy.symm;clear hN;have ae:=(b9.block _ l3).trans ai;obtain⟨dr,cp,e8,du,dd,df,dm,dw,-⟩:=Ac ae;have ea:w2<w4.heap.size:=by omega
 obtain⟨w6,bh⟩:∃w6,w4.alloc (.cells #[iv k2,iv o2,iv n2,strV t2,iv s2,strV y2,.slice a2 a0.length c2,iv 0] 48)=w6:=⟨_,rfl⟩;have ca:Below w4 w4 w6:=by rw[<-bh];exact (AF _ _).alloc (AD _) _
 have l6:w4.heap.size<w6.heap.size:=by rw[<-bh];simp
 have ar:w6.heap[w4.heap.size]?=some (.cells #[iv k2,iv o2,iv n2,strV t2,iv s2,strV y2,.slice a2 a0.length c2,iv 0] 48 (0,0)):=by rw[<-bh];exact heap_new _ _
 obtain⟨wy,w7,ds,db,cf,dq,cq,ee,aj,al⟩:=Ca w6 (iv 10) (iv 0) (iv 0) sE (iv 0) (strV am) (sL w4 0 1 1) (iv 0);have ly:w6<wy.heap.size:=by omega
 have l7:w6<w7.heap.size:=by omega
 clear dq cq;obtain⟨z0,z1,z2,z3,z4,z5,z6,z7,f0,f1,f2,f3,f4,f5,f6,f7⟩:=Ac al;have av:Below w4 w4 w7:=ca.trans (cf.mono ca.size);have a8:Below w1 w1 w7:=ah.trans (av.mono ah.size);have cw:=ah.size;have b6:Ge (λ j=>w1.heap.size<=j/\j<w6.heap.size) w7 (sL w4 0 1 1) [.mk k2 o2 n2 t2 s2 y2 a0]:=by
  have c3:Below w2 w2 w7:=bs.trans ((b9.trans (av.mono b9.size)).mono bs.size);refine⟨[iv k2,iv o2,iv n2,strV t2,iv s2,strV y2,.slice a2 a0.length c2,iv 0],⟨rfl,AJ ⟨w4,1,#[iv k2,iv o2,iv n2,strV t2,iv s2,strV y2,.slice a2 a0.length c2,iv 0],rfl,AO _,(cf.block _ l6).trans ar,AD _,by unfold maxLen;omega,rfl,rfl⟩⟩,λ j hj=>?_,?_⟩
  .have:w4.heap.size=j:=by simpa [Value.ownBlock] using hj
   exact⟨by omega,by omega⟩
  .have h1:=Ka (C7 (k:=k2) (o:=o2) (n:=n2) (s:=s2) (t:=t2) (y:=y2) (ba.base' (B':=λ j=>From w1 j/\j<w2.heap.size) (λ j h1 h2=>⟨h1,h2⟩)) (bw.base (B':=λ j=>From w1 j/\j<w2.heap.size) (λ j h1 h2=>⟨h1,h2⟩)));refine (h1.since ⟨c3.size,λ j hj hl=>c3.block j hl⟩).base (λ j hj _=>⟨⟨hj.1,by have:=hj.2;omega⟩,λ e=>?_⟩);have h3:w4.heap.size=j:=by simpa [Value.ownBlock] using e
   have:=hj.2;omega
 clear dh u7;obtain⟨m0,m1,m2,m3,m4,m5,m6,m7,-⟩:=Ac aj;have c7:=hA w7.drew a8.drew b4;generalize Ck.asked (C2,pb) b4=D at *;have hS:∀w',Below w7 w7 w'->(w'.cell? ⟨w6,6,none⟩=sL w4 0 1 1/\w'.cell? ⟨w,6,none⟩=sL g og 2 cap/\w'.cell? ⟨g,og+8,none⟩=iv kb/\w'.cell? ⟨g,og+9,none⟩=iv ob/\w'.cell? ⟨g,og+10,none⟩=iv nb/\w'.cell? ⟨g,og+11,none⟩=strV tb/\w'.cell? ⟨g,og+12,none⟩=iv 0/\w'.cell? ⟨g,og+13,none⟩=sE/\w'.cell? ⟨g,og+14,none⟩=some (.slice bt ab.length aw)/\w'.cell? ⟨g,og+15,none⟩=iv pb):=λ w' hb=>by
  obtain⟨bd,-⟩:=bcell (a8.trans (hb.mono a8.size));obtain⟨be,-⟩:=bcell hb;exact⟨(be _ _ l7).trans m6,(bd _ _ (by omega)).trans d6,(bd _ _ hg).trans v0,(bd _ _ hg).trans v1,(bd _ _ hg).trans v2,(bd _ _ hg).trans v3,(bd _ _ hg).trans v4,(bd _ _ hg).trans v5,(bd _ _ hg).trans v6,(bd _ _ hg).trans v7⟩
 go_wp2_with fail
 refine Vv.wpE_begin (S:=λ w'=>w'.cell? ⟨w6,6,none⟩=sL w4 0 1 1/\w'.cell? ⟨w,6,none⟩=sL g og 2 cap/\w'.cell? ⟨g,og+8,none⟩=iv kb/\w'.cell? ⟨g,og+9,none⟩=iv ob/\w'.cell? ⟨g,og+10,none⟩=iv nb/\w'.cell? ⟨g,og+11,none⟩=strV tb/\w'.cell? ⟨g,og+12,none⟩=iv 0/\w'.cell? ⟨g,og+13,none⟩=sE/\w'.cell? ⟨g,og+14,none⟩=some (.slice bt ab.length aw)/\w'.cell? ⟨g,og+15,none⟩=iv pb) (N:=λ j=>decide (j<10)) (by kernel_rfl) ?_;have ak:=hS w7.drew (AF _ _).drew;refine Aa 68 [1,10,11,12] 0 (pt w6 6) ak ?_;refine Aa 69 [10,11,12] 1 (sL w4 0 1 1) ak ?_;refine Aa 70 [8,9,10,11,12] 2 (pt b 0) ak ?_;refine Aa 71 [4,5,6,8,9,10,11,12] 3 (pt w 6) ak ?_;refine Aa 72 [5,6,8,9,10,11,12] 4 (sL g og 2 cap) ak ?_;refine Aa 73 [6,8,9,10,11,12] 5 (pt g (og+8)) ak ?_;refine Aa 74 [8,9,10,11,12] 6 (.agg (exA kb ob nb tb (.slice bt ab.length aw) pb)) ak ?_;refine Aa 75 [8,9,10,11,12] 7 (strV b4) ak ?_;refine Ah 8 λ K hK=>?_
 go_simp;refine c7.mono ?_;rintro e w5 hP;replace hP:Af w7 D e w5:=hP.of (AF _ _).drew;clear c7 hA d0 d1 d2 d3 d4 d5 d6 d7 dz v0 v1 v2 v3 v4 v5 v6 v7 q0 q1 q2 q3 q4 q5 q6 q7 dr cp e8 du dd df dm dw bc ak m0 m1 m2 m3 m4 m5 m6 m7 ds db z0 z1 z2 z3 z4 z5 z6 z7 f0 f1 f2 f3 f4 f5 f6 f7;rcases D with⟨k4,o4,n4,t4,s4,y4,a5⟩ | ⟨a,er⟩
 rotate_left
 .obtain⟨hm,b7⟩:=hP;obtain rfl:=hm;have a3:Af w R (.panicked (Ag a er)) w5:=by rw[aq.out];exact⟨rfl,au.trans ((a8.trans (b7.mono a8.size)).mono (by omega))⟩
  exact⟨rfl,a3⟩
 obtain⟨ef,dk,rfl,bu,c1,b7⟩:=hP.inl;obtain⟨a4,c4,rfl,-,-⟩:=bu.val;have ct:=b7.size;refine hK _ _ (λ _=>hS w5 b7) ?_;clear hK K hP
 try simp only[aP]
 obtain⟨w8,bf⟩:∃w8,w5.alloc (.cells #[iv k4,iv o4,iv n4,strV t4,iv s4,strV y4,.slice a4 a5.length c4,iv 0] 48)=w8:=⟨_,rfl⟩;have bo:Below w5 w5 w8:=by rw[<-bf];exact (AF _ _).alloc (AD _) _
 have l8:w5.heap.size<w8.heap.size:=by rw[<-bf];simp
 have b0:w8.heap[w5.heap.size]?=some (.cells #[iv k4,iv o4,iv n4,strV t4,iv s4,strV y4,.slice a4 a5.length c4,iv 0] 48 (0,0)):=by rw[<-bf];exact heap_new _ _
 have a9:Below w7 w7 w8:=b7.trans (bo.mono ct);refine Ah 9 λ K hK=>?_
 go_simp;refine hK _ _ (λ _=>hS w8 a9) ?_;clear hK K
 try simp only[aP]
 have d9:=a8.size;have c5:Ge (λ j=>w1.heap.size<=j/\j≠w6.heap.size) w8 (sL w4 0 1 1) [.mk k2 o2 n2 t2 s2 y2 a0]:=(b6.base (λ j hj _=>⟨hj.1,by omega⟩)).below a9;have cd:Ce (λ j=>(w1.heap.size<=j/\j≠w6.heap.size)/\(sL w4 0 1 1).ownBlock≠some j) w8 (.mk k4 o4 n4 t4 s4 y4 a5) [iv k4,iv o4,iv n4,strV t4,iv s4,strV y4,.slice a4 a5.length c4,iv 0]:=by
  have hw:∀j,From w7 j->j<w8.heap.size->(w1.heap.size<=j/\j≠w6.heap.size)/\(sL w4 0 1 1).ownBlock≠some j:=λ j hj _=>by
   have h1:w7.heap.size<=j:=hj;have h2:=av.size;refine⟨⟨by omega,by omega⟩,λ e=>?_⟩;have h3:w4.heap.size=j:=by simpa [Value.ownBlock] using e
   omega
  exact C7 ((bu.since (Since.of_below bo)).base' hw) ((c1.since (Since.of_below bo)).base hw)
 obtain⟨g9,c9,w9,cg,c8,bp,ci,em,da⟩:=c5.push (ad:=⟨w5,0,none⟩) (cs:=[iv k4,iv o4,iv n4,strV t4,iv s4,strV y4,.slice a4 a5.length c4,iv 0]) (λ j u hj=>by
  have h1:w8.cell? ⟨w5,j,none⟩=some u:=by rw[Be b0,List.getElem?_toArray];exact hj
  by_cases h0:j=0
  .subst h0;simpa [Addr.add] using h1
  .simpa [Addr.add,h0] using h1) cd (by simp) (λ j hj=>by have:=a9.size;exact⟨by omega,by omega⟩) 1 44
 replace bp:Below w1 w8 w9:=bp _ (by have:=a9.size;omega) (λ j hj=>hj.1);have a6:w9.heap[w6.heap.size]?=some (.cells #[iv 10,iv 0,iv 0,sE,iv 0,strV am,sL w4 0 1 1,iv 0] 48 (0,0)):=by
  rw[ci _ (by have:=a9.size;omega) (by simp[Value.ownBlock];omega),a9.block _ l7];exact aj
 refine Ah 10 λ K hK=>?_
 refine Cl _ _ 44 rfl _ _ rfl rfl _ _ cg ?_;refine hK _ _ (λ h=>by cases h) ?_;clear hK K
 try simp only[aP]
 obtain⟨e0,e1,e2,e3,e4,e5,e6,e7,h0,h1,h2,h3,h4,h5,h6,h7⟩:=Ac a6;have ek:w6<w9.heap.size:=(AB a6).1;refine Ah 11 λ K hK=>?_
 go_simp;refine hK _ _ (λ h=>by cases h) ?_;clear hK K
 try simp only[aP]
 refine Ah 12 λ K hK=>?_
 go_simp;refine hK _ _ (λ h=>by cases h) ?_;clear hK K
 try simp only[aP]
 refine Vv.wpE_done (by kernel_rfl) ?_;obtain⟨w10,ag⟩:∃w10,w9.setCell ⟨w6,6,none⟩ (sL g9 0 2 c9)=w10:=⟨_,rfl⟩;have a7:w10.heap[w6.heap.size]?=some (.cells #[iv 10,iv 0,iv 0,sE,iv 0,strV am,sL g9 0 2 c9,iv 0] 48 (0,0)):=by rw[<-ag];simp[World.setCell,Array.getElem?_modify,a6]
 have af:Below w1 w1 w10:=by rw[<-ag];exact ((a8.trans (a9.mono (by omega))).trans bp).setCell (p:=⟨w6,6,none⟩) (by show w1<=w6.heap.size;omega) _
 have b8:Ge (λ j=>w1.heap.size<=j/\j≠w6.heap.size) w10 (sL g9 0 2 c9) [.mk k2 o2 n2 t2 s2 y2 a0,.mk k4 o4 n4 t4 s4 y4 a5]:=by
  rw[<-ag];exact c8.since ⟨by simp[World.setCell],λ j hj _=>AG _ _ _ _ hj.2⟩
 obtain⟨m0,m1,m2,m3,m4,m5,m6,m7,-⟩:=Ac a7;have dt:w6<w10.heap.size:=(AB a7).1;have ax:=(af.block _ (by omega)).trans dv;obtain⟨r0,r1,r2,r3,r4,r5,r6,r7,t0,t1,e9,t3,ej,t5,t6,t7⟩:=Ac ax;have bk:w0<w10.heap.size:=(AB ax).1;have a3:Af w R (.returned (.agg #[iv 10,iv 0,iv 0,sE,iv 0,strV am,sL g9 0 2 c9,iv 0])) (setc8 w10 w0 (iv 10) (iv 0) (iv 0) sE (iv 0) (strV am) (sL g9 0 2 c9) (iv 0)):=by
  rw[aq.out];have cu:Since (λ j=>w1.heap.size<=j/\j≠w6.heap.size) w10 (setc8 w10 w0 (iv 10) (iv 0) (iv 0) sE (iv 0) (strV am) (sL g9 0 2 c9) (iv 0)):=⟨by rw[A4];exact AD _,λ j h3 h4=>A3 (by have:=h3.1;omega) _ _ _ _ _ _ _ _⟩;obtain⟨row,e1,e2⟩:=(b8.since cu).row;exact⟨⟨_,row,rfl,e1.base' (λ j hj _=>by show w.heap.size<=j;have:=hj.1;omega),e2.base (λ j hj _=>by show w.heap.size<=j;have:=hj.1;omega)⟩,As (au.trans (af.mono (by omega))) (by omega) _ _ _ _ _ _ _ _⟩
 rw[ag];clear aq b6 c5 c8 b8 ba bw bu c1 ax a7 a6 aj al ar ae ai hS bf ag cg cd;simp only[Exit.inBlock,Exit.then];refine ‹∀(a:Act) (w:World),_->_› _ _ ?_;go_wp2_with fail;exact bodyPost_ret (by simp[results,results193,go_sem,bk,r0,r1,r2,r3,r4,r5,r6,r7]) rfl a3
theorem Ds{P:Program}{a3:Array Oper}{Q:Exit->Act->World->Prop}{md:Region.Mode}{S:World->Prop}{N:Nat->Bool}{oi:Oper}{a0:Array Bool}(d:Option Tmp)(hi:a3[i]?=oi)(hd:oi.dst=d)(hs:Region.noSelect a3=true)(hf:Region.free md a3 a0 i=true)(hr:(Region.ready md a3 a0).contains i=true)(hl:Vv.lateWait md a3 N i=true)
  (hQ:∀c a w,Q (.panic c) (a.put oi.dst undef) w->Q (.panic c) a w) (hw:Region.wanted oi (yielded a3 a.tmps)=false) (hS:S w) (h:Vv.wpE P md a3 Q S N f (a0.setIfInBounds i true) (a.put d undef) w):Vv.wpE P md a3 Q S N (f+1) a0 a w:=
 Vv.wpE_first (T:=S) hi (Region.noSelect_spec hs) hQ (λ _ h _=>h) f a0 a w (λ j oj h1 h2 h3 h4=>⟨Region.free_spec hi hf j oj h1 h2 h3 h4,λ w' hw'=>hw' (Vv.lateWait_spec hl h1 h2 h4)⟩) (by simpa using hr) (AJ ⟨hw,rfl⟩) hS (by rw[hd];exact h)
theorem Cd{y6:Value}(h:w.heap[g]?=some (.cells #[y0,y1,y2,y3,y4,y5,y6] T (0,0))):w.cell? g=y0/\w.cell? ⟨g,1,none⟩=y1/\w.cell? ⟨g,2,none⟩=y2/\w.cell? ⟨g,3,none⟩=y3/\w.cell? ⟨g,4,none⟩=y4/\w.cell? ⟨g,5,none⟩=y5/\w.cell? ⟨g,6,none⟩=y6/\w.frozen? g=false/\w.frozen? ⟨g,1,none⟩=false/\w.frozen? ⟨g,2,none⟩=false/\w.frozen? ⟨g,3,none⟩=false/\w.frozen? ⟨g,4,none⟩=false/\w.frozen? ⟨g,5,none⟩=false/\w.frozen? ⟨g,6,none⟩=false:=by
 refine⟨?_,?_,?_,?_,?_,?_,?_,?_,?_,?_,?_,?_,?_,?_⟩
 all_goals first | simp[World.cell?,h] | simp[World.frozen?,h]
abbrev Mb(w:World)(g:Nat)(x0 x1 x2 x3 x4 x5 x6:Value):World:=((((((w.setCell g x0).setCell ⟨g,1,none⟩ x1).setCell ⟨g,2,none⟩ x2).setCell ⟨g,3,none⟩ x3).setCell ⟨g,4,none⟩ x4).setCell ⟨g,5,none⟩ x5).setCell ⟨g,6,none⟩ x6
theorem U8(w:World)(g:Nat)(x0 x1 x2 x3 x4 x5 x6:Value):(Mb w g x0 x1 x2 x3 x4 x5 x6).heap.size=w.heap.size:=by simp[Mb,World.setCell]
theorem S0{n:Nat}(h:Below n w w')(hg:n<=g)(x0 x1 x2 x3 x4 x5 x6:Value):Below n w (Mb w' g x0 x1 x2 x3 x4 x5 x6):=(((((((h.setCell (p:=⟨g,0,none⟩) hg x0).setCell (p:=⟨g,1,none⟩) hg x1).setCell (p:=⟨g,2,none⟩) hg x2).setCell (p:=⟨g,3,none⟩) hg x3).setCell (p:=⟨g,4,none⟩) hg x4).setCell (p:=⟨g,5,none⟩) hg x5).setCell (p:=⟨g,6,none⟩) hg x6)
theorem Y0{y6:Value}(h:w.heap[g]?=some (.cells #[y0,y1,y2,y3,y4,y5,y6] T (0,0)))(x0 x1 x2 x3 x4 x5 x6:Value):(Mb w g x0 x1 x2 x3 x4 x5 x6).heap[g]?=some (.cells #[x0,x1,x2,x3,x4,x5,x6] T (0,0)):=by
 simp[Mb,World.setCell,Array.getElem?_modify,h]
theorem Ax8(w:World)(x0 x1 x2 x3 x4 x5 x6:Value):∃wz w4,w.alloc (.cells #[sE,.bool false,sZ,sE,sZ,sZ,iv 0] 36)=wz/\Mb wz w x0 x1 x2 x3 x4 x5 x6=w4/\Below w w w4/\w4=w.heap.size+1/\wz=w.heap.size+1/\Below w w wz/\w4.heap[w.heap.size]?=some (.cells #[x0,x1,x2,x3,x4,x5,x6] 36 (0,0))/\wz.heap[w.heap.size]?=some (.cells #[sE,.bool false,sZ,sE,sZ,sZ,iv 0] 36 (0,0)):=by
 have hb:Below w w (w.alloc (.cells #[sE,.bool false,sZ,sE,sZ,sZ,iv 0] 36)):=(AF _ _).alloc (AD _) _;refine⟨_,_,rfl,rfl,S0 hb (AD _) _ _ _ _ _ _ _,by rw[U8];simp,by simp,hb,Y0 (heap_new _ _) _ _ _ _ _ _ _,heap_new _ _⟩
theorem U9{B:AS}{args:List Px.Ex}{row:AR}(hr:SlRow B w 8 sl args.length row)(ha:Ai B w args row){q:Nat}{x:Px.Ex}(hi:args[q]?=x):∃(g og cap k o n:Nat) (t:AQ) (a2:List Px.Ex) (p:Nat) (sl2:Value) (row2:AR),sl=sL g og args.length cap/\args.length<=cap/\g<w/\x=.mk k o n t a2 p/\(w.cell? ⟨g,og+q*8,none⟩=iv k/\w.cell? ⟨g,og+q*8+1,none⟩=iv o/\w.cell? ⟨g,og+q*8+2,none⟩=iv n/\w.cell? ⟨g,og+q*8+3,none⟩=strV t/\w.cell? ⟨g,og+q*8+4,none⟩=iv 0/\w.cell? ⟨g,og+q*8+5,none⟩=sE/\w.cell? ⟨g,og+q*8+6,none⟩=sl2/\w.cell? ⟨g,og+q*8+7,none⟩=iv p)/\SlRow B w 8 sl2 a2.length row2/\Ai B w a2 row2:=by
 have a6:=(AK hi).1;obtain⟨cs,a4,a3⟩:=ha.get hi;obtain⟨k,o,n,t,a2,p⟩:=x;rw[IsEx] at a4;obtain⟨sl2,row2,rfl,h2,h3⟩:=a4;rcases hr.2 with⟨_,h0⟩ | ⟨g,og,cap,hv,a5,a7,hB,hg,a0⟩
 .omega
 .refine⟨g,og,cap,k,o,n,t,a2,p,sl2,row2,hv,a5,hg,rfl,⟨a0 (q*8) _ (a3 0 (by omega)),a0 (q*8+1) _ (a3 1 (by omega)),a0 (q*8+2) _ (a3 2 (by omega)),a0 (q*8+3) _ (a3 3 (by omega)),a0 (q*8+4) _ (a3 4 (by omega)),a0 (q*8+5) _ (a3 5 (by omega)),a0 (q*8+6) _ (a3 6 (by omega)),a0 (q*8+7) _ (a3 7 (by omega))⟩,h2,h3⟩
theorem Ai6{hs:List Ck.Hd}(h:Yw w hs v){x:Ck.Hd}(hi:hs[i]?=x):∃(g og cap:Nat) (nm:ByteArray) (ps:Value) (la:Option Addr) (ln lc:Nat) (ba:Option Addr) (bn bc:Nat) (pl:Int),v=sL g og hs.length cap/\hs.length<=cap/\g<w/\w.cell? ⟨g,og+i*7,none⟩=some (.string nm)/\w.cell? ⟨g,og+i*7+1,none⟩=some (.bool x.on)/\w.cell? ⟨g,og+i*7+2,none⟩=ps/\w.cell? ⟨g,og+i*7+3,none⟩=strV x.result/\w.cell? ⟨g,og+i*7+4,none⟩=some (.slice la ln lc)/\w.cell? ⟨g,og+i*7+5,none⟩=some (.slice ba bn bc)/\w.cell? ⟨g,og+i*7+6,none⟩=iv pl/\PaT w x.params ps:=by
 obtain⟨row,hr,a9⟩:=h;have ab:=(AK hi).1;obtain⟨nm,ps,la,ln,lc,ba,bn,bc,pl,a1,a2,a3,a4,a5,a6,a7,a8⟩:=a9 i x hi;rcases hr.2 with⟨_,h0⟩ | ⟨g,og,cap,hv,aa,ad,hB,hg,a0⟩
 .omega
 .exact⟨g,og,cap,nm,ps,la,ln,lc,ba,bn,bc,pl,hv,aa,hg,a0 _ _ a1,a0 _ _ a2,a0 _ _ a3,a0 _ _ a4,a0 _ _ a5,a0 _ _ a6,a0 _ _ a7,a8⟩
theorem Ap8{a3:List (List UInt8)}(h:PaT w a3 v){t:AQ}(hi:a3[i]?=t):∃(g og cap:Nat),v=sL g og a3.length cap/\a3.length<=cap/\g<w/\w.cell? ⟨g,og+i*3+1,none⟩=strV t:=by
 obtain⟨row,hr,a4⟩:=h;have a6:=(AK hi).1;rcases hr.2 with⟨_,h0⟩ | ⟨g,og,cap,hv,a5,a7,hB,hg,a0⟩
 .omega
 .exact⟨g,og,cap,hv,a5,hg,a0 _ _ (a4 i t hi)⟩
theorem Ai8{qs:List Ck.Q}{ts:List (List UInt8)}{q:Nat}{a:Ck.Q}{t:AQ}(h1:qs[q]?=a)(h2:ts[q]?=t):Ck.all (qs.drop q) (ts.drop q)=Ck.bind (Ck.asked a t) λ x=>Ck.bind (Ck.all (qs.drop (q+1)) (ts.drop (q+1))) λ xs=>.inl (x :: xs):=by
 obtain⟨i1,rfl⟩:=AK h1;obtain⟨i2,rfl⟩:=AK h2;rw[drop_eq_getElem_cons i1,drop_eq_getElem_cons i2,Ck.all]
theorem Oo{α β γ:Type}(r:Ck.R α)(f:α->Ck.R β)(g:β->Ck.R γ):Ck.bind (Ck.bind r f) g=Ck.bind r λ x=>Ck.bind (f x) g:=by
 rcases r with x | e <;> rfl
theorem Ai9{o n:Nat}{t:AQ}{c:Ck.Cx}{B:AS}{args:List Px.Ex}{row:AR}(hE:∀x∈args,EOk x)(hc:CkAt w b mb c)(cq:CxOk c)(hr:SlRow B w 8 sl args.length row)(ha:Ai B w args row)(g4:args.length<=1000000) :
  AA 194 #[pt b 0,.agg (exA 7 o n t sl p)] w λ e w'=>Af w (Ck.call c t p (Ck.cEs c args)) e w':=by
 obtain⟨k,Hk⟩:∃k:Nat,Hid (7=k):=⟨_,rfl⟩;rw[Hk.out];obtain⟨w0,w1,et,eh,l0,l1,bl,ee,ek⟩:=A0 w (iv k) (iv o) (iv n) (strV t) (iv 0) sE sl (iv p);have hb:=hc.lt;have cw:=hc.keep bl;obtain⟨v0,ss,fs,ls,d8,dv⟩:=cw.blk;have ak:=cw.env;obtain⟨c0,c1,c2,c3,c4,c5,-⟩:=Bc d8;obtain⟨d0,d1,d2,d3,d4,d5,d6,d7,-⟩:=Ac ee;have aw:=λ w' (he:A9 w' mb c.env)=>Fv he t
 have HE:Hid (∀x∈args,EOk x):=hE;have ef:Hid (SlRow B w1 8 sl args.length row):=hr.since (Since.of_below bl);have en:Hid (Ai B w1 args row):=ha.since (Since.of_below bl);obtain⟨sa,dz,rfl,ej,em⟩:=hr.val;have ah:Hid (Ck.call c t p (Ck.cEs c args)=Ck.bind (Ck.need ((Ck.look c.env t).kind == 2 && decide ((Ck.look c.env t).slot<c.number)) p 33) λ _=>Ck.bind (Ck.need (!(c.heads.getD (Ck.look c.env t).slot ⟨false,[],[]⟩).on) p 33) λ _=>Ck.bind (Ck.need (args.length == (c.heads.getD (Ck.look c.env t).slot ⟨false,[],[]⟩).params.length) p 35) λ _=>Ck.bind (Ck.all (Ck.cEs c args) (c.heads.getD (Ck.look c.env t).slot ⟨false,[],[]⟩).params) λ xs=>.inl (.mk k 0 0 [] (Ck.look c.env t).slot (c.heads.getD (Ck.look c.env t).slot ⟨false,[],[]⟩).result xs)):=by
  show _=_;unfold Ck.call;rw[Ck.cEs_length,<-Hk.out]
 obtain⟨R,HR⟩:∃R,Hid (Ck.call c t p (Ck.cEs c args)=R):=⟨_,rfl⟩;rw[HR.out] at ah ⊢;generalize Ck.look c.env t=m at *;obtain⟨mk,ms,mt⟩:=m;simp only at ah;replace aw:∀w',A9 w' mb c.env->(Instr.lookup 60 (.map (some mb)) (strV t) false).run prog w'=.ok (Hu ⟨mk,ms,mt⟩) w':=aw;clear hE hr ha hc HR Hk;go_enter func194,ntmps194;go_wp2_with fail;refine Vv.wpE_begin (S:=λ w'=>w'.cell? ⟨b,3,none⟩=some (.map (some mb))/\w'.cell? ⟨w,3,none⟩=strV t/\A9 w' mb c.env) (N:=λ _=>true) (by kernel_rfl) ?_;have a0:w1.drew.cell? ⟨b,3,none⟩=some (.map (some mb))/\w1.drew.cell? ⟨w,3,none⟩=strV t/\A9 w1.drew mb c.env:=⟨c3,d3,ak⟩;refine Aa 10 [] 0 (pt b 0) a0 ?_ (hy:=(λ w' hS=>by obtain⟨g0,g1,g2⟩:=hS;have hr:=aw w' g2;go_simp));refine Aa 11 [] 1 (pt b 0) a0 ?_ (hy:=(λ w' hS=>by obtain⟨g0,g1,g2⟩:=hS;have hr:=aw w' g2;go_simp));refine Aa 12 [] 2 (pt b 3) a0 ?_ (hy:=(λ w' hS=>by obtain⟨g0,g1,g2⟩:=hS;have hr:=aw w' g2;go_simp));refine Aa 13 [] 3 (.map (some mb)) a0 ?_ (hy:=(λ w' hS=>by obtain⟨g0,g1,g2⟩:=hS;have hr:=aw w' g2;go_simp));refine Aa 14 [] 4 (pt w 3) a0 ?_ (hy:=(λ w' hS=>by obtain⟨g0,g1,g2⟩:=hS;have hr:=aw w' g2;go_simp));refine Aa 15 [] 5 (strV t) a0 ?_ (hy:=(λ w' hS=>by obtain⟨g0,g1,g2⟩:=hS;have hr:=aw w' g2;go_simp));refine Aa 16 [] 6 (Hu ⟨mk,ms,mt⟩) a0 ?_ (hy:=(λ w' hS=>by obtain⟨g0,g1,g2⟩:=hS;have hr:=aw w' g2;go_simp));obtain⟨wz,w3,bq,d9,al,dj,b6,a9,ag,a3⟩:=U5 w1.drew (iv mk) (iv ms) (strV mt)
 refine Ah 7 λ K hK=>?_
 go_simp;refine hK _ _ (λ _=>⟨((bcell a9).1 _ _ (show b<w1 by omega)).trans c3,((bcell a9).1 _ _ (show w<w1.heap.size by omega)).trans d3,ak.since (a9.block _ ak.lt)⟩) ?_;clear hK K
 try simp only[aP]
 replace a3:wz.heap[w1.heap.size]?=some (.cells #[iv 0,iv 0,sE] 125 (0,0)):=a3;replace ag:w3.heap[w1.heap.size]?=some (.cells #[iv mk,iv ms,strV mt] 125 (0,0)):=ag;replace d9:((wz.setCell w1 (iv mk)).setCell ⟨w1,1,none⟩ (iv ms)).setCell ⟨w1,2,none⟩ (.string ⟨mt.toArray⟩)=w3:=d9;have e9:w1<w3.heap.size:=by have e:w3=w1.heap.size+1:=dj;omega
 have dc:w1<wz.heap.size:=by have e:wz=w1.heap.size+1:=b6;omega
 clear dj b6;replace al:Below w1 w1 w3:=⟨al.os,al.tape,al.output,al.size,al.block⟩;obtain⟨z0,z1,z2,f0,f1,f2⟩:=Az a3;obtain⟨bc,-⟩:=bcell al;refine Ah 8 λ K hK=>?_
 go_simp;refine hK _ _ (λ _=>⟨(bc b 3 (by omega)).trans c3,(bc w 3 (by omega)).trans d3,ak.since (al.block _ ak.lt)⟩) ?_;clear hK K
 try simp only[aP]
 refine Vv.wpE_done (by kernel_rfl) ?_;obtain⟨n0,n1,n2,-⟩:=Az ag;have e4:=(bc b 4 (by omega)).trans c4;have e7:=(bc w 7 (by omega)).trans d7;have dl:Below w w w3:=bl.trans (al.mono (by omega));clear z0 z1 z2 f0 f1 f2 dc bq d9 a0 aw et eh a3 a9;simp only[Exit.inBlock,Exit.then];refine ‹∀(a:Act) (w:World),_->_› _ _ ?_;go_wp2_with fail;refine Vv.wpE_begin (S:=λ w'=>w'.cell? w1=iv mk/\w'.cell? ⟨w1,1,none⟩=iv ms/\w'.cell? ⟨b,4,none⟩=iv c.number/\w'.cell? ⟨w,7,none⟩=iv p) (N:=λ _=>true) (by kernel_rfl) ?_;have a0:w3.drew.cell? w1=iv mk/\w3.drew.cell? ⟨w1,1,none⟩=iv ms/\w3.drew.cell? ⟨b,4,none⟩=iv c.number/\w3.drew.cell? ⟨w,7,none⟩=iv p:=⟨n0,n1,e4,e7⟩;refine Aa 17 [] 0 (pt w1 0) a0 ?_;refine Aa 18 [] 1 (iv mk) a0 ?_;by_cases hk2:mk=2
 rotate_left
 .have dx:((mk:Int) == 2)=false:=by rw[beq_eq_false_iff_ne];omega
  have ci:(mk == 2)=false:=by rw[beq_eq_false_iff_ne];omega
  have a5:Hid (Af w R (.panicked (Ag p 33)) w3.drew):=by rw[ah.out,ci];exact⟨rfl,dl.drew⟩
  refine Aa 19 [] 2 (.bool false) a0 ?_;refine Aa 20 [] 3 (.bool false) a0 ?_;refine Ds (some 21) (i:=4) rfl rfl (by kernel_rfl) (by kernel_rfl) (by kernel_rfl) (by kernel_rfl) (λ _ _ _ h=>h) (by first | rfl | kernel_rfl) a0 ?_
  try simp only[aP]
  refine Ds (some 22) (i:=5) rfl rfl (by kernel_rfl) (by kernel_rfl) (by kernel_rfl) (by kernel_rfl) (λ _ _ _ h=>h) (by first | rfl | kernel_rfl) a0 ?_
  try simp only[aP]
  refine Ds (some 23) (i:=6) rfl rfl (by kernel_rfl) (by kernel_rfl) (by kernel_rfl) (by kernel_rfl) (λ _ _ _ h=>h) (by first | rfl | kernel_rfl) a0 ?_
  try simp only[aP]
  refine Ds (some 24) (i:=7) rfl rfl (by kernel_rfl) (by kernel_rfl) (by kernel_rfl) (by kernel_rfl) (λ _ _ _ h=>h) (by first | rfl | kernel_rfl) a0 ?_
  try simp only[aP]
  refine Ds (some 25) (i:=8) rfl rfl (by kernel_rfl) (by kernel_rfl) (by kernel_rfl) (by kernel_rfl) (λ _ _ _ h=>h) (by first | rfl | kernel_rfl) a0 ?_
  try simp only[aP]
  refine Ds (some 26) (i:=9) rfl rfl (by kernel_rfl) (by kernel_rfl) (by kernel_rfl) (by kernel_rfl) (λ _ _ _ h=>h) (by first | rfl | kernel_rfl) a0 ?_
  try simp only[aP]
  refine Ds (some 27) (i:=10) rfl rfl (by kernel_rfl) (by kernel_rfl) (by kernel_rfl) (by kernel_rfl) (λ _ _ _ h=>h) (by first | rfl | kernel_rfl) a0 ?_
  try simp only[aP]
  refine Aa 28 [] 11 (.bool false) a0 ?_;refine Aa 29 [] 12 (pt w 7) a0 ?_;refine Aa 30 [] 13 (iv p) a0 ?_;refine Ah 14 λ K hK=>?_
  go_simp;refine (Ap p 33 _).mono ?_;rintro e w4 ⟨rfl,rfl⟩;exact⟨rfl,a5.out⟩
 have dx:((mk:Int) == 2)=true:=by simp[hk2]
 have ci:(mk == 2)=true:=by simp[hk2]
 rw[ci,Bool.true_and] at ah;clear ci hk2;refine Aa 19 [] 2 (.bool true) a0 ?_;refine Aa 20 [] 3 (.bool true) a0 ?_;refine Aa 21 [] 4 (pt w1 1) a0 ?_;refine Aa 22 [] 5 (iv ms) a0 ?_;refine Aa 23 [] 6 (pt b 0) a0 ?_;refine Aa 24 [] 7 (pt b 0) a0 ?_;refine Aa 25 [] 8 (pt b 4) a0 ?_;refine Aa 26 [] 9 (iv c.number) a0 ?_;by_cases cf:ms<c.number
 rotate_left
 .have cy:decide ((ms:Int)<(c.number:Int))=false:=by simp;omega
  have a5:Hid (Af w R (.panicked (Ag p 33)) w3.drew):=by rw[ah.out,decide_eq_false cf];exact⟨rfl,dl.drew⟩
  have ec:¬(ms:Int)<(c.number:Int):=by omega
  refine Aa 27 [] 10 (.bool false) a0 ?_;refine Aa 28 [] 11 (.bool false) a0 ?_;refine Aa 29 [] 12 (pt w 7) a0 ?_;refine Aa 30 [] 13 (iv p) a0 ?_;refine Ah 14 λ K hK=>?_
  go_simp;refine (Ap p 33 _).mono ?_;rintro e w4 ⟨rfl,rfl⟩;exact⟨rfl,a5.out⟩
 have ec:(ms:Int)<(c.number:Int):=by omega
 rw[decide_eq_true cf] at ah;refine Aa 27 [] 10 (.bool true) a0 ?_;refine Aa 28 [] 11 (.bool true) a0 ?_;refine Aa 29 [] 12 (pt w 7) a0 ?_;refine Aa 30 [] 13 (iv p) a0 ?_;refine Ah 14 λ K hK=>?_
 go_simp;refine (Aw p 33 _).mono ?_;rintro e w4 ⟨rfl,c6⟩;obtain rfl:=c6.symm;refine hK _ _ (λ _=>a0) ?_;clear hK K c6
 try simp only[aP]
 refine Vv.wpE_done (by kernel_rfl) ?_;simp only[Exit.inBlock,Exit.then];refine ‹∀(a:Act) (w:World),_->_› _ _ ?_;have fg:ms<c.heads.length:=by have:=cq.num;omega
 obtain⟨hd,b7⟩:∃hd,c.heads[ms]?=some hd:=⟨_,AN fg⟩;have ce:c.heads.getD ms ⟨false,[],[]⟩=hd:=by rw[getD_eq_getElem?_getD,b7];rfl
 rw[ce] at ah;obtain⟨gf,of,bv,b9,fj,bb,ab,bo,bi,bk,b8,bh,rfl,g3,bs,j0,j1,j2,j3,j4,j5,j6,dn⟩:=Ai6 dv b7;obtain⟨ey,ba,-⟩:=id dn;obtain⟨bx,ar,rfl,ff,el⟩:=ba.val;have ea:(ms:Int)<(c.heads.length:Int):=by omega
 have ev:(0:Int)<=(ms:Int):=by omega
 have fk:Hid (∀t∈hd.params,t.length<=1000):=cq.pars hd (mem_of_getElem? b7);obtain⟨w4,c6⟩:∃w4,w3.drew=w4:=⟨_,rfl⟩;have b4:Below w3 w3 w4:=by rw[<-c6];exact (AF _ _).drew
 have av:Below w1 w1 w4:=al.trans (b4.mono al.size);have l4:w1.heap.size<w4.heap.size:=by have:=b4.size;omega
 have cr:w4.cell? ⟨w1,1,none⟩=iv ms:=((bcell b4).1 _ _ e9).trans n1;rw[c6];have fr:Below w w w4:=bl.trans (av.mono (by omega));clear ce dv b7 c6 a0 n0 n1 n2 e4 e7 ag dx ba bc b4;go_wp2_with fail;have cl:∀w',Below w4 w4 w'->(w'.cell? ⟨b,2,none⟩=sL gf of c.heads.length bv/\w'.cell? ⟨w1,1,none⟩=iv ms/\w'.cell? ⟨gf,of+ms*7,none⟩=some (.string b9)/\w'.cell? ⟨gf,of+ms*7+1,none⟩=some (.bool hd.on)/\w'.cell? ⟨gf,of+ms*7+2,none⟩=some (.slice bx hd.params.length ar)/\w'.cell? ⟨gf,of+ms*7+3,none⟩=strV hd.result/\w'.cell? ⟨gf,of+ms*7+4,none⟩=some (.slice bb ab bo)/\w'.cell? ⟨gf,of+ms*7+5,none⟩=some (.slice bi bk b8)/\w'.cell? ⟨gf,of+ms*7+6,none⟩=iv bh):=λ w' hb'=>by
  obtain⟨bd,-⟩:=bcell (av.trans (hb'.mono av.size));obtain⟨be,-⟩:=bcell hb';exact⟨(bd _ _ (by omega)).trans c2,(be _ _ l4).trans cr,(bd _ _ bs).trans j0,(bd _ _ bs).trans j1,(bd _ _ bs).trans j2,(bd _ _ bs).trans j3,(bd _ _ bs).trans j4,(bd _ _ bs).trans j5,(bd _ _ bs).trans j6⟩
 refine Vv.wpE_begin (S:=λ w'=>w'.cell? ⟨b,2,none⟩=sL gf of c.heads.length bv/\w'.cell? ⟨w1,1,none⟩=iv ms/\w'.cell? ⟨gf,of+ms*7,none⟩=some (.string b9)/\w'.cell? ⟨gf,of+ms*7+1,none⟩=some (.bool hd.on)/\w'.cell? ⟨gf,of+ms*7+2,none⟩=some (.slice bx hd.params.length ar)/\w'.cell? ⟨gf,of+ms*7+3,none⟩=strV hd.result/\w'.cell? ⟨gf,of+ms*7+4,none⟩=some (.slice bb ab bo)/\w'.cell? ⟨gf,of+ms*7+5,none⟩=some (.slice bi bk b8)/\w'.cell? ⟨gf,of+ms*7+6,none⟩=iv bh) (N:=λ _=>true) (by kernel_rfl) ?_;have a0:=cl w4.drew (AF _ _).drew;refine Aa 32 [] 0 (pt b 0) a0 ?_;refine Aa 33 [] 1 (pt b 0) a0 ?_;refine Aa 34 [] 2 (pt b 0) a0 ?_;refine Aa 35 [] 3 (pt b 2) a0 ?_;refine Aa 36 [] 4 (sL gf of c.heads.length bv) a0 ?_;refine Aa 37 [] 5 (pt w1 1) a0 ?_;refine Aa 38 [] 6 (iv ms) a0 ?_;refine Aa 39 [] 7 (pt gf (of+ms*7)) a0 ?_;refine Aa 40 [] 8 (.agg #[.string b9,.bool hd.on,.slice bx hd.params.length ar,strV hd.result,.slice bb ab bo,.slice bi bk b8,iv bh]) a0 ?_;obtain⟨wz,w5,bq,dd,ay,dr,b6,a9,a7,a3⟩:=Ax8 w4.drew (.string b9) (.bool hd.on) (.slice bx hd.params.length ar) (strV hd.result) (.slice bb ab bo) (.slice bi bk b8) (iv bh);refine Ah 9 λ K hK=>?_
 go_simp;refine hK _ _ (λ _=>cl _ ⟨a9.os,a9.tape,a9.output,a9.size,a9.block⟩) ?_;clear hK K
 try simp only[aP]
 replace a3:wz.heap[w4.heap.size]?=some (.cells #[sE,.bool false,sZ,sE,sZ,sZ,iv 0] 36 (0,0)):=a3;replace a7:w5.heap[w4.heap.size]?=some (.cells #[.string b9,.bool hd.on,.slice bx hd.params.length ar,strV hd.result,.slice bb ab bo,.slice bi bk b8,iv bh] 36 (0,0)):=a7;replace dd:Mb wz w4 (.string b9) (.bool hd.on) (.slice bx hd.params.length ar) (strV hd.result) (.slice bb ab bo) (.slice bi bk b8) (iv bh)=w5:=dd;have l5:w4<w5.heap.size:=by have e:w5=w4.heap.size+1:=dr;omega
 have lz:w4<wz.heap.size:=by have e:wz=w4.heap.size+1:=b6;omega
 clear dr b6;replace ay:Below w4 w4 w5:=⟨ay.os,ay.tape,ay.output,ay.size,ay.block⟩;obtain⟨z0,z1,z2,z3,z4,z5,z6,f0,f1,f2,f3,f4,f5,f6⟩:=Cd a3;refine Ah 10 λ K hK=>?_
 go_simp;refine hK _ _ (λ _=>cl _ ay) ?_;clear hK K
 try simp only[aP]
 refine Vv.wpE_done (by kernel_rfl) ?_;obtain⟨y0,y1,y2,y3,y4,y5,y6,-⟩:=Cd a7;have b5:Below w1 w1 w5:=av.trans (ay.mono av.size);obtain⟨bc,-⟩:=bcell b5;have x0:=(bc w 0 (by omega)).trans d0;have x6:=(bc w 6 (by omega)).trans d6;have x7:=(bc w 7 (by omega)).trans d7;have ei:=((bcell ay).1 w1 1 l4).trans cr;have dt:Below w w w5:=bl.trans (b5.mono (by omega));have g6:w1<w5.heap.size:=by omega
 clear z0 z1 z2 z3 z4 z5 z6 f0 f1 f2 f3 f4 f5 f6 lz bq dd a0 cl a3 a9 j0 j1 j2 j3 j4 j5 j6 bc cr;simp only[Exit.inBlock,Exit.then];refine ‹∀(a:Act) (w:World),_->_› _ _ ?_;cases hon:hd.on
 rotate_left
 .have a5:Hid (Af w R (.panicked (Ag p 33)) w5):=by rw[ah.out,hon];exact⟨rfl,dt⟩
  rw[hon] at y1;have hN:=Ap p 33 w5;clear a7;go_wp2_with fail;refine hN.mono ?_;rintro e w6 ⟨rfl,rfl⟩;exact⟨rfl,a5.out⟩
 rw[hon] at y1 ah;have hN:=Aw p 33 w5;have f9:Hid (hd.params.length<=9223372036854775807):=by show _<=_;omega
 go_wp2_with fail
 refine hN.mono ?_;rintro e w6 ⟨rfl,c7⟩;obtain rfl:=c7.symm;clear hN c7;by_cases hll:args.length=hd.params.length
 rotate_left
 .have cy:((args.length:Int) == (hd.params.length:Int))=false:=by rw[beq_eq_false_iff_ne];omega
  have ab:(args.length == hd.params.length)=false:=by rw[beq_eq_false_iff_ne];exact hll
  have a5:Hid (Af w R (.panicked (Ag p 35)) w5):=by rw[ah.out,ab];exact⟨rfl,dt⟩
  have hN:=Ap p 35 w5;clear a7 ab hll;go_wp2_with fail;refine hN.mono ?_;rintro e w6 ⟨rfl,rfl⟩;exact⟨rfl,a5.out⟩
 have cy:((args.length:Int) == (hd.params.length:Int))=true:=by simp[hll]
 have ab:(args.length == hd.params.length)=true:=by simp[hll]
 rw[ab] at ah;have de:Hid (args.length=hd.params.length):=hll;have hN:=Aw p 35 w5;clear ab hll;go_wp2_with fail;refine hN.mono ?_;rintro e w6 ⟨rfl,c7⟩;obtain rfl:=c7.symm;clear hN c7 cy;obtain⟨wz,w7,bq,fd,di,ex,b6,a9,bf,a3⟩:=Ca w5 (iv k) (iv 0) (iv 0) sE (iv ms) (strV hd.result) sZ (iv 0);have lz:w5<wz.heap.size:=by omega
 have l7:w5<w7.heap.size:=by omega
 clear ex b6;obtain⟨z0,z1,z2,z3,z4,z5,z6,z7,f0,f1,f2,f3,f4,f5,f6,f7⟩:=Ac a3;have aj:Below w1 w1 w7:=b5.trans (di.mono b5.size);have fp:=((bcell di).1 w 6 (by omega)).trans x6;have dh:w7.heap[w4.heap.size]?=some (.cells #[.string b9,.bool false,.slice bx hd.params.length ar,strV hd.result,.slice bb ab bo,.slice bi bk b8,iv bh] 36 (0,0)):=by rw[di.block _ l5,a7,hon]
 have dq:Hid (R=Ck.bind (Ck.all ((Ck.cEs c args).drop 0) (hd.params.drop 0)) λ xs=>.inl (.mk k 0 0 [] ms hd.result ([] ++ xs))):=ah.out;clear ah hon;go_wp2_with fail;clear z0 z1 z2 z3 z4 z5 z6 z7 f0 f1 f2 f3 f4 f5 f6 f7 bq fd a3 a9 lz y0 y1 y2 y3 y4 y5 y6 x0 x6 x7 ei a7
 go_loopg [67] args.length (λ gh i wr=>∃(q:Nat) (acc:List CE) (ra:Option Addr) (rc:Nat),q<=args.length/\gh=args.length - q/\i=iv q/\Hid (acc.length=q/\Fo w5 w7 w7 wr/\w7.heap.size<=wr.heap.size/\wr.heap[w5.heap.size]?=some (.cells #[iv k,iv 0,iv 0,sE,iv ms,strV hd.result,.slice ra q rc,iv 0] 48 (0,0))/\Ge (From w7) wr (.slice ra q rc) acc/\R=Ck.bind (Ck.all ((Ck.cEs c args).drop q) (hd.params.drop q)) λ xs=>.inl (.mk k 0 0 [] ms hd.result (acc ++ xs))))
 case atStart=>exact⟨0,[],none,0,AO _,rfl,rfl,rfl,AT _ _ _,AD _,bf,Ge.nil _ _,dq.out⟩
 case round=>
  obtain⟨q,acc,ra,rc,hq,rfl,rfl,HI⟩:=hrel;obtain⟨bn,b0,e8,cm,cc,ca⟩:=HI.out;have bu:Hid (acc.length=q):=bn;have cg:Hid (R=Ck.bind (Ck.all ((Ck.cEs c args).drop q) (hd.params.drop q)) λ xs=>.inl (.mk k 0 0 [] ms hd.result (acc ++ xs))):=ca;clear HI dq bn ca bf;have a8:Below w1 w1 wr:=⟨b0.os.trans aj.os,b0.tape.trans aj.tape,b0.output.trans aj.output,AP aj.size b0.size,λ j hj=>(b0.block j (by have:=aj.size;omega) (by omega)).trans (aj.block j hj)⟩;obtain⟨o0,o1,o2,o3,o4,o5,o6,o7,-⟩:=Ac cm;have lr:w5<wr.heap.size:=by omega
  by_cases dc:q<args.length
  .have cv:(q:Int)<(args.length:Int):=by omega
   have g5:(0:Int)<=(q:Int):=by omega
   obtain⟨x,hx⟩:∃x,args[q]?=some x:=⟨_,AN dc⟩;obtain⟨ty,cp⟩:∃ty,hd.params[q]?=some ty:=⟨_,AN (by have:=de.out;omega)⟩;obtain⟨g,og,cap,ka,oa,na,ta,aa,pa,fx,fb,cf,ez,hg,rfl,⟨u0,u1,u2,u3,u4,u5,u6,u7⟩,db,du⟩:=U9 (ef.out.since (Since.of_below a8)) (en.out.since (Since.of_below a8)) hx;simp only[Value.slice.injEq,true_and] at cf;obtain⟨rfl,rfl⟩:=cf;obtain⟨gp,op,eo,dw,fu,eg,aq⟩:=Ap8 (dn.since (Since.of_below a8)) cp;simp only[Value.slice.injEq,true_and] at dw;obtain⟨rfl,rfl⟩:=dw;have fq:(q:Int)<(hd.params.length:Int):=by have:=de.out;omega
   have HN:Hid (R=Ck.bind (Ck.asked (Ck.cE c (.mk ka oa na ta aa pa),pa) ty) λ x=>Ck.bind (Ck.all ((Ck.cEs c args).drop (q+1)) (hd.params.drop (q+1))) λ xs=>.inl (.mk k 0 0 [] ms hd.result (acc ++ (x :: xs)))):=by
    show _=_;rw[cg.out,Ai8 (Ck.cEs_get c args q _ hx) cp,Oo];congr 1;funext y;rw[Oo];rfl
   have hA:=λ w' (hb:Below wr wr w')=>B5 (HE.out _ (mem_of_getElem? hx)) rfl (cw.keep (a8.trans (hb.mono a8.size))) cq (db.since (Since.of_below hb)) (du.since (Since.of_below hb)) ty
   obtain⟨ch,az,rfl,-,-⟩:=db.val;generalize Ck.asked (Ck.cE c (.mk ka oa na ta aa pa),pa) ty=D at *;obtain⟨wz,w8,bq,ew,bw,eq,b6,a9,bg,a3⟩:=Ca wr (iv ka) (iv oa) (iv na) (strV ta) (iv 0) sE (.slice ch aa.length az) (iv pa);have lz:wr<wz.heap.size:=by omega
   have l8:wr<w8.heap.size:=by omega
   clear eq b6;obtain⟨z0,z1,z2,z3,z4,z5,z6,z7,f0,f1,f2,f3,f4,f5,f6,f7⟩:=Ac a3;obtain⟨ds,q1,q2,q3,q4,q5,q6,q7,-⟩:=Ac bg;have df:wr.heap[w4.heap.size]?=some (.cells #[.string b9,.bool false,sL gp op hd.params.length ar,strV hd.result,.slice bb ab bo,.slice bi bk b8,iv bh] 36 (0,0)):=(b0.block _ (by omega) (by omega)).trans dh;obtain⟨y0,y1,y2,y3,y4,y5,y6,-⟩:=Cd df;clear hx cp db du cg;go_wp2_with fail;have hS:∀w',Below w8 w8 w'->(w'.cell? ⟨w5,6,none⟩=some (.slice ra q rc)/\w'.cell? ⟨w4,2,none⟩=sL gp op hd.params.length ar/\w'.cell? ⟨gp,op+q*3+1,none⟩=strV ty/\w'.cell? wr=iv ka/\w'.cell? ⟨wr,1,none⟩=iv oa/\w'.cell? ⟨wr,2,none⟩=iv na/\w'.cell? ⟨wr,3,none⟩=strV ta/\w'.cell? ⟨wr,4,none⟩=iv 0/\w'.cell? ⟨wr,5,none⟩=sE/\w'.cell? ⟨wr,6,none⟩=some (.slice ch aa.length az)/\w'.cell? ⟨wr,7,none⟩=iv pa):=λ w' hb'=>by
    obtain⟨bd,-⟩:=bcell (bw.trans (hb'.mono bw.size));obtain⟨be,-⟩:=bcell hb';exact⟨(bd _ _ lr).trans o6,(bd _ _ (by omega)).trans y2,(bd _ _ eg).trans aq,(be _ _ l8).trans ds,(be _ _ l8).trans q1,(be _ _ l8).trans q2,(be _ _ l8).trans q3,(be _ _ l8).trans q4,(be _ _ l8).trans q5,(be _ _ l8).trans q6,(be _ _ l8).trans q7⟩
   refine Vv.wpE_begin (S:=λ w'=>w'.cell? ⟨w5,6,none⟩=some (.slice ra q rc)/\w'.cell? ⟨w4,2,none⟩=sL gp op hd.params.length ar/\w'.cell? ⟨gp,op+q*3+1,none⟩=strV ty/\w'.cell? wr=iv ka/\w'.cell? ⟨wr,1,none⟩=iv oa/\w'.cell? ⟨wr,2,none⟩=iv na/\w'.cell? ⟨wr,3,none⟩=strV ta/\w'.cell? ⟨wr,4,none⟩=iv 0/\w'.cell? ⟨wr,5,none⟩=sE/\w'.cell? ⟨wr,6,none⟩=some (.slice ch aa.length az)/\w'.cell? ⟨wr,7,none⟩=iv pa) (N:=λ j=>decide (j<12)) (by kernel_rfl) ?_;have a0:=hS w8.drew (AF _ _).drew;refine Aa 72 [1,12,13,14] 0 (pt w5 6) a0 ?_;refine Aa 73 [12,13,14] 1 (.slice ra q rc) a0 ?_;refine Aa 74 [10,11,12,13,14] 2 (pt b 0) a0 ?_;refine Aa 75 [10,11,12,13,14] 3 (.agg (exA ka oa na ta (.slice ch aa.length az) pa)) a0 ?_;refine Aa 76 [5,7,8,9,10,11,12,13,14] 4 (pt w4 2) a0 ?_;refine Aa 77 [7,8,9,10,11,12,13,14] 5 (sL gp op hd.params.length ar) a0 ?_;refine Aa 78 [7,8,9,10,11,12,13,14] 6 (iv q) a0 ?_;refine Aa 79 [8,9,10,11,12,13,14] 7 (pt gp (op+q*3)) a0 ?_;refine Aa 80 [9,10,11,12,13,14] 8 (pt gp (op+q*3+1)) a0 ?_;refine Aa 81 [10,11,12,13,14] 9 (strV ty) a0 ?_;refine Ah 10 λ K hK=>?_
   go_simp;refine (hA w8.drew bw.drew).mono ?_;rintro e w9 hP;replace hP:Af w8 D e w9:=hP.of (AF _ _).drew;clear hA a0 u0 u1 u2 u3 u4 u5 u6 u7 z0 z1 z2 z3 z4 z5 z6 z7 f0 f1 f2 f3 f4 f5 f6 f7 ds q1 q2 q3 q4 q5 q6 q7 y0 y1 y2 y3 y4 y5 y6 o0 o1 o2 o3 o4 o5 o6 o7 bq ew aq;rcases D with⟨k4,o4,n4,t4,s4,ax,a6⟩ | ⟨a,er⟩
   rotate_left
   .obtain⟨hm,cd⟩:=hP;obtain rfl:=hm;have a5:Af w R (.panicked (Ag a er)) w9:=by rw[HN.out];exact⟨rfl,bl.trans ((a8.trans ((bw.trans (cd.mono bw.size)).mono a8.size)).mono (by omega))⟩
    exact⟨rfl,a5⟩
   obtain⟨ft,eb,rfl,cu,dk,cd⟩:=hP.inl;obtain⟨a4,c4,rfl,-,-⟩:=cu.val;have fh:=cd.size;refine hK _ _ (λ _=>hS w9 cd) ?_;clear hK K hP
   try simp only[aP]
   obtain⟨w10,b3⟩:∃w10,w9.alloc (.cells #[iv k4,iv o4,iv n4,strV t4,iv s4,strV ax,.slice a4 a6.length c4,iv 0] 48)=w10:=⟨_,rfl⟩;have br:Below w9 w9 w10:=by rw[<-b3];exact (AF _ _).alloc (AD _) _
   have fi:w9.heap.size<w10.heap.size:=by rw[<-b3];simp
   have am:w10.heap[w9.heap.size]?=some (.cells #[iv k4,iv o4,iv n4,strV t4,iv s4,strV ax,.slice a4 a6.length c4,iv 0] 48 (0,0)):=by rw[<-b3];exact heap_new _ _
   have bj:Below w8 w8 w10:=cd.trans (br.mono fh);have af:Below wr wr w10:=bw.trans (bj.mono bw.size);refine Ah 11 λ K hK=>?_
   go_simp;refine hK _ _ (λ _=>hS w10 bj) ?_;clear hK K
   try simp only[aP]
   have c9:Ge (From w7) w10 (.slice ra q rc) acc:=cc.below af;have dm:Ce (λ j=>From w7 j/\(Value.slice ra q rc).ownBlock≠some j) w10 (.mk k4 o4 n4 t4 s4 ax a6) [iv k4,iv o4,iv n4,strV t4,iv s4,strV ax,.slice a4 a6.length c4,iv 0]:=by
    have hw:∀j,From w8 j->j<w10.heap.size->From w7 j/\(Value.slice ra q rc).ownBlock≠some j:=λ j hj _=>by
     have h1:w8.heap.size<=j:=hj;exact⟨by show w7.heap.size<=j;omega,cc.apart (by omega)⟩
    exact C7 ((cu.since (Since.of_below br)).base' hw) ((dk.since (Since.of_below br)).base hw)
   have f8:=af.size;obtain⟨cj,co,w11,bp,bt,au,cz,eu,c8⟩:=c9.push (ad:=⟨w9,0,none⟩) (cs:=[iv k4,iv o4,iv n4,strV t4,iv s4,strV ax,.slice a4 a6.length c4,iv 0]) (λ j u hj=>by
    have h1:w10.cell? ⟨w9,j,none⟩=some u:=by rw[Be am,List.getElem?_toArray];exact hj
    by_cases h0:j=0
    .subst h0;simpa [Addr.add] using h1
    .simpa [Addr.add,h0] using h1) dm (by have:=bu.out;omega) (λ j hj=>by show w7.heap.size<=j;omega) 1 44
   replace au:Below w7 w10 w11:=au _ (by omega) (λ j hj=>hj);rw[bu.out] at bp bt;have ae:w11.heap[w5.heap.size]?=some (.cells #[iv k,iv 0,iv 0,sE,iv ms,strV hd.result,.slice ra q rc,iv 0] 48 (0,0)):=by rw[au.block _ l7,af.block _ lr];exact cm
   refine Ah 12 λ K hK=>?_
   refine Cl _ _ 44 rfl _ _ rfl rfl _ _ bp ?_;refine hK _ _ (λ h=>by cases h) ?_;clear hK K
   try simp only[aP]
   obtain⟨e0,e1,e2,e3,e4,e5,e6,e7,h0,h1,h2,h3,h4,h5,h6,h7⟩:=Ac ae;have g8:w5<w11.heap.size:=(AB ae).1;refine Ah 13 λ K hK=>?_
   go_simp;refine hK _ _ (λ h=>by cases h) ?_;clear hK K
   try simp only[aP]
   refine Ah 14 λ K hK=>?_
   go_simp;refine hK _ _ (λ h=>by cases h) ?_;clear hK K
   try simp only[aP]
   refine Vv.wpE_done (by kernel_rfl) ?_;obtain⟨w12,ai⟩:∃w12,w11.setCell ⟨w5,6,none⟩ (sL cj 0 (q+1) co)=w12:=⟨_,rfl⟩;have da:Hid ((acc ++ [CE.mk k4 o4 n4 t4 s4 ax a6]).length=q+1/\Fo w5 w7 w7 w12/\w7.heap.size<=w12.heap.size/\w12.heap[w5.heap.size]?=some (.cells #[iv k,iv 0,iv 0,sE,iv ms,strV hd.result,sL cj 0 (q+1) co,iv 0] 48 (0,0))/\Ge (From w7) w12 (sL cj 0 (q+1) co) (acc ++ [CE.mk k4 o4 n4 t4 s4 ax a6])/\R=Ck.bind (Ck.all ((Ck.cEs c args).drop (q+1)) (hd.params.drop (q+1))) λ xs=>.inl (.mk k 0 0 [] ms hd.result ((acc ++ [CE.mk k4 o4 n4 t4 s4 ax a6]) ++ xs))):=by
    refine⟨by rw[length_append,bu.out];rfl,?_,?_,?_,?_,?_⟩
    .rw[<-ai];exact ((b0.below af e8).trans (AU au)).trans (Fo.set 6 _)
    .rw[<-ai];simp[World.setCell];omega
    .rw[<-ai];simp[World.setCell,Array.getElem?_modify,ae]
    .rw[<-ai];exact bt.since ⟨by simp[World.setCell],λ j hj _=>AG _ _ _ _ (by show j≠w5.heap.size;have:w7.heap.size<=j:=hj;omega)⟩
    .rw[HN.out];show Ck.bind (Ck.all _ _) _=_;congr 1;funext xs;simp
   rw[ai];clear bt c9 cc cu dk bp dm ae cm am ai b3 hS cz c8 au e0 e1 e2 e3 e4 e5 e6 e7 h0 h1 h2 h3 h4 h5 h6 h7 bg a3 b0 HN;simp only[Exit.inBlock,Exit.then];refine ‹∀(a:Act) (w:World),_->_› _ _ ?_;go_wp2_with fail;go_roundg (args.length - (q+1))
   case measure=>omega
   case rel=>exact⟨q+1,acc ++ [CE.mk k4 o4 n4 t4 s4 ax a6],some ⟨cj,0,none⟩,co,by omega,rfl,by go_num,da⟩
  .have cv:¬(q:Int)<(args.length:Int):=by omega
   have ep:q=args.length:=by omega
   have dy:R=.inl (.mk k 0 0 [] ms hd.result acc):=by
    rw[cg.out,drop_of_length_le (by rw[Ck.cEs_length];omega),drop_of_length_le (by have:=de.out;omega)];show Sum.inl (CE.mk k 0 0 [] ms hd.result (acc ++ []))=_;rw[append_nil]
   have ct:=(a8.block _ l1).trans ek;obtain⟨r0,r1,r2,r3,r4,r5,r6,r7,t0,t1,fv,t3,fy,t5,t6,t7⟩:=Ac ct;have ed:w0<wr.heap.size:=(AB ct).1;have a5:Af w R (.returned (.agg #[iv k,iv 0,iv 0,sE,iv ms,strV hd.result,.slice ra q rc,iv 0])) (setc8 wr w0 (iv k) (iv 0) (iv 0) sE (iv ms) (strV hd.result) (.slice ra q rc) (iv 0)):=by
    rw[dy];have fa:Since (From w7) wr (setc8 wr w0 (iv k) (iv 0) (iv 0) sE (iv ms) (strV hd.result) (.slice ra q rc) (iv 0)):=⟨by rw[A4];exact AD _,λ j h3 h4=>A3 (by have:w7.heap.size<=j:=h3;omega) _ _ _ _ _ _ _ _⟩;obtain⟨row,e1,e2⟩:=(cc.since fa).row;exact⟨⟨_,row,rfl,e1.base' (λ j hj _=>by show w.heap.size<=j;have:w7.heap.size<=j:=hj;omega),e2.base (λ j hj _=>by show w.heap.size<=j;have:w7.heap.size<=j:=hj;omega)⟩,As (bl.trans (a8.mono (by omega))) (by omega) _ _ _ _ _ _ _ _⟩
   clear cc dy cg cm ct b0 ep;go_wp2_with fail;exact bodyPost_ret (by simp[results,results194,go_sem,ed,r0,r1,r2,r3,r4,r5,r6,r7]) rfl a5
end
end Go.Proofs.YtpckmjfabiallaaGreatDoor
