/- Texts of ours, joined. -/
import Derived.Test.YtpckmjfabiallaaGreatDoorG22
set_option linter.unusedVariables false
set_option linter.unusedSimpArgs false
set_option maxRecDepth 100000
set_option maxHeartbeats 16000000
namespace Go.Proofs.YtpckmjfabiallaaGreatDoor
variable{b g i j mb n0 p:Nat}{cs:List Value}{fs s1 ss v v0:Value}{w w':World}
open List
open Tryz
section
open Go.RowKit
open Ck (CE CS CF CP Mng)
attribute [local go_sem ↓] Go.wp_at_zero Go.wp_at_succ
def Ak8(s:Px.St):Prop:=∀(n0 b mb cb nb:Nat) (v0 ss fs lv nv:Value) (k:Ck.Kx) (env:Ck.Env) (ls names:List (List UInt8)) (cs:AR) (w:World),CkS n0 b mb v0 ss fs k env ls lv w->KOk k env->Sc n0 b cb nb nv names w->Apart lv nv cb nb->ls.length<=32->names.length<=100000->IsSt (Old n0 b mb) w s cs->AA 115 #[pt b 0,.agg cs.toArray,.func (.func 112) #[] #[pt cb 0,pt nb 0]] w λ e w'=>B0 n0 b mb cb nb v0 ss fs k env lv nv names w (Ck.cS k env ls s) e w'
abbrev Kn(n:Nat)(lv nv:Value):Nat->Prop:=λ j=>n<=j/\lv.ownBlock≠some j/\nv.ownBlock≠some j
theorem Stp.turn{nb:Nat}{lv lvr lv' nvr:Value}{wr:World}(s:Stp b mb lv w lvr wr)(hn:w.heap.size<=nb)(a0:∀j,nvr.ownBlock=some j->w.heap.size<=j)(f:Fm (Jd b mb nb lvr nvr) wr w')(a3:∀j,lv'.ownBlock=some j->lvr.ownBlock=some j\/wr.heap.size<=j):Stp b mb lv w lv' w':=
 ⟨s.fm.trans f (λ _ _ e=>e) (λ j hj e=>by
  rcases e with e | e | e | e | e
  .exact AI e
  .exact AJ (AI e)
  .omega
  .rcases s.lv j e with e | e
   .exact AJ (AJ e)
   .omega
  .have:=a0 j e;omega),λ j hj=>by
  rcases a3 j hj with e | e
  .exact s.lv j e
  .exact AJ (by have:=s.fm.size;omega)⟩
structure BkI(n0 b mb cb nb m:Nat)(v0 ss fs lv:Value)(k:Ck.Kx)(env:Ck.Env)(ls:List (List UInt8))(w:World)(l:List Px.St)(R:Ck.R (List CS × Ck.Env × List (List UInt8)))(q:Nat)(acc:List CS)(out lvr nvr:Value)(more:Ck.Env)(lsr:List (List UInt8))(wr:World):Prop where
 len:acc.length=q
 stp:Stp b mb lv w lvr wr
 ck:CkS n0 b mb v0 ss fs k (env ++ more) lsr lvr wr
 sc:Sc n0 b cb nb nvr (more.map Prod.fst) wr
 ap:Apart lvr nvr cb nb
 nv:∀j,nvr.ownBlock=some j->m<=j
 grow:Grow k env ls (env ++ more) lsr
 gs:Gs (Kn m lvr nvr) wr out acc
 sz:m<=wr.heap.size
 ans:R=Ck.bind (Ck.cSs k (env ++ more) lsr (l.drop q)) λ c=>.inl (acc ++ c.1,c.2)
theorem IsSt.cells{B:AS}{s:Px.St}(h:IsSt B w s cs):∃(k p:Nat) (n:AQ) (a1 a2 a3:Option Addr) (l1 l2 l3 c1 c2 c3:Nat),cs=[iv k,strV n,iv 0,.bool false,iv 0,.slice a1 l1 c1,.slice a2 l2 c2,.slice a3 l3 c3,iv p]:=by
 obtain⟨k,n,es,b,c,p⟩:=s;rw[IsSt] at h;obtain⟨s1,s2,s3,r1,r2,r3,rfl,h1,h2,h3,h4,h5,h6⟩:=h;obtain⟨a1,c1,rfl,-,-⟩:=h1.val;obtain⟨a2,c2,rfl,-,-⟩:=h3.val;obtain⟨a3,c3,rfl,-,-⟩:=h5.val;exact⟨k,p,n,a1,a2,a3,_,_,_,c1,c2,c3,rfl⟩
theorem IsSt.since'{B:AS}{s:Px.St}(h:IsSt B w s cs)(e:Since B w w'):IsSt B w' s cs:=IsSt.since e h
theorem Xt:∀{l:List Px.St},Ik l->∀{s},s∈l->ShS s
 | x :: r,h,s,hs=>by
  rw[Ik] at h;rcases mem_cons.1 hs with rfl | hs
  .exact h.1
  .exact Xt h.2 hs
theorem Il{l:List Px.St}(hA:∀s∈l,Ak8 s)(br:Ik l)(d3:l.length<=1000000):Tj l:=by
 intro n0 b mb v0 ss fs k env ls lv sl row w hC hk hl hr ha;obtain⟨ao,cap,rfl,c9,ba⟩:=hr.val;have d5:=hC.sz;have dk:=hC.hb;have c8:=hC.hm;have ce:=Hg (n0:=n0) (b:=b) (w:=w) d5;obtain⟨R,HR⟩:∃R,Hid (Ck.cSs k env ls l=R):=⟨_,rfl⟩;rw[HR.out];have ch:∀lv' w',Stp b mb lv w lv' w'->Since (Old n0 b mb) w w':=λ lv' w' s=>s.fm.since (λ j hj e=>by
  rcases e with e | e | e
  .exact hj.2.1 e
  .exact hj.2.2 e
  .have:=(hC.loc.lt e).1;have:=hj.1;omega)
 have ai:∀(q:Nat),q<l.length->∃s cs g o,s∈l/\l[q]?=some s/\ao=some ⟨g,o,none⟩/\IsSt (Old n0 b mb) w s cs/\∀lv' w',Stp b mb lv w lv' w'->g<w'.heap.size/\∀(j:Nat) (u:Value),cs[j]?=some u->w'.cell? ⟨g,o+q*9+j,none⟩=some u:=λ q hq=>by
  obtain⟨s,hs⟩:∃s,l[q]?=some s:=⟨_,AN hq⟩;obtain⟨cs,k1,k2⟩:=ha.get hs;obtain⟨g,o,c,e1,-,-,hB,hg,ay⟩:=hr.cells (by omega);simp only[Value.slice.injEq] at e1;refine⟨s,cs,g,o,mem_of_getElem? hs,hs,e1.1,k1,λ lv' w' st=>?_⟩;have h1:=ch lv' w' st;refine⟨by have:=h1.size;omega,λ j u hj=>?_⟩;have dh:j<9:=by have:=(AK hj).1;rw[k1.len] at this;exact this
  rw[World.cell?_of_block (w:=w) (h1.block g hB hg),Nat.add_assoc];exact ay _ _ (by rw[k2 j dh];exact hj)
 clear hr ha;go_enter func77,ntmps77;go_wp2_with fail;refine ce.mono ?_;rintro e w1 ⟨cb,nb,rfl,au,dq,cc,bs⟩;clear ce;have c6:Hid (BkI n0 b mb cb nb w1.heap.size v0 ss fs lv k env ls w l R 0 [] sZ lv sZ [] ls w1):=by
  have dt:=(AB au.cbk).1;have dr:=(AB au.nbk).1;refine⟨rfl,BG bs,by rw[append_nil];exact hC.keep bs,au,⟨λ e=>?_,λ e=>?_,λ j _ e=>(by cases e)⟩,λ j e=>(by cases e),by rw[append_nil];exact Grow.refl hk hl,Gs.nil _ _,AD _,?_⟩
  .have:=(hC.loc.lt e).2;omega
  .have:=(hC.loc.lt e).2;omega
  .rw[append_nil,drop_zero,HR.out];rcases R with⟨x1,x2⟩ | r <;> simp[Ck.bind]
 have cz:cb<w1.heap.size:=(AB au.cbk).1;have d8:nb<w1.heap.size:=(AB au.nbk).1;have df:=bs.size;have bo:=hC.bm;clear HR hC au;go_wp2_with fail
 go_loopg [7,17] l.length (λ gh out i wr=>∃q acc oa oc lvr nvr more lsr,q<=l.length/\gh=l.length - q/\out=.slice oa q oc/\i=iv q/\Hid (BkI n0 b mb cb nb w1.heap.size v0 ss fs lv k env ls w l R q acc (.slice oa q oc) lvr nvr more lsr wr))
 case atStart=>exact⟨0,[],none,0,lv,sZ,[],ls,AO _,rfl,rfl,rfl,c6⟩
 case round=>
  obtain⟨q,acc,oa,oc,lvr,nvr,more,lsr,hq,rfl,rfl,rfl,HI⟩:=hrel;clear c6;by_cases hlt:q<l.length
  .have bq:(q:Int)<(l.length:Int):=by omega
   obtain⟨s,cs,g,o,b0,bv,rfl,bg,a4⟩:=ai q hlt;obtain⟨k4,p4,n4,a1,a2,a3,l1,l2,l3,c1,c2,c3,rfl⟩:=bg.cells;obtain⟨dn,a8⟩:=a4 _ _ HI.out.stp;have u0:wr.cell? ⟨g,o+q*9,none⟩=some (iv k4):=a8 0 _ rfl;have u1:=a8 1 _ rfl;have u2:=a8 2 _ rfl;have u3:=a8 3 _ rfl;have u4:=a8 4 _ rfl;have u5:=a8 5 _ rfl;have u6:=a8 6 _ rfl;have u7:=a8 7 _ rfl;have u8:=a8 8 _ rfl;obtain⟨wz,w3,d4,db,b3,cq,cu,cr,ag,ae⟩:=J7 wr (iv k4) (strV n4) (iv 0) (.bool false) (iv 0) (.slice a1 l1 c1) (.slice a2 l2 c2) (.slice a3 l3 c3) (iv p4);have lz:wr.heap.size<wz.heap.size:=by omega
   have ds:wr.heap.size<w3.heap.size:=by omega
   clear cq cu;obtain⟨z0,z1,z2,z3,z4,z5,z6,z7,z8,f0,f1,f2,f3,f4,f5,f6,f7,f8⟩:=Aj ae;obtain⟨dj,da,ct,di,dc,cw,de,cy,dl,-⟩:=Aj ag;have a9:Stp b mb lv w lvr w3:=HI.out.stp.trans (BG b3);have b6:=HI.out.ck.keep b3;have b7:Sc n0 b cb nb nvr (more.map Prod.fst) w3:=HI.out.sc.keep (λ j hj=>b3.block j (by
    have:=HI.out.sz;rcases hj with rfl | rfl | e
    .omega
    .omega
    .exact (HI.out.sc.own.lt e).2))
   have al:=HI.out.grow;have c4:more.length<=32:=by
    obtain⟨m2,e1,e2,-⟩:=al.more;have:=append_cancel_left e1;subst this;have:=al.len;omega
   have co:=hA s b0 n0 b mb cb nb v0 ss fs lvr nvr k (env ++ more) lsr (more.map Prod.fst) _ w3 b6 al.ok b7 HI.out.ap al.len (by simp;omega) (bg.since' (ch _ _ a9));have ca:∀x env' ls',Ck.cS k (env ++ more) lsr s=.inl (x,env',ls')->Grow k (env ++ more) lsr env' ls':=λ x env' ls' e=>Xs s (env ++ more) lsr (x,env',ls') al.ok al.len (Xt br b0) e
   have ah:l.drop q=s :: l.drop (q+1):=by
    obtain⟨hi,rfl⟩:=AK bv;exact drop_eq_getElem_cons hi
   have bi:Hid (R=Ck.bind (Ck.cS k (env ++ more) lsr s) λ a=>Ck.bind (Ck.cSs k a.2.1 a.2.2 (l.drop (q+1))) λ c=>.inl (acc ++ (a.1 :: c.1),c.2)):=by
    show _=_;rw[HI.out.ans,ah,Ck.cSs];generalize Ck.cS k (env ++ more) lsr s=D;rcases D with a | e
    .simp only[Ck.bind];generalize Ck.cSs k a.2.1 a.2.2 (l.drop (q+1))=E;rcases E with c | e <;> rfl
    .rfl
   generalize Ck.cS k (env ++ more) lsr s=D at *;have aa:Below wr.heap.size wr w3:=b3;clear ai a4 a8 bg bv ah br b6 b7 al ae ag b3 cr hA;go_wp2_with fail;refine co.mono ?_;rintro e w5 hP;clear co u0 u1 u2 u3 u4 u5 u6 u7 u8 z0 z1 z2 z3 z4 z5 z6 z7 z8 f0 f1 f2 f3 f4 f5 f6 f7 f8 dj da ct di dc cw de cy dl d4 db;have bb:∀j,nvr.ownBlock=some j->w.heap.size<=j:=λ j e=>by have:=HI.out.nv j e;omega
   rcases D with⟨⟨k5,o5,f5,n5,ar,aw,av⟩,env',ls'⟩ | ⟨a,er⟩
   rotate_left
   .obtain⟨hm,hF⟩:=hP;obtain rfl:=hm;have a6:Ij n0 b mb v0 ss fs k env lv w R (.panicked (Ag a er)) w5:=by
     rw[bi.out];exact⟨rfl,(a9.turn cc bb hF (λ j e=>AI e)).fm⟩
    exact⟨rfl,a6⟩
   obtain⟨lv',ab,a0,dm,rfl,bp,rfl,bn,aq,cl,ax,am,ak⟩:=hP;have b9:=ca _ _ _ rfl;have c5:=bp;rw[C0] at c5;obtain⟨t1,t2,t3,r1,r2,r3,rfl,h1,h2,h3,h4,h5,h6⟩:=c5;obtain⟨e1,e2,rfl,-,-⟩:=h1.val;obtain⟨e3,e4,rfl,-,-⟩:=h3.val;obtain⟨e5,e6,rfl,-,-⟩:=h5.val;clear h1 h2 h3 h4 h5 h6;obtain⟨w6,bd⟩:∃w6,w5.alloc (.cells #[iv k5,sE,iv o5,.bool f5,iv n5,.slice e1 ar.length e2,.slice e3 aw.length e4,.slice e5 av.length e6,iv 0] 46)=w6:=⟨_,rfl⟩;have b4:Below w5.heap.size w5 w6:=by rw[<-bd];exact (AF _ _).alloc (AD _) _
   have l6:w5.heap.size<w6.heap.size:=by rw[<-bd];simp
   have af:w6.heap[w5.heap.size]?=some (.cells #[iv k5,sE,iv o5,.bool f5,iv n5,.slice e1 ar.length e2,.slice e3 aw.length e4,.slice e5 av.length e6,iv 0] 46 (0,0)):=by rw[<-bd];exact heap_new _ _
   have d9:=aa.size;have d2:=ax.size;have d1:=b4.size;have d6:=HI.out.sz;have az:∀j,ab.ownBlock=some j->w1.heap.size<=j:=λ j e=>by
    rcases ak j e with e | e
    .exact HI.out.nv j e
    .omega
   have bu:Gs (Kn w1.heap.size lv' ab) w6 (.slice oa q oc) acc:=by
    have d7:=HI.out.gs.below aa;have cp:Gs (λ j=>Kn w1.heap.size lvr nvr j/\j<w3.heap.size) w3 (.slice oa q oc) acc:=d7.base (λ j h1 h2=>⟨h1,h2⟩);have be:=cp.since (w':=w5) ⟨ax.size,λ j hj hl=>ax.block j hl (by
     obtain⟨⟨j1,j2,j3⟩,j4⟩:=hj;rintro (e | e | e | e | e)
     .omega
     .omega
     .omega
     .exact j2 e
     .exact j3 e)⟩
    refine (be.base (λ j hj _=>?_)).below b4;obtain⟨⟨j1,j2,j3⟩,j4⟩:=hj;refine⟨j1,λ e=>?_,λ e=>?_⟩
    .rcases am j e with e | e
     .exact j2 e
     .omega
    .rcases ak j e with e | e
     .exact j3 e
     .omega
   have cg:C0 (λ j=>Kn w1.heap.size lv' ab j/\(Value.slice oa q oc).ownBlock≠some j) w6 (.mk k5 o5 f5 n5 ar aw av) [iv k5,sE,iv o5,.bool f5,iv n5,.slice e1 ar.length e2,.slice e3 aw.length e4,.slice e5 av.length e6,iv 0]:=by
    refine (bp.since (Since.of_below b4)).base (λ j hj hl=>⟨⟨by have:=hj.1;omega,hj.2.1,hj.2.2⟩,λ e=>?_⟩);have h9:=(HI.out.gs.below aa).apart (k:=j) hj.1;exact h9 e
   have cd:∀j,w6.heap.size<=j->Kn w1.heap.size lv' ab j:=λ j hj=>⟨by omega,λ e=>by have:=(bn.loc.lt e).2;omega,λ e=>by have:=(aq.own.lt e).2;omega⟩
   have ci:acc.length+1<=1000000:=by
    have:=HI.out.len;have:cap<=9223372036854775807:=ba;exact AP (Nat.succ_le_of_lt (by rw[HI.out.len];exact hlt)) d3
   obtain⟨g7,c7,w7,bh,bk,cm,cf,dd,bt⟩:=bu.push (ad:=⟨w5.heap.size,0,none⟩) (cs:=[iv k5,sE,iv o5,.bool f5,iv n5,.slice e1 ar.length e2,.slice e3 aw.length e4,.slice e5 av.length e6,iv 0]) (λ j u hj=>by
    have h1:w6.cell? ⟨w5.heap.size,j,none⟩=some u:=by rw[Bl af,List.getElem?_toArray];exact hj
    by_cases h0:j=0
    .subst h0;simpa [Addr.add] using h1
    .simpa [Addr.add,h0] using h1) cg ci cd 1 34
   rw[HI.out.len] at bh bk;have a5:∀j,(Value.slice oa q oc).ownBlock=some j->w1.heap.size<=j/\lv'.ownBlock≠some j/\ab.ownBlock≠some j:=λ j e=>by
    obtain⟨cv,-,h0,-⟩:=bu;exact h0 j e
   have b8:Hid (BkI n0 b mb cb nb w1.heap.size v0 ss fs lv k env ls w l R (q+1) (acc ++ [.mk k5 o5 f5 n5 ar aw av]) (sL g7 0 (q+1) c7) lv' ab (more ++ a0) ls' w7):=by
    have a7:Fm (λ j=>(Value.slice oa q oc).ownBlock=some j) w6 w7:=by
     have bj:=cm 0 (AO _) (λ _ _=>AO _);exact⟨bj.os,bj.tape,bj.output,dd,λ j h1 h2=>cf j h1 h2⟩
    have aj:Fm (λ j=>(Value.slice oa q oc).ownBlock=some j) w5 w7:=(Fm.of_below (X:=λ _=>False) b4).trans a7 (λ _ _ h=>h.elim) (λ _ _ h=>h);have c0:=a9.turn cc bb ax am;refine⟨by rw[length_append,HI.out.len];rfl,?_,?_,?_,cl,az,?_,bk,by omega,?_⟩
    .exact⟨c0.fm.trans aj (λ _ _ h=>h) (λ j hj e=>by have:=(a5 j e).1;omega),c0.lv⟩
    .rw[<-append_assoc];exact bn.fm aj (λ j hj=>⟨by have:=(a5 j hj).1;omega,(a5 j hj).2.1⟩)
    .rw[map_append];refine aq.keep (λ j hj=>aj.block j ?_ ?_)
     .rcases hj with rfl | rfl | e
      .exact (AB aq.cbk).1
      .exact (AB aq.nbk).1
      .exact (aq.own.lt e).2
     .intro e;have h9:=a5 j e;rcases hj with rfl | rfl | e2
      .omega
      .omega
      .exact h9.2.2 e2
    .rw[<-append_assoc];exact HI.out.grow.trans b9
    .rw[bi.out];simp only[Ck.bind,append_assoc,singleton_append]
   clear bp bn aq cl ax am ak b9 b4 af bu cg cd bk cm cf bt a5 bi ca a9 az aa HI ci;rcases oa with _ | oa
   .go_wp2_with (at_builtin;refine Lib.wpList_append_run _ rfl _ _ 34 34 rfl _ _ rfl rfl _ _ bh ?_)
    go_roundg (l.length - (q+1))
    case measure=>omega
    case rel=>exact⟨q+1,_,some ⟨g7,0,none⟩,c7,lv',ab,more ++ a0,ls',by omega,rfl,rfl,by go_num,b8⟩
   .go_wp2_with (at_builtin;refine Lib.wpList_append_run _ rfl _ _ 34 34 rfl _ _ rfl rfl _ _ bh ?_)
    go_roundg (l.length - (q+1))
    case measure=>omega
    case rel=>exact⟨q+1,_,some ⟨g7,0,none⟩,c7,lv',ab,more ++ a0,ls',by omega,rfl,rfl,by go_num,b8⟩
  .have bq:¬(q:Int)<(l.length:Int):=by omega
   have d0:q=l.length:=by omega
   have cj:R=.inl (acc,env ++ more,lsr):=by
    rw[HI.out.ans,drop_of_length_le (by omega)];simp[Ck.cSs,Ck.bind]
   clear d0;have bl:∀y∈env,∀x∈more,y.1≠x.1:=by
    obtain⟨m2,e1,-,e3⟩:=HI.out.grow.more;have:=append_cancel_left e1;subst this;exact e3
   have bx:=Ih HI.out.ck.blk HI.out.ck.env HI.out.sc c8 bo bl;clear ai br hA;go_wp2_with fail;refine bx.mono ?_;rintro e w7 ⟨rfl,bw,a7⟩;clear bx;have a6:Ij n0 b mb v0 ss fs k env lv w R (.returned (.slice oa q oc)) w7:=by
    rw[cj];have hC:=HI.out.ck;have bc:=HI.out.stp;have b5:∀j,lvr.ownBlock=some j->n0<=j/\j<wr.heap.size:=λ j e=>hC.loc.lt e
    have h8:=HI.out.gs.since (w':=w7) ⟨a7.size,λ j hj hl=>a7.block j hl (by have:=hj.1;omega)⟩;obtain⟨bf,i1,i2⟩:=h8.row;have hl:=HI.out.len;subst hl;refine⟨lvr,oa,oc,rfl,⟨bf,i1.base' (λ j hj _=>⟨by have:=hj.1;omega,hj.2.1⟩),i2.base (λ j hj _=>⟨by have:=hj.1;omega,hj.2.1⟩)⟩,⟨(a7.block b (by have:=bc.fm.size;omega) bo).trans hC.blk,hC.hds.since (a7.since (λ j hj e=>hj.2.2 e)),bw,hC.loc.since (λ j hj=>a7.block j (b5 j hj).2 (λ e=>by have:=(b5 j hj).1;omega)),dk,c8,bo,by have:=a7.size;have:=bc.fm.size;omega⟩,bc.fm.trans a7 (λ _ _ h=>h) (λ j _ e=>AJ (AI e)),bc.lv⟩
   clear HI bw a7 cj;go_wp2_with fail;exact bodyPost_ret (by simp[results,results77,go_sem]) rfl a6
theorem As3{x:Px.Ex}(hE:EOk x){n:AQ}{lv:Value}{k:Ck.Kx}{env:Ck.Env}{ls:List (List UInt8)}(h:CkS n0 b mb v0 ss fs k env ls lv w)(ho:KOk k env){row:AR}(hr:SlRow (Old n0 b mb) w 8 s1 1 row)(ha:Ai (Old n0 b mb) w [x] row)(b2 b3:Option Addr)(m2 m3 d2 d3:Nat)(nt:Value) :
  AA 115 #[pt b 0,.agg (stA 6 n s1 (.slice b2 m2 d2) (.slice b3 m3 d3) p),nt] w λ e w'=>Ax w (Ck.bind (Ck.asked (Ck.cE (k.at env) x,Ck.plc x) k.result) λ x=>.inl (CS.mk 6 0 false 0 [x] [] [])) e w':=by
 obtain⟨kk,Hk⟩:∃kk:Nat,Hid (6=kk):=⟨_,rfl⟩;have i1:((kk:Int) == 1)=false:=by rw[<-Hk.out];rfl
 have i2:((kk:Int) == 2)=false:=by rw[<-Hk.out];rfl
 have i3:((kk:Int) == 3)=false:=by rw[<-Hk.out];rfl
 have i4:((kk:Int) == 4)=false:=by rw[<-Hk.out];rfl
 have i5:((kk:Int) == 5)=false:=by rw[<-Hk.out];rfl
 have bu:Hid ((Ck.bind (Ck.asked (Ck.cE (k.at env) x,Ck.plc x) k.result) λ x=>.inl (CS.mk 6 0 false 0 [x] [] []))=(Ck.bind (Ck.asked (Ck.cE (k.at env) x,Ck.plc x) k.result) λ x=>.inl (CS.mk kk 0 false 0 [x] [] []):Ck.R CS)):=by rw[<-Hk.out];rfl
 rw[bu.out];have b5:Hid (stA 6 n s1 (.slice b2 m2 d2) (.slice b3 m3 d3) p=stA kk n s1 (.slice b2 m2 d2) (.slice b3 m3 d3) p):=by rw[<-Hk.out];rfl
 rw[b5.out];clear bu b5 Hk;obtain⟨w0,w1,cu,cr,l0,l1,co,az,cy,bw,bv⟩:=D9 w kk n s1 (.slice b2 m2 d2) (.slice b3 m3 d3) p;have bn:=hr.since (Since.of_below az);have bj:=ha.since (Since.of_below az);have h1:=h.keep az;obtain⟨hh,aw,b6⟩:=ho.cur;obtain⟨bx,⟨cg,ce⟩,bp⟩:=h1.hds;obtain⟨-,-,-,-,-,-,-,-,-,-,-,-,e3,-⟩:=bp _ _ aw;have b8:k.number<k.heads.length:=(AK aw).1;rcases ce with⟨-,cl⟩ | ⟨gf,of,fc,rfl,bi,bf,-,cj,ab⟩
 .omega
 have ay:=ab _ _ e3;rw[<-Nat.add_assoc] at ay;rw[b6] at ay;unfold maxLen at bf;obtain⟨g,og,cap,ka,oa,na,ta,aa,pa,cq,cf,rfl,c8,hg,rfl,⟨u0,u1,u2,u3,u4,u5,u6,u7⟩,bd,bt⟩:=Bj (args:=[x]) bn bj rfl;have hA:=λ w' (hb:Below w1.heap.size w1 w')=>Ca hE rfl (h1.keep hb).at ho.cx (bd.since (Since.of_below hb)) (bt.since (Since.of_below hb)) k.result
 obtain⟨be,aj,rfl,-,-⟩:=bd.val;obtain⟨d0,d1,ch,cd,d4,d5,d6,d7,d8,-⟩:=Aj bw;obtain⟨c0,c1,c2,c3,c4,c5,-⟩:=Bh h1.blk;have cw:=h.hb;have cp:=h.sz;have br:b<w1.heap.size:=by omega
 obtain⟨R,HR⟩:∃R:Ck.R CS,Hid ((Ck.bind (Ck.asked (Ck.cE (k.at env) (.mk ka oa na ta aa pa),pa) k.result) λ x=>.inl (CS.mk kk 0 false 0 [x] [] []))=R):=⟨_,rfl⟩;show Calls _ _ _ _ λ e w'=>Ax w (Ck.bind (Ck.asked (Ck.cE (k.at env) (.mk ka oa na ta aa pa),pa) k.result) λ x=>.inl (CS.mk kk 0 false 0 [x] [] [])) e w'
 rw[HR.out];generalize Ck.asked (Ck.cE (k.at env) (.mk ka oa na ta aa pa),pa) k.result=C at *;have i0:(0:Int)<1:=by omega
 have ct:([Px.Ex.mk ka oa na ta aa pa]:List Px.Ex).length=1:=rfl;obtain⟨nu,bo⟩:∃nu,k.number=nu:=⟨_,rfl⟩;obtain⟨nh,bq⟩:∃nh,k.heads.length=nh:=⟨_,rfl⟩;obtain⟨ry,bl⟩:∃ry,k.result=ry:=⟨_,rfl⟩;rw[bo] at c4 ay b8;rw[bq] at b8 bi c2;rw[bl] at ay hA;have cv:(0:Int)<=(nu:Int):=by omega
 have cm:(nu:Int)<(nh:Int):=by omega
 clear hr ha hE bn bj h1 bd bt ab bp cg h aw b6 e3 bo bq bl;simp only[length_cons,length_nil,Nat.zero_add] at *;have af:∀w3 k2 o2 n2 t2 s2 y2 a0 sl2 row2,Below w1.heap.size w1 w3->SlRow (From w1.heap.size) w3 8 sl2 (List.length a0) row2->Aw (From w1.heap.size) w3 a0 row2->C=.inl (.mk k2 o2 n2 t2 s2 y2 a0) ->
   Ax w R (.returned (.agg #[iv kk,sE,iv 0,.bool false,iv 0,sL w3.heap.size 0 1 1,sZ,sZ,iv 0])) (A6 (w3.alloc (.cells #[iv k2,iv o2,iv n2,strV t2,iv s2,strV y2,sl2,iv 0] 48)) w0.heap.size (iv kk) sE (iv 0) (.bool false) (iv 0) (sL w3.heap.size 0 1 1) sZ sZ (iv 0)):=by
  intro w3 k2 o2 n2 t2 s2 y2 a0 sl2 row2 ad av aq hC;have hR:R=.inl (.mk kk 0 false 0 [.mk k2 o2 n2 t2 s2 y2 a0] [] []):=by rw[<-HR.out,hC];rfl
  rw[hR];obtain⟨w8,ah⟩:∃w8,w3.alloc (.cells #[iv k2,iv o2,iv n2,strV t2,iv s2,strV y2,sl2,iv 0] 48)=w8:=⟨_,rfl⟩;have al:Below w3.heap.size w3 w8:=by rw[<-ah];exact (AF _ _).alloc (AD _) _
  have b0:SlRow (From w3.heap.size) w8 8 (sL w3.heap.size 0 1 1) 1 [iv k2,iv o2,iv n2,strV t2,iv s2,strV y2,sl2,iv 0]:=by rw[<-ah];exact En (AD _)
  rw[ah];have bb:=ad.size;have ar:Since (From w1.heap.size) w8 (A6 w8 w0.heap.size (iv kk) sE (iv 0) (.bool false) (iv 0) (sL w3.heap.size 0 1 1) sZ sZ (iv 0)):=⟨by rw[Bg];exact AD _,λ j hj _=>Ar (by have:w1.heap.size<=j:=hj;omega) _ _ _ _ _ _ _ _ _⟩;have lo:∀{wx:World} j,From w1.heap.size j->j<wx.heap.size->From w.heap.size j:=λ {wx} j hj _=>by have:w1.heap.size<=j:=hj;show w.heap.size<=j;omega
  have c6:∀{wx:World} j,From w3.heap.size j->j<wx.heap.size->From w1.heap.size j:=λ {wx} j hj _=>by have:w3.heap.size<=j:=hj;show w1.heap.size<=j;omega
  have ba:Below w1.heap.size w1 w8:=ad.trans (al.mono bb);exact⟨⟨_,rfl,Gr (((b0.base' c6).since ar).base' lo) (Kz (De (((av.since (Since.of_below al)).since ar).base' lo) (((aq.since (Since.of_below al)).since ar).base lo))) BF Au.nil BF Au.nil⟩,B1 (az.trans (ba.mono (by omega))) (by omega) _ _ _ _ _ _ _ _ _⟩
 have ag:∀a er wx w2,C=.inr (a,er)->Below w1.heap.size w1 wx->Below wx.heap.size wx w2->Ax w R (.panicked (Ag a er)) w2:=λ a er wx w2 hC hbx a8=>by
  rw[<-HR.out,hC];exact⟨rfl,az.trans ((hbx.trans (a8.mono hbx.size)).mono (by omega))⟩
 clear HR;go_enter func115,ntmps115;go_wp2_with fail;have hS:∀w',Below w1.heap.size w1 w'->(w'.cell? ⟨w.heap.size,5,none⟩=some (sL g og 1 cap)/\w'.cell? ⟨g,og,none⟩=some (iv ka)/\w'.cell? ⟨g,og+1,none⟩=some (iv oa)/\w'.cell? ⟨g,og+2,none⟩=some (iv na)/\w'.cell? ⟨g,og+3,none⟩=some (strV ta)/\w'.cell? ⟨g,og+4,none⟩=some (iv 0)/\w'.cell? ⟨g,og+5,none⟩=some sE/\w'.cell? ⟨g,og+6,none⟩=some (.slice be aa.length aj)/\w'.cell? ⟨g,og+7,none⟩=some (iv pa)/\w'.cell? ⟨b,2,none⟩=some (sL gf of nh fc)/\w'.cell? ⟨b,4,none⟩=some (iv nu)/\w'.cell? ⟨gf,of+nu*7+3,none⟩=some (strV ry)):=λ w' hb=>by
  obtain⟨bc,-⟩:=bcell hb;exact⟨(bc _ _ (by omega)).trans d5,(bc _ _ hg).trans u0,(bc _ _ hg).trans u1,(bc _ _ hg).trans u2,(bc _ _ hg).trans u3,(bc _ _ hg).trans u4,(bc _ _ hg).trans u5,(bc _ _ hg).trans u6,(bc _ _ hg).trans u7,(bc _ _ br).trans c2,(bc _ _ br).trans c4,(bc _ _ cj).trans ay⟩
 have hz:∀w',Below w1.heap.size w1 w'->w'.heap[w0.heap.size]?=some (.cells #[iv 0,sE,iv 0,.bool false,iv 0,sZ,sZ,sZ,iv 0] 46 (0,0))/\w'.cell? ⟨w.heap.size,0,none⟩=some (iv kk)/\w.heap.size<w'.heap.size:=λ w' hb=>⟨(hb.block _ l1).trans bv,((bcell hb).1 _ _ (by omega)).trans d0,by have:=hb.size;omega⟩
 have ax:Below w1.heap.size w1 w1.drew:=(AF _ _).drew;clear d0 d1 ch cd d4 d5 d6 d7 d8 u0 u1 u2 u3 u4 u5 u6 u7 c0 c1 c2 c3 c4 c5 ay bw bv;refine Vv.wpE_begin (S:=λ w'=>w'.cell? ⟨w.heap.size,5,none⟩=some (sL g og 1 cap)/\w'.cell? ⟨g,og,none⟩=some (iv ka)/\w'.cell? ⟨g,og+1,none⟩=some (iv oa)/\w'.cell? ⟨g,og+2,none⟩=some (iv na)/\w'.cell? ⟨g,og+3,none⟩=some (strV ta)/\w'.cell? ⟨g,og+4,none⟩=some (iv 0)/\w'.cell? ⟨g,og+5,none⟩=some sE/\w'.cell? ⟨g,og+6,none⟩=some (.slice be aa.length aj)/\w'.cell? ⟨g,og+7,none⟩=some (iv pa)/\w'.cell? ⟨b,2,none⟩=some (sL gf of nh fc)/\w'.cell? ⟨b,4,none⟩=some (iv nu)/\w'.cell? ⟨gf,of+nu*7+3,none⟩=some (strV ry)) (N:=λ j=>decide (j<17) || j == 18) (by kernel_rfl) ?_;have a6:=hS w1.drew ax;have bs:w1.drew.heap.size<=w1.heap.size:=AD _;have bk:w1.heap.size<=w1.drew.heap.size:=AD _;generalize w1.drew=wd at *;refine Aa 53 [17,19] 0 (pt b 0) a6 ?_
 try simp only[aP]
 refine Aa 54 [2,3,4,17,19] 1 (pt w.heap.size 5) a6 ?_
 try simp only[aP]
 refine Aa 55 [3,4,17,19] 2 (sL g og 1 cap) a6 ?_
 try simp only[aP]
 refine Aa 56 [4,17,19] 3 (pt g og) a6 ?_
 try simp only[aP]
 refine Aa 57 [17,19] 4 (.agg (exA ka oa na ta (.slice be aa.length aj) pa)) a6 ?_
 try simp only[aP]
 refine Aa 58 [6,7,8,9,14,15,16,17,19] 5 (pt b 0) a6 ?_
 try simp only[aP]
 refine Aa 59 [7,8,9,14,15,16,17,19] 6 (pt b 0) a6 ?_
 try simp only[aP]
 refine Aa 60 [8,9,14,15,16,17,19] 7 (pt b 0) a6 ?_
 try simp only[aP]
 refine Aa 61 [9,14,15,16,17,19] 8 (pt b 2) a6 ?_
 try simp only[aP]
 refine Aa 62 [14,15,16,17,19] 9 (sL gf of nh fc) a6 ?_
 try simp only[aP]
 refine Aa 63 [11,12,13,14,15,16,17,19] 10 (pt b 0) a6 ?_
 try simp only[aP]
 refine Aa 64 [12,13,14,15,16,17,19] 11 (pt b 0) a6 ?_
 try simp only[aP]
 refine Aa 65 [13,14,15,16,17,19] 12 (pt b 4) a6 ?_
 try simp only[aP]
 refine Aa 66 [14,15,16,17,19] 13 (iv nu) a6 ?_
 try simp only[aP]
 refine Aa 67 [15,16,17,19] 14 (pt gf (of+nu*7)) a6 ?_
 try simp only[aP]
 refine Aa 68 [16,17,19] 15 (pt gf (of+nu*7+3)) a6 ?_
 try simp only[aP]
 refine Aa 69 [17,19] 16 (strV ry) a6 ?_
 try simp only[aP]
 refine Vv.wpE_two (i:=17) (j:=18) (by kernel_rfl) rfl rfl rfl rfl (λ K hK=>?_) (λ K hK=>?_)
 .go_simp;refine (hA wd ax).mono ?_;rintro e w2 hP;rcases C with⟨k2,o2,n2,t2,s2,y2,a0⟩ | ⟨a,er⟩
  rotate_left
  .obtain⟨hm,a8⟩:=hP;obtain rfl:=hm;have a3:=ag a er wd w2 rfl ax a8;exact⟨rfl,a3⟩
  obtain⟨sl2,row2,rfl,ai,b7,a8⟩:=hP.inl;obtain⟨a2,c2,rfl,-,-⟩:=ai.val;have cc:=a8.size;have a7:=ax.trans (a8.mono ax.size);refine hK _ _ (λ h=>by cases h) ?_;clear hK K
  try simp only[aP]
  obtain⟨wz,w3,b4,b9,au,bb,c9,ae,a5,a4⟩:=Cc w2 (iv k2) (iv o2) (iv n2) (strV t2) (iv s2) (strV y2) (.slice a2 a0.length c2) (iv 0);have lz:w2.heap.size<wz.heap.size:=by omega
  have l3:w2.heap.size<w3.heap.size:=by omega
  clear bb c9;obtain⟨z0,z1,z2,z3,z4,z5,z6,z7,f0,f1,f2,f3,f4,f5,f6,f7⟩:=Ac a4;refine Ah 18 λ K hK=>?_
  go_simp;refine hK _ _ (λ _=>hS wz (a7.trans (ae.mono a7.size))) ?_;clear hK K
  try simp only[aP]
  refine Ah 19 λ K hK=>?_
  go_simp;refine hK _ _ (λ h=>by cases h) ?_;clear hK K
  try simp only[aP]
  have ad:Below w1.heap.size w1 w3:=a7.trans (au.mono a7.size);have up:∀{wx:World} j,From wd.heap.size j->j<wx.heap.size->From w1.heap.size j:=λ {wx} j hj _=>by have:wd.heap.size<=j:=hj;show w1.heap.size<=j;omega
  have av:=(ai.base' up).since (Since.of_below au);have aq:=(b7.base up).since (Since.of_below au);clear z0 z1 z2 z3 z4 z5 z6 z7 f0 f1 f2 f3 f4 f5 f6 f7 a4 ae b4;refine Vv.wpE_done (by kernel_rfl) ?_;simp only[Exit.inBlock,Exit.then];refine ‹∀(a:Act) (w:World),_->_› _ _ ?_;obtain⟨q0,q1,q2,q3,q4,q5,q6,q7,-⟩:=Ac a5;obtain⟨ak,ci,ca⟩:=hz w3 ad;have a3:=af w3 k2 o2 n2 t2 s2 y2 a0 (.slice a2 a0.length c2) row2 ad av aq rfl;obtain⟨w8,ah⟩:∃w8,w3.alloc (.cells #[iv k2,iv o2,iv n2,strV t2,iv s2,strV y2,.slice a2 a0.length c2,iv 0] 48)=w8:=⟨_,rfl⟩;rw[ah] at a3;have am:w8.heap[w0.heap.size]?=some (.cells #[iv 0,sE,iv 0,.bool false,iv 0,sZ,sZ,sZ,iv 0] 46 (0,0)):=by
   have al:Below w3.heap.size w3 w8:=by rw[<-ah];exact (AF _ _).alloc (AD _) _
   exact (al.block _ (AB ak).1).trans ak
  obtain⟨r0,r1,r2,r3,r4,r5,r6,r7,r8,t0,t1,c7,t3,t4,t5,t6,t7,t8⟩:=Aj am;have bg:w0.heap.size<w8.heap.size:=(AB am).1;clear af hz ag hS a6 hA ai b7 av aq a5 am ak ad a7;go_wp2_with fail;exact bodyPost_ret (by simp[results,results115,go_sem,bg,r0,r1,r2,r3,r4,r5,r6,r7,r8]) rfl a3
 .obtain⟨wz,b4⟩:∃wz,wd.alloc (.cells #[iv 0,iv 0,iv 0,sE,iv 0,sE,sZ,iv 0] 48)=wz:=⟨_,rfl⟩;have bh:Below wd.heap.size wd wz:=by rw[<-b4];exact (AF _ _).alloc (AD _) _
  have ae:Below w1.heap.size w1 wz:=ax.trans (bh.mono (by omega));have a4:wz.heap[wd.heap.size]?=some (.cells #[iv 0,iv 0,iv 0,sE,iv 0,sE,sZ,iv 0] 48 (0,0)):=by rw[<-b4];exact heap_new _ _
  have lz:wd.heap.size<wz.heap.size:=(AB a4).1;go_simp;refine hK _ _ (λ _=>hS wz ae) ?_;clear hK K
  try simp only[aP]
  refine Ah 17 λ K hK=>?_
  go_simp;refine (hA wz ae).mono ?_;rintro e w2 hP;rcases C with⟨k2,o2,n2,t2,s2,y2,a0⟩ | ⟨a,er⟩
  rotate_left
  .obtain⟨hm,a8⟩:=hP;obtain rfl:=hm;have a3:=ag a er wz w2 rfl ae a8;exact⟨rfl,a3⟩
  obtain⟨sl2,row2,rfl,ai,b7,a8⟩:=hP.inl;obtain⟨a2,c2,rfl,-,-⟩:=ai.val;have cc:=a8.size;have a7:=ae.trans (a8.mono ae.size);refine hK _ _ (λ h=>by cases h) ?_;clear hK K
  try simp only[aP]
  have a9:=(a8.block _ lz).trans a4;obtain⟨z0,z1,z2,z3,z4,z5,z6,z7,f0,f1,f2,f3,f4,f5,f6,f7⟩:=Ac a9;have l2:wd.heap.size<w2.heap.size:=by omega
  obtain⟨w3,b9⟩:∃w3,setc8 w2 wd.heap.size (iv k2) (iv o2) (iv n2) (strV t2) (iv s2) (strV y2) (.slice a2 a0.length c2) (iv 0)=w3:=⟨_,rfl⟩;have a5:w3.heap[wd.heap.size]?=some (.cells #[iv k2,iv o2,iv n2,strV t2,iv s2,strV y2,.slice a2 a0.length c2,iv 0] 48 (0,0)):=by rw[<-b9];exact Ow a9 _ _ _ _ _ _ _ _
  have l3:wd.heap.size<w3.heap.size:=(AB a5).1;refine Ah 19 λ K hK=>?_
  go_simp;refine hK _ _ (λ h=>by cases h) ?_;clear hK K
  try simp only[aP]
  have ad:Below w1.heap.size w1 w3:=by rw[<-b9];exact Aq a7 (by omega) _ _ _ _ _ _ _ _
  have ar:Since (From wz.heap.size) w2 w3:=by rw[<-b9];exact⟨by rw[A4];exact AD _,λ j hj _=>A3 (by have:wz.heap.size<=j:=hj;omega) _ _ _ _ _ _ _ _⟩
  have up:∀{wx:World} j,From wz.heap.size j->j<wx.heap.size->From w1.heap.size j:=λ {wx} j hj _=>by have:wz.heap.size<=j:=hj;show w1.heap.size<=j;omega
  have av:=(ai.since ar).base' up;have aq:=(b7.since ar).base up;clear z0 z1 z2 z3 z4 z5 z6 z7 f0 f1 f2 f3 f4 f5 f6 f7 a4 ae b4 a9 ar;refine Vv.wpE_done (by kernel_rfl) ?_;simp only[Exit.inBlock,Exit.then];refine ‹∀(a:Act) (w:World),_->_› _ _ ?_;obtain⟨q0,q1,q2,q3,q4,q5,q6,q7,-⟩:=Ac a5;obtain⟨ak,ci,ca⟩:=hz w3 ad;have a3:=af w3 k2 o2 n2 t2 s2 y2 a0 (.slice a2 a0.length c2) row2 ad av aq rfl;obtain⟨w8,ah⟩:∃w8,w3.alloc (.cells #[iv k2,iv o2,iv n2,strV t2,iv s2,strV y2,.slice a2 a0.length c2,iv 0] 48)=w8:=⟨_,rfl⟩;rw[ah] at a3;have am:w8.heap[w0.heap.size]?=some (.cells #[iv 0,sE,iv 0,.bool false,iv 0,sZ,sZ,sZ,iv 0] 46 (0,0)):=by
   have al:Below w3.heap.size w3 w8:=by rw[<-ah];exact (AF _ _).alloc (AD _) _
   exact (al.block _ (AB ak).1).trans ak
  obtain⟨r0,r1,r2,r3,r4,r5,r6,r7,r8,t0,t1,c7,t3,t4,t5,t6,t7,t8⟩:=Aj am;have bg:w0.heap.size<w8.heap.size:=(AB am).1;clear af hz ag hS a6 hA ai b7 av aq a5 am ak ad a7;go_wp2_with fail;exact bodyPost_ret (by simp[results,results115,go_sem,bg,r0,r1,r2,r3,r4,r5,r6,r7,r8]) rfl a3
end
section
open Go.RowKit
open Ck (CE CS CF CP Mng)
mutual
def LnS:Px.St->Prop
 | .mk k n es b c p=>b.length<=1000000/\c.length<=1000000/\Nh b/\Nh c
def Nh:List Px.St->Prop
 | []=>True
 | s :: r=>LnS s/\Nh r
end
theorem Ak9{c:Ck.Cx}{x y:Px.Ex}:Ck.arg (Ck.cEs c [x,y]) 1=(Ck.cE c y,Ck.plc y):=Ck.arg_get c _ 1 y rfl
theorem Zj{c:Ck.Cx}{x y:Px.Ex}:Ck.arg (Ck.cEs c [x,y]) 0=(Ck.cE c x,Ck.plc x):=Ck.arg_get c _ 0 x rfl
mutual
theorem Bb9:∀(s:Px.St),ShS s->LnS s->Ak8 s
 | .mk k n es body other p,hs,hn=>by
  rw[ShS] at hs;rw[LnS] at hn;obtain⟨hk,he,hb,hc⟩:=hs;have a5:Tj body:=Il (Qu body hb hn.2.2.1) hb hn.1;have a0:Tj other:=Il (Qu other hc hn.2.2.2) hc hn.2.1;intro n0 b mb cb nb v0 ss fs lv nv kx env ls names cs w hC ho hsc hap hl hnl his;rw[IsSt] at his;obtain⟨s1,s2,s3,r1,r2,r3,rfl,h1,h2,h3,h4,h5,h6⟩:=his;obtain⟨a2,c2,rfl,-,-⟩:=h3.val;obtain⟨a3,c3,rfl,-,-⟩:=h5.val;have a8:cb<w.heap.size:=(AB hsc.cbk).1;have a4:nb<w.heap.size:=(AB hsc.nbk).1;have a6:∀w',Below w.heap.size w w'->Sc n0 b cb nb nv names w':=λ w' hb=>hsc.keep (λ j hj=>hb.block j (by rcases hj with rfl | rfl | e;exact a8;exact a4;exact (hsc.own.lt e).2))
  rw[Ck.cS];rcases hk with⟨rfl,e1⟩ | ⟨rfl,e1⟩ | ⟨rfl,e1⟩ | ⟨rfl,e1⟩ | ⟨rfl,e1⟩ | ⟨rfl,e1⟩
  .obtain⟨x,rfl⟩:=length_eq_one_iff.1 e1;have hE:EOk x:=C5 _ he x (by simp);simp only[if_true,Er rfl];exact Az0 hC hsc (λ w' hb'=>As0 hE (hC.keep hb') ho (a6 _ hb') hap hl hnl (h1.since (Since.of_below hb')) (h2.since (Since.of_below hb')) a2 a3 _ _ c2 c3)
  .rcases e1 with e1 | e1
   .obtain⟨x,rfl⟩:=length_eq_one_iff.1 e1;have hE:EOk x:=C5 _ he x (by simp);simp only[Nat.reduceEqDiff,if_false,if_true,Er rfl,length_cons,length_nil,Nat.zero_add];refine (Ak7 _ (λ w' hb'=>Ar9 hE (hC.keep hb').at ho.cx (h1.since (Since.of_below hb')) (h2.since (Since.of_below hb')) a2 a3 _ _ c2 c3)).mono (λ e w' hP=>?_);have h9:=B0.of_set hC hsc hap hP;simp only[Ep] at h9;exact h9
   .obtain⟨x,y,rfl⟩:=Vx e1;have hE:EOk x:=C5 _ he x (by simp);have a7:EOk y:=C5 _ he y (by simp);simp only[Nat.reduceEqDiff,if_false,if_true,Zj,Ak9,length_cons,length_nil,Nat.zero_add,Nat.reduceAdd];refine (Ak7 _ (λ w' hb'=>Ak5 hE a7 (hC.keep hb').at ho.cx (h1.since (Since.of_below hb')) (h2.since (Since.of_below hb')) a2 a3 _ _ c2 c3)).mono (λ e w' hP=>?_);have h9:=B0.of_set hC hsc hap hP;simp only[Ep] at h9;exact h9
  .obtain⟨x,rfl⟩:=length_eq_one_iff.1 e1;have hE:EOk x:=C5 _ he x (by simp);simp only[Nat.reduceEqDiff,if_false,if_true,Er rfl];refine (Ay9 _ (λ w' hb'=>Ar8 hE (hC.keep hb').at ho.cx (h1.since (Since.of_below hb')) (h2.since (Since.of_below hb')) a2 a3 _ _ c2 c3)).mono (λ e w' hP=>?_);have h9:=B0.of_set hC hsc hap hP;simp only[Ep] at h9;exact h9
  .obtain⟨x,rfl⟩:=length_eq_one_iff.1 e1;have hE:EOk x:=C5 _ he x (by simp);simp only[Nat.reduceEqDiff,if_false,if_true,Er rfl];refine (Bb8 hE a5 a0 hC ho hl (λ a e=>(Gt body env ls a ho hl hb e).len) h1 h2 a2 a3 c2 c3 h3 h4 h5 h6 _).mono (λ e w' hP=>?_);exact B0.of_lp hC hsc hap (λ r e=>by
    obtain⟨_,-,e⟩:=An e;obtain⟨_,-,e⟩:=An e;obtain⟨_,-,e⟩:=An e;cases e;rfl) hP
  .obtain⟨x,rfl⟩:=length_eq_one_iff.1 e1;have hE:EOk x:=C5 _ he x (by simp);simp only[Nat.reduceEqDiff,if_false,if_true,Er rfl];refine (As1 hC _ (λ w' hb'=>Ak6 hE a5 (hC.keep hb') ho hl (h1.since (Since.of_below hb')) (h2.since (Since.of_below hb')) a2 a3 _ c2 c3 (h3.since (Since.of_below hb')) (h4.since (Since.of_below hb')))).mono (λ e w' hP=>?_);exact B0.of_lp hC hsc hap (λ r e=>by
    obtain⟨_,-,e⟩:=An e;obtain⟨_,-,e⟩:=An e;obtain⟨_,-,e⟩:=An e;cases e;rfl) hP
  .obtain⟨x,rfl⟩:=length_eq_one_iff.1 e1;have hE:EOk x:=C5 _ he x (by simp);simp only[Nat.reduceEqDiff,if_false,if_true,Er rfl];refine (As3 hE hC ho h1 h2 a2 a3 _ _ c2 c3 _).mono (λ e w' hP=>?_);have h9:=B0.of_set hC hsc hap hP;simp only[Ep] at h9;exact h9
theorem Qu:∀(l:List Px.St),Ik l->Nh l->∀s∈l,Ak8 s
 | [],_,_=>λ s hs=>by cases hs
 | x :: r,h,hn=>by
  rw[Ik] at h;rw[Nh] at hn;have h1:=Bb9 x h.1 hn.1;have h2:=Qu r h.2 hn.2;intro s hs;rcases mem_cons.1 hs with rfl | hs
  .exact h1
  .exact h2 s hs
end
theorem Bc0{l:List Px.St}(h:Ik l)(hn:Nh l)(hl:l.length<=1000000):Tj l:=Il (Qu l h hn) h hl
end
section
open Go.RowKit
open Ck (CE CS CF CP Mng)
attribute [local go_sem ↓] Go.wp_at_zero Go.wp_at_succ
structure FnI(n0 b mb cb nb m:Nat)(v0 ss fs:Value)(k:Ck.Kx)(env:Ck.Env)(w:World)(l:List Px.Sl)(C:Ck.R (Ck.Env × List (List UInt8)))(q:Nat)(lvr nvr:Value)(more:Ck.Env)(lsr:List (List UInt8))(wr:World):Prop where
 stp:Stp b mb sZ w lvr wr
 ck:CkS n0 b mb v0 ss fs k (env ++ more) lsr lvr wr
 sc:Sc n0 b cb nb nvr (more.map Prod.fst) wr
 ap:Apart lvr nvr cb nb
 lv:∀j,lvr.ownBlock=some j->m<=j
 nv:∀j,nvr.ownBlock=some j->m<=j
 grow:Grow k env [] (env ++ more) lsr
 sz:m<=wr.heap.size
 ans:C=Ck.locs (env ++ more) lsr (l.drop q)
abbrev Tn(b mb gf:Nat):Nat->Prop:=λ j=>j=b\/j=mb\/j=gf
def Qv(b mb gf:Nat)(v0 ss fs:Value)(cur:Array Value)(env:Ck.Env)(i:Nat)(w:World)(r:Ck.R CF)(e:Ending)(w':World):Prop:=
 match r with
 | .inl x=>∃lv9 a9 c9,e=.returned (.tuple #[])/\w'.heap[b]?=some (.cells #[v0,ss,fs,.map (some mb),iv i,lv9] 62 (0,0))/\Bb w' mb env/\w'.heap[gf]?=some (.cells ((cur.setIfInBounds (i*7+5) (.slice a9 x.body.length c9)).setIfInBounds (i*7+4) lv9) 36 (0,0))/\Xk (From w.heap.size) w' x.locals lv9/\Ks (From w.heap.size) w' x.body (.slice a9 x.body.length c9)/\Fm (Tn b mb gf) w w'
 | .inr (a,er)=>e=.panicked (Ag a er)/\Fm (Tn b mb gf) w w'
theorem Al0{l:List (List UInt8)}(h:Strs n0 w v l):Xk (From n0) w l v:=by
 obtain⟨h1,h2⟩:=h;refine⟨by simp,?_⟩;rcases h2 with⟨h3,h4⟩ | ⟨g,cap,cur,h3,h4,h5,h6,h7,h8,h9⟩
 .exact AI ⟨h3,h4⟩
 .refine AJ ⟨g,0,cap,h3,h6,h7,h4,(AB h5).1,λ j u hj=>?_⟩;rw[Bl h5,Nat.zero_add];rw[<-h9,List.getElem?_take] at hj;split at hj
  .simpa using hj
  .cases hj
theorem Ld{B:AS}{l:List Px.Sl}(h:Ew B w l v){s:Px.Sl}(hi:l[i]?=some s):∃g o cap,v=sL g o l.length cap/\B g/\g<w.heap.size/\w.cell? ⟨g,o+i*3,none⟩=some (strV s.name)/\w.cell? ⟨g,o+i*3+1,none⟩=some (strV s.type)/\w.cell? ⟨g,o+i*3+2,none⟩=some (iv s.place):=by
 have a0:=(AK hi).1;obtain⟨g,o,cap,e,-,-,hB,hg,hc⟩:=SlRow.cells h (by omega);have e0:l.flatMap Bp=(l.take i).flatMap Bp ++ (Bp s ++ (l.drop (i+1)).flatMap Bp):=by
  have:l=l.take i ++ s :: l.drop (i+1):=by
   obtain⟨h1,rfl⟩:=AK hi;rw[<-drop_eq_getElem_cons h1,take_append_drop]
  conv=>lhs;rw[this]
  simp
 have e1:((l.take i).flatMap Bp).length=i*3:=by
  have:∀m:List Px.Sl,(m.flatMap Bp).length=m.length*3:=λ m=>by
   induction m with
   | nil=>rfl
   | cons a r ih=>rw[flatMap_cons,length_append,ih];simp[Bp];omega
  rw[this,length_take,Nat.min_eq_left (by omega)]
 have e2:∀j u,(Bp s)[j]?=some u->w.cell? ⟨g,o+(i*3+j),none⟩=some u:=λ j u hj=>hc _ _ (by
  rw[e0,List.getElem?_append_right (by omega),e1,Nat.add_sub_cancel_left,List.getElem?_append_left (List.getElem?_eq_some_iff.1 hj).1];exact hj)
 exact⟨g,o,cap,e,hB,hg,by have:=e2 0 _ rfl;simpa using this,by rw[Nat.add_assoc];exact e2 1 _ rfl,by rw[Nat.add_assoc];exact e2 2 _ rfl⟩
theorem Qw{f:Px.Fn}(ec:Tj f.body){gf num nf fc:Nat}{lv0:Value}{env:Ck.Env}{hs:List Ck.Hd}{cur:Array Value}
  (hblk:w.heap[b]?=some (.cells #[v0,ss,sL gf 0 nf fc,.map (some mb),iv num,lv0] 62 (0,0)))
  (henv:Bb w mb env) (hrow:w.heap[gf]?=some (.cells cur 36 (0,0))) (hcur:nf*7<=cur.size)
  (hds:Qt (λ j=>j<w.heap.size/\j≠b/\j≠mb) w hs (sL gf 0 nf fc)) (hnf:hs.length=nf) (hnc:nf<=fc/\fc<=9223372036854775807) (hi:i<nf) (hhd:hs[i]?=some (Ck.hd f))
  (hf:E1 (λ j=>j<w.heap.size/\j≠b/\j≠mb/\j≠gf) w f cs) (ho:KOk ⟨i,hs,f.result⟩ env) (hty:∀s∈f.params,s.type.length<=1000) (hbm:b≠mb) (hbg:b≠gf) (hmg:mb≠gf) :
  AA 47 #[pt b 0,iv i,.agg cs.toArray] w λ e w'=>Qv b mb gf v0 ss (sL gf 0 nf fc) cur env i w (Ck.fn hs env i f) e w':=by
 obtain⟨ps,bs,rfl,dn,d8,cy,em⟩:=hf;obtain⟨pa,pc,rfl,eq,et⟩:=SlRow.val dn;obtain⟨ba,bc,rfl,-,-⟩:=cy.val;have hb:b<w.heap.size:=(AB hblk).1;have hm:mb<w.heap.size:=henv.lt;have hg:gf<w.heap.size:=(AB hrow).1;obtain⟨R,HR⟩:∃R:Ck.R CF,Hid (Ck.fn hs env i f=R):=⟨_,rfl⟩;rw[HR.out];obtain⟨w0,dd⟩:∃w0,w.alloc (.cells #[strV f.name,.bool f.on,.slice pa f.params.length pc,strV f.result,sZ,.slice ba f.body.length bc,iv f.place] 36)=w0:=⟨_,rfl⟩;have d9:Below w.heap.size w w0:=by rw[<-dd];exact (AF _ _).alloc (AD _) _
 have l0:w.heap.size<w0.heap.size:=by rw[<-dd];simp
 have ee:w0.heap[w.heap.size]?=some (.cells #[strV f.name,.bool f.on,.slice pa f.params.length pc,strV f.result,sZ,.slice ba f.body.length bc,iv f.place] 36 (0,0)):=by rw[<-dd];exact heap_new _ _
 have ay:=(d9.block _ hb).trans hblk;obtain⟨w1,du⟩:∃w1,w0.setCell ⟨b,4,none⟩ (iv i)=w1:=⟨_,rfl⟩;obtain⟨w2,e6⟩:∃w2,w1.setCell ⟨b,5,none⟩ sZ=w2:=⟨_,rfl⟩;have aj:Fm (λ j=>j=b) w0 w1:=by rw[<-du];exact Fm.set (X:=λ j=>j=b) rfl 4 _
 have a8:Fm (λ j=>j=b) w1 w2:=by rw[<-e6];exact Fm.set (X:=λ j=>j=b) rfl 5 _
 have ak:w1.heap[b]?=some (.cells #[v0,ss,sL gf 0 nf fc,.map (some mb),iv i,lv0] 62 (0,0)):=by rw[<-du];simp[World.setCell,Array.getElem?_modify,ay]
 have b9:w2.heap[b]?=some (.cells #[v0,ss,sL gf 0 nf fc,.map (some mb),iv i,sZ] 62 (0,0)):=by rw[<-e6];simp[World.setCell,Array.getElem?_modify,ak]
 have gn:w0.heap.size<=w2.heap.size:=AP aj.size a8.size;have az:Fm (λ j=>j=b) w w2:=((Fm.of_below (X:=λ _=>False) d9).trans aj (λ _ _ h=>h.elim) (λ _ _ h=>h)).trans a8 (λ _ _ h=>h) (λ _ _ h=>h);have ez:Since (λ j=>j<w.heap.size/\j≠b/\j≠mb) w w2:=az.since (λ j hj e=>hj.2.1 e);have bv:Since (λ j=>j<w.heap.size/\j≠b/\j≠mb/\j≠gf) w w2:=az.since (λ j hj e=>hj.2.1 e);have eb:w2.heap[w.heap.size]?=some (.cells #[strV f.name,.bool f.on,.slice pa f.params.length pc,strV f.result,sZ,.slice ba f.body.length bc,iv f.place] 36 (0,0)):=(a8.block _ (by have:=aj.size;omega) (by omega)).trans ((aj.block _ l0 (by omega)).trans ee);have ci:Bb w2 mb env:=henv.since (az.block _ hm (by omega));have cc:w2.heap[gf]?=some (.cells cur 36 (0,0)):=(az.block _ hg (by omega)).trans hrow;have cf:CkS w2.heap.size b mb v0 ss (sL gf 0 nf fc) ⟨i,hs,f.result⟩ env [] sZ w2:=
  ⟨b9,by
   obtain⟨be,d1,d2⟩:=hds.since ez;refine⟨be,d1.base' (λ j hj _=>⟨by have:=az.size;omega,hj.2⟩),λ i' h' hi'=>?_⟩;obtain⟨nm,ps,la,ln,lc,ba,bn,bc,pl,a1,a2,a3,a4,a5,a6,a7,ch,p1,p2⟩:=d2 i' h' hi';exact⟨nm,ps,la,ln,lc,ba,bn,bc,pl,a1,a2,a3,a4,a5,a6,a7,ch,p1.base' (λ j hj _=>⟨by have:=az.size;omega,hj.2⟩),p2⟩,ci,Strs.nil _ _,by omega,by omega,hbm,AD _⟩
 obtain⟨ep,⟨f9,f8⟩,dl⟩:=cf.hds;obtain⟨nm',en,fx,fj,gk,fr,gc,fu,gb,-,-,e2,-,e4,e5,-,ch,cv,e0⟩:=dl _ _ hhd;obtain⟨f2,bh,rfl,-,-⟩:=cv.val;rcases f8 with⟨f5,-⟩ | ⟨g9,gg,fq,e7,-,-,-,-,au⟩
 .cases f5
 simp only[Value.slice.injEq,Option.some.injEq,Addr.mk.injEq] at e7;obtain⟨⟨rfl,rfl,-⟩,-,rfl⟩:=e7;have ei:=au _ _ e2;rw[Nat.zero_add] at ei;have fk:(Ck.hd f).params.length=f.params.length:=by simp[Ck.hd]
 have ax:∀j s,f.params[j]?=some s->∃gp op,f2=some ⟨gp,op,none⟩/\gp<w2.heap.size/\gp≠b/\gp≠mb/\w2.cell? ⟨gp,op+j*3+1,none⟩=some (strV s.type):=λ j s hj=>by
  have dz:=(AK hj).1;obtain⟨gp,op,cp,q1,-,-,q2,q3,q4⟩:=cv.cells (by omega);simp only[Value.slice.injEq] at q1;refine⟨gp,op,q1.1,q3,q2.2.1,q2.2.2,?_⟩;rw[Nat.add_assoc];exact q4 _ _ (e0 j _ (by simp[Ck.hd,hj]))
 have ek:=Hg (n0:=w2.heap.size) (b:=b) (w:=w2) (AD _);have co:Hid (R=Ck.bind (Ck.locs env [] f.params) λ e=>Ck.bind (Ck.cSs ⟨i,hs,f.result⟩ e.1 e.2 f.body) λ a=>.inl ⟨f.name,f.on,Ck.slots f.params,f.result,a.2.2,a.1⟩):=HR.out.symm;obtain⟨C,HC⟩:∃C,Hid (Ck.locs env [] f.params=C):=⟨_,rfl⟩;rw[HC.out] at co;obtain⟨d0,d1,d2,d3,d4,d5,d6,-⟩:=Cf eb;obtain⟨g0,g1,g2,g3,g4,g5,h0,h1,h2,h3,h4,h5⟩:=Bh ay;obtain⟨k0,k1,k2,k3,k4,k5,m0,m1,m2,m3,m4,m5⟩:=Bh ak;obtain⟨n0,n1,n2,n3,n4,n5,-⟩:=Bh b9;have fy:b<w0.heap.size:=by omega
 have g6:b<w1.heap.size:=by have:=aj.size;omega
 have gw:b<w2.heap.size:=by omega
 have lx2:w.heap.size<w2.heap.size:=by omega
 have gz:(i:Int)<(nf:Int):=by omega
 have ft:(0:Int)<=(i:Int):=by omega
 have av:=λ (j:Nat) (s:Px.Sl) (hj:f.params[j]?=some s)=>Ld dn hj
 have b3:∀lv' w',Stp b mb sZ w2 lv' w'->∀j,j<w2.heap.size->j≠b->j≠mb->w'.heap[j]?=w2.heap[j]?:=λ lv' w' s j hj h1 h2=>(s.block hj h1 h2 (by simp[Value.ownBlock])).1
 replace hds:=B4 hds;have fh:w.heap.size<=w2.heap.size:=by omega
 clear dl au f9 e0 e2 e4 e5 ee d9 ay ak aj a8 cv HR;go_enter func47,ntmps47;go_wp2_with fail;refine ek.mono ?_;rintro e w3 ⟨cb,nb,rfl,eo,g8,dq,bt⟩;clear ek g0 g1 g2 g3 g4 g5 h0 h1 h2 h3 h4 h5 k0 k1 k2 k3 k4 k5 m0 m1 m2 m3 m4 m5 n0 n1 n2 n3 n4 n5;have eh:Hid (FnI w2.heap.size b mb cb nb w2.heap.size v0 ss (sL gf 0 nf fc) ⟨i,hs,f.result⟩ env w2 f.params C 0 sZ sZ [] [] w3):=by
  refine⟨BG bt,by rw[append_nil];exact cf.keep bt,eo,⟨by simp[Value.ownBlock],by simp[Value.ownBlock],λ j e=>by cases e⟩,λ j e=>(by cases e),λ j e=>(by cases e),by rw[append_nil];exact Grow.refl ho (by simp),bt.size,?_⟩;rw[append_nil,drop_zero];exact HC.out.symm
 have fi:=bt.size;obtain⟨dt,-⟩:=bcell bt;have fa:=(dt _ _ lx2).trans d2;have f3:w.heap.size<w3.heap.size:=by omega
 clear dt d0 d1 d2 d3 d4 d5 d6 HC;go_wp2_with fail
 go_loopg [33] f.params.length (λ gh ii wr=>∃q lvr nvr more lsr,q<=f.params.length/\gh=f.params.length - q/\ii=iv q/\Hid (FnI w2.heap.size b mb cb nb w2.heap.size v0 ss (sL gf 0 nf fc) ⟨i,hs,f.result⟩ env w2 f.params C q lvr nvr more lsr wr))
 case atStart=>exact⟨0,_,_,[],[],AO _,rfl,rfl,eh⟩
 case round=>
  obtain⟨q,lvr,nvr,more,lsr,hq,rfl,rfl,HI⟩:=hrel;clear eh fa f3;have b0:=HI.out.stp;have fp:=HI.out.sz;by_cases dz:q<f.params.length
  .have cz:(q:Int)<(f.params.length:Int):=by omega
   have gu:(0:Int)<=(q:Int):=by omega
   obtain⟨s,cm⟩:∃s,f.params[q]?=some s:=⟨_,AN dz⟩;obtain⟨ga,oa,ca,ea,cq,eu,u0,u1,u2⟩:=av q s cm;simp only[Value.slice.injEq] at ea;obtain⟨rfl,-,rfl⟩:=ea;obtain⟨gp,op,rfl,ey,ct,da,b4⟩:=ax q s cm;have b5:=b3 _ _ b0 ga (by omega) cq.2.1 cq.2.2.1;have b7:=az.block ga eu cq.2.1;replace u0:=(Ak (b5.trans b7)).trans u0;replace u1:=(Ak (b5.trans b7)).trans u1;replace u2:=(Ak (b5.trans b7)).trans u2;replace b4:=(Ak (b3 _ _ b0 gp ey ct da)).trans b4;have br:=(Ak (b3 _ _ b0 gf (by omega) (by omega) (by omega))).trans ei;have fb:ga<wr.heap.size:=by omega
   obtain⟨w5,de⟩:∃w5,wr.alloc (.cells #[sE,sE,iv 0] 40)=w5:=⟨_,rfl⟩;obtain⟨w6,d7⟩:∃w6,((w5.setCell ⟨wr.heap.size,0,none⟩ (strV s.name)).setCell ⟨wr.heap.size,1,none⟩ (strV s.type)).setCell ⟨wr.heap.size,2,none⟩ (iv s.place)=w6:=⟨_,rfl⟩;have ds:Below wr.heap.size wr w5:=by rw[<-de];exact (AF _ _).alloc (AD _) _
   have cr:w5.heap[wr.heap.size]?=some (.cells #[sE,sE,iv 0] 40 (0,0)):=by rw[<-de];exact heap_new _ _
   have l5:wr.heap.size<w5.heap.size:=(AB cr).1;have c0:Below wr.heap.size wr w6:=by rw[<-d7];exact ((ds.setCell (p:=⟨wr.heap.size,0,none⟩) (AD _) _).setCell (p:=⟨wr.heap.size,1,none⟩) (AD _) _).setCell (p:=⟨wr.heap.size,2,none⟩) (AD _) _
   have dh:w6.heap[wr.heap.size]?=some (.cells #[strV s.name,strV s.type,iv s.place] 40 (0,0)):=by rw[<-d7];simp[World.setCell,Array.getElem?_modify,cr]
   have l6:wr.heap.size<w6.heap.size:=(AB dh).1;obtain⟨y0,y1,y2,z0,z1,z2⟩:=Az cr;obtain⟨e9,fg,ed,-⟩:=Az dh;obtain⟨dj,-⟩:=bcell c0;have c6:=(dj gf (i*7+2) (by omega)).trans br;have p6:=(dj gp (op+q*3+1) (by omega)).trans b4;have bk:=HI.out.grow;have bx:more.length<=32:=by
    obtain⟨m2,e1,e2,-⟩:=bk.more;have:=append_cancel_left e1;subst this;have:=bk.len;simp at e2;omega
   have c7:=HI.out.ck.keep c0;have cj:Sc w2.heap.size b cb nb nvr (more.map Prod.fst) w6:=HI.out.sc.keep (λ j hj=>c0.block j (by
    rcases hj with rfl | rfl | e
    .exact (AB HI.out.sc.cbk).1
    .exact (AB HI.out.sc.nbk).1
    .exact (HI.out.sc.own.lt e).2))
   have hL:=J6 (w:=w6.drew) (c7.keep (AF _ _).drew) bk.ok.eok (cj.keep (λ j hj=>rfl)) HI.out.ap bk.len (by simp;omega) s.name s.place 3 0 s.type;have b8:f.params.drop q=s :: f.params.drop (q+1):=by
    obtain⟨hi,rfl⟩:=AK cm;exact drop_eq_getElem_cons hi
   have bj:Hid (C=Ck.bind (Ck.loc (env ++ more) lsr s.name s.place 3 s.type) λ e=>Ck.locs e.1 e.2 (f.params.drop (q+1))):=by
    show _=_;rw[HI.out.ans,b8,Ck.locs]
   have cl:∀r,Ck.loc (env ++ more) lsr s.name s.place 3 s.type=.inl r->Grow ⟨i,hs,f.result⟩ (env ++ more) lsr r.1 r.2/\r.1=(env ++ more) ++ [(s.name,⟨3,lsr.length,s.type⟩)]:=λ r e=>⟨Grow.loc bk.ok (by decide) (hty s (mem_of_getElem? cm)) e,Lc e⟩
   replace cl:=B4 cl;generalize Ck.loc (env ++ more) lsr s.name s.place 3 s.type=D at *;have ad:Stp b mb sZ w2 lvr w6:=b0.trans (BG c0);have gm:=c0.size;replace b3:=B4 b3;replace av:=B4 av;replace ax:=B4 ax;clear cr ds dh b8 c7 cj bk bx cq b5 b7 b4 br;go_wp2_with fail;refine Vv.wpE_begin (S:=λ w'=>w'.cell? ⟨wr.heap.size,0,none⟩=some (strV s.name)/\w'.cell? ⟨wr.heap.size,2,none⟩=some (iv s.place)/\w'.cell? ⟨gf,i*7+2,none⟩=some (.slice (some ⟨gp,op,none⟩) (Ck.hd f).params.length bh)/\w'.cell? ⟨gp,op+q*3+1,none⟩=some (strV s.type)) (N:=λ j=>decide (j<15)) (by kernel_rfl) ?_;have ab:w6.drew.cell? ⟨wr.heap.size,0,none⟩=some (strV s.name)/\w6.drew.cell? ⟨wr.heap.size,2,none⟩=some (iv s.place)/\w6.drew.cell? ⟨gf,i*7+2,none⟩=some (.slice (some ⟨gp,op,none⟩) (Ck.hd f).params.length bh)/\w6.drew.cell? ⟨gp,op+q*3+1,none⟩=some (strV s.type):=⟨e9,ed,c6,p6⟩;refine Aa 38 [15] 0 (pt b 0) ab ?_
   try simp only[aP]
   refine Aa 39 [15] 1 (.func (.func 112) #[] #[pt cb 0,pt nb 0]) ab ?_
   try simp only[aP]
   refine Aa 40 [3,15] 2 (pt wr.heap.size 0) ab ?_
   try simp only[aP]
   refine Aa 41 [15] 3 (strV s.name) ab ?_
   try simp only[aP]
   refine Aa 42 [5,15] 4 (pt wr.heap.size 2) ab ?_
   try simp only[aP]
   refine Aa 43 [15] 5 (iv s.place) ab ?_
   try simp only[aP]
   refine Aa 44 [7,8,9,11,12,13,14,15] 6 (pt gf (i*7)) ab ?_
   try simp only[aP]
   refine Aa 45 [8,9,11,12,13,14,15] 7 (pt gf (i*7)) ab ?_
   try simp only[aP]
   refine Aa 46 [9,11,12,13,14,15] 8 (pt gf (i*7+2)) ab ?_
   try simp only[aP]
   refine Aa 47 [11,12,13,14,15] 9 (.slice (some ⟨gp,op,none⟩) (Ck.hd f).params.length bh) ab ?_
   try simp only[aP]
   refine Aa 48 [11,12,13,14,15] 10 (iv q) ab ?_
   try simp only[aP]
   refine Aa 49 [12,13,14,15] 11 (pt gp (op+q*3)) ab ?_
   try simp only[aP]
   refine Aa 50 [13,14,15] 12 (pt gp (op+q*3+1)) ab ?_
   try simp only[aP]
   refine Aa 51 [14,15] 13 (strV s.type) ab ?_
   try simp only[aP]
   refine Aa 52 [15] 14 (.agg #[iv 3,iv 0,strV s.type]) ab ?_
   try simp only[aP]
   refine Ah 15 λ K hK=>?_
   go_simp;refine hL.mono ?_;rintro e w7 hP;clear hL ab;have b6:∀j,nvr.ownBlock=some j->w2.heap.size<=j:=HI.out.nv;have aq:Stp b mb sZ w2 lvr w6.drew:=⟨⟨ad.fm.os,ad.fm.tape,ad.fm.output,ad.fm.size,ad.fm.block⟩,ad.lv⟩;rcases D with⟨env',ls'⟩ | ⟨a,er⟩
   rotate_left
   .obtain⟨hm,hF⟩:=hP;obtain rfl:=hm;have aa:Qv b mb gf v0 ss (sL gf 0 nf fc) cur env i w R (.panicked (Ag a er)) w7:=by
     rw[co.out,bj.out];exact⟨rfl,az.trans (aq.turn dq b6 hF (λ j e=>AI e)).fm (λ j _ e=>AI e) (λ j _ e=>by
      rcases e with e | e | e
      .exact AI e
      .exact AJ (AI e)
      .cases e)⟩
    exact⟨rfl,aa⟩
   obtain⟨lv',ef,rfl,e8,dr,ej,dc,cg,c2⟩:=hP;refine hK _ _ (λ h=>by cases h) ?_;clear hK K
   try simp only[aP]
   refine Vv.wpE_done (by kernel_rfl) ?_;obtain⟨el,di⟩:=cl.out _ rfl;have bf:=aq.turn dq b6 dc cg;have f6:w6.heap.size<=w7.heap.size:=dc.size;have db:Hid (FnI w2.heap.size b mb cb nb w2.heap.size v0 ss (sL gf 0 nf fc) ⟨i,hs,f.result⟩ env w2 f.params C (q+1) lv' ef (more ++ [(s.name,⟨3,lsr.length,s.type⟩)]) ls' w7):=by
    simp only at di;subst di;refine⟨bf,by rw[<-append_assoc];exact e8,by rw[map_append];exact dr,ej,λ j e=>?_,λ j e=>?_,by rw[<-append_assoc];exact HI.out.grow.trans el,by omega,?_⟩
    .rcases bf.lv j e with e | e
     .cases e
     .exact e
    .rcases c2 j e with e | e
     .exact b6 j e
     .have:w6.heap.size<=j:=e;omega
    .rw[bj.out,<-append_assoc];rfl
   clear e8 dr ej dc cg c2 el di bf aq bj cl HI ad b6 e9 fg ed c6 p6 d7 de y0 y1 y2 z0 z1 z2 u0 u1 u2;simp only[Exit.inBlock,Exit.then];refine ‹∀(a:Act) (w:World),_->_› _ _ ?_;go_wp2_with fail;go_roundg (f.params.length - (q+1))
   case measure=>omega
   case rel=>exact⟨q+1,lv',ef,_,ls',by omega,rfl,by go_num,db⟩
  .have cz:¬(q:Int)<(f.params.length:Int):=by omega
   have bj:C=.inl (env ++ more,lsr):=by
    rw[HI.out.ans,drop_of_length_le (by omega)];rfl
   have cu:Hid (R=Ck.bind (Ck.cSs ⟨i,hs,f.result⟩ (env ++ more) lsr f.body) λ a=>.inl ⟨f.name,f.on,Ck.slots f.params,f.result,a.2.2,a.1⟩):=by
    show _=_;rw[co.out,bj];rfl
   clear bj co;have bi:∀y∈env,∀x∈more,y.1≠x.1:=by
    obtain⟨m2,e1,-,e3⟩:=HI.out.grow.more;have:=append_cancel_left e1;subst this;exact e3
   replace bi:=B4 bi;have cw:Since (Old w2.heap.size b mb) w2 wr:=b0.fm.since (λ j hj e=>by
    rcases e with e | e | e
    .exact hj.2.1 e
    .exact hj.2.2 e
    .cases e)
   have dw:∀{wx:World} j,(j<w.heap.size/\j≠b/\j≠mb/\j≠gf)->j<wx.heap.size->Old w2.heap.size b mb j:=λ {wx} j hj _=>⟨by have:=hj.1;omega,hj.2.1,hj.2.2.1⟩
   have bb:=ec w2.heap.size b mb v0 ss (sL gf 0 nf fc) ⟨i,hs,f.result⟩ (env ++ more) lsr lvr (.slice ba f.body.length bc) d8 wr HI.out.ck HI.out.grow.ok HI.out.grow.len (((cy.since bv).base' dw).since cw) (((em.since bv).base (λ j hj=>⟨by have:=hj.1;omega,hj.2.1,hj.2.2.1⟩)).since cw);generalize Ck.cSs ⟨i,hs,f.result⟩ (env ++ more) lsr f.body=E at *;have dv:=(b3 _ _ b0 w.heap.size lx2 (by omega) (by omega)).trans eb;obtain⟨d0,d1,d2,d3,d4,d5,d6,-⟩:=Cf dv;have fv:w.heap.size<wr.heap.size:=by omega
   have bd:=(b3 _ _ b0 gf (by omega) (by omega) (by omega)).trans cc;replace b3:=B4 b3;replace av:=B4 av;replace ax:=B4 ax;clear ec cw dw cy em d0 d1 d2 d3 d4 d6;go_wp2_with fail;refine bb.mono ?_;rintro e w9 hP;clear bb d5;rcases E with⟨xs,ex,ls9⟩ | ⟨a,er⟩
   rotate_left
   .obtain⟨hm,hF⟩:=hP;obtain rfl:=hm;have aa:Qv b mb gf v0 ss (sL gf 0 nf fc) cur env i w R (.panicked (Ag a er)) w9:=by
     rw[cu.out];exact⟨rfl,az.trans (b0.trans ⟨hF,λ j h=>AI h⟩:Stp b mb sZ w2 lvr w9).fm (λ j _ e=>AI e) (λ j _ e=>by
      rcases e with e | e | e
      .exact AI e
      .exact AJ (AI e)
      .cases e)⟩
    exact⟨rfl,aa⟩
   obtain⟨gr,a9,c9,rfl,dm,c4,bu,bq⟩:=hP;obtain⟨c1,bw,rfl,-,-⟩:=c4.loc.slice;have gy:=bu.size;have f4:∀j,lvr.ownBlock=some j->w2.heap.size<=j:=HI.out.lv;have bp:Stp b mb sZ w2 (.slice c1 ls9.length bw) w9:=b0.trans ⟨bu,bq⟩;have ah:=(bu.block gf (by omega) (by rintro (e | e | e);omega;omega;have:=f4 gf e;omega)).trans bd;have bl:Sc w2.heap.size b cb nb nvr (more.map Prod.fst) w9:=HI.out.sc.keep (λ j hj=>bu.block j (by
    rcases hj with rfl | rfl | e
    .exact (AB HI.out.sc.cbk).1
    .exact (AB HI.out.sc.nbk).1
    .exact (HI.out.sc.own.lt e).2) (by
    rintro (e | e | e)
    .rcases hj with rfl | rfl | e2
     .omega
     .omega
     .have:=HI.out.nv j e2;omega
    .rcases hj with rfl | rfl | e2
     .omega
     .omega
     .have:=HI.out.nv j e2;omega
    .rcases hj with rfl | rfl | e2
     .exact HI.out.ap.c e
     .exact HI.out.ap.n e
     .exact HI.out.ap.v j e e2))
   have ev:i*7+5<cur.size:=by omega
   have ff:i*7+4<cur.size:=by omega
   have gj:gf<w9.heap.size:=by omega
   obtain⟨w10,c3⟩:∃w10,w9.setCell ⟨gf,i*7+5,none⟩ (.slice a9 xs.length c9)=w10:=⟨_,rfl⟩;obtain⟨w11,cd⟩:∃w11,w10.setCell ⟨gf,i*7+4,none⟩ (.slice c1 ls9.length bw)=w11:=⟨_,rfl⟩;have ai:Fm (λ j=>j=gf) w9 w10:=by rw[<-c3];exact Fm.set (X:=λ j=>j=gf) rfl _ _
   have bg:Fm (λ j=>j=gf) w10 w11:=by rw[<-cd];exact Fm.set (X:=λ j=>j=gf) rfl _ _
   have a0:w10.heap[gf]?=some (.cells (cur.setIfInBounds (i*7+5) (.slice a9 xs.length c9)) 36 (0,0)):=by rw[<-c3];simp[World.setCell,Array.getElem?_modify,ah]
   have aw:w11.heap[gf]?=some (.cells ((cur.setIfInBounds (i*7+5) (.slice a9 xs.length c9)).setIfInBounds (i*7+4) (.slice c1 ls9.length bw)) 36 (0,0)):=by rw[<-cd];simp[World.setCell,Array.getElem?_modify,a0]
   have r5:w9.cell? ⟨gf,i*7+5,none⟩=some cur[i*7+5]:=by rw[Bl ah];exact Array.getElem?_eq_getElem ev
   have gi:w9.frozen? ⟨gf,i*7+5,none⟩=false:=by simp[World.frozen?,ah]
   have r4:w10.cell? ⟨gf,i*7+4,none⟩=some cur[i*7+4]:=by rw[Bl a0,Array.getElem?_setIfInBounds_ne (by omega)];exact Array.getElem?_eq_getElem ff
   have gv:w10.frozen? ⟨gf,i*7+4,none⟩=false:=by simp[World.frozen?,a0]
   have f0:gf<w10.heap.size:=by have:=ai.size;omega
   have f7:b<w9.heap.size:=by omega
   have af:=(ai.block b f7 hbg).trans c4.blk;have ae:=(bg.block b (by have:=ai.size;omega) hbg).trans af;obtain⟨-,-,-,-,-,c5,-⟩:=Bh af;have ew:b<w10.heap.size:=by have:=ai.size;omega
   have ar:Fm (λ j=>j=gf) w9 w11:=ai.trans bg (λ _ _ h=>h) (λ _ _ h=>h);have fd:mb<w9.heap.size:=by omega
   have am:Bb w11 mb (env ++ more):=c4.env.since (ar.block mb fd hmg);have c8:Sc w2.heap.size b cb nb nvr (more.map Prod.fst) w11:=bl.keep (λ j hj=>ar.block j (by
    rcases hj with rfl | rfl | e
    .exact (AB bl.cbk).1
    .exact (AB bl.nbk).1
    .exact (bl.own.lt e).2) (by
    rintro rfl;rcases hj with e | e | e
    .omega
    .omega
    .have:=HI.out.nv _ e;omega))
   have dk:=Ih ae am c8 (by omega) hbm bi.out;have f1:w9.heap.size<=w11.heap.size:=ar.size;have dy:Hid (R=.inl ⟨f.name,f.on,Ck.slots f.params,f.result,ls9,xs⟩):=cu.out;have bo:Fm (Tn b mb gf) w w9:=az.trans bp.fm (λ j _ e=>AI e) (λ j _ e=>by
    rcases e with e | e | e
    .exact AI e
    .exact AJ (AI e)
    .cases e)
   have ag:=c4.loc;clear HI c4 bu bq bp ah bl c8 am a0 ai bg bd dv b0 cu af;go_wp2_with fail;refine dk.mono ?_;rintro e w12 ⟨rfl,ce,a8⟩;clear dk;have aa:Qv b mb gf v0 ss (sL gf 0 nf fc) cur env i w R (.returned (.tuple #[])) w12:=by
    rw[dy.out];have al:Fm (λ j=>j=gf\/j=mb) w9 w12:=ar.trans a8 (λ _ _ h=>AI h) (λ _ _ h=>AJ h);have dx:∀j,w2.heap.size<=j->j<w9.heap.size->w12.heap[j]?=w9.heap[j]?:=λ j hj hl=>al.block j hl (by rintro (e | e) <;> omega)
    have df:Strs w2.heap.size w12 (.slice c1 ls9.length bw) ls9:=ag.since (λ j e=>dx j (ag.lt e).1 (ag.lt e).2);obtain⟨be,i1,i2⟩:=dm;have eg:Since (λ j=>wr.heap.size<=j/\(Value.slice c1 ls9.length bw).ownBlock≠some j) w9 w12:=⟨al.size,λ j hj hl=>dx j (by have:=hj.1;omega) hl⟩;refine⟨_,a9,c9,rfl,(a8.block b (by omega) hbm).trans ae,ce,(a8.block gf (by omega) (by omega)).trans aw,?_,⟨be,(i1.since eg).base' (λ j hj _=>by have:=hj.1;show w.heap.size<=j;omega),(i2.since eg).base (λ j hj _=>by have:=hj.1;show w.heap.size<=j;omega)⟩,?_⟩
    .exact BD (Al0 df) (λ j hj _=>by have:w2.heap.size<=j:=hj;show w.heap.size<=j;omega)
    .exact bo.trans al (λ _ _ h=>h) (λ j _ e=>by
      rcases e with e | e
      .exact AJ (AJ e)
      .exact AJ (AI e))
   clear ce a8 dm ag dy bo ae aw ar;go_wp2_with fail;exact bodyPost_end (results_none rfl _ _ _) rfl aa
def Cls(n0:Nat)(w:World)(v:Value)(l:List (List UInt8 × List UInt8)):Prop:=w.ownsRow n0 40 3 v l.length (l.flatMap Bi)
theorem Zk:(prog.info? 40).map (λ i=>(i.zero,i.size,i.bytes))=some (some (.agg #[sE,sE,iv 0]),3,40):=by kernel_rfl
theorem Cls.nil(n0:Nat)(w:World):Cls n0 w sZ []:=⟨rfl,AI ⟨rfl,rfl⟩⟩
theorem Cls.since{l:List (List UInt8 × List UInt8)}(h:Cls n0 w v l)(e:∀j,v.ownBlock=some j->w'.heap[j]?=w.heap[j]?):Cls n0 w' v l:=by
 refine⟨h.1,?_⟩;rcases h.2 with h3 | ⟨g,cap,cur,h3,h4,h5,h6⟩
 .exact AI h3
 .exact AJ ⟨g,cap,cur,h3,h4,by rw[e g (by rw[h3];rfl)];exact h5,h6⟩
theorem Cls.lt{l:List (List UInt8 × List UInt8)}(h:Cls n0 w v l)(e:v.ownBlock=some j):n0<=j/\j<w.heap.size:=World.ownsRow.lt h j e
theorem Cls.row{l:List (List UInt8 × List UInt8)}(h:Cls n0 w v l):Hy (From n0) w l v:=by
 obtain⟨h1,h2⟩:=h;refine⟨by rw[h1],?_⟩;rcases h2 with⟨h3,h4⟩ | ⟨g,cap,cur,h3,h4,h5,h6,h7,h8,h9⟩
 .exact AI ⟨h3,h4⟩
 .refine AJ ⟨g,0,cap,h3,h6,h7,h4,(AB h5).1,λ j u hj=>?_⟩;rw[Bl h5,Nat.zero_add];rw[<-h9,List.getElem?_take] at hj;split at hj
  .simpa using hj
  .cases hj
theorem Cls.push{l:List (List UInt8 × List UInt8)}(h:Cls n0 w v l){x:List UInt8 × List UInt8}{g0:Nat}(hb:w.heap[g0]?=some (.cells #[strV x.1,strV x.2,iv 0] 40 (0,0)))(hn:n0<=w.heap.size)(hl:l.length<=100000)(c:Nat)(ty:TypeId) :
  ∃g cap w',(Builtin.append_ #[23,23] ty #[v,sL g0 0 1 c]).run prog w=.ok (sL g 0 (l.length+1) cap) w'/\Cls n0 w' (sL g 0 (l.length+1) cap) (l ++ [x])/\w.grownBy w' v.ownBlock/\(v.ownBlock=some g\/w.heap.size<=g):=by
 obtain⟨i,hi,hz,hs,a3⟩:=Fg Zk;obtain⟨g,cap,w',hr,ho,hg,a0,a4⟩:=run_append_lies (P:=prog) w 23 ty n0 40 i _ 3 40 underlying23 hi hz hs a3 rfl (by decide) v l.length (l.flatMap Bi) h ⟨g0,0,none⟩ 1 c [strV x.1,strV x.2,iv 0] rfl (λ j u hj=>by
  have h1:w.cell? ⟨g0,j,none⟩=some u:=by rw[Bl hb,List.getElem?_toArray];exact hj
  by_cases h0:j=0
  .subst h0;simpa [Addr.add] using h1
  .simpa [Addr.add,h0] using h1) (λ u hu=>by simp at hu;rcases hu with rfl | rfl | rfl <;> rfl) (by omega) (by unfold maxLen;omega) (by omega) hn _ rfl
 refine⟨g,cap,w',hr,?_,hg,?_⟩
 .have e1:(l ++ [x]).length=l.length+1:=by simp
  have e2:(l ++ [x]).flatMap Bi=l.flatMap Bi ++ [strV x.1,strV x.2,iv 0]:=by rw[flatMap_append];rfl
  unfold Cls;rw[e1,e2];exact ho
 .rcases a0 with h | h
  .exact AI h
  .exact AJ (by omega)
theorem Vy{k:Nat}(hk:k≠g)(x0 x1 x2 x3 x4 x5 x6:Value):(((((((w.setCell ⟨g,0,none⟩ x0).setCell ⟨g,1,none⟩ x1).setCell ⟨g,2,none⟩ x2).setCell ⟨g,3,none⟩ x3).setCell ⟨g,4,none⟩ x4).setCell ⟨g,5,none⟩ x5).setCell ⟨g,6,none⟩ x6).heap[k]?=w.heap[k]?:=by
 rw[Below.heap_setCell _ _ _ _ hk,Below.heap_setCell _ _ _ _ hk,Below.heap_setCell _ _ _ _ hk,Below.heap_setCell _ _ _ _ hk,Below.heap_setCell _ _ _ _ hk,Below.heap_setCell _ _ _ _ hk,Below.heap_setCell _ _ _ _ hk]
theorem Vz{l:List Px.Sl}{q:Nat}{s:Px.Sl}(h:l[q]?=some s):Ck.slots (l.take (q+1))=Ck.slots (l.take q) ++ [(s.name,s.type)]:=by
 unfold Ck.slots;rw[take_add_one,h,map_append];rfl
theorem O0{B:AS}{l:List Px.Sl}(h:Ew B w l v)(hl:l.length<=100000)(hn:∀s∈l,s.name.length<=1000/\s.type.length<=1000) :
  AA 74 #[v] w λ e w'=>∃a c,e=.returned (.slice a l.length c)/\Cls w.heap.size w' (.slice a l.length c) (Ck.slots l)/\Below w.heap.size w w':=by
 obtain⟨ao,cap,rfl,b6,bb⟩:=SlRow.val h;have a5:=λ (j:Nat) (s:Px.Sl) (hj:l[j]?=some s)=>Ld h hj
 replace a5:=B4 a5;clear h;have b4:Hid (Cls w.heap.size w sZ (Ck.slots (l.take 0))/\Below w.heap.size w w):=⟨Cls.nil _ _,AF _ _⟩;go_enter func74,ntmps74;go_wp2_with fail
 go_loopg [3,8] l.length (λ gh out i wr=>∃q oa oc,q<=l.length/\gh=l.length - q/\out=.slice oa q oc/\i=iv q/\Hid (Cls w.heap.size wr (.slice oa q oc) (Ck.slots (l.take q))/\Below w.heap.size w wr))
 case atStart=>exact⟨0,none,0,AO _,rfl,rfl,rfl,b4⟩
 case round=>
  obtain⟨q,oa,oc,hq,rfl,rfl,rfl,HI⟩:=hrel;clear b4;by_cases hlt:q<l.length
  .have az:(q:Int)<(l.length:Int):=by omega
   have bj:(0:Int)<=(q:Int):=by omega
   obtain⟨s,al⟩:∃s,l[q]?=some s:=⟨_,AN hlt⟩;obtain⟨ga,og,ca,ea,-,au,u0,u1,u2⟩:=a5.out q s al;simp only[Value.slice.injEq] at ea;obtain⟨rfl,-,rfl⟩:=ea;have ar:=HI.out.2;obtain⟨ai,-⟩:=bcell ar;replace u0:=(ai _ _ au).trans u0;replace u1:=(ai _ _ au).trans u1;replace u2:=(ai _ _ au).trans u2;have bc:=ar.size;have bf:ga<wr.heap.size:=by omega
   obtain⟨bh,bl⟩:=hn s (mem_of_getElem? al);have ab:=λ w'=>Vv.sclone_l s.name w' (by omega)
   have ad:=λ w'=>Vv.sclone_l s.type w' (by omega)
   obtain⟨w5,b9⟩:∃w5,wr.alloc (.cells #[sE,sE,iv 0] 40)=w5:=⟨_,rfl⟩;obtain⟨w6,b0⟩:∃w6,((w5.setCell ⟨wr.heap.size,0,none⟩ (strV s.name)).setCell ⟨wr.heap.size,1,none⟩ (strV s.type)).setCell ⟨wr.heap.size,2,none⟩ (iv s.place)=w6:=⟨_,rfl⟩;have ba:Below wr.heap.size wr w5:=by rw[<-b9];exact (AF _ _).alloc (AD _) _
   have ah:w5.heap[wr.heap.size]?=some (.cells #[sE,sE,iv 0] 40 (0,0)):=by rw[<-b9];exact heap_new _ _
   have l5:wr.heap.size<w5.heap.size:=(AB ah).1;have b8:Below wr.heap.size wr w6:=by rw[<-b0];exact ((ba.setCell (p:=⟨wr.heap.size,0,none⟩) (AD _) _).setCell (p:=⟨wr.heap.size,1,none⟩) (AD _) _).setCell (p:=⟨wr.heap.size,2,none⟩) (AD _) _
   have av:w6.heap[wr.heap.size]?=some (.cells #[strV s.name,strV s.type,iv s.place] 40 (0,0)):=by rw[<-b0];simp[World.setCell,Array.getElem?_modify,ah]
   have l6:wr.heap.size<w6.heap.size:=(AB av).1;obtain⟨y0,y1,y2,z0,z1,z2⟩:=Az ah;obtain⟨bg,bd,bi,-⟩:=Az av;clear ah ba av ai;go_wp2_with fail;have hS:∀w',Below w6.heap.size w6 w'->(w'.cell? ⟨wr.heap.size,0,none⟩=some (strV s.name)/\w'.cell? ⟨wr.heap.size,1,none⟩=some (strV s.type)):=λ w' hb=>⟨((bcell hb).1 _ _ l6).trans bg,((bcell hb).1 _ _ l6).trans bd⟩
   replace hS:=B4 hS;refine Vv.wpE_begin (S:=λ w'=>w'.cell? ⟨wr.heap.size,0,none⟩=some (strV s.name)/\w'.cell? ⟨wr.heap.size,1,none⟩=some (strV s.type)) (N:=λ j=>decide (j<9)) (by kernel_rfl) ?_;have ak:Below w6.heap.size w6 w6.drew:=(AF _ _).drew;have a7:=hS.out w6.drew ak;have am:w6.heap.size<=w6.drew.heap.size:=AD _;generalize w6.drew=wd at *;refine Aa 12 [9,10] 0 (.slice oa q oc) a7 ?_
   try simp only[aP]
   refine Aa 13 [2,3,6,7,8,9,10] 1 (pt wr.heap.size 0) a7 ?_
   try simp only[aP]
   refine Aa 14 [3,6,7,8,9,10] 2 (strV s.name) a7 ?_
   try simp only[aP]
   refine Aa 16 [5,6,7,8,9,10] 4 (pt wr.heap.size 1) a7 ?_
   try simp only[aP]
   refine Aa 17 [6,7,8,9,10] 5 (strV s.type) a7 ?_
   try simp only[aP]
   refine Ah 3 λ K hK=>?_
   go_simp;refine (ab _).mono ?_;rintro e w7 ⟨rfl,ae⟩;have aj:Below w6.heap.size w6 w7:=ak.trans (ae.mono am);refine hK _ _ (λ _=>hS.out w7 aj) ?_;clear hK K ab
   try simp only[aP]
   refine Ah 6 λ K hK=>?_
   go_simp;refine (ad _).mono ?_;rintro e w8 ⟨rfl,a8⟩;have a9:Below w6.heap.size w6 w8:=aj.trans (a8.mono aj.size);refine hK _ _ (λ _=>hS.out w8 a9) ?_;clear hK K ad
   try simp only[aP]
   refine Ah 7 λ K hK=>?_
   go_simp;refine hK _ _ (λ _=>hS.out w8 a9) ?_;clear hK K
   try simp only[aP]
   obtain⟨w9,aw⟩:∃w9,w8.alloc (.cells #[strV s.name,strV s.type,iv 0] 40)=w9:=⟨_,rfl⟩;have af:Below w8.heap.size w8 w9:=by rw[<-aw];exact (AF _ _).alloc (AD _) _
   have a4:w9.heap[w8.heap.size]?=some (.cells #[strV s.name,strV s.type,iv 0] 40 (0,0)):=by rw[<-aw];exact heap_new _ _
   have aq:Below w6.heap.size w6 w9:=a9.trans (af.mono a9.size);refine Ah 8 λ K hK=>?_
   go_simp
   try rw[aw]
   refine hK _ _ (λ _=>hS.out w9 aq) ?_;clear hK K
   try simp only[aP]
   have a0:Below wr.heap.size wr w9:=b8.trans (aq.mono b8.size);have bk:=a0.size;have b5:Cls w.heap.size w9 (.slice oa q oc) (Ck.slots (l.take q)):=HI.out.1.since (λ j e=>a0.block j (HI.out.1.lt e).2);have be:(Ck.slots (l.take q)).length=q:=by simp[Ck.slots];omega
   obtain⟨b7,b3,w10,a6,a3,aa,ag⟩:=b5.push (x:=(s.name,s.type)) a4 (by omega) (by omega) 1 23;rw[be] at a6 a3;rw[<-Vz al] at a3;have ay:Hid (Cls w.heap.size w10 (sL b7 0 (q+1) b3) (Ck.slots (l.take (q+1)))/\Below w.heap.size w w10):=⟨a3,(ar.trans (a0.mono bc)).grown aa (by omega) (λ j e=>(HI.out.1.lt e).1)⟩;clear b5 a3 aa ag a4 aq af a9 a8 aj ae a0 hS a7 ak HI;refine Ah 9 λ K hK=>?_
   refine Ci _ _ 23 rfl _ _ rfl rfl _ _ a6 ?_;refine hK _ _ (λ h=>by cases h) ?_;clear hK K
   try simp only[aP]
   refine Ah 10 λ K hK=>?_
   go_simp;refine hK _ _ (λ h=>by cases h) ?_;clear hK K
   try simp only[aP]
   refine Vv.wpE_done (by kernel_rfl) ?_;clear a6;simp only[Exit.inBlock,Exit.then];refine ‹∀(a:Act) (w:World),_->_› _ _ ?_;go_wp2_with fail;go_roundg (l.length - (q+1))
   case measure=>omega
   case rel=>exact⟨q+1,some ⟨b7,0,none⟩,b3,by omega,rfl,rfl,by go_num,ay⟩
  .have az:¬(q:Int)<(l.length:Int):=by omega
   have ax:∃a c,Value.slice oa q oc=.slice a l.length c/\Cls w.heap.size wr (.slice a l.length c) (Ck.slots l)/\Below w.heap.size w wr:=by
    have e1:q=l.length:=by omega
    have h1:=HI.out;rw[take_of_length_le (by omega)] at h1;subst e1;exact⟨oa,oc,rfl,h1.1,h1.2⟩
   clear HI;go_wp2_with fail;obtain⟨a,c,e1,e2,e3⟩:=ax;exact bodyPost_ret (v:=.slice oa q oc) (by simp[results,results74,go_sem]) rfl ⟨a,c,by rw[e1],e2,e3⟩
theorem Al1{B:AS}{f:Px.Fn}{pa ba:Option Addr}{pc bn bc:Nat}(h:Ew B w f.params (.slice pa f.params.length pc))(hl:f.params.length<=100000)(hn:∀s∈f.params,s.name.length<=1000/\s.type.length<=1000)(ax:f.name.length<=1000)(az:f.result.length<=1000) :
  AA 75 #[.agg #[strV f.name,.bool f.on,.slice pa f.params.length pc,strV f.result,sZ,.slice ba bn bc,iv f.place]] w λ e w'=>∃a9 c9,e=.returned (.agg #[strV f.name,.bool f.on,.slice a9 f.params.length c9,strV f.result,sZ,sZ,iv 0])/\Cls w.heap.size w' (.slice a9 f.params.length c9) (Ck.slots f.params)/\Below w.heap.size w w':=by
 obtain⟨w0,au⟩:∃w0,w.alloc (.cells #[strV f.name,.bool f.on,.slice pa f.params.length pc,strV f.result,sZ,.slice ba bn bc,iv f.place] 36)=w0:=⟨_,rfl⟩;obtain⟨w1,ar⟩:∃w1,w0.alloc (.cells #[sE,.bool false,sZ,sE,sZ,sZ,iv 0] 36)=w1:=⟨_,rfl⟩;have al:Below w.heap.size w w0:=by rw[<-au];exact (AF _ _).alloc (AD _) _
 have a3:Below w0.heap.size w0 w1:=by rw[<-ar];exact (AF _ _).alloc (AD _) _
 have ai:w0.heap[w.heap.size]?=some (.cells #[strV f.name,.bool f.on,.slice pa f.params.length pc,strV f.result,sZ,.slice ba bn bc,iv f.place] 36 (0,0)):=by rw[<-au];exact heap_new _ _
 have l0:w.heap.size<w0.heap.size:=(AB ai).1;have av:=(a3.block _ l0).trans ai;have am:w1.heap[w0.heap.size]?=some (.cells #[sE,.bool false,sZ,sE,sZ,sZ,iv 0] 36 (0,0)):=by rw[<-ar];exact heap_new _ _
 have l1:w0.heap.size<w1.heap.size:=(AB am).1;have ag:Below w.heap.size w w1:=al.trans (a3.mono al.size);obtain⟨d0,d1,d2,d3,d4,d5,d6,-⟩:=Cf av;have lx:w.heap.size<w1.heap.size:=by omega
 have a7:=λ w'=>Vv.sclone_l f.name w' (by omega)
 have a8:=λ w'=>Vv.sclone_l f.result w' (by omega)
 have ae:=λ w' (hb:Below w1.heap.size w1 w')=>O0 ((SlRow.since h (Since.of_below ag)).since (Since.of_below hb)) hl hn
 replace ae:=B4 ae;clear h ai al a3 av;go_enter func75,ntmps75;go_wp2_with fail;have hS:∀w',Below w1.heap.size w1 w'->(w'.cell? ⟨w.heap.size,0,none⟩=some (strV f.name)/\w'.cell? ⟨w.heap.size,1,none⟩=some (.bool f.on)/\w'.cell? ⟨w.heap.size,2,none⟩=some (.slice pa f.params.length pc)/\w'.cell? ⟨w.heap.size,3,none⟩=some (strV f.result)):=λ w' hb=>⟨((bcell hb).1 _ _ lx).trans d0,((bcell hb).1 _ _ lx).trans d1,((bcell hb).1 _ _ lx).trans d2,((bcell hb).1 _ _ lx).trans d3⟩
 replace hS:=B4 hS;refine Vv.wpE_begin (S:=λ w'=>w'.cell? ⟨w.heap.size,0,none⟩=some (strV f.name)/\w'.cell? ⟨w.heap.size,1,none⟩=some (.bool f.on)/\w'.cell? ⟨w.heap.size,2,none⟩=some (.slice pa f.params.length pc)/\w'.cell? ⟨w.heap.size,3,none⟩=some (strV f.result)) (N:=λ j=>decide (j<11)) (by kernel_rfl) ?_;have aj:Below w1.heap.size w1 w1.drew:=(AF _ _).drew;have a0:=hS.out w1.drew aj;have ak:w1.heap.size<=w1.drew.heap.size:=AD _;generalize w1.drew=wd at *;refine Aa 3 [1,2,7,10,11,12] 0 (pt w.heap.size 0) a0 ?_
 try simp only[aP]
 refine Aa 4 [2,7,10,11,12] 1 (strV f.name) a0 ?_
 try simp only[aP]
 refine Aa 6 [4,11,12] 3 (pt w.heap.size 1) a0 ?_
 try simp only[aP]
 refine Aa 7 [11,12] 4 (.bool f.on) a0 ?_
 try simp only[aP]
 refine Aa 8 [6,7,10,11,12] 5 (pt w.heap.size 2) a0 ?_
 try simp only[aP]
 refine Aa 9 [7,10,11,12] 6 (.slice pa f.params.length pc) a0 ?_
 try simp only[aP]
 refine Aa 11 [9,10,11,12] 8 (pt w.heap.size 3) a0 ?_
 try simp only[aP]
 refine Aa 12 [10,11,12] 9 (strV f.result) a0 ?_
 try simp only[aP]
 refine Ah 2 λ K hK=>?_
 go_simp;refine (a7 _).mono ?_;rintro e w7 ⟨rfl,aa⟩;have a5:Below w1.heap.size w1 w7:=aj.trans (aa.mono ak);refine hK _ _ (λ _=>hS.out w7 a5) ?_;clear hK K a7
 try simp only[aP]
 refine Ah 7 λ K hK=>?_
 go_simp;refine (ae.out w7 a5).mono ?_;rintro e w8 ⟨a9,c9,rfl,ah,a6⟩;have ad:Below w1.heap.size w1 w8:=a5.trans (a6.mono a5.size);refine hK _ _ (λ _=>hS.out w8 ad) ?_;clear hK K ae
 try simp only[aP]
 refine Ah 10 λ K hK=>?_
 go_simp;refine (a8 _).mono ?_;rintro e w9 ⟨rfl,a4⟩;have af:Below w1.heap.size w1 w9:=ad.trans (a4.mono ad.size);refine hK _ _ (λ _=>hS.out w9 af) ?_;clear hK K a8
 try simp only[aP]
 have aq:=(af.block _ l1).trans am;obtain⟨r0,r1,r2,r3,r4,r5,r6,t0,t1,t2,t3,t4,t5,t6⟩:=Cf aq;have l9:w0.heap.size<w9.heap.size:=(AB aq).1;have ab:Hid (∃a9' c9',Ending.returned (.agg #[strV f.name,.bool f.on,.slice a9 f.params.length c9,strV f.result,sZ,sZ,iv 0])=.returned (.agg #[strV f.name,.bool f.on,.slice a9' f.params.length c9',strV f.result,sZ,sZ,iv 0])/\Cls w.heap.size (((((((w9.setCell ⟨w0.heap.size,0,none⟩ (strV f.name)).setCell ⟨w0.heap.size,1,none⟩ (.bool f.on)).setCell ⟨w0.heap.size,2,none⟩ (.slice a9 f.params.length c9)).setCell ⟨w0.heap.size,3,none⟩ (strV f.result)).setCell ⟨w0.heap.size,4,none⟩ sZ).setCell ⟨w0.heap.size,5,none⟩ sZ).setCell ⟨w0.heap.size,6,none⟩ (iv 0)) (.slice a9' f.params.length c9') (Ck.slots f.params)/\Below w.heap.size w (((((((w9.setCell ⟨w0.heap.size,0,none⟩ (strV f.name)).setCell ⟨w0.heap.size,1,none⟩ (.bool f.on)).setCell ⟨w0.heap.size,2,none⟩ (.slice a9 f.params.length c9)).setCell ⟨w0.heap.size,3,none⟩ (strV f.result)).setCell ⟨w0.heap.size,4,none⟩ sZ).setCell ⟨w0.heap.size,5,none⟩ sZ).setCell ⟨w0.heap.size,6,none⟩ (iv 0))):=by
  have ay:=a5.size;have aw:Below w.heap.size w w9:=ag.trans (af.mono ag.size);have hW:Below w0.heap.size w9 (((((((w9.setCell ⟨w0.heap.size,0,none⟩ (strV f.name)).setCell ⟨w0.heap.size,1,none⟩ (.bool f.on)).setCell ⟨w0.heap.size,2,none⟩ (.slice a9 f.params.length c9)).setCell ⟨w0.heap.size,3,none⟩ (strV f.result)).setCell ⟨w0.heap.size,4,none⟩ sZ).setCell ⟨w0.heap.size,5,none⟩ sZ).setCell ⟨w0.heap.size,6,none⟩ (iv 0)):=(((((((AF _ _).setCell (p:=⟨w0.heap.size,0,none⟩) (AD _) _).setCell (p:=⟨w0.heap.size,1,none⟩) (AD _) _).setCell (p:=⟨w0.heap.size,2,none⟩) (AD _) _).setCell (p:=⟨w0.heap.size,3,none⟩) (AD _) _).setCell (p:=⟨w0.heap.size,4,none⟩) (AD _) _).setCell (p:=⟨w0.heap.size,5,none⟩) (AD _) _).setCell (p:=⟨w0.heap.size,6,none⟩) (AD _) _;have ho:∀j,j≠w0.heap.size->(((((((w9.setCell ⟨w0.heap.size,0,none⟩ (strV f.name)).setCell ⟨w0.heap.size,1,none⟩ (.bool f.on)).setCell ⟨w0.heap.size,2,none⟩ (.slice a9 f.params.length c9)).setCell ⟨w0.heap.size,3,none⟩ (strV f.result)).setCell ⟨w0.heap.size,4,none⟩ sZ).setCell ⟨w0.heap.size,5,none⟩ sZ).setCell ⟨w0.heap.size,6,none⟩ (iv 0)).heap[j]?=w9.heap[j]?:=λ j hj=>Vy hj _ _ _ _ _ _ _
  refine⟨a9,c9,rfl,?_,aw.trans (hW.mono (by omega))⟩;have h1:Cls w7.heap.size w9 (.slice a9 f.params.length c9) (Ck.slots f.params):=ah.since (λ j e=>a4.block j (ah.lt e).2);have h2:Cls w7.heap.size (((((((w9.setCell ⟨w0.heap.size,0,none⟩ (strV f.name)).setCell ⟨w0.heap.size,1,none⟩ (.bool f.on)).setCell ⟨w0.heap.size,2,none⟩ (.slice a9 f.params.length c9)).setCell ⟨w0.heap.size,3,none⟩ (strV f.result)).setCell ⟨w0.heap.size,4,none⟩ sZ).setCell ⟨w0.heap.size,5,none⟩ sZ).setCell ⟨w0.heap.size,6,none⟩ (iv 0)) (.slice a9 f.params.length c9) (Ck.slots f.params):=h1.since (λ j e=>ho j (by have:=(h1.lt e).1;omega));refine⟨h2.1,?_⟩;rcases h2.2 with h3 | ⟨g,cap,cur,h3,h4,h5,h6⟩
  .exact AI h3
  .exact AJ ⟨g,cap,cur,h3,by omega,h5,h6⟩
 clear hS a0 ah aq a5 ad af aa a6 a4 aj ag am;refine Ah 11 λ K hK=>?_
 go_simp;refine hK _ _ (λ h=>by cases h) ?_;clear hK K
 try simp only[aP]
 refine Ah 12 λ K hK=>?_
 go_simp;refine hK _ _ (λ h=>by cases h) ?_;clear hK K
 try simp only[aP]
 refine Vv.wpE_done (by kernel_rfl) ?_;simp only[Exit.inBlock,Exit.then];refine ‹∀(a:Act) (w:World),_->_› _ _ ?_;go_wp2_with fail;exact bodyPost_ret (v:=.agg #[strV f.name,.bool f.on,.slice a9 f.params.length c9,strV f.result,sZ,sZ,iv 0]) (by simp[results,results75,go_sem,l9,r0,r1,r2,r3,r4,r5,r6]) rfl ab.out
end
end Go.Proofs.YtpckmjfabiallaaGreatDoor
