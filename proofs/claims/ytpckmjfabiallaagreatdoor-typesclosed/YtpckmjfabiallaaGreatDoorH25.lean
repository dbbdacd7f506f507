/- Texts of ours, joined. -/
import Derived.Test.YtpckmjfabiallaaGreatDoorH22
set_option linter.unusedVariables false
set_option linter.unusedSimpArgs false
set_option maxRecDepth 100000
set_option maxHeartbeats 16000000
namespace Go.Proofs.YtpckmjfabiallaaGreatDoor
variable{b g i j mb n0 p:Nat}{cs:List Value}{fs s1 ss v v0:Value}{w w':World}
open List
open Tryz
section
open Go.RowKit
open Ck (CE CS CF CP Mng)
attribute [local go_sem ↓] Go.wp_at_zero Go.wp_at_succ
def Ad7(s:Px.St):Prop:=∀(n0 b mb cb nb:Nat) (v0 ss fs lv nv:Value) (k:Ck.Kx) (env:Ck.Env) (ls names:List (List UInt8)) (cs:AR) (w:World),CkS n0 b mb v0 ss fs k env ls lv w->KOk k env->Sc n0 b cb nb nv names w->Apart lv nv cb nb->ls.length<=32->names.length<=100000->IsSt (Old n0 b mb) w s cs->AA 115 #[pt b 0,.agg cs.toArray,.func (.func 112) #[] #[pt cb 0,pt nb 0]] w λ e w'=>Bt n0 b mb cb nb v0 ss fs k env lv nv names w (Ck.cS k env ls s) e w'
abbrev Kn(n:Nat)(lv nv:Value):Nat->Prop:=λ j=>n<=j/\lv.ownBlock≠some j/\nv.ownBlock≠some j
theorem Stp.turn{nb:Nat}{lv lvr lv' nvr:Value}{wr:World}(s:Stp b mb lv w lvr wr)(hn:w.heap.size<=nb)(a0:∀j,nvr.ownBlock=some j->w.heap.size<=j)(f:Fm (H0 b mb nb lvr nvr) wr w')(a3:∀j,lv'.ownBlock=some j->lvr.ownBlock=some j\/wr.heap.size<=j):Stp b mb lv w lv' w':=
 ⟨s.fm.trans f (λ _ _ e=>e) (λ j hj e=>by
  rcases e with e | e | e | e | e
  .exact AI e
  .exact AJ (AI e)
  .omega
  .rcases s.lv j e with e | e
   .exact AJ (AJ e)
   .omega
  .have:=a0 j e;omega),λ j hj=>by
  rcases a3 j hj with e | e
  .exact s.lv j e
  .exact AJ (by have:=s.fm.size;omega)⟩
structure BkI(n0 b mb cb nb m:Nat)(v0 ss fs lv:Value)(k:Ck.Kx)(env:Ck.Env)(ls:List (List UInt8))(w:World)(l:List Px.St)(R:Ck.R (List CS × Ck.Env × List (List UInt8)))(q:Nat)(acc:List CS)(out lvr nvr:Value)(more:Ck.Env)(lsr:List (List UInt8))(wr:World):Prop where
 len:acc.length=q
 stp:Stp b mb lv w lvr wr
 ck:CkS n0 b mb v0 ss fs k (env ++ more) lsr lvr wr
 sc:Sc n0 b cb nb nvr (more.map Prod.fst) wr
 ap:Apart lvr nvr cb nb
 nv:∀j,nvr.ownBlock=some j->m<=j
 grow:Grow k env ls (env ++ more) lsr
 gs:Gs (Kn m lvr nvr) wr out acc
 sz:m<=wr.heap.size
 ans:R=Ck.bind (Ck.cSs k (env ++ more) lsr (l.drop q)) λ c=>.inl (acc ++ c.1,c.2)
theorem IsSt.cells{B:AS}{s:Px.St}(h:IsSt B w s cs):∃(k p:Nat) (n:AQ) (a1 a2 a3:Option Addr) (l1 l2 l3 c1 c2 c3:Nat),cs=[iv k,strV n,iv 0,.bool false,iv 0,.slice a1 l1 c1,.slice a2 l2 c2,.slice a3 l3 c3,iv p]:=by
 obtain⟨k,n,es,b,c,p⟩:=s;rw[IsSt] at h;obtain⟨s1,s2,s3,r1,r2,r3,rfl,h1,h2,h3,h4,h5,h6⟩:=h;obtain⟨a1,c1,rfl,-,-⟩:=h1.val;obtain⟨a2,c2,rfl,-,-⟩:=h3.val;obtain⟨a3,c3,rfl,-,-⟩:=h5.val;exact⟨k,p,n,a1,a2,a3,_,_,_,c1,c2,c3,rfl⟩
theorem IsSt.since'{B:AS}{s:Px.St}(h:IsSt B w s cs)(e:Since B w w'):IsSt B w' s cs:=IsSt.since e h
theorem Vx:∀{l:List Px.St},Ha l->∀{s},s∈l->ShS s
 | x :: r,h,s,hs=>by
  rw[Ha] at h;rcases mem_cons.1 hs with rfl | hs
  .exact h.1
  .exact Vx h.2 hs
theorem Hb{l:List Px.St}(hA:∀s∈l,Ad7 s)(bs:Ha l)(d4:l.length<=1000000):Rn l:=by
 intro n0 b mb v0 ss fs k env ls lv sl row w hC hk hl hr ha;obtain⟨ao,cap,rfl,ca,ba⟩:=hr.val;have d6:=hC.sz;have dl:=hC.hb;have c9:=hC.hm;have cf:=Gg (n0:=n0) (b:=b) (w:=w) d6;obtain⟨R,HR⟩:∃R,Hid (Ck.cSs k env ls l=R):=⟨_,rfl⟩;rw[HR.out];have ci:∀lv' w',Stp b mb lv w lv' w'->Since (Old n0 b mb) w w':=λ lv' w' s=>s.fm.since (λ j hj e=>by
  rcases e with e | e | e
  .exact hj.2.1 e
  .exact hj.2.2 e
  .have:=(hC.loc.lt e).1;have:=hj.1;omega)
 have ai:∀(q:Nat),q<l.length->∃s cs g o,s∈l/\l[q]?=some s/\ao=some ⟨g,o,none⟩/\IsSt (Old n0 b mb) w s cs/\∀lv' w',Stp b mb lv w lv' w'->g<w'.heap.size/\∀(j:Nat) (u:Value),cs[j]?=some u->w'.cell? ⟨g,o+q*9+j,none⟩=some u:=λ q hq=>by
  obtain⟨s,hs⟩:∃s,l[q]?=some s:=⟨_,AN hq⟩;obtain⟨cs,k1,k2⟩:=ha.get hs;obtain⟨g,o,c,e1,-,-,hB,hg,ay⟩:=hr.cells (by omega);simp only[Value.slice.injEq] at e1;refine⟨s,cs,g,o,mem_of_getElem? hs,hs,e1.1,k1,λ lv' w' st=>?_⟩;have h1:=ci lv' w' st;refine⟨by have:=h1.size;omega,λ j u hj=>?_⟩;have di:j<9:=by have:=(AK hj).1;rw[k1.len] at this;exact this
  rw[World.cell?_of_block (w:=w) (h1.block g hB hg),Nat.add_assoc];exact ay _ _ (by rw[k2 j di];exact hj)
 clear hr ha;go_enter func77,ntmps77;go_wp2_with fail;refine cf.mono ?_;rintro e w1 ⟨cb,nb,rfl,au,dr,cd,bt⟩;clear cf;have c8:Hid (BkI n0 b mb cb nb w1.heap.size v0 ss fs lv k env ls w l R 0 [] sZ lv sZ [] ls w1):=by
  have du:=(AB au.cbk).1;have ds:=(AB au.nbk).1;refine⟨rfl,BG bt,by rw[append_nil];exact hC.keep bt,au,⟨λ e=>?_,λ e=>?_,λ j _ e=>(by cases e)⟩,λ j e=>(by cases e),by rw[append_nil];exact Grow.refl hk hl,Gs.nil _ _,AD _,?_⟩
  .have:=(hC.loc.lt e).2;omega
  .have:=(hC.loc.lt e).2;omega
  .rw[append_nil,drop_zero,HR.out];rcases R with⟨x1,x2⟩ | r <;> simp[Ck.bind]
 have d0:cb<w1.heap.size:=(AB au.cbk).1;have d9:nb<w1.heap.size:=(AB au.nbk).1;have dh:=bt.size;have bp:=hC.bm;clear HR hC au;go_wp2_with fail
 go_loopg [7,17] l.length (λ gh out i wr=>∃q acc oa oc lvr nvr more lsr,q<=l.length/\gh=l.length - q/\out=.slice oa q oc/\i=iv q/\Hid (BkI n0 b mb cb nb w1.heap.size v0 ss fs lv k env ls w l R q acc (.slice oa q oc) lvr nvr more lsr wr))
 case atStart=>exact⟨0,[],none,0,lv,sZ,[],ls,AO _,rfl,rfl,rfl,c8⟩
 case round=>
  obtain⟨q,acc,oa,oc,lvr,nvr,more,lsr,hq,rfl,rfl,rfl,HI⟩:=hrel;clear c8;by_cases hlt:q<l.length
  .have br:(q:Int)<(l.length:Int):=by omega
   obtain⟨s,cs,g,o,b0,bw,rfl,bh,a4⟩:=ai q hlt;obtain⟨k4,p4,n4,a1,a2,a3,l1,l2,l3,c1,c2,c3,rfl⟩:=bh.cells;obtain⟨dq,a8⟩:=a4 _ _ HI.out.stp;have u0:wr.cell? ⟨g,o+q*9,none⟩=some (iv k4):=a8 0 _ rfl;have u1:=a8 1 _ rfl;have u2:=a8 2 _ rfl;have u3:=a8 3 _ rfl;have u4:=a8 4 _ rfl;have u5:=a8 5 _ rfl;have u6:=a8 6 _ rfl;have u7:=a8 7 _ rfl;have u8:=a8 8 _ rfl;obtain⟨wz,w3,d5,dc,b3,cr,cv,ct,ag,ae⟩:=G7 wr (iv k4) (strV n4) (iv 0) (.bool false) (iv 0) (.slice a1 l1 c1) (.slice a2 l2 c2) (.slice a3 l3 c3) (iv p4);have lz:wr.heap.size<wz.heap.size:=by omega
   have dt:wr.heap.size<w3.heap.size:=by omega
   clear cr cv;obtain⟨z0,z1,z2,z3,z4,z5,z6,z7,z8,f0,f1,f2,f3,f4,f5,f6,f7,f8⟩:=Ai ae;obtain⟨dk,db,cu,dj,dd,cy,df,cz,dm,-⟩:=Ai ag;have a9:Stp b mb lv w lvr w3:=HI.out.stp.trans (BG b3);have b6:=HI.out.ck.keep b3;have b7:Sc n0 b cb nb nvr (more.map Prod.fst) w3:=HI.out.sc.keep (λ j hj=>b3.block j (by
    have:=HI.out.sz;rcases hj with rfl | rfl | e
    .omega
    .omega
    .exact (HI.out.sc.own.lt e).2))
   have al:=HI.out.grow;have c5:more.length<=32:=by
    obtain⟨m2,e1,e2,-⟩:=al.more;have:=append_cancel_left e1;subst this;have:=al.len;omega
   have cp:=hA s b0 n0 b mb cb nb v0 ss fs lvr nvr k (env ++ more) lsr (more.map Prod.fst) _ w3 b6 al.ok b7 HI.out.ap al.len (by simp;omega) (bh.since' (ci _ _ a9));have cc:∀x env' ls',Ck.cS k (env ++ more) lsr s=.inl (x,env',ls')->Grow k (env ++ more) lsr env' ls':=λ x env' ls' e=>Vw s (env ++ more) lsr (x,env',ls') al.ok al.len (Vx bs b0) e
   have ah:l.drop q=s :: l.drop (q+1):=by
    obtain⟨hi,rfl⟩:=AK bw;exact drop_eq_getElem_cons hi
   have bj:Hid (R=Ck.bind (Ck.cS k (env ++ more) lsr s) λ a=>Ck.bind (Ck.cSs k a.2.1 a.2.2 (l.drop (q+1))) λ c=>.inl (acc ++ (a.1 :: c.1),c.2)):=by
    show _=_;rw[HI.out.ans,ah,Ck.cSs];generalize Ck.cS k (env ++ more) lsr s=D;rcases D with a | e
    .simp only[Ck.bind];generalize Ck.cSs k a.2.1 a.2.2 (l.drop (q+1))=E;rcases E with c | e <;> rfl
    .rfl
   generalize Ck.cS k (env ++ more) lsr s=D at *;have aa:Below wr.heap.size wr w3:=b3;clear ai a4 a8 bh bw ah bs b6 b7 al ae ag b3 ct hA;go_wp2_with fail;refine cp.mono ?_;rintro e w5 hP;clear cp u0 u1 u2 u3 u4 u5 u6 u7 u8 z0 z1 z2 z3 z4 z5 z6 z7 z8 f0 f1 f2 f3 f4 f5 f6 f7 f8 dk db cu dj dd cy df cz dm d5 dc;have bb:∀j,nvr.ownBlock=some j->w.heap.size<=j:=λ j e=>by have:=HI.out.nv j e;omega
   rcases D with⟨⟨k5,o5,f5,n5,ar,aw,av⟩,env',ls'⟩ | ⟨a,er⟩
   rotate_left
   .obtain⟨hm,hF⟩:=hP;obtain rfl:=hm;have a6:G9 n0 b mb v0 ss fs k env lv w R (.panicked (Af a er)) w5:=by
     rw[bj.out];exact⟨rfl,(a9.turn cd bb hF (λ j e=>AI e)).fm⟩
    exact⟨rfl,a6⟩
   obtain⟨lv',ab,a0,dn,rfl,bq,rfl,bo,aq,cm,ax,am,ak⟩:=hP;have b9:=cc _ _ _ rfl;have c6:=bq;rw[Co] at c6;obtain⟨t1,t2,t3,r1,r2,r3,rfl,h1,h2,h3,h4,h5,h6⟩:=c6;obtain⟨e1,e2,rfl,-,-⟩:=h1.val;obtain⟨e3,e4,rfl,-,-⟩:=h3.val;obtain⟨e5,e6,rfl,-,-⟩:=h5.val;clear h1 h2 h3 h4 h5 h6;obtain⟨w6,be⟩:∃w6,w5.alloc (.cells #[iv k5,sE,iv o5,.bool f5,iv n5,.slice e1 ar.length e2,.slice e3 aw.length e4,.slice e5 av.length e6,iv 0] 46)=w6:=⟨_,rfl⟩;have b4:Below w5.heap.size w5 w6:=by rw[<-be];exact (AF _ _).alloc (AD _) _
   have l6:w5.heap.size<w6.heap.size:=by rw[<-be];simp
   have af:w6.heap[w5.heap.size]?=some (.cells #[iv k5,sE,iv o5,.bool f5,iv n5,.slice e1 ar.length e2,.slice e3 aw.length e4,.slice e5 av.length e6,iv 0] 46 (0,0)):=by rw[<-be];exact heap_new _ _
   have da:=aa.size;have d3:=ax.size;have d2:=b4.size;have d7:=HI.out.sz;have az:∀j,ab.ownBlock=some j->w1.heap.size<=j:=λ j e=>by
    rcases ak j e with e | e
    .exact HI.out.nv j e
    .omega
   have bv:Gs (Kn w1.heap.size lv' ab) w6 (.slice oa q oc) acc:=by
    have d8:=HI.out.gs.below aa;have cq:Gs (λ j=>Kn w1.heap.size lvr nvr j/\j<w3.heap.size) w3 (.slice oa q oc) acc:=d8.base (λ j h1 h2=>⟨h1,h2⟩);have bf:=cq.since (w':=w5) ⟨ax.size,λ j hj hl=>ax.block j hl (by
     obtain⟨⟨j1,j2,j3⟩,j4⟩:=hj;rintro (e | e | e | e | e)
     .omega
     .omega
     .omega
     .exact j2 e
     .exact j3 e)⟩
    refine (bf.base (λ j hj _=>?_)).below b4;obtain⟨⟨j1,j2,j3⟩,j4⟩:=hj;refine⟨j1,λ e=>?_,λ e=>?_⟩
    .rcases am j e with e | e
     .exact j2 e
     .omega
    .rcases ak j e with e | e
     .exact j3 e
     .omega
   have ch:Co (λ j=>Kn w1.heap.size lv' ab j/\(Value.slice oa q oc).ownBlock≠some j) w6 (.mk k5 o5 f5 n5 ar aw av) [iv k5,sE,iv o5,.bool f5,iv n5,.slice e1 ar.length e2,.slice e3 aw.length e4,.slice e5 av.length e6,iv 0]:=by
    refine (bq.since (Since.of_below b4)).base (λ j hj hl=>⟨⟨by have:=hj.1;omega,hj.2.1,hj.2.2⟩,λ e=>?_⟩);have h9:=(HI.out.gs.below aa).apart (k:=j) hj.1;exact h9 e
   have ce:∀j,w6.heap.size<=j->Kn w1.heap.size lv' ab j:=λ j hj=>⟨by omega,λ e=>by have:=(bo.loc.lt e).2;omega,λ e=>by have:=(aq.own.lt e).2;omega⟩
   have cj:acc.length+1<=1000000:=by
    have:=HI.out.len;have:cap<=9223372036854775807:=ba;exact AP (Nat.succ_le_of_lt (by rw[HI.out.len];exact hlt)) d4
   obtain⟨g7,c7,w7,bi,bl,co,cg,de,bu⟩:=bv.push (ad:=⟨w5.heap.size,0,none⟩) (cs:=[iv k5,sE,iv o5,.bool f5,iv n5,.slice e1 ar.length e2,.slice e3 aw.length e4,.slice e5 av.length e6,iv 0]) (λ j u hj=>by
    have h1:w6.cell? ⟨w5.heap.size,j,none⟩=some u:=by rw[Bf af,List.getElem?_toArray];exact hj
    by_cases h0:j=0
    .subst h0;simpa [Addr.add] using h1
    .simpa [Addr.add,h0] using h1) ch cj ce 1 34
   rw[HI.out.len] at bi bl;have a5:∀j,(Value.slice oa q oc).ownBlock=some j->w1.heap.size<=j/\lv'.ownBlock≠some j/\ab.ownBlock≠some j:=λ j e=>by
    obtain⟨cw,-,h0,-⟩:=bv;exact h0 j e
   have b8:Hid (BkI n0 b mb cb nb w1.heap.size v0 ss fs lv k env ls w l R (q+1) (acc ++ [.mk k5 o5 f5 n5 ar aw av]) (sL g7 0 (q+1) c7) lv' ab (more ++ a0) ls' w7):=by
    have a7:Fm (λ j=>(Value.slice oa q oc).ownBlock=some j) w6 w7:=by
     have bk:=co 0 (AO _) (λ _ _=>AO _);exact⟨bk.os,bk.tape,bk.output,de,λ j h1 h2=>cg j h1 h2⟩
    have aj:Fm (λ j=>(Value.slice oa q oc).ownBlock=some j) w5 w7:=(Fm.of_below (X:=λ _=>False) b4).trans a7 (λ _ _ h=>h.elim) (λ _ _ h=>h);have c4:=a9.turn cd bb ax am;refine⟨by rw[length_append,HI.out.len];rfl,?_,?_,?_,cm,az,?_,bl,by omega,?_⟩
    .exact⟨c4.fm.trans aj (λ _ _ h=>h) (λ j hj e=>by have:=(a5 j e).1;omega),c4.lv⟩
    .rw[<-append_assoc];exact bo.fm aj (λ j hj=>⟨by have:=(a5 j hj).1;omega,(a5 j hj).2.1⟩)
    .rw[map_append];refine aq.keep (λ j hj=>aj.block j ?_ ?_)
     .rcases hj with rfl | rfl | e
      .exact (AB aq.cbk).1
      .exact (AB aq.nbk).1
      .exact (aq.own.lt e).2
     .intro e;have h9:=a5 j e;rcases hj with rfl | rfl | e2
      .omega
      .omega
      .exact h9.2.2 e2
    .rw[<-append_assoc];exact HI.out.grow.trans b9
    .rw[bj.out];simp only[Ck.bind,append_assoc,singleton_append]
   clear bq bo aq cm ax am ak b9 b4 af bv ch ce bl co cg bu a5 bj cc a9 az aa HI cj;rcases oa with _ | oa
   .go_wp2_with (at_builtin;refine Lib.wpList_append_run _ rfl _ _ 34 34 rfl _ _ rfl rfl _ _ bi ?_)
    go_roundg (l.length - (q+1))
    case measure=>omega
    case rel=>exact⟨q+1,_,some ⟨g7,0,none⟩,c7,lv',ab,more ++ a0,ls',by omega,rfl,rfl,by go_num,b8⟩
   .go_wp2_with (at_builtin;refine Lib.wpList_append_run _ rfl _ _ 34 34 rfl _ _ rfl rfl _ _ bi ?_)
    go_roundg (l.length - (q+1))
    case measure=>omega
    case rel=>exact⟨q+1,_,some ⟨g7,0,none⟩,c7,lv',ab,more ++ a0,ls',by omega,rfl,rfl,by go_num,b8⟩
  .have br:¬(q:Int)<(l.length:Int):=by omega
   have d1:q=l.length:=by omega
   have cl:R=.inl (acc,env ++ more,lsr):=by
    rw[HI.out.ans,drop_of_length_le (by omega)];simp[Ck.cSs,Ck.bind]
   clear d1;have bn:∀y∈env,∀x∈more,y.1≠x.1:=by
    obtain⟨m2,e1,-,e3⟩:=HI.out.grow.more;have:=append_cancel_left e1;subst this;exact e3
   have c0:=G6 HI.out.ck.blk HI.out.ck.env HI.out.sc c9 bp bn;clear ai bs hA;go_wp2_with fail;refine c0.mono ?_;rintro e w7 ⟨rfl,bx,a7⟩;clear c0;have a6:G9 n0 b mb v0 ss fs k env lv w R (.returned (.slice oa q oc)) w7:=by
    rw[cl];have hC:=HI.out.ck;have bc:=HI.out.stp;have b5:∀j,lvr.ownBlock=some j->n0<=j/\j<wr.heap.size:=λ j e=>hC.loc.lt e
    have h8:=HI.out.gs.since (w':=w7) ⟨a7.size,λ j hj hl=>a7.block j hl (by have:=hj.1;omega)⟩;obtain⟨bg,i1,i2⟩:=h8.row;have hl:=HI.out.len;subst hl;refine⟨lvr,oa,oc,rfl,⟨bg,i1.base' (λ j hj _=>⟨by have:=hj.1;omega,hj.2.1⟩),i2.base (λ j hj _=>⟨by have:=hj.1;omega,hj.2.1⟩)⟩,⟨(a7.block b (by have:=bc.fm.size;omega) bp).trans hC.blk,hC.hds.since (a7.since (λ j hj e=>hj.2.2 e)),bx,hC.loc.since (λ j hj=>a7.block j (b5 j hj).2 (λ e=>by have:=(b5 j hj).1;omega)),dl,c9,bp,by have:=a7.size;have:=bc.fm.size;omega⟩,bc.fm.trans a7 (λ _ _ h=>h) (λ j _ e=>AJ (AI e)),bc.lv⟩
   clear HI bx a7 cl;go_wp2_with fail;exact bodyPost_ret (by simp[results,results77,go_sem]) rfl a6
theorem Ak7{x:Px.Ex}(hE:EOk x){n:AQ}{lv:Value}{k:Ck.Kx}{env:Ck.Env}{ls:List (List UInt8)}(h:CkS n0 b mb v0 ss fs k env ls lv w)(ho:KOk k env){row:AR}(hr:SlRow (Old n0 b mb) w 8 s1 1 row)(ha:Aj (Old n0 b mb) w [x] row)(b2 b3:Option Addr)(m2 m3 d2 d3:Nat)(nt:Value) :
  AA 115 #[pt b 0,.agg (stA 6 n s1 (.slice b2 m2 d2) (.slice b3 m3 d3) p),nt] w λ e w'=>Ax w (Ck.bind (Ck.asked (Ck.cE (k.at env) x,Ck.plc x) k.result) λ x=>.inl (CS.mk 6 0 false 0 [x] [] [])) e w':=by
 obtain⟨kk,Hk⟩:∃kk:Nat,Hid (6=kk):=⟨_,rfl⟩;have i1:((kk:Int) == 1)=false:=by rw[<-Hk.out];rfl
 have i2:((kk:Int) == 2)=false:=by rw[<-Hk.out];rfl
 have i3:((kk:Int) == 3)=false:=by rw[<-Hk.out];rfl
 have i4:((kk:Int) == 4)=false:=by rw[<-Hk.out];rfl
 have i5:((kk:Int) == 5)=false:=by rw[<-Hk.out];rfl
 have bv:Hid ((Ck.bind (Ck.asked (Ck.cE (k.at env) x,Ck.plc x) k.result) λ x=>.inl (CS.mk 6 0 false 0 [x] [] []))=(Ck.bind (Ck.asked (Ck.cE (k.at env) x,Ck.plc x) k.result) λ x=>.inl (CS.mk kk 0 false 0 [x] [] []):Ck.R CS)):=by rw[<-Hk.out];rfl
 rw[bv.out];have b5:Hid (stA 6 n s1 (.slice b2 m2 d2) (.slice b3 m3 d3) p=stA kk n s1 (.slice b2 m2 d2) (.slice b3 m3 d3) p):=by rw[<-Hk.out];rfl
 rw[b5.out];clear bv b5 Hk;obtain⟨w0,w1,cv,ct,l0,l1,cp,az,cz,bx,bw⟩:=Dq w kk n s1 (.slice b2 m2 d2) (.slice b3 m3 d3) p;have bo:=hr.since (Since.of_below az);have bk:=ha.since (Since.of_below az);have h1:=h.keep az;obtain⟨hh,aw,b6⟩:=ho.cur;obtain⟨c6,⟨ch,cf⟩,bq⟩:=h1.hds;obtain⟨-,-,-,-,-,-,-,-,-,-,-,-,e3,-⟩:=bq _ _ aw;have b8:k.number<k.heads.length:=(AK aw).1;rcases cf with⟨-,cm⟩ | ⟨gf,of,fc,rfl,bj,bg,-,cl,ab⟩
 .omega
 have ay:=ab _ _ e3;rw[<-Nat.add_assoc] at ay;rw[b6] at ay;unfold maxLen at bg;obtain⟨g,og,cap,ka,oa,na,ta,aa,pa,cr,cg,rfl,c9,hg,rfl,⟨u0,u1,u2,u3,u4,u5,u6,u7⟩,be,bu⟩:=Bd (args:=[x]) bo bk rfl;have hA:=λ w' (hb:Below w1.heap.size w1 w')=>B4 hE rfl (h1.keep hb).at ho.cx (be.since (Since.of_below hb)) (bu.since (Since.of_below hb)) k.result
 obtain⟨bf,aj,rfl,-,-⟩:=be.val;obtain⟨d0,d1,ci,ce,d4,d5,d6,d7,d8,-⟩:=Ai bx;obtain⟨c0,c1,c2,c3,c4,c5,-⟩:=Bc h1.blk;have cy:=h.hb;have cq:=h.sz;have bs:b<w1.heap.size:=by omega
 obtain⟨R,HR⟩:∃R:Ck.R CS,Hid ((Ck.bind (Ck.asked (Ck.cE (k.at env) (.mk ka oa na ta aa pa),pa) k.result) λ x=>.inl (CS.mk kk 0 false 0 [x] [] []))=R):=⟨_,rfl⟩;show Calls _ _ _ _ λ e w'=>Ax w (Ck.bind (Ck.asked (Ck.cE (k.at env) (.mk ka oa na ta aa pa),pa) k.result) λ x=>.inl (CS.mk kk 0 false 0 [x] [] [])) e w'
 rw[HR.out];generalize Ck.asked (Ck.cE (k.at env) (.mk ka oa na ta aa pa),pa) k.result=C at *;have i0:(0:Int)<1:=by omega
 have cu:([Px.Ex.mk ka oa na ta aa pa]:List Px.Ex).length=1:=rfl;obtain⟨nu,bp⟩:∃nu,k.number=nu:=⟨_,rfl⟩;obtain⟨nh,br⟩:∃nh,k.heads.length=nh:=⟨_,rfl⟩;obtain⟨ry,bn⟩:∃ry,k.result=ry:=⟨_,rfl⟩;rw[bp] at c4 ay b8;rw[br] at b8 bj c2;rw[bn] at ay hA;have cw:(0:Int)<=(nu:Int):=by omega
 have co:(nu:Int)<(nh:Int):=by omega
 clear hr ha hE bo bk h1 be bu ab bq ch h aw b6 e3 bp br bn;simp only[length_cons,length_nil,Nat.zero_add] at *;have af:∀w3 k2 o2 n2 t2 s2 y2 a0 sl2 row2,Below w1.heap.size w1 w3->SlRow (From w1.heap.size) w3 8 sl2 (List.length a0) row2->Aw (From w1.heap.size) w3 a0 row2->C=.inl (.mk k2 o2 n2 t2 s2 y2 a0) ->
   Ax w R (.returned (.agg #[iv kk,sE,iv 0,.bool false,iv 0,sL w3.heap.size 0 1 1,sZ,sZ,iv 0])) (A4 (w3.alloc (.cells #[iv k2,iv o2,iv n2,strV t2,iv s2,strV y2,sl2,iv 0] 48)) w0.heap.size (iv kk) sE (iv 0) (.bool false) (iv 0) (sL w3.heap.size 0 1 1) sZ sZ (iv 0)):=by
  intro w3 k2 o2 n2 t2 s2 y2 a0 sl2 row2 ad av aq hC;have hR:R=.inl (.mk kk 0 false 0 [.mk k2 o2 n2 t2 s2 y2 a0] [] []):=by rw[<-HR.out,hC];rfl
  rw[hR];obtain⟨w8,ah⟩:∃w8,w3.alloc (.cells #[iv k2,iv o2,iv n2,strV t2,iv s2,strV y2,sl2,iv 0] 48)=w8:=⟨_,rfl⟩;have al:Below w3.heap.size w3 w8:=by rw[<-ah];exact (AF _ _).alloc (AD _) _
  have b0:SlRow (From w3.heap.size) w8 8 (sL w3.heap.size 0 1 1) 1 [iv k2,iv o2,iv n2,strV t2,iv s2,strV y2,sl2,iv 0]:=by rw[<-ah];exact D7 (AD _)
  rw[ah];have bb:=ad.size;have ar:Since (From w1.heap.size) w8 (A4 w8 w0.heap.size (iv kk) sE (iv 0) (.bool false) (iv 0) (sL w3.heap.size 0 1 1) sZ sZ (iv 0)):=⟨by rw[Bb];exact AD _,λ j hj _=>Aq (by have:w1.heap.size<=j:=hj;omega) _ _ _ _ _ _ _ _ _⟩;have lo:∀{wx:World} j,From w1.heap.size j->j<wx.heap.size->From w.heap.size j:=λ {wx} j hj _=>by have:w1.heap.size<=j:=hj;show w.heap.size<=j;omega
  have c7:∀{wx:World} j,From w3.heap.size j->j<wx.heap.size->From w1.heap.size j:=λ {wx} j hj _=>by have:w3.heap.size<=j:=hj;show w1.heap.size<=j;omega
  have ba:Below w1.heap.size w1 w8:=ad.trans (al.mono bb);exact⟨⟨_,rfl,Fv (((b0.base' c7).since ar).base' lo) (Jk (C1 (((av.since (Since.of_below al)).since ar).base' lo) (((aq.since (Since.of_below al)).since ar).base lo))) BF Au.nil BF Au.nil⟩,Bu (az.trans (ba.mono (by omega))) (by omega) _ _ _ _ _ _ _ _ _⟩
 have ag:∀a er wx w2,C=.inr (a,er)->Below w1.heap.size w1 wx->Below wx.heap.size wx w2->Ax w R (.panicked (Af a er)) w2:=λ a er wx w2 hC hbx a8=>by
  rw[<-HR.out,hC];exact⟨rfl,az.trans ((hbx.trans (a8.mono hbx.size)).mono (by omega))⟩
 clear HR;go_enter func115,ntmps115;go_wp2_with fail;have hS:∀w',Below w1.heap.size w1 w'->(w'.cell? ⟨w.heap.size,5,none⟩=some (sL g og 1 cap)/\w'.cell? ⟨g,og,none⟩=some (iv ka)/\w'.cell? ⟨g,og+1,none⟩=some (iv oa)/\w'.cell? ⟨g,og+2,none⟩=some (iv na)/\w'.cell? ⟨g,og+3,none⟩=some (strV ta)/\w'.cell? ⟨g,og+4,none⟩=some (iv 0)/\w'.cell? ⟨g,og+5,none⟩=some sE/\w'.cell? ⟨g,og+6,none⟩=some (.slice bf aa.length aj)/\w'.cell? ⟨g,og+7,none⟩=some (iv pa)/\w'.cell? ⟨b,2,none⟩=some (sL gf of nh fc)/\w'.cell? ⟨b,4,none⟩=some (iv nu)/\w'.cell? ⟨gf,of+nu*7+3,none⟩=some (strV ry)):=λ w' hb=>by
  obtain⟨bc,-⟩:=bcell hb;exact⟨(bc _ _ (by omega)).trans d5,(bc _ _ hg).trans u0,(bc _ _ hg).trans u1,(bc _ _ hg).trans u2,(bc _ _ hg).trans u3,(bc _ _ hg).trans u4,(bc _ _ hg).trans u5,(bc _ _ hg).trans u6,(bc _ _ hg).trans u7,(bc _ _ bs).trans c2,(bc _ _ bs).trans c4,(bc _ _ cl).trans ay⟩
 have hz:∀w',Below w1.heap.size w1 w'->w'.heap[w0.heap.size]?=some (.cells #[iv 0,sE,iv 0,.bool false,iv 0,sZ,sZ,sZ,iv 0] 46 (0,0))/\w'.cell? ⟨w.heap.size,0,none⟩=some (iv kk)/\w.heap.size<w'.heap.size:=λ w' hb=>⟨(hb.block _ l1).trans bw,((bcell hb).1 _ _ (by omega)).trans d0,by have:=hb.size;omega⟩
 have ax:Below w1.heap.size w1 w1.drew:=(AF _ _).drew;clear d0 d1 ci ce d4 d5 d6 d7 d8 u0 u1 u2 u3 u4 u5 u6 u7 c0 c1 c2 c3 c4 c5 ay bx bw;refine Vv.wpE_begin (S:=λ w'=>w'.cell? ⟨w.heap.size,5,none⟩=some (sL g og 1 cap)/\w'.cell? ⟨g,og,none⟩=some (iv ka)/\w'.cell? ⟨g,og+1,none⟩=some (iv oa)/\w'.cell? ⟨g,og+2,none⟩=some (iv na)/\w'.cell? ⟨g,og+3,none⟩=some (strV ta)/\w'.cell? ⟨g,og+4,none⟩=some (iv 0)/\w'.cell? ⟨g,og+5,none⟩=some sE/\w'.cell? ⟨g,og+6,none⟩=some (.slice bf aa.length aj)/\w'.cell? ⟨g,og+7,none⟩=some (iv pa)/\w'.cell? ⟨b,2,none⟩=some (sL gf of nh fc)/\w'.cell? ⟨b,4,none⟩=some (iv nu)/\w'.cell? ⟨gf,of+nu*7+3,none⟩=some (strV ry)) (N:=λ j=>decide (j<17) || j == 18) (by kernel_rfl) ?_;have a6:=hS w1.drew ax;have bt:w1.drew.heap.size<=w1.heap.size:=AD _;have bl:w1.heap.size<=w1.drew.heap.size:=AD _;generalize w1.drew=wd at *;refine Aa 53 [17,19] 0 (pt b 0) a6 ?_
 try simp only[aP]
 refine Aa 54 [2,3,4,17,19] 1 (pt w.heap.size 5) a6 ?_
 try simp only[aP]
 refine Aa 55 [3,4,17,19] 2 (sL g og 1 cap) a6 ?_
 try simp only[aP]
 refine Aa 56 [4,17,19] 3 (pt g og) a6 ?_
 try simp only[aP]
 refine Aa 57 [17,19] 4 (.agg (exA ka oa na ta (.slice bf aa.length aj) pa)) a6 ?_
 try simp only[aP]
 refine Aa 58 [6,7,8,9,14,15,16,17,19] 5 (pt b 0) a6 ?_
 try simp only[aP]
 refine Aa 59 [7,8,9,14,15,16,17,19] 6 (pt b 0) a6 ?_
 try simp only[aP]
 refine Aa 60 [8,9,14,15,16,17,19] 7 (pt b 0) a6 ?_
 try simp only[aP]
 refine Aa 61 [9,14,15,16,17,19] 8 (pt b 2) a6 ?_
 try simp only[aP]
 refine Aa 62 [14,15,16,17,19] 9 (sL gf of nh fc) a6 ?_
 try simp only[aP]
 refine Aa 63 [11,12,13,14,15,16,17,19] 10 (pt b 0) a6 ?_
 try simp only[aP]
 refine Aa 64 [12,13,14,15,16,17,19] 11 (pt b 0) a6 ?_
 try simp only[aP]
 refine Aa 65 [13,14,15,16,17,19] 12 (pt b 4) a6 ?_
 try simp only[aP]
 refine Aa 66 [14,15,16,17,19] 13 (iv nu) a6 ?_
 try simp only[aP]
 refine Aa 67 [15,16,17,19] 14 (pt gf (of+nu*7)) a6 ?_
 try simp only[aP]
 refine Aa 68 [16,17,19] 15 (pt gf (of+nu*7+3)) a6 ?_
 try simp only[aP]
 refine Aa 69 [17,19] 16 (strV ry) a6 ?_
 try simp only[aP]
 refine Vv.wpE_two (i:=17) (j:=18) (by kernel_rfl) rfl rfl rfl rfl (λ K hK=>?_) (λ K hK=>?_)
 .go_simp;refine (hA wd ax).mono ?_;rintro e w2 hP;rcases C with⟨k2,o2,n2,t2,s2,y2,a0⟩ | ⟨a,er⟩
  rotate_left
  .obtain⟨hm,a8⟩:=hP;obtain rfl:=hm;have a3:=ag a er wd w2 rfl ax a8;exact⟨rfl,a3⟩
  obtain⟨sl2,row2,rfl,ai,b7,a8⟩:=hP.inl;obtain⟨a2,c2,rfl,-,-⟩:=ai.val;have cd:=a8.size;have a7:=ax.trans (a8.mono ax.size);refine hK _ _ (λ h=>by cases h) ?_;clear hK K
  try simp only[aP]
  obtain⟨wz,w3,b4,b9,au,bb,ca,ae,a5,a4⟩:=Bs w2 (iv k2) (iv o2) (iv n2) (strV t2) (iv s2) (strV y2) (.slice a2 a0.length c2) (iv 0);have lz:w2.heap.size<wz.heap.size:=by omega
  have l3:w2.heap.size<w3.heap.size:=by omega
  clear bb ca;obtain⟨z0,z1,z2,z3,z4,z5,z6,z7,f0,f1,f2,f3,f4,f5,f6,f7⟩:=Ac a4;refine Ah 18 λ K hK=>?_
  go_simp;refine hK _ _ (λ _=>hS wz (a7.trans (ae.mono a7.size))) ?_;clear hK K
  try simp only[aP]
  refine Ah 19 λ K hK=>?_
  go_simp;refine hK _ _ (λ h=>by cases h) ?_;clear hK K
  try simp only[aP]
  have ad:Below w1.heap.size w1 w3:=a7.trans (au.mono a7.size);have up:∀{wx:World} j,From wd.heap.size j->j<wx.heap.size->From w1.heap.size j:=λ {wx} j hj _=>by have:wd.heap.size<=j:=hj;show w1.heap.size<=j;omega
  have av:=(ai.base' up).since (Since.of_below au);have aq:=(b7.base up).since (Since.of_below au);clear z0 z1 z2 z3 z4 z5 z6 z7 f0 f1 f2 f3 f4 f5 f6 f7 a4 ae b4;refine Vv.wpE_done (by kernel_rfl) ?_;simp only[Exit.inBlock,Exit.then];refine ‹∀(a:Act) (w:World),_->_› _ _ ?_;obtain⟨q0,q1,q2,q3,q4,q5,q6,q7,-⟩:=Ac a5;obtain⟨ak,cj,cc⟩:=hz w3 ad;have a3:=af w3 k2 o2 n2 t2 s2 y2 a0 (.slice a2 a0.length c2) row2 ad av aq rfl;obtain⟨w8,ah⟩:∃w8,w3.alloc (.cells #[iv k2,iv o2,iv n2,strV t2,iv s2,strV y2,.slice a2 a0.length c2,iv 0] 48)=w8:=⟨_,rfl⟩;rw[ah] at a3;have am:w8.heap[w0.heap.size]?=some (.cells #[iv 0,sE,iv 0,.bool false,iv 0,sZ,sZ,sZ,iv 0] 46 (0,0)):=by
   have al:Below w3.heap.size w3 w8:=by rw[<-ah];exact (AF _ _).alloc (AD _) _
   exact (al.block _ (AB ak).1).trans ak
  obtain⟨r0,r1,r2,r3,r4,r5,r6,r7,r8,t0,t1,c8,t3,t4,t5,t6,t7,t8⟩:=Ai am;have bh:w0.heap.size<w8.heap.size:=(AB am).1;clear af hz ag hS a6 hA ai b7 av aq a5 am ak ad a7;go_wp2_with fail;exact bodyPost_ret (by simp[results,results115,go_sem,bh,r0,r1,r2,r3,r4,r5,r6,r7,r8]) rfl a3
 .obtain⟨wz,b4⟩:∃wz,wd.alloc (.cells #[iv 0,iv 0,iv 0,sE,iv 0,sE,sZ,iv 0] 48)=wz:=⟨_,rfl⟩;have bi:Below wd.heap.size wd wz:=by rw[<-b4];exact (AF _ _).alloc (AD _) _
  have ae:Below w1.heap.size w1 wz:=ax.trans (bi.mono (by omega));have a4:wz.heap[wd.heap.size]?=some (.cells #[iv 0,iv 0,iv 0,sE,iv 0,sE,sZ,iv 0] 48 (0,0)):=by rw[<-b4];exact heap_new _ _
  have lz:wd.heap.size<wz.heap.size:=(AB a4).1;go_simp;refine hK _ _ (λ _=>hS wz ae) ?_;clear hK K
  try simp only[aP]
  refine Ah 17 λ K hK=>?_
  go_simp;refine (hA wz ae).mono ?_;rintro e w2 hP;rcases C with⟨k2,o2,n2,t2,s2,y2,a0⟩ | ⟨a,er⟩
  rotate_left
  .obtain⟨hm,a8⟩:=hP;obtain rfl:=hm;have a3:=ag a er wz w2 rfl ae a8;exact⟨rfl,a3⟩
  obtain⟨sl2,row2,rfl,ai,b7,a8⟩:=hP.inl;obtain⟨a2,c2,rfl,-,-⟩:=ai.val;have cd:=a8.size;have a7:=ae.trans (a8.mono ae.size);refine hK _ _ (λ h=>by cases h) ?_;clear hK K
  try simp only[aP]
  have a9:=(a8.block _ lz).trans a4;obtain⟨z0,z1,z2,z3,z4,z5,z6,z7,f0,f1,f2,f3,f4,f5,f6,f7⟩:=Ac a9;have l2:wd.heap.size<w2.heap.size:=by omega
  obtain⟨w3,b9⟩:∃w3,setc8 w2 wd.heap.size (iv k2) (iv o2) (iv n2) (strV t2) (iv s2) (strV y2) (.slice a2 a0.length c2) (iv 0)=w3:=⟨_,rfl⟩;have a5:w3.heap[wd.heap.size]?=some (.cells #[iv k2,iv o2,iv n2,strV t2,iv s2,strV y2,.slice a2 a0.length c2,iv 0] 48 (0,0)):=by rw[<-b9];exact Nd a9 _ _ _ _ _ _ _ _
  have l3:wd.heap.size<w3.heap.size:=(AB a5).1;refine Ah 19 λ K hK=>?_
  go_simp;refine hK _ _ (λ h=>by cases h) ?_;clear hK K
  try simp only[aP]
  have ad:Below w1.heap.size w1 w3:=by rw[<-b9];exact Ap a7 (by omega) _ _ _ _ _ _ _ _
  have ar:Since (From wz.heap.size) w2 w3:=by rw[<-b9];exact⟨by rw[A1];exact AD _,λ j hj _=>A0 (by have:wz.heap.size<=j:=hj;omega) _ _ _ _ _ _ _ _⟩
  have up:∀{wx:World} j,From wz.heap.size j->j<wx.heap.size->From w1.heap.size j:=λ {wx} j hj _=>by have:wz.heap.size<=j:=hj;show w1.heap.size<=j;omega
  have av:=(ai.since ar).base' up;have aq:=(b7.since ar).base up;clear z0 z1 z2 z3 z4 z5 z6 z7 f0 f1 f2 f3 f4 f5 f6 f7 a4 ae b4 a9 ar;refine Vv.wpE_done (by kernel_rfl) ?_;simp only[Exit.inBlock,Exit.then];refine ‹∀(a:Act) (w:World),_->_› _ _ ?_;obtain⟨q0,q1,q2,q3,q4,q5,q6,q7,-⟩:=Ac a5;obtain⟨ak,cj,cc⟩:=hz w3 ad;have a3:=af w3 k2 o2 n2 t2 s2 y2 a0 (.slice a2 a0.length c2) row2 ad av aq rfl;obtain⟨w8,ah⟩:∃w8,w3.alloc (.cells #[iv k2,iv o2,iv n2,strV t2,iv s2,strV y2,.slice a2 a0.length c2,iv 0] 48)=w8:=⟨_,rfl⟩;rw[ah] at a3;have am:w8.heap[w0.heap.size]?=some (.cells #[iv 0,sE,iv 0,.bool false,iv 0,sZ,sZ,sZ,iv 0] 46 (0,0)):=by
   have al:Below w3.heap.size w3 w8:=by rw[<-ah];exact (AF _ _).alloc (AD _) _
   exact (al.block _ (AB ak).1).trans ak
  obtain⟨r0,r1,r2,r3,r4,r5,r6,r7,r8,t0,t1,c8,t3,t4,t5,t6,t7,t8⟩:=Ai am;have bh:w0.heap.size<w8.heap.size:=(AB am).1;clear af hz ag hS a6 hA ai b7 av aq a5 am ak ad a7;go_wp2_with fail;exact bodyPost_ret (by simp[results,results115,go_sem,bh,r0,r1,r2,r3,r4,r5,r6,r7,r8]) rfl a3
end
section
open Go.RowKit
open Ck (CE CS CF CP Mng)
mutual
def LnS:Px.St->Prop
 | .mk k n es b c p=>b.length<=1000000/\c.length<=1000000/\L7 b/\L7 c
def L7:List Px.St->Prop
 | []=>True
 | s :: r=>LnS s/\L7 r
end
theorem Ad8{c:Ck.Cx}{x y:Px.Ex}:Ck.arg (Ck.cEs c [x,y]) 1=(Ck.cE c y,Ck.plc y):=Ck.arg_get c _ 1 y rfl
theorem Xu{c:Ck.Cx}{x y:Px.Ex}:Ck.arg (Ck.cEs c [x,y]) 0=(Ck.cE c x,Ck.plc x):=Ck.arg_get c _ 0 x rfl
mutual
theorem At8:∀(s:Px.St),ShS s->LnS s->Ad7 s
 | .mk k n es body other p,hs,hn=>by
  rw[ShS] at hs;rw[LnS] at hn;obtain⟨hk,he,hb,hc⟩:=hs;have a5:Rn body:=Hb (O9 body hb hn.2.2.1) hb hn.1;have a0:Rn other:=Hb (O9 other hc hn.2.2.2) hc hn.2.1;intro n0 b mb cb nb v0 ss fs lv nv kx env ls names cs w hC ho hsc hap hl hnl his;rw[IsSt] at his;obtain⟨s1,s2,s3,r1,r2,r3,rfl,h1,h2,h3,h4,h5,h6⟩:=his;obtain⟨a2,c2,rfl,-,-⟩:=h3.val;obtain⟨a3,c3,rfl,-,-⟩:=h5.val;have a8:cb<w.heap.size:=(AB hsc.cbk).1;have a4:nb<w.heap.size:=(AB hsc.nbk).1;have a6:∀w',Below w.heap.size w w'->Sc n0 b cb nb nv names w':=λ w' hb=>hsc.keep (λ j hj=>hb.block j (by rcases hj with rfl | rfl | e;exact a8;exact a4;exact (hsc.own.lt e).2))
  rw[Ck.cS];rcases hk with⟨rfl,e1⟩ | ⟨rfl,e1⟩ | ⟨rfl,e1⟩ | ⟨rfl,e1⟩ | ⟨rfl,e1⟩ | ⟨rfl,e1⟩
  .obtain⟨x,rfl⟩:=length_eq_one_iff.1 e1;have hE:EOk x:=Cr _ he x (by simp);simp only[if_true,Ea rfl];exact Ar0 hC hsc (λ w' hb'=>Ak4 hE (hC.keep hb') ho (a6 _ hb') hap hl hnl (h1.since (Since.of_below hb')) (h2.since (Since.of_below hb')) a2 a3 _ _ c2 c3)
  .rcases e1 with e1 | e1
   .obtain⟨x,rfl⟩:=length_eq_one_iff.1 e1;have hE:EOk x:=Cr _ he x (by simp);simp only[Nat.reduceEqDiff,if_false,if_true,Ea rfl,length_cons,length_nil,Nat.zero_add];refine (Ad6 _ (λ w' hb'=>Ak3 hE (hC.keep hb').at ho.cx (h1.since (Since.of_below hb')) (h2.since (Since.of_below hb')) a2 a3 _ _ c2 c3)).mono (λ e w' hP=>?_);have h9:=Bt.of_set hC hsc hap hP;simp only[D9] at h9;exact h9
   .obtain⟨x,y,rfl⟩:=T4 e1;have hE:EOk x:=Cr _ he x (by simp);have a7:EOk y:=Cr _ he y (by simp);simp only[Nat.reduceEqDiff,if_false,if_true,Xu,Ad8,length_cons,length_nil,Nat.zero_add,Nat.reduceAdd];refine (Ad6 _ (λ w' hb'=>Ad4 hE a7 (hC.keep hb').at ho.cx (h1.since (Since.of_below hb')) (h2.since (Since.of_below hb')) a2 a3 _ _ c2 c3)).mono (λ e w' hP=>?_);have h9:=Bt.of_set hC hsc hap hP;simp only[D9] at h9;exact h9
  .obtain⟨x,rfl⟩:=length_eq_one_iff.1 e1;have hE:EOk x:=Cr _ he x (by simp);simp only[Nat.reduceEqDiff,if_false,if_true,Ea rfl];refine (Aq9 _ (λ w' hb'=>Ak2 hE (hC.keep hb').at ho.cx (h1.since (Since.of_below hb')) (h2.since (Since.of_below hb')) a2 a3 _ _ c2 c3)).mono (λ e w' hP=>?_);have h9:=Bt.of_set hC hsc hap hP;simp only[D9] at h9;exact h9
  .obtain⟨x,rfl⟩:=length_eq_one_iff.1 e1;have hE:EOk x:=Cr _ he x (by simp);simp only[Nat.reduceEqDiff,if_false,if_true,Ea rfl];refine (At7 hE a5 a0 hC ho hl (λ a e=>(Fw body env ls a ho hl hb e).len) h1 h2 a2 a3 c2 c3 h3 h4 h5 h6 _).mono (λ e w' hP=>?_);exact Bt.of_lp hC hsc hap (λ r e=>by
    obtain⟨_,-,e⟩:=An e;obtain⟨_,-,e⟩:=An e;obtain⟨_,-,e⟩:=An e;cases e;rfl) hP
  .obtain⟨x,rfl⟩:=length_eq_one_iff.1 e1;have hE:EOk x:=Cr _ he x (by simp);simp only[Nat.reduceEqDiff,if_false,if_true,Ea rfl];refine (Ak5 hC _ (λ w' hb'=>Ad5 hE a5 (hC.keep hb') ho hl (h1.since (Since.of_below hb')) (h2.since (Since.of_below hb')) a2 a3 _ c2 c3 (h3.since (Since.of_below hb')) (h4.since (Since.of_below hb')))).mono (λ e w' hP=>?_);exact Bt.of_lp hC hsc hap (λ r e=>by
    obtain⟨_,-,e⟩:=An e;obtain⟨_,-,e⟩:=An e;obtain⟨_,-,e⟩:=An e;cases e;rfl) hP
  .obtain⟨x,rfl⟩:=length_eq_one_iff.1 e1;have hE:EOk x:=Cr _ he x (by simp);simp only[Nat.reduceEqDiff,if_false,if_true,Ea rfl];refine (Ak7 hE hC ho h1 h2 a2 a3 _ _ c2 c3 _).mono (λ e w' hP=>?_);have h9:=Bt.of_set hC hsc hap hP;simp only[D9] at h9;exact h9
theorem O9:∀(l:List Px.St),Ha l->L7 l->∀s∈l,Ad7 s
 | [],_,_=>λ s hs=>by cases hs
 | x :: r,h,hn=>by
  rw[Ha] at h;rw[L7] at hn;have h1:=At8 x h.1 hn.1;have h2:=O9 r h.2 hn.2;intro s hs;rcases mem_cons.1 hs with rfl | hs
  .exact h1
  .exact h2 s hs
end
theorem At9{l:List Px.St}(h:Ha l)(hn:L7 l)(hl:l.length<=1000000):Rn l:=Hb (O9 l h hn) h hl
end
section
open Go.RowKit
open Ck (CE CS CF CP Mng)
attribute [local go_sem ↓] Go.wp_at_zero Go.wp_at_succ
structure FnI(n0 b mb cb nb m:Nat)(v0 ss fs:Value)(k:Ck.Kx)(env:Ck.Env)(w:World)(l:List Px.Sl)(C:Ck.R (Ck.Env × List (List UInt8)))(q:Nat)(lvr nvr:Value)(more:Ck.Env)(lsr:List (List UInt8))(wr:World):Prop where
 stp:Stp b mb sZ w lvr wr
 ck:CkS n0 b mb v0 ss fs k (env ++ more) lsr lvr wr
 sc:Sc n0 b cb nb nvr (more.map Prod.fst) wr
 ap:Apart lvr nvr cb nb
 lv:∀j,lvr.ownBlock=some j->m<=j
 nv:∀j,nvr.ownBlock=some j->m<=j
 grow:Grow k env [] (env ++ more) lsr
 sz:m<=wr.heap.size
 ans:C=Ck.locs (env ++ more) lsr (l.drop q)
abbrev Rq(b mb gf:Nat):Nat->Prop:=λ j=>j=b\/j=mb\/j=gf
def Pa(b mb gf:Nat)(v0 ss fs:Value)(cur:Array Value)(env:Ck.Env)(i:Nat)(w:World)(r:Ck.R CF)(e:Ending)(w':World):Prop:=
 match r with
 | .inl x=>∃lv9 a9 c9,e=.returned (.tuple #[])/\w'.heap[b]?=some (.cells #[v0,ss,fs,.map (some mb),iv i,lv9] 62 (0,0))/\A7 w' mb env/\w'.heap[gf]?=some (.cells ((cur.setIfInBounds (i*7+5) (.slice a9 x.body.length c9)).setIfInBounds (i*7+4) lv9) 36 (0,0))/\Na (From w.heap.size) w' x.locals lv9/\Fb (From w.heap.size) w' x.body (.slice a9 x.body.length c9)/\Fm (Rq b mb gf) w w'
 | .inr (a,er)=>e=.panicked (Af a er)/\Fm (Rq b mb gf) w w'
theorem Ad9{l:List (List UInt8)}(h:Strs n0 w v l):Na (From n0) w l v:=by
 obtain⟨h1,h2⟩:=h;refine⟨by simp,?_⟩;rcases h2 with⟨h3,h4⟩ | ⟨g,cap,cur,h3,h4,h5,h6,h7,h8,h9⟩
 .exact AI ⟨h3,h4⟩
 .refine AJ ⟨g,0,cap,h3,h6,h7,h4,(AB h5).1,λ j u hj=>?_⟩;rw[Bf h5,Nat.zero_add];rw[<-h9,List.getElem?_take] at hj;split at hj
  .simpa using hj
  .cases hj
theorem Jv{B:AS}{l:List Px.Sl}(h:Dv B w l v){s:Px.Sl}(hi:l[i]?=some s):∃g o cap,v=sL g o l.length cap/\B g/\g<w.heap.size/\w.cell? ⟨g,o+i*3,none⟩=some (strV s.name)/\w.cell? ⟨g,o+i*3+1,none⟩=some (strV s.type)/\w.cell? ⟨g,o+i*3+2,none⟩=some (iv s.place):=by
 have a0:=(AK hi).1;obtain⟨g,o,cap,e,-,-,hB,hg,hc⟩:=SlRow.cells h (by omega);have e0:l.flatMap Bi=(l.take i).flatMap Bi ++ (Bi s ++ (l.drop (i+1)).flatMap Bi):=by
  have:l=l.take i ++ s :: l.drop (i+1):=by
   obtain⟨h1,rfl⟩:=AK hi;rw[<-drop_eq_getElem_cons h1,take_append_drop]
  conv=>lhs;rw[this]
  simp
 have e1:((l.take i).flatMap Bi).length=i*3:=by
  have:∀m:List Px.Sl,(m.flatMap Bi).length=m.length*3:=λ m=>by
   induction m with
   | nil=>rfl
   | cons a r ih=>rw[flatMap_cons,length_append,ih];simp[Bi];omega
  rw[this,length_take,Nat.min_eq_left (by omega)]
 have e2:∀j u,(Bi s)[j]?=some u->w.cell? ⟨g,o+(i*3+j),none⟩=some u:=λ j u hj=>hc _ _ (by
  rw[e0,List.getElem?_append_right (by omega),e1,Nat.add_sub_cancel_left,List.getElem?_append_left (List.getElem?_eq_some_iff.1 hj).1];exact hj)
 exact⟨g,o,cap,e,hB,hg,by have:=e2 0 _ rfl;simpa using this,by rw[Nat.add_assoc];exact e2 1 _ rfl,by rw[Nat.add_assoc];exact e2 2 _ rfl⟩
theorem Pb{f:Px.Fn}(ed:Rn f.body){gf num nf fc:Nat}{lv0:Value}{env:Ck.Env}{hs:List Ck.Hd}{cur:Array Value}
  (hblk:w.heap[b]?=some (.cells #[v0,ss,sL gf 0 nf fc,.map (some mb),iv num,lv0] 62 (0,0)))
  (henv:A7 w mb env) (hrow:w.heap[gf]?=some (.cells cur 36 (0,0))) (hcur:nf*7<=cur.size)
  (hds:O8 (λ j=>j<w.heap.size/\j≠b/\j≠mb) w hs (sL gf 0 nf fc)) (hnf:hs.length=nf) (hnc:nf<=fc/\fc<=9223372036854775807) (hi:i<nf) (hhd:hs[i]?=some (Ck.hd f))
  (hf:Eh (λ j=>j<w.heap.size/\j≠b/\j≠mb/\j≠gf) w f cs) (ho:KOk ⟨i,hs,f.result⟩ env) (hty:∀s∈f.params,s.type.length<=1000) (hbm:b≠mb) (hbg:b≠gf) (hmg:mb≠gf) :
  AA 47 #[pt b 0,iv i,.agg cs.toArray] w λ e w'=>Pa b mb gf v0 ss (sL gf 0 nf fc) cur env i w (Ck.fn hs env i f) e w':=by
 obtain⟨ps,bs,rfl,dq,d9,cz,en⟩:=hf;obtain⟨pa,pc,rfl,et,eu⟩:=SlRow.val dq;obtain⟨ba,bc,rfl,-,-⟩:=cz.val;have hb:b<w.heap.size:=(AB hblk).1;have hm:mb<w.heap.size:=henv.lt;have hg:gf<w.heap.size:=(AB hrow).1;obtain⟨R,HR⟩:∃R:Ck.R CF,Hid (Ck.fn hs env i f=R):=⟨_,rfl⟩;rw[HR.out];obtain⟨w0,de⟩:∃w0,w.alloc (.cells #[strV f.name,.bool f.on,.slice pa f.params.length pc,strV f.result,sZ,.slice ba f.body.length bc,iv f.place] 36)=w0:=⟨_,rfl⟩;have da:Below w.heap.size w w0:=by rw[<-de];exact (AF _ _).alloc (AD _) _
 have l0:w.heap.size<w0.heap.size:=by rw[<-de];simp
 have ef:w0.heap[w.heap.size]?=some (.cells #[strV f.name,.bool f.on,.slice pa f.params.length pc,strV f.result,sZ,.slice ba f.body.length bc,iv f.place] 36 (0,0)):=by rw[<-de];exact heap_new _ _
 have ay:=(da.block _ hb).trans hblk;obtain⟨w1,dv⟩:∃w1,w0.setCell ⟨b,4,none⟩ (iv i)=w1:=⟨_,rfl⟩;obtain⟨w2,e7⟩:∃w2,w1.setCell ⟨b,5,none⟩ sZ=w2:=⟨_,rfl⟩;have aj:Fm (λ j=>j=b) w0 w1:=by rw[<-dv];exact Fm.set (X:=λ j=>j=b) rfl 4 _
 have a8:Fm (λ j=>j=b) w1 w2:=by rw[<-e7];exact Fm.set (X:=λ j=>j=b) rfl 5 _
 have ak:w1.heap[b]?=some (.cells #[v0,ss,sL gf 0 nf fc,.map (some mb),iv i,lv0] 62 (0,0)):=by rw[<-dv];simp[World.setCell,Array.getElem?_modify,ay]
 have b9:w2.heap[b]?=some (.cells #[v0,ss,sL gf 0 nf fc,.map (some mb),iv i,sZ] 62 (0,0)):=by rw[<-e7];simp[World.setCell,Array.getElem?_modify,ak]
 have gr:w0.heap.size<=w2.heap.size:=AP aj.size a8.size;have az:Fm (λ j=>j=b) w w2:=((Fm.of_below (X:=λ _=>False) da).trans aj (λ _ _ h=>h.elim) (λ _ _ h=>h)).trans a8 (λ _ _ h=>h) (λ _ _ h=>h);have f0:Since (λ j=>j<w.heap.size/\j≠b/\j≠mb) w w2:=az.since (λ j hj e=>hj.2.1 e);have bw:Since (λ j=>j<w.heap.size/\j≠b/\j≠mb/\j≠gf) w w2:=az.since (λ j hj e=>hj.2.1 e);have ec:w2.heap[w.heap.size]?=some (.cells #[strV f.name,.bool f.on,.slice pa f.params.length pc,strV f.result,sZ,.slice ba f.body.length bc,iv f.place] 36 (0,0)):=(a8.block _ (by have:=aj.size;omega) (by omega)).trans ((aj.block _ l0 (by omega)).trans ef);have cj:A7 w2 mb env:=henv.since (az.block _ hm (by omega));have cd:w2.heap[gf]?=some (.cells cur 36 (0,0)):=(az.block _ hg (by omega)).trans hrow;have cg:CkS w2.heap.size b mb v0 ss (sL gf 0 nf fc) ⟨i,hs,f.result⟩ env [] sZ w2:=
  ⟨b9,by
   obtain⟨bf,d1,d2⟩:=hds.since f0;refine⟨bf,d1.base' (λ j hj _=>⟨by have:=az.size;omega,hj.2⟩),λ i' h' hi'=>?_⟩;obtain⟨nm,ps,la,ln,lc,ba,bn,bc,pl,a1,a2,a3,a4,a5,a6,a7,ci,p1,p2⟩:=d2 i' h' hi';exact⟨nm,ps,la,ln,lc,ba,bn,bc,pl,a1,a2,a3,a4,a5,a6,a7,ci,p1.base' (λ j hj _=>⟨by have:=az.size;omega,hj.2⟩),p2⟩,cj,Strs.nil _ _,by omega,by omega,hbm,AD _⟩
 obtain⟨eq,⟨fa,f9⟩,dm⟩:=cg.hds;obtain⟨nm',eo,fy,fk,gm,ft,gg,fv,gc,-,-,e2,-,e4,e5,-,ci,cw,e6⟩:=dm _ _ hhd;obtain⟨f3,bi,rfl,-,-⟩:=cw.val;rcases f9 with⟨f6,-⟩ | ⟨gb,gi,fr,e8,-,-,-,-,au⟩
 .cases f6
 simp only[Value.slice.injEq,Option.some.injEq,Addr.mk.injEq] at e8;obtain⟨⟨rfl,rfl,-⟩,-,rfl⟩:=e8;have ej:=au _ _ e2;rw[Nat.zero_add] at ej;have fp:(Ck.hd f).params.length=f.params.length:=by simp[Ck.hd]
 have ax:∀j s,f.params[j]?=some s->∃gp op,f3=some ⟨gp,op,none⟩/\gp<w2.heap.size/\gp≠b/\gp≠mb/\w2.cell? ⟨gp,op+j*3+1,none⟩=some (strV s.type):=λ j s hj=>by
  have e0:=(AK hj).1;obtain⟨gp,op,cp,q1,-,-,q2,q3,q4⟩:=cw.cells (by omega);simp only[Value.slice.injEq] at q1;refine⟨gp,op,q1.1,q3,q2.2.1,q2.2.2,?_⟩;rw[Nat.add_assoc];exact q4 _ _ (e6 j _ (by simp[Ck.hd,hj]))
 have el:=Gg (n0:=w2.heap.size) (b:=b) (w:=w2) (AD _);have cq:Hid (R=Ck.bind (Ck.locs env [] f.params) λ e=>Ck.bind (Ck.cSs ⟨i,hs,f.result⟩ e.1 e.2 f.body) λ a=>.inl ⟨f.name,f.on,Ck.slots f.params,f.result,a.2.2,a.1⟩):=HR.out.symm;obtain⟨C,HC⟩:∃C,Hid (Ck.locs env [] f.params=C):=⟨_,rfl⟩;rw[HC.out] at cq;obtain⟨d0,d1,d2,d3,d4,d5,d6,-⟩:=Be ec;obtain⟨g0,g1,g2,g3,g4,g5,h0,h1,h2,h3,h4,h5⟩:=Bc ay;obtain⟨k0,k1,k2,k3,k4,k5,m0,m1,m2,m3,m4,m5⟩:=Bc ak;obtain⟨n0,n1,n2,n3,n4,n5,-⟩:=Bc b9;have g6:b<w0.heap.size:=by omega
 have g8:b<w1.heap.size:=by have:=aj.size;omega
 have gy:b<w2.heap.size:=by omega
 have lx2:w.heap.size<w2.heap.size:=by omega
 have h6:(i:Int)<(nf:Int):=by omega
 have fu:(0:Int)<=(i:Int):=by omega
 have av:=λ (j:Nat) (s:Px.Sl) (hj:f.params[j]?=some s)=>Jv dq hj
 have b3:∀lv' w',Stp b mb sZ w2 lv' w'->∀j,j<w2.heap.size->j≠b->j≠mb->w'.heap[j]?=w2.heap[j]?:=λ lv' w' s j hj h1 h2=>(s.block hj h1 h2 (by simp[Value.ownBlock])).1
 replace hds:=Bw hds;have fi:w.heap.size<=w2.heap.size:=by omega
 clear dm au fa e6 e2 e4 e5 ef da ay ak aj a8 cw HR;go_enter func47,ntmps47;go_wp2_with fail;refine el.mono ?_;rintro e w3 ⟨cb,nb,rfl,ep,g9,dr,bu⟩;clear el g0 g1 g2 g3 g4 g5 h0 h1 h2 h3 h4 h5 k0 k1 k2 k3 k4 k5 m0 m1 m2 m3 m4 m5 n0 n1 n2 n3 n4 n5;have ei:Hid (FnI w2.heap.size b mb cb nb w2.heap.size v0 ss (sL gf 0 nf fc) ⟨i,hs,f.result⟩ env w2 f.params C 0 sZ sZ [] [] w3):=by
  refine⟨BG bu,by rw[append_nil];exact cg.keep bu,ep,⟨by simp[Value.ownBlock],by simp[Value.ownBlock],λ j e=>by cases e⟩,λ j e=>(by cases e),λ j e=>(by cases e),by rw[append_nil];exact Grow.refl ho (by simp),bu.size,?_⟩;rw[append_nil,drop_zero];exact HC.out.symm
 have fj:=bu.size;obtain⟨du,-⟩:=bcell bu;have fb:=(du _ _ lx2).trans d2;have f4:w.heap.size<w3.heap.size:=by omega
 clear du d0 d1 d2 d3 d4 d5 d6 HC;go_wp2_with fail
 go_loopg [33] f.params.length (λ gh ii wr=>∃q lvr nvr more lsr,q<=f.params.length/\gh=f.params.length - q/\ii=iv q/\Hid (FnI w2.heap.size b mb cb nb w2.heap.size v0 ss (sL gf 0 nf fc) ⟨i,hs,f.result⟩ env w2 f.params C q lvr nvr more lsr wr))
 case atStart=>exact⟨0,_,_,[],[],AO _,rfl,rfl,ei⟩
 case round=>
  obtain⟨q,lvr,nvr,more,lsr,hq,rfl,rfl,HI⟩:=hrel;clear ei fb f4;have b0:=HI.out.stp;have fq:=HI.out.sz;by_cases e0:q<f.params.length
  .have d7:(q:Int)<(f.params.length:Int):=by omega
   have gv:(0:Int)<=(q:Int):=by omega
   obtain⟨s,co⟩:∃s,f.params[q]?=some s:=⟨_,AN e0⟩;obtain⟨ga,oa,ca,ea,cr,ev,u0,u1,u2⟩:=av q s co;simp only[Value.slice.injEq] at ea;obtain⟨rfl,-,rfl⟩:=ea;obtain⟨gp,op,rfl,ez,cu,db,b4⟩:=ax q s co;have b5:=b3 _ _ b0 ga (by omega) cr.2.1 cr.2.2.1;have b7:=az.block ga ev cr.2.1;replace u0:=(Ak (b5.trans b7)).trans u0;replace u1:=(Ak (b5.trans b7)).trans u1;replace u2:=(Ak (b5.trans b7)).trans u2;replace b4:=(Ak (b3 _ _ b0 gp ez cu db)).trans b4;have bt:=(Ak (b3 _ _ b0 gf (by omega) (by omega) (by omega))).trans ej;have fd:ga<wr.heap.size:=by omega
   obtain⟨w5,df⟩:∃w5,wr.alloc (.cells #[sE,sE,iv 0] 40)=w5:=⟨_,rfl⟩;obtain⟨w6,d8⟩:∃w6,((w5.setCell ⟨wr.heap.size,0,none⟩ (strV s.name)).setCell ⟨wr.heap.size,1,none⟩ (strV s.type)).setCell ⟨wr.heap.size,2,none⟩ (iv s.place)=w6:=⟨_,rfl⟩;have dt:Below wr.heap.size wr w5:=by rw[<-df];exact (AF _ _).alloc (AD _) _
   have ct:w5.heap[wr.heap.size]?=some (.cells #[sE,sE,iv 0] 40 (0,0)):=by rw[<-df];exact heap_new _ _
   have l5:wr.heap.size<w5.heap.size:=(AB ct).1;have c1:Below wr.heap.size wr w6:=by rw[<-d8];exact ((dt.setCell (p:=⟨wr.heap.size,0,none⟩) (AD _) _).setCell (p:=⟨wr.heap.size,1,none⟩) (AD _) _).setCell (p:=⟨wr.heap.size,2,none⟩) (AD _) _
   have di:w6.heap[wr.heap.size]?=some (.cells #[strV s.name,strV s.type,iv s.place] 40 (0,0)):=by rw[<-d8];simp[World.setCell,Array.getElem?_modify,ct]
   have l6:wr.heap.size<w6.heap.size:=(AB di).1;obtain⟨y0,y1,y2,z0,z1,z2⟩:=Ar ct;obtain⟨eb,fh,ee,-⟩:=Ar di;obtain⟨dk,-⟩:=bcell c1;have c6:=(dk gf (i*7+2) (by omega)).trans bt;have p6:=(dk gp (op+q*3+1) (by omega)).trans b4;have bl:=HI.out.grow;have c0:more.length<=32:=by
    obtain⟨m2,e1,e2,-⟩:=bl.more;have:=append_cancel_left e1;subst this;have:=bl.len;simp at e2;omega
   have c8:=HI.out.ck.keep c1;have cl:Sc w2.heap.size b cb nb nvr (more.map Prod.fst) w6:=HI.out.sc.keep (λ j hj=>c1.block j (by
    rcases hj with rfl | rfl | e
    .exact (AB HI.out.sc.cbk).1
    .exact (AB HI.out.sc.nbk).1
    .exact (HI.out.sc.own.lt e).2))
   have hL:=Ir (w:=w6.drew) (c8.keep (AF _ _).drew) bl.ok.eok (cl.keep (λ j hj=>rfl)) HI.out.ap bl.len (by simp;omega) s.name s.place 3 0 s.type;have b8:f.params.drop q=s :: f.params.drop (q+1):=by
    obtain⟨hi,rfl⟩:=AK co;exact drop_eq_getElem_cons hi
   have bk:Hid (C=Ck.bind (Ck.loc (env ++ more) lsr s.name s.place 3 s.type) λ e=>Ck.locs e.1 e.2 (f.params.drop (q+1))):=by
    show _=_;rw[HI.out.ans,b8,Ck.locs]
   have cm:∀r,Ck.loc (env ++ more) lsr s.name s.place 3 s.type=.inl r->Grow ⟨i,hs,f.result⟩ (env ++ more) lsr r.1 r.2/\r.1=(env ++ more) ++ [(s.name,⟨3,lsr.length,s.type⟩)]:=λ r e=>⟨Grow.loc bl.ok (by decide) (hty s (mem_of_getElem? co)) e,Ju e⟩
   replace cm:=Bw cm;generalize Ck.loc (env ++ more) lsr s.name s.place 3 s.type=D at *;have ad:Stp b mb sZ w2 lvr w6:=b0.trans (BG c1);have gn:=c1.size;replace b3:=Bw b3;replace av:=Bw av;replace ax:=Bw ax;clear ct dt di b8 c8 cl bl c0 cr b5 b7 b4 bt;go_wp2_with fail;refine Vv.wpE_begin (S:=λ w'=>w'.cell? ⟨wr.heap.size,0,none⟩=some (strV s.name)/\w'.cell? ⟨wr.heap.size,2,none⟩=some (iv s.place)/\w'.cell? ⟨gf,i*7+2,none⟩=some (.slice (some ⟨gp,op,none⟩) (Ck.hd f).params.length bi)/\w'.cell? ⟨gp,op+q*3+1,none⟩=some (strV s.type)) (N:=λ j=>decide (j<15)) (by kernel_rfl) ?_;have ab:w6.drew.cell? ⟨wr.heap.size,0,none⟩=some (strV s.name)/\w6.drew.cell? ⟨wr.heap.size,2,none⟩=some (iv s.place)/\w6.drew.cell? ⟨gf,i*7+2,none⟩=some (.slice (some ⟨gp,op,none⟩) (Ck.hd f).params.length bi)/\w6.drew.cell? ⟨gp,op+q*3+1,none⟩=some (strV s.type):=⟨eb,ee,c6,p6⟩;refine Aa 38 [15] 0 (pt b 0) ab ?_
   try simp only[aP]
   refine Aa 39 [15] 1 (.func (.func 112) #[] #[pt cb 0,pt nb 0]) ab ?_
   try simp only[aP]
   refine Aa 40 [3,15] 2 (pt wr.heap.size 0) ab ?_
   try simp only[aP]
   refine Aa 41 [15] 3 (strV s.name) ab ?_
   try simp only[aP]
   refine Aa 42 [5,15] 4 (pt wr.heap.size 2) ab ?_
   try simp only[aP]
   refine Aa 43 [15] 5 (iv s.place) ab ?_
   try simp only[aP]
   refine Aa 44 [7,8,9,11,12,13,14,15] 6 (pt gf (i*7)) ab ?_
   try simp only[aP]
   refine Aa 45 [8,9,11,12,13,14,15] 7 (pt gf (i*7)) ab ?_
   try simp only[aP]
   refine Aa 46 [9,11,12,13,14,15] 8 (pt gf (i*7+2)) ab ?_
   try simp only[aP]
   refine Aa 47 [11,12,13,14,15] 9 (.slice (some ⟨gp,op,none⟩) (Ck.hd f).params.length bi) ab ?_
   try simp only[aP]
   refine Aa 48 [11,12,13,14,15] 10 (iv q) ab ?_
   try simp only[aP]
   refine Aa 49 [12,13,14,15] 11 (pt gp (op+q*3)) ab ?_
   try simp only[aP]
   refine Aa 50 [13,14,15] 12 (pt gp (op+q*3+1)) ab ?_
   try simp only[aP]
   refine Aa 51 [14,15] 13 (strV s.type) ab ?_
   try simp only[aP]
   refine Aa 52 [15] 14 (.agg #[iv 3,iv 0,strV s.type]) ab ?_
   try simp only[aP]
   refine Ah 15 λ K hK=>?_
   go_simp;refine hL.mono ?_;rintro e w7 hP;clear hL ab;have b6:∀j,nvr.ownBlock=some j->w2.heap.size<=j:=HI.out.nv;have aq:Stp b mb sZ w2 lvr w6.drew:=⟨⟨ad.fm.os,ad.fm.tape,ad.fm.output,ad.fm.size,ad.fm.block⟩,ad.lv⟩;rcases D with⟨env',ls'⟩ | ⟨a,er⟩
   rotate_left
   .obtain⟨hm,hF⟩:=hP;obtain rfl:=hm;have aa:Pa b mb gf v0 ss (sL gf 0 nf fc) cur env i w R (.panicked (Af a er)) w7:=by
     rw[cq.out,bk.out];exact⟨rfl,az.trans (aq.turn dr b6 hF (λ j e=>AI e)).fm (λ j _ e=>AI e) (λ j _ e=>by
      rcases e with e | e | e
      .exact AI e
      .exact AJ (AI e)
      .cases e)⟩
    exact⟨rfl,aa⟩
   obtain⟨lv',eg,rfl,e9,ds,ek,dd,ch,c3⟩:=hP;refine hK _ _ (λ h=>by cases h) ?_;clear hK K
   try simp only[aP]
   refine Vv.wpE_done (by kernel_rfl) ?_;obtain⟨em,dj⟩:=cm.out _ rfl;have bg:=aq.turn dr b6 dd ch;have f7:w6.heap.size<=w7.heap.size:=dd.size;have dc:Hid (FnI w2.heap.size b mb cb nb w2.heap.size v0 ss (sL gf 0 nf fc) ⟨i,hs,f.result⟩ env w2 f.params C (q+1) lv' eg (more ++ [(s.name,⟨3,lsr.length,s.type⟩)]) ls' w7):=by
    simp only at dj;subst dj;refine⟨bg,by rw[<-append_assoc];exact e9,by rw[map_append];exact ds,ek,λ j e=>?_,λ j e=>?_,by rw[<-append_assoc];exact HI.out.grow.trans em,by omega,?_⟩
    .rcases bg.lv j e with e | e
     .cases e
     .exact e
    .rcases c3 j e with e | e
     .exact b6 j e
     .have:w6.heap.size<=j:=e;omega
    .rw[bk.out,<-append_assoc];rfl
   clear e9 ds ek dd ch c3 em dj bg aq bk cm HI ad b6 eb fh ee c6 p6 d8 df y0 y1 y2 z0 z1 z2 u0 u1 u2;simp only[Exit.inBlock,Exit.then];refine ‹∀(a:Act) (w:World),_->_› _ _ ?_;go_wp2_with fail;go_roundg (f.params.length - (q+1))
   case measure=>omega
   case rel=>exact⟨q+1,lv',eg,_,ls',by omega,rfl,by go_num,dc⟩
  .have d7:¬(q:Int)<(f.params.length:Int):=by omega
   have bk:C=.inl (env ++ more,lsr):=by
    rw[HI.out.ans,drop_of_length_le (by omega)];rfl
   have cv:Hid (R=Ck.bind (Ck.cSs ⟨i,hs,f.result⟩ (env ++ more) lsr f.body) λ a=>.inl ⟨f.name,f.on,Ck.slots f.params,f.result,a.2.2,a.1⟩):=by
    show _=_;rw[cq.out,bk];rfl
   clear bk cq;have bj:∀y∈env,∀x∈more,y.1≠x.1:=by
    obtain⟨m2,e1,-,e3⟩:=HI.out.grow.more;have:=append_cancel_left e1;subst this;exact e3
   replace bj:=Bw bj;have cy:Since (Old w2.heap.size b mb) w2 wr:=b0.fm.since (λ j hj e=>by
    rcases e with e | e | e
    .exact hj.2.1 e
    .exact hj.2.2 e
    .cases e)
   have dx:∀{wx:World} j,(j<w.heap.size/\j≠b/\j≠mb/\j≠gf)->j<wx.heap.size->Old w2.heap.size b mb j:=λ {wx} j hj _=>⟨by have:=hj.1;omega,hj.2.1,hj.2.2.1⟩
   have bb:=ed w2.heap.size b mb v0 ss (sL gf 0 nf fc) ⟨i,hs,f.result⟩ (env ++ more) lsr lvr (.slice ba f.body.length bc) d9 wr HI.out.ck HI.out.grow.ok HI.out.grow.len (((cz.since bw).base' dx).since cy) (((en.since bw).base (λ j hj=>⟨by have:=hj.1;omega,hj.2.1,hj.2.2.1⟩)).since cy);generalize Ck.cSs ⟨i,hs,f.result⟩ (env ++ more) lsr f.body=E at *;have dw:=(b3 _ _ b0 w.heap.size lx2 (by omega) (by omega)).trans ec;obtain⟨d0,d1,d2,d3,d4,d5,d6,-⟩:=Be dw;have fx:w.heap.size<wr.heap.size:=by omega
   have be:=(b3 _ _ b0 gf (by omega) (by omega) (by omega)).trans cd;replace b3:=Bw b3;replace av:=Bw av;replace ax:=Bw ax;clear ed cy dx cz en d0 d1 d2 d3 d4 d6;go_wp2_with fail;refine bb.mono ?_;rintro e w9 hP;clear bb d5;rcases E with⟨xs,ex,ls9⟩ | ⟨a,er⟩
   rotate_left
   .obtain⟨hm,hF⟩:=hP;obtain rfl:=hm;have aa:Pa b mb gf v0 ss (sL gf 0 nf fc) cur env i w R (.panicked (Af a er)) w9:=by
     rw[cv.out];exact⟨rfl,az.trans (b0.trans ⟨hF,λ j h=>AI h⟩:Stp b mb sZ w2 lvr w9).fm (λ j _ e=>AI e) (λ j _ e=>by
      rcases e with e | e | e
      .exact AI e
      .exact AJ (AI e)
      .cases e)⟩
    exact⟨rfl,aa⟩
   obtain⟨gu,a9,c9,rfl,dn,c7,bv,br⟩:=hP;obtain⟨c2,bx,rfl,-,-⟩:=c7.loc.slice;have gz:=bv.size;have f5:∀j,lvr.ownBlock=some j->w2.heap.size<=j:=HI.out.lv;have bq:Stp b mb sZ w2 (.slice c2 ls9.length bx) w9:=b0.trans ⟨bv,br⟩;have ah:=(bv.block gf (by omega) (by rintro (e | e | e);omega;omega;have:=f5 gf e;omega)).trans be;have bo:Sc w2.heap.size b cb nb nvr (more.map Prod.fst) w9:=HI.out.sc.keep (λ j hj=>bv.block j (by
    rcases hj with rfl | rfl | e
    .exact (AB HI.out.sc.cbk).1
    .exact (AB HI.out.sc.nbk).1
    .exact (HI.out.sc.own.lt e).2) (by
    rintro (e | e | e)
    .rcases hj with rfl | rfl | e2
     .omega
     .omega
     .have:=HI.out.nv j e2;omega
    .rcases hj with rfl | rfl | e2
     .omega
     .omega
     .have:=HI.out.nv j e2;omega
    .rcases hj with rfl | rfl | e2
     .exact HI.out.ap.c e
     .exact HI.out.ap.n e
     .exact HI.out.ap.v j e e2))
   have ew:i*7+5<cur.size:=by omega
   have fg:i*7+4<cur.size:=by omega
   have gk:gf<w9.heap.size:=by omega
   obtain⟨w10,c4⟩:∃w10,w9.setCell ⟨gf,i*7+5,none⟩ (.slice a9 xs.length c9)=w10:=⟨_,rfl⟩;obtain⟨w11,ce⟩:∃w11,w10.setCell ⟨gf,i*7+4,none⟩ (.slice c2 ls9.length bx)=w11:=⟨_,rfl⟩;have ai:Fm (λ j=>j=gf) w9 w10:=by rw[<-c4];exact Fm.set (X:=λ j=>j=gf) rfl _ _
   have bh:Fm (λ j=>j=gf) w10 w11:=by rw[<-ce];exact Fm.set (X:=λ j=>j=gf) rfl _ _
   have a0:w10.heap[gf]?=some (.cells (cur.setIfInBounds (i*7+5) (.slice a9 xs.length c9)) 36 (0,0)):=by rw[<-c4];simp[World.setCell,Array.getElem?_modify,ah]
   have aw:w11.heap[gf]?=some (.cells ((cur.setIfInBounds (i*7+5) (.slice a9 xs.length c9)).setIfInBounds (i*7+4) (.slice c2 ls9.length bx)) 36 (0,0)):=by rw[<-ce];simp[World.setCell,Array.getElem?_modify,a0]
   have r5:w9.cell? ⟨gf,i*7+5,none⟩=some cur[i*7+5]:=by rw[Bf ah];exact Array.getElem?_eq_getElem ew
   have gj:w9.frozen? ⟨gf,i*7+5,none⟩=false:=by simp[World.frozen?,ah]
   have r4:w10.cell? ⟨gf,i*7+4,none⟩=some cur[i*7+4]:=by rw[Bf a0,Array.getElem?_setIfInBounds_ne (by omega)];exact Array.getElem?_eq_getElem fg
   have gw:w10.frozen? ⟨gf,i*7+4,none⟩=false:=by simp[World.frozen?,a0]
   have f1:gf<w10.heap.size:=by have:=ai.size;omega
   have f8:b<w9.heap.size:=by omega
   have af:=(ai.block b f8 hbg).trans c7.blk;have ae:=(bh.block b (by have:=ai.size;omega) hbg).trans af;obtain⟨-,-,-,-,-,c5,-⟩:=Bc af;have ey:b<w10.heap.size:=by have:=ai.size;omega
   have ar:Fm (λ j=>j=gf) w9 w11:=ai.trans bh (λ _ _ h=>h) (λ _ _ h=>h);have ff:mb<w9.heap.size:=by omega
   have am:A7 w11 mb (env ++ more):=c7.env.since (ar.block mb ff hmg);have cc:Sc w2.heap.size b cb nb nvr (more.map Prod.fst) w11:=bo.keep (λ j hj=>ar.block j (by
    rcases hj with rfl | rfl | e
    .exact (AB bo.cbk).1
    .exact (AB bo.nbk).1
    .exact (bo.own.lt e).2) (by
    rintro rfl;rcases hj with e | e | e
    .omega
    .omega
    .have:=HI.out.nv _ e;omega))
   have dl:=G6 ae am cc (by omega) hbm bj.out;have f2:w9.heap.size<=w11.heap.size:=ar.size;have dz:Hid (R=.inl ⟨f.name,f.on,Ck.slots f.params,f.result,ls9,xs⟩):=cv.out;have bp:Fm (Rq b mb gf) w w9:=az.trans bq.fm (λ j _ e=>AI e) (λ j _ e=>by
    rcases e with e | e | e
    .exact AI e
    .exact AJ (AI e)
    .cases e)
   have ag:=c7.loc;clear HI c7 bv br bq ah bo cc am a0 ai bh be dw b0 cv af;go_wp2_with fail;refine dl.mono ?_;rintro e w12 ⟨rfl,cf,a8⟩;clear dl;have aa:Pa b mb gf v0 ss (sL gf 0 nf fc) cur env i w R (.returned (.tuple #[])) w12:=by
    rw[dz.out];have al:Fm (λ j=>j=gf\/j=mb) w9 w12:=ar.trans a8 (λ _ _ h=>AI h) (λ _ _ h=>AJ h);have dy:∀j,w2.heap.size<=j->j<w9.heap.size->w12.heap[j]?=w9.heap[j]?:=λ j hj hl=>al.block j hl (by rintro (e | e) <;> omega)
    have dh:Strs w2.heap.size w12 (.slice c2 ls9.length bx) ls9:=ag.since (λ j e=>dy j (ag.lt e).1 (ag.lt e).2);obtain⟨bf,i1,i2⟩:=dn;have eh:Since (λ j=>wr.heap.size<=j/\(Value.slice c2 ls9.length bx).ownBlock≠some j) w9 w12:=⟨al.size,λ j hj hl=>dy j (by have:=hj.1;omega) hl⟩;refine⟨_,a9,c9,rfl,(a8.block b (by omega) hbm).trans ae,cf,(a8.block gf (by omega) (by omega)).trans aw,?_,⟨bf,(i1.since eh).base' (λ j hj _=>by have:=hj.1;show w.heap.size<=j;omega),(i2.since eh).base (λ j hj _=>by have:=hj.1;show w.heap.size<=j;omega)⟩,?_⟩
    .exact BD (Ad9 dh) (λ j hj _=>by have:w2.heap.size<=j:=hj;show w.heap.size<=j;omega)
    .exact bp.trans al (λ _ _ h=>h) (λ j _ e=>by
      rcases e with e | e
      .exact AJ (AJ e)
      .exact AJ (AI e))
   clear cf a8 dn ag dz bp ae aw ar;go_wp2_with fail;exact bodyPost_end (results_none rfl _ _ _) rfl aa
def Cls(n0:Nat)(w:World)(v:Value)(l:List (List UInt8 × List UInt8)):Prop:=w.ownsRow n0 40 3 v l.length (l.flatMap Ba)
theorem Xv:(prog.info? 40).map (λ i=>(i.zero,i.size,i.bytes))=some (some (.agg #[sE,sE,iv 0]),3,40):=by kernel_rfl
theorem Cls.nil(n0:Nat)(w:World):Cls n0 w sZ []:=⟨rfl,AI ⟨rfl,rfl⟩⟩
theorem Cls.since{l:List (List UInt8 × List UInt8)}(h:Cls n0 w v l)(e:∀j,v.ownBlock=some j->w'.heap[j]?=w.heap[j]?):Cls n0 w' v l:=by
 refine⟨h.1,?_⟩;rcases h.2 with h3 | ⟨g,cap,cur,h3,h4,h5,h6⟩
 .exact AI h3
 .exact AJ ⟨g,cap,cur,h3,h4,by rw[e g (by rw[h3];rfl)];exact h5,h6⟩
theorem Cls.lt{l:List (List UInt8 × List UInt8)}(h:Cls n0 w v l)(e:v.ownBlock=some j):n0<=j/\j<w.heap.size:=World.ownsRow.lt h j e
theorem Cls.row{l:List (List UInt8 × List UInt8)}(h:Cls n0 w v l):Hz (From n0) w l v:=by
 obtain⟨h1,h2⟩:=h;refine⟨by rw[h1],?_⟩;rcases h2 with⟨h3,h4⟩ | ⟨g,cap,cur,h3,h4,h5,h6,h7,h8,h9⟩
 .exact AI ⟨h3,h4⟩
 .refine AJ ⟨g,0,cap,h3,h6,h7,h4,(AB h5).1,λ j u hj=>?_⟩;rw[Bf h5,Nat.zero_add];rw[<-h9,List.getElem?_take] at hj;split at hj
  .simpa using hj
  .cases hj
theorem Cls.push{l:List (List UInt8 × List UInt8)}(h:Cls n0 w v l){x:List UInt8 × List UInt8}{g0:Nat}(hb:w.heap[g0]?=some (.cells #[strV x.1,strV x.2,iv 0] 40 (0,0)))(hn:n0<=w.heap.size)(hl:l.length<=100000)(c:Nat)(ty:TypeId) :
  ∃g cap w',(Builtin.append_ #[23,23] ty #[v,sL g0 0 1 c]).run prog w=.ok (sL g 0 (l.length+1) cap) w'/\Cls n0 w' (sL g 0 (l.length+1) cap) (l ++ [x])/\w.grownBy w' v.ownBlock/\(v.ownBlock=some g\/w.heap.size<=g):=by
 obtain⟨i,hi,hz,hs,a3⟩:=Es Xv;obtain⟨g,cap,w',hr,ho,hg,a0,a4⟩:=run_append_lies (P:=prog) w 23 ty n0 40 i _ 3 40 underlying23 hi hz hs a3 rfl (by decide) v l.length (l.flatMap Ba) h ⟨g0,0,none⟩ 1 c [strV x.1,strV x.2,iv 0] rfl (λ j u hj=>by
  have h1:w.cell? ⟨g0,j,none⟩=some u:=by rw[Bf hb,List.getElem?_toArray];exact hj
  by_cases h0:j=0
  .subst h0;simpa [Addr.add] using h1
  .simpa [Addr.add,h0] using h1) (λ u hu=>by simp at hu;rcases hu with rfl | rfl | rfl <;> rfl) (by omega) (by unfold maxLen;omega) (by omega) hn _ rfl
 refine⟨g,cap,w',hr,?_,hg,?_⟩
 .have e1:(l ++ [x]).length=l.length+1:=by simp
  have e2:(l ++ [x]).flatMap Ba=l.flatMap Ba ++ [strV x.1,strV x.2,iv 0]:=by rw[flatMap_append];rfl
  unfold Cls;rw[e1,e2];exact ho
 .rcases a0 with h | h
  .exact AI h
  .exact AJ (by omega)
theorem T5{k:Nat}(hk:k≠g)(x0 x1 x2 x3 x4 x5 x6:Value):(((((((w.setCell ⟨g,0,none⟩ x0).setCell ⟨g,1,none⟩ x1).setCell ⟨g,2,none⟩ x2).setCell ⟨g,3,none⟩ x3).setCell ⟨g,4,none⟩ x4).setCell ⟨g,5,none⟩ x5).setCell ⟨g,6,none⟩ x6).heap[k]?=w.heap[k]?:=by
 rw[Below.heap_setCell _ _ _ _ hk,Below.heap_setCell _ _ _ _ hk,Below.heap_setCell _ _ _ _ hk,Below.heap_setCell _ _ _ _ hk,Below.heap_setCell _ _ _ _ hk,Below.heap_setCell _ _ _ _ hk,Below.heap_setCell _ _ _ _ hk]
theorem T6{l:List Px.Sl}{q:Nat}{s:Px.Sl}(h:l[q]?=some s):Ck.slots (l.take (q+1))=Ck.slots (l.take q) ++ [(s.name,s.type)]:=by
 unfold Ck.slots;rw[take_add_one,h,map_append];rfl
theorem Nh{B:AS}{l:List Px.Sl}(h:Dv B w l v)(hl:l.length<=100000)(hn:∀s∈l,s.name.length<=1000/\s.type.length<=1000) :
  AA 74 #[v] w λ e w'=>∃a c,e=.returned (.slice a l.length c)/\Cls w.heap.size w' (.slice a l.length c) (Ck.slots l)/\Below w.heap.size w w':=by
 obtain⟨ao,cap,rfl,b6,bb⟩:=SlRow.val h;have a5:=λ (j:Nat) (s:Px.Sl) (hj:l[j]?=some s)=>Jv h hj
 replace a5:=Bw a5;clear h;have b4:Hid (Cls w.heap.size w sZ (Ck.slots (l.take 0))/\Below w.heap.size w w):=⟨Cls.nil _ _,AF _ _⟩;go_enter func74,ntmps74;go_wp2_with fail
 go_loopg [3,8] l.length (λ gh out i wr=>∃q oa oc,q<=l.length/\gh=l.length - q/\out=.slice oa q oc/\i=iv q/\Hid (Cls w.heap.size wr (.slice oa q oc) (Ck.slots (l.take q))/\Below w.heap.size w wr))
 case atStart=>exact⟨0,none,0,AO _,rfl,rfl,rfl,b4⟩
 case round=>
  obtain⟨q,oa,oc,hq,rfl,rfl,rfl,HI⟩:=hrel;clear b4;by_cases hlt:q<l.length
  .have az:(q:Int)<(l.length:Int):=by omega
   have bk:(0:Int)<=(q:Int):=by omega
   obtain⟨s,al⟩:∃s,l[q]?=some s:=⟨_,AN hlt⟩;obtain⟨ga,og,ca,ea,-,au,u0,u1,u2⟩:=a5.out q s al;simp only[Value.slice.injEq] at ea;obtain⟨rfl,-,rfl⟩:=ea;have ar:=HI.out.2;obtain⟨ai,-⟩:=bcell ar;replace u0:=(ai _ _ au).trans u0;replace u1:=(ai _ _ au).trans u1;replace u2:=(ai _ _ au).trans u2;have bc:=ar.size;have bg:ga<wr.heap.size:=by omega
   obtain⟨bi,bn⟩:=hn s (mem_of_getElem? al);have ab:=λ w'=>Vv.sclone_l s.name w' (by omega)
   have ad:=λ w'=>Vv.sclone_l s.type w' (by omega)
   obtain⟨w5,b9⟩:∃w5,wr.alloc (.cells #[sE,sE,iv 0] 40)=w5:=⟨_,rfl⟩;obtain⟨w6,b0⟩:∃w6,((w5.setCell ⟨wr.heap.size,0,none⟩ (strV s.name)).setCell ⟨wr.heap.size,1,none⟩ (strV s.type)).setCell ⟨wr.heap.size,2,none⟩ (iv s.place)=w6:=⟨_,rfl⟩;have ba:Below wr.heap.size wr w5:=by rw[<-b9];exact (AF _ _).alloc (AD _) _
   have ah:w5.heap[wr.heap.size]?=some (.cells #[sE,sE,iv 0] 40 (0,0)):=by rw[<-b9];exact heap_new _ _
   have l5:wr.heap.size<w5.heap.size:=(AB ah).1;have b8:Below wr.heap.size wr w6:=by rw[<-b0];exact ((ba.setCell (p:=⟨wr.heap.size,0,none⟩) (AD _) _).setCell (p:=⟨wr.heap.size,1,none⟩) (AD _) _).setCell (p:=⟨wr.heap.size,2,none⟩) (AD _) _
   have av:w6.heap[wr.heap.size]?=some (.cells #[strV s.name,strV s.type,iv s.place] 40 (0,0)):=by rw[<-b0];simp[World.setCell,Array.getElem?_modify,ah]
   have l6:wr.heap.size<w6.heap.size:=(AB av).1;obtain⟨y0,y1,y2,z0,z1,z2⟩:=Ar ah;obtain⟨bh,be,bj,-⟩:=Ar av;clear ah ba av ai;go_wp2_with fail;have hS:∀w',Below w6.heap.size w6 w'->(w'.cell? ⟨wr.heap.size,0,none⟩=some (strV s.name)/\w'.cell? ⟨wr.heap.size,1,none⟩=some (strV s.type)):=λ w' hb=>⟨((bcell hb).1 _ _ l6).trans bh,((bcell hb).1 _ _ l6).trans be⟩
   replace hS:=Bw hS;refine Vv.wpE_begin (S:=λ w'=>w'.cell? ⟨wr.heap.size,0,none⟩=some (strV s.name)/\w'.cell? ⟨wr.heap.size,1,none⟩=some (strV s.type)) (N:=λ j=>decide (j<9)) (by kernel_rfl) ?_;have ak:Below w6.heap.size w6 w6.drew:=(AF _ _).drew;have a7:=hS.out w6.drew ak;have am:w6.heap.size<=w6.drew.heap.size:=AD _;generalize w6.drew=wd at *;refine Aa 12 [9,10] 0 (.slice oa q oc) a7 ?_
   try simp only[aP]
   refine Aa 13 [2,3,6,7,8,9,10] 1 (pt wr.heap.size 0) a7 ?_
   try simp only[aP]
   refine Aa 14 [3,6,7,8,9,10] 2 (strV s.name) a7 ?_
   try simp only[aP]
   refine Aa 16 [5,6,7,8,9,10] 4 (pt wr.heap.size 1) a7 ?_
   try simp only[aP]
   refine Aa 17 [6,7,8,9,10] 5 (strV s.type) a7 ?_
   try simp only[aP]
   refine Ah 3 λ K hK=>?_
   go_simp;refine (ab _).mono ?_;rintro e w7 ⟨rfl,ae⟩;have aj:Below w6.heap.size w6 w7:=ak.trans (ae.mono am);refine hK _ _ (λ _=>hS.out w7 aj) ?_;clear hK K ab
   try simp only[aP]
   refine Ah 6 λ K hK=>?_
   go_simp;refine (ad _).mono ?_;rintro e w8 ⟨rfl,a8⟩;have a9:Below w6.heap.size w6 w8:=aj.trans (a8.mono aj.size);refine hK _ _ (λ _=>hS.out w8 a9) ?_;clear hK K ad
   try simp only[aP]
   refine Ah 7 λ K hK=>?_
   go_simp;refine hK _ _ (λ _=>hS.out w8 a9) ?_;clear hK K
   try simp only[aP]
   obtain⟨w9,aw⟩:∃w9,w8.alloc (.cells #[strV s.name,strV s.type,iv 0] 40)=w9:=⟨_,rfl⟩;have af:Below w8.heap.size w8 w9:=by rw[<-aw];exact (AF _ _).alloc (AD _) _
   have a4:w9.heap[w8.heap.size]?=some (.cells #[strV s.name,strV s.type,iv 0] 40 (0,0)):=by rw[<-aw];exact heap_new _ _
   have aq:Below w6.heap.size w6 w9:=a9.trans (af.mono a9.size);refine Ah 8 λ K hK=>?_
   go_simp
   try rw[aw]
   refine hK _ _ (λ _=>hS.out w9 aq) ?_;clear hK K
   try simp only[aP]
   have a0:Below wr.heap.size wr w9:=b8.trans (aq.mono b8.size);have bl:=a0.size;have b5:Cls w.heap.size w9 (.slice oa q oc) (Ck.slots (l.take q)):=HI.out.1.since (λ j e=>a0.block j (HI.out.1.lt e).2);have bf:(Ck.slots (l.take q)).length=q:=by simp[Ck.slots];omega
   obtain⟨b7,b3,w10,a6,a3,aa,ag⟩:=b5.push (x:=(s.name,s.type)) a4 (by omega) (by omega) 1 23;rw[bf] at a6 a3;rw[<-T6 al] at a3;have ay:Hid (Cls w.heap.size w10 (sL b7 0 (q+1) b3) (Ck.slots (l.take (q+1)))/\Below w.heap.size w w10):=⟨a3,(ar.trans (a0.mono bc)).grown aa (by omega) (λ j e=>(HI.out.1.lt e).1)⟩;clear b5 a3 aa ag a4 aq af a9 a8 aj ae a0 hS a7 ak HI;refine Ah 9 λ K hK=>?_
   refine Cc _ _ 23 rfl _ _ rfl rfl _ _ a6 ?_;refine hK _ _ (λ h=>by cases h) ?_;clear hK K
   try simp only[aP]
   refine Ah 10 λ K hK=>?_
   go_simp;refine hK _ _ (λ h=>by cases h) ?_;clear hK K
   try simp only[aP]
   refine Vv.wpE_done (by kernel_rfl) ?_;clear a6;simp only[Exit.inBlock,Exit.then];refine ‹∀(a:Act) (w:World),_->_› _ _ ?_;go_wp2_with fail;go_roundg (l.length - (q+1))
   case measure=>omega
   case rel=>exact⟨q+1,some ⟨b7,0,none⟩,b3,by omega,rfl,rfl,by go_num,ay⟩
  .have az:¬(q:Int)<(l.length:Int):=by omega
   have ax:∃a c,Value.slice oa q oc=.slice a l.length c/\Cls w.heap.size wr (.slice a l.length c) (Ck.slots l)/\Below w.heap.size w wr:=by
    have e1:q=l.length:=by omega
    have h1:=HI.out;rw[take_of_length_le (by omega)] at h1;subst e1;exact⟨oa,oc,rfl,h1.1,h1.2⟩
   clear HI;go_wp2_with fail;obtain⟨a,c,e1,e2,e3⟩:=ax;exact bodyPost_ret (v:=.slice oa q oc) (by simp[results,results74,go_sem]) rfl ⟨a,c,by rw[e1],e2,e3⟩
theorem Ae0{B:AS}{f:Px.Fn}{pa ba:Option Addr}{pc bn bc:Nat}(h:Dv B w f.params (.slice pa f.params.length pc))(hl:f.params.length<=100000)(hn:∀s∈f.params,s.name.length<=1000/\s.type.length<=1000)(ax:f.name.length<=1000)(az:f.result.length<=1000) :
  AA 75 #[.agg #[strV f.name,.bool f.on,.slice pa f.params.length pc,strV f.result,sZ,.slice ba bn bc,iv f.place]] w λ e w'=>∃a9 c9,e=.returned (.agg #[strV f.name,.bool f.on,.slice a9 f.params.length c9,strV f.result,sZ,sZ,iv 0])/\Cls w.heap.size w' (.slice a9 f.params.length c9) (Ck.slots f.params)/\Below w.heap.size w w':=by
 obtain⟨w0,au⟩:∃w0,w.alloc (.cells #[strV f.name,.bool f.on,.slice pa f.params.length pc,strV f.result,sZ,.slice ba bn bc,iv f.place] 36)=w0:=⟨_,rfl⟩;obtain⟨w1,ar⟩:∃w1,w0.alloc (.cells #[sE,.bool false,sZ,sE,sZ,sZ,iv 0] 36)=w1:=⟨_,rfl⟩;have al:Below w.heap.size w w0:=by rw[<-au];exact (AF _ _).alloc (AD _) _
 have a3:Below w0.heap.size w0 w1:=by rw[<-ar];exact (AF _ _).alloc (AD _) _
 have ai:w0.heap[w.heap.size]?=some (.cells #[strV f.name,.bool f.on,.slice pa f.params.length pc,strV f.result,sZ,.slice ba bn bc,iv f.place] 36 (0,0)):=by rw[<-au];exact heap_new _ _
 have l0:w.heap.size<w0.heap.size:=(AB ai).1;have av:=(a3.block _ l0).trans ai;have am:w1.heap[w0.heap.size]?=some (.cells #[sE,.bool false,sZ,sE,sZ,sZ,iv 0] 36 (0,0)):=by rw[<-ar];exact heap_new _ _
 have l1:w0.heap.size<w1.heap.size:=(AB am).1;have ag:Below w.heap.size w w1:=al.trans (a3.mono al.size);obtain⟨d0,d1,d2,d3,d4,d5,d6,-⟩:=Be av;have lx:w.heap.size<w1.heap.size:=by omega
 have a7:=λ w'=>Vv.sclone_l f.name w' (by omega)
 have a8:=λ w'=>Vv.sclone_l f.result w' (by omega)
 have ae:=λ w' (hb:Below w1.heap.size w1 w')=>Nh ((SlRow.since h (Since.of_below ag)).since (Since.of_below hb)) hl hn
 replace ae:=Bw ae;clear h ai al a3 av;go_enter func75,ntmps75;go_wp2_with fail;have hS:∀w',Below w1.heap.size w1 w'->(w'.cell? ⟨w.heap.size,0,none⟩=some (strV f.name)/\w'.cell? ⟨w.heap.size,1,none⟩=some (.bool f.on)/\w'.cell? ⟨w.heap.size,2,none⟩=some (.slice pa f.params.length pc)/\w'.cell? ⟨w.heap.size,3,none⟩=some (strV f.result)):=λ w' hb=>⟨((bcell hb).1 _ _ lx).trans d0,((bcell hb).1 _ _ lx).trans d1,((bcell hb).1 _ _ lx).trans d2,((bcell hb).1 _ _ lx).trans d3⟩
 replace hS:=Bw hS;refine Vv.wpE_begin (S:=λ w'=>w'.cell? ⟨w.heap.size,0,none⟩=some (strV f.name)/\w'.cell? ⟨w.heap.size,1,none⟩=some (.bool f.on)/\w'.cell? ⟨w.heap.size,2,none⟩=some (.slice pa f.params.length pc)/\w'.cell? ⟨w.heap.size,3,none⟩=some (strV f.result)) (N:=λ j=>decide (j<11)) (by kernel_rfl) ?_;have aj:Below w1.heap.size w1 w1.drew:=(AF _ _).drew;have a0:=hS.out w1.drew aj;have ak:w1.heap.size<=w1.drew.heap.size:=AD _;generalize w1.drew=wd at *;refine Aa 3 [1,2,7,10,11,12] 0 (pt w.heap.size 0) a0 ?_
 try simp only[aP]
 refine Aa 4 [2,7,10,11,12] 1 (strV f.name) a0 ?_
 try simp only[aP]
 refine Aa 6 [4,11,12] 3 (pt w.heap.size 1) a0 ?_
 try simp only[aP]
 refine Aa 7 [11,12] 4 (.bool f.on) a0 ?_
 try simp only[aP]
 refine Aa 8 [6,7,10,11,12] 5 (pt w.heap.size 2) a0 ?_
 try simp only[aP]
 refine Aa 9 [7,10,11,12] 6 (.slice pa f.params.length pc) a0 ?_
 try simp only[aP]
 refine Aa 11 [9,10,11,12] 8 (pt w.heap.size 3) a0 ?_
 try simp only[aP]
 refine Aa 12 [10,11,12] 9 (strV f.result) a0 ?_
 try simp only[aP]
 refine Ah 2 λ K hK=>?_
 go_simp;refine (a7 _).mono ?_;rintro e w7 ⟨rfl,aa⟩;have a5:Below w1.heap.size w1 w7:=aj.trans (aa.mono ak);refine hK _ _ (λ _=>hS.out w7 a5) ?_;clear hK K a7
 try simp only[aP]
 refine Ah 7 λ K hK=>?_
 go_simp;refine (ae.out w7 a5).mono ?_;rintro e w8 ⟨a9,c9,rfl,ah,a6⟩;have ad:Below w1.heap.size w1 w8:=a5.trans (a6.mono a5.size);refine hK _ _ (λ _=>hS.out w8 ad) ?_;clear hK K ae
 try simp only[aP]
 refine Ah 10 λ K hK=>?_
 go_simp;refine (a8 _).mono ?_;rintro e w9 ⟨rfl,a4⟩;have af:Below w1.heap.size w1 w9:=ad.trans (a4.mono ad.size);refine hK _ _ (λ _=>hS.out w9 af) ?_;clear hK K a8
 try simp only[aP]
 have aq:=(af.block _ l1).trans am;obtain⟨r0,r1,r2,r3,r4,r5,r6,t0,t1,t2,t3,t4,t5,t6⟩:=Be aq;have l9:w0.heap.size<w9.heap.size:=(AB aq).1;have ab:Hid (∃a9' c9',Ending.returned (.agg #[strV f.name,.bool f.on,.slice a9 f.params.length c9,strV f.result,sZ,sZ,iv 0])=.returned (.agg #[strV f.name,.bool f.on,.slice a9' f.params.length c9',strV f.result,sZ,sZ,iv 0])/\Cls w.heap.size (((((((w9.setCell ⟨w0.heap.size,0,none⟩ (strV f.name)).setCell ⟨w0.heap.size,1,none⟩ (.bool f.on)).setCell ⟨w0.heap.size,2,none⟩ (.slice a9 f.params.length c9)).setCell ⟨w0.heap.size,3,none⟩ (strV f.result)).setCell ⟨w0.heap.size,4,none⟩ sZ).setCell ⟨w0.heap.size,5,none⟩ sZ).setCell ⟨w0.heap.size,6,none⟩ (iv 0)) (.slice a9' f.params.length c9') (Ck.slots f.params)/\Below w.heap.size w (((((((w9.setCell ⟨w0.heap.size,0,none⟩ (strV f.name)).setCell ⟨w0.heap.size,1,none⟩ (.bool f.on)).setCell ⟨w0.heap.size,2,none⟩ (.slice a9 f.params.length c9)).setCell ⟨w0.heap.size,3,none⟩ (strV f.result)).setCell ⟨w0.heap.size,4,none⟩ sZ).setCell ⟨w0.heap.size,5,none⟩ sZ).setCell ⟨w0.heap.size,6,none⟩ (iv 0))):=by
  have ay:=a5.size;have aw:Below w.heap.size w w9:=ag.trans (af.mono ag.size);have hW:Below w0.heap.size w9 (((((((w9.setCell ⟨w0.heap.size,0,none⟩ (strV f.name)).setCell ⟨w0.heap.size,1,none⟩ (.bool f.on)).setCell ⟨w0.heap.size,2,none⟩ (.slice a9 f.params.length c9)).setCell ⟨w0.heap.size,3,none⟩ (strV f.result)).setCell ⟨w0.heap.size,4,none⟩ sZ).setCell ⟨w0.heap.size,5,none⟩ sZ).setCell ⟨w0.heap.size,6,none⟩ (iv 0)):=(((((((AF _ _).setCell (p:=⟨w0.heap.size,0,none⟩) (AD _) _).setCell (p:=⟨w0.heap.size,1,none⟩) (AD _) _).setCell (p:=⟨w0.heap.size,2,none⟩) (AD _) _).setCell (p:=⟨w0.heap.size,3,none⟩) (AD _) _).setCell (p:=⟨w0.heap.size,4,none⟩) (AD _) _).setCell (p:=⟨w0.heap.size,5,none⟩) (AD _) _).setCell (p:=⟨w0.heap.size,6,none⟩) (AD _) _;have ho:∀j,j≠w0.heap.size->(((((((w9.setCell ⟨w0.heap.size,0,none⟩ (strV f.name)).setCell ⟨w0.heap.size,1,none⟩ (.bool f.on)).setCell ⟨w0.heap.size,2,none⟩ (.slice a9 f.params.length c9)).setCell ⟨w0.heap.size,3,none⟩ (strV f.result)).setCell ⟨w0.heap.size,4,none⟩ sZ).setCell ⟨w0.heap.size,5,none⟩ sZ).setCell ⟨w0.heap.size,6,none⟩ (iv 0)).heap[j]?=w9.heap[j]?:=λ j hj=>T5 hj _ _ _ _ _ _ _
  refine⟨a9,c9,rfl,?_,aw.trans (hW.mono (by omega))⟩;have h1:Cls w7.heap.size w9 (.slice a9 f.params.length c9) (Ck.slots f.params):=ah.since (λ j e=>a4.block j (ah.lt e).2);have h2:Cls w7.heap.size (((((((w9.setCell ⟨w0.heap.size,0,none⟩ (strV f.name)).setCell ⟨w0.heap.size,1,none⟩ (.bool f.on)).setCell ⟨w0.heap.size,2,none⟩ (.slice a9 f.params.length c9)).setCell ⟨w0.heap.size,3,none⟩ (strV f.result)).setCell ⟨w0.heap.size,4,none⟩ sZ).setCell ⟨w0.heap.size,5,none⟩ sZ).setCell ⟨w0.heap.size,6,none⟩ (iv 0)) (.slice a9 f.params.length c9) (Ck.slots f.params):=h1.since (λ j e=>ho j (by have:=(h1.lt e).1;omega));refine⟨h2.1,?_⟩;rcases h2.2 with h3 | ⟨g,cap,cur,h3,h4,h5,h6⟩
  .exact AI h3
  .exact AJ ⟨g,cap,cur,h3,by omega,h5,h6⟩
 clear hS a0 ah aq a5 ad af aa a6 a4 aj ag am;refine Ah 11 λ K hK=>?_
 go_simp;refine hK _ _ (λ h=>by cases h) ?_;clear hK K
 try simp only[aP]
 refine Ah 12 λ K hK=>?_
 go_simp;refine hK _ _ (λ h=>by cases h) ?_;clear hK K
 try simp only[aP]
 refine Vv.wpE_done (by kernel_rfl) ?_;simp only[Exit.inBlock,Exit.then];refine ‹∀(a:Act) (w:World),_->_› _ _ ?_;go_wp2_with fail;exact bodyPost_ret (v:=.agg #[strV f.name,.bool f.on,.slice a9 f.params.length c9,strV f.result,sZ,sZ,iv 0]) (by simp[results,results75,go_sem,l9,r0,r1,r2,r3,r4,r5,r6]) rfl ab.out
end
end Go.Proofs.YtpckmjfabiallaaGreatDoor
