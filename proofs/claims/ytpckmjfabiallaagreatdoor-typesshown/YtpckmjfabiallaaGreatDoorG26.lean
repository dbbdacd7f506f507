/- Texts of ours, joined. -/
import Derived.Test.YtpckmjfabiallaaGreatDoorG25
import Derived.Test.YtpckmjfabiallaaGreatDoorG12
import Derived.Test.YtpckmjfabiallaaGreatDoorG14
set_option linter.unusedVariables false
set_option linter.unusedSimpArgs false
set_option maxRecDepth 100000
set_option maxHeartbeats 16000000
namespace Go.Proofs.YtpckmjfabiallaaGreatDoor
variable{fs ss v:Value}{m:Nat}{w w':World}
open List
open _root_.Go.Proofs.Tryz
section
open Go.RowKit
open Px (Ex St Sl WfE WfS Cs Fq WfF WfP Ky prT O1 Io To Gu)
mutual
theorem Al7:∀e:Ex,WfE VW e->O1 4096 e->ShE e
 | .mk k o n t args p,hw,hl=>by
  rw[WfE] at hw;rw[O1] at hl;obtain⟨hf,hs⟩:=hw;rw[ShE];refine⟨?_,Xw args hs hl.2⟩;rcases hf with⟨rfl,-⟩ | ⟨rfl,-⟩ | ⟨rfl,-,-,-,hv⟩ | ⟨rfl,-⟩ | ⟨rfl,-⟩ | ⟨rfl,-,-,-,h⟩ | ⟨hk,-,-,-,h⟩ | ⟨rfl,-,-,-,-,h⟩
  .exact AI rfl
  .exact AJ (AI rfl)
  .have:=Mp (Ju hv);exact AJ (AJ (AI ⟨rfl,by omega⟩))
  .exact AJ (AJ (AJ (AI rfl)))
  .exact AJ (AJ (AJ (AJ (AI ⟨rfl,by omega⟩))))
  .exact AJ (AJ (AJ (AJ (AJ (AI ⟨rfl,h⟩)))))
  .rcases hk with rfl | rfl
   .exact AJ (AJ (AJ (AJ (AJ (AJ (AI ⟨rfl,h⟩))))))
   .exact AJ (AJ (AJ (AJ (AJ (AJ (AJ (AI ⟨rfl,h⟩)))))))
  .exact AJ (AJ (AJ (AJ (AJ (AJ (AJ (AJ ⟨rfl,h⟩)))))))
theorem Xw:∀l:List Ex,Px.WfEs VW l->Io 4096 l->Mu l
 | [],_,_=>by rw[Mu];trivial
 | e :: r,hw,hl=>by
  rw[Px.WfEs] at hw;rw[Io] at hl;rw[Mu];exact⟨Al7 e hw.1 hl.1,Xw r hw.2 hl.2⟩
end
theorem Tq:∀{l:List Ex},(∀e∈l,ShE e)->Mu l
 | [],_=>by rw[Mu];trivial
 | e :: r,h=>by rw[Mu];exact⟨h e (AC ..),Tq (λ x hx=>h x (AH _ hx))⟩
mutual
theorem As7:∀s:St,WfS VW s->To 4096 s->ShS s/\LnS s
 | .mk k n es b c p,hw,hl=>by
  rw[WfS] at hw;rw[To] at hl;obtain⟨hf,he,hb,hc⟩:=hw;obtain⟨l1,l2,l3,l4,l5⟩:=hl;obtain⟨b1,b2⟩:=Jh b hb l4;obtain⟨c1,c2⟩:=Jh c hc l5;rw[ShS,LnS];refine⟨⟨?_,Tq (λ e h=>Al7 e (he e h) (l1 e h)),b1,c1⟩,by omega,by omega,b2,c2⟩;rcases hf with⟨rfl,-,h,-⟩ | ⟨rfl,-,h,-⟩ | ⟨rfl,-,h,-⟩ | ⟨rfl,-,h⟩ | ⟨rfl,-,h,-⟩ | ⟨rfl,-,h,-⟩
  .exact AI ⟨rfl,h⟩
  .exact AJ (AI ⟨rfl,h⟩)
  .exact AJ (AJ (AI ⟨rfl,h⟩))
  .exact AJ (AJ (AJ (AI ⟨rfl,h⟩)))
  .exact AJ (AJ (AJ (AJ (AI ⟨rfl,h⟩))))
  .exact AJ (AJ (AJ (AJ (AJ ⟨rfl,h⟩))))
theorem Jh:∀l:List St,Cs VW l->Gu 4096 l->Ik l/\Nh l
 | [],_,_=>by rw[Ik,Nh];exact⟨trivial,trivial⟩
 | s :: r,hw,hl=>by
  rw[Cs] at hw;rw[Gu] at hl;obtain⟨a1,a2⟩:=As7 s hw.1 hl.1;obtain⟨b1,b2⟩:=Jh r hw.2 hl.2;rw[Ik,Nh];exact⟨⟨a1,b1⟩,a2,b2⟩
end
theorem Qy{t:Lx.B}(h:Ky VW t):t.length<=1000:=by have:=Hc (I3 h.2);omega
theorem Qz{y:AQ}(h:∃c,Px.Ty 4 y c):y.length<=1000:=by
 have hg:gType y=true:=by unfold gType;rw[if_pos (show Px.IsTy 4 y from h)]
 have:=Fd hg;omega
theorem As8{p:Px.Pr}(h:WfP VW p)(hc:(prT p).length<=4096):PrSh p:=by
 obtain⟨-,hs,hf⟩:=h;have h1:=Px.ssT_le p.states;have h2:=Px.fsT_le p.fns;simp[prT] at hc;refine⟨by omega,by omega,λ s h=>⟨Qy (hs s h).1,Qz (hs s h).2⟩,λ f h=>?_,λ f h=>?_⟩
 .obtain⟨a1,a2,a3,a4,a5⟩:=hf f h;have h3:=K8 h;have h4:=Px.fnT_le f;exact⟨Qy a1,Qz a3,by omega,λ s hs=>⟨Qy (a2 s hs).1,Qz (a2 s hs).2⟩⟩
 .obtain⟨a1,a2,a3,a4,a5⟩:=hf f h;have h3:=K8 h;have h4:=Px.fnT_le f;have h5:=Px.stmles_of (N:=4096) f.body a4 (by omega);obtain⟨b1,b2⟩:=Jh f.body a4 h5;have h6:=(Px.stsT_le f.body).1;exact⟨b1,b2,by omega⟩
end
section
open Go.RowKit
open Ck (CE CS CF CP Mng)
mutual
theorem IsEx.old{B:AS}{w:World}:∀{e:Px.Ex} {cs:AR},IsEx B w e cs->IsEx (λ j=>j<w.heap.size) w e cs
 | .mk k o n t a p,cs,h=>by
  rw[IsEx] at h ⊢;obtain⟨sl,row,h1,h2,h3⟩:=h;exact⟨sl,row,h1,h2.base' (λ j _ hl=>hl),Ai.old h3⟩
theorem Ai.old{B:AS}{w:World}:∀{l:List Px.Ex} {cs:AR},Ai B w l cs->Ai (λ j=>j<w.heap.size) w l cs
 | [],cs,h=>by rw[Ai] at h ⊢;exact h
 | e :: r,cs,h=>by
  rw[Ai] at h ⊢;obtain⟨c1,c2,hc,h1,h2⟩:=h;exact⟨c1,c2,hc,IsEx.old h1,Ai.old h2⟩
end
mutual
theorem IsSt.old{B:AS}{w:World}:∀{e:Px.St} {cs:AR},IsSt B w e cs->IsSt (λ j=>j<w.heap.size) w e cs
 | .mk k n es b c p,cs,h=>by
  rw[IsSt] at h ⊢;obtain⟨s1,s2,s3,r1,r2,r3,hc,a1,a2,a3,a4,a5,a6⟩:=h;exact⟨s1,s2,s3,r1,r2,r3,hc,a1.base' (λ j _ hl=>hl),a2.old,a3.base' (λ j _ hl=>hl),As.old a4,a5.base' (λ j _ hl=>hl),As.old a6⟩
theorem As.old{B:AS}{w:World}:∀{l:List Px.St} {cs:AR},As B w l cs->As (λ j=>j<w.heap.size) w l cs
 | [],cs,h=>by rw[As] at h ⊢;exact h
 | e :: r,cs,h=>by
  rw[As] at h ⊢;obtain⟨c1,c2,hc,h1,h2⟩:=h;exact⟨c1,c2,hc,IsSt.old h1,As.old h2⟩
end
theorem Bx.old{B:AS}{w:World}:∀{l:List Px.Fn} {cs:AR},Bx B w l cs->Bx (λ j=>j<w.heap.size) w l cs
 | [],cs,h=>h
 | e :: r,cs,h=>by
  obtain⟨c1,c2,hc,⟨ps,bs,h1,h2,row,h3,h4⟩,h5⟩:=h;exact⟨c1,c2,hc,⟨ps,bs,h1,BD h2 (λ j _ hl=>hl),row,h3.base' (λ j _ hl=>hl),h4.old⟩,Bx.old h5⟩
theorem Q0(a er:Nat)(w:World):AA 23 #[.iface 58 (.agg #[iv a,iv er])] w λ e w'=>e=.returned (.agg #[iv a,iv er])/\Below w.heap.size w w':=by
 have a6:∀w1:World,(Instr.typeAssert (.iface 58 (.agg #[iv a,iv er])) 20 58 false).run prog w1=.ok (.agg #[iv a,iv er]) w1:=λ _=>by kernel_rfl
 obtain⟨w0,a5⟩:∃w0,w.alloc (.cells #[iv 0,iv 0] 58)=w0:=⟨_,rfl⟩;have a4:Below w.heap.size w w0:=by rw[<-a5];exact (AF _ _).alloc (AD _) _
 have a0:w0.heap[w.heap.size]?=some (.cells #[iv 0,iv 0] 58 (0,0)):=by rw[<-a5];exact heap_new _ _
 have l0:w.heap.size<w0.heap.size:=(AB a0).1;have c0:w0.cell? ⟨w.heap.size,0,none⟩=some (iv 0):=by simp[World.cell?,a0]
 have c1:w0.cell? ⟨w.heap.size,1,none⟩=some (iv 0):=by simp[World.cell?,a0]
 have f0:w0.frozen? ⟨w.heap.size,0,none⟩=false:=by simp[World.frozen?,a0]
 have f1:w0.frozen? ⟨w.heap.size,1,none⟩=false:=by simp[World.frozen?,a0]
 have a3:Below w.heap.size w ((w0.setCell ⟨w.heap.size,0,none⟩ (iv a)).setCell ⟨w.heap.size,1,none⟩ (iv er)):=(a4.setCell (p:=⟨w.heap.size,0,none⟩) (AD _) _).setCell (p:=⟨w.heap.size,1,none⟩) (AD _) _;clear a0 a4;go_enter func23,ntmps23;go_wp2_with fail;exact bodyPost_ret (v:=.agg #[iv a,iv er]) (by simp[results,results23,go_sem,l0,c0,c1]) rfl ⟨rfl,a3⟩
theorem Tr(p q r:Addr)(w:World) :
  CallsD prog 22 #[.pointer (some p),.pointer (some q),.pointer (some r)] .returning w λ e u' w'=>e=.returned (.tuple #[])/\u'=.returning/\w'=w:=by
 refine callsD_of_wpS func22 rfl λ c₀ cs hu=>?_
 apply wpS_seq;apply wpS_region;simp[wpOpsS,go_sem,recoverD,hu,ntmps22,Exit.thenS];refine wpS_of_wp ?_;go_wp2;cases c₀
 simp_all [bodyPostS,results,results22]
theorem Ni(p g1 g2 a er v1 v2:Nat)(bc:p<g1)(bh:g1<g2)(older:List PanicEntry)(w:World)(hp:w.heap[p]?=some Cm)(hq:w.heap[g1]?=some (Eu v1))(hr:w.heap[g2]?=some (Ct v2)) :
  CallsD prog 22 #[pt p 0,pt g1 0,pt g2 0] (.panicking ({ v:=.iface 58 (.agg #[iv a,iv er]),recovered:=false } :: older)) w λ e u' w'=>
   e=.returned (.tuple #[])/\u'=.panicking ({ v:=.iface 58 (.agg #[iv a,iv er]),recovered:=true } :: older) /\
   w'.heap[p]?=some Cm/\w'.heap[g1]?=some (Eu a)/\w'.heap[g2]?=some (Ct er)/\Below p w w':=by
 refine callsD_of_wpS func22 rfl λ c₀ cs hu=>?_
 apply wpS_seq;apply wpS_region;simp[wpOpsS,go_sem,recoverD,hu,ntmps22,Exit.thenS];refine wpS_of_wp ?_;have lp:p<w.heap.size:=(AB hp).1;have lq:g1<w.heap.size:=(AB hq).1;have lr:g2<w.heap.size:=(AB hr).1;have hF:=Q0 a er w;go_wp2_with fail;refine hF.mono ?_;rintro e w1 ⟨rfl,ak⟩;clear hF;have ba:=ak.size;obtain⟨w2,ai⟩:∃w2,w1.alloc (.cells #[iv 0,iv 0] 58)=w2:=⟨_,rfl⟩;obtain⟨w4,af⟩:∃w4,(w2.setCell ⟨w1.heap.size,0,none⟩ (iv a)).setCell ⟨w1.heap.size,1,none⟩ (iv er)=w4:=⟨_,rfl⟩;have au:Below w1.heap.size w1 w2:=by rw[<-ai];exact (AF _ _).alloc (AD _) _
 have a0:w2.heap[w1.heap.size]?=some (.cells #[iv 0,iv 0] 58 (0,0)):=by rw[<-ai];exact heap_new _ _
 have l2:w1.heap.size<w2.heap.size:=(AB a0).1;have b6:Below w1.heap.size w1 w4:=by rw[<-af];exact (au.setCell (p:=⟨w1.heap.size,0,none⟩) (AD _) _).setCell (p:=⟨w1.heap.size,1,none⟩) (AD _) _
 have ad:w4.heap[w1.heap.size]?=some (.cells #[iv a,iv er] 58 (0,0)):=by rw[<-af];simp[World.setCell,Array.getElem?_modify,a0]
 have c0:w2.cell? ⟨w1.heap.size,0,none⟩=some (iv 0):=by simp[World.cell?,a0]
 have c1:w2.cell? ⟨w1.heap.size,1,none⟩=some (iv 0):=by simp[World.cell?,a0]
 have f0:w2.frozen? ⟨w1.heap.size,0,none⟩=false:=by simp[World.frozen?,a0]
 have f1:w2.frozen? ⟨w1.heap.size,1,none⟩=false:=by simp[World.frozen?,a0]
 have a5:Below w.heap.size w w4:=ak.trans (b6.mono ba);have am:=(a5.block p lp).trans hp;have ar:=(a5.block g1 lq).trans hq;have b0:=(a5.block g2 lr).trans hr;have bf:=a5.size;have e0:w4.cell? ⟨w1.heap.size,0,none⟩=some (iv a):=by simp[World.cell?,ad]
 have e1:w4.cell? ⟨w1.heap.size,1,none⟩=some (iv er):=by simp[World.cell?,ad]
 clear a0 au b6 hp hq hr;go_wp2_with fail;have hS:∀w':World,w'.heap[w1.heap.size]?=w4.heap[w1.heap.size]?->(w'.cell? ⟨w1.heap.size,0,none⟩=some (iv a)/\w'.cell? ⟨w1.heap.size,1,none⟩=some (iv er)):=λ w' h=>⟨(Ak h).trans e0,(Ak h).trans e1⟩
 replace hS:=B4 hS;refine Vv.wpE_begin (S:=λ w'=>w'.cell? ⟨w1.heap.size,0,none⟩=some (iv a)/\w'.cell? ⟨w1.heap.size,1,none⟩=some (iv er)) (N:=λ j=>decide (j<7)) (by kernel_rfl) ?_;have a4:=hS.out w4.drew rfl;have ah:w4.drew.heap[p]?=some Cm:=am;have ay:w4.drew.heap[g1]?=some (Eu v1):=ar;have az:w4.drew.heap[g2]?=some (Ct v2):=b0;have al:w4.drew.heap[w1.heap.size]?=w4.heap[w1.heap.size]?:=rfl;have aj:Below w.heap.size w w4.drew:=a5.drew;generalize w4.drew=wd at *;clear e0 e1 ad a5 am ar b0 c0 c1 f0 f1;have bd:=aj.size;have bi:p<wd.heap.size:=by omega
 obtain⟨x0,x1,x2,k0,k1,k2⟩:=Af ah;obtain⟨w5,a3⟩:∃w5,w3 wd p (iv (0:Nat)) sZ sZ=w5:=⟨_,rfl⟩;have b3:w5.heap[p]?=some Cm:=by rw[<-a3];exact Lp ah _ _ _
 have a7:∀k,k≠p->w5.heap[k]?=wd.heap[k]?:=λ k hk=>by rw[<-a3];exact Di hk _ _ _
 have b9:w5.heap.size=wd.heap.size:=by rw[<-a3];exact G3 _ _ _ _ _
 have b4:Below p w w5:=by rw[<-a3];exact Ee (aj.mono (by omega)) (AD _) _ _ _
 replace a3:w3 wd p (iv 0) sZ sZ=w5:=a3;have ab:=(a7 g1 (by omega)).trans ay;have av:=(a7 g2 (by omega)).trans az;have ae:=(a7 w1.heap.size (by omega)).trans al;obtain⟨w6,a6⟩:∃w6,w5.setCell ⟨g1,0,none⟩ (iv a)=w6:=⟨_,rfl⟩;have aa:∀k,k≠g1->w6.heap[k]?=w5.heap[k]?:=λ k hk=>by rw[<-a6];exact AG _ _ _ _ hk
 have b7:w6.heap[g1]?=some (Eu a):=by rw[<-a6];simp[World.setCell,Array.getElem?_modify,ab]
 have aw:Below p w w6:=by rw[<-a6];exact b4.setCell (p:=⟨g1,0,none⟩) (by show p<=g1;omega) _
 have b8:w6.heap.size=w5.heap.size:=by rw[<-a6];simp[World.setCell]
 have a8:=(aa g2 (by omega)).trans av;have ax:=(aa w1.heap.size (by omega)).trans ae;obtain⟨w7,a9⟩:∃w7,w6.setCell ⟨g2,0,none⟩ (iv er)=w7:=⟨_,rfl⟩;have ag:∀k,k≠g2->w7.heap[k]?=w6.heap[k]?:=λ k hk=>by rw[<-a9];exact AG _ _ _ _ hk
 have bb:w7.heap[p]?=some Cm/\w7.heap[g1]?=some (Eu a)/\w7.heap[g2]?=some (Ct er)/\Below p w w7:=⟨(ag p (by omega)).trans ((aa p (by omega)).trans b3),(ag g1 (by omega)).trans b7,by rw[<-a9];simp[World.setCell,Array.getElem?_modify,a8],by rw[<-a9];exact aw.setCell (p:=⟨g2,0,none⟩) (by show p<=g2;omega) _⟩;have m1:=cell_of_one ab;have n1:=free_of_one ab;have m2:=cell_of_one a8;have n2:=free_of_one a8;have be:g1<w5.heap.size:=by omega
 have bg:g2<w6.heap.size:=by omega
 have aq:=hS.out w5 ae;have b5:=hS.out w6 ax;clear b9 b8 a7 aa ag b3 ab av ae b7 a8 ax b4 aw hS ah ay az al aj;refine Aa 11 [2,6,7] 1 (pt w1.heap.size 0) a4 ?_
 try simp only[aP]
 refine Aa 12 [6,7] 2 (iv a) a4 ?_
 try simp only[aP]
 refine Aa 13 [4,7] 3 (pt w1.heap.size 1) a4 ?_
 try simp only[aP]
 refine Aa 14 [7] 4 (iv er) a4 ?_
 try simp only[aP]
 refine Ah 0 λ K hK=>?_
 go_simp;refine hK _ _ (λ _=>a4) ?_;clear hK K
 try simp only[aP]
 refine Ah 5 λ K hK=>?_
 go_simp;refine hK _ _ (λ _=>aq) ?_;clear hK K
 try simp only[aP]
 refine Ah 6 λ K hK=>?_
 go_simp;refine hK _ _ (λ _=>b5) ?_;clear hK K
 try simp only[aP]
 refine Ah 7 λ K hK=>?_
 go_simp;refine hK _ _ (λ h=>by cases h) ?_;clear hK K
 try simp only[aP]
 refine Vv.wpE_done (by kernel_rfl) ?_;clear a4 aq b5 m1 n1 m2 n2 x0 x1 x2 k0 k1 k2 ak ai af a3 a6 a9;show bodyPostS _ _ _ _ _ _ _ _ _;cases c₀
 simp_all [bodyPostS,results,results22]
end
section
open Go.RowKit
open Ck (CE CS CF CP Mng)
attribute [local go_sem ↓] Go.wp_at_zero Go.wp_at_succ
def Q1(w:World)(r:Ck.R CP)(e:Ending)(w':World):Prop:=
 match r with
 | .inl c=>(∃ss fs,e=.returned (.tuple #[.agg #[iv c.version,ss,fs],iv 0,iv 0])/\Hm (From w.heap.size) w' c (.agg #[iv c.version,ss,fs]))/\Below w.heap.size w w'
 | .inr (a,er)=>e=.returned (.tuple #[Mn,iv a,iv er])/\Below w.heap.size w w'
theorem Ip{p:Px.Pr}{B:AS}(bt:E2 B w p v)(hw:Px.WfP VW p)(hc:(Px.prT p).length<=4096)(he:Env8 w) :
  AA 10 #[v] w λ e w'=>Q1 w (Ck.check p) e w':=by
 obtain⟨c9,c6,rfl,aq,ak,ay,bg⟩:=bt;obtain⟨sa,sc,rfl,-,-⟩:=SlRow.val aq;obtain⟨fa,fc,rfl,-,-⟩:=ay.val;obtain⟨V,hV⟩:∃V:Int,Hid ((p.version:Int)=V):=⟨_,rfl⟩;rw[hV.out];have c8:∀(fn:Fn) (first cap:Array Value) (w:World),(Instr.makeFunc fn first cap).run prog w=.ok (.func fn first cap) w:=λ _ _ _ _=>rfl
 have c7:∀w:World,(Instr.makeMap 60 none).run prog w=.ok (.map (some w.heap.size)) (w.alloc (.map #[] 0)):=λ _=>rfl
 obtain⟨v1,b9⟩:∃v1,w.alloc (.cells #[iv V,.slice sa p.states.length sc,.slice fa p.fns.length fc] 26)=v1:=⟨_,rfl⟩;obtain⟨v2,bk⟩:∃v2,v1.alloc (.cells #[iv 0,sZ,sZ] 26)=v2:=⟨_,rfl⟩;obtain⟨v3,bn⟩:∃v3,v2.alloc (.cells #[iv 0] 3)=v3:=⟨_,rfl⟩;obtain⟨v4,ba⟩:∃v4,v3.alloc (.cells #[iv 0] 27)=v4:=⟨_,rfl⟩;obtain⟨v5,bf⟩:∃v5,v4.alloc (.map #[] 0)=v5:=⟨_,rfl⟩;obtain⟨v6,b8⟩:∃v6,v5.alloc (.cells #[iv 0,sZ,sZ,.map none,iv 0,sZ] 62)=v6:=⟨_,rfl⟩;obtain⟨v7,bo⟩:∃v7,(((((v6.setCell ⟨v5.heap.size,0,none⟩ (iv 0)).setCell ⟨v5.heap.size,1,none⟩ sZ).setCell ⟨v5.heap.size,2,none⟩ sZ).setCell ⟨v5.heap.size,3,none⟩ (.map (some v4.heap.size))).setCell ⟨v5.heap.size,4,none⟩ (iv 0)).setCell ⟨v5.heap.size,5,none⟩ sZ=v7:=⟨_,rfl⟩;have b1:Below w.heap.size w v1:=by rw[<-b9];exact (AF _ _).alloc (AD _) _
 have b2:Below v1.heap.size v1 v2:=by rw[<-bk];exact (AF _ _).alloc (AD _) _
 have b3:Below v2.heap.size v2 v3:=by rw[<-bn];exact (AF _ _).alloc (AD _) _
 have b4:Below v3.heap.size v3 v4:=by rw[<-ba];exact (AF _ _).alloc (AD _) _
 have b5:Below v4.heap.size v4 v5:=by rw[<-bf];exact (AF _ _).alloc (AD _) _
 have b6:Below v5.heap.size v5 v6:=by rw[<-b8];exact (AF _ _).alloc (AD _) _
 have b7:Below v5.heap.size v5 v7:=by
  rw[<-bo];exact (((((b6.setCell (p:=⟨v5.heap.size,0,none⟩) (AD _) _).setCell (p:=⟨v5.heap.size,1,none⟩) (AD _) _).setCell (p:=⟨v5.heap.size,2,none⟩) (AD _) _).setCell (p:=⟨v5.heap.size,3,none⟩) (AD _) _).setCell (p:=⟨v5.heap.size,4,none⟩) (AD _) _).setCell (p:=⟨v5.heap.size,5,none⟩) (AD _) _
 have x1:v1.heap[w.heap.size]?=some (.cells #[iv V,.slice sa p.states.length sc,.slice fa p.fns.length fc] 26 (0,0)):=by rw[<-b9];exact heap_new _ _
 have x2:v2.heap[v1.heap.size]?=some Cm:=by rw[<-bk];exact heap_new _ _
 have x3:v3.heap[v2.heap.size]?=some (Eu 0):=by rw[<-bn];exact heap_new _ _
 have x4:v4.heap[v3.heap.size]?=some (Ct 0):=by rw[<-ba];exact heap_new _ _
 have x5:v5.heap[v4.heap.size]?=some (.map #[] 0):=by rw[<-bf];exact heap_new _ _
 have x6:v6.heap[v5.heap.size]?=some (.cells #[iv 0,sZ,sZ,.map none,iv 0,sZ] 62 (0,0)):=by rw[<-b8];exact heap_new _ _
 have x7:v7.heap[v5.heap.size]?=some (.cells #[iv 0,sZ,sZ,.map (some v4.heap.size),iv 0,sZ] 62 (0,0)):=by rw[<-bo];simp[World.setCell,Array.getElem?_modify,x6]
 have l1:w.heap.size<v1.heap.size:=(AB x1).1;have l2:v1.heap.size<v2.heap.size:=(AB x2).1;have l3:v2.heap.size<v3.heap.size:=(AB x3).1;have l4:v3.heap.size<v4.heap.size:=(AB x4).1;have l5:v4.heap.size<v5.heap.size:=(AB x5).1;have l6:v5.heap.size<v6.heap.size:=(AB x6).1;have l7:v5.heap.size<v7.heap.size:=(AB x7).1;have au:Below v4.heap.size v4 v7:=b5.trans (b7.mono (by omega));have am:Below v3.heap.size v3 v7:=b4.trans (au.mono (by omega));have aw:Below v2.heap.size v2 v7:=b3.trans (am.mono (by omega));have ar:Below v1.heap.size v1 v7:=b2.trans (aw.mono (by omega));have a3:Below w.heap.size w v7:=b1.trans (ar.mono (by omega));have y1:=(ar.block _ l1).trans x1;have y2:=(aw.block _ l2).trans x2;have y3:=(am.block _ l3).trans x3;have y4:=(au.block _ l4).trans x4;have y5:Bb v7 v4.heap.size []:=⟨#[],0,(b7.block _ l5).trans x5,rfl⟩;have a4:∀k,k<w.heap.size->k<v7.heap.size->(k<v7.heap.size/\k≠v5.heap.size/\k≠v4.heap.size):=λ k h1 h2=>⟨h2,by omega,by omega⟩
 have a6:Ew (λ j=>j<v7.heap.size/\j≠v5.heap.size/\j≠v4.heap.size) v7 p.states (.slice sa p.states.length sc):=BD (SlRow.since (BD aq (B':=λ j=>j<w.heap.size) (λ j _ hl=>hl)) (Since.of_below a3)) a4;have a5:Gc (λ j=>j<v7.heap.size/\j≠v5.heap.size/\j≠v4.heap.size) v7 p.fns (.slice fa p.fns.length fc):=by
  have h1:Gc (λ j=>j<w.heap.size) v7 p.fns (.slice fa p.fns.length fc):=⟨ak,(ay.base' (λ j _ hl=>hl)).since (Since.of_below a3),bg.old.since (Since.of_below a3)⟩;exact M2 h1 (λ j hj=>⟨by omega,by omega,by omega⟩)
 have hP:=Qx (V:=V) hV x7 y5 (by omega) a6 a5 hw hc (he.below a3) (As8 hw hc);obtain⟨R,HR⟩:∃R,Hid (Ck.check p=R):=⟨_,rfl⟩;rw[HR.out] at hP ⊢;obtain⟨p0,p1,p2,-⟩:=Af y1;obtain⟨q0,q1,q2,q3,q4,q5,f0,f1,f2,f3,f4,f5⟩:=Bh x6;have c5:w.heap.size<v7.heap.size:=by omega
 clear aq ay bg hw hc he a6 a5 b1 b2 b3 b4 b5 b6 b7 au am aw ar x1 x2 x3 x4 x5 x6 y1 y5 a4
 go_enter_defers func10,ntmps10
 go_wp2_with fail
 refine hP.mono ?_;rintro e w8 hQ;clear hP p0 p1 p2 q0 q1 q2 q3 q4 q5 f0 f1 f2 f3 f4 f5;rcases R with c | ⟨a,er⟩
 .obtain⟨rfl,ss,fs,num,lv,b0,az,al,a7,a0⟩:=hQ;obtain⟨s1,s2,rfl,-,-⟩:=SlRow.val az;have ax:=al;obtain⟨bw,bq,-⟩:=ax;obtain⟨f1,f2,rfl,-,-⟩:=bq.val;have br:=a0.size;have g2:=(a0.block v1.heap.size (by omega) (by rintro (e | e) <;> omega)).trans y2;have g3:=(a0.block v2.heap.size (by omega) (by rintro (e | e) <;> omega)).trans y3;have g4:=(a0.block v3.heap.size (by omega) (by rintro (e | e) <;> omega)).trans y4;have ah:Below w.heap.size w w8:=a3.trans (a0.below (n:=w.heap.size) (by omega) (λ j e=>by rcases e with e | e <;> omega));obtain⟨c0,c1,c2,-⟩:=Bh b0;obtain⟨x0,x1,x2,k0,k1,k2⟩:=Af g2;obtain⟨wa,aj⟩:∃wa,w3 w8 v1.heap.size (iv V) (.slice s1 c.states.length s2) (.slice f1 c.fns.length f2)=wa:=⟨_,rfl⟩;have ha:wa.heap[v1.heap.size]?=some (.cells #[iv V,.slice s1 c.states.length s2,.slice f1 c.fns.length f2] 26 (0,0)):=by rw[<-aj];exact Lp g2 _ _ _
  have ai:∀k,k≠v1.heap.size->wa.heap[k]?=w8.heap[k]?:=λ k hk=>by rw[<-aj];exact Di hk _ _ _
  have bj:Below w.heap.size w wa:=by rw[<-aj];exact Ee ah (by omega) _ _ _
  have bs:wa.heap.size=w8.heap.size:=by rw[<-aj];exact G3 _ _ _ _ _
  have bv:w8.heap.size<=wa.heap.size:=by omega
  have af:=(ai _ (by omega)).trans g3;have be:=(ai _ (by omega)).trans g4;obtain⟨wb,ad⟩:∃wb,wa.setCell ⟨v2.heap.size,0,none⟩ (iv 0)=wb:=⟨_,rfl⟩;have aa:∀k,k≠v2.heap.size->wb.heap[k]?=wa.heap[k]?:=λ k hk=>by rw[<-ad];exact AG _ _ _ _ hk
  have bh:wb.heap[v2.heap.size]?=some (Eu 0):=by rw[<-ad];simp[World.setCell,Array.getElem?_modify,af]
  have bp:Below w.heap.size w wb:=by rw[<-ad];exact bj.setCell (p:=⟨v2.heap.size,0,none⟩) (by show w.heap.size<=v2.heap.size;omega) _
  have bu:wa.heap.size<=wb.heap.size:=by rw[<-ad];simp[World.setCell]
  have ae:=(aa _ (by omega)).trans be;obtain⟨wc,ag⟩:∃wc,wb.setCell ⟨v3.heap.size,0,none⟩ (iv 0)=wc:=⟨_,rfl⟩;have a9:∀k,k≠v3.heap.size->wc.heap[k]?=wb.heap[k]?:=λ k hk=>by rw[<-ag];exact AG _ _ _ _ hk
  have bc:wc.heap[v3.heap.size]?=some (Ct 0):=by rw[<-ag];simp[World.setCell,Array.getElem?_modify,ae]
  have bb:Below w.heap.size w wc:=by rw[<-ag];exact bp.setCell (p:=⟨v3.heap.size,0,none⟩) (by show w.heap.size<=v3.heap.size;omega) _
  have bx:wb.heap.size<=wc.heap.size:=by rw[<-ag];simp[World.setCell]
  have bi:=(a9 v2.heap.size (by omega)).trans bh;have bd:=(a9 v1.heap.size (by omega)).trans ((aa v1.heap.size (by omega)).trans ha);have ab:Since (From v7.heap.size) w8 wc:=⟨by omega,λ j hj hl=>by
   have hj:v7.heap.size<=j:=hj;exact (a9 j (by omega)).trans ((aa j (by omega)).trans (ai j (by omega)))⟩
  have a4:∀{wx:World} j,From v7.heap.size j->j<wx.heap.size->From w.heap.size j:=λ {wx} j hj _=>by have:v7.heap.size<=j:=hj;show w.heap.size<=j;omega
  have a8:Hid (Q1 w (.inl c) (.returned (.tuple #[.agg #[iv V,.slice s1 c.states.length s2,.slice f1 c.fns.length f2],iv 0,iv 0])) wc):=by
   refine⟨⟨_,_,by rw[a7],_,_,rfl,BD (SlRow.since az ab) a4,?_⟩,bb⟩;obtain⟨row,h1,h2⟩:=al;exact⟨row,(h1.since ab).base' a4,(h2.since ab).base a4⟩
  have i1:=cell_of_one af;have j1:=free_of_one af;have i2:=cell_of_one ae;have j2:=free_of_one ae;have ca:v1.heap.size<w8.heap.size:=by omega
  have c4:v2.heap.size<wa.heap.size:=by omega
  have cc:v3.heap.size<wb.heap.size:=by omega
  have c3:v5.heap.size<w8.heap.size:=by omega
  have u1:=cell_of_one bi;have u2:=cell_of_one bc;obtain⟨r0,r1,r2,-⟩:=Af bd;have t0:v1.heap.size<wc.heap.size:=by omega
  have t1:v2.heap.size<wc.heap.size:=by omega
  have t2:v3.heap.size<wc.heap.size:=by omega
  clear bs az al a0 b0 g2 g3 g4 ha ai bj af be aa bh bp ae a9 bc bb bi bd ab a4 ah bq a7 HR x7 y2 y3 y4 a3;go_wp2;refine leaves_cons (f:=22) (args:=#[pt v1.heap.size 0,pt v2.heap.size 0,pt v3.heap.size 0]) (by simp) (by simp[go_sem]) ?_;refine (Tr _ _ _ _).mono ?_;rintro e u' w'' ⟨rfl,rfl,rfl⟩;simp[Leaves,settle,results,results10,go_sem,u1,u2,r0,r1,r2];exact a8.out
 .obtain⟨rfl,a0⟩:=hQ;have br:=a0.size;have g2:=(a0.block v1.heap.size (by omega) (by rintro (e | e) <;> omega)).trans y2;have g3:=(a0.block v2.heap.size (by omega) (by rintro (e | e) <;> omega)).trans y3;have g4:=(a0.block v3.heap.size (by omega) (by rintro (e | e) <;> omega)).trans y4;have ah:Below w.heap.size w w8:=a3.trans (a0.below (n:=w.heap.size) (by omega) (λ j e=>by rcases e with e | e <;> omega));clear a0 HR x7 y2 y3 y4 a3;refine leaves_cons (f:=22) (args:=#[pt v1.heap.size 0,pt v2.heap.size 0,pt v3.heap.size 0]) (by simp) (by simp[go_sem]) ?_;refine (Ni v1.heap.size v2.heap.size v3.heap.size a er 0 0 (by omega) (by omega) [] _ g2 g3 g4).mono ?_;rintro e u' w'' ⟨rfl,rfl,r1,r2,r3,bl⟩;have av:Below w.heap.size w w'':=ah.trans (bl.mono (by omega));have u1:=cell_of_one r2;have u2:=cell_of_one r3;obtain⟨z0,z1,z2,_⟩:=Af r1;clear r1 r2 r3 bl;simp[Leaves,settle,results,results10,go_sem,u1,u2,z0,z1,z2];exact⟨rfl,av⟩
end
section
open Go.RowKit
open Px (WfP prT)
open Ck (CE CS CF CP)
theorem Zm(w:World)(x0 x1 x2:Value):∃wz wf,w.alloc (.cells #[iv 0,sZ,sZ] 26)=wz/\w3 wz w.heap.size x0 x1 x2=wf/\w.heap.size<wz.heap.size/\w.heap.size<wf.heap.size/\Below w.heap.size w wf/\wz.heap[w.heap.size]?=some (.cells #[iv 0,sZ,sZ] 26 (0,0))/\wf.heap[w.heap.size]?=some (.cells #[x0,x1,x2] 26 (0,0)):=by
 have h:=heap_new w (.cells #[iv 0,sZ,sZ] 26);have hb:Below w.heap.size w (w.alloc (.cells #[iv 0,sZ,sZ] 26)):=(AF _ _).alloc (AD _) _;have hl:=(AB h).1;exact⟨_,_,rfl,rfl,hl,by rw[G3];exact hl,Ee hb (AD _) _ _ _,h,Lp h _ _ _⟩
def O6:List UInt8:=[118,101,114,115,105,111,110,32,49,59,32,115,116,97,116,101,32,110,58,32,105,110,116,59,32,111,110,32,97,100,100,40,120,58,32,105,110,116,41,58,32,105,110,116,32,123,32,115,101,116,32,110,32,61,32,110,32,43,32,120,59,32,114,101,116,32,110,59,32,125]
def wkE:CE->Bool
 | .mk k o n t s y args=>k == 15 && (match args with
  | [.mk ka _ _ _ _ _ _,.mk kb _ _ _ _ _ _]=>ka == 5 && kb == 4
  | _=>false)
def wkS:CS->Bool
 | .mk k s f n es b c=>f && s == 0 && (match es with
  | [e]=>wkE e
  | _=>false)
def wkC(c:CP):Bool:=match c.fns with
 | [f]=>(match f.body with
  | [a,_]=>wkS a
  | _=>false)
 | _=>false
def Bc1:Bool:=match Px.parse O6 with
 | .inl p=>(match Ck.check p with
  | .inl c=>wkC c
  | .inr _=>false)
 | .inr _=>false
theorem Zn:Bc1=true:=by kernel_rfl
theorem V3:∃p c,Px.parse O6=.inl p/\Ck.check p=.inl c/\∃(f:CF) (k n:Nat) (o m sl:Nat) (t y:AQ) (oa na sa ob nb sb:Nat) (ta ya tb yb:AQ) (xa xb:List CE) (b1 c1:List CS) (s2:CS),c.fns=[f]/\f.body=[.mk k 0 true n [.mk 15 o m t sl y [.mk 5 oa na ta sa ya xa,.mk 4 ob nb tb sb yb xb]] b1 c1,s2]:=by
 have h:=Zn;unfold Bc1 at h;rcases hp:Px.parse O6 with p | x
 .rw[hp] at h;rcases hc:Ck.check p with c | x
  .simp only[hc] at h;unfold wkC at h;split at h
   .rename_i f hf;split at h
    .rename_i a s2 hb;obtain⟨k,s,fl,n,es,b1,c1⟩:=a;simp only[wkS,Bool.and_eq_true,beq_iff_eq] at h;obtain⟨⟨rfl,rfl⟩,h⟩:=h;split at h
     .rename_i e;obtain⟨ke,o,m,t,sl,y,args⟩:=e;simp only[wkE,Bool.and_eq_true,beq_iff_eq] at h;obtain⟨rfl,h⟩:=h;split at h
      .rename_i ka oa na ta sa ya xa kb ob nb tb sb yb xb;simp only[Bool.and_eq_true,beq_iff_eq] at h;obtain⟨rfl,rfl⟩:=h;exact⟨p,c,rfl,hc,f,k,n,o,m,sl,t,y,oa,na,sa,ob,nb,sb,ta,ya,tb,yb,xa,xb,b1,c1,s2,hf,hb⟩
      .cases h
     .cases h
    .cases h
   .cases h
  .simp only[hc] at h;cases h
 .rw[hp] at h;cases h
theorem V4{B:AS}{c:CP}(hx:Hm B w c (.agg #[iv c.version,ss,fs])){f:CF}{k n:Nat}{o sl:Nat}{t y:AQ}{oa na sa ob nb sb:Nat}{ta ya tb yb:AQ}{xa xb:List CE}{b1 c1:List CS}{s2:CS}(hf:c.fns=[f])(hb:f.body=[.mk k 0 true n [.mk 15 o m t sl y [.mk 5 oa na ta sa ya xa,.mk 4 ob nb tb sb yb xb]] b1 c1,s2]) :
  ∃(s1:Option Addr) (sn sc:Nat) (g1 o1 a0 g2 o2 c2 g3 o3 c3 g4 o4 c4:Nat) (p2 q2:Option Addr) (l2 l3 d2 d3:Nat),ss=.slice s1 sn sc/\fs=sL g1 o1 1 a0/\(g1<w.heap.size/\g2<w.heap.size/\g3<w.heap.size/\g4<w.heap.size)/\w.cell? ⟨g1,o1+5,none⟩=some (sL g2 o2 2 c2) /\
   (w.cell? ⟨g2,o2,none⟩=some (iv k)/\w.cell? ⟨g2,o2+1,none⟩=some sE/\w.cell? ⟨g2,o2+2,none⟩=some (iv 0)/\w.cell? ⟨g2,o2+3,none⟩=some (.bool true)/\w.cell? ⟨g2,o2+4,none⟩=some (iv n)/\w.cell? ⟨g2,o2+5,none⟩=some (sL g3 o3 1 c3)/\w.cell? ⟨g2,o2+6,none⟩=some (.slice p2 l2 d2)/\w.cell? ⟨g2,o2+7,none⟩=some (.slice q2 l3 d3)/\w.cell? ⟨g2,o2+8,none⟩=some (iv 0)) /\
   w.cell? ⟨g3,o3,none⟩=some (iv 15)/\w.cell? ⟨g3,o3+6,none⟩=some (sL g4 o4 2 c4)/\w.cell? ⟨g4,o4,none⟩=some (iv 5)/\w.cell? ⟨g4,o4+8,none⟩=some (iv 4):=by
 obtain⟨af,ad,he,h1,a5,h2,h3⟩:=hx;simp only[Value.agg.injEq,Array.mk.injEq,List.cons.injEq,and_true,true_and] at he;obtain⟨rfl,rfl⟩:=he;obtain⟨s1,sc,rfl,-,-⟩:=SlRow.val h1;rw[hf] at h2 h3;obtain⟨g1,o1,a0,rfl,-,-,-,a7,e1⟩:=h2.cells (by simp);obtain⟨cs,⟨ps,ls,bs,rfl,-,-,a9,h4,h5⟩,k1⟩:=h3.at (i:=0) rfl;rw[hb] at h4 h5;obtain⟨g2,o2,c2,rfl,-,-,-,ab,e2⟩:=h4.cells (by simp);obtain⟨r1,r2,rfl,h6,-⟩:=h5;rw[C0] at h6;obtain⟨x1,x2,x3,q1,ah,q3,rfl,m1,m2,m3,-,m5,-⟩:=h6;obtain⟨g3,o3,c3,rfl,-,-,-,a6,e3⟩:=m1.cells (by simp);obtain⟨p2,d2,rfl,-,-⟩:=m3.val;obtain⟨q2,d3,rfl,-,-⟩:=m5.val;obtain⟨y1,y2,rfl,n1,-⟩:=m2;rw[Cu] at n1;obtain⟨z1,zr,rfl,i1,i2⟩:=n1;obtain⟨g4,o4,c4,rfl,-,-,-,aa,e4⟩:=i1.cells (by simp);obtain⟨a1,a2,rfl,j1,j2⟩:=i2;obtain⟨a3,a4,rfl,j3,-⟩:=j2;rw[Cu] at j1 j3;obtain⟨z2,ag,rfl,-,-⟩:=j1;obtain⟨z3,ae,rfl,-,-⟩:=j3;have a8:=e1 5 _ (by have:=k1 5 (by omega);simpa using this);refine⟨s1,_,sc,g1,o1,a0,g2,o2,c2,g3,o3,c3,g4,o4,c4,p2,q2,_,_,d2,d3,rfl,rfl,⟨a7,ab,a6,aa⟩,a8,⟨e2 0 _ rfl,e2 1 _ rfl,e2 2 _ rfl,e2 3 _ rfl,e2 4 _ rfl,e2 5 _ rfl,e2 6 _ rfl,e2 7 _ rfl,e2 8 _ rfl⟩,e3 0 _ rfl,e3 6 _ rfl,e4 0 _ rfl,e4 8 _ rfl⟩
theorem Ts(w:World)(he:Env8 w):AA 8 #[] w λ e w'=>e=.returned (.bool true)/\Below w.heap.size w w':=by
 obtain⟨p,c,hp,al,f,k,n,o,m,sl,t,y,oa,na,sa,ob,nb,sb,ta,ya,tb,yb,xa,xb,b1,c1,s2,hf,hb⟩:=V3;have hL:=Ic ⟨O6.toArray⟩ w he.env (by show O6.toArray.size<=maxLen;unfold maxLen;decide);simp only[toList_toArray] at hL;rw[hp] at hL;replace hL:AA 9 #[.string ⟨O6.toArray⟩] w λ e w'=>(∃v,e=.returned (.tuple #[v,iv 0,iv 0])/\E2 (From w.heap.size) w' p v)/\Below w.heap.size w w':=hL
 obtain⟨hw,hc⟩:=Qm hp;go_enter func8,ntmps8;go_wp2_with fail;refine hL.mono ?_;rintro e w2 ⟨⟨v,rfl,hx⟩,ab⟩;obtain⟨b3,b7,aw,b6,b5,b4,hv⟩:=hx.cells;subst hv;have aq:=he.below ab;obtain⟨wz,wf,ay,b0,lz,lf,aa,xz,xf⟩:=Zm w2 (iv p.version) (.slice b3 b7 aw) (.slice b6 b5 b4);have hC:=Ip (hx.since (Since.of_below aa)) hw hc (aq.below aa);rw[al] at hC;have ah:=ab.trans (aa.mono ab.size);obtain⟨z0,z1,z2,m0,m1,m2⟩:=Af xz;obtain⟨q0,q1,q2,-⟩:=Af xf;clear hL hx aa aq hp al xz xf;go_wp2_with fail;refine hC.mono ?_;rintro e w4 ⟨⟨ss,fs,rfl,au⟩,ar⟩;clear hC z0 z1 z2 m0 m1 m2 q0 q1 q2 ay b0;obtain⟨s1,sn,sc,g1,o1,d1,g2,o2,d2,g3,o3,d3,g4,o4,d4,p2,r2,l2,l3,h2,h3,rfl,rfl,⟨am,a9,ag,af⟩,u0,⟨a0,a1,a2,a3,a4,a5,a6,a7,a8⟩,e0,e6,v0,v8⟩:=V4 au hf hb;have ai:=ah.trans (ar.mono ah.size);obtain⟨wy,wg,bb,bi,ly,lg,ad,xy,xg⟩:=Zm w4 (iv c.version) (.slice s1 sn sc) (sL g1 o1 1 d1);obtain⟨z0,z1,z2,m0,m1,m2⟩:=Af xy;obtain⟨q0,q1,q2,-⟩:=Af xg;obtain⟨bc,-⟩:=bcell ad;replace u0:=(bc _ _ am).trans u0;replace a0:=(bc _ _ a9).trans a0;replace a1:=(bc _ _ a9).trans a1;replace a2:=(bc _ _ a9).trans a2;replace a3:=(bc _ _ a9).trans a3;replace a4:=(bc _ _ a9).trans a4;replace a5:=(bc _ _ a9).trans a5;replace a6:=(bc _ _ a9).trans a6;replace a7:=(bc _ _ a9).trans a7;replace a8:=(bc _ _ a9).trans a8;replace e0:=(bc _ _ ag).trans e0;replace e6:=(bc _ _ ag).trans e6;replace v0:=(bc _ _ af).trans v0;replace v8:=(bc _ _ af).trans v8
 have az:=ad.size;have aj:=ai.trans (ad.mono ai.size);have k1:g1<wg.heap.size:=by omega
 have k2:g2<wg.heap.size:=by omega
 have k3:g3<wg.heap.size:=by omega
 have k4:g4<wg.heap.size:=by omega
 obtain⟨wx,wh,be,ba,ae,b8,b9,ax,xh,xx⟩:=J7 wg (iv k) sE (iv 0) (.bool true) (iv n) (sL g3 o3 1 d3) (.slice p2 l2 h2) (.slice r2 l3 h3) (iv 0);have lx:wg.heap.size<wx.heap.size:=by omega
 have lh:wg.heap.size<wh.heap.size:=by omega
 obtain⟨bd,-⟩:=bcell ae;have bg:=(bd _ _ k3).trans e0;have bh:=(bd _ _ k3).trans e6;have bk:=(bd _ _ k4).trans v0;have bl:=(bd _ _ k4).trans v8;obtain⟨y0,y1,y2,y3,y4,y5,y6,y7,y8,j0,j1,j2,j3,j4,j5,j6,j7,j8⟩:=Aj xx;obtain⟨i0,i1,i2,i3,i4,i5,i6,i7,i8,-⟩:=Aj xh;have av:=ae.size;have bf:g3<wh.heap.size:=by omega
 have bj:g4<wh.heap.size:=by omega
 have ak:=aj.trans (ae.mono aj.size);clear b8 b9 bc bd au ar ah ai ad ae aj ab xy xg xh xx ax hf hb am a9 ag af av az;go_wp2_with fail;go_ret;exact⟨rfl,ak⟩
theorem V9{p q:Px.Pr}(h:p.er=q.er):(∃c,Ck.check p=.inl c/\Ck.check q=.inl c)\/∃a b er,Ck.check p=.inr (a,er)/\Ck.check q=.inr (b,er):=by
 have hs:=Ck.check_same h;rcases h1:Ck.check p with c | ⟨a,er⟩ <;> rcases h2:Ck.check q with d | ⟨b,a0⟩ <;> rw[h1,h2] at hs
 .exact AI ⟨c,rfl,by rw[show c=d from hs]⟩
 .exact hs.elim
 .exact hs.elim
 .exact AJ ⟨a,b,er,rfl,by rw[show er=a0 from hs]⟩
theorem Az2{B:AS}:Hm B w ⟨0,[],[]⟩ Mn:=⟨sZ,sZ,rfl,⟨rfl,AI ⟨rfl,rfl⟩⟩,[],⟨rfl,AI ⟨rfl,rfl⟩⟩,rfl⟩
theorem Hm.since{B:AS}(s:Since B w w'){c:CP}(h:Hm B w c v):Hm B w' c v:=by
 obtain⟨ss,fs,e,h1,row,h2,h3⟩:=h;exact⟨ss,fs,e,SlRow.since h1 s,row,h2.since s,h3.since s⟩
theorem Hm.any{B:AS}{c:CP}(h:Hm B w c v):Hm (λ _=>True) w c v:=by
 obtain⟨ss,fs,e,h1,row,h2,h3⟩:=h;exact⟨ss,fs,e,BD h1 (λ _ _ _=>trivial),row,h2.base' (λ _ _ _=>trivial),h3.base (λ _ _ _=>trivial)⟩
def Bc5(w':World)(r:Ck.R CP)(V at_ er:Int)(sa fa:Option Addr)(sn sc fn fc:Nat):Prop:=
 match r with
 | .inl c=>Hm (λ _=>True) w' c (.agg #[iv V,.slice sa sn sc,.slice fa fn fc])/\er=0/\at_=0/\V=c.version/\sn=c.states.length/\fn=c.fns.length
 | .inr (a,x)=>Hm (λ _=>True) w' ⟨0,[],[]⟩ (.agg #[iv V,.slice sa sn sc,.slice fa fn fc])/\er=x/\at_=a/\V=0/\sn=0/\fn=0
theorem Pb{r:Ck.R CP}{e:Ending}(h:Q1 w r e w'):∃(V at_ er:Int) (sa fa:Option Addr) (sn sc fn fc:Nat),e=.returned (.tuple #[.agg #[iv V,.slice sa sn sc,.slice fa fn fc],iv at_,iv er])/\Below w.heap.size w w'/\Bc5 w' r V at_ er sa fa sn sc fn fc:=by
 rcases r with c | ⟨a,x⟩
 .obtain⟨⟨ss,fs,rfl,hx⟩,hb⟩:=h;obtain⟨a3,a0,he,h1,row,h2,h3⟩:=hx;simp only[Value.agg.injEq,Array.mk.injEq,List.cons.injEq,and_true,true_and] at he;obtain⟨rfl,rfl⟩:=he;obtain⟨sa,sc,rfl,-,-⟩:=SlRow.val h1;obtain⟨fa,fc,rfl,-,-⟩:=h2.val;exact⟨_,_,_,sa,fa,_,sc,_,fc,rfl,hb,Hm.any ⟨_,_,rfl,h1,row,h2,h3⟩,rfl,rfl,rfl,rfl,rfl⟩
 .obtain⟨rfl,hb⟩:=h;exact⟨0,a,x,none,none,0,0,0,0,rfl,hb,Az2,rfl,rfl,rfl,rfl,rfl⟩
theorem Zo{l:AQ}{a er:Nat}(h:Px.parse l=.inr (a,er)):er≠0:=by
 rcases parse_bad_cases h with h | ⟨ts,h1,h2⟩
 .exact h.2.1
 .omega
theorem tshown_walk(s:ByteArray)(w:World)(he:Env8 w)(hm:s.size<=maxLen):AA 7 #[.string s] w λ e w'=>e=.returned (.bool true)/\Below w.heap.size w w':=by
 have b8:=Ts w he;go_enter func7,ntmps7;go_wp2_with fail;refine b8.mono ?_;rintro e w1 ⟨rfl,aa⟩;have b0:=he.below aa;clear b8;have hL:=Ic s w1 b0.env hm;rcases hpr:Px.parse s.data.toList with p | ⟨a,er⟩
 rotate_left
 .rw[hpr] at hL;replace hL:AA 9 #[.string s] w1 λ e w'=>e=.returned (.tuple #[Mn,iv a,iv er])/\Below w1.heap.size w1 w':=hL
  have al:er≠0:=Zo hpr;have c0:((er:Int) != 0)=true:=by simp;omega
  go_wp2_with fail
  refine hL.mono ?_;rintro e w2 ⟨rfl,aj⟩;have a9:=aa.trans (aj.mono aa.size);go_wp2;go_ret;exact⟨rfl,a9.alloc a9.size _⟩
 rw[hpr] at hL;replace hL:AA 9 #[.string s] w1 λ e w'=>(∃v,e=.returned (.tuple #[v,iv 0,iv 0])/\E2 (From w1.heap.size) w' p v)/\Below w1.heap.size w1 w':=hL
 obtain⟨hw,hc⟩:=Qm hpr;go_wp2_with fail;refine hL.mono ?_;rintro e w2 ⟨⟨v,rfl,ah⟩,aj⟩;obtain⟨sa,sn,sc,fa,fn,fc,hv⟩:=ah.cells;subst hv;have a9:Below w.heap.size w w2:=aa.trans (aj.mono aa.size);obtain⟨wz,wf,bp,br,lz,lf,b4,xz,xf⟩:=Zm w2 (iv p.version) (.slice sa sn sc) (.slice fa fn fc);have ai:=a9.trans (b4.mono a9.size);have hx:=(ah.since (Since.of_below b4)).base (B':=λ _=>True) (λ _ _=>trivial);have hC:=Ot hw hc (he.below ai) hx;obtain⟨z0,z1,z2,m0,m1,m2⟩:=Af xz;obtain⟨q0,q1,q2,-⟩:=Af xf;clear hL ah xz;go_wp2_with fail;refine hC.mono ?_;rintro e w4 ⟨rfl,af⟩;clear hC z0 z1 z2 m0 m1 m2 q0 q1 q2 bp br;have ad:=ai.trans (af.mono ai.size);by_cases hl:16384<(prS p).length
 .rw[show shT p=([],3) by unfold shT;rw[if_pos hl]];go_wp2;go_ret;exact⟨rfl,ad⟩
 rw[show shT p=(prS p,0) by unfold shT;rw[if_neg hl]];obtain⟨us,q,-,-,hq,al⟩:=Ur hw hc (by omega);obtain⟨bb,b6⟩:=Qm hq;have a8:=Ic ⟨(prS p).toArray⟩ w4 (he.below ad).env (by show (prS p).toArray.size<=maxLen;unfold maxLen;simp;omega);simp only[toList_toArray] at a8;rw[hq] at a8;replace a8:AA 9 #[.string ⟨(prS p).toArray⟩] w4 λ e w'=>(∃v,e=.returned (.tuple #[v,iv 0,iv 0])/\E2 (From w4.heap.size) w' q v)/\Below w4.heap.size w4 w':=a8
 have az:=hx.since (Since.of_below af);have ba:=(af.block _ lf).trans xf;have cc:=af.size;have bu:w2.heap.size<w4.heap.size:=by omega
 have h2:=V9 al.symm;clear al hpr hq hx hl;go_wp2_with fail;refine a8.mono ?_;rintro e w5 ⟨⟨v,rfl,ag⟩,av⟩;clear a8;obtain⟨ta,tn,tc,ga,gn,gc,hv⟩:=ag.cells;subst hv;have b7:=ad.trans (av.mono ad.size);obtain⟨wy,wg,bn,bt,ly,lg,am,xy,xg⟩:=Zm w5 (iv q.version) (.slice ta tn tc) (.slice ga gn gc);have ak:=b7.trans (am.mono b7.size);have bo:=av.size;have a7:Below w4.heap.size w4 wg:=av.trans (am.mono bo);have bs:=az.since (Since.of_below a7);have bh:=(ag.since (Since.of_below am)).base (B':=λ _=>True) (λ _ _=>trivial);have be:=(a7.block _ bu).trans ba;have b3:=Ip bs hw hc (he.below ak);obtain⟨z0,z1,z2,m0,m1,m2⟩:=Af xy;obtain⟨q0,q1,q2,-⟩:=Af be;have c5:w2.heap.size<wg.heap.size:=by have:=a7.size;omega
 clear ag az xy ba;go_wp2_with fail;refine b3.mono ?_;rintro e w7 a4;obtain⟨V1,cd,aw,s1,f1,n1,c1,n2,c2,rfl,bf,a4⟩:=Pb a4;clear b3 z0 z1 z2 m0 m1 m2 q0 q1 q2 bn bt;obtain⟨wx,wh,bq,bk,lx,lh,ae,xx,xh⟩:=Zm w7 (iv V1) (.slice s1 n1 c1) (.slice f1 n2 c2);have bv:=bf.size;have a5:Below wg.heap.size wg wh:=bf.trans (ae.mono bv);have bj:=bh.since (Since.of_below a5);have bl:=(a5.block _ lg).trans xg;have au:=ak.trans (a5.mono ak.size);have bc:=Ip bj bb b6 (he.below au);obtain⟨z0,z1,z2,m0,m1,m2⟩:=Af xx;obtain⟨q0,q1,q2,-⟩:=Af bl;have c6:w5.heap.size<wh.heap.size:=by have:=a5.size;omega
 clear bh xx be xf;go_wp2_with fail;refine bc.mono ?_;rintro e w9 a3;obtain⟨V2,c7,bi,s2,f2,n3,c3,n4,c4,rfl,b5,a3⟩:=Pb a3;clear bc z0 z1 z2 m0 m1 m2 q0 q1 q2 bq bk;obtain⟨wv,wi,ca,c8,lv,li,ab,xv,xi⟩:=Zm w9 (iv V2) (.slice s2 n3 c3) (.slice f2 n4 c4);have bx:=b5.size;have a0:Below wh.heap.size wh wi:=b5.trans (ab.mono bx);have a6:Below w7.heap.size w7 wi:=ae.trans (a0.mono ae.size);have bd:=(a0.block _ lh).trans xh;have bg:=au.trans (a0.mono au.size);obtain⟨z0,z1,z2,m0,m1,m2⟩:=Af xv;obtain⟨q0,q1,q2,-⟩:=Af bd;obtain⟨p0,p1,p2,-⟩:=Af xi;have ce:w7.heap.size<wi.heap.size:=by have:=a0.size;omega
 have ax:aw=bi/\∃c,Hm (λ _=>True) wi c (.agg #[iv V1,.slice s1 n1 c1,.slice f1 n2 c2])/\Hm (λ _=>True) wi c (.agg #[iv V2,.slice s2 n3 c3,.slice f2 n4 c4]):=by
  rcases h2 with⟨c,e1,e2⟩ | ⟨a,b,er,e1,e2⟩
  .rw[e1] at a4;rw[e2] at a3;exact⟨a4.2.1.trans a3.2.1.symm,c,a4.1.since (Since.of_below a6),a3.1.since (Since.of_below ab)⟩
  .rw[e1] at a4;rw[e2] at a3;exact⟨a4.2.1.trans a3.2.1.symm,_,a4.1.since (Since.of_below a6),a3.1.since (Since.of_below ab)⟩
 obtain⟨rfl,c,ay,b9⟩:=ax;have bw:=V8 c _ _ _ wi ay b9;have c9:(aw == aw)=true:=by simp
 clear a4 a3 h2 ay b9 xv xi bd ae ab a6 a0 xh hw hc bb b6 b0;go_wp2_with fail;refine bw.mono ?_;rintro e w10 ⟨rfl,ar⟩;have aq:=bg.trans (ar.mono bg.size);go_wp2_with fail;go_ret;exact⟨rfl,aq⟩
end
end Go.Proofs.YtpckmjfabiallaaGreatDoor
