/- Texts of ours, joined. -/
import Derived.Test.YtpckmjfabiallaaGreatDoorH26
import Derived.Test.YtpckmjfabiallaaGreatDoorH23
set_option linter.unusedVariables false
set_option linter.unusedSimpArgs false
set_option maxRecDepth 100000
set_option maxHeartbeats 16000000
namespace Go.Proofs.YtpckmjfabiallaaGreatDoor
variable{fs ss v:Value}{m:Nat}{w w':World}
open List
open _root_.Go.Proofs.Tryz
section
open Go.RowKit
open Px (Ex St Sl WfE WfS Cg Kd WfF WfP Ly prT Ni He Rr Fx)
mutual
theorem Ae6:∀e:Ex,WfE VW e->Ni 4096 e->ShE e
 | .mk k o n t args p,hw,hl=>by
  rw[WfE] at hw;rw[Ni] at hl;obtain⟨hf,hs⟩:=hw;rw[ShE];refine⟨?_,V1 args hs hl.2⟩;rcases hf with⟨rfl,-⟩ | ⟨rfl,-⟩ | ⟨rfl,-,-,-,hv⟩ | ⟨rfl,-⟩ | ⟨rfl,-⟩ | ⟨rfl,-,-,-,h⟩ | ⟨hk,-,-,-,h⟩ | ⟨rfl,-,-,-,-,h⟩
  .exact AI rfl
  .exact AJ (AI rfl)
  .have:=K0 (Id hv);exact AJ (AJ (AI ⟨rfl,by omega⟩))
  .exact AJ (AJ (AJ (AI rfl)))
  .exact AJ (AJ (AJ (AJ (AI ⟨rfl,by omega⟩))))
  .exact AJ (AJ (AJ (AJ (AJ (AI ⟨rfl,h⟩)))))
  .rcases hk with rfl | rfl
   .exact AJ (AJ (AJ (AJ (AJ (AJ (AI ⟨rfl,h⟩))))))
   .exact AJ (AJ (AJ (AJ (AJ (AJ (AJ (AI ⟨rfl,h⟩)))))))
  .exact AJ (AJ (AJ (AJ (AJ (AJ (AJ (AJ ⟨rfl,h⟩)))))))
theorem V1:∀l:List Ex,Px.WfEs VW l->He 4096 l->K8 l
 | [],_,_=>by rw[K8];trivial
 | e :: r,hw,hl=>by
  rw[Px.WfEs] at hw;rw[He] at hl;rw[K8];exact⟨Ae6 e hw.1 hl.1,V1 r hw.2 hl.2⟩
end
theorem Rt:∀{l:List Ex},(∀e∈l,ShE e)->K8 l
 | [],_=>by rw[K8];trivial
 | e :: r,h=>by rw[K8];exact⟨h e (AC ..),Rt (λ x hx=>h x (AH _ hx))⟩
mutual
theorem Al1:∀s:St,WfS VW s->Rr 4096 s->ShS s/\LnS s
 | .mk k n es b c p,hw,hl=>by
  rw[WfS] at hw;rw[Rr] at hl;obtain⟨hf,he,hb,hc⟩:=hw;obtain⟨l1,l2,l3,l4,l5⟩:=hl;obtain⟨b1,b2⟩:=H6 b hb l4;obtain⟨c1,c2⟩:=H6 c hc l5;rw[ShS,LnS];refine⟨⟨?_,Rt (λ e h=>Ae6 e (he e h) (l1 e h)),b1,c1⟩,by omega,by omega,b2,c2⟩;rcases hf with⟨rfl,-,h,-⟩ | ⟨rfl,-,h,-⟩ | ⟨rfl,-,h,-⟩ | ⟨rfl,-,h⟩ | ⟨rfl,-,h,-⟩ | ⟨rfl,-,h,-⟩
  .exact AI ⟨rfl,h⟩
  .exact AJ (AI ⟨rfl,h⟩)
  .exact AJ (AJ (AI ⟨rfl,h⟩))
  .exact AJ (AJ (AJ (AI ⟨rfl,h⟩)))
  .exact AJ (AJ (AJ (AJ (AI ⟨rfl,h⟩))))
  .exact AJ (AJ (AJ (AJ (AJ ⟨rfl,h⟩))))
theorem H6:∀l:List St,Cg VW l->Fx 4096 l->Ha l/\L7 l
 | [],_,_=>by rw[Ha,L7];exact⟨trivial,trivial⟩
 | s :: r,hw,hl=>by
  rw[Cg] at hw;rw[Fx] at hl;obtain⟨a1,a2⟩:=Al1 s hw.1 hl.1;obtain⟨b1,b2⟩:=H6 r hw.2 hl.2;rw[Ha,L7];exact⟨⟨a1,b1⟩,a2,b2⟩
end
theorem Pd{t:Lx.B}(h:Ly VW t):t.length<=1000:=by have:=Gb (Ho h.2);omega
theorem Pe{y:AQ}(h:∃c,Px.Ty 4 y c):y.length<=1000:=by
 have hg:gType y=true:=by unfold gType;rw[if_pos (show Px.IsTy 4 y from h)]
 have:=Ep hg;omega
theorem Al2{p:Px.Pr}(h:WfP VW p)(hc:(prT p).length<=4096):PrSh p:=by
 obtain⟨-,hs,hf⟩:=h;have h1:=Px.ssT_le p.states;have h2:=Px.fsT_le p.fns;simp[prT] at hc;refine⟨by omega,by omega,λ s h=>⟨Pd (hs s h).1,Pe (hs s h).2⟩,λ f h=>?_,λ f h=>?_⟩
 .obtain⟨a1,a2,a3,a4,a5⟩:=hf f h;have h3:=Jq h;have h4:=Px.fnT_le f;exact⟨Pd a1,Pe a3,by omega,λ s hs=>⟨Pd (a2 s hs).1,Pe (a2 s hs).2⟩⟩
 .obtain⟨a1,a2,a3,a4,a5⟩:=hf f h;have h3:=Jq h;have h4:=Px.fnT_le f;have h5:=Px.stmles_of (N:=4096) f.body a4 (by omega);obtain⟨b1,b2⟩:=H6 f.body a4 h5;have h6:=(Px.stsT_le f.body).1;exact⟨b1,b2,by omega⟩
end
section
open Go.RowKit
open Ck (CE CS CF CP Mng)
mutual
theorem IsEx.old{B:AS}{w:World}:∀{e:Px.Ex} {cs:AR},IsEx B w e cs->IsEx (λ j=>j<w.heap.size) w e cs
 | .mk k o n t a p,cs,h=>by
  rw[IsEx] at h ⊢;obtain⟨sl,row,h1,h2,h3⟩:=h;exact⟨sl,row,h1,h2.base' (λ j _ hl=>hl),Aj.old h3⟩
theorem Aj.old{B:AS}{w:World}:∀{l:List Px.Ex} {cs:AR},Aj B w l cs->Aj (λ j=>j<w.heap.size) w l cs
 | [],cs,h=>by rw[Aj] at h ⊢;exact h
 | e :: r,cs,h=>by
  rw[Aj] at h ⊢;obtain⟨c1,c2,hc,h1,h2⟩:=h;exact⟨c1,c2,hc,IsEx.old h1,Aj.old h2⟩
end
mutual
theorem IsSt.old{B:AS}{w:World}:∀{e:Px.St} {cs:AR},IsSt B w e cs->IsSt (λ j=>j<w.heap.size) w e cs
 | .mk k n es b c p,cs,h=>by
  rw[IsSt] at h ⊢;obtain⟨s1,s2,s3,r1,r2,r3,hc,a1,a2,a3,a4,a5,a6⟩:=h;exact⟨s1,s2,s3,r1,r2,r3,hc,a1.base' (λ j _ hl=>hl),a2.old,a3.base' (λ j _ hl=>hl),As.old a4,a5.base' (λ j _ hl=>hl),As.old a6⟩
theorem As.old{B:AS}{w:World}:∀{l:List Px.St} {cs:AR},As B w l cs->As (λ j=>j<w.heap.size) w l cs
 | [],cs,h=>by rw[As] at h ⊢;exact h
 | e :: r,cs,h=>by
  rw[As] at h ⊢;obtain⟨c1,c2,hc,h1,h2⟩:=h;exact⟨c1,c2,hc,IsSt.old h1,As.old h2⟩
end
theorem Br.old{B:AS}{w:World}:∀{l:List Px.Fn} {cs:AR},Br B w l cs->Br (λ j=>j<w.heap.size) w l cs
 | [],cs,h=>h
 | e :: r,cs,h=>by
  obtain⟨c1,c2,hc,⟨ps,bs,h1,h2,row,h3,h4⟩,h5⟩:=h;exact⟨c1,c2,hc,⟨ps,bs,h1,BD h2 (λ j _ hl=>hl),row,h3.base' (λ j _ hl=>hl),h4.old⟩,Br.old h5⟩
theorem Pf(a er:Nat)(w:World):AA 23 #[.iface 58 (.agg #[iv a,iv er])] w λ e w'=>e=.returned (.agg #[iv a,iv er])/\Below w.heap.size w w':=by
 have a6:∀w1:World,(Instr.typeAssert (.iface 58 (.agg #[iv a,iv er])) 20 58 false).run prog w1=.ok (.agg #[iv a,iv er]) w1:=λ _=>by kernel_rfl
 obtain⟨w0,a5⟩:∃w0,w.alloc (.cells #[iv 0,iv 0] 58)=w0:=⟨_,rfl⟩;have a4:Below w.heap.size w w0:=by rw[<-a5];exact (AF _ _).alloc (AD _) _
 have a0:w0.heap[w.heap.size]?=some (.cells #[iv 0,iv 0] 58 (0,0)):=by rw[<-a5];exact heap_new _ _
 have l0:w.heap.size<w0.heap.size:=(AB a0).1;have c0:w0.cell? ⟨w.heap.size,0,none⟩=some (iv 0):=by simp[World.cell?,a0]
 have c1:w0.cell? ⟨w.heap.size,1,none⟩=some (iv 0):=by simp[World.cell?,a0]
 have f0:w0.frozen? ⟨w.heap.size,0,none⟩=false:=by simp[World.frozen?,a0]
 have f1:w0.frozen? ⟨w.heap.size,1,none⟩=false:=by simp[World.frozen?,a0]
 have a3:Below w.heap.size w ((w0.setCell ⟨w.heap.size,0,none⟩ (iv a)).setCell ⟨w.heap.size,1,none⟩ (iv er)):=(a4.setCell (p:=⟨w.heap.size,0,none⟩) (AD _) _).setCell (p:=⟨w.heap.size,1,none⟩) (AD _) _;clear a0 a4;go_enter func23,ntmps23;go_wp2_with fail;exact bodyPost_ret (v:=.agg #[iv a,iv er]) (by simp[results,results23,go_sem,l0,c0,c1]) rfl ⟨rfl,a3⟩
theorem Ru(p q r:Addr)(w:World) :
  CallsD prog 22 #[.pointer (some p),.pointer (some q),.pointer (some r)] .returning w λ e u' w'=>e=.returned (.tuple #[])/\u'=.returning/\w'=w:=by
 refine callsD_of_wpS func22 rfl λ c₀ cs hu=>?_
 apply wpS_seq;apply wpS_region;simp[wpOpsS,go_sem,recoverD,hu,ntmps22,Exit.thenS];refine wpS_of_wp ?_;go_wp2;cases c₀
 simp_all [bodyPostS,results,results22]
theorem L8(p g1 g2 a er v1 v2:Nat)(bc:p<g1)(bi:g1<g2)(older:List PanicEntry)(w:World)(hp:w.heap[p]?=some Cf)(hq:w.heap[g1]?=some (Ed v1))(hr:w.heap[g2]?=some (Cj v2)) :
  CallsD prog 22 #[pt p 0,pt g1 0,pt g2 0] (.panicking ({ v:=.iface 58 (.agg #[iv a,iv er]),recovered:=false } :: older)) w λ e u' w'=>
   e=.returned (.tuple #[])/\u'=.panicking ({ v:=.iface 58 (.agg #[iv a,iv er]),recovered:=true } :: older) /\
   w'.heap[p]?=some Cf/\w'.heap[g1]?=some (Ed a)/\w'.heap[g2]?=some (Cj er)/\Below p w w':=by
 refine callsD_of_wpS func22 rfl λ c₀ cs hu=>?_
 apply wpS_seq;apply wpS_region;simp[wpOpsS,go_sem,recoverD,hu,ntmps22,Exit.thenS];refine wpS_of_wp ?_;have lp:p<w.heap.size:=(AB hp).1;have lq:g1<w.heap.size:=(AB hq).1;have lr:g2<w.heap.size:=(AB hr).1;have hF:=Pf a er w;go_wp2_with fail;refine hF.mono ?_;rintro e w1 ⟨rfl,ak⟩;clear hF;have ba:=ak.size;obtain⟨w2,ai⟩:∃w2,w1.alloc (.cells #[iv 0,iv 0] 58)=w2:=⟨_,rfl⟩;obtain⟨w4,af⟩:∃w4,(w2.setCell ⟨w1.heap.size,0,none⟩ (iv a)).setCell ⟨w1.heap.size,1,none⟩ (iv er)=w4:=⟨_,rfl⟩;have au:Below w1.heap.size w1 w2:=by rw[<-ai];exact (AF _ _).alloc (AD _) _
 have a0:w2.heap[w1.heap.size]?=some (.cells #[iv 0,iv 0] 58 (0,0)):=by rw[<-ai];exact heap_new _ _
 have l2:w1.heap.size<w2.heap.size:=(AB a0).1;have b6:Below w1.heap.size w1 w4:=by rw[<-af];exact (au.setCell (p:=⟨w1.heap.size,0,none⟩) (AD _) _).setCell (p:=⟨w1.heap.size,1,none⟩) (AD _) _
 have ad:w4.heap[w1.heap.size]?=some (.cells #[iv a,iv er] 58 (0,0)):=by rw[<-af];simp[World.setCell,Array.getElem?_modify,a0]
 have c0:w2.cell? ⟨w1.heap.size,0,none⟩=some (iv 0):=by simp[World.cell?,a0]
 have c1:w2.cell? ⟨w1.heap.size,1,none⟩=some (iv 0):=by simp[World.cell?,a0]
 have f0:w2.frozen? ⟨w1.heap.size,0,none⟩=false:=by simp[World.frozen?,a0]
 have f1:w2.frozen? ⟨w1.heap.size,1,none⟩=false:=by simp[World.frozen?,a0]
 have a5:Below w.heap.size w w4:=ak.trans (b6.mono ba);have am:=(a5.block p lp).trans hp;have ar:=(a5.block g1 lq).trans hq;have b0:=(a5.block g2 lr).trans hr;have bg:=a5.size;have e0:w4.cell? ⟨w1.heap.size,0,none⟩=some (iv a):=by simp[World.cell?,ad]
 have e1:w4.cell? ⟨w1.heap.size,1,none⟩=some (iv er):=by simp[World.cell?,ad]
 clear a0 au b6 hp hq hr;go_wp2_with fail;have hS:∀w':World,w'.heap[w1.heap.size]?=w4.heap[w1.heap.size]?->(w'.cell? ⟨w1.heap.size,0,none⟩=some (iv a)/\w'.cell? ⟨w1.heap.size,1,none⟩=some (iv er)):=λ w' h=>⟨(Ak h).trans e0,(Ak h).trans e1⟩
 replace hS:=Bw hS;refine Vv.wpE_begin (S:=λ w'=>w'.cell? ⟨w1.heap.size,0,none⟩=some (iv a)/\w'.cell? ⟨w1.heap.size,1,none⟩=some (iv er)) (N:=λ j=>decide (j<7)) (by kernel_rfl) ?_;have a4:=hS.out w4.drew rfl;have ah:w4.drew.heap[p]?=some Cf:=am;have ay:w4.drew.heap[g1]?=some (Ed v1):=ar;have az:w4.drew.heap[g2]?=some (Cj v2):=b0;have al:w4.drew.heap[w1.heap.size]?=w4.heap[w1.heap.size]?:=rfl;have aj:Below w.heap.size w w4.drew:=a5.drew;generalize w4.drew=wd at *;clear e0 e1 ad a5 am ar b0 c0 c1 f0 f1;have be:=aj.size;have bj:p<wd.heap.size:=by omega
 obtain⟨x0,x1,x2,k0,k1,k2⟩:=Ag ah;obtain⟨w5,a3⟩:∃w5,w3 wd p (iv (0:Nat)) sZ sZ=w5:=⟨_,rfl⟩;have b3:w5.heap[p]?=some Cf:=by rw[<-a3];exact J9 ah _ _ _
 have a7:∀k,k≠p->w5.heap[k]?=wd.heap[k]?:=λ k hk=>by rw[<-a3];exact C7 hk _ _ _
 have b9:w5.heap.size=wd.heap.size:=by rw[<-a3];exact F7 _ _ _ _ _
 have b4:Below p w w5:=by rw[<-a3];exact Dw (aj.mono (by omega)) (AD _) _ _ _
 replace a3:w3 wd p (iv 0) sZ sZ=w5:=a3;have ab:=(a7 g1 (by omega)).trans ay;have av:=(a7 g2 (by omega)).trans az;have ae:=(a7 w1.heap.size (by omega)).trans al;obtain⟨w6,a6⟩:∃w6,w5.setCell ⟨g1,0,none⟩ (iv a)=w6:=⟨_,rfl⟩;have aa:∀k,k≠g1->w6.heap[k]?=w5.heap[k]?:=λ k hk=>by rw[<-a6];exact AG _ _ _ _ hk
 have b7:w6.heap[g1]?=some (Ed a):=by rw[<-a6];simp[World.setCell,Array.getElem?_modify,ab]
 have aw:Below p w w6:=by rw[<-a6];exact b4.setCell (p:=⟨g1,0,none⟩) (by show p<=g1;omega) _
 have b8:w6.heap.size=w5.heap.size:=by rw[<-a6];simp[World.setCell]
 have a8:=(aa g2 (by omega)).trans av;have ax:=(aa w1.heap.size (by omega)).trans ae;obtain⟨w7,a9⟩:∃w7,w6.setCell ⟨g2,0,none⟩ (iv er)=w7:=⟨_,rfl⟩;have ag:∀k,k≠g2->w7.heap[k]?=w6.heap[k]?:=λ k hk=>by rw[<-a9];exact AG _ _ _ _ hk
 have bb:w7.heap[p]?=some Cf/\w7.heap[g1]?=some (Ed a)/\w7.heap[g2]?=some (Cj er)/\Below p w w7:=⟨(ag p (by omega)).trans ((aa p (by omega)).trans b3),(ag g1 (by omega)).trans b7,by rw[<-a9];simp[World.setCell,Array.getElem?_modify,a8],by rw[<-a9];exact aw.setCell (p:=⟨g2,0,none⟩) (by show p<=g2;omega) _⟩;have m1:=cell_of_one ab;have n1:=free_of_one ab;have m2:=cell_of_one a8;have n2:=free_of_one a8;have bf:g1<w5.heap.size:=by omega
 have bh:g2<w6.heap.size:=by omega
 have aq:=hS.out w5 ae;have b5:=hS.out w6 ax;clear b9 b8 a7 aa ag b3 ab av ae b7 a8 ax b4 aw hS ah ay az al aj;refine Aa 11 [2,6,7] 1 (pt w1.heap.size 0) a4 ?_
 try simp only[aP]
 refine Aa 12 [6,7] 2 (iv a) a4 ?_
 try simp only[aP]
 refine Aa 13 [4,7] 3 (pt w1.heap.size 1) a4 ?_
 try simp only[aP]
 refine Aa 14 [7] 4 (iv er) a4 ?_
 try simp only[aP]
 refine Ah 0 λ K hK=>?_
 go_simp;refine hK _ _ (λ _=>a4) ?_;clear hK K
 try simp only[aP]
 refine Ah 5 λ K hK=>?_
 go_simp;refine hK _ _ (λ _=>aq) ?_;clear hK K
 try simp only[aP]
 refine Ah 6 λ K hK=>?_
 go_simp;refine hK _ _ (λ _=>b5) ?_;clear hK K
 try simp only[aP]
 refine Ah 7 λ K hK=>?_
 go_simp;refine hK _ _ (λ h=>by cases h) ?_;clear hK K
 try simp only[aP]
 refine Vv.wpE_done (by kernel_rfl) ?_;clear a4 aq b5 m1 n1 m2 n2 x0 x1 x2 k0 k1 k2 ak ai af a3 a6 a9;show bodyPostS _ _ _ _ _ _ _ _ _;cases c₀
 simp_all [bodyPostS,results,results22]
end
section
open Go.RowKit
open Ck (CE CS CF CP Mng)
attribute [local go_sem ↓] Go.wp_at_zero Go.wp_at_succ
def Pg(w:World)(r:Ck.R CP)(e:Ending)(w':World):Prop:=
 match r with
 | .inl c=>(∃ss fs,e=.returned (.tuple #[.agg #[iv c.version,ss,fs],iv 0,iv 0])/\Gk (From w.heap.size) w' c (.agg #[iv c.version,ss,fs]))/\Below w.heap.size w w'
 | .inr (a,er)=>e=.returned (.tuple #[Ky,iv a,iv er])/\Below w.heap.size w w'
theorem Lg{p:Px.Pr}{B:AS}(bu:Ec B w p v)(hw:Px.WfP VW p)(hc:(Px.prT p).length<=4096)(he:Env8 w) :
  AA 10 #[v] w λ e w'=>Pg w (Ck.check p) e w':=by
 obtain⟨ca,c7,rfl,aq,ak,ay,bh⟩:=bu;obtain⟨sa,sc,rfl,-,-⟩:=SlRow.val aq;obtain⟨fa,fc,rfl,-,-⟩:=ay.val;obtain⟨V,hV⟩:∃V:Int,Hid ((p.version:Int)=V):=⟨_,rfl⟩;rw[hV.out];have c9:∀(fn:Fn) (first cap:Array Value) (w:World),(Instr.makeFunc fn first cap).run prog w=.ok (.func fn first cap) w:=λ _ _ _ _=>rfl
 have c8:∀w:World,(Instr.makeMap 60 none).run prog w=.ok (.map (some w.heap.size)) (w.alloc (.map #[] 0)):=λ _=>rfl
 obtain⟨v1,b9⟩:∃v1,w.alloc (.cells #[iv V,.slice sa p.states.length sc,.slice fa p.fns.length fc] 26)=v1:=⟨_,rfl⟩;obtain⟨v2,bl⟩:∃v2,v1.alloc (.cells #[iv 0,sZ,sZ] 26)=v2:=⟨_,rfl⟩;obtain⟨v3,bo⟩:∃v3,v2.alloc (.cells #[iv 0] 3)=v3:=⟨_,rfl⟩;obtain⟨v4,ba⟩:∃v4,v3.alloc (.cells #[iv 0] 27)=v4:=⟨_,rfl⟩;obtain⟨v5,bg⟩:∃v5,v4.alloc (.map #[] 0)=v5:=⟨_,rfl⟩;obtain⟨v6,b8⟩:∃v6,v5.alloc (.cells #[iv 0,sZ,sZ,.map none,iv 0,sZ] 62)=v6:=⟨_,rfl⟩;obtain⟨v7,bp⟩:∃v7,(((((v6.setCell ⟨v5.heap.size,0,none⟩ (iv 0)).setCell ⟨v5.heap.size,1,none⟩ sZ).setCell ⟨v5.heap.size,2,none⟩ sZ).setCell ⟨v5.heap.size,3,none⟩ (.map (some v4.heap.size))).setCell ⟨v5.heap.size,4,none⟩ (iv 0)).setCell ⟨v5.heap.size,5,none⟩ sZ=v7:=⟨_,rfl⟩;have b1:Below w.heap.size w v1:=by rw[<-b9];exact (AF _ _).alloc (AD _) _
 have b2:Below v1.heap.size v1 v2:=by rw[<-bl];exact (AF _ _).alloc (AD _) _
 have b3:Below v2.heap.size v2 v3:=by rw[<-bo];exact (AF _ _).alloc (AD _) _
 have b4:Below v3.heap.size v3 v4:=by rw[<-ba];exact (AF _ _).alloc (AD _) _
 have b5:Below v4.heap.size v4 v5:=by rw[<-bg];exact (AF _ _).alloc (AD _) _
 have b6:Below v5.heap.size v5 v6:=by rw[<-b8];exact (AF _ _).alloc (AD _) _
 have b7:Below v5.heap.size v5 v7:=by
  rw[<-bp];exact (((((b6.setCell (p:=⟨v5.heap.size,0,none⟩) (AD _) _).setCell (p:=⟨v5.heap.size,1,none⟩) (AD _) _).setCell (p:=⟨v5.heap.size,2,none⟩) (AD _) _).setCell (p:=⟨v5.heap.size,3,none⟩) (AD _) _).setCell (p:=⟨v5.heap.size,4,none⟩) (AD _) _).setCell (p:=⟨v5.heap.size,5,none⟩) (AD _) _
 have x1:v1.heap[w.heap.size]?=some (.cells #[iv V,.slice sa p.states.length sc,.slice fa p.fns.length fc] 26 (0,0)):=by rw[<-b9];exact heap_new _ _
 have x2:v2.heap[v1.heap.size]?=some Cf:=by rw[<-bl];exact heap_new _ _
 have x3:v3.heap[v2.heap.size]?=some (Ed 0):=by rw[<-bo];exact heap_new _ _
 have x4:v4.heap[v3.heap.size]?=some (Cj 0):=by rw[<-ba];exact heap_new _ _
 have x5:v5.heap[v4.heap.size]?=some (.map #[] 0):=by rw[<-bg];exact heap_new _ _
 have x6:v6.heap[v5.heap.size]?=some (.cells #[iv 0,sZ,sZ,.map none,iv 0,sZ] 62 (0,0)):=by rw[<-b8];exact heap_new _ _
 have x7:v7.heap[v5.heap.size]?=some (.cells #[iv 0,sZ,sZ,.map (some v4.heap.size),iv 0,sZ] 62 (0,0)):=by rw[<-bp];simp[World.setCell,Array.getElem?_modify,x6]
 have l1:w.heap.size<v1.heap.size:=(AB x1).1;have l2:v1.heap.size<v2.heap.size:=(AB x2).1;have l3:v2.heap.size<v3.heap.size:=(AB x3).1;have l4:v3.heap.size<v4.heap.size:=(AB x4).1;have l5:v4.heap.size<v5.heap.size:=(AB x5).1;have l6:v5.heap.size<v6.heap.size:=(AB x6).1;have l7:v5.heap.size<v7.heap.size:=(AB x7).1;have au:Below v4.heap.size v4 v7:=b5.trans (b7.mono (by omega));have am:Below v3.heap.size v3 v7:=b4.trans (au.mono (by omega));have aw:Below v2.heap.size v2 v7:=b3.trans (am.mono (by omega));have ar:Below v1.heap.size v1 v7:=b2.trans (aw.mono (by omega));have a3:Below w.heap.size w v7:=b1.trans (ar.mono (by omega));have y1:=(ar.block _ l1).trans x1;have y2:=(aw.block _ l2).trans x2;have y3:=(am.block _ l3).trans x3;have y4:=(au.block _ l4).trans x4;have y5:A7 v7 v4.heap.size []:=⟨#[],0,(b7.block _ l5).trans x5,rfl⟩;have a4:∀k,k<w.heap.size->k<v7.heap.size->(k<v7.heap.size/\k≠v5.heap.size/\k≠v4.heap.size):=λ k h1 h2=>⟨h2,by omega,by omega⟩
 have a6:Dv (λ j=>j<v7.heap.size/\j≠v5.heap.size/\j≠v4.heap.size) v7 p.states (.slice sa p.states.length sc):=BD (SlRow.since (BD aq (B':=λ j=>j<w.heap.size) (λ j _ hl=>hl)) (Since.of_below a3)) a4;have a5:Fj (λ j=>j<v7.heap.size/\j≠v5.heap.size/\j≠v4.heap.size) v7 p.fns (.slice fa p.fns.length fc):=by
  have h1:Fj (λ j=>j<w.heap.size) v7 p.fns (.slice fa p.fns.length fc):=⟨ak,(ay.base' (λ j _ hl=>hl)).since (Since.of_below a3),bh.old.since (Since.of_below a3)⟩;exact Lf h1 (λ j hj=>⟨by omega,by omega,by omega⟩)
 have hP:=Pc (V:=V) hV x7 y5 (by omega) a6 a5 hw hc (he.below a3) (Al2 hw hc);obtain⟨R,HR⟩:∃R,Hid (Ck.check p=R):=⟨_,rfl⟩;rw[HR.out] at hP ⊢;obtain⟨p0,p1,p2,-⟩:=Ag y1;obtain⟨q0,q1,q2,q3,q4,q5,f0,f1,f2,f3,f4,f5⟩:=Bc x6;have c6:w.heap.size<v7.heap.size:=by omega
 clear aq ay bh hw hc he a6 a5 b1 b2 b3 b4 b5 b6 b7 au am aw ar x1 x2 x3 x4 x5 x6 y1 y5 a4
 go_enter_defers func10,ntmps10
 go_wp2_with fail
 refine hP.mono ?_;rintro e w8 hQ;clear hP p0 p1 p2 q0 q1 q2 q3 q4 q5 f0 f1 f2 f3 f4 f5;rcases R with c | ⟨a,er⟩
 .obtain⟨rfl,ss,fs,num,lv,b0,az,al,a7,a0⟩:=hQ;obtain⟨s1,s2,rfl,-,-⟩:=SlRow.val az;have ax:=al;obtain⟨bx,br,-⟩:=ax;obtain⟨f1,f2,rfl,-,-⟩:=br.val;have bs:=a0.size;have g2:=(a0.block v1.heap.size (by omega) (by rintro (e | e) <;> omega)).trans y2;have g3:=(a0.block v2.heap.size (by omega) (by rintro (e | e) <;> omega)).trans y3;have g4:=(a0.block v3.heap.size (by omega) (by rintro (e | e) <;> omega)).trans y4;have ah:Below w.heap.size w w8:=a3.trans (a0.below (n:=w.heap.size) (by omega) (λ j e=>by rcases e with e | e <;> omega));obtain⟨c0,c1,c2,-⟩:=Bc b0;obtain⟨x0,x1,x2,k0,k1,k2⟩:=Ag g2;obtain⟨wa,aj⟩:∃wa,w3 w8 v1.heap.size (iv V) (.slice s1 c.states.length s2) (.slice f1 c.fns.length f2)=wa:=⟨_,rfl⟩;have ha:wa.heap[v1.heap.size]?=some (.cells #[iv V,.slice s1 c.states.length s2,.slice f1 c.fns.length f2] 26 (0,0)):=by rw[<-aj];exact J9 g2 _ _ _
  have ai:∀k,k≠v1.heap.size->wa.heap[k]?=w8.heap[k]?:=λ k hk=>by rw[<-aj];exact C7 hk _ _ _
  have bk:Below w.heap.size w wa:=by rw[<-aj];exact Dw ah (by omega) _ _ _
  have bt:wa.heap.size=w8.heap.size:=by rw[<-aj];exact F7 _ _ _ _ _
  have bw:w8.heap.size<=wa.heap.size:=by omega
  have af:=(ai _ (by omega)).trans g3;have bf:=(ai _ (by omega)).trans g4;obtain⟨wb,ad⟩:∃wb,wa.setCell ⟨v2.heap.size,0,none⟩ (iv 0)=wb:=⟨_,rfl⟩;have aa:∀k,k≠v2.heap.size->wb.heap[k]?=wa.heap[k]?:=λ k hk=>by rw[<-ad];exact AG _ _ _ _ hk
  have bi:wb.heap[v2.heap.size]?=some (Ed 0):=by rw[<-ad];simp[World.setCell,Array.getElem?_modify,af]
  have bq:Below w.heap.size w wb:=by rw[<-ad];exact bk.setCell (p:=⟨v2.heap.size,0,none⟩) (by show w.heap.size<=v2.heap.size;omega) _
  have bv:wa.heap.size<=wb.heap.size:=by rw[<-ad];simp[World.setCell]
  have ae:=(aa _ (by omega)).trans bf;obtain⟨wc,ag⟩:∃wc,wb.setCell ⟨v3.heap.size,0,none⟩ (iv 0)=wc:=⟨_,rfl⟩;have a9:∀k,k≠v3.heap.size->wc.heap[k]?=wb.heap[k]?:=λ k hk=>by rw[<-ag];exact AG _ _ _ _ hk
  have bc:wc.heap[v3.heap.size]?=some (Cj 0):=by rw[<-ag];simp[World.setCell,Array.getElem?_modify,ae]
  have bb:Below w.heap.size w wc:=by rw[<-ag];exact bq.setCell (p:=⟨v3.heap.size,0,none⟩) (by show w.heap.size<=v3.heap.size;omega) _
  have c3:wb.heap.size<=wc.heap.size:=by rw[<-ag];simp[World.setCell]
  have bj:=(a9 v2.heap.size (by omega)).trans bi;have be:=(a9 v1.heap.size (by omega)).trans ((aa v1.heap.size (by omega)).trans ha);have ab:Since (From v7.heap.size) w8 wc:=⟨by omega,λ j hj hl=>by
   have hj:v7.heap.size<=j:=hj;exact (a9 j (by omega)).trans ((aa j (by omega)).trans (ai j (by omega)))⟩
  have a4:∀{wx:World} j,From v7.heap.size j->j<wx.heap.size->From w.heap.size j:=λ {wx} j hj _=>by have:v7.heap.size<=j:=hj;show w.heap.size<=j;omega
  have a8:Hid (Pg w (.inl c) (.returned (.tuple #[.agg #[iv V,.slice s1 c.states.length s2,.slice f1 c.fns.length f2],iv 0,iv 0])) wc):=by
   refine⟨⟨_,_,by rw[a7],_,_,rfl,BD (SlRow.since az ab) a4,?_⟩,bb⟩;obtain⟨row,h1,h2⟩:=al;exact⟨row,(h1.since ab).base' a4,(h2.since ab).base a4⟩
  have i1:=cell_of_one af;have j1:=free_of_one af;have i2:=cell_of_one ae;have j2:=free_of_one ae;have cc:v1.heap.size<w8.heap.size:=by omega
  have c5:v2.heap.size<wa.heap.size:=by omega
  have cd:v3.heap.size<wb.heap.size:=by omega
  have c4:v5.heap.size<w8.heap.size:=by omega
  have u1:=cell_of_one bj;have u2:=cell_of_one bc;obtain⟨r0,r1,r2,-⟩:=Ag be;have t0:v1.heap.size<wc.heap.size:=by omega
  have t1:v2.heap.size<wc.heap.size:=by omega
  have t2:v3.heap.size<wc.heap.size:=by omega
  clear bt az al a0 b0 g2 g3 g4 ha ai bk af bf aa bi bq ae a9 bc bb bj be ab a4 ah br a7 HR x7 y2 y3 y4 a3;go_wp2;refine leaves_cons (f:=22) (args:=#[pt v1.heap.size 0,pt v2.heap.size 0,pt v3.heap.size 0]) (by simp) (by simp[go_sem]) ?_;refine (Ru _ _ _ _).mono ?_;rintro e u' w'' ⟨rfl,rfl,rfl⟩;simp[Leaves,settle,results,results10,go_sem,u1,u2,r0,r1,r2];exact a8.out
 .obtain⟨rfl,a0⟩:=hQ;have bs:=a0.size;have g2:=(a0.block v1.heap.size (by omega) (by rintro (e | e) <;> omega)).trans y2;have g3:=(a0.block v2.heap.size (by omega) (by rintro (e | e) <;> omega)).trans y3;have g4:=(a0.block v3.heap.size (by omega) (by rintro (e | e) <;> omega)).trans y4;have ah:Below w.heap.size w w8:=a3.trans (a0.below (n:=w.heap.size) (by omega) (λ j e=>by rcases e with e | e <;> omega));clear a0 HR x7 y2 y3 y4 a3;refine leaves_cons (f:=22) (args:=#[pt v1.heap.size 0,pt v2.heap.size 0,pt v3.heap.size 0]) (by simp) (by simp[go_sem]) ?_;refine (L8 v1.heap.size v2.heap.size v3.heap.size a er 0 0 (by omega) (by omega) [] _ g2 g3 g4).mono ?_;rintro e u' w'' ⟨rfl,rfl,r1,r2,r3,bn⟩;have av:Below w.heap.size w w'':=ah.trans (bn.mono (by omega));have u1:=cell_of_one r2;have u2:=cell_of_one r3;obtain⟨z0,z1,z2,_⟩:=Ag r1;clear r1 r2 r3 bn;simp[Leaves,settle,results,results10,go_sem,u1,u2,z0,z1,z2];exact⟨rfl,av⟩
end
section
open Go.RowKit
open Px (WfP prT)
open Ck (CE CS CF CP)
theorem Al3(w:World)(x0 x1 x2:Value):∃wz wf,w.alloc (.cells #[iv 0,sZ,sZ] 26)=wz/\w3 wz w.heap.size x0 x1 x2=wf/\w.heap.size<wz.heap.size/\w.heap.size<wf.heap.size/\Below w.heap.size w wf/\wz.heap[w.heap.size]?=some (.cells #[iv 0,sZ,sZ] 26 (0,0))/\wf.heap[w.heap.size]?=some (.cells #[x0,x1,x2] 26 (0,0)):=by
 have h:=heap_new w (.cells #[iv 0,sZ,sZ] 26);have hb:Below w.heap.size w (w.alloc (.cells #[iv 0,sZ,sZ] 26)):=(AF _ _).alloc (AD _) _;have hl:=(AB h).1;exact⟨_,_,rfl,rfl,hl,by rw[F7];exact hl,Dw hb (AD _) _ _ _,h,J9 h _ _ _⟩
def Nn:List UInt8:=[118,101,114,115,105,111,110,32,49,59,32,115,116,97,116,101,32,110,58,32,105,110,116,59,32,111,110,32,97,100,100,40,120,58,32,105,110,116,41,58,32,105,110,116,32,123,32,115,101,116,32,110,32,61,32,110,32,43,32,120,59,32,114,101,116,32,110,59,32,125]
def wkE:CE->Bool
 | .mk k o n t s y args=>k == 15 && (match args with
  | [.mk ka _ _ _ _ _ _,.mk kb _ _ _ _ _ _]=>ka == 5 && kb == 4
  | _=>false)
def wkS:CS->Bool
 | .mk k s f n es b c=>f && s == 0 && (match es with
  | [e]=>wkE e
  | _=>false)
def wkC(c:CP):Bool:=match c.fns with
 | [f]=>(match f.body with
  | [a,_]=>wkS a
  | _=>false)
 | _=>false
def Au0:Bool:=match Px.parse Nn with
 | .inl p=>(match Ck.check p with
  | .inl c=>wkC c
  | .inr _=>false)
 | .inr _=>false
theorem Xx:Au0=true:=by kernel_rfl
theorem T8:∃p c,Px.parse Nn=.inl p/\Ck.check p=.inl c/\∃(f:CF) (k n:Nat) (o m sl:Nat) (t y:AQ) (oa na sa ob nb sb:Nat) (ta ya tb yb:AQ) (xa xb:List CE) (b1 c1:List CS) (s2:CS),c.fns=[f]/\f.body=[.mk k 0 true n [.mk 15 o m t sl y [.mk 5 oa na ta sa ya xa,.mk 4 ob nb tb sb yb xb]] b1 c1,s2]:=by
 have h:=Xx;unfold Au0 at h;rcases hp:Px.parse Nn with p | x
 .rw[hp] at h;rcases hc:Ck.check p with c | x
  .simp only[hc] at h;unfold wkC at h;split at h
   .rename_i f hf;split at h
    .rename_i a s2 hb;obtain⟨k,s,fl,n,es,b1,c1⟩:=a;simp only[wkS,Bool.and_eq_true,beq_iff_eq] at h;obtain⟨⟨rfl,rfl⟩,h⟩:=h;split at h
     .rename_i e;obtain⟨ke,o,m,t,sl,y,args⟩:=e;simp only[wkE,Bool.and_eq_true,beq_iff_eq] at h;obtain⟨rfl,h⟩:=h;split at h
      .rename_i ka oa na ta sa ya xa kb ob nb tb sb yb xb;simp only[Bool.and_eq_true,beq_iff_eq] at h;obtain⟨rfl,rfl⟩:=h;exact⟨p,c,rfl,hc,f,k,n,o,m,sl,t,y,oa,na,sa,ob,nb,sb,ta,ya,tb,yb,xa,xb,b1,c1,s2,hf,hb⟩
      .cases h
     .cases h
    .cases h
   .cases h
  .simp only[hc] at h;cases h
 .rw[hp] at h;cases h
theorem T9{B:AS}{c:CP}(hx:Gk B w c (.agg #[iv c.version,ss,fs])){f:CF}{k n:Nat}{o sl:Nat}{t y:AQ}{oa na sa ob nb sb:Nat}{ta ya tb yb:AQ}{xa xb:List CE}{b1 c1:List CS}{s2:CS}(hf:c.fns=[f])(hb:f.body=[.mk k 0 true n [.mk 15 o m t sl y [.mk 5 oa na ta sa ya xa,.mk 4 ob nb tb sb yb xb]] b1 c1,s2]) :
  ∃(s1:Option Addr) (sn sc:Nat) (g1 o1 a0 g2 o2 c2 g3 o3 c3 g4 o4 c4:Nat) (p2 q2:Option Addr) (l2 l3 d2 d3:Nat),ss=.slice s1 sn sc/\fs=sL g1 o1 1 a0/\(g1<w.heap.size/\g2<w.heap.size/\g3<w.heap.size/\g4<w.heap.size)/\w.cell? ⟨g1,o1+5,none⟩=some (sL g2 o2 2 c2) /\
   (w.cell? ⟨g2,o2,none⟩=some (iv k)/\w.cell? ⟨g2,o2+1,none⟩=some sE/\w.cell? ⟨g2,o2+2,none⟩=some (iv 0)/\w.cell? ⟨g2,o2+3,none⟩=some (.bool true)/\w.cell? ⟨g2,o2+4,none⟩=some (iv n)/\w.cell? ⟨g2,o2+5,none⟩=some (sL g3 o3 1 c3)/\w.cell? ⟨g2,o2+6,none⟩=some (.slice p2 l2 d2)/\w.cell? ⟨g2,o2+7,none⟩=some (.slice q2 l3 d3)/\w.cell? ⟨g2,o2+8,none⟩=some (iv 0)) /\
   w.cell? ⟨g3,o3,none⟩=some (iv 15)/\w.cell? ⟨g3,o3+6,none⟩=some (sL g4 o4 2 c4)/\w.cell? ⟨g4,o4,none⟩=some (iv 5)/\w.cell? ⟨g4,o4+8,none⟩=some (iv 4):=by
 obtain⟨af,ad,he,h1,a5,h2,h3⟩:=hx;simp only[Value.agg.injEq,Array.mk.injEq,List.cons.injEq,and_true,true_and] at he;obtain⟨rfl,rfl⟩:=he;obtain⟨s1,sc,rfl,-,-⟩:=SlRow.val h1;rw[hf] at h2 h3;obtain⟨g1,o1,a0,rfl,-,-,-,a7,e1⟩:=h2.cells (by simp);obtain⟨cs,⟨ps,ls,bs,rfl,-,-,a9,h4,h5⟩,k1⟩:=h3.at (i:=0) rfl;rw[hb] at h4 h5;obtain⟨g2,o2,c2,rfl,-,-,-,ab,e2⟩:=h4.cells (by simp);obtain⟨r1,r2,rfl,h6,-⟩:=h5;rw[Co] at h6;obtain⟨x1,x2,x3,q1,ah,q3,rfl,m1,m2,m3,-,m5,-⟩:=h6;obtain⟨g3,o3,c3,rfl,-,-,-,a6,e3⟩:=m1.cells (by simp);obtain⟨p2,d2,rfl,-,-⟩:=m3.val;obtain⟨q2,d3,rfl,-,-⟩:=m5.val;obtain⟨y1,y2,rfl,n1,-⟩:=m2;rw[Cl] at n1;obtain⟨z1,zr,rfl,i1,i2⟩:=n1;obtain⟨g4,o4,c4,rfl,-,-,-,aa,e4⟩:=i1.cells (by simp);obtain⟨a1,a2,rfl,j1,j2⟩:=i2;obtain⟨a3,a4,rfl,j3,-⟩:=j2;rw[Cl] at j1 j3;obtain⟨z2,ag,rfl,-,-⟩:=j1;obtain⟨z3,ae,rfl,-,-⟩:=j3;have a8:=e1 5 _ (by have:=k1 5 (by omega);simpa using this);refine⟨s1,_,sc,g1,o1,a0,g2,o2,c2,g3,o3,c3,g4,o4,c4,p2,q2,_,_,d2,d3,rfl,rfl,⟨a7,ab,a6,aa⟩,a8,⟨e2 0 _ rfl,e2 1 _ rfl,e2 2 _ rfl,e2 3 _ rfl,e2 4 _ rfl,e2 5 _ rfl,e2 6 _ rfl,e2 7 _ rfl,e2 8 _ rfl⟩,e3 0 _ rfl,e3 6 _ rfl,e4 0 _ rfl,e4 8 _ rfl⟩
theorem Rv(w:World)(he:Env8 w):AA 8 #[] w λ e w'=>e=.returned (.bool true)/\Below w.heap.size w w':=by
 obtain⟨p,c,hp,al,f,k,n,o,m,sl,t,y,oa,na,sa,ob,nb,sb,ta,ya,tb,yb,xa,xb,b1,c1,s2,hf,hb⟩:=T8;have hL:=K1 ⟨Nn.toArray⟩ w he.env (by show Nn.toArray.size<=maxLen;unfold maxLen;decide);simp only[toList_toArray] at hL;rw[hp] at hL;replace hL:AA 9 #[.string ⟨Nn.toArray⟩] w λ e w'=>(∃v,e=.returned (.tuple #[v,iv 0,iv 0])/\Ec (From w.heap.size) w' p v)/\Below w.heap.size w w':=hL
 obtain⟨hw,hc⟩:=Vn hp;go_enter func8,ntmps8;go_wp2_with fail;refine hL.mono ?_;rintro e w2 ⟨⟨v,rfl,hx⟩,ab⟩;obtain⟨b3,b7,aw,b6,b5,b4,hv⟩:=hx.cells;subst hv;have aq:=he.below ab;obtain⟨wz,wf,ay,b0,lz,lf,aa,xz,xf⟩:=Al3 w2 (iv p.version) (.slice b3 b7 aw) (.slice b6 b5 b4);have hC:=Lg (hx.since (Since.of_below aa)) hw hc (aq.below aa);rw[al] at hC;have ah:=ab.trans (aa.mono ab.size);obtain⟨z0,z1,z2,m0,m1,m2⟩:=Ag xz;obtain⟨q0,q1,q2,-⟩:=Ag xf;clear hL hx aa aq hp al xz xf;go_wp2_with fail;refine hC.mono ?_;rintro e w4 ⟨⟨ss,fs,rfl,au⟩,ar⟩;clear hC z0 z1 z2 m0 m1 m2 q0 q1 q2 ay b0;obtain⟨s1,sn,sc,g1,o1,d1,g2,o2,d2,g3,o3,d3,g4,o4,d4,p2,r2,l2,l3,h2,h3,rfl,rfl,⟨am,a9,ag,af⟩,u0,⟨a0,a1,a2,a3,a4,a5,a6,a7,a8⟩,e0,e6,v0,v8⟩:=T9 au hf hb;have ai:=ah.trans (ar.mono ah.size);obtain⟨wy,wg,bb,bi,ly,lg,ad,xy,xg⟩:=Al3 w4 (iv c.version) (.slice s1 sn sc) (sL g1 o1 1 d1);obtain⟨z0,z1,z2,m0,m1,m2⟩:=Ag xy;obtain⟨q0,q1,q2,-⟩:=Ag xg;obtain⟨bc,-⟩:=bcell ad;replace u0:=(bc _ _ am).trans u0;replace a0:=(bc _ _ a9).trans a0;replace a1:=(bc _ _ a9).trans a1;replace a2:=(bc _ _ a9).trans a2;replace a3:=(bc _ _ a9).trans a3;replace a4:=(bc _ _ a9).trans a4;replace a5:=(bc _ _ a9).trans a5;replace a6:=(bc _ _ a9).trans a6;replace a7:=(bc _ _ a9).trans a7;replace a8:=(bc _ _ a9).trans a8;replace e0:=(bc _ _ ag).trans e0;replace e6:=(bc _ _ ag).trans e6;replace v0:=(bc _ _ af).trans v0;replace v8:=(bc _ _ af).trans v8
 have az:=ad.size;have aj:=ai.trans (ad.mono ai.size);have k1:g1<wg.heap.size:=by omega
 have k2:g2<wg.heap.size:=by omega
 have k3:g3<wg.heap.size:=by omega
 have k4:g4<wg.heap.size:=by omega
 obtain⟨wx,wh,be,ba,ae,b8,b9,ax,xh,xx⟩:=G7 wg (iv k) sE (iv 0) (.bool true) (iv n) (sL g3 o3 1 d3) (.slice p2 l2 h2) (.slice r2 l3 h3) (iv 0);have lx:wg.heap.size<wx.heap.size:=by omega
 have lh:wg.heap.size<wh.heap.size:=by omega
 obtain⟨bd,-⟩:=bcell ae;have bg:=(bd _ _ k3).trans e0;have bh:=(bd _ _ k3).trans e6;have bk:=(bd _ _ k4).trans v0;have bl:=(bd _ _ k4).trans v8;obtain⟨y0,y1,y2,y3,y4,y5,y6,y7,y8,j0,j1,j2,j3,j4,j5,j6,j7,j8⟩:=Ai xx;obtain⟨i0,i1,i2,i3,i4,i5,i6,i7,i8,-⟩:=Ai xh;have av:=ae.size;have bf:g3<wh.heap.size:=by omega
 have bj:g4<wh.heap.size:=by omega
 have ak:=aj.trans (ae.mono aj.size);clear b8 b9 bc bd au ar ah ai ad ae aj ab xy xg xh xx ax hf hb am a9 ag af av az;go_wp2_with fail;go_ret;exact⟨rfl,ak⟩
theorem Ar2{B:AS}:Gk B w ⟨0,[],[]⟩ Ky:=⟨sZ,sZ,rfl,⟨rfl,AI ⟨rfl,rfl⟩⟩,[],⟨rfl,AI ⟨rfl,rfl⟩⟩,rfl⟩
theorem Gk.any{B:AS}{c:CP}(h:Gk B w c v):Gk (λ _=>True) w c v:=by
 obtain⟨ss,fs,e,h1,row,h2,h3⟩:=h;exact⟨ss,fs,e,BD h1 (λ _ _ _=>trivial),row,h2.base' (λ _ _ _=>trivial),h3.base (λ _ _ _=>trivial)⟩
def Au1(w':World)(r:Ck.R CP)(V at_ er:Int)(sa fa:Option Addr)(sn sc fn fc:Nat):Prop:=
 match r with
 | .inl c=>Gk (λ _=>True) w' c (.agg #[iv V,.slice sa sn sc,.slice fa fn fc])/\er=0/\at_=0/\V=c.version/\sn=c.states.length/\fn=c.fns.length
 | .inr (a,x)=>Gk (λ _=>True) w' ⟨0,[],[]⟩ (.agg #[iv V,.slice sa sn sc,.slice fa fn fc])/\er=x/\at_=a/\V=0/\sn=0/\fn=0
theorem Xy{r:Ck.R CP}{e:Ending}(h:Pg w r e w'):∃(V at_ er:Int) (sa fa:Option Addr) (sn sc fn fc:Nat),e=.returned (.tuple #[.agg #[iv V,.slice sa sn sc,.slice fa fn fc],iv at_,iv er])/\Below w.heap.size w w'/\Au1 w' r V at_ er sa fa sn sc fn fc:=by
 rcases r with c | ⟨a,x⟩
 .obtain⟨⟨ss,fs,rfl,hx⟩,hb⟩:=h;obtain⟨a3,a0,he,h1,row,h2,h3⟩:=hx;simp only[Value.agg.injEq,Array.mk.injEq,List.cons.injEq,and_true,true_and] at he;obtain⟨rfl,rfl⟩:=he;obtain⟨sa,sc,rfl,-,-⟩:=SlRow.val h1;obtain⟨fa,fc,rfl,-,-⟩:=h2.val;exact⟨_,_,_,sa,fa,_,sc,_,fc,rfl,hb,Gk.any ⟨_,_,rfl,h1,row,h2,h3⟩,rfl,rfl,rfl,rfl,rfl⟩
 .obtain⟨rfl,hb⟩:=h;exact⟨0,a,x,none,none,0,0,0,0,rfl,hb,Ar2,rfl,rfl,rfl,rfl,rfl⟩
theorem Xz{l:AQ}{a er:Nat}(h:Px.parse l=.inr (a,er)):er≠0:=by
 rcases parse_bad_cases h with h | ⟨ts,h1,h2⟩
 .exact h.2.1
 .omega
theorem Ec.cells2{B:AS}{p:Px.Pr}(h:Ec B w p v):∃sa sc fa fc,v=.agg #[iv p.version,.slice sa p.states.length sc,.slice fa p.fns.length fc]:=by
 obtain⟨ss,fs,hv,h1,row,h2,h3⟩:=h;obtain⟨sa,sc,rfl⟩:=Dv.slice h1;obtain⟨fa,fc,rfl,_⟩:=h2.slice;exact⟨sa,sc,fa,fc,hv⟩
theorem Au7(w:World)(x0 x1 x2:Value):∃wz w4,w.alloc (.cells #[sE,sE,iv 0] 40)=wz/\K3 wz w.heap.size x0 x1 x2=w4/\Below w.heap.size w w4/\w4.heap.size=w.heap.size+1/\wz.heap.size=w.heap.size+1/\w4.heap[w.heap.size]?=some (.cells #[x0,x1,x2] 40 (0,0))/\wz.heap[w.heap.size]?=some (.cells #[sE,sE,iv 0] 40 (0,0)):=by
 have hb:Below w.heap.size w (w.alloc (.cells #[sE,sE,iv 0] 40)):=(AF _ _).alloc (AD _) _;exact⟨_,_,rfl,rfl,Je hb (AD _) _ _ _,by rw[K4];simp,by simp,Nc (heap_new _ _) _ _ _,heap_new _ _⟩
theorem tclosed_walk(s:ByteArray)(w:World)(he:Env8 w)(hm:s.size<=maxLen):AA 5 #[.string s] w λ e w'=>e=.returned (.bool true)/\Below w.heap.size w w':=by
 have bg:=Rv w he;go_enter func5,ntmps5;go_wp2_with fail;refine bg.mono ?_;rintro e w1 ⟨rfl,ab⟩;have b6:=he.below ab;clear bg;have hL:=K1 s w1 b6.env hm;rcases hpr:Px.parse s.data.toList with p | ⟨a,er⟩
 rotate_left
 .rw[hpr] at hL;replace hL:AA 9 #[.string s] w1 λ e w'=>e=.returned (.tuple #[Ky,iv a,iv er])/\Below w1.heap.size w1 w':=hL
  have ch:er≠0:=Xz hpr;have bl:((er:Int) != 0)=true:=by simp;omega
  go_wp2_with fail
  refine hL.mono ?_;rintro e w2 ⟨rfl,al⟩;have aa:=ab.trans (al.mono ab.size);go_wp2;go_ret;exact⟨rfl,aa.alloc aa.size _⟩
 rw[hpr] at hL;replace hL:AA 9 #[.string s] w1 λ e w'=>(∃v,e=.returned (.tuple #[v,iv 0,iv 0])/\Ec (From w1.heap.size) w' p v)/\Below w1.heap.size w1 w':=hL
 obtain⟨hw,hc⟩:=Vn hpr;have a9:=Ck.check_lo (Ck.read_low hpr);have b0:=Ck.check_nz hw;have b4:=λ c=>Ck.check_cl (c:=c) (Ck.prW_of hw)
 go_wp2_with fail
 refine hL.mono ?_;rintro e w2 ⟨⟨v,rfl,ai⟩,al⟩;obtain⟨sa,sc,fa,fc,hv⟩:=ai.cells2;subst hv;have aa:Below w.heap.size w w2:=ab.trans (al.mono ab.size);obtain⟨wz,wf,av,bx,lz,lf,b9,xz,xf⟩:=Al3 w2 (iv p.version) (.slice sa p.states.length sc) (.slice fa p.fns.length fc);have aj:=aa.trans (b9.mono aa.size);have hx:=(ai.since (Since.of_below b9)).base (B':=λ _=>True) (λ _ _=>trivial);have hK:=Lg hx hw hc (he.below aj);obtain⟨z0,z1,z2,m0,m1,m2⟩:=Ag xz;obtain⟨q0,q1,q2,-⟩:=Ag xf;clear hL ai xz;go_wp2_with fail;refine hK.mono ?_;rintro e w4 hP;obtain⟨V,at_,er,s1,f1,n1,c1,n2,c2,rfl,b3,hP⟩:=Xy hP;clear hK z0 z1 z2 m0 m1 m2 q0 q1 q2 av bx;have au:=aj.trans (b3.mono aj.size);have ar:=b3.size;obtain⟨wy,wg,bq,c3,ly,lg,ay,xy,xg⟩:=Al3 w4 (iv V) (.slice s1 n1 c1) (.slice f1 n2 c2);have aw:=au.trans (ay.mono au.size);have af:Below wf.heap.size wf wg:=b3.trans (ay.mono ar);have bp:=(af.block _ lf).trans xf;have ci:w2.heap.size<wg.heap.size:=by have:=af.size;omega
 obtain⟨z0,z1,z2,m0,m1,m2⟩:=Ag xy;obtain⟨q0,q1,q2,-⟩:=Ag xg;obtain⟨p0,p1,p2,-⟩:=Ag bp;have bs:s.data.toList.length=s.size:=by rw[Array.length_toList];rfl
 rw[bs] at a9;clear xy;rcases hck:Ck.check p with c | ⟨a,x⟩
 rotate_left
 .rw[hck] at hP;obtain⟨-,rfl,rfl,rfl,rfl,rfl⟩:=hP;have ai:x≠0:=b0 a x hck;have bl:((x:Int) != 0)=true:=by simp;omega
  have ha:a<=s.size:=a9 a x hck;have cd:(a:Int)<=(s.size:Int):=by omega
  have cq:(0:Int)<=(a:Int):=by omega
  clear a9 b0 b4 hck;go_wp2_with fail;go_ret;exact⟨rfl,aw⟩
 rw[hck] at hP;obtain⟨ad,rfl,rfl,rfl,rfl,rfl⟩:=hP;have hC:=b4 c hck;obtain⟨k1,k2,k3,k4⟩:=hC;have ad:=ad.keep (Since.of_below ay);obtain⟨-,-,-,cm,c6,-,ae⟩:=ad.at;have e1:((c.version:Int) != (p.version:Int))=false:=by rw[k1];simp
 have e2:((c.states.length:Int) != (p.states.length:Int))=false:=by rw[k2];simp
 have e3:((c.fns.length:Int) != (p.fns.length:Int))=false:=by rw[k3];simp
 clear a9 b0 b4 hck hw hc hx hpr k1 k2 k3;have a7:∀(q:Nat) (wr:World),q<c.fns.length->Below wg.heap.size wg wr->∃(g o pc lc bc pn ln bn:Nat) (nm rs:Lx.B) (on:Bool) (pa la ba:Option Addr),f1=some ⟨g,o,none⟩/\g<wr.heap.size/\(wr.cell? ⟨g,o+q*7,none⟩=some (.string ⟨nm.toArray⟩)/\wr.cell? ⟨g,o+q*7+1,none⟩=some (.bool on)/\wr.cell? ⟨g,o+q*7+2,none⟩=some (.slice pa pn pc)/\wr.cell? ⟨g,o+q*7+3,none⟩=some (.string ⟨rs.toArray⟩)/\wr.cell? ⟨g,o+q*7+4,none⟩=some (.slice la ln lc)/\wr.cell? ⟨g,o+q*7+5,none⟩=some (.slice ba bn bc)/\wr.cell? ⟨g,o+q*7+6,none⟩=some (iv 0))/\pn<=ln/\ln<=9223372036854775807 /\
   (∀w',Below wg.heap.size wg w'->AA 15 #[.agg #[iv c.version,.slice s1 c.states.length c1,.slice f1 c.fns.length c2],iv q,.slice ba bn bc] w' λ r w''=>r=.returned (.bool true)/\Below w'.heap.size w' w'') /\
   (∀(j:Nat) (w':World),j<pn->Below wg.heap.size wg w'->∃(g1 o1 g2 o2:Nat) (t t0:Lx.B),la=some ⟨g1,o1,none⟩/\pa=some ⟨g2,o2,none⟩/\g1<w'.heap.size/\g2<w'.heap.size/\w'.cell? ⟨g1,o1+j,none⟩=some (.string ⟨t.toArray⟩)/\w'.cell? ⟨g2,o2+j*3,none⟩=some (.string ⟨t0.toArray⟩)/\w'.cell? ⟨g2,o2+j*3+1,none⟩=some (.string ⟨t.toArray⟩)/\w'.cell? ⟨g2,o2+j*3+2,none⟩=some (iv 0)):=by
  intro q wr hq hW;obtain⟨f,hf⟩:∃f,c.fns[q]?=some f:=⟨c.fns[q],AN hq⟩;obtain⟨g,o,pc,lc,bc,pa,la,ba,m1,m2,⟨a0,a1,a2,a3,a4,a5,a6⟩,bu,bh,bk⟩:=ae q f hf;obtain⟨⟨m,hm⟩,hb⟩:=k4 q f hf;have bo:f.locals.length=f.params.length+m.length:=by rw[hm];simp
  have kc:∀j,wr.cell? ⟨g,j,none⟩=wg.cell? ⟨g,j,none⟩:=λ j=>hW.cell (p:=⟨g,j,none⟩) m2
  refine⟨g,o,pc,lc,bc,f.params.length,f.locals.length,f.body.length,f.name,f.result,f.on,pa,la,ba,m1,by have:=hW.size;omega,⟨(kc _).trans a0,(kc _).trans a1,(kc _).trans a2,(kc _).trans a3,(kc _).trans a4,(kc _).trans a5,(kc _).trans a6⟩,by omega,SlRow.n_le (show SlRow _ wg 1 _ f.locals.length _ from bh),?_,?_⟩
  .exact λ w' hW'=>L9 c _ _ _ _ _ _ _ _ f.body _ _ w' q f (Nat.lt_succ_self _) hf (ad.keep (Since.of_below hW')) (bk.since (Since.of_below hW')) hb
  .intro j w' hj hW';obtain⟨x,hx⟩:∃x,f.params[j]?=some x:=⟨f.params[j],AN hj⟩;have br:f.locals[j]?=some x.2:=by
    rw[hm,List.getElem?_append_left (by simpa using hj),List.getElem?_map,hx];rfl
   obtain⟨g2,o2,r1,r2,r3,r4,r5⟩:=Ug bu hx;obtain⟨g1,o1,t1,t2,t3⟩:=Af6 bh br;have kd:∀j,w'.cell? ⟨g2,j,none⟩=wg.cell? ⟨g2,j,none⟩:=λ j=>hW'.cell (p:=⟨g2,j,none⟩) r2
   exact⟨g1,o1,g2,o2,x.2,x.1,t1,r1,by have:=hW'.size;omega,by have:=hW'.size;omega,by rw[hW'.cell (p:=⟨g1,o1+j,none⟩) t2];exact t3,(kd _).trans r3,(kd _).trans r4,(kd _).trans r5⟩
 clear ad ae k4 aa aj au ab al b6;generalize c.fns.length=cn at *;generalize c.states.length=cs at *;generalize c.version=cv at *;go_wp2_with fail;clear z0 z1 z2 m0 m1 m2 q0 q1 q2 p0 p1 p2 bq c3
 go_loopg [81] cn (λ g i wr=>∃q:Nat,q<=cn/\g=cn - q/\i=iv q/\Below wg.heap.size wg wr)
 case atStart=>exact⟨0,AO _,rfl,rfl,AF _ _⟩
 case round=>
  obtain⟨q,hq,rfl,rfl,hB⟩:=hrel;have hW:Below w.heap.size w wr:=aw.trans (hB.mono aw.size);have c8:=hB.size;by_cases hlt:q<cn
  .obtain⟨g,o,pc,lc,bc,pn,ln,bn,nm,rs,on,pa,la,ba,rfl,cf,⟨x0,x1,x2,x3,x4,x5,x6⟩,cg,cr,ag,a8⟩:=a7 q wr hlt hB;clear a7;have az:(q:Int)<(cn:Int):=by omega
   have c0:¬(ln:Int)<(pn:Int):=by omega
   obtain⟨wz,w5,av,bv,c5,c9,c4,-,xx,bi⟩:=Tx wr (.string ⟨nm.toArray⟩) (.bool on) (.slice pa pn pc) (.string ⟨rs.toArray⟩) (.slice la ln lc) (.slice ba bn bc) (iv 0);have am:Below wg.heap.size wg w5:=hB.trans (c5.mono hB.size);obtain⟨i0,i1,i2,i3,i4,i5,i6,j0,j1,j2,j3,j4,j5,j6⟩:=Be bi;obtain⟨n0,n1,ak,n3,n4,n5,n6,-⟩:=Be xx;obtain⟨q0,q1,q2,-⟩:=Ag ((am.block _ lg).trans xg);have hA:=ag w5 am;have c7:wr.heap.size<wz.heap.size:=by omega
   have l5:wr.heap.size<w5.heap.size:=by omega
   have co:w4.heap.size<w5.heap.size:=by omega
   clear ag bi;go_wp2_with fail;refine hA.mono ?_;rintro e w6 ⟨rfl,ax⟩;have bb:Below wg.heap.size wg w6:=am.trans (ax.mono am.size);have l6:wr.heap.size<w6.heap.size:=by have:=ax.size;omega
   have aq:=(ax.block _ l5).trans xx;clear i0 i1 i2 i3 i4 i5 i6 j0 j1 j2 j3 j4 j5 j6 n0 n1 ak n3 n4 n5 n6 q0 q1 q2 av bv x0 x1 x2 x3 x4 x5 x6 hA;obtain⟨n0,n1,ak,n3,n4,n5,n6,-⟩:=Be aq;generalize wr.heap.size=b7 at *;go_wp2_with fail;clear n0 n1 ak n3 n4 n5 n6
   go_loopg [104] pn (λ g i wx=>∃j:Nat,j<=pn/\g=pn - j/\i=iv j/\Below w6.heap.size w6 wx)
   case atStart=>exact⟨0,AO _,rfl,rfl,AF _ _⟩
   case round=>
    obtain⟨j,hj,rfl,rfl,hD⟩:=hrel;have ct:=hD.size;have bf:Below wg.heap.size wg wr:=bb.trans (hD.mono bb.size);by_cases hlt2:j<pn
    .obtain⟨g1,o1,g2,o2,t,t0,rfl,rfl,bt,cp,v0,v1,v2,v3⟩:=a8 j wr hlt2 bf;clear a8;have ah:(j:Int)<(pn:Int):=by omega
     have bj:(j:Int)<(ln:Int):=by omega
     obtain⟨wu,w8,ca,ce,b8,cc,bw,yy,be⟩:=Au7 wr (.string ⟨t0.toArray⟩) (.string ⟨t.toArray⟩) (iv 0);obtain⟨i0,i1,i2,j0,j1,j2⟩:=Ar be;obtain⟨n0,n1,ak,-⟩:=Ar yy;have b5:Below w6.heap.size w6 w8:=hD.trans (b8.mono hD.size);obtain⟨a0,a1,a2,a3,a4,a5,a6,-⟩:=Be ((b5.block _ l6).trans aq);have V0:=((bcell b8).1 g1 (o1+j) bt).trans v0;have lu:wr.heap.size<wu.heap.size:=by omega
     have l8:wr.heap.size<w8.heap.size:=by omega
     have cj:b7<w8.heap.size:=by omega
     have cl:g1<w8.heap.size:=by omega
     clear aq xx yy be;go_wp2_with fail
     go_quiet (fail)
     go_wp2;go_roundg (pn - (j+1))
     case measure=>omega
     case rel=>exact⟨j+1,by omega,rfl,by go_num,Lh b5 _⟩
    .have ah:¬(j:Int)<(pn:Int):=by omega
     clear a8;go_wp2_with fail;go_roundg (cn - (q+1))
     case measure=>omega
     case rel=>exact⟨q+1,by omega,rfl,by go_num,bf⟩
  .have az:¬(q:Int)<(cn:Int):=by omega
   clear a7;go_wp2_with fail;go_ret;exact⟨rfl,hW⟩
end
end Go.Proofs.YtpckmjfabiallaaGreatDoor
