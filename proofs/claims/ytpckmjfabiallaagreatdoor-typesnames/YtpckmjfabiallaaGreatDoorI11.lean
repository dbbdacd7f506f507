/- Texts of ours, joined. -/
import Derived.Test.YtpckmjfabiallaaGreatDoorI06
import Derived.Test.YtpckmjfabiallaaGreatDoorI04
set_option linter.unusedVariables false
set_option linter.unusedSimpArgs false
set_option maxRecDepth 100000
set_option maxHeartbeats 16000000
namespace Go.Proofs.YtpckmjfabiallaaGreatDoor
variable{b g ga p sz:Nat}{w w' w1:World}{xs:List Value}
open Tryz
section
open Go.RowKit
theorem pfaultOf_any(a er:Nat)(w:World):AA 20 #[.iface 88 (.agg #[iv a,iv er])] w λ e w'=>e=.returned (.tuple #[iv a,iv er])/\Below w w w':=by
 have a0:∀w1:World,(Instr.typeAssert (.iface 88 (.agg #[iv a,iv er])) 20 88 false).run prog w1=.ok (.agg #[iv a,iv er]) w1:=λ _=>by kernel_rfl
 go_enter func20,ntmps20;go_wp2
 go_quiet (fail)
 go_wp2
 go_ret2
 exact⟨rfl,below_drewN ((AF _ _).alloc (AD _) _) _⟩
theorem R8(p q r:Addr)(w:World) :
  CallsD prog 19 #[.pointer (some p),.pointer (some q),.pointer (some r)] .returning w λ e u' w'=>e=.returned (.tuple #[])/\u'=.returning/\w'=w:=by
 refine callsD_of_wpS func19 rfl λ c₀ cs hu=>?_
 apply wpS_seq;apply wpS_region;simp[wpOpsS,go_sem,recoverD,hu,ntmps19,Exit.thenS];refine wpS_of_wp ?_;go_wp2;cases c₀
 simp_all [bodyPostS,results,results19]
abbrev Eq(v:Nat):Obj:=.cells #[iv v] 3 (0,0)
abbrev Cr(v:Nat):Obj:=.cells #[iv v] 27 (0,0)
theorem M0(p g1 g2 a er v1 v2:Nat)(a7:p<g1)(a8:g1<g2)(older:List PanicEntry)(w:World)(hp:w.heap[p]?=Cn)(hq:w.heap[g1]?=some (Eq v1))(hr:w.heap[g2]?=some (Cr v2)) :
  CallsD prog 19 #[pt p 0,pt g1 0,pt g2 0] (.panicking ({ v:=.iface 88 (.agg #[iv a,iv er]),recovered:=false } :: older)) w λ e u' w'=>
   e=.returned (.tuple #[])/\u'=.panicking ({ v:=.iface 88 (.agg #[iv a,iv er]),recovered:=true } :: older) /\
   w'.heap[p]?=Cn/\w'.heap[g1]?=some (Eq a)/\w'.heap[g2]?=some (Cr er)/\Below p w w':=by
 refine callsD_of_wpS func19 rfl λ c₀ cs hu=>?_
 apply wpS_seq;apply wpS_region;simp[wpOpsS,go_sem,recoverD,hu,ntmps19,Exit.thenS];refine wpS_of_wp ?_;have lp:p<w:=(AB hp).1;have lq:g1<w:=(AB hq).1;have lr:g2<w:=(AB hr).1;obtain⟨x0,x1,x2,f0,f1,f2⟩:=Ad hp;have hW:=K6 hp (iv (0:Nat)) sZ sZ;have a0:∀k,k≠p->(w3 w p (iv (0:Nat)) sZ sZ).heap[k]?=w.heap[k]?:=λ k hk=>C9 hk _ _ _
 have a5:=Gv w p (iv (0:Nat)) sZ sZ;have a3:Below p w (w3 w p (iv (0:Nat)) sZ sZ):=Ec (AF _ _) (AD _) _ _ _;have e1:∀w1,Below (w3 w p (iv (0:Nat)) sZ sZ).heap.size (w3 w p (iv (0:Nat)) sZ sZ) w1 ->
   w1.cell? g1=iv v1/\w1.frozen? g1=false/\w1.cell? g2=iv v2/\w1.frozen? g2=false/\g1<w1/\g2<w1 /\
   ((w1.setCell g1 (iv a)).setCell g2 (iv er)).heap[p]?=Cn/\((w1.setCell g1 (iv a)).setCell g2 (iv er)).heap[g1]?=some (Eq a)/\((w1.setCell g1 (iv a)).setCell g2 (iv er)).heap[g2]?=some (Cr er)/\Below p w ((w1.setCell g1 (iv a)).setCell g2 (iv er)):=by
  intro w1 hb;have hz:=hb.size;have b1:w1.heap[g1]?=some (Eq v1):=(hb.block g1 (by omega)).trans ((a0 g1 (by omega)).trans hq);have b2:w1.heap[g2]?=some (Cr v2):=(hb.block g2 (by omega)).trans ((a0 g2 (by omega)).trans hr);have b0:w1.heap[p]?=Cn:=(hb.block p (by omega)).trans hW;refine⟨cell_of_one b1,free_of_one b1,cell_of_one b2,free_of_one b2,by omega,by omega,?_,?_,?_,?_⟩
  .rw[Below.heap_setCell _ _ _ _ (by show p≠g2;omega),Below.heap_setCell _ _ _ _ (by show p≠g1;omega)];exact b0
  .rw[Below.heap_setCell _ _ _ _ (by show g1≠g2;omega)];simp[World.setCell,Array.getElem?_modify,b1]
  .have:(w1.setCell g1 (iv a)).heap[g2]?=some (Cr v2):=(AG _ _ _ _ (by show g2≠g1;omega)).trans b2;simp[World.setCell,Array.getElem?_modify] at this ⊢;simp[this]
  .exact ((a3.trans (hb.mono (by omega))).setCell (p:=⟨g1,0,none⟩) (by show p<=g1;omega) _).setCell (p:=⟨g2,0,none⟩) (by show p<=g2;omega) _
 clear hW a0 a5 a3;go_wp2_with (go_at_call 20;refine (pfaultOf_any a er _).mono ?_;rintro e w1 ⟨rfl,a4⟩;obtain⟨k1,k2,k3,k4,k5,k6,r1,r2,r3,r4⟩:=e1 w1 a4);have a6:=And.intro r1 (And.intro r2 (And.intro r3 r4));clear e1 a4 k1 k2 k3 k4 k5 k6 r1 r2 r3 r4 hp hq hr x0 x1 x2 f0 f1 f2;generalize ((w1.setCell g1 (iv a)).setCell g2 (iv er))=w2 at *;cases c₀
 simp_all [bodyPostS,results,results19]
abbrev Cm(w:World):World:=((w.alloc Cn).alloc (Eq 0)).alloc (Cr 0)
theorem Ea(w:World):Below w w (Cm w):=(((AF _ _).alloc (AD _) _).alloc (by simp) _).alloc (by simp;omega) _
theorem N8{v0 v1 v2:Nat}{s0 f0:Value}(b1:w1.heap[p]?=prO v0 s0 f0)(b2:w1.heap[p+1]?=some (Eq v1))(b3:w1.heap[p+1+1]?=some (Cr v2))(hB:Below p w w1)(a er v ss fs:Value) :
  ∃wF,wF=(((w3 w1 p v ss fs).setCell ⟨p+1,0,none⟩ a).setCell ⟨p+1+1,0,none⟩ er)/\wF.heap[p]?=some (.cells #[v,ss,fs] 26 (0,0))/\wF.heap[p+1]?=some (.cells #[a] 3 (0,0))/\wF.heap[p+1+1]?=some (.cells #[er] 27 (0,0))/\Below p w wF/\wF=w1.heap.size/\∀k,p+2<k->wF.heap[k]?=w1.heap[k]?:=by
 refine⟨_,rfl,?_,?_,?_,?_,?_,?_⟩
 .rw[Below.heap_setCell _ _ _ _ (by show p≠p+1+1;omega),Below.heap_setCell _ _ _ _ (by show p≠p+1;omega)];exact K6 b1 _ _ _
 .rw[Below.heap_setCell _ _ _ _ (by show p+1≠p+1+1;omega)];have:(w3 w1 p v ss fs).heap[p+1]?=some (Eq v1):=(C9 (by omega) _ _ _).trans b2;generalize w3 w1 p v ss fs=wX at *;simp[World.setCell,Array.getElem?_modify,this]
 .have:((w3 w1 p v ss fs).setCell ⟨p+1,0,none⟩ a).heap[p+1+1]?=some (Cr v2):=(AG _ _ _ _ (by show p+1+1≠p+1;omega)).trans ((C9 (by omega) _ _ _).trans b3);generalize (w3 w1 p v ss fs).setCell ⟨p+1,0,none⟩ a=wX at *;simp[World.setCell,Array.getElem?_modify,this]
 .exact ((Ec hB (AD _) _ _ _).setCell (p:=⟨p+1,0,none⟩) (by show p<=p+1;omega) _).setCell (p:=⟨p+1+1,0,none⟩) (by show p<=p+1+1;omega) _
 .simp[World.setCell]
 .intro k hk;rw[Below.heap_setCell _ _ _ _ (by show k≠p+1+1;omega),Below.heap_setCell _ _ _ _ (by show k≠p+1;omega)];exact C9 (by omega) _ _ _
theorem Gc(w:World):(Cm w).heap.size=w.heap.size+3:=by simp
theorem Hh(w:World):(Cm w).heap[w.heap.size]?=Cn/\(Cm w).heap[w.heap.size+1]?=some (Eq 0)/\(Cm w).heap[w.heap.size+1+1]?=some (Cr 0):=by
 refine⟨?_,?_,?_⟩
 .rw[Al (by simp;omega),Al (by simp)];exact heap_new w _
 .rw[Al (by simp)];have:=heap_new (w.alloc Cn) (Eq 0);simpa using this
 .have:=heap_new ((w.alloc Cn).alloc (Eq 0)) (Cr 0);simpa using this
theorem Us(s:ByteArray)(w:World)(a3:Env w)(hm:s.size<=maxLen)(hq:(34:UInt8) ∉ s.data.toList)(a er:Nat)(hl:Lx.lex true s.data.toList=.inr (a,er))(h0:er≠0) :
  AA 9 #[.string s] w λ e w'=>e=.returned (.tuple #[Jf,iv a,iv er])/\Below w w w':=by
 have hL:=Vw s (Cm w) (a3.below (Ea w) a3.lt) hm hq;rw[show dotC=true from rfl,hl] at hL;replace hL:AA 18 #[.string s] (Cm w) λ e w'=>e=.returned (.tuple #[sZ,iv a,iv er])/\Below (Cm w).heap.size (Cm w) w':=hL
 have a9:((er:Int) != 0)=true:=by simp;omega
 have a0:∀w1,Below (Cm w).heap.size (Cm w) w1->w1.heap[w.heap.size]?=Cn/\w1.heap[w.heap.size+1]?=some (Eq 0)/\w1.heap[w.heap.size+1+1]?=some (Cr 0)/\w.heap.size+3<=w1.heap.size/\Below w w w1:=by
  intro w1 hb;have hz:=Gc w;have hs:=hb.size;obtain⟨b1,b2,b3⟩:=Hh w;exact⟨(hb.block _ (by omega)).trans b1,(hb.block _ (by omega)).trans b2,(hb.block _ (by omega)).trans b3,by omega,(Ea w).trans (hb.mono (by omega))⟩
 go_enter_defers func9,ntmps9
 go_wp2_with fail
 refine hL.mono ?_;rintro e w1 ⟨rfl,a6⟩;obtain⟨b1,b2,b3,hz,hB⟩:=a0 w1 a6;have c1:=cell_of_one b2;have f1:=free_of_one b2;have c2:=cell_of_one b3;have f2:=free_of_one b3;obtain⟨x0,x1,x2,k0,k1,k2⟩:=Ad b1;have l1:w<w1.heap.size:=by omega
 have l2:w.heap.size+1<w1.heap.size:=by omega
 have l3:w.heap.size+1+1<w1.heap.size:=by omega
 have hY:∃w2,w2=(w1.setCell ⟨w.heap.size+1,0,none⟩ (iv a)).setCell ⟨w.heap.size+1+1,0,none⟩ (iv er)/\w2.heap[w.heap.size]?=Cn/\w2.heap[w.heap.size+1]?=some (Eq a)/\w2.heap[w.heap.size+1+1]?=some (Cr er)/\Below w w w2/\w2=w1.heap.size:=by
  refine⟨_,rfl,?_,?_,?_,?_,?_⟩
  .rw[Below.heap_setCell _ _ _ _ (by show w≠w.heap.size+1+1;omega),Below.heap_setCell _ _ _ _ (by show w≠w.heap.size+1;omega)];exact b1
  .rw[Below.heap_setCell _ _ _ _ (by show w.heap.size+1≠w.heap.size+1+1;omega)];simp[World.setCell,Array.getElem?_modify,b2]
  .have:(w1.setCell ⟨w.heap.size+1,0,none⟩ (iv a)).heap[w.heap.size+1+1]?=some (Cr 0):=(AG _ _ _ _ (by show w.heap.size+1+1≠w.heap.size+1;omega)).trans b3;generalize w1.setCell ⟨w.heap.size+1,0,none⟩ (iv a)=wX at *;simp[World.setCell,Array.getElem?_modify,this]
  .exact (hB.setCell (p:=⟨w.heap.size+1,0,none⟩) (by show w<=w.heap.size+1;omega) _).setCell (p:=⟨w.heap.size+1+1,0,none⟩) (by show w<=w.heap.size+1+1;omega) _
  .simp[World.setCell]
 clear hL a0 a6 b1 b2 b3 hB;go_wp2;obtain⟨w2,a5,d1,d2,d3,a8,a7⟩:=hY;rw[<-a5];clear a5 c1 f1 c2 f2 x0 x1 x2 k0 k1 k2;have c1:=cell_of_one d2;have f1:=free_of_one d2;have c2:=cell_of_one d3;have f2:=free_of_one d3;obtain⟨x0,x1,x2,k0,k1,k2⟩:=Ad d1;rw[<-a7] at l1 l2 l3;have hX:=N8 (w1:=w2) (p:=w.heap.size) d1 d2 d3 a8 (iv a) (iv er) (iv 0) sZ sZ
 go_region
 all_goals
  go_wp2;obtain⟨wF,a4,r1,r2,r3,aa,_,_⟩:=hX;have u1:=cell_of_one r2;have u2:=cell_of_one r3;obtain⟨v0,v1,v2,_⟩:=Ad r1;rw[<-a4];clear a4;simp[bodyPostD,Leaves,settle,results,results9,go_sem,u1,u2,v0,v1,v2];exact aa.trans ⟨rfl,rfl,rfl,AD _,λ _ _=>rfl⟩
theorem Af3{cap:Nat}{ts:List Lx.Tok}(hb:w.heap[b]?=some (.cells #[sL ga 0 ts.length cap] 55 (0,0)))(a3:Zw w ga ts)(hg:ga<w)(a4:ga≠b)(hc:ts.length<=cap)(hm:cap<=maxLen)(a0:Px.Good ts)(ht:∀t∈ts,Xt t)(hf:ts.length<=4096):Ps b ga ts w:=
 ⟨a0,ht,⟨0,cap,hb,hc,hm,λ k t hk=>by simpa using a3 k t hk⟩,hg,a4,hf⟩
theorem J3{n:Nat}(h:Fo b n w w')(hb:n<=b):Below n w w':=⟨h.os,h.tape,h.output,h.size,λ k hk=>h.block k hk (by omega)⟩
theorem Aw0{base:Nat}{e:TypeId}{n cap:Nat}(h:w.ownsRow base e sz (sL g 0 n cap) n xs):cap<=maxLen:=by
 rcases h.2 with⟨hv,_⟩ | ⟨g',a0,cur,hv,_,_,_,hc,_⟩
 .simp at hv
 .simp at hv;omega
theorem Sa(s:ByteArray)(w:World)(a7:Env w)(hm:s.size<=maxLen)(hq:(34:UInt8) ∉ s.data.toList)(ts:List Lx.Tok)(hl:Lx.lex true s.data.toList=.inl ts) :
  AA 9 #[.string s] w λ e w'=>N7 (match Px.program ts with | .inl (p,_)=>.inl p | .inr x=>.inr x) w e w':=by
 obtain⟨res,a0⟩:∃res:Px.Pr ⊕ (Nat × Nat),Aside (res=match Px.program ts with | .inl (p,_)=>.inl p | .inr x=>.inr x):=⟨_,rfl⟩;rw[<-a0.out];have bb:∀(fn:Fn) (first cap:Array Value) (w:World),(Instr.makeFunc fn first cap).run prog w=.ok (.func fn first cap) w:=λ _ _ _ _=>rfl
 have hL:=Vw s (Cm w) (a7.below (Ea w) a7.lt) hm hq;rw[show dotC=true from rfl,hl] at hL;replace hL:AA 18 #[.string s] (Cm w) λ e w'=>(∃v,e=.returned (.tuple #[v,iv 0,iv 0])/\w'.ownsRow (Cm w).heap.size 93 4 v ts.length (Dy ts))/\Below (Cm w).heap.size (Cm w) w':=hL
 have a6:=Q1 hl;have aa:=Zy hl;have aj:=Vz hl;have af:=(D8 hl).1;have a5:∀w1,Below (Cm w).heap.size (Cm w) w1->w1.heap[w.heap.size]?=Cn/\w1.heap[w.heap.size+1]?=some (Eq 0)/\w1.heap[w.heap.size+1+1]?=some (Cr 0)/\w.heap.size+3<=w1.heap.size/\Below w w w1:=by
  intro w1 hb;have hz:=Gc w;have hs:=hb.size;obtain⟨b1,b2,b3⟩:=Hh w;exact⟨(hb.block _ (by omega)).trans b1,(hb.block _ (by omega)).trans b2,(hb.block _ (by omega)).trans b3,by omega,(Ea w).trans (hb.mono (by omega))⟩
 have az:=Gc w
 go_enter_defers func9,ntmps9
 go_wp2_with fail
 refine hL.mono ?_;rintro e w1 ⟨⟨v,rfl,a4⟩,au⟩;obtain⟨b1,b2,b3,hz,hB⟩:=a5 w1 au;obtain⟨ga,cap,rfl,b8,b7,ad,a9⟩:=Xs a4 af;have ay:=Aw0 a4;have c1:=cell_of_one b2;have f1:=free_of_one b2;have c2:=cell_of_one b3;have f2:=free_of_one b3;have l1:w<w1.heap.size:=by omega
 have l2:w.heap.size+1<w1.heap.size:=by omega
 have l3:w.heap.size+1+1<w1.heap.size:=by omega
 have hY:∃w2,w2=((w1.setCell ⟨w.heap.size+1,0,none⟩ (iv 0)).setCell ⟨w.heap.size+1+1,0,none⟩ (iv 0)).alloc (.cells #[sL ga 0 ts.length cap] 55)/\w2.heap[w.heap.size]?=Cn/\w2.heap[w.heap.size+1]?=some (Eq 0)/\w2.heap[w.heap.size+1+1]?=some (Cr 0)/\Below w w w2/\w2=w1.heap.size+1/\Ps w1 ga ts w2:=by
  have a8:∀k,k≠w.heap.size+1->k≠w.heap.size+1+1->((w1.setCell ⟨w.heap.size+1,0,none⟩ (iv 0)).setCell ⟨w.heap.size+1+1,0,none⟩ (iv 0)).heap[k]?=w1.heap[k]?:=λ k h1 h2=>(AG _ _ _ _ h2).trans (AG _ _ _ _ h1)
  have e2:((w1.setCell ⟨w.heap.size+1,0,none⟩ (iv 0)).setCell ⟨w.heap.size+1+1,0,none⟩ (iv 0)).heap[w.heap.size+1]?=some (Eq 0):=by
   rw[Below.heap_setCell _ _ _ _ (by show w.heap.size+1≠w.heap.size+1+1;omega)];simp[World.setCell,Array.getElem?_modify,b2]
  have e3:((w1.setCell ⟨w.heap.size+1,0,none⟩ (iv 0)).setCell ⟨w.heap.size+1+1,0,none⟩ (iv 0)).heap[w.heap.size+1+1]?=some (Cr 0):=by
   have:(w1.setCell ⟨w.heap.size+1,0,none⟩ (iv 0)).heap[w.heap.size+1+1]?=some (Cr 0):=(AG _ _ _ _ (by show w.heap.size+1+1≠w.heap.size+1;omega)).trans b3;generalize w1.setCell ⟨w.heap.size+1,0,none⟩ (iv 0)=wX at *;simp[World.setCell,Array.getElem?_modify,this]
  have ae:((w1.setCell ⟨w.heap.size+1,0,none⟩ (iv 0)).setCell ⟨w.heap.size+1+1,0,none⟩ (iv 0)).heap.size=w1.heap.size:=by simp[World.setCell]
  have ax:Below w w ((w1.setCell ⟨w.heap.size+1,0,none⟩ (iv 0)).setCell ⟨w.heap.size+1+1,0,none⟩ (iv 0)):=(hB.setCell (p:=⟨w.heap.size+1,0,none⟩) (by show w<=w.heap.size+1;omega) _).setCell (p:=⟨w.heap.size+1+1,0,none⟩) (by show w<=w.heap.size+1+1;omega) _;generalize (w1.setCell ⟨w.heap.size+1,0,none⟩ (iv 0)).setCell ⟨w.heap.size+1+1,0,none⟩ (iv 0)=wX at *;have ab:=heap_new wX (.cells #[sL ga 0 ts.length cap] 55);rw[ae] at ab;refine⟨_,rfl,(Al (by omega)).trans ((a8 _ (by omega) (by omega)).trans b1),(Al (by omega)).trans e2,(Al (by omega)).trans e3,ax.alloc (by omega) _,by simp[ae],Af3 ab ?_ (by simp[ae];omega) (by omega) ad ay a6 aa aj⟩;intro k t hk;have hc:∀j,(wX.alloc (.cells #[sL ga 0 ts.length cap] 55)).cell? ⟨ga,j,none⟩=w1.cell? ⟨ga,j,none⟩:=λ j=>World.cell?_of_block (w:=w1) ((Al (by show ga<_;omega)).trans (a8 ga (by omega) (by omega)))
  rw[hc,hc,hc,hc];exact a9 k t hk
 clear hL a5 au b1 b2 b3 hB a9 a4 az
 go_upto_region 6 with fail
 obtain⟨w2,ak,d1,d2,d3,al,b9,b0⟩:=hY;rw[<-ak];clear ak c1 f1 c2 f2;have b6:w.heap.size+2<w1.heap.size:=by omega
 generalize w1.heap.size=b at *;have hC:=Pu b0;rcases hq:Px.program ts with⟨p,l'⟩ | ⟨a,er⟩
 .rw[hq] at hC;go_wp2_with fail;refine hC.mono ?_;rintro e w4 ⟨v,rfl,ai,aw,a3⟩;obtain⟨sa,sn,sc,fa,fn,fc,rfl⟩:=ai.cells;have g1:=(a3.block _ (by omega) (by omega)).trans d1;have g2:=(a3.block _ (by omega) (by omega)).trans d2;have g3:=(a3.block _ (by omega) (by omega)).trans d3;have ag:Below w w w4:=al.trans (J3 (a3.mono (by omega)) (by omega));have bc:=a3.size;have ba:w<w4.heap.size:=by omega
  have bg:w.heap.size+1<w4.heap.size:=by omega
  have bf:w.heap.size+1+1<w4.heap.size:=by omega
  have c1:=cell_of_one g2;have f1:=free_of_one g2;have c2:=cell_of_one g3;have f2:=free_of_one g3;obtain⟨x0,x1,x2,k0,k1,k2⟩:=Ad g1;have hX:=N8 (p:=w.heap.size) g1 g2 g3 ag (iv 0) (iv 0) (iv p.version) (.slice sa sn sc) (.slice fa fn fc);clear hC a3 aw;replace a0:Aside (res=.inl p):=by
   show _=_;rw[a0.out,hq]
  clear hq;go_wp2;refine leaves_cons (f:=19) (args:=#[pt w 0,pt (w.heap.size+1) 0,pt (w.heap.size+1+1) 0]) (by simp) (by simp[go_sem]) ?_;refine (R8 _ _ _ _).mono ?_;rintro e u' w'' ⟨rfl,rfl,rfl⟩;obtain⟨wF,am,r1,r2,r3,av,b5,ar⟩:=hX;have u1:=cell_of_one r2;have u2:=cell_of_one r3;obtain⟨v0,v1,v2,_⟩:=Ad r1;have b4:Ez (From w) wF p (.agg #[iv p.version,.slice sa sn sc,.slice fa fn fc]):=(ai.since ⟨by omega,λ k hk _=>ar k (by have:w2.heap.size<=k:=hk;omega)⟩).base (Cb (by omega));rw[<-am];clear am ar ai;simp[Leaves,settle,results,results9,go_sem,u1,u2,v0,v1,v2];rw[a0.out];exact⟨⟨_,rfl,b4⟩,av⟩
 .rw[hq] at hC;replace a0:Aside (res=.inr (a,er)):=by
   show _=_;rw[a0.out,hq]
  clear hq;go_wp2_with fail;refine hC.mono ?_;rintro e w4 ⟨rfl,a3⟩;have g1:=(a3.block _ (by omega) (by omega)).trans d1;have g2:=(a3.block _ (by omega) (by omega)).trans d2;have g3:=(a3.block _ (by omega) (by omega)).trans d3;have ag:Below w w w4:=al.trans (J3 (a3.mono (by omega)) (by omega));clear hC a3;refine leaves_cons (f:=19) (args:=#[pt w 0,pt (w.heap.size+1) 0,pt (w.heap.size+1+1) 0]) (by simp) (by simp[go_sem]) ?_;refine (M0 w (w.heap.size+1) (w.heap.size+1+1) a er 0 0 (by omega) (by omega) [] _ g1 g2 g3).mono ?_;rintro e u' w'' ⟨rfl,rfl,r1,r2,r3,aq⟩;have ah:Below w w w'':=ag.trans aq;have u1:=cell_of_one r2;have u2:=cell_of_one r3;obtain⟨v0,v1,v2,_⟩:=Ad r1;clear r1 r2 r3 aq;simp[Leaves,settle,results,results9,go_sem,u1,u2,v0,v1,v2];rw[a0.out];exact⟨rfl,ah⟩
theorem Hs(s:ByteArray)(w:World)(a0:Env w)(hm:s.size<=maxLen)(hq:(34:UInt8) ∉ s.data.toList):AA 9 #[.string s] w λ e w'=>N7 (Px.parse s.data.toList) w e w':=by
 unfold Px.parse;rcases hl:Lx.lex true s.data.toList with ts | ⟨a,er⟩
 .exact Sa s w a0 hm hq ts hl
 .have hp:Px.parse s.data.toList=.inr (a,er):=by unfold Px.parse;rw[hl]
  have h0:er≠0:=by
   rcases parse_bad_cases hp with h | ⟨ts,h,_⟩
   .exact h.2.1
   .rw[hl] at h;simp at h
  exact Us s w a0 hm hq a er hl h0
end
end Go.Proofs.YtpckmjfabiallaaGreatDoor
