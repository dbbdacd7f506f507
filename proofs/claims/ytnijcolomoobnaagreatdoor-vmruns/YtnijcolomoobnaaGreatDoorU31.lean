/- Texts of ours, joined. -/
import Derived.Test.YtnijcolomoobnaaGreatDoorU27
set_option linter.unusedVariables false
set_option linter.unusedSimpArgs false
set_option maxRecDepth 100000
set_option maxHeartbeats 16000000
namespace Go.Proofs.YtnijcolomoobnaaGreatDoor
section
open Go.RowKit
attribute [local go_sem ↓] Go.wp_at_zero Go.wp_at_succ
theorem A0{w:World}{g:Nat}{y0 y1 y2 y3 y4 y5:Value}{T:TypeId}(h:w.heap[g]?=some (.cells #[y0,y1,y2,y3,y4,y5] T (0,0))):w.cell? ⟨g,0,none⟩=some y0∧w.cell? ⟨g,1,none⟩=some y1∧w.cell? ⟨g,2,none⟩=some y2∧w.cell? ⟨g,3,none⟩=some y3∧w.cell? ⟨g,4,none⟩=some y4∧w.cell? ⟨g,5,none⟩=some y5∧g<w.heap.size:=by
 refine⟨?_,?_,?_,?_,?_,?_,(Array.getElem?_eq_some_iff.1 h).1⟩
 all_goals simp[World.cell?,h]
theorem Yj(w:World)(x0 x1 x2 x3 x4 x5:Value)(T:TypeId):∃w0,w.alloc (.cells #[x0,x1,x2,x3,x4,x5] T)=w0∧Below w.heap.size w w0∧w0.heap.size=w.heap.size+1∧w0.heap[w.heap.size]?=some (.cells #[x0,x1,x2,x3,x4,x5] T (0,0)):=
 ⟨_,rfl,(Below.refl _ _).alloc (Nat.le_refl _) _,by simp,Ai _ _⟩
theorem On{B:Nat->Prop}{v:V}{sa sb:Value}{e f:Int}{w:World}(ha:IsW B w v sa)(hb:IsW B w v sb) :
  Calls Tryz.prog 14 #[.agg #[iv v.k,iv v.n,bz v.t,sa,iv e,iv f],.agg #[iv v.k,iv v.n,bz v.t,sb,iv e,iv f]] w fun r w'=>r=.returned (.bool true)∧Below w.heap.size w w':=by
 obtain⟨w0,hW0,hb0,hl0,hx0⟩:=Yj w (iv v.k) (iv v.n) (bz v.t) sa (iv e) (iv f) 35;obtain⟨w1,hW1,hb1,hl1,hx1⟩:=Yj w0 (iv v.k) (iv v.n) (bz v.t) sb (iv e) (iv f) 35;have hB1:Below w.heap.size w w1:=hb0.trans (hb1.mono hb0.size);have hlt:w.heap.size<w0.heap.size:=by omega
 obtain⟨c0,c1,c2,c3,c4,c5,-⟩:=A0 ((hb1.block _ hlt).trans hx0);obtain⟨d0,d1,d2,d3,d4,d5,hl⟩:=A0 hx1;have hlt1:w.heap.size<w1.heap.size:=by omega
 have h:=Dk (ha.below hB1) (hb.below hB1);rw[Dj] at h;have he:(e == e)=true:=by simp
 have hf:(f == f)=true:=by simp
 obtain⟨aa,ca,rfl,a1,a2⟩:=ha.vs.slice;obtain⟨ab,cb,rfl,b1,b2⟩:=hb.vs.slice;clear ha hb hx0 hx1 hl0 hl1;go_enter Tryz.func14,Tryz.ntmps14;go_wp2_with fail;refine h.mono ?_;rintro r w3 ⟨rfl,hb3⟩;go_wp2;go_ret;exact⟨rfl,hB1.trans (hb3.mono hB1.size)⟩
def RSd(v:V)(r:Ending):Prop:=∃b:Bool,r=.returned (.bool b)∧(b=true↔Sd v)
def SdH(v:V):Prop:=1<=v.k∧v.k<=5∧(v.k≠3->v.t=[])∧(2<v.k->v.n=0)∧(v.k<4->v.l=[])
theorem Fa{v:V}:Sd v↔SdH v∧(v.k=5->Cy v.l∧v.l.length % 2=0∧v.l.length<=128)∧(v.k=2->v.n=0∨v.n=1)∧(v.k=3->v.t.length<=256)∧(v.k=4->v.l.length<=64)∧∀x∈v.l,Sd x:=by
 obtain⟨k,n,t,l⟩:=v;rw[Bd];unfold SdH;simp only[V.k,V.n,V.t,V.l,and_assoc]
theorem Jf{v:V}(h:¬Sd v):RSd v (.returned (.bool false)):=⟨false,rfl,by simp[h]⟩
theorem La{v:V}(h:Sd v):RSd v (.returned (.bool true)):=⟨true,rfl,by simp[h]⟩
theorem M3{B:Nat->Prop}{v:V}{ao:Option Addr}{cap:Nat}{w:World}(hv:IsW B w v (.slice ao v.l.length cap))(h:¬SdH v) :
  Calls Tryz.prog 24 #[.agg #[iv v.k,iv v.n,bz v.t,.slice ao v.l.length cap]] w fun r w'=>RSd v r∧Below w.heap.size w w':=by
 have hno:RSd v (.returned (.bool false)):=Jf (fun hs=>h (Fa.1 hs).1);obtain⟨w0,hW,hb0,hsz,d0,d1,d2,d3⟩:=Aw w v (.slice ao v.l.length cap);have hgb:w.heap.size<w0.heap.size:=by omega
 by_cases c1:v.k<1
 ·clear hv h hsz;go_enter Tryz.func24,Tryz.ntmps24;go_wp2;go_ret;exact⟨hno,hb0⟩
 by_cases c2:5<v.k
 ·clear hv h hsz;go_enter Tryz.func24,Tryz.ntmps24;go_wp2;go_ret;exact⟨hno,hb0⟩
 by_cases c3:v.k≠3∧v.t≠[]
 ·have e1:(v.k != 3)=true:=by simpa using c3.1
  have e2:(v.t == [])=false:=by simpa using c3.2
  clear hv h hsz c3;go_enter Tryz.func24,Tryz.ntmps24;go_wp2;go_ret;exact⟨hno,hb0⟩
 have e3:(v.k != 3)=false∨((v.k != 3)=true∧(v.t == [])=true):=by
  by_cases h3:v.k=3
  ·exact Or.inl (by simp[h3])
  ·exact Or.inr ⟨by simpa using h3,by simpa using Classical.not_not.1 (fun ht=>c3 ⟨h3,ht⟩)⟩
 by_cases c4:2<v.k∧v.n≠0
 ·obtain⟨c4,c5⟩:=c4;have e4:(v.n != 0)=true:=by simpa using c5
  rcases e3 with e3 | ⟨e3,e3'⟩
  all_goals
   clear hv h hsz c3 c5;go_enter Tryz.func24,Tryz.ntmps24;go_wp2;go_ret;exact⟨hno,hb0⟩
 have e4:¬2<v.k∨(2<v.k∧(v.n != 0)=false):=by
  by_cases h3:2<v.k
  ·exact Or.inr ⟨h3,by simpa using Classical.not_not.1 (fun ht=>c4 ⟨h3,ht⟩)⟩
  ·exact Or.inl h3
 have c5:v.k<4∧v.l≠[]:=by
  refine Classical.not_not.1 (fun h5=>h ⟨by omega,by omega,fun h3=>Classical.not_not.1 (fun ht=>c3 ⟨h3,ht⟩),fun h3=>Classical.not_not.1 (fun ht=>c4 ⟨h3,ht⟩),fun h3=>Classical.not_not.1 (fun ht=>h5 ⟨h3,ht⟩)⟩)
 obtain⟨c5,c6⟩:=c5;have c7:0<(v.l.length:Int):=by
  have:0<v.l.length:=List.length_pos_iff.2 c6;omega
 rcases e3 with e3 | ⟨e3,e3'⟩ <;> rcases e4 with e4 | ⟨e4,e4'⟩
 all_goals
  clear hv h hsz c3 c4 c6;go_enter Tryz.func24,Tryz.ntmps24;go_wp2;go_ret;exact⟨hno,hb0⟩
def SdB(v:V)(q:Nat):Prop:=(∀j x,j<q->v.l[j]?=some x->Sd x)∧(v.k=5->∀j a b,2*j+2<q->v.l[2*j]?=some a->v.l[2*j+2]?=some b->cmpV a b<0)
theorem SdB.zero(v:V):SdB v 0:=⟨fun j x h=>by omega,fun _ j a b h=>by omega⟩
theorem SdB.all{v:V}(h:SdB v v.l.length):(∀x∈v.l,Sd x)∧(v.k=5->Cy v.l):=
 ⟨fun x hx=>by
  obtain⟨j,hj⟩:=List.mem_iff_getElem?.1 hx;exact h.1 j x (List.getElem?_eq_some_iff.1 hj).1 hj,fun h5 i a b ha hb=>h.2 h5 i a b (List.getElem?_eq_some_iff.1 hb).1 ha hb⟩
theorem SdB.next{v x:V}{q:Nat}(h:SdB v q)(hx:v.l[q]?=some x)(hs:Sd x)(h5:v.k=5->∀j a,2*j+2=q->v.l[2*j]?=some a->cmpV a x<0):SdB v (q+1):=by
 refine⟨fun j y hj hy=>?_,fun hk j a b hj ha hb=>?_⟩
 ·by_cases e:j=q
  ·subst e;rw[hx] at hy;exact Option.some.inj hy ▸ hs
  ·exact h.1 j y (by omega) hy
 ·by_cases e:2*j+2=q
  ·rw[e,hx] at hb;exact Option.some.inj hb ▸ h5 hk j a e ha
  ·exact h.2 hk j a b (by omega) ha hb
def SdE(v:V):Prop:=(v.k=5->v.l.length % 2=0∧v.l.length<=128)∧(v.k=2->v.n=0∨v.n=1)∧(v.k=3->v.t.length<=256)∧(v.k=4->v.l.length<=64)
theorem X1{v:V}(hh:SdH v)(h:SdB v v.l.length):SdE v↔Sd v:=by
 rw[Fa];obtain⟨h1,h2⟩:=h.all;unfold SdE;constructor
 ·rintro⟨a,b,c,d⟩;exact⟨hh,fun h5=>⟨h2 h5,a h5⟩,b,c,d,h1⟩
 ·rintro⟨_,a,b,c,d,_⟩;exact⟨fun h5=>(a h5).2,b,c,d⟩
theorem Ub{ao:Option Addr}{cap:Nat}(n:Int)(w:World)(hc:cap<=9223372036854775807) :
  Calls Tryz.prog 24 #[.agg #[iv 1,iv n,.string ⟨#[]⟩,.slice ao 0 cap]] w fun r w'=>RSd (.mk 1 n [] []) r∧Below w.heap.size w w':=by
 obtain⟨w0,hW,hb0,hsz,d0,d1,d2,d3⟩:=Aw w (.mk 1 n [] []) (.slice ao 0 cap);simp only[V.k,V.n,V.t,V.l] at hW d0 d1 d2 d3;have hgb:w.heap.size<w0.heap.size:=by omega
 go_enter Tryz.func24,Tryz.ntmps24;go_wp2_with fail
 go_loopg [47] 0 (fun g i wr=>g=0∧i=iv 0∧wr=w0)
 case atStart=>exact⟨rfl,rfl,rfl⟩
 case round=>
  obtain⟨rfl,rfl,rfl⟩:=hrel;go_wp2;go_ret;exact⟨La (by rw[Bd];refine⟨by omega,by omega,fun _=>rfl,by omega,fun _=>rfl,by omega,by omega,by omega,by omega,by simp⟩),hb0⟩
theorem Uc{ao:Option Addr}{cap:Nat}(n:Int)(w:World)(hc:cap<=9223372036854775807) :
  Calls Tryz.prog 24 #[.agg #[iv 2,iv n,.string ⟨#[]⟩,.slice ao 0 cap]] w fun r w'=>RSd (.mk 2 n [] []) r∧Below w.heap.size w w':=by
 obtain⟨w0,hW,hb0,hsz,d0,d1,d2,d3⟩:=Aw w (.mk 2 n [] []) (.slice ao 0 cap);simp only[V.k,V.n,V.t,V.l] at hW d0 d1 d2 d3;have hgb:w.heap.size<w0.heap.size:=by omega
 by_cases n0:n=0
 ·subst n0;go_enter Tryz.func24,Tryz.ntmps24;go_wp2_with fail
  go_loopg [47] 0 (fun g i wr=>g=0∧i=iv 0∧wr=w0)
  case atStart=>exact⟨rfl,rfl,rfl⟩
  case round=>
   obtain⟨rfl,rfl,rfl⟩:=hrel;go_wp2;go_ret;exact⟨La (by rw[Bd];refine⟨by omega,by omega,fun _=>rfl,by omega,fun _=>rfl,by omega,fun _=>Or.inl rfl,by omega,by omega,by simp⟩),hb0⟩
 by_cases n1:n=1
 ·subst n1;go_enter Tryz.func24,Tryz.ntmps24;go_wp2_with fail
  go_loopg [47] 0 (fun g i wr=>g=0∧i=iv 0∧wr=w0)
  case atStart=>exact⟨rfl,rfl,rfl⟩
  case round=>
   obtain⟨rfl,rfl,rfl⟩:=hrel;go_wp2;go_ret;exact⟨La (by rw[Bd];refine⟨by omega,by omega,fun _=>rfl,by omega,fun _=>rfl,by omega,fun _=>Or.inr rfl,by omega,by omega,by simp⟩),hb0⟩
 have e0:(n == 0)=false:=by simpa using n0
 have e1:(n == 1)=false:=by simpa using n1
 go_enter Tryz.func24,Tryz.ntmps24;go_wp2_with fail
 go_loopg [47] 0 (fun g i wr=>g=0∧i=iv 0∧wr=w0)
 case atStart=>exact⟨rfl,rfl,rfl⟩
 case round=>
  obtain⟨rfl,rfl,rfl⟩:=hrel;go_wp2;go_ret;exact⟨Jf (fun h=>by rw[Bd] at h;rcases h.2.2.2.2.2.2.1 rfl with h | h <;> omega),hb0⟩
theorem Ud{ao:Option Addr}{cap:Nat}(t:List UInt8)(w:World)(hc:cap<=9223372036854775807) :
  Calls Tryz.prog 24 #[.agg #[iv 3,iv 0,.string ⟨t.toArray⟩,.slice ao 0 cap]] w fun r w'=>RSd (.mk 3 0 t []) r∧Below w.heap.size w w':=by
 obtain⟨w0,hW,hb0,hsz,d0,d1,d2,d3⟩:=Aw w (.mk 3 0 t []) (.slice ao 0 cap);simp only[V.k,V.n,V.t,V.l] at hW d0 d1 d2 d3;have hgb:w.heap.size<w0.heap.size:=by omega
 have hno:RSd (.mk 3 0 t []) (.returned (.bool (decide ((t.length:Int)<=256)))):=by
  refine⟨_,rfl,?_⟩;rw[decide_eq_true_iff,Bd];constructor
  ·intro h;refine⟨by omega,by omega,by omega,fun _=>rfl,fun _=>rfl,by omega,by omega,fun _=>by omega,by omega,by simp⟩
  ·intro h;have:=h.2.2.2.2.2.2.2.1 rfl;omega
 go_enter Tryz.func24,Tryz.ntmps24;go_wp2_with fail
 go_loopg [47] 0 (fun g i wr=>g=0∧i=iv 0∧wr=w0)
 case atStart=>exact⟨rfl,rfl,rfl⟩
 case round=>
  obtain⟨rfl,rfl,rfl⟩:=hrel;go_wp2;go_ret;exact⟨hno,hb0⟩
theorem Ue{v:V}{b:Bool}(hh:SdH v)(hB:SdB v v.l.length)(h:b=true↔SdE v):RSd v (.returned (.bool b)):=⟨b,rfl,h.trans (X1 hh hB)⟩
theorem Uf{B:Nat->Prop}{l:List V}{ao:Option Addr}{cap:Nat}{w:World}(hl:l.length<=1000000)(hcap:l.length<=cap)(hc:cap<=9223372036854775807)(hv:Al B w l (.slice ao l.length cap))
  (ih:∀(x:V) (sl:Value) (w2:World),x∈l->IsW B w2 x sl->Calls Tryz.prog 24 #[.agg #[iv x.k,iv x.n,bz x.t,sl]] w2 fun r w'=>RSd x r∧Below w2.heap.size w2 w') :
  Calls Tryz.prog 24 #[.agg #[iv 4,iv 0,.string ⟨#[]⟩,.slice ao l.length cap]] w fun r w'=>RSd (.mk 4 0 [] l) r∧Below w.heap.size w w':=by
 obtain⟨w0,hW,hb0,hsz,d0,d1,d2,d3⟩:=Aw w (.mk 4 0 [] l) (.slice ao l.length cap);simp only[V.k,V.n,V.t,V.l] at hW d0 d1 d2 d3;have hgb:w.heap.size<w0.heap.size:=by omega
 have hround:∀(q:Nat) (wr:World),q<l.length->Below w0.heap.size w0 wr ->
   ∃x g o ax cx,l[q]?=some x∧ao=some ⟨g,o,none⟩∧g<w.heap.size∧wr.cell? ⟨g,o+q*4,none⟩=some (iv x.k)∧wr.cell? ⟨g,o+q*4+1,none⟩=some (iv x.n)∧wr.cell? ⟨g,o+q*4+2,none⟩=some (bz x.t)∧wr.cell? ⟨g,o+q*4+3,none⟩=some (.slice ax x.l.length cx)∧IsW B wr x (.slice ax x.l.length cx) ∧
    ∀w2,Below wr.heap.size wr w2->Calls Tryz.prog 24 #[.agg #[iv x.k,iv x.n,bz x.t,.slice ax x.l.length cx]] w2 fun r w'=>RSd x r∧Below w2.heap.size w2 w':=by
  intro q wr hq hB;have hx:l[q]?=some l[q]:=List.getElem?_eq_getElem hq;have hBw:Below w.heap.size w wr:=hb0.trans (hB.mono (by omega));obtain⟨g,o,ax,cx,e,_,hg,c0,c1,c2,c3,hw⟩:=hv.get hx;obtain⟨f,-⟩:=Ag hBw;exact⟨l[q],g,o,ax,cx,hx,e,hg,(f _ _ hg).trans c0,(f _ _ hg).trans c1,(f _ _ hg).trans c2,(f _ _ hg).trans c3,hw.below hBw,fun w2 hb2=>ih _ _ w2 (List.getElem_mem hq) ((hw.below hBw).below hb2)⟩
 have Hh:Hid (SdH (.mk 4 0 [] l)):=⟨by show (1:Int)<=4;omega,by show (4:Int)<=5;omega,fun _=>rfl,fun _=>rfl,fun h=>by exact absurd h (by show ¬(4:Int)<4;omega)⟩;clear ih hv;go_enter Tryz.func24,Tryz.ntmps24;go_wp2_with fail
 go_loopg [47] l.length (fun g i wr=>∃q:Nat,q<=l.length∧g=l.length - q∧i=iv q∧Hid (SdB (.mk 4 0 [] l) q)∧Below w0.heap.size w0 wr)
 case atStart=>exact⟨0,Nat.zero_le _,rfl,rfl,SdB.zero _,Below.refl _ _⟩
 case round=>
  obtain⟨q,hq,rfl,rfl,HB,hBr⟩:=hrel;have hBw:Below w.heap.size w wr:=hb0.trans (hBr.mono hb0.size);have hgr:w.heap.size<wr.heap.size:=by have:=hBr.size;omega
  have k0:wr.cell? ⟨w.heap.size,0,none⟩=some (iv 4):=((Ag hBr).1 _ _ (by omega)).trans d0;have k3:wr.cell? ⟨w.heap.size,3,none⟩=some (.slice ao l.length cap):=((Ag hBr).1 _ _ (by omega)).trans d3;by_cases hlt:q<l.length
  ·obtain⟨x,g,o,ax,cx,hx,rfl,hg,c0,c1,c2,c3,hwx,hcall⟩:=hround q wr hlt hBr;have hltI:(q:Int)<(l.length:Int):=by omega
   have hqI:(0:Int)<=(q:Int):=by omega
   have hgw:g<wr.heap.size:=by have:=hBw.size;omega
   have Hx:Hid (l[q]?=some x):=hx;clear hround hx;go_wp2_with fail;have hba:Below wr.heap.size wr (wr.alloc (.cells #[iv x.k,iv x.n,bz x.t,.slice ax x.l.length cx] 31)):=(Below.refl _ _).alloc (Nat.le_refl _) _;refine (hcall _ hba).mono ?_;rintro e w3 ⟨⟨b,rfl,hb⟩,hb3⟩;clear hcall;have hB3:Below wr.heap.size wr w3:=hba.trans (hb3.mono hba.size);have k0':w3.cell? ⟨w.heap.size,0,none⟩=some (iv 4):=((Ag hB3).1 _ _ hgr).trans k0;have hg3:w.heap.size<w3.heap.size:=by have:=hB3.size;omega
   have Hb:Hid (b=true↔Sd x):=hb;clear hb c0 c1 c2 c3;cases b
   ·go_wp2;go_ret;refine⟨Jf (fun h=>?_),hBw.trans (hB3.mono hBw.size)⟩;have:=Hb.out.2 ((Fa.1 h).2.2.2.2.2 x (List.mem_of_getElem? Hx.out));cases this
   ·have HB':Hid (SdB (.mk 4 0 [] l) (q+1)):=HB.out.next Hx.out (Hb.out.1 rfl) (fun h=>by exact absurd h (by show ¬(4:Int)=5;omega));go_wp2_with fail
    go_quiet (fail)
    go_wp2_with fail
    go_roundg (l.length - (q+1))
    case measure=>omega
    case rel=>exact⟨q+1,by omega,rfl,by go_num,HB',(hBr.trans (hB3.mono hBr.size)).trans ⟨rfl,rfl,rfl,Nat.le_refl _,fun _ _=>rfl⟩⟩
  ·have hltI:¬(q:Int)<(l.length:Int):=by omega
   have hqe:q=l.length:=by omega
   subst hqe;have hfin:RSd (.mk 4 0 [] l) (.returned (.bool (decide ((l.length:Int)<=64)))):=Ue Hh.out HB.out (by
    rw[decide_eq_true_iff];unfold SdE;simp only[V.k,V.n,V.t,V.l];constructor
    ·intro h;exact⟨by omega,by omega,by omega,fun _=>by omega⟩
    ·rintro⟨-,-,-,h⟩;have:=h trivial;omega)
   clear hround HB Hh;go_wp2;go_ret;exact⟨hfin,hBw⟩
theorem Ug{B:Nat->Prop}{l:List V}{ao:Option Addr}{cap:Nat}{w:World}(hl:l.length<=1000000)(hcap:l.length<=cap)(hc:cap<=9223372036854775807)(hv:Al B w l (.slice ao l.length cap))
  (ih:∀(x:V) (sl:Value) (w2:World),x∈l->IsW B w2 x sl->Calls Tryz.prog 24 #[.agg #[iv x.k,iv x.n,bz x.t,sl]] w2 fun r w'=>RSd x r∧Below w2.heap.size w2 w') :
  Calls Tryz.prog 24 #[.agg #[iv 5,iv 0,.string ⟨#[]⟩,.slice ao l.length cap]] w fun r w'=>RSd (.mk 5 0 [] l) r∧Below w.heap.size w w':=by
 obtain⟨w0,hW,hb0,hsz,d0,d1,d2,d3⟩:=Aw w (.mk 5 0 [] l) (.slice ao l.length cap);simp only[V.k,V.n,V.t,V.l] at hW d0 d1 d2 d3;have hgb:w.heap.size<w0.heap.size:=by omega
 have hround:∀(q:Nat) (wr:World),q<l.length->Below w0.heap.size w0 wr ->
   ∃x g o ax cx,l[q]?=some x∧ao=some ⟨g,o,none⟩∧g<w.heap.size∧wr.cell? ⟨g,o+q*4,none⟩=some (iv x.k)∧wr.cell? ⟨g,o+q*4+1,none⟩=some (iv x.n)∧wr.cell? ⟨g,o+q*4+2,none⟩=some (bz x.t)∧wr.cell? ⟨g,o+q*4+3,none⟩=some (.slice ax x.l.length cx)∧IsW B wr x (.slice ax x.l.length cx) ∧
    ∀w2,Below wr.heap.size wr w2->Calls Tryz.prog 24 #[.agg #[iv x.k,iv x.n,bz x.t,.slice ax x.l.length cx]] w2 fun r w'=>RSd x r∧Below w2.heap.size w2 w':=by
  intro q wr hq hB;have hx:l[q]?=some l[q]:=List.getElem?_eq_getElem hq;have hBw:Below w.heap.size w wr:=hb0.trans (hB.mono (by omega));obtain⟨g,o,ax,cx,e,_,hg,c0,c1,c2,c3,hw⟩:=hv.get hx;obtain⟨f,-⟩:=Ag hBw;exact⟨l[q],g,o,ax,cx,hx,e,hg,(f _ _ hg).trans c0,(f _ _ hg).trans c1,(f _ _ hg).trans c2,(f _ _ hg).trans c3,hw.below hBw,fun w2 hb2=>ih _ _ w2 (List.getElem_mem hq) ((hw.below hBw).below hb2)⟩
 have Hh:Hid (SdH (.mk 5 0 [] l)):=⟨by show (1:Int)<=5;omega,by show (5:Int)<=5;omega,fun _=>rfl,fun _=>rfl,fun h=>by exact absurd h (by show ¬(5:Int)<4;omega)⟩;clear ih hv;go_enter Tryz.func24,Tryz.ntmps24;go_wp2_with fail
 go_loopg [47] l.length (fun g i wr=>∃q:Nat,q<=l.length∧g=l.length - q∧i=iv q∧Hid (SdB (.mk 5 0 [] l) q)∧Below w0.heap.size w0 wr)
 case atStart=>exact⟨0,Nat.zero_le _,rfl,rfl,SdB.zero _,Below.refl _ _⟩
 case round=>
  obtain⟨q,hq,rfl,rfl,HB,hBr⟩:=hrel;have hBw:Below w.heap.size w wr:=hb0.trans (hBr.mono hb0.size);have hgr:w.heap.size<wr.heap.size:=by have:=hBr.size;omega
  have k0:wr.cell? ⟨w.heap.size,0,none⟩=some (iv 5):=((Ag hBr).1 _ _ (by omega)).trans d0;have k3:wr.cell? ⟨w.heap.size,3,none⟩=some (.slice ao l.length cap):=((Ag hBr).1 _ _ (by omega)).trans d3;by_cases hlt:q<l.length
  ·obtain⟨x,g,o,ax,cx,hx,rfl,hg,c0,c1,c2,c3,hwx,hcall⟩:=hround q wr hlt hBr;have hltI:(q:Int)<(l.length:Int):=by omega
   have hqI:(0:Int)<=(q:Int):=by omega
   have hgw:g<wr.heap.size:=by have:=hBw.size;omega
   have Hx:Hid (l[q]?=some x):=hx;have HR:Hid _:=hround;clear hround hx;go_wp2_with fail;have hba:Below wr.heap.size wr (wr.alloc (.cells #[iv x.k,iv x.n,bz x.t,.slice ax x.l.length cx] 31)):=(Below.refl _ _).alloc (Nat.le_refl _) _;refine (hcall _ hba).mono ?_;rintro e w3 ⟨⟨b,rfl,hb⟩,hb3⟩;clear hcall;have hB3:Below wr.heap.size wr w3:=hba.trans (hb3.mono hba.size);have k0':w3.cell? ⟨w.heap.size,0,none⟩=some (iv 5):=((Ag hB3).1 _ _ hgr).trans k0;have hg3:w.heap.size<w3.heap.size:=by have:=hB3.size;omega
   have Hb:Hid (b=true↔Sd x):=hb;clear hb c0 c1 c2 c3;cases b
   ·go_wp2;go_ret;refine⟨Jf (fun h=>?_),hBw.trans (hB3.mono hBw.size)⟩;have:=Hb.out.2 ((Fa.1 h).2.2.2.2.2 x (List.mem_of_getElem? Hx.out));cases this
   ·have hst:Below w3.heap.size w3 w3:=Below.refl _ _;have hB30:Below w0.heap.size w0 w3:=hBr.trans (hB3.mono hBr.size);have hx3:w3.heap[wr.heap.size]?=some (.cells #[iv x.k,iv x.n,bz x.t,.slice ax x.l.length cx] 31):=(hb3.block _ (by simp)).trans (Ai _ _);obtain⟨x0,x1,x2,x3,-⟩:=Aa hx3;have hw3:wr.heap.size<w3.heap.size:=(Array.getElem?_eq_some_iff.1 hx3).1;have hwx3:=hwx.below hB3;clear hx3;by_cases hodd:q % 2=1
    ·have ht:Int.tmod (q:Int) 2=1:=by rw[Int.tmod_eq_emod_of_nonneg (by omega)];omega
     have hw1:IntKind.i64.wrap 1=1:=by rw[IntKind.wrap_i64];rfl
     have HB':Hid (SdB (.mk 5 0 [] l) (q+1)):=HB.out.next Hx.out (Hb.out.1 rfl) (fun _ j a h=>by omega);clear HR x0 x1 x2 x3 hwx3 hwx hodd;go_wp2_with fail
     go_quiet (fail)
     go_wp2_with fail
     go_roundg (l.length - (q+1))
     case measure=>omega
     case rel=>exact⟨q+1,by omega,rfl,by go_num,HB',hB30.trans ⟨rfl,rfl,rfl,Nat.le_refl _,fun _ _=>rfl⟩⟩
    have ht:Int.tmod (q:Int) 2=0:=by rw[Int.tmod_eq_emod_of_nonneg (by omega)];omega
    have hw1:IntKind.i64.wrap 0=0:=by rw[IntKind.wrap_i64];rfl
    by_cases hq0:q=0
    ·subst hq0;have HB':Hid (SdB (.mk 5 0 [] l) (0+1)):=HB.out.next Hx.out (Hb.out.1 rfl) (fun _ j a h=>by omega);clear HR x0 x1 x2 x3 hwx3 hwx hodd;go_wp2_with fail
     go_quiet (fail)
     go_wp2_with fail
     go_roundg (l.length - (0+1))
     case measure=>omega
     case rel=>exact⟨0+1,by omega,rfl,by go_num,HB',hB30.trans ⟨rfl,rfl,rfl,Nat.le_refl _,fun _ _=>rfl⟩⟩
    obtain⟨m',Hm'⟩:∃m',Hid (q=m'+2):=⟨q - 2,by show _=_;omega⟩;obtain⟨y,g',o',ay,cy,hy,e,-,p0,p1,p2,p3,hwy,-⟩:=HR.out m' w3 (by have:=Hm'.out;omega) hB30;simp only[Option.some.injEq,Addr.mk.injEq] at e;obtain⟨rfl,rfl,-⟩:=e;have hC:∀w2,Below w3.heap.size w3 w2->Calls Tryz.prog 35 #[.agg #[iv y.k,iv y.n,bz y.t,.slice ay y.l.length cy],.agg #[iv x.k,iv x.n,bz x.t,.slice ax x.l.length cx]] w2 fun r w'=>r=.returned (iv (cmpV y x))∧Below w2.heap.size w2 w':=fun w2 hb=>Aq (hwy.below hb) (hwx3.below hb)
    have Hn:Hid (cmpV y x<0->SdB (.mk 5 0 [] l) (q+1)):=fun hz=>HB.out.next Hx.out (Hb.out.1 rfl) (fun _ j a h ha=>by
     have h1:2*j=m':=by have:=Hm'.out;omega
     have ha':l[2*j]?=some a:=ha;rw[h1,hy] at ha';exact Option.some.inj ha' ▸ hz)
    have Hno:Hid (¬cmpV y x<0->¬Sd (.mk 5 0 [] l)):=fun hz hs=>by
     obtain⟨-,h5,-⟩:=Fa.1 hs;obtain⟨j,hj⟩:∃j,q=2*j+2:=⟨q / 2 - 1,by omega⟩;refine hz ((h5 rfl).1 j y x ?_ ?_)
     ·show l[2*j]?=some y;rw[show 2*j=m' by have:=Hm'.out;omega];exact hy
     ·show l[2*j+2]?=some x;rw[<-hj];exact Hx.out
    have hq0I:decide ((0:Int)<(q:Int))=true:=by rw[decide_eq_true_iff];omega
    have hq0N:0<q:=by omega
    have hI0:(0:Int)<=(m':Int):=by omega
    have hI1:(m':Int)<(l.length:Int):=by have:=Hm'.out;omega
    have hs22:(q:Int) - 2=(m':Int):=by have:=Hm'.out;omega
    have hw22:IntKind.i64.wrap ((q:Int) - 2)=(m':Int):=by rw[hs22,IntKind.wrap_i64];omega
    have hw23:IntKind.i64.wrap (m':Int)=(m':Int):=by rw[IntKind.wrap_i64];omega
    have k3':w3.cell? ⟨w.heap.size,3,none⟩=some (sL g o l.length cap):=((Ag hB3).1 _ _ hgr).trans k3;have hgw3:g<w3.heap.size:=by have:=hB3.size;omega
    clear HR hy hwx hwx3 hwy k0 k3 hodd hq0 HB;go_wp2_with fail;go_region_held3 (fun w'=>w'.cell? ⟨w.heap.size,0,none⟩=some (iv 5)∧w'.cell? ⟨w.heap.size,3,none⟩=some (sL g o l.length cap)∧w'.cell? ⟨g,o+m'*4,none⟩=some (iv y.k)∧w'.cell? ⟨g,o+m'*4+1,none⟩=some (iv y.n)∧w'.cell? ⟨g,o+m'*4+2,none⟩=some (bz y.t)∧w'.cell? ⟨g,o+m'*4+3,none⟩=some (.slice ay y.l.length cy)∧w'.cell? ⟨wr.heap.size,0,none⟩=some (iv x.k)∧w'.cell? ⟨wr.heap.size,1,none⟩=some (iv x.n)∧w'.cell? ⟨wr.heap.size,2,none⟩=some (bz x.t)∧w'.cell? ⟨wr.heap.size,3,none⟩=some (.slice ax x.l.length cx)) (go_keep)
     ((go_at_call 35;refine (hC _ (Below.refl _ _).drew).mono ?_;rintro e w5 ⟨rfl,hb5⟩;replace hb5:=Ad hb5;obtain⟨f3,-⟩:=Ag hb5))
    have hB5:Below w0.heap.size w0 w5:=hB30.trans (hb5.mono hB30.size);clear hC f3 x0 x1 x2 x3 p0 p1 p2 p3 hw22 hs22 hw23 k0' k3';by_cases hz:cmpV y x<0
    ·have hzI:¬(0:Int)<=cmpV y x:=by omega
     have HB':Hid (SdB (.mk 5 0 [] l) (q+1)):=Hn.out hz;clear Hn Hno;generalize cmpV y x=c at *;go_wp2_with fail;go_roundg (l.length - (q+1))
     case measure=>omega
     case rel=>exact⟨q+1,by omega,rfl,by go_num,HB',hB5⟩
    ·have hzI:(0:Int)<=cmpV y x:=by omega
     have Hno':Hid (¬Sd (.mk 5 0 [] l)):=Hno.out (by omega);clear Hn Hno;generalize cmpV y x=c at *;go_wp2;go_ret;exact⟨Jf Hno'.out,hb0.trans (hB5.mono hb0.size)⟩
  ·have hltI:¬(q:Int)<(l.length:Int):=by omega
   have hqe:q=l.length:=by omega
   subst hqe;have hfin:∀b:Bool,(b=true↔l.length % 2=0∧l.length<=128)->RSd (.mk 5 0 [] l) (.returned (.bool b)):=fun b hb=>Ue Hh.out HB.out (by
    rw[hb];unfold SdE;simp only[V.k,V.n,V.t,V.l];constructor
    ·intro h;exact⟨fun _=>h,by omega,by omega,by omega⟩
    ·rintro⟨h,-⟩;exact h trivial)
   by_cases hev:l.length % 2=0
   ·have ht:Int.tmod (l.length:Int) 2=0:=by rw[Int.tmod_eq_emod_of_nonneg (by omega)];omega
    have hw1:IntKind.i64.wrap 0=0:=by rw[IntKind.wrap_i64];rfl
    have hf2:=hfin (decide ((l.length:Int)<=128)) (by
     rw[decide_eq_true_iff];omega)
    clear hround HB Hh hfin hev;go_wp2;go_ret;exact⟨hf2,hBw⟩
   ·have ht:Int.tmod (l.length:Int) 2=1:=by rw[Int.tmod_eq_emod_of_nonneg (by omega)];omega
    have hw1:IntKind.i64.wrap 1=1:=by rw[IntKind.wrap_i64];rfl
    have hf2:=hfin false (by simp[hev]);clear hround HB Hh hfin hev;go_wp2;go_ret;exact⟨hf2,hBw⟩
theorem Ou:∀(N:Nat) (v:V) (sl:Value) (B:Nat->Prop) (w:World),wt v<N->wt v<=1000000->IsW B w v sl ->
  Calls Tryz.prog 24 #[.agg #[iv v.k,iv v.n,bz v.t,sl]] w fun r w'=>RSd v r∧Below w.heap.size w w':=by
 intro N;induction N with
 | zero=>intro v sl B w h;omega
 | succ N ih=>
  intro v sl B w hN hbig hv;obtain⟨ao,cap,rfl,hc1,hc2⟩:=hv.vs.slice;by_cases hh:SdH v
  case neg=>exact M3 hv hh
  have hwt:=Bw v;have hlen:=A4 v.l;have hih:∀(x:V) (sl:Value) (w2:World),x∈v.l->IsW B w2 x sl->Calls Tryz.prog 24 #[.agg #[iv x.k,iv x.n,bz x.t,sl]] w2 fun r w'=>RSd x r∧Below w2.heap.size w2 w':=fun x sl w2 hx hw=>by
   have:=Iq hx;exact ih x sl B w2 (by omega) (by omega) hw
  have hvs:=hv.vs;obtain⟨q1,q2,q3,q4,q5⟩:=hh;obtain⟨k,n,t,l⟩:=v;simp only[V.k,V.n,V.t,V.l] at *;have hc:k=1∨k=2∨k=3∨k=4∨k=5:=by omega
  rcases hc with rfl | rfl | rfl | rfl | rfl
  ·have e1:=q3 (by omega);have e2:=q5 (by omega);subst e1 e2;exact Ub n w hc2
  ·have e1:=q3 (by omega);have e2:=q5 (by omega);subst e1 e2;exact Uc n w hc2
  ·have e1:=q4 (by omega);have e2:=q5 (by omega);subst e1 e2;exact Ud t w hc2
  ·have e1:=q3 (by omega);have e2:=q4 (by omega);subst e1 e2;exact Uf (by omega) hc1 hc2 hvs hih
  ·have e1:=q3 (by omega);have e2:=q4 (by omega);subst e1 e2;exact Ug (by omega) hc1 hc2 hvs hih
theorem Jg{B:Nat->Prop}{v:V}{sl:Value}{w:World}(hw:wt v<=1000000)(hv:IsW B w v sl):Calls Tryz.prog 10 #[.agg #[iv v.k,iv v.n,bz v.t,sl]] w fun r w'=>(∃b:Bool,r=.returned (.bool b)∧(b=true↔Snd v))∧Below w.heap.size w w':=by
 obtain⟨ao,cap,rfl,hc1,hc2⟩:=hv.vs.slice;obtain⟨w0,hW,hb0,hsz,d0,d1,d2,d3⟩:=Aw w v (.slice ao v.l.length cap);have hgb:w.heap.size<w0.heap.size:=by omega
 have hWt:=Ex _ v _ B w0 (Nat.lt_succ_self _) (by omega) (hv.below hb0);have hS:=fun w2 (hb:Below w0.heap.size w0 w2)=>Ou _ v _ B w2 (Nat.lt_succ_self _) hw ((hv.below hb0).below hb)
 have hwI:(wt v:Int)<=16384∨¬(wt v:Int)<=16384:=Classical.em _;have hcell:∀w2,Below w0.heap.size w0 w2->w2.cell? ⟨w.heap.size,0,none⟩=some (iv v.k)∧w2.cell? ⟨w.heap.size,1,none⟩=some (iv v.n)∧w2.cell? ⟨w.heap.size,2,none⟩=some (bz v.t)∧w2.cell? ⟨w.heap.size,3,none⟩=some (.slice ao v.l.length cap)∧w.heap.size<w2.heap.size:=fun w2 hb=>by
  obtain⟨f,-⟩:=Ag hb;exact⟨(f _ _ hgb).trans d0,(f _ _ hgb).trans d1,(f _ _ hgb).trans d2,(f _ _ hgb).trans d3,Nat.lt_of_lt_of_le hgb hb.size⟩
 clear hv;have hD:Hid (wt v<=16384↔(wt v:Int)<=16384):=by show _↔_;omega
 generalize hz:(wt v:Int)=z at *;rcases hwI with hI | hI
 ·have hId:decide (z<=16384)=true:=by simpa using hI
  have hSn:Hid (∀b:Bool,(b=true↔Sd v)->(b=true↔Snd v)):=fun b hb=>by
   unfold Snd;rw[hb,hD.out];exact⟨fun h=>⟨hI,h⟩,fun h=>h.2⟩
  clear hz;go_enter Tryz.func10,Tryz.ntmps10;go_wp2_with fail;refine hWt.mono ?_;rintro e w3 ⟨rfl,hb3⟩;obtain⟨g0,g1,g2,g3,g4⟩:=hcell w3 hb3;clear hWt hcell d0 d1 d2 d3;go_wp2_with fail;refine (hS w3 hb3).mono ?_;rintro e w4 ⟨⟨b,rfl,hb⟩,hb4⟩;clear hS g0 g1 g2 g3;have hfin:Hid (b=true↔Snd v):=hSn.out b hb;clear hSn hb;go_wp2;go_ret;exact⟨⟨b,rfl,hfin.out⟩,(hb0.trans (hb3.mono hb0.size)).trans (hb4.mono (Nat.le_trans hb0.size hb3.size))⟩
 ·have hId:decide (z<=16384)=false:=by simpa using hI
  have hSn:Hid (false=true↔Snd v):=by
   show _↔_;unfold Snd;rw[hD.out];simp[hI]
  clear hz hS;go_enter Tryz.func10,Tryz.ntmps10;go_wp2_with fail;refine hWt.mono ?_;rintro e w3 ⟨rfl,hb3⟩;clear hWt hcell d0 d1 d2 d3;go_wp2;go_ret;exact⟨⟨false,rfl,hSn.out⟩,hb0.trans (hb3.mono hb0.size)⟩
theorem Di{B:Nat->Prop}{l:List V}{a:Option Addr}{c:Nat}{w:World}(hl:Al B w l (.slice a l.length c))(hw:∀x∈l,wt x<=1000000)(hn:l.length<=800000) :
  Calls Tryz.prog 16 #[.slice a l.length c] w fun r w'=>(∃a' c',r=.returned (.slice a' l.length c')∧Gv (From w.heap.size) w' (.slice a' l.length c') l)∧Below w.heap.size w w':=by
 have hround:∀(q:Nat) (wr:World),q<l.length->Below w.heap.size w wr ->
   ∃x g o ax cx,l[q]?=some x∧a=some ⟨g,o,none⟩∧g<wr.heap.size∧wr.cell? ⟨g,o+q*4,none⟩=some (iv x.k)∧wr.cell? ⟨g,o+q*4+1,none⟩=some (iv x.n)∧wr.cell? ⟨g,o+q*4+2,none⟩=some (bz x.t)∧wr.cell? ⟨g,o+q*4+3,none⟩=some (.slice ax x.l.length cx) ∧
    ∀w2,Below wr.heap.size wr w2->Calls Tryz.prog 17 #[.agg #[iv x.k,iv x.n,bz x.t,.slice ax x.l.length cx]] w2 fun r w'=>D7 w2 x r w':=by
  intro q wr h1 hBr;have hx:l[q]?=some l[q]:=List.getElem?_eq_getElem h1;obtain⟨g,o,ax,cx,e,_,hg,c0,c1,c2,c3,hw'⟩:=(hl.below hBr).get hx;exact⟨l[q],g,o,ax,cx,hx,e,hg,c0,c1,c2,c3,fun w2 hb=>Az _ _ _ _ w2 (Nat.lt_succ_self _) (hw _ (List.getElem_mem h1)) (hw'.below hb)⟩
 have Hround:Hid _:=hround;clear hl hw hround;go_enter Tryz.func16,Tryz.ntmps16;go_wp2_with fail
 go_loopg [3,8] l.length (fun g s3 i wr=>∃(q:Nat) (a3:Option Addr) (c3:Nat),q<=l.length∧g=l.length - q∧s3=.slice a3 q c3∧i=iv q∧Hid (Gv (From w.heap.size) wr (.slice a3 q c3) (l.take q))∧Below w.heap.size w wr)
 case atStart=>exact⟨0,none,0,Nat.zero_le _,rfl,rfl,rfl,by show Gv _ _ _ _;simpa using Gv.nil _ _,Below.refl _ _⟩
 case round=>
  obtain⟨q,a3,c3,hq,rfl,rfl,rfl,HG,hBr⟩:=hrel;by_cases hlt:q<l.length
  ·obtain⟨x,g,o,ax,cx,hx,rfl,hg,x0,x1,x2,x3,hC⟩:=Hround.out q wr hlt hBr;have hltI:(q:Int)<(l.length:Int):=by omega
   have hq0:(0:Int)<=(q:Int):=by omega
   have Hx:Hid (l[q]?=some x):=hx;have hba:Below wr.heap.size wr (wr.alloc (.cells #[iv x.k,iv x.n,bz x.t,.slice ax x.l.length cx] 31)):=(Below.refl _ _).alloc (Nat.le_refl _) _;clear hx Hround;go_wp2_with fail;refine (hC _ hba).mono ?_;rintro e w3 ⟨⟨a4,c4,rfl,hx4,-⟩,hb3⟩;have hB3:Below wr.heap.size wr w3:=hba.trans (hb3.mono hba.size);have hBw:Below w.heap.size w w3:=hBr.trans (hB3.mono hBr.size);have hs:=hBr.size;have hsa:=hba.size;have ho:∀k,(Value.slice a3 q c3).ownBlock=some k->k<wr.heap.size:=fun k e=>by
    obtain⟨row,k1,k2,k3⟩:=HG.out;exact (k1.lt k e).2
   obtain⟨wb,a5,c5,w5,hWb,hr5,hG5,hf5,-⟩:=C6 (HG.out.below hB3) (hx4.base (fun k hk _=>by
    have hk':(wr.alloc (.cells #[iv x.k,iv x.n,bz x.t,.slice ax x.l.length cx] 31)).heap.size<=k:=hk;exact⟨by show w.heap.size<=k;omega,fun e=>by have:=ho k e;omega⟩)) (by simp;omega) (fun k hk=>by have:=hB3.size;show w.heap.size<=k;omega)
   have hl5:(l.take q).length=q:=by simp;omega
   rw[hl5] at hr5 hG5;have HG5:Hid (Gv (From w.heap.size) w5 (.slice a5 (q+1) c5) (l.take (q+1))):=by
    show Gv _ _ _ _;rw[List.take_add_one,Hx.out];exact hG5
   have hB5:Below w.heap.size w w5:=hBw.trans (hf5.below hBw.size (fun k hk e=>by
    obtain⟨row,k1,k2,k3⟩:=HG.out;have:w.heap.size<=k:=k2 k e;omega))
   clear HG hG5 hf5 hC hx4 ho hb3 hB3 hBw hBr hba x0 x1 x2 x3;go_wp2_with (at_builtin;refine Lib.wpList_append_run _ rfl _ _ 22 22 rfl _ _ rfl rfl _ _ hr5 ?_;clear hr5);go_roundg (l.length - (q+1))
   case measure=>omega
   case rel=>exact⟨q+1,a5,c5,by omega,rfl,rfl,by go_num,HG5,hB5⟩
  ·have hltI:¬(q:Int)<(l.length:Int):=by omega
   have hqe:q=l.length:=by omega
   subst hqe;have hfin:=HG.out;rw[List.take_length] at hfin;clear Hround HG;go_wp2;go_ret;exact⟨⟨a3,c3,rfl,hfin⟩,hBr⟩
end
end Go.Proofs.YtnijcolomoobnaaGreatDoor
