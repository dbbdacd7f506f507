/- Texts of ours, joined. -/
import Derived.Test.YtnijcolomoobnaaGreatDoorU01
import Derived.Deep.LoopGhost
import Derived.Deep.RegionHeld3
import Derived.Deep.DrawnRows
set_option linter.unusedVariables false
set_option linter.unusedSimpArgs false
set_option maxRecDepth 100000
set_option maxHeartbeats 16000000
namespace Go.Proofs.YtnijcolomoobnaaGreatDoor
section
open Go.RowKit
def O5(B:Nat->Prop)(a:V):Prop:=∀(b:V) (sa sb:Value) (w:World),IsW B w a sa->IsW B w b sb ->
  Calls Tryz.prog 78 #[.agg #[iv a.k,iv a.n,bz a.t,sa],.agg #[iv b.k,iv b.n,bz b.t,sb]] w fun r w'=>r=.returned (iv (cmpV a b))∧Below w.heap.size w w'
theorem Ke(a b:V):cmpV a b=lx2 (Lib.compareInt a.k b.k) (lx2 (Lib.compareInt a.n b.n) (lx2 (Lib.compareBytes a.t b.t) (cmpVs a.l b.l))):=by
 cases a;cases b;rw[cmpV];rfl
theorem lx2_ne{c d:Int}(h:¬c=0):lx2 c d=c:=by unfold lx2;rw[if_neg h]
theorem lx2_eq{c d:Int}(h:c=0):lx2 c d=d:=by unfold lx2;rw[if_pos h]
theorem Lk{B:Nat->Prop}{l m:List V}(hok:∀x∈l,O5 B x){aa ab:Option Addr}{ca cb:Nat}{w:World}(hl:Al B w l (.slice aa l.length ca))(hm:Al B w m (.slice ab m.length cb)) :
  Calls Tryz.prog 117 #[.slice aa l.length ca,.slice ab m.length cb,.func (Fn.func 78) #[] #[]] w fun r w'=>r=.returned (iv (cmpVs l m))∧Below w.heap.size w w':=by
 obtain⟨aa',ca',e,a1,a2⟩:=hl.slice;simp only[Value.slice.injEq] at e;obtain⟨rfl,-,rfl⟩:=e;obtain⟨ab',cb',e,b1,b2⟩:=hm.slice;simp only[Value.slice.injEq] at e;obtain⟨rfl,-,rfl⟩:=e;have hround:∀(q:Nat) (wr:World),q<l.length->q<m.length->Below w.heap.size w wr ->
   ∃x y g o ax cx g' o' ay cy,l[q]?=some x∧m[q]?=some y∧aa=some ⟨g,o,none⟩∧ab=some ⟨g',o',none⟩∧g<wr.heap.size∧g'<wr.heap.size ∧
    (wr.cell? ⟨g,o+q*4,none⟩=some (iv x.k)∧wr.cell? ⟨g,o+q*4+1,none⟩=some (iv x.n)∧wr.cell? ⟨g,o+q*4+2,none⟩=some (bz x.t)∧wr.cell? ⟨g,o+q*4+3,none⟩=some (.slice ax x.l.length cx)) ∧
    (wr.cell? ⟨g',o'+q*4,none⟩=some (iv y.k)∧wr.cell? ⟨g',o'+q*4+1,none⟩=some (iv y.n)∧wr.cell? ⟨g',o'+q*4+2,none⟩=some (bz y.t)∧wr.cell? ⟨g',o'+q*4+3,none⟩=some (.slice ay y.l.length cy)) ∧
    ∀w2,Below wr.heap.size wr w2->Calls Tryz.prog 78 #[.agg #[iv x.k,iv x.n,bz x.t,.slice ax x.l.length cx],.agg #[iv y.k,iv y.n,bz y.t,.slice ay y.l.length cy]] w2 fun r w'=>r=.returned (iv (cmpV x y))∧Below w2.heap.size w2 w':=by
  intro q wr h1 h2 hB;have hx:l[q]?=some l[q]:=List.getElem?_eq_getElem h1;have hy:m[q]?=some m[q]:=List.getElem?_eq_getElem h2;obtain⟨g,o,ax,cx,e,_,hg,c0,c1,c2,c3,hw⟩:=(hl.below hB).get hx;obtain⟨g',o',ay,cy,e',_,hg',c0',c1',c2',c3',hw'⟩:=(hm.below hB).get hy;exact⟨l[q],m[q],g,o,ax,cx,g',o',ay,cy,hx,hy,e,e',hg,hg',⟨c0,c1,c2,c3⟩,⟨c0',c1',c2',c3'⟩,fun w2 hb2=>hok _ (List.getElem_mem h1) _ _ _ w2 (hw.below hb2) (hw'.below hb2)⟩
 have hfirst:∀(q:Nat) (wr:World),q<l.length->Below w.heap.size w wr ->
   ∃x g o ax cx,aa=some ⟨g,o,none⟩∧g<wr.heap.size ∧
    (wr.cell? ⟨g,o+q*4,none⟩=some (iv x.k)∧wr.cell? ⟨g,o+q*4+1,none⟩=some (iv x.n)∧wr.cell? ⟨g,o+q*4+2,none⟩=some (bz x.t)∧wr.cell? ⟨g,o+q*4+3,none⟩=some (.slice ax (V.l x).length cx)):=by
  intro q wr h1 hB;obtain⟨g,o,ax,cx,e,_,hg,c0,c1,c2,c3,hw⟩:=(hl.below hB).get (List.getElem?_eq_getElem h1);exact⟨l[q],g,o,ax,cx,e,hg,c0,c1,c2,c3⟩
 clear hl hm hok;go_enter Tryz.func117,Tryz.ntmps117;go_wp2_with fail
 go_loopg [13] l.length (fun g i wr=>∃q:Nat,q<=l.length∧q<=m.length∧g=l.length - q∧i=iv q∧Hid (cmpVs l m=cmpVs (l.drop q) (m.drop q))∧Below w.heap.size w wr)
 case atStart=>exact⟨0,Nat.zero_le _,Nat.zero_le _,rfl,rfl,rfl,Below.refl _ _⟩
 case round=>
  obtain⟨q,hq,hq2,rfl,rfl,HC,hB⟩:=hrel;by_cases hlt:q<l.length
  ·have hltI:(q:Int)<(l.length:Int):=by omega
   by_cases hlt2:q<m.length
   ·obtain⟨x,y,g,o,ax,cx,g',o',ay,cy,hx,hy,rfl,rfl,hg,hg',⟨c0,c1,c2,c3⟩,⟨c0',c1',c2',c3'⟩,hcall⟩:=hround q wr hlt hlt2 hB;clear hround hfirst;have hltI2:¬(m.length:Int)<=(q:Int):=by omega
    have hltI3:(q:Int)<(m.length:Int):=by omega
    have hD:Hid (cmpVs (l.drop q) (m.drop q)=lx2 (cmpV x y) (cmpVs (l.drop (q+1)) (m.drop (q+1)))):=H5 hx hy;clear hx hy;have hba:Below wr.heap.size wr ((wr.alloc (.cells #[iv x.k,iv x.n,bz x.t,.slice ax x.l.length cx] 31)).alloc (.cells #[iv y.k,iv y.n,bz y.t,.slice ay y.l.length cy] 31)):=((Below.refl _ _).alloc (Nat.le_refl _) _).alloc (by simp) _;go_wp2_with fail;refine (hcall _ hba).mono ?_;rintro e w3 ⟨rfl,hb3⟩;clear hcall;have hB3:Below w.heap.size w w3:=hB.trans ((hba.trans (hb3.mono hba.size)).mono hB.size);by_cases hz:cmpV x y=0
    ·have hD2:Hid (cmpVs l m=cmpVs (l.drop (q+1)) (m.drop (q+1))):=by
      show _=_;rw[HC.out,hD.out,lx2_eq hz]
     clear hD;rw[hz];go_wp2_with fail;go_roundg (l.length - (q+1))
     case measure=>omega
     case rel=>exact⟨q+1,by omega,by omega,rfl,by go_num,hD2,hB3⟩
    ·have hz':(cmpV x y != 0)=true:=by simp[hz]
     have hD2:Hid (cmpVs l m=cmpV x y):=by
      show _=_;rw[HC.out,hD.out,lx2_ne hz]
     clear hD hba;generalize cmpV x y=z at *;go_wp2;go_ret;exact⟨ret_int hD2.out.symm,hB3⟩
   ·obtain⟨x,g,o,ax,cx,rfl,hg,c0,c1,c2,c3⟩:=hfirst q wr hlt hB;clear hround hfirst;have hltI2:(m.length:Int)<=(q:Int):=by omega
    have hD2:Hid (cmpVs l m=1):=by
     show _=_;rw[HC.out,Gh (Or.inr (by omega)) hq hq2,if_neg (by omega),if_pos (by omega)]
    clear HC;go_wp2;go_ret;exact⟨ret_int hD2.out.symm,hB.trans (((Below.refl _ _).alloc (Nat.le_refl _) _).mono hB.size)⟩
  ·have hltI:¬(q:Int)<(l.length:Int):=by omega
   clear hround hfirst;have hD2:Hid (cmpVs l m=if l.length<m.length then -1 else 0):=by
    show _=_;rw[HC.out,Gh (Or.inl (by omega)) hq hq2];split
    ·rfl
    ·rw[if_neg (by omega)]
   clear HC;by_cases hlm:l.length<m.length
   ·have hlmI:(l.length:Int)<(m.length:Int):=by omega
    go_wp2;go_ret;exact⟨ret_int (by rw[hD2.out,if_pos hlm]),hB⟩
   ·have hlmI:¬(l.length:Int)<(m.length:Int):=by omega
    go_wp2;go_ret;exact⟨ret_int (by rw[hD2.out,if_neg hlm]),hB⟩
theorem compare_step{B:Nat->Prop}{a:V}(hs:∀x∈a.l,O5 B x):O5 B a:=by
 intro b sa sb w ha hb;obtain⟨aa,ca,rfl,a1,a2⟩:=ha.vs.slice;obtain⟨ab,cb,rfl,b1,b2⟩:=hb.vs.slice;obtain⟨w0,w1,hW,hW1,hs0,hs1,hB,d0,d1,d2,d3,e0,e1,e2,e3⟩:=Dn w a (.slice aa a.l.length ca) b (.slice ab b.l.length cb);have h1:=Lj a.k b.k w1;have h2:=Lj a.n b.n w1;have h3:=P0 a.t b.t w1;have hh:Hid (cmpV a b=lx2 (Lib.compareInt a.k b.k) (lx2 (Lib.compareInt a.n b.n) (lx2 (Lib.compareBytes a.t b.t) (cmpVs a.l b.l)))):=Ke a b;generalize Lib.compareInt a.k b.k=z1 at *;generalize Lib.compareInt a.n b.n=z2 at *;generalize Lib.compareBytes a.t b.t=z3 at *;have h4:=Lk hs (ha.vs.below hB) (hb.vs.below hB);clear ha hb hs;by_cases n1:z1=0
 ·subst n1;go_enter Tryz.func78,Tryz.ntmps78;go_wp2_with fail;refine h1.mono ?_;rintro e w2 ⟨rfl,rfl⟩;go_wp2_with fail;refine h2.mono ?_;rintro e w3 ⟨rfl,rfl⟩;by_cases n2:z2=0
  ·subst n2;go_wp2_with fail;refine h3.mono ?_;rintro e w3 ⟨rfl,rfl⟩;by_cases n3:z3=0
   ·subst n3;go_wp2_with fail;refine h4.mono ?_;rintro e w4 ⟨rfl,hb4⟩;go_wp2;go_ret;exact⟨ret_int (by rw[hh.out,lx2_eq rfl,lx2_eq rfl,lx2_eq rfl]),hB.trans (hb4.mono hB.size)⟩
   ·have n3':(z3 != 0)=true:=by simp[n3]
    go_wp2;go_ret;exact⟨ret_int (by rw[hh.out,lx2_eq rfl,lx2_eq rfl,lx2_ne n3]),hB⟩
  ·have n2':(z2 != 0)=true:=by simp[n2]
   go_wp2;go_ret;exact⟨ret_int (by rw[hh.out,lx2_eq rfl,lx2_ne n2]),hB⟩
 ·have n1':(z1 != 0)=true:=by simp[n1]
  go_enter Tryz.func78,Tryz.ntmps78;go_wp2_with fail;refine h1.mono ?_;rintro e w2 ⟨rfl,rfl⟩;go_wp2;go_ret;exact⟨ret_int (by rw[hh.out,lx2_ne n1]),hB⟩
theorem U4(B:Nat->Prop):∀(N:Nat) (a:V),wt a<N->O5 B a:=by
 intro N;induction N with
 | zero=>intro a h;omega
 | succ N ih=>
  intro a h;refine compare_step fun x hx=>ih x ?_
  have:=Dv hx;have:=Bw a;omega
theorem Cm{B:Nat->Prop}{a b:V}{sa sb:Value}{w:World}(ha:IsW B w a sa)(hb:IsW B w b sb) :
  Calls Tryz.prog 78 #[.agg #[iv a.k,iv a.n,bz a.t,sa],.agg #[iv b.k,iv b.n,bz b.t,sb]] w fun r w'=>r=.returned (iv (cmpV a b))∧Below w.heap.size w w':=U4 B _ a (Nat.lt_succ_self _) b sa sb w ha hb
def Ik(B:Nat->Prop)(y:List UInt8)(p:V->Bool):Prop:=∀(v:V) (sl:Value) (w:World),IsW B w v sl ->
  Calls Tryz.prog 159 #[.agg #[iv v.k,iv v.n,bz v.t,sl],.string ⟨y.toArray⟩] w fun r w'=>r=.returned (.bool (p v))∧Below w.heap.size w w'
theorem Lt{B:Nat->Prop}{y:List UInt8}{p:V->Bool}(hok:Ik B y p){v:V}{sl:Value}{w:World}{g:Nat}(hv:IsW B w v sl)(hg:w.cell? ⟨g,0,none⟩=some (.string ⟨y.toArray⟩))(hgl:g<w.heap.size) :
  Calls Tryz.prog 175 #[.agg #[iv v.k,iv v.n,bz v.t,sl],pt g 0] w fun r w'=>r=.returned (.bool (!p v))∧Below w.heap.size w w':=by
 obtain⟨ao,cap,rfl,hc1,hc2⟩:=hv.vs.slice;obtain⟨w0,hW,hb0,hsz,d0,d1,d2,d3⟩:=Aw w v (.slice ao v.l.length cap);have hg':w0.cell? ⟨g,0,none⟩=some (.string ⟨y.toArray⟩):=by rw[(Ag hb0).1 _ _ hgl];exact hg
 have hC:=hok v _ w0 (hv.below hb0);clear hv hok hg;go_enter Tryz.func175,Tryz.ntmps175;go_wp2_with fail;refine hC.mono ?_;rintro e w3 ⟨rfl,hb3⟩;go_wp2;go_ret;exact⟨rfl,hb0.trans (hb3.mono hb0.size)⟩
theorem Ji{B:Nat->Prop}{y:List UInt8}{p:V->Bool}(hok:Ik B y p){l:List V}{ao:Option Addr}{cap:Nat}{w:World}{g0:Nat}(hl:Al B w l (.slice ao l.length cap))(hg:w.cell? ⟨g0,0,none⟩=some (.string ⟨y.toArray⟩))(hgl:g0<w.heap.size) :
  Calls Tryz.prog 114 #[.slice ao l.length cap,.func (Fn.func 175) #[] #[pt g0 0]] w fun r w'=>(∃i:Int,r=.returned (iv i)∧decide (0<=i)=l.any (fun x=>!p x))∧Below w.heap.size w w':=by
 obtain⟨ao',cap',e,a1,a2⟩:=hl.slice;simp only[Value.slice.injEq] at e;obtain⟨rfl,-,rfl⟩:=e;have hround:∀(q:Nat) (wr:World),q<l.length->Below w.heap.size w wr ->
   ∃x g o ax cx,l[q]?=some x∧ao=some ⟨g,o,none⟩∧g<wr.heap.size∧wr.cell? ⟨g,o+q*4,none⟩=some (iv x.k)∧wr.cell? ⟨g,o+q*4+1,none⟩=some (iv x.n)∧wr.cell? ⟨g,o+q*4+2,none⟩=some (bz x.t)∧wr.cell? ⟨g,o+q*4+3,none⟩=some (.slice ax x.l.length cx) ∧
    Calls Tryz.prog 175 #[.agg #[iv x.k,iv x.n,bz x.t,.slice ax x.l.length cx],pt g0 0] wr fun r w'=>r=.returned (.bool (!p x))∧Below wr.heap.size wr w':=by
  intro q wr hq hB;have hx:l[q]?=some l[q]:=List.getElem?_eq_getElem hq;obtain⟨g,o,ax,cx,e,_,hg1,c0,c1,c2,c3,hw⟩:=(hl.below hB).get hx;have hs:=hB.size;exact⟨l[q],g,o,ax,cx,hx,e,hg1,c0,c1,c2,c3,Lt hok hw (by rw[(Ag hB).1 _ _ hgl];exact hg) (by omega)⟩
 clear hok hl hg;go_enter Tryz.func114,Tryz.ntmps114;go_wp2_with fail
 go_loopg [8] l.length (fun g i wr=>∃q:Nat,q<=l.length∧g=l.length - q∧i=iv q∧Hid (∀j x,j<q->l[j]?=some x->p x=true)∧Below w.heap.size w wr)
 case atStart=>exact⟨0,Nat.zero_le _,rfl,rfl,fun j x h=>by omega,Below.refl _ _⟩
 case round=>
  obtain⟨q,hq,rfl,rfl,HA,hB⟩:=hrel;by_cases hlt:q<l.length
  ·obtain⟨x,g,o,ax,cx,hx,rfl,hg,c0,c1,c2,c3,hcall⟩:=hround q wr hlt hB;have hltI:(q:Int)<(l.length:Int):=by omega
   have hx':Hid (l[q]?=some x):=hx;clear hround hx;go_wp2_with fail;refine hcall.mono ?_;rintro e w3 ⟨rfl,hb3⟩;clear hcall;have hB3:Below w.heap.size w w3:=hB.trans (hb3.mono hB.size);rcases hp:p x with _ | _
   ·have hfin:Hid (decide (0<=(q:Int))=l.any fun x=>!p x):=by
     show _=_;rw[decide_eq_true (by omega)];symm;rw[List.any_eq_true];exact⟨x,List.mem_of_getElem? hx'.out,by simp[hp]⟩
    go_wp2;go_ret;exact⟨⟨q,rfl,hfin⟩,hB3⟩
   ·have HA2:Hid (∀j x,j<q+1->l[j]?=some x->p x=true):=by
     intro j z hj hz;by_cases e:j=q
     ·subst e;rw[hx'.out] at hz;cases hz;exact hp
     ·exact HA.out j z (by omega) hz
    go_wp2_with fail
    go_roundg (l.length - (q+1))
    case measure=>omega
    case rel=>exact⟨q+1,by omega,rfl,by go_num,HA2,hB3⟩
  ·have hltI:¬(q:Int)<(l.length:Int):=by omega
   have hfin:Hid (decide (0<=(-1:Int))=l.any fun x=>!p x):=by
    show _=_;rw[decide_eq_false (by omega)];symm;rw[List.any_eq_false];intro x hx;obtain⟨j,hj⟩:=List.mem_iff_getElem?.1 hx;have:=(List.getElem?_eq_some_iff.1 hj).1;simp[HA.out j x (by omega) hj]
   clear hround HA;go_wp2;go_ret;exact⟨⟨-1,rfl,hfin⟩,hB⟩
theorem Kj{B:Nat->Prop}{y:List UInt8}{p:V->Bool}(hok:Ik B y p){l:List V}{ao:Option Addr}{cap:Nat}{w:World}{g0:Nat}(hl:Al B w l (.slice ao l.length cap))(hg:w.cell? ⟨g0,0,none⟩=some (.string ⟨y.toArray⟩))(hgl:g0<w.heap.size) :
  Calls Tryz.prog 76 #[.slice ao l.length cap,.func (Fn.func 175) #[] #[pt g0 0]] w fun r w'=>r=.returned (.bool (l.any (fun x=>!p x)))∧Below w.heap.size w w':=by
 have hC:=Ji hok hl hg hgl;clear hok hl hg;go_enter Tryz.func76,Tryz.ntmps76;go_wp2_with fail;refine hC.mono ?_;rintro e w3 ⟨⟨i,rfl,hi⟩,hb3⟩;clear hC;have Hi:Hid (decide (0<=i)=l.any fun x=>!p x):=hi;clear hi;go_wp2;go_ret;exact⟨ret_bool Hi.out,hb3⟩
theorem Kk{B:Nat->Prop}{y:List UInt8}{p:V->Bool}(hok:Ik B (elT y).1 p)(hy:y.length<=9223372036854775807){l:List V}{ao:Option Addr}{cap:Nat}{w:World}(hl:Al B w l (.slice ao l.length cap)) :
  Calls Tryz.prog 166 #[.slice ao l.length cap,.string ⟨y.toArray⟩] w fun r w'=>r=.returned (.bool (decide (l.length<=64) && l.all p))∧Below w.heap.size w w':=by
 obtain⟨ao',cap',e,a1,a2⟩:=hl.slice;simp only[Value.slice.injEq] at e;obtain⟨rfl,-,rfl⟩:=e;by_cases h64:l.length<=64
 ·have h64I:¬(64:Int)<(l.length:Int):=by omega
  have hL:=Sj y hy w;have hC:∀w2,Below w.heap.size w w2->Calls Tryz.prog 76 #[.slice ao l.length cap,.func (Fn.func 175) #[] #[pt w2.heap.size 0]] (w2.alloc (.cells #[.string ⟨(elT y).1.toArray⟩] 9)) fun r w'=>r=.returned (.bool (l.any (fun x=>!p x)))∧Below w.heap.size w w':=by
   intro w2 hb;have hba:Below w2.heap.size w2 (w2.alloc (.cells #[.string ⟨(elT y).1.toArray⟩] 9)):=(Below.refl _ _).alloc (Nat.le_refl _) _;have hbw:Below w.heap.size w (w2.alloc (.cells #[.string ⟨(elT y).1.toArray⟩] 9)):=hb.trans (hba.mono hb.size);refine (Kj hok (hl.below hbw) (g0:=w2.heap.size) ?_ ?_).mono ?_
   ·exact Ap (Ai w2 (.cells #[.string ⟨(elT y).1.toArray⟩] 9))
   ·simp
   ·rintro e w3 ⟨rfl,h3⟩;exact⟨rfl,hbw.trans (h3.mono hbw.size)⟩
  have hfin:Hid ((decide (l.length<=64) && l.all p)=!(l.any (fun x=>!p x))):=by
   show _=_;rw[decide_eq_true h64,Bool.true_and,Bool.eq_iff_iff];simp
  clear hok hl;generalize (elT y).1=z at *;generalize (elT y).2=zb at *;generalize l.any (fun x=>!p x)=r at *;go_enter Tryz.func166,Tryz.ntmps166;go_wp2_with fail;refine hL.mono ?_;rintro e w2 ⟨rfl,hb2⟩;go_wp2_with fail;refine (hC w2 hb2).mono ?_;rintro e w3 ⟨rfl,hb3⟩;clear hC hL;go_wp2;go_ret;exact⟨ret_bool hfin.out.symm,hb3⟩
 ·have h64I:(64:Int)<(l.length:Int):=by omega
  clear hok hl;go_enter Tryz.func166,Tryz.ntmps166;go_wp2;go_ret;exact⟨ret_bool (by rw[decide_eq_false h64];rfl),Below.refl _ _⟩
end
section
open Go.RowKit
attribute [local go_sem ↓] Go.wp_at_zero Go.wp_at_succ
def Bn(P:Prop)(r:Ending):Prop:=∃b:Bool,r=.returned (.bool b)∧(b=true↔P)
theorem Bn.mk{P:Prop}{b:Bool}(h:b=true↔P):Bn P (.returned (.bool b)):=⟨b,rfl,h⟩
def Fo(pk pv:V->Bool)(l:List V):Prop:=l.length % 2=0∧l.length<=128∧(∀i x,l[2*i]?=some x->pk x=true)∧(∀i x,l[2*i+1]?=some x->pv x=true)∧(∀i x y,l[2*i]?=some x->l[2*i+2]?=some y->cmpV x y<0)
def Kl(pk pv:V->Bool)(l:List V)(q:Nat):Prop:=(∀i x,i<q->l[2*i]?=some x->pk x=true)∧(∀i x,i<q->l[2*i+1]?=some x->pv x=true)∧(∀i x y,i+1<q->l[2*i]?=some x->l[2*i+2]?=some y->cmpV x y<0)
theorem Kl.step{pk pv:V->Bool}{l:List V}{q:Nat}(h:Kl pk pv l q){x y:V}(hx:l[2*q]?=some x)(hy:l[2*q+1]?=some y)(h1:pk x=true)(h2:pv y=true)(h3:∀j z,q=j+1->l[2*j]?=some z->cmpV z x<0):Kl pk pv l (q+1):=by
 refine⟨fun i z hi hz=>?_,fun i z hi hz=>?_,fun i a b hi ha hb=>?_⟩
 ·by_cases e:i=q
  ·subst e;rw[hx] at hz;cases hz;exact h1
  ·exact h.1 i z (by omega) hz
 ·by_cases e:i=q
  ·subst e;rw[hy] at hz;cases hz;exact h2
  ·exact h.2.1 i z (by omega) hz
 ·by_cases e:i+1=q
  ·have hb':l[2*q]?=some b:=by rw[<-e];exact hb
   rw[hx] at hb';cases hb';exact h3 i a e.symm ha
  ·exact h.2.2 i a b (by omega) ha hb
theorem Kl.all{pk pv:V->Bool}{l:List V}{q:Nat}(h:Kl pk pv l q)(h1:l.length % 2=0)(h2:l.length<=128)(hq:l.length<=2*q):Fo pk pv l:=by
 refine⟨h1,h2,fun i x hx=>?_,fun i x hx=>?_,fun i a b ha hb=>?_⟩
 ·have:=(List.getElem?_eq_some_iff.1 hx).1;exact h.1 i x (by omega) hx
 ·have:=(List.getElem?_eq_some_iff.1 hx).1;exact h.2.1 i x (by omega) hx
 ·have:=(List.getElem?_eq_some_iff.1 hb).1;exact h.2.2 i a b (by omega) ha hb
theorem Lu{B:Nat->Prop}{y:List UInt8}{pk pv:V->Bool}(hokk:Ik B (mpT y).1 pk)(hokv:Ik B (mpT y).2.1 pv)(hy:y.length<=9223372036854775807){l:List V}{ao:Option Addr}{cap:Nat}{w:World}(hl:Al B w l (.slice ao l.length cap)) :
  Calls Tryz.prog 167 #[.slice ao l.length cap,.string ⟨y.toArray⟩] w fun r w'=>Bn (Fo pk pv l) r∧Below w.heap.size w w':=by
 obtain⟨ao',cap',e,a1,a2⟩:=hl.slice;simp only[Value.slice.injEq] at e;obtain⟨rfl,-,rfl⟩:=e;by_cases hbad:¬(l.length % 2=0∧l.length<=128)
 ·have hfin:Hid (false=true↔Fo pk pv l):=⟨fun h=>(by cases h),fun h=>absurd ⟨h.1,h.2.1⟩ hbad⟩;clear hokk hokv hl;by_cases h2:l.length % 2=0
  ·have h2I:((l.length:Int) % 2 != 0)=false:=by simp;omega
   have h3I:(64:Int)<(l.length:Int) / 2:=by omega
   clear hbad;go_enter Tryz.func167,Tryz.ntmps167;go_wp2;go_ret;exact⟨Bn.mk (b:=false) hfin,Below.refl _ _⟩
  ·have h2I:((l.length:Int) % 2 != 0)=true:=by simp;omega
   clear hbad;go_enter Tryz.func167,Tryz.ntmps167;go_wp2;go_ret;exact⟨Bn.mk (b:=false) hfin,Below.refl _ _⟩
 have hok:l.length % 2=0∧l.length<=128:=Decidable.not_not.1 hbad;clear hbad;have h2I:((l.length:Int) % 2 != 0)=false:=by simp;omega
 have h3I:¬(64:Int)<(l.length:Int) / 2:=by omega
 have hL:=Vd y hy w;have hround:∀(q:Nat) (wr:World),q<l.length->Below w.heap.size w wr ->
   ∃x g o ax cx,l[q]?=some x∧ao=some ⟨g,o,none⟩∧g<wr.heap.size∧wr.cell? ⟨g,o+q*4,none⟩=some (iv x.k)∧wr.cell? ⟨g,o+q*4+1,none⟩=some (iv x.n)∧wr.cell? ⟨g,o+q*4+2,none⟩=some (bz x.t)∧wr.cell? ⟨g,o+q*4+3,none⟩=some (.slice ax x.l.length cx)∧IsW B wr x (.slice ax x.l.length cx):=by
  intro q wr hq hB;have hx:l[q]?=some l[q]:=List.getElem?_eq_getElem hq;obtain⟨g,o,ax,cx,e,_,hg1,c0,c1,c2,c3,hw⟩:=(hl.below hB).get hx;exact⟨l[q],g,o,ax,cx,hx,e,hg1,c0,c1,c2,c3,hw⟩
 clear hl;generalize (mpT y).1=zk at *;generalize (mpT y).2.1=zv at *;generalize (mpT y).2.2=zb at *;go_enter Tryz.func167,Tryz.ntmps167;go_wp2_with fail;refine hL.mono ?_;rintro e w1 ⟨rfl,hb1⟩;clear hL;go_wp2_with fail
 go_loopg [8] l.length (fun g i wr=>∃q m:Nat,Hid (m=2*q)∧m<=l.length∧g=l.length - m∧i=iv m∧Hid (Kl pk pv l q)∧Below w.heap.size w wr)
 case atStart=>exact⟨0,0,rfl,Nat.zero_le _,rfl,rfl,⟨fun i x h=>by omega,fun i x h=>by omega,fun i x y h=>by omega⟩,hb1⟩
 case round=>
  obtain⟨q,m,Hm,hm,rfl,rfl,HQ,hB⟩:=hrel;by_cases hlt:m<l.length
  ·have hmq:=Hm.out;have hlt1:m+1<l.length:=by omega
   obtain⟨x,g,o,ax,cx,hx,rfl,hg,c0,c1,c2,c3,hwx⟩:=hround m wr hlt hB;have hltI:(m:Int)<(l.length:Int):=by omega
   have hltI1:(m:Int)+1<(l.length:Int):=by omega
   have hx':Hid (l[2*q]?=some x):=by rw[<-hmq];exact hx
   have hC1:=hokk x _ wr hwx;clear hx hmq;rcases hp:pk x with _ | _
   ·have hfin:Hid (false=true↔Fo pk pv l):=⟨fun h=>(by cases h),fun h=>by have:=h.2.2.1 q x hx'.out;rw[hp] at this;cases this⟩;rw[hp] at hC1;clear hround hokk hokv;go_wp2_with fail;refine hC1.mono ?_;rintro e w3 ⟨rfl,hb3⟩;clear hC1;go_wp2;go_ret;exact⟨Bn.mk (b:=false) hfin,hB.trans (hb3.mono hB.size)⟩
   ·rw[hp] at hC1;go_wp2_with fail;refine hC1.mono ?_;rintro e w3 ⟨rfl,hb3⟩;clear hC1 c0 c1 c2 c3;have hB3:Below w.heap.size w w3:=hB.trans (hb3.mono hB.size);obtain⟨z,g',o',az,cz,hz,e,hg',c0,c1,c2,c3,hwz⟩:=hround (m+1) w3 hlt1 hB3;simp only[Option.some.injEq,Addr.mk.injEq] at e;obtain⟨rfl,rfl,-⟩:=e;have hz':Hid (l[2*q+1]?=some z):=by rw[<-Hm.out];exact hz
    have hC2:=hokv z _ w3 hwz;clear hz;rcases hpz:pv z with _ | _
    ·have hfin:Hid (false=true↔Fo pk pv l):=⟨fun h=>(by cases h),fun h=>by have:=h.2.2.2.1 q z hz'.out;rw[hpz] at this;cases this⟩;rw[hpz] at hC2;clear hround hokk hokv;go_wp2_with fail;refine hC2.mono ?_;rintro e w4 ⟨rfl,hb4⟩;clear hC2;go_wp2;go_ret;exact⟨Bn.mk (b:=false) hfin,hB3.trans (hb4.mono hB3.size)⟩
    ·rw[hpz] at hC2;go_wp2_with fail;refine hC2.mono ?_;rintro e w4 ⟨rfl,hb4⟩;clear hC2 c0 c1 c2 c3;have hB4:Below w.heap.size w w4:=hB3.trans (hb4.mono hB3.size);rcases q with _ | j
     ·have hm0:m=0:=Hm.out;subst hm0;have HQ2:Hid (Kl pk pv l 1):=HQ.out.step hx'.out hz'.out hp hpz (fun j z h=>by omega);clear hround hokk hokv HQ;go_wp2_with fail
      go_quiet (fail)
      go_wp2_with fail
      go_roundg (l.length - 2)
      case measure=>omega
      case rel=>exact⟨1,2,rfl,by omega,rfl,by go_num,HQ2,hB4.trans ((Af _ _).mono hB4.size)⟩
     ·obtain⟨m',hmm⟩:∃m',m=m'+2:=⟨m - 2,by have:=Hm.out;omega⟩;have hm'q:m'=2*j:=by have:=Hm.out;omega
      obtain⟨p,g',o',ap,cp,hpx,e,hgp,p0,p1,p2,p3,hwp⟩:=hround m' w4 (by omega) hB4;simp only[Option.some.injEq,Addr.mk.injEq] at e;obtain⟨rfl,rfl,-⟩:=e;obtain⟨x2,g',o',ax2,cx2,hx2,e,hgx,x0,x1,x2',x3,hwx2⟩:=hround m w4 (by omega) hB4;simp only[Option.some.injEq,Addr.mk.injEq] at e;obtain⟨rfl,rfl,-⟩:=e;have ex:x2=x:=by
       have h1:=hx'.out;rw[show 2*(j+1)=m by omega,hx2] at h1;exact Option.some.inj h1
      subst ex;have hC3:∀w5,Below w4.heap.size w4 w5->Calls Tryz.prog 78 #[.agg #[iv p.k,iv p.n,bz p.t,.slice ap p.l.length cp],.agg #[iv x2.k,iv x2.n,bz x2.t,.slice ax2 x2.l.length cx2]] w5 fun r w'=>r=.returned (iv (cmpV p x2))∧Below w5.heap.size w5 w':=fun w5 hb5=>Cm (hwp.below hb5) (hwx2.below hb5)
      have hpx':Hid (l[2*j]?=some p):=by rw[<-hm'q];exact hpx
      have hI0:(0:Int)<=(m':Int):=by omega
      have hI1:(m':Int)<(l.length:Int):=by omega
      have hI2:(0:Int)<(m:Int):=by omega
      have hI4:(0:Int)<=(m:Int):=by omega
      have hs22:(m:Int) - 2=(m':Int):=by omega
      have hw22:IntKind.i64.wrap ((m:Int) - 2)=(m':Int):=by rw[hs22,IntKind.wrap_i64];omega
      have hd:decide ((0:Int)<(m:Int))=true:=by simp;omega
      have hw23:IntKind.i64.wrap (m':Int)=(m':Int):=by rw[IntKind.wrap_i64];omega
      have hN:0<m:=by omega
      have hdN:decide (0<m)=true:=by simp;omega
      clear hround hokk hokv hwp hwx2 hwx hwz hx2 hpx hm'q hmm;go_wp2_with fail;go_region_held3 (fun w'=>w'.cell? ⟨g,o+m'*4,none⟩=some (iv p.k)∧w'.cell? ⟨g,o+m'*4+1,none⟩=some (iv p.n)∧w'.cell? ⟨g,o+m'*4+2,none⟩=some (bz p.t)∧w'.cell? ⟨g,o+m'*4+3,none⟩=some (.slice ap p.l.length cp)∧w'.cell? ⟨g,o+m*4,none⟩=some (iv x2.k)∧w'.cell? ⟨g,o+m*4+1,none⟩=some (iv x2.n)∧w'.cell? ⟨g,o+m*4+2,none⟩=some (bz x2.t)∧w'.cell? ⟨g,o+m*4+3,none⟩=some (.slice ax2 x2.l.length cx2)) (go_keep)
       ((go_at_call 78;refine (hC3 _ (Below.refl _ _).drew).mono ?_;rintro e w5 ⟨rfl,hb5⟩;replace hb5:=Ad hb5;obtain⟨f3,-⟩:=Ag hb5))
      have hB5:Below w.heap.size w w5:=hB4.trans (hb5.mono hB4.size);have hge:Hid (cmpV p x2<0∨0<=cmpV p x2):=by show _∨_;omega
      have hneg:Hid (0<=cmpV p x2->(false=true↔Fo pk pv l)):=fun h0=>⟨fun h=>(by cases h),fun h=>by have:=h.2.2.2.2 j p x2 hpx'.out hx'.out;omega⟩
      have hpos:Hid (cmpV p x2<0->Kl pk pv l (j+1+1)):=fun h0=>HQ.out.step hx'.out hz'.out hp hpz (fun j' z h hz=>by
       obtain rfl:j'=j:=by omega
       rw[hpx'.out] at hz;cases hz;exact h0)
      clear f3 hC3 p0 p1 p2 p3 x0 x1 x2' x3 hp hpz hw22 hs22;generalize cmpV p x2=c at *;rcases hge.out with hc | hc
      ·have hcI:¬(0:Int)<=c:=by omega
       have HQ2:=hpos.out hc;have HQ3:Hid (Kl pk pv l (j+1+1)):=HQ2;clear hneg hpos hge HQ2 HQ;go_wp2_with fail;go_roundg (l.length - (m+2))
       case measure=>omega
       case rel=>exact⟨j+1+1,m+2,by have:=Hm.out;show _=_;omega,by omega,rfl,by go_num,HQ3,hB5⟩
      ·have hfin:Hid (false=true↔Fo pk pv l):=hneg.out hc;clear hneg hpos hge HQ;go_wp2;go_ret;exact⟨Bn.mk (b:=false) hfin,hB5⟩
  ·have hltI:¬(m:Int)<(l.length:Int):=by omega
   have hfin:Hid (Fo pk pv l):=HQ.out.all hok.1 hok.2 (by have:=Hm.out;omega);clear hround hokk hokv HQ;go_wp2;go_ret;exact⟨Bn.mk (b:=true) ⟨fun _=>hfin.out,fun _=>rfl⟩,hB⟩
def Na(B:Nat->Prop)(a:V):Prop:=∀(b:V) (sa sb:Value) (w:World),IsW B w a sa->IsW B w b sb ->
  Calls Tryz.prog 35 #[.agg #[iv a.k,iv a.n,bz a.t,sa],.agg #[iv b.k,iv b.n,bz b.t,sb]] w fun r w'=>r=.returned (iv (cmpV a b))∧Below w.heap.size w w'
theorem Ia:∀a b:List UInt8,Op.bytesLess a b=decide (Lib.compareBytes a b=-1)
 | [],[]=>by simp[Op.bytesLess,Lib.compareBytes]
 | [],_ :: _=>by simp[Op.bytesLess,Lib.compareBytes]
 | _ :: _,[]=>by simp[Op.bytesLess,Lib.compareBytes]
 | a :: r,b :: s=>by
  rw[Lib.compareBytes,Op.bytesLess];have ih:=Ia r s;by_cases h1:a<b
  ·simp[h1]
  ·by_cases h2:b<a
   ·have:¬a=b:=by rintro rfl;exact h1 h2
    simp[h1,h2,this]
   ·have:a=b:=by rw[UInt8.lt_iff_toNat_lt] at h1 h2;exact UInt8.toNat_inj.mp (by omega)
    subst this;simp[h1,ih]
theorem Nb{a b:List UInt8}(h:¬a=b):Lib.compareBytes a b=if Op.bytesLess a b=true then -1 else 1:=by
 rw[Ia];have h1:=Lc a b;have h2:=Eg a b;unfold Sg at h1;by_cases h3:Lib.compareBytes a b=-1
 ·simp[h3]
 ·rw[if_neg (by simpa using h3)];rcases h1 with h1 | h1 | h1
  ·exact absurd h1 h3
  ·exact absurd (h2.1 h1) h
  ·exact h1
theorem Kf{B:Nat->Prop}{a:V}(b:V)(sa sb:Value)(w:World)(ha:IsW B w a sa)(hb:IsW B w b sb)(h:¬(a.k=b.k∧a.n=b.n∧a.t=b.t)) :
  Calls Tryz.prog 35 #[.agg #[iv a.k,iv a.n,bz a.t,sa],.agg #[iv b.k,iv b.n,bz b.t,sb]] w fun r w'=>r=.returned (iv (cmpV a b))∧Below w.heap.size w w':=by
 obtain⟨aa,ca,rfl,a1,a2⟩:=ha.vs.slice;obtain⟨ab,cb,rfl,b1,b2⟩:=hb.vs.slice;obtain⟨w0,w1,hW,hW1,hs0,hs1,hB,d0,d1,d2,d3,e0,e1,e2,e3⟩:=Dn w a (.slice aa a.l.length ca) b (.slice ab b.l.length cb);have hh:Hid (cmpV a b=lx2 (Lib.compareInt a.k b.k) (lx2 (Lib.compareInt a.n b.n) (lx2 (Lib.compareBytes a.t b.t) (cmpVs a.l b.l)))):=Ke a b;clear ha hb;by_cases n1:a.k=b.k
 ·have z1:Lib.compareInt a.k b.k=0:=(D2 _ _).2 n1;have n1':(a.k != b.k)=false:=by simp[n1]
  by_cases n2:a.n=b.n
  ·have z2:Lib.compareInt a.n b.n=0:=(D2 _ _).2 n2;have n2':(a.n != b.n)=false:=by simp[n2]
   have n3:¬a.t=b.t:=fun h'=>h ⟨n1,n2,h'⟩
   have n3':(a.t == b.t)=false:=by simp[n3]
   have hL:Hid (Lib.compareBytes a.t b.t=if Op.bytesLess a.t b.t=true then -1 else 1):=Nb n3;replace hh:Hid (cmpV a b=lx2 0 (lx2 0 (lx2 (Lib.compareBytes a.t b.t) (cmpVs a.l b.l)))):=by rw[z1,z2] at hh;exact hh
   clear h n1 n2 n3 z1 z2;generalize hQ:Op.bytesLess a.t b.t=less at *;cases less
   all_goals
    go_enter Tryz.func35,Tryz.ntmps35;go_wp2;go_ret;exact⟨ret_int (by rw[hh.out,lx2_eq rfl,lx2_eq rfl,lx2_ne (by rw[hL.out];decide),hL.out];rfl),hB⟩
  ·have n2':(a.n != b.n)=true:=by simp[n2]
   have hL:Hid (Lib.compareInt a.n b.n=if a.n<b.n then -1 else 1):=by
    show _=_;unfold Lib.compareInt;split
    ·rfl
    ·rw[if_pos (by omega)]
   replace hh:Hid (cmpV a b=lx2 0 (lx2 (Lib.compareInt a.n b.n) (lx2 (Lib.compareBytes a.t b.t) (cmpVs a.l b.l)))):=by rw[z1] at hh;exact hh
   clear h n1 z1;by_cases n3:a.n<b.n
   ·go_enter Tryz.func35,Tryz.ntmps35;go_wp2;go_ret;exact⟨ret_int (by rw[hh.out,hL.out,if_pos n3,lx2_eq rfl,lx2_ne (by decide)]),hB⟩
   ·go_enter Tryz.func35,Tryz.ntmps35;go_wp2;go_ret;exact⟨ret_int (by rw[hh.out,hL.out,if_neg (by omega),lx2_eq rfl,lx2_ne (by decide)]),hB⟩
 ·have n1':(a.k != b.k)=true:=by simp[n1]
  have hL:Hid (Lib.compareInt a.k b.k=if a.k<b.k then -1 else 1):=by
   show _=_;unfold Lib.compareInt;split
   ·rfl
   ·rw[if_pos (by omega)]
  clear h;by_cases n3:a.k<b.k
  ·go_enter Tryz.func35,Tryz.ntmps35;go_wp2;go_ret;exact⟨ret_int (by rw[hh.out,hL.out,if_pos n3,lx2_ne (by decide)]),hB⟩
  ·go_enter Tryz.func35,Tryz.ntmps35;go_wp2;go_ret;exact⟨ret_int (by rw[hh.out,hL.out,if_neg (by omega),lx2_ne (by decide)]),hB⟩
theorem rcompare_step{B:Nat->Prop}{a:V}(hok:∀x∈a.l,Na B x):Na B a:=by
 intro b sa sb w ha hb;by_cases hne:¬(a.k=b.k∧a.n=b.n∧a.t=b.t)
 ·exact Kf b sa sb w ha hb hne
 have he:a.k=b.k∧a.n=b.n∧a.t=b.t:=Decidable.not_not.1 hne;clear hne;obtain⟨aa,ca,rfl,a1,a2⟩:=ha.vs.slice;obtain⟨ab,cb,rfl,b1,b2⟩:=hb.vs.slice;obtain⟨w0,w1,hW,hW1,hs0,hs1,hB,d0,d1,d2,d3,e0,e1,e2,e3⟩:=Dn w a (.slice aa a.l.length ca) b (.slice ab b.l.length cb);have hh:Hid (cmpV a b=cmpVs a.l b.l):=by
  show _=_;rw[Ke,(D2 _ _).2 he.1,(D2 _ _).2 he.2.1,(Eg _ _).2 he.2.2,lx2_eq rfl,lx2_eq rfl,lx2_eq rfl]
 have n1:(a.k != b.k)=false:=by simp[he.1]
 have n2:(a.n != b.n)=false:=by simp[he.2.1]
 have n3:(a.t == b.t)=true:=by simp[he.2.2]
 have hround:∀(q:Nat) (wr:World),q<a.l.length->q<b.l.length->Below w1.heap.size w1 wr ->
   ∃x y g o ax cx g' o' ay cy,a.l[q]?=some x∧b.l[q]?=some y∧aa=some ⟨g,o,none⟩∧ab=some ⟨g',o',none⟩∧g<wr.heap.size∧g'<wr.heap.size ∧
    (wr.cell? ⟨g,o+q*4,none⟩=some (iv x.k)∧wr.cell? ⟨g,o+q*4+1,none⟩=some (iv x.n)∧wr.cell? ⟨g,o+q*4+2,none⟩=some (bz x.t)∧wr.cell? ⟨g,o+q*4+3,none⟩=some (.slice ax x.l.length cx)) ∧
    (wr.cell? ⟨g',o'+q*4,none⟩=some (iv y.k)∧wr.cell? ⟨g',o'+q*4+1,none⟩=some (iv y.n)∧wr.cell? ⟨g',o'+q*4+2,none⟩=some (bz y.t)∧wr.cell? ⟨g',o'+q*4+3,none⟩=some (.slice ay y.l.length cy)) ∧
    (wr.cell? ⟨w.heap.size,3,none⟩=some (.slice aa a.l.length ca)∧wr.cell? ⟨w.heap.size+1,3,none⟩=some (.slice ab b.l.length cb)) ∧
    ∀w2,Below wr.heap.size wr w2->Calls Tryz.prog 35 #[.agg #[iv x.k,iv x.n,bz x.t,.slice ax x.l.length cx],.agg #[iv y.k,iv y.n,bz y.t,.slice ay y.l.length cy]] w2 fun r w'=>r=.returned (iv (cmpV x y))∧Below w2.heap.size w2 w':=by
  intro q wr h1 h2 hBr;have hx:a.l[q]?=some a.l[q]:=List.getElem?_eq_getElem h1;have hy:b.l[q]?=some b.l[q]:=List.getElem?_eq_getElem h2;have hBw:Below w.heap.size w wr:=hB.trans (hBr.mono (by omega));obtain⟨g,o,ax,cx,e,_,hg,c0,c1,c2,c3,hw⟩:=(ha.vs.below hBw).get hx;obtain⟨g',o',ay,cy,e',_,hg',c0',c1',c2',c3',hw'⟩:=(hb.vs.below hBw).get hy;obtain⟨f1,-⟩:=Ag hBr;exact⟨a.l[q],b.l[q],g,o,ax,cx,g',o',ay,cy,hx,hy,e,e',hg,hg',⟨c0,c1,c2,c3⟩,⟨c0',c1',c2',c3'⟩,⟨by rw[f1 _ _ (by omega)];exact d3,by rw[f1 _ _ (by omega)];exact e3⟩,fun w2 hb2=>hok _ (List.getElem_mem h1) _ _ _ w2 (hw.below hb2) (hw'.below hb2)⟩
 have hend:∀wr:World,Below w1.heap.size w1 wr->wr.cell? ⟨w.heap.size,3,none⟩=some (.slice aa a.l.length ca)∧wr.cell? ⟨w.heap.size+1,3,none⟩=some (.slice ab b.l.length cb):=by
  intro wr hBr;obtain⟨f1,-⟩:=Ag hBr;exact⟨by rw[f1 _ _ (by omega)];exact d3,by rw[f1 _ _ (by omega)];exact e3⟩
 clear ha hb hok he;go_enter Tryz.func35,Tryz.ntmps35;go_wp2_with fail
 go_loopg [5] a.l.length (fun g i wr=>∃q:Nat,q<=a.l.length∧q<=b.l.length∧g=a.l.length - q∧i=iv q∧Hid (cmpVs a.l b.l=cmpVs (a.l.drop q) (b.l.drop q))∧Below w1.heap.size w1 wr)
 case atStart=>exact⟨0,Nat.zero_le _,Nat.zero_le _,rfl,rfl,rfl,Below.refl _ _⟩
 case round=>
  obtain⟨q,hq,hq2,rfl,rfl,HC,hBr⟩:=hrel;have hBw:Below w.heap.size w wr:=hB.trans (hBr.mono (by omega));by_cases hlt:q<a.l.length∧q<b.l.length
  ·obtain⟨x,y,g,o,ax,cx,g',o',ay,cy,hx,hy,rfl,rfl,hg,hg',⟨c0,c1,c2,c3⟩,⟨c0',c1',c2',c3'⟩,⟨b3,b3'⟩,hcall⟩:=hround q wr hlt.1 hlt.2 hBr;clear hround hend;have hltI2:(q:Int)<(a.l.length:Int):=by omega
   have hltI3:(q:Int)<(b.l.length:Int):=by omega
   have hltI4:(0:Int)<=(q:Int):=by omega
   have hD:Hid (cmpVs (a.l.drop q) (b.l.drop q)=lx2 (cmpV x y) (cmpVs (a.l.drop (q+1)) (b.l.drop (q+1)))):=H5 hx hy;clear hx hy hlt d0 d1 d2 d3 e0 e1 e2 e3 hW hW1;have hgb:w.heap.size<wr.heap.size:=by have:=hBr.size;omega
   have hgb':w.heap.size+1<wr.heap.size:=by have:=hBr.size;omega
   go_wp2_with fail
   go_region_held3 (fun w'=>w'.cell? ⟨w.heap.size,3,none⟩=some (sL g o a.l.length ca)∧w'.cell? ⟨w.heap.size+1,3,none⟩=some (sL g' o' b.l.length cb)∧w'.cell? ⟨g,o+q*4,none⟩=some (iv x.k)∧w'.cell? ⟨g,o+q*4+1,none⟩=some (iv x.n)∧w'.cell? ⟨g,o+q*4+2,none⟩=some (bz x.t)∧w'.cell? ⟨g,o+q*4+3,none⟩=some (.slice ax x.l.length cx)∧w'.cell? ⟨g',o'+q*4,none⟩=some (iv y.k)∧w'.cell? ⟨g',o'+q*4+1,none⟩=some (iv y.n)∧w'.cell? ⟨g',o'+q*4+2,none⟩=some (bz y.t)∧w'.cell? ⟨g',o'+q*4+3,none⟩=some (.slice ay y.l.length cy)) (go_keep)
    ((go_at_call 35;refine (hcall _ (Below.refl _ _).drew).mono ?_;rintro e w3 ⟨rfl,hb3⟩;replace hb3:=Ad hb3;obtain⟨f3,-⟩:=Ag hb3))
   clear hcall;have hB3:Below w1.heap.size w1 w3:=hBr.trans (hb3.mono hBr.size);have hB4:Below w.heap.size w w3:=hB.trans (hB3.mono (by omega));clear f3 c0 c1 c2 c3 c0' c1' c2' c3' b3 b3';by_cases hz:cmpV x y=0
   ·have hD2:Hid (cmpVs a.l b.l=cmpVs (a.l.drop (q+1)) (b.l.drop (q+1))):=by
     show _=_;rw[HC.out,hD.out,lx2_eq hz]
    clear hD;rw[hz];go_wp2_with fail;go_roundg (a.l.length - (q+1))
    case measure=>omega
    case rel=>exact⟨q+1,by omega,by omega,rfl,by go_num,hD2,hB3⟩
   ·have hz':(cmpV x y != 0)=true:=by simp[hz]
    have hD2:Hid (cmpV a b=cmpV x y):=by
     show _=_;rw[hh.out,HC.out,hD.out,lx2_ne hz]
    clear hD;generalize cmpV x y=z at *;go_wp2;go_ret;exact⟨ret_int hD2.out.symm,hB4⟩
  ·obtain⟨b3,b3'⟩:=hend wr hBr;clear hround hend d0 d1 d2 d3 e0 e1 e2 e3 hW hW1;have hD2:Hid (cmpV a b=if a.l.length<b.l.length then -1 else if b.l.length<a.l.length then 1 else 0):=by
    show _=_;rw[hh.out,HC.out,Gh (by omega) hq hq2]
   clear HC;by_cases h1:q<a.l.length
   ·have h1I:(q:Int)<(a.l.length:Int):=by omega
    have h2I:¬(q:Int)<(b.l.length:Int):=by omega
    have h3I:¬(a.l.length:Int)<(b.l.length:Int):=by omega
    have h4I:(b.l.length:Int)<(a.l.length:Int):=by omega
    clear hlt;go_wp2;go_ret;exact⟨ret_int (by rw[hD2.out,if_neg (by omega),if_pos (by omega)]),hBw⟩
   ·have h1I:¬(q:Int)<(a.l.length:Int):=by omega
    clear hlt;by_cases h2:a.l.length<b.l.length
    ·have h3I:(a.l.length:Int)<(b.l.length:Int):=by omega
     go_wp2;go_ret;exact⟨ret_int (by rw[hD2.out,if_pos (by omega)]),hBw⟩
    ·have h3I:¬(a.l.length:Int)<(b.l.length:Int):=by omega
     have h4I:¬(b.l.length:Int)<(a.l.length:Int):=by omega
     go_wp2;go_ret;exact⟨ret_int (by rw[hD2.out,if_neg (by omega),if_neg (by omega)]),hBw⟩
theorem R2(B:Nat->Prop):∀(N:Nat) (a:V),wt a<N->Na B a:=by
 intro N;induction N with
 | zero=>intro a h;omega
 | succ N ih=>
  intro a h;refine rcompare_step fun x hx=>ih x ?_
  have:=Dv hx;have:=Bw a;omega
theorem Aq{B:Nat->Prop}{a b:V}{sa sb:Value}{w:World}(ha:IsW B w a sa)(hb:IsW B w b sb) :
  Calls Tryz.prog 35 #[.agg #[iv a.k,iv a.n,bz a.t,sa],.agg #[iv b.k,iv b.n,bz b.t,sb]] w fun r w'=>r=.returned (iv (cmpV a b))∧Below w.heap.size w w':=R2 B _ a (Nat.lt_succ_self _) b sa sb w ha hb
theorem Dk{B:Nat->Prop}{a b:V}{sa sb:Value}{w:World}(ha:IsW B w a sa)(hb:IsW B w b sb) :
  Calls Tryz.prog 15 #[.agg #[iv a.k,iv a.n,bz a.t,sa],.agg #[iv b.k,iv b.n,bz b.t,sb]] w fun r w'=>r=.returned (.bool (cmpV a b == 0))∧Below w.heap.size w w':=by
 obtain⟨aa,ca,rfl,a1,a2⟩:=ha.vs.slice;obtain⟨ab,cb,rfl,b1,b2⟩:=hb.vs.slice;obtain⟨w0,w1,hW,hW1,hs0,hs1,hB,d0,d1,d2,d3,e0,e1,e2,e3⟩:=Dn w a (.slice aa a.l.length ca) b (.slice ab b.l.length cb);have h:=Aq (ha.below hB) (hb.below hB);clear ha hb;go_enter Tryz.func15,Tryz.ntmps15;go_wp2_with fail;refine h.mono ?_;rintro e w3 ⟨rfl,hb3⟩;go_wp2;go_ret;exact⟨rfl,hB.trans (hb3.mono hB.size)⟩
end
section
structure In where
 op:Int
 a:Int
structure Fu where
 params:Int
 locals:Int
 zero:Int
 stack:Int
 code:List In
structure Md where
 consts:List V
 funcs:List Fu
def pshB(op:Int):Bool:=op == 1 || op == 2 || op == 4 || op == 9 || op == 12 || op == 13 || op == 14 || op == 15 || op == 16 || op == 17 || op == 18 || op == 19 || op == 20 || op == 21
def psh(op:Int):Int:=if pshB op then 1 else 0
def Eh(op:Int):Bool:=op == 3 || op == 5 || op == 6 || op == 8 || op == 10 || op == 13 || op == 14 || op == 15 || op == 16
def F0(op:Int):Bool:=op == 12 || op == 17 || op == 18 || op == 19 || op == 21
def popN(fs:List Fu)(i:In):Int:=if Eh i.op then 1 else if F0 i.op then 2 else if i.op == 20 then 3 else if i.op == 9 then ((fs[i.a.toNat]?).map Fu.params).getD 0 else 0
def hgt(fs:List Fu)(i:In)(x:Int):Int:=x - popN fs i+psh i.op
def nxt(p:Nat)(i:In):List Nat:=(if i.op=7∨i.op=8 then [i.a.toNat] else []) ++ (if i.op=7∨i.op=10 then [] else [p+1])
structure Lab(fs:List Fu)(f:Fu)(H:Nat->Option Int):Prop where
 zero:H 0=some 0
 step:∀p x,H p=some x->∃i,f.code[p]?=some i∧0<=x - popN fs i∧hgt fs i x<=f.stack∧∀q∈nxt p i,H q=some (hgt fs i x)
def Bo(fs:List Fu)(f:Fu):Prop:=∃H,Lab fs f H
def Bc(op:Int):Int:=if op == 12 then 3 else 0
def Bx(nc:Nat)(states:Int)(n:Nat)(f:Fu)(op:Int):Int:=
 if op == 1 then nc else if op == 2 || op == 3 then f.locals else if op == 4 || op == 5 then states else if op == 7 || op == 8 then f.code.length
 else if op == 9 then n else if op == 11 then 1099511627777 else if op == 12 then 14 else 1
def inB(nc:Nat)(states:Int)(n:Nat)(f:Fu)(i:In):Bool:=decide (1<=i.op) && decide (i.op<=21) && decide (Bc i.op<=i.a) && decide (i.a<Bx nc states n f i.op)
def Do(nc:Nat)(states:Int)(n:Nat)(f:Fu)(i:In):Prop:=inB nc states n f i=true
theorem Au{nc:Nat}{states:Int}{n:Nat}{f:Fu}{i:In}:Do nc states n f i↔1<=i.op∧i.op<=21∧Bc i.op<=i.a∧i.a<Bx nc states n f i.op:=by
 unfold Do inB;simp[and_assoc]
def A8(nc:Nat)(f:Fu):Prop:=0<=f.params∧f.params<=8∧f.params<=f.locals∧f.locals<=256∧0<=f.zero∧f.zero<nc∧1<=f.stack∧f.stack<=256∧1<=f.code.length∧f.code.length<=16384
structure FuOk(nc:Nat)(states:Int)(fs:List Fu)(n:Nat)(f:Fu):Prop where
 num:A8 nc f
 ins:∀i∈f.code,Do nc states n f i
 walk:Bo fs f
def tys:List (List UInt8):=[[105,110,116],[98,111,111,108],[116,101,120,116],[91,105,110,116,93],[123,105,110,116,58,105,110,116,125]]
noncomputable def ctype (v:V):List UInt8:=if v.l=[] then (tys.find? fun t=>fitS t v).getD [] else []
structure Run(m:Md)(states:Int):Prop where
 st:0<=states∧states<=32
 few:m.funcs.length<=32∧m.consts.length<=16384
 con:∀v∈m.consts,ctype v≠[]
 fun_:∀n f,m.funcs[n]?=some f->FuOk m.consts.length states m.funcs n f
open Classical in
noncomputable def vfy (m:Md) (states:Int):Int:=if Run m states then 0 else 40
theorem H8{m:Md}{states:Int}(h:Run m states):vfy m states=0:=by unfold vfy;rw[if_pos h]
theorem H9{m:Md}{states:Int}(h:¬Run m states):vfy m states=40:=by unfold vfy;rw[if_neg h]
theorem U3{m:Md}{states:Int}:vfy m states=0↔Run m states:=by
 constructor
 ·intro h;by_cases hr:Run m states
  ·exact hr
  ·rw[H9 hr] at h;omega
 ·exact H8
/-! What grows. -/
theorem Ry{fs gs:List Fu}{i:In}{n:Nat}(hn:n<=fs.length)(hi:i.op=9->0<=i.a∧i.a<n)(hg:∀k,k<n->gs[k]?=fs[k]?):popN gs i=popN fs i:=by
 unfold popN;split
 ·rfl
 split
 ·rfl
 split
 ·rfl
 split
 ·rename_i h;have:=hi (by simpa using h);rw[hg i.a.toNat (by omega)]
 ·rfl
theorem Bo.funs{fs gs:List Fu}{f:Fu}{n:Nat}(hn:n<=fs.length)(hi:∀i∈f.code,i.op=9->0<=i.a∧i.a<n)(hg:∀k,k<n->gs[k]?=fs[k]?)(h:Bo fs f):Bo gs f:=by
 obtain⟨H,h0,h1⟩:=h;refine⟨H,h0,fun p x hp=>?_⟩;obtain⟨i,hc,a1,a2,a3⟩:=h1 p x hp;have e:popN gs i=popN fs i:=Ry hn (hi i (List.mem_of_getElem? hc)) hg;refine⟨i,hc,by rw[e];exact a1,?_,fun q hq=>?_⟩
 ·show x - popN gs i+psh i.op<=_;rw[e];exact a2
 ·show H q=some (x - popN gs i+psh i.op);rw[e];exact a3 q hq
theorem Do.call{nc:Nat}{st:Int}{n:Nat}{f:Fu}{i:In}(h:Do nc st n f i)(h9:i.op=9):0<=i.a∧i.a<n:=by
 obtain⟨a,b,c,d⟩:=Au.1 h;unfold Bc at c;unfold Bx at d;rw[h9] at c d;simp at c d;omega
end
end Go.Proofs.YtnijcolomoobnaaGreatDoor
