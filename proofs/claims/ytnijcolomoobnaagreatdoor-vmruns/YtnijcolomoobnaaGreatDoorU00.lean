/- Texts of ours, joined. -/
import Derived.Test.YtnijcolomoobnaaGreatDoorProg
import Derived.Lib.Bytealg
import Derived.Lib.Small
import Derived.WalkSpells
import Derived.WalkLawsBesides
set_option linter.unusedVariables false
set_option linter.unusedSimpArgs false
set_option maxRecDepth 100000
set_option maxHeartbeats 16000000
namespace Go.Proofs.YtnijcolomoobnaaGreatDoor
section
abbrev iv(n:Int):Value:=.int .i64 n
abbrev bz(l:List UInt8):Value:=.string ⟨l.toArray⟩
abbrev pt(b o:Nat):Value:=.pointer (some ⟨b,o,none⟩)
abbrev sL(b o n c:Nat):Value:=.slice (some ⟨b,o,none⟩) n c
abbrev sZ:Value:=.slice none 0 0
inductive V where
 | mk (k n:Int) (t:List UInt8) (l:List V)
namespace V
def k:V->Int | .mk k _ _ _=>k
def n:V->Int | .mk _ n _ _=>n
def t:V->List UInt8 | .mk _ _ t _=>t
def l:V->List V | .mk _ _ _ l=>l
def zero:V:=.mk 0 0 [] []
end V
mutual
def wt:V->Nat | .mk _ _ t l=>1+t.length+wts l
def wts:List V->Nat | []=>0 | v :: r=>wt v+wts r
end
def lx2(c d:Int):Int:=if c=0 then d else c
mutual
def cmpV:V->V->Int
 | .mk k n t l,.mk k' n' t' l'=>lx2 (Lib.compareInt k k') (lx2 (Lib.compareInt n n') (lx2 (Lib.compareBytes t t') (cmpVs l l')))
def cmpVs:List V->List V->Int
 | [],[]=>0
 | [],_ :: _=>-1
 | _ :: _,[]=>1
 | a :: r,b :: s=>lx2 (cmpV a b) (cmpVs r s)
end
def Sg(c:Int):Prop:=c=-1∨c=0∨c=1
theorem Lc:∀a b:List UInt8,Sg (Lib.compareBytes a b)
 | [],[]=>by simp[Lib.compareBytes,Sg]
 | [],_ :: _=>by simp[Lib.compareBytes,Sg]
 | _ :: _,[]=>by simp[Lib.compareBytes,Sg]
 | a :: r,b :: s=>by
  rw[Lib.compareBytes];split
  ·simp[Sg]
  ·split
   ·simp[Sg]
   ·exact Lc r s
theorem Hd{c d c' d':Int}(h1:c=-c')(h2:d=-d'):lx2 c d=- lx2 c' d':=by
 unfold lx2;split <;> split <;> omega
theorem Oz(a b:Int):Lib.compareInt a b=- Lib.compareInt b a:=by unfold Lib.compareInt;repeat' split <;> omega
theorem Ju:∀a b:List UInt8,Lib.compareBytes a b=- Lib.compareBytes b a
 | [],[]=>by simp[Lib.compareBytes]
 | [],_ :: _=>by simp[Lib.compareBytes]
 | _ :: _,[]=>by simp[Lib.compareBytes]
 | a :: r,b :: s=>by
  rw[Lib.compareBytes,Lib.compareBytes];by_cases h1:a<b
  ·have h2:¬b<a:=by rw[UInt8.lt_iff_toNat_lt] at *;omega
   rw[if_pos h1,if_neg h2,if_pos h1]
  ·by_cases h2:b<a
   ·rw[if_neg h1,if_pos h2,if_pos h2];rfl
   ·rw[if_neg h1,if_neg h2,if_neg h2,if_neg h1];exact Ju r s
mutual
theorem Dm:∀a b:V,cmpV a b=- cmpV b a
 | .mk k n t l,.mk k' n' t' l'=>by
  rw[cmpV,cmpV];exact Hd (Oz _ _) (Hd (Oz _ _) (Hd (Ju _ _) (Jv _ _)))
theorem Jv:∀a b:List V,cmpVs a b=- cmpVs b a
 | [],[]=>by simp[cmpVs]
 | [],_ :: _=>by simp[cmpVs]
 | _ :: _,[]=>by simp[cmpVs]
 | a :: r,b :: s=>by rw[cmpVs,cmpVs];exact Hd (Dm a b) (Jv r s)
end
theorem Fz{c d:Int}:lx2 c d=0↔c=0∧d=0:=by unfold lx2;split <;> omega
theorem D2(a b:Int):Lib.compareInt a b=0↔a=b:=by unfold Lib.compareInt;repeat' split <;> omega
theorem Eg:∀a b:List UInt8,Lib.compareBytes a b=0↔a=b
 | [],[]=>by simp[Lib.compareBytes]
 | [],_ :: _=>by simp[Lib.compareBytes]
 | _ :: _,[]=>by simp[Lib.compareBytes]
 | a :: r,b :: s=>by
  rw[Lib.compareBytes];by_cases h1:a<b
  ·rw[if_pos h1];have:a≠b:=by rintro rfl;rw[UInt8.lt_iff_toNat_lt] at h1;omega
   simp[this]
  ·by_cases h2:b<a
   ·rw[if_neg h1,if_pos h2];have:a≠b:=by rintro rfl;rw[UInt8.lt_iff_toNat_lt] at h2;omega
    simp[this]
   ·rw[if_neg h1,if_neg h2];have:a=b:=by rw[UInt8.lt_iff_toNat_lt] at h1 h2;exact UInt8.toNat_inj.mp (by omega)
    subst this;rw[Eg r s];simp
mutual
theorem Cl:∀a b:V,cmpV a b=0↔a=b
 | .mk k n t l,.mk k' n' t' l'=>by
  rw[cmpV,Fz,Fz,Fz,D2,D2,Eg,H3];simp
theorem H3:∀a b:List V,cmpVs a b=0↔a=b
 | [],[]=>by simp[cmpVs]
 | [],_ :: _=>by simp[cmpVs]
 | _ :: _,[]=>by simp[cmpVs]
 | a :: r,b :: s=>by rw[cmpVs,Fz,Cl,H3];simp
end
theorem Dj(a:V):cmpV a a=0:=(Cl a a).2 rfl
def Tri(x y z:Int):Prop:=x<=0->y<=0->z<=0∧(z=0->x=0∧y=0)
theorem He{x y z x' y' z':Int}(h1:Tri x y z)(h2:Tri x' y' z'):Tri (lx2 x x') (lx2 y y') (lx2 z z'):=by
 unfold Tri lx2 at *;intro hx hy;have hx1:x<=0:=by split at hx <;> omega
 have hy1:y<=0:=by split at hy <;> omega
 have h:=h1 hx1 hy1;by_cases hz:z=0
 ·obtain⟨hx0,hy0⟩:=h.2 hz;rw[if_pos hx0] at hx ⊢;rw[if_pos hy0] at hy ⊢;rw[if_pos hz];exact h2 hx hy
 ·rw[if_neg hz];exact⟨h.1,fun e=>absurd e hz⟩
theorem O0(a b c:Int):Tri (Lib.compareInt a b) (Lib.compareInt b c) (Lib.compareInt a c):=by
 unfold Tri Lib.compareInt;repeat' split <;> omega
theorem Jw:∀a b c:List UInt8,Tri (Lib.compareBytes a b) (Lib.compareBytes b c) (Lib.compareBytes a c)
 | [],[],[]=>by simp[Lib.compareBytes,Tri]
 | [],[],_ :: _=>by simp[Lib.compareBytes,Tri]
 | [],_ :: _,[]=>by simp[Lib.compareBytes,Tri]
 | [],b :: s,c :: u=>by
  intro h1 h2;simp[Lib.compareBytes]
 | _ :: _,[],_=>by intro h1;simp[Lib.compareBytes] at h1
 | _ :: _,_ :: _,[]=>by intro h1 h2;simp[Lib.compareBytes] at h2
 | a :: r,b :: s,c :: u=>by
  have ih:=Jw r s u;unfold Tri at *;simp only[Lib.compareBytes,UInt8.lt_iff_toNat_lt]
  repeat' split <;> omega
mutual
theorem Ld:∀a b c:V,Tri (cmpV a b) (cmpV b c) (cmpV a c)
 | .mk k n t l,.mk k' n' t' l',.mk k2 n2 t2 l2=>by
  rw[cmpV,cmpV,cmpV];exact He (O0 _ _ _) (He (O0 _ _ _) (He (Jw _ _ _) (Jx _ _ _)))
theorem Jx:∀a b c:List V,Tri (cmpVs a b) (cmpVs b c) (cmpVs a c)
 | [],[],[]=>by simp[cmpVs,Tri]
 | [],[],_ :: _=>by simp[cmpVs,Tri]
 | [],_ :: _,[]=>by simp[cmpVs,Tri]
 | [],_ :: _,_ :: _=>by intro h1 h2;simp[cmpVs]
 | _ :: _,[],_=>by intro h1;simp[cmpVs] at h1
 | _ :: _,_ :: _,[]=>by intro h1 h2;simp[cmpVs] at h2
 | a :: r,b :: s,c :: u=>by rw[cmpVs,cmpVs,cmpVs];exact He (Ld a b c) (Jx r s u)
end
theorem cmpV_lt_trans{a b c:V}(h1:cmpV a b<0)(h2:cmpV b c<0):cmpV a c<0:=by
 have:=Ld a b c (by omega) (by omega);omega
theorem W3:∀v:V,1<=wt v
 | .mk _ _ _ _=>by rw[wt];omega
theorem Dv:∀{l:List V} {x:V},x∈l->wt x<=wts l
 | a :: r,x,h=>by
  rw[wts];rcases List.mem_cons.1 h with rfl | h
  ·omega
  ·have:=Dv h;omega
theorem Df{l:List V}{i:Nat}{x:V}(h:l[i]?=some x):wt x<=wts l:=Dv (List.mem_of_getElem? h)
theorem A4:∀l:List V,l.length<=wts l
 | []=>by simp[wts]
 | a :: r=>by rw[wts];have:=A4 r;have:=W3 a;simp;omega
theorem Bl:∀a b:List V,wts (a ++ b)=wts a+wts b
 | [],b=>by simp[wts]
 | x :: r,b=>by rw[List.cons_append,wts,wts,Bl r b];omega
theorem C8{l:List V}{i:Nat}{x:V}(h:l[i]?=some x):wts (l.take (i+1))=wts (l.take i)+wt x:=by
 obtain⟨hi,rfl⟩:=List.getElem?_eq_some_iff.1 h;rw[List.take_succ_eq_append_getElem hi,Bl];simp[wts]
theorem Dw(l:List V)(i:Nat):wts (l.take i)<=wts l:=by
 have:=Bl (l.take i) (l.drop i);rw[List.take_append_drop] at this;omega
theorem H4(k n:Int)(t:List UInt8)(l:List V):wt (.mk k n t l)=1+t.length+wts l:=by rw[wt]
theorem H5{a b:List V}{i:Nat}{x y:V}(hx:a[i]?=some x)(hy:b[i]?=some y):cmpVs (a.drop i) (b.drop i)=lx2 (cmpV x y) (cmpVs (a.drop (i+1)) (b.drop (i+1))):=by
 obtain⟨hi,rfl⟩:=List.getElem?_eq_some_iff.1 hx;obtain⟨hj,rfl⟩:=List.getElem?_eq_some_iff.1 hy;rw[List.drop_eq_getElem_cons hi,List.drop_eq_getElem_cons hj,cmpVs]
theorem Gh{a b:List V}{i:Nat}(h:a.length<=i∨b.length<=i)(ha:i<=a.length)(hb:i<=b.length):cmpVs (a.drop i) (b.drop i)=if a.length<b.length then -1 else if b.length<a.length then 1 else 0:=by
 rcases ha':a.drop i with _ | ⟨x,r⟩ <;> rcases hb':b.drop i with _ | ⟨y,s⟩
 ·have h1:=congrArg List.length ha';have h2:=congrArg List.length hb';simp at h1 h2;rw[if_neg (by omega),if_neg (by omega)];rfl
 ·have h1:=congrArg List.length ha';have h2:=congrArg List.length hb';simp at h1 h2;rw[if_pos (by omega)];rfl
 ·have h1:=congrArg List.length ha';have h2:=congrArg List.length hb';simp at h1 h2;rw[if_neg (by omega),if_pos (by omega)];rfl
 ·have h1:=congrArg List.length ha';have h2:=congrArg List.length hb';simp at h1 h2;omega
end
section
open Go.RowKit
abbrev From(n:Nat):Nat->Prop:=fun g=>n<=g
def Yn(v:Value):Prop:=v=sZ∨∃a cap,v=.slice (some a) 0 cap∧cap<=maxLen
def C0(B:Nat->Prop)(w:World)(sz:Nat)(v:Value)(n:Nat)(row:List Value):Prop:=
 row.length=n*sz∧((Yn v∧n=0)∨∃g o cap,v=sL g o n cap∧n<=cap∧cap<=maxLen∧B g∧g<w.heap.size∧∀(j:Nat) (u:Value),row[j]?=some u->w.cell? ⟨g,o+j,none⟩=some u)
def InR(n:Int):Prop:=-9223372036854775808<=n∧n<=9223372036854775807
mutual
def IsV(B:Nat->Prop)(w:World):V->List Value->Prop
 | .mk k n t l,cs=>∃sl row,cs=[iv k,iv n,.string ⟨t.toArray⟩,sl]∧t.length<=maxLen∧InR k∧InR n∧C0 B w 4 sl l.length row∧An B w l row
def An(B:Nat->Prop)(w:World):List V->List Value->Prop
 | [],cs=>cs=[]
 | e :: r,cs=>∃c1 c2,cs=c1 ++ c2∧IsV B w e c1∧An B w r c2
end
def Al(B:Nat->Prop)(w:World)(l:List V)(sl:Value):Prop:=∃row,C0 B w 4 sl l.length row∧An B w l row
structure IsW(B:Nat->Prop)(w:World)(v:V)(sl:Value):Prop where
 txt:v.t.length<=maxLen
 kr:InR v.k
 nr:InR v.n
 vs:Al B w v.l sl
theorem At{B:Nat->Prop}{w:World}{v:V}{cs:List Value}:IsV B w v cs↔∃sl,cs=[iv v.k,iv v.n,bz v.t,sl]∧IsW B w v sl:=by
 obtain⟨k,n,t,l⟩:=v;rw[IsV];constructor
 ·rintro⟨sl,row,h1,h2,h3,h4,h5,h6⟩;exact⟨sl,h1,h2,h3,h4,row,h5,h6⟩
 ·rintro⟨sl,h1,h2,h3,h4,row,h5,h6⟩;exact⟨sl,row,h1,h2,h3,h4,h5,h6⟩
structure Since(B:Nat->Prop)(w w':World):Prop where
 size:w.heap.size<=w'.heap.size
 block:∀k,B k->k<w.heap.size->w'.heap[k]?=w.heap[k]?
theorem Since.of_below{B:Nat->Prop}{w w':World}(h:Below w.heap.size w w'):Since B w w':=⟨h.size,fun k _ h2=>h.block k h2⟩
theorem Since.mono{B B':Nat->Prop}{w w':World}(h:Since B w w')(hb:∀k,B' k->B k):Since B' w w':=⟨h.size,fun k h1 h2=>h.block k (hb k h1) h2⟩
theorem C0.since{B:Nat->Prop}{w w':World}{sz:Nat}{v:Value}{n:Nat}{row:List Value}(h:C0 B w sz v n row)(s:Since B w w'):C0 B w' sz v n row:=by
 obtain⟨h1,h2⟩:=h;refine⟨h1,?_⟩;rcases h2 with h2 | ⟨g,o,cap,hv,hc,hm,hB,hg,hcell⟩
 ·exact Or.inl h2
 ·refine Or.inr ⟨g,o,cap,hv,hc,hm,hB,by have:=s.size;omega,fun j u hj=>?_⟩;rw[World.cell?_of_block (w:=w) (s.block g hB hg)];exact hcell j u hj
theorem C0.base{B B':Nat->Prop}{w:World}{sz:Nat}{v:Value}{n:Nat}{row:List Value}(h:C0 B w sz v n row)(hb:∀k,B k->k<w.heap.size->B' k):C0 B' w sz v n row:=by
 obtain⟨h1,h2⟩:=h;refine⟨h1,?_⟩;rcases h2 with h2 | ⟨g,o,cap,hv,hc,hm,hB,hg,r⟩
 ·exact Or.inl h2
 ·exact Or.inr ⟨g,o,cap,hv,hc,hm,hb _ hB hg,hg,r⟩
mutual
theorem IsV.since{B:Nat->Prop}{w w':World}(s:Since B w w'):∀{e:V} {cs:List Value},IsV B w e cs->IsV B w' e cs
 | .mk k n t l,cs,h=>by
  rw[IsV] at h ⊢;obtain⟨sl,row,hc,h1,h2,h3,hr,ha⟩:=h;exact⟨sl,row,hc,h1,h2,h3,hr.since s,An.since s ha⟩
theorem An.since{B:Nat->Prop}{w w':World}(s:Since B w w'):∀{l:List V} {cs:List Value},An B w l cs->An B w' l cs
 | [],cs,h=>by rw[An] at h ⊢;exact h
 | e :: r,cs,h=>by
  rw[An] at h ⊢;obtain⟨c1,c2,hc,h1,h2⟩:=h;exact⟨c1,c2,hc,IsV.since s h1,An.since s h2⟩
end
mutual
theorem IsV.base{B B':Nat->Prop}{w:World}(hb:∀k,B k->k<w.heap.size->B' k):∀{e:V} {cs:List Value},IsV B w e cs->IsV B' w e cs
 | .mk k n t l,cs,h=>by
  rw[IsV] at h ⊢;obtain⟨sl,row,hc,h1,h2,h3,hr,ha⟩:=h;exact⟨sl,row,hc,h1,h2,h3,hr.base hb,An.base hb ha⟩
theorem An.base{B B':Nat->Prop}{w:World}(hb:∀k,B k->k<w.heap.size->B' k):∀{l:List V} {cs:List Value},An B w l cs->An B' w l cs
 | [],cs,h=>by rw[An] at h ⊢;exact h
 | e :: r,cs,h=>by
  rw[An] at h ⊢;obtain⟨c1,c2,hc,h1,h2⟩:=h;exact⟨c1,c2,hc,IsV.base hb h1,An.base hb h2⟩
end
theorem Al.since{B:Nat->Prop}{w w':World}{l:List V}{sl:Value}(h:Al B w l sl)(s:Since B w w'):Al B w' l sl:=by
 obtain⟨row,h1,h2⟩:=h;exact⟨row,h1.since s,h2.since s⟩
theorem Al.below{B:Nat->Prop}{w w':World}{l:List V}{sl:Value}(h:Al B w l sl)(s:Below w.heap.size w w'):Al B w' l sl:=h.since (Since.of_below s)
theorem Al.base{B B':Nat->Prop}{w:World}{l:List V}{sl:Value}(h:Al B w l sl)(hb:∀k,B k->k<w.heap.size->B' k):Al B' w l sl:=by
 obtain⟨row,h1,h2⟩:=h;exact⟨row,h1.base hb,h2.base hb⟩
theorem IsW.since{B:Nat->Prop}{w w':World}{v:V}{sl:Value}(h:IsW B w v sl)(s:Since B w w'):IsW B w' v sl:=⟨h.txt,h.kr,h.nr,h.vs.since s⟩
theorem IsW.below{B:Nat->Prop}{w w':World}{v:V}{sl:Value}(h:IsW B w v sl)(s:Below w.heap.size w w'):IsW B w' v sl:=h.since (Since.of_below s)
theorem IsW.base{B B':Nat->Prop}{w:World}{v:V}{sl:Value}(h:IsW B w v sl)(hb:∀k,B k->k<w.heap.size->B' k):IsW B' w v sl:=⟨h.txt,h.kr,h.nr,h.vs.base hb⟩
theorem IsV.len{B:Nat->Prop}{w:World}{e:V}{cs:List Value}(h:IsV B w e cs):cs.length=4:=by
 obtain⟨sl,rfl,_⟩:=At.1 h;rfl
theorem An.get{B:Nat->Prop}{w:World}:∀{l:List V} {row:List Value} {i:Nat} {e:V},An B w l row->l[i]?=some e->∃cs,IsV B w e cs∧∀j,j<4->row[i*4+j]?=cs[j]?
 | [],row,i,e,h,hi=>by simp at hi
 | a :: r,row,0,e,h,hi=>by
  rw[An] at h;obtain⟨c1,c2,hc,h1,h2⟩:=h;simp at hi;subst hi;exact⟨c1,h1,fun j hj=>by rw[hc,List.getElem?_append_left (by have:=h1.len;omega)];simp⟩
 | a :: r,row,i+1,e,h,hi=>by
  rw[An] at h;obtain⟨c1,c2,hc,h1,h2⟩:=h;obtain⟨cs,k1,k2⟩:=An.get h2 (by simpa using hi);refine⟨cs,k1,fun j hj=>?_⟩;have:=h1.len;rw[hc,List.getElem?_append_right (by omega),<-k2 j hj];congr 1;omega
theorem An.append{B:Nat->Prop}{w:World}:∀{l m:List V} {row row':List Value},An B w l row->An B w m row'->An B w (l ++ m) (row ++ row')
 | [],m,row,row',h,he=>by
  rw[An] at h;subst h;exact he
 | a :: r,m,row,row',h,he=>by
  rw[An] at h;obtain⟨c1,c2,hc,h1,h2⟩:=h;rw[List.cons_append,An];exact⟨c1,c2 ++ row',by rw[hc];simp,h1,An.append h2 he⟩
theorem An.one{B:Nat->Prop}{w:World}{e:V}{cs:List Value}(h:IsV B w e cs):An B w [e] cs:=by
 rw[An];exact⟨cs,[],by simp,h,by rw[An]⟩
theorem An.split{B:Nat->Prop}{w:World}:∀{l m:List V} {row:List Value},An B w (l ++ m) row->∃r1 r2,row=r1 ++ r2∧An B w l r1∧An B w m r2
 | [],m,row,h=>⟨[],row,rfl,by rw[An],h⟩
 | a :: r,m,row,h=>by
  rw[List.cons_append,An] at h;obtain⟨c1,c2,hc,h1,h2⟩:=h;obtain⟨r1,r2,e,k1,k2⟩:=An.split h2;refine⟨c1 ++ r1,r2,by rw[hc,e];simp,?_,k2⟩;rw[An];exact⟨c1,r1,rfl,h1,k1⟩
theorem An.len{B:Nat->Prop}{w:World}:∀{l:List V} {row:List Value},An B w l row->row.length=l.length*4
 | [],row,h=>by rw[An] at h;subst h;rfl
 | a :: r,row,h=>by
  rw[An] at h;obtain⟨c1,c2,hc,h1,h2⟩:=h;have:=h1.len;have:=An.len h2;rw[hc];simp;omega
theorem C0.slice{B:Nat->Prop}{w:World}{sz:Nat}{v:Value}{n:Nat}{row:List Value}(h:C0 B w sz v n row):∃ao cap,v=.slice ao n cap∧n<=cap∧cap<=maxLen:=by
 rcases h.2 with⟨h1 | ⟨a,cap,h1,h2⟩,h0⟩ | ⟨g,o,cap,h1,h2,h3,_⟩
 ·exact⟨none,0,by rw[h1,h0],by omega,by unfold maxLen;omega⟩
 ·exact⟨some a,cap,by rw[h1,h0],by omega,h2⟩
 ·exact⟨_,cap,h1,h2,h3⟩
theorem Al.slice{B:Nat->Prop}{w:World}{l:List V}{sl:Value}(h:Al B w l sl):∃ao cap,sl=.slice ao l.length cap∧l.length<=cap∧cap<=9223372036854775807:=by
 obtain⟨row,h1,_⟩:=h;obtain⟨ao,cap,e,a,b⟩:=h1.slice;exact⟨ao,cap,e,a,by unfold maxLen at b;omega⟩
theorem Al.nil{B:Nat->Prop}{w:World}:Al B w [] sZ:=⟨[],⟨rfl,Or.inl ⟨Or.inl rfl,rfl⟩⟩,by rw[An]⟩
theorem Al.get{B:Nat->Prop}{w:World}{l:List V}{ao:Option Addr}{n cap:Nat}{i:Nat}{x:V}(h:Al B w l (.slice ao n cap))(hi:l[i]?=some x) :
  ∃g o ax cx,ao=some ⟨g,o,none⟩∧B g∧g<w.heap.size∧w.cell? ⟨g,o+i*4,none⟩=some (iv x.k)∧w.cell? ⟨g,o+i*4+1,none⟩=some (iv x.n)∧w.cell? ⟨g,o+i*4+2,none⟩=some (bz x.t)∧w.cell? ⟨g,o+i*4+3,none⟩=some (.slice ax x.l.length cx)∧IsW B w x (.slice ax x.l.length cx):=by
 obtain⟨row,⟨h1,h2⟩,h3⟩:=h;obtain⟨cs,k1,k2⟩:=h3.get hi;obtain⟨sx,rfl,hx⟩:=At.1 k1;obtain⟨ax,cx,rfl,_,_⟩:=hx.vs.slice;have hl:i<l.length:=(List.getElem?_eq_some_iff.1 hi).1;rcases h2 with⟨_,h0⟩ | ⟨g,o,cap',e,_,_,hB,hg,hc⟩
 ·omega
 ·simp only[Value.slice.injEq] at e;obtain⟨rfl,_,_⟩:=e;refine⟨g,o,ax,cx,rfl,hB,hg,hc (i*4) _ (k2 0 (by omega)),?_,?_,?_,hx⟩
  ·rw[Nat.add_assoc];exact hc (i*4+1) _ (k2 1 (by omega))
  ·rw[Nat.add_assoc];exact hc (i*4+2) _ (k2 2 (by omega))
  ·rw[Nat.add_assoc];exact hc (i*4+3) _ (k2 3 (by omega))
theorem Ai(w:World)(o:Obj):(w.alloc o).heap[w.heap.size]?=some o:=by
 show (w.heap.push _)[w.heap.size]?=_;rw[Array.getElem?_push,if_pos rfl]
theorem Aa{w:World}{g:Nat}{y0 y1 y2 y3:Value}{T:TypeId}(h:w.heap[g]?=some (.cells #[y0,y1,y2,y3] T (0,0))):w.cell? ⟨g,0,none⟩=some y0∧w.cell? ⟨g,1,none⟩=some y1∧w.cell? ⟨g,2,none⟩=some y2∧w.cell? ⟨g,3,none⟩=some y3∧w.frozen? ⟨g,0,none⟩=false∧w.frozen? ⟨g,1,none⟩=false∧w.frozen? ⟨g,2,none⟩=false∧w.frozen? ⟨g,3,none⟩=false:=by
 refine⟨?_,?_,?_,?_,?_,?_,?_,?_⟩
 all_goals first | simp[World.cell?,h] | simp[World.frozen?,h]
theorem Ap{w:World}{g:Nat}{y:Value}{T:TypeId}(h:w.heap[g]?=some (.cells #[y] T (0,0))):w.cell? ⟨g,0,none⟩=some y:=by simp[World.cell?,h]
theorem Ag{W w1:World}(hb:Below W.heap.size W w1):(∀b o,b<W.heap.size->w1.cell? ⟨b,o,none⟩=W.cell? ⟨b,o,none⟩)∧(∀b o,b<W.heap.size->w1.frozen? ⟨b,o,none⟩=W.frozen? ⟨b,o,none⟩):=
 ⟨fun b o h=>hb.cell (p:=⟨b,o,none⟩) h,fun b o h=>hb.frozen (p:=⟨b,o,none⟩) h⟩
theorem Aw(w:World)(v:V)(sl:Value):∃w0,w.alloc (.cells #[iv v.k,iv v.n,bz v.t,sl] 31)=w0∧Below w.heap.size w w0∧w0.heap.size=w.heap.size+1∧w0.cell? ⟨w.heap.size,0,none⟩=some (iv v.k)∧w0.cell? ⟨w.heap.size,1,none⟩=some (iv v.n)∧w0.cell? ⟨w.heap.size,2,none⟩=some (bz v.t)∧w0.cell? ⟨w.heap.size,3,none⟩=some sl:=by
 obtain⟨h0,h1,h2,h3,_⟩:=Aa (Ai w (.cells #[iv v.k,iv v.n,bz v.t,sl] 31));exact⟨_,rfl,(Below.refl _ _).alloc (Nat.le_refl _) _,by simp,h0,h1,h2,h3⟩
theorem Dn(w:World)(a:V)(sa:Value)(b:V)(sb:Value):∃w0 w1,w.alloc (.cells #[iv a.k,iv a.n,bz a.t,sa] 31)=w0∧w0.alloc (.cells #[iv b.k,iv b.n,bz b.t,sb] 31)=w1∧w0.heap.size=w.heap.size+1∧w1.heap.size=w.heap.size+2∧Below w.heap.size w w1 ∧
  w1.cell? ⟨w.heap.size,0,none⟩=some (iv a.k)∧w1.cell? ⟨w.heap.size,1,none⟩=some (iv a.n)∧w1.cell? ⟨w.heap.size,2,none⟩=some (bz a.t)∧w1.cell? ⟨w.heap.size,3,none⟩=some sa ∧
  w1.cell? ⟨w.heap.size+1,0,none⟩=some (iv b.k)∧w1.cell? ⟨w.heap.size+1,1,none⟩=some (iv b.n)∧w1.cell? ⟨w.heap.size+1,2,none⟩=some (bz b.t)∧w1.cell? ⟨w.heap.size+1,3,none⟩=some sb:=by
 obtain⟨w0,hW,hb0,hsz,d0,d1,d2,d3⟩:=Aw w a sa;obtain⟨w1,hW1,hb1,hsz1,e0,e1,e2,e3⟩:=Aw w0 b sb;obtain⟨f1,-⟩:=Ag hb1;rw[<-f1 w.heap.size _ (by omega)] at d0 d1 d2 d3;rw[hsz] at e0 e1 e2 e3;exact⟨w0,w1,hW,hW1,hsz,by omega,hb0.trans (hb1.mono (by omega)),d0,d1,d2,d3,e0,e1,e2,e3⟩
theorem Bw(v:V):wt v=1+v.t.length+wts v.l:=by cases v;rw[wt];rfl
theorem Ad{w w':World}(h:Below w.drew.heap.size w.drew w'):Below w.heap.size w w':=((Below.refl w.heap.size w).drew).trans h
theorem Af(w:World)(n:Nat):Below w.heap.size w (w.drewN n):=⟨rfl,rfl,rfl,Nat.le_refl _,fun _ _=>rfl⟩
theorem G5(w:World):∃w0,w.alloc (.cells #[iv 0,iv 0,.string ⟨#[]⟩,sZ] 31)=w0∧Below w.heap.size w w0∧w0.heap.size=w.heap.size+1 ∧
  ∀w3,Below w0.heap.size w0 w3->w3.cell? ⟨w.heap.size,0,none⟩=some (iv 0)∧w3.cell? ⟨w.heap.size,1,none⟩=some (iv 0)∧w3.cell? ⟨w.heap.size,2,none⟩=some (.string ⟨#[]⟩)∧w3.cell? ⟨w.heap.size,3,none⟩=some sZ ∧
   w3.frozen? ⟨w.heap.size,0,none⟩=false∧w3.frozen? ⟨w.heap.size,1,none⟩=false∧w3.frozen? ⟨w.heap.size,2,none⟩=false∧w3.frozen? ⟨w.heap.size,3,none⟩=false∧w.heap.size<w3.heap.size:=by
 obtain⟨h0,h1,h2,h3,f0,f1,f2,f3⟩:=Aa (Ai w (.cells #[iv 0,iv 0,.string ⟨#[]⟩,sZ] 31));refine⟨_,rfl,(Below.refl _ _).alloc (Nat.le_refl _) _,by simp,fun w3 hb=>?_⟩;obtain⟨c,f⟩:=Ag hb;have hz:w.heap.size<(w.alloc (.cells #[iv 0,iv 0,.string ⟨#[]⟩,sZ] 31)).heap.size:=by simp
 have hs:=hb.size;exact⟨by rw[c _ _ hz];exact h0,by rw[c _ _ hz];exact h1,by rw[c _ _ hz];exact h2,by rw[c _ _ hz];exact h3,by rw[f _ _ hz];exact f0,by rw[f _ _ hz];exact f1,by rw[f _ _ hz];exact f2,by rw[f _ _ hz];exact f3,by omega⟩
abbrev Cx(w:World)(g:Nat)(x0 x1 x2 x3:Value):World:=(((w.setCell ⟨g,0,none⟩ x0).setCell ⟨g,1,none⟩ x1).setCell ⟨g,2,none⟩ x2).setCell ⟨g,3,none⟩ x3
theorem Aj{n:Nat}{w w':World}(h:Below n w w'){g:Nat}(hg:n<=g)(x0 x1 x2 x3:Value):Below n w (Cx w' g x0 x1 x2 x3):=((((h.setCell (p:=⟨g,0,none⟩) hg x0).setCell (p:=⟨g,1,none⟩) hg x1).setCell (p:=⟨g,2,none⟩) hg x2).setCell (p:=⟨g,3,none⟩) hg x3)
theorem H6{w:World}{g k:Nat}(hk:k≠g)(x0 x1 x2 x3:Value):(Cx w g x0 x1 x2 x3).heap[k]?=w.heap[k]?:=by
 simp only[Cx];rw[Below.heap_setCell _ _ _ _ hk,Below.heap_setCell _ _ _ _ hk,Below.heap_setCell _ _ _ _ hk,Below.heap_setCell _ _ _ _ hk]
theorem D3(w:World)(g:Nat)(x0 x1 x2 x3:Value):(Cx w g x0 x1 x2 x3).heap.size=w.heap.size:=by simp[Cx,World.setCell]
theorem Ba{w:World}{g:Nat}{B:Nat->Prop}(hg:¬B g)(x0 x1 x2 x3:Value):Since B w (Cx w g x0 x1 x2 x3):=⟨by rw[D3];exact Nat.le_refl _,fun k h1 _=>H6 (fun e=>hg (by rw[<-e];exact h1)) x0 x1 x2 x3⟩
theorem ret_int{k:IntKind}{a b:Int}(h:a=b):Ending.returned (.int k a)=.returned (.int k b):=by rw[h]
theorem ret_bool{a b:Bool}(h:a=b):Ending.returned (.bool a)=.returned (.bool b):=by rw[h]
end
section
def betw(s a c:List UInt8):Option (List UInt8):=if (Lib.hasPrefix s a && Lib.hasSuffix (Lib.trimPrefix s a) c)=true then some (Lib.trimSuffix (Lib.trimPrefix s a) c) else none
theorem O1(s a:List UInt8):Lib.hasPrefix s a=true↔∃y,s=a ++ y:=by
 rw[Lib.hasPrefix,List.isPrefixOf_iff_prefix];exact⟨fun⟨y,h⟩=>⟨y,h.symm⟩,fun⟨y,h⟩=>⟨y,h.symm⟩⟩
theorem O2(s a:List UInt8):Lib.hasSuffix s a=true↔∃y,s=y ++ a:=by
 rw[Lib.hasSuffix,List.isSuffixOf_iff_suffix];exact⟨fun⟨y,h⟩=>⟨y,h.symm⟩,fun⟨y,h⟩=>⟨y,h.symm⟩⟩
theorem Cc(s a c y:List UInt8):betw s a c=some y↔s=a ++ y ++ c:=by
 unfold betw;constructor
 ·intro h;split at h
  ·rename_i h1;simp only[Bool.and_eq_true] at h1;obtain⟨z,rfl⟩:=(O1 s a).1 h1.1;have e:Lib.trimPrefix (a ++ z) a=z:=by simp[Lib.trimPrefix,h1.1]
   rw[e] at h h1;obtain⟨z2,rfl⟩:=(O2 z c).1 h1.2;simp[Lib.trimSuffix,h1.2] at h;subst h;simp
  ·cases h
 ·rintro rfl;have h1:Lib.hasPrefix (a ++ y ++ c) a=true:=(O1 _ _).2 ⟨y ++ c,by simp⟩;have e:Lib.trimPrefix (a ++ y ++ c) a=y ++ c:=by rw[Lib.trimPrefix,if_pos h1];simp
  have h2:Lib.hasSuffix (y ++ c) c=true:=(O2 _ _).2 ⟨y,rfl⟩;rw[e,h1,h2];simp[Lib.trimSuffix,h2]
def elemT(s:List UInt8):Option (List UInt8):=
 match betw s [91] [93] with
 | some y=>some y
 | none=>match betw s [123,105,110,116,58] [125] with
  | some y=>some y
  | none=>betw s [123,116,101,120,116,58] [125]
theorem Gi(s a c:List UInt8)(h:∀y,s≠a ++ y ++ c):betw s a c=none:=by
 rcases hb:betw s a c with _ | y
 ·rfl
 ·exact absurd ((Cc s a c y).1 hb) (h y)
inductive Ty where
 | int | bool | text
 | list (t:Ty)
 | map (k:Bool) (t:Ty)
 deriving DecidableEq
def keyT(k:Bool):List UInt8:=if k then [105,110,116] else [116,101,120,116]
def tyT:Ty->List UInt8
 | .int=>[105,110,116]
 | .bool=>[98,111,111,108]
 | .text=>[116,101,120,116]
 | .list t=>[91] ++ tyT t ++ [93]
 | .map k t=>[123] ++ keyT k ++ [58] ++ tyT t ++ [125]
def Ty.dp:Ty->Nat
 | .int=>1 | .bool=>1 | .text=>1
 | .list t=>t.dp+1
 | .map _ t=>t.dp+1
def Fg:Nat->List UInt8->Option Ty
 | 0,_=>none
 | f+1,s=>if s=[105,110,116] then some .int else if s=[98,111,111,108] then some .bool else if s=[116,101,120,116] then some .text else
  match betw s [91] [93] with
  | some y=>(Fg f y).map .list
  | none=>match betw s [123,105,110,116,58] [125] with
   | some y=>(Fg f y).map (.map true)
   | none=>match betw s [123,116,101,120,116,58] [125] with
    | some y=>(Fg f y).map (.map false)
    | none=>none
def tyOf(s:List UInt8):Option Ty:=Fg 4 s
def tyF:Nat->List UInt8->Bool
 | 0,_=>false
 | f+1,s=>if s=[105,110,116]∨s=[98,111,111,108]∨s=[116,101,120,116] then true else match elemT s with
  | some y=>tyF f y
  | none=>false
theorem Kc:∀(f:Nat) (s:List UInt8),tyF f s=(Fg f s).isSome
 | 0,s=>rfl
 | f+1,s=>by
  rw[tyF,Fg];by_cases h1:s=[105,110,116]
  ·rw[if_pos (Or.inl h1),if_pos h1];rfl
  by_cases h2:s=[98,111,111,108]
  ·rw[if_pos (Or.inr (Or.inl h2)),if_neg h1,if_pos h2];rfl
  by_cases h3:s=[116,101,120,116]
  ·rw[if_pos (Or.inr (Or.inr h3)),if_neg h1,if_neg h2,if_pos h3];rfl
  rw[if_neg (by rintro (h | h | h) <;> contradiction),if_neg h1,if_neg h2,if_neg h3];unfold elemT;rcases betw s [91] [93] with _ | y
  ·rcases betw s [123,105,110,116,58] [125] with _ | y
   ·rcases betw s [123,116,101,120,116,58] [125] with _ | y
    ·rfl
    ·simp[Kc f y]
   ·simp[Kc f y]
  ·simp[Kc f y]
def Es(s:List UInt8):Bool:=(tyOf s).isSome
theorem Pv(s:List UInt8):Es s=tyF 4 s:=(Kc 4 s).symm
theorem Hg:∀(f:Nat) (s:List UInt8) (T:Ty),Fg f s=some T->tyT T=s∧T.dp<=f
 | 0,s,T,h=>by simp[Fg] at h
 | f+1,s,T,h=>by
  rw[Fg] at h;by_cases h1:s=[105,110,116]
  ·rw[if_pos h1] at h;cases h;subst h1;exact⟨rfl,by simp[Ty.dp]⟩
  rw[if_neg h1] at h;by_cases h2:s=[98,111,111,108]
  ·rw[if_pos h2] at h;cases h;subst h2;exact⟨rfl,by simp[Ty.dp]⟩
  rw[if_neg h2] at h;by_cases h3:s=[116,101,120,116]
  ·rw[if_pos h3] at h;cases h;subst h3;exact⟨rfl,by simp[Ty.dp]⟩
  rw[if_neg h3] at h;rcases e1:betw s [91] [93] with _ | y
  ·rw[e1] at h;rcases e2:betw s [123,105,110,116,58] [125] with _ | y
   ·rw[e2] at h;rcases e3:betw s [123,116,101,120,116,58] [125] with _ | y
    ·rw[e3] at h;simp at h
    ·rw[e3] at h;simp only[Option.map_eq_some_iff] at h;obtain⟨T',h,rfl⟩:=h;obtain⟨g1,g2⟩:=Hg f y T' h;have:=(Cc _ _ _ _).1 e3;exact⟨by rw[this];simp[tyT,keyT,g1],by simp[Ty.dp];omega⟩
   ·rw[e2] at h;simp only[Option.map_eq_some_iff] at h;obtain⟨T',h,rfl⟩:=h;obtain⟨g1,g2⟩:=Hg f y T' h;have:=(Cc _ _ _ _).1 e2;exact⟨by rw[this];simp[tyT,keyT,g1],by simp[Ty.dp];omega⟩
  ·rw[e1] at h;simp only[Option.map_eq_some_iff] at h;obtain⟨T',h,rfl⟩:=h;obtain⟨g1,g2⟩:=Hg f y T' h;have:=(Cc _ _ _ _).1 e1;exact⟨by rw[this];simp[tyT,g1],by simp[Ty.dp];omega⟩
theorem Hk:∀(T:Ty) (f:Nat),T.dp<=f->Fg f (tyT T)=some T
 | .int,f+1,h=>by simp[Fg,tyT]
 | .bool,f+1,h=>by simp[Fg,tyT]
 | .text,f+1,h=>by simp[Fg,tyT]
 | .list t,f+1,h=>by
  have ih:=Hk t f (by simp[Ty.dp] at h;omega);rw[Fg,tyT,if_neg (by simp),if_neg (by simp),if_neg (by simp),(Cc _ _ _ (tyT t)).2 rfl];simp[ih]
 | .map true t,f+1,h=>by
  have ih:=Hk t f (by simp[Ty.dp] at h;omega);rw[Fg,tyT,if_neg (by simp),if_neg (by simp),if_neg (by simp),Gi _ _ _ (fun z=>by simp),(Cc _ _ _ (tyT t)).2 (by simp[keyT])];simp[ih]
 | .map false t,f+1,h=>by
  have ih:=Hk t f (by simp[Ty.dp] at h;omega);rw[Fg,tyT,if_neg (by simp),if_neg (by simp),if_neg (by simp),Gi _ _ _ (fun z=>by simp),Gi _ _ _ (fun z=>by simp[keyT]),(Cc _ _ _ (tyT t)).2 (by simp[keyT])];simp[ih]
theorem B4(s:List UInt8)(T:Ty):tyOf s=some T↔tyT T=s∧T.dp<=4:=
 ⟨Hg 4 s T,fun⟨h1,h2⟩=>by rw[<-h1];exact Hk T 4 h2⟩
theorem Cs{T:Ty}(h:T.dp<=4):tyOf (tyT T)=some T:=(B4 _ _).2 ⟨rfl,h⟩
theorem Ty.dp_pos:∀T:Ty,1<=T.dp
 | .int=>by simp[Ty.dp] | .bool=>by simp[Ty.dp] | .text=>by simp[Ty.dp]
 | .list t=>by simp[Ty.dp]
 | .map k t=>by simp[Ty.dp]
theorem Bh:∀T:Ty,3<=(tyT T).length∧(tyT T).length<=7*T.dp
 | .int=>by simp[tyT,Ty.dp] | .bool=>by simp[tyT,Ty.dp] | .text=>by simp[tyT,Ty.dp]
 | .list t=>by have:=Bh t;simp[tyT,Ty.dp];omega
 | .map k t=>by have:=Bh t;cases k <;> (simp[tyT,Ty.dp,keyT];omega)
def innT(s:List UInt8):Option (List UInt8):=
 if 2<s.length∧s[0]?=some 91∧s[s.length - 1]?=some 93 then some ((s.take (s.length - 1)).drop 1)
 else if 6<s.length∧s.take 5=[123,105,110,116,58]∧s[s.length - 1]?=some 125 then some ((s.take (s.length - 1)).drop 5)
 else if 7<s.length∧s.take 6=[123,116,101,120,116,58]∧s[s.length - 1]?=some 125 then some ((s.take (s.length - 1)).drop 6)
 else none
def H7:Nat->List UInt8->Nat
 | 0,_=>0
 | f+1,s=>
  if s=[105,110,116]∨s=[98,111,111,108]∨s=[116,101,120,116] then 1
  else match innT s with
   | none=>0
   | some y=>if 200<s.length then 0 else if H7 f y=0 then 0 else H7 f y+1
def dep(s:List UInt8):Nat:=H7 (s.length+1) s
theorem Hq{s y:List UInt8}(h:innT s=some y):y.length<s.length:=by
 unfold innT at h;split at h
 ·rename_i h1;cases h;simp;omega
 ·split at h
  ·rename_i h1;cases h;simp;omega
  ·split at h
   ·rename_i h1;cases h;simp;omega
   ·cases h
theorem Le:∀(f g:Nat) (s:List UInt8),s.length<f->s.length<g->H7 f s=H7 g s
 | 0,_,_,h,_=>by omega
 | _,0,_,_,h=>by omega
 | f+1,g+1,s,h1,h2=>by
  simp only[H7];split
  ·rfl
  ·rcases hi:innT s with _ | y
   ·rfl
   ·have:=Hq hi;simp only[Le f g y (by omega) (by omega)]
theorem dep_eq(s:List UInt8):dep s=if s=[105,110,116]∨s=[98,111,111,108]∨s=[116,101,120,116] then 1 else match innT s with
  | none=>0
  | some y=>if 200<s.length then 0 else if dep y=0 then 0 else dep y+1:=by
 unfold dep;rw[H7];split
 ·rfl
 ·rcases hi:innT s with _ | y
  ·rfl
  ·have:=Hq hi;simp only[Le s.length (y.length+1) y (by omega) (by omega)]
theorem Gj{s:List UInt8}{c:UInt8}(h:s[s.length - 1]?=some c):s=s.take (s.length - 1) ++ [c]:=by
 have hl:s.length - 1<s.length:=by
  by_cases h0:s.length - 1<s.length
  ·exact h0
  ·rw[List.getElem?_eq_none (by omega)] at h;cases h
 have e:=List.take_append_drop (s.length - 1) s;rw[List.drop_eq_getElem_cons hl] at e;rw[List.getElem?_eq_getElem hl] at h;have h2:s[s.length - 1]=c:=by simpa using h
 rw[h2,List.drop_eq_nil_of_le (by omega)] at e;exact e.symm
theorem U1{s y:List UInt8}(h:innT s=some y):s=[91] ++ y ++ [93]∨s=[123,105,110,116,58] ++ y ++ [125]∨s=[123,116,101,120,116,58] ++ y ++ [125]:=by
 unfold innT at h;split at h
 ·rename_i h1;refine Or.inl ?_;have e:=Gj h1.2.2;have e2:(s.take (s.length - 1))=91 :: ((s.take (s.length - 1)).drop 1):=by
   have h3:(s.take (s.length - 1))[0]?=some 91:=by rw[List.getElem?_take];rw[if_pos (by omega)];exact h1.2.1
   have h4:0<(s.take (s.length - 1)).length:=by simp;omega
   rw[List.getElem?_eq_getElem h4] at h3;have h5:(s.take (s.length - 1))[0]=91:=by simpa using h3
   have h6:=List.drop_eq_getElem_cons h4;rw[h5,List.drop_zero] at h6;exact h6
  rw[e2] at e;cases h;simpa using e
 ·split at h
  ·rename_i h1;refine Or.inr (Or.inl ?_);have e:=Gj h1.2.2;have e2:(s.take (s.length - 1))=[123,105,110,116,58] ++ ((s.take (s.length - 1)).drop 5):=by
    have h6:=(List.take_append_drop 5 (s.take (s.length - 1))).symm;rw[List.take_take,show min 5 (s.length - 1)=5 from by omega,h1.2.1] at h6;exact h6
   rw[e2] at e;cases h;simpa using e
  ·split at h
   ·rename_i h1;refine Or.inr (Or.inr ?_);have e:=Gj h1.2.2;have e2:(s.take (s.length - 1))=[123,116,101,120,116,58] ++ ((s.take (s.length - 1)).drop 6):=by
     have h6:=(List.take_append_drop 6 (s.take (s.length - 1))).symm;rw[List.take_take,show min 6 (s.length - 1)=6 from by omega,h1.2.1] at h6;exact h6
    rw[e2] at e;cases h;simpa using e
   ·cases h
theorem Pw{y:List UInt8}(h:0<y.length):innT ([91] ++ y ++ [93])=some y:=by
 unfold innT;rw[if_pos ⟨by simp;omega,by simp,by simp⟩];simp
theorem Rq{y:List UInt8}(h:0<y.length):innT ([123,105,110,116,58] ++ y ++ [125])=some y:=by
 unfold innT;rw[if_neg (by simp),if_pos ⟨by simp;omega,by simp,by simp⟩];simp
theorem Px{y:List UInt8}(h:0<y.length):innT ([123,116,101,120,116,58] ++ y ++ [125])=some y:=by
 unfold innT;rw[if_neg (by simp),if_neg (by simp),if_pos ⟨by simp;omega,by simp,by simp⟩];simp
theorem Lg:∀(n:Nat) (s:List UInt8),s.length<=n->1<=dep s->∃T:Ty,tyT T=s∧T.dp=dep s
 | n,s,hn,h=>by
  rw[dep_eq] at h ⊢;split
  ·rename_i h1;rcases h1 with rfl | rfl | rfl
   ·exact⟨.int,rfl,rfl⟩
   ·exact⟨.bool,rfl,rfl⟩
   ·exact⟨.text,rfl,rfl⟩
  ·rename_i h1;rw[if_neg h1] at h;rcases hi:innT s with _ | y
   ·rw[hi] at h;simp at h
   ·have hlt:=Hq hi;simp only[hi] at h ⊢;split at h
    ·omega
    ·rename_i h2;rw[if_neg h2];split at h
     ·omega
     ·rename_i h3;rw[if_neg h3];obtain⟨n,rfl⟩:∃m,n=m+1:=⟨n - 1,by omega⟩;obtain⟨T,g1,g2⟩:=Lg n y (by omega) (by omega);rcases U1 hi with e | e | e
      ·exact⟨.list T,by rw[e];simp[tyT,g1],by simp[Ty.dp,g2]⟩
      ·exact⟨.map true T,by rw[e];simp[tyT,keyT,g1],by simp[Ty.dp,g2]⟩
      ·exact⟨.map false T,by rw[e];simp[tyT,keyT,g1],by simp[Ty.dp,g2]⟩
theorem M8:∀T:Ty,T.dp<=20->dep (tyT T)=T.dp
 | .int,_=>by rw[dep_eq,if_pos (by simp[tyT])];rfl
 | .bool,_=>by rw[dep_eq,if_pos (by simp[tyT])];rfl
 | .text,_=>by rw[dep_eq,if_pos (by simp[tyT])];rfl
 | .list t,h=>by
  have hl:=Bh t;have hp:=Ty.dp_pos t;simp only[Ty.dp] at h ⊢;have ih:=M8 t (by omega);rw[tyT,dep_eq,if_neg (by simp),Pw (by omega)];simp only[];rw[if_neg (by simp;omega),if_neg (by omega),ih]
 | .map k t,h=>by
  have hl:=Bh t;have hp:=Ty.dp_pos t;simp only[Ty.dp] at h ⊢;have ih:=M8 t (by omega);have e:innT (tyT (.map k t))=some (tyT t):=by
   cases k
   ·have:=Px (y:=tyT t) (by omega);simpa [tyT,keyT] using this
   ·have:=Rq (y:=tyT t) (by omega);simpa [tyT,keyT] using this
  rw[dep_eq,if_neg (by cases k <;> simp[tyT,keyT]),e];simp only[];rw[if_neg (by cases k <;> (simp[tyT,keyT];omega)),if_neg (by omega),ih]
theorem Py(s:List UInt8):Es s=decide (1<=dep s∧dep s<=4):=by
 unfold Es;rcases h:tyOf s with _ | T
 ·rw[decide_eq_false];· rfl
  rintro⟨h1,h2⟩;obtain⟨T,g1,g2⟩:=Lg _ s (Nat.le_refl _) h1;rw[(B4 s T).2 ⟨g1,by omega⟩] at h;cases h
 ·obtain⟨g1,g2⟩:=(B4 s T).1 h;have:=M8 T (by omega);rw[g1] at this;have:=Ty.dp_pos T;rw[decide_eq_true ⟨by omega,by omega⟩];rfl
end
section
open Go.RowKit
theorem R7(t:ByteArray)(w:World)(hs:t.size<=9223372036854775807)(h1:(t.toList == [105,110,116])=false)(h2:(t.toList == [98,111,111,108])=false)(h3:(t.toList == [116,101,120,116])=false)(hl:t.size<=2):Calls Tryz.prog 154 #[.string t] w fun r w'=>r=.returned (iv 0)∧w'=w:=by
 go_enter Tryz.func154,Tryz.ntmps154;go_wp2;go_ret;exact⟨rfl,rfl⟩
theorem R8(t:ByteArray)(w:World)(hs:t.size<=9223372036854775807)(h1:(t.toList == [105,110,116])=false)(h2:(t.toList == [98,111,111,108])=false)(h3:(t.toList == [116,101,120,116])=false)(hk:2<t.size)(hl:t.size<=6)(hA:¬(t[0].toNat:Int)=91):Calls Tryz.prog 154 #[.string t] w fun r w'=>r=.returned (iv 0)∧w'=w:=by
 go_enter Tryz.func154,Tryz.ntmps154;go_wp2;go_ret;exact⟨rfl,rfl⟩
theorem R9(t:ByteArray)(w:World)(hs:t.size<=9223372036854775807)(h1:(t.toList == [105,110,116])=false)(h2:(t.toList == [98,111,111,108])=false)(h3:(t.toList == [116,101,120,116])=false)(hk:2<t.size)(hl:t.size<=6)(hA:(t[0].toNat:Int)=91)(hB:¬(t[t.size - 1].toNat:Int)=93):Calls Tryz.prog 154 #[.string t] w fun r w'=>r=.returned (iv 0)∧w'=w:=by
 go_enter Tryz.func154,Tryz.ntmps154;go_wp2;go_ret;exact⟨rfl,rfl⟩
theorem Sa(t:ByteArray)(w:World)(hs:t.size<=9223372036854775807)(h1:(t.toList == [105,110,116])=false)(h2:(t.toList == [98,111,111,108])=false)(h3:(t.toList == [116,101,120,116])=false)(hk:6<t.size)(hl:t.size<=7)(hA:(t[0].toNat:Int)=91)(hB:¬(t[t.size - 1].toNat:Int)=93)(hq:((t.extract 0 5).toList == [123,105,110,116,58])=false):Calls Tryz.prog 154 #[.string t] w fun r w'=>r=.returned (iv 0)∧w'=w:=by
 go_enter Tryz.func154,Tryz.ntmps154;go_wp2;go_ret;exact⟨rfl,rfl⟩
theorem Sb(t:ByteArray)(w:World)(hs:t.size<=9223372036854775807)(h1:(t.toList == [105,110,116])=false)(h2:(t.toList == [98,111,111,108])=false)(h3:(t.toList == [116,101,120,116])=false)(hl:7<t.size)(hA:(t[0].toNat:Int)=91)(hB:¬(t[t.size - 1].toNat:Int)=93)(hq:((t.extract 0 5).toList == [123,105,110,116,58])=false)(hr:((t.extract 0 6).toList == [123,116,101,120,116,58])=false):Calls Tryz.prog 154 #[.string t] w fun r w'=>r=.returned (iv 0)∧w'=w:=by
 go_enter Tryz.func154,Tryz.ntmps154;go_wp2;go_ret;exact⟨rfl,rfl⟩
theorem Sc(t:ByteArray)(w:World)(hs:t.size<=9223372036854775807)(h1:(t.toList == [105,110,116])=false)(h2:(t.toList == [98,111,111,108])=false)(h3:(t.toList == [116,101,120,116])=false)(hk:6<t.size)(hl:t.size<=7)(hA:¬(t[0].toNat:Int)=91)(hq:((t.extract 0 5).toList == [123,105,110,116,58])=false):Calls Tryz.prog 154 #[.string t] w fun r w'=>r=.returned (iv 0)∧w'=w:=by
 go_enter Tryz.func154,Tryz.ntmps154;go_wp2;go_ret;exact⟨rfl,rfl⟩
theorem Se(t:ByteArray)(w:World)(hs:t.size<=9223372036854775807)(h1:(t.toList == [105,110,116])=false)(h2:(t.toList == [98,111,111,108])=false)(h3:(t.toList == [116,101,120,116])=false)(hl:7<t.size)(hA:¬(t[0].toNat:Int)=91)(hq:((t.extract 0 5).toList == [123,105,110,116,58])=false)(hr:((t.extract 0 6).toList == [123,116,101,120,116,58])=false):Calls Tryz.prog 154 #[.string t] w fun r w'=>r=.returned (iv 0)∧w'=w:=by
 go_enter Tryz.func154,Tryz.ntmps154;go_wp2;go_ret;exact⟨rfl,rfl⟩
theorem Sf(t:ByteArray)(w:World)(hs:t.size<=9223372036854775807)(h1:(t.toList == [105,110,116])=false)(h2:(t.toList == [98,111,111,108])=false)(h3:(t.toList == [116,101,120,116])=false)(hl:7<t.size)(hA:¬(t[0].toNat:Int)=91)(hq:((t.extract 0 5).toList == [123,105,110,116,58])=false)(hr:((t.extract 0 6).toList == [123,116,101,120,116,58])=true)(hC:¬(t[t.size - 1].toNat:Int)=125):Calls Tryz.prog 154 #[.string t] w fun r w'=>r=.returned (iv 0)∧w'=w:=by
 go_enter Tryz.func154,Tryz.ntmps154;go_wp2;go_ret;exact⟨rfl,rfl⟩
theorem Sh(t:ByteArray)(w:World)(hs:t.size<=9223372036854775807)(h1:(t.toList == [105,110,116])=false)(h2:(t.toList == [98,111,111,108])=false)(h3:(t.toList == [116,101,120,116])=false)(hk:6<t.size)(hl:t.size<=7)(hA:¬(t[0].toNat:Int)=91)(hq:((t.extract 0 5).toList == [123,105,110,116,58])=true)(hC:¬(t[t.size - 1].toNat:Int)=125):Calls Tryz.prog 154 #[.string t] w fun r w'=>r=.returned (iv 0)∧w'=w:=by
 go_enter Tryz.func154,Tryz.ntmps154;go_wp2;go_ret;exact⟨rfl,rfl⟩
theorem Si(t:ByteArray)(w:World)(hs:t.size<=9223372036854775807)(h1:(t.toList == [105,110,116])=false)(h2:(t.toList == [98,111,111,108])=false)(h3:(t.toList == [116,101,120,116])=false)(hl:7<t.size)(hA:¬(t[0].toNat:Int)=91)(hq:((t.extract 0 5).toList == [123,105,110,116,58])=true)(hr:((t.extract 0 6).toList == [123,116,101,120,116,58])=false)(hC:¬(t[t.size - 1].toNat:Int)=125):Calls Tryz.prog 154 #[.string t] w fun r w'=>r=.returned (iv 0)∧w'=w:=by
 go_enter Tryz.func154,Tryz.ntmps154;go_wp2;go_ret;exact⟨rfl,rfl⟩
theorem U9(t:ByteArray)(w:World)(d:Nat)(hd:t.size<=200->d<=300)(hs:t.size<=9223372036854775807)(h1:(t.toList == [105,110,116])=false)(h2:(t.toList == [98,111,111,108])=false)(h3:(t.toList == [116,101,120,116])=false)(hl:2<t.size)(hA:(t[0].toNat:Int)=91)(hB:(t[t.size - 1].toNat:Int)=93)(hin:t.size<=200->Calls Tryz.prog 154 #[.string (t.extract 1 (t.size - 1))] w fun r w'=>r=.returned (iv d)∧w'=w):Calls Tryz.prog 154 #[.string t] w fun r w'=>r=.returned (iv ((if 200<t.size then 0 else if d=0 then 0 else d+1:Nat):Int))∧w'=w:=by
 by_cases hz:200<t.size
 ·rw[if_pos hz];clear hin hd;go_enter Tryz.func154,Tryz.ntmps154;go_wp2;go_ret;exact⟨rfl,rfl⟩
 ·rw[if_neg hz];replace hin:=hin (by omega);replace hd:=hd (by omega);rcases Nat.eq_zero_or_pos d with h0 | h0
  ·rw[if_pos h0];subst h0;go_enter Tryz.func154,Tryz.ntmps154;go_wp2_with fail;refine hin.mono ?_;rintro e w1 ⟨rfl,rfl⟩;go_wp2;go_ret;exact⟨rfl,rfl⟩
  ·rw[if_neg (by omega)];go_enter Tryz.func154,Tryz.ntmps154;go_wp2_with fail;refine hin.mono ?_;rintro e w1 ⟨rfl,rfl⟩;go_wp2;go_ret;exact⟨rfl,rfl⟩
theorem Va(t:ByteArray)(w:World)(d:Nat)(hd:t.size<=200->d<=300)(hs:t.size<=9223372036854775807)(h1:(t.toList == [105,110,116])=false)(h2:(t.toList == [98,111,111,108])=false)(h3:(t.toList == [116,101,120,116])=false)(hl:6<t.size)(hA:¬(t[0].toNat:Int)=91)(hq:((t.extract 0 5).toList == [123,105,110,116,58])=true)(hC:(t[t.size - 1].toNat:Int)=125)(hin:t.size<=200->Calls Tryz.prog 154 #[.string (t.extract 5 (t.size - 1))] w fun r w'=>r=.returned (iv d)∧w'=w):Calls Tryz.prog 154 #[.string t] w fun r w'=>r=.returned (iv ((if 200<t.size then 0 else if d=0 then 0 else d+1:Nat):Int))∧w'=w:=by
 by_cases hz:200<t.size
 ·rw[if_pos hz];clear hin hd;go_enter Tryz.func154,Tryz.ntmps154;go_wp2;go_ret;exact⟨rfl,rfl⟩
 ·rw[if_neg hz];replace hin:=hin (by omega);replace hd:=hd (by omega);rcases Nat.eq_zero_or_pos d with h0 | h0
  ·rw[if_pos h0];subst h0;go_enter Tryz.func154,Tryz.ntmps154;go_wp2_with fail;refine hin.mono ?_;rintro e w1 ⟨rfl,rfl⟩;go_wp2;go_ret;exact⟨rfl,rfl⟩
  ·rw[if_neg (by omega)];go_enter Tryz.func154,Tryz.ntmps154;go_wp2_with fail;refine hin.mono ?_;rintro e w1 ⟨rfl,rfl⟩;go_wp2;go_ret;exact⟨rfl,rfl⟩
theorem Vb(t:ByteArray)(w:World)(d:Nat)(hd:t.size<=200->d<=300)(hs:t.size<=9223372036854775807)(h1:(t.toList == [105,110,116])=false)(h2:(t.toList == [98,111,111,108])=false)(h3:(t.toList == [116,101,120,116])=false)(hl:7<t.size)(hA:¬(t[0].toNat:Int)=91)(hq:((t.extract 0 5).toList == [123,105,110,116,58])=false)(hr:((t.extract 0 6).toList == [123,116,101,120,116,58])=true)(hC:(t[t.size - 1].toNat:Int)=125)(hin:t.size<=200->Calls Tryz.prog 154 #[.string (t.extract 6 (t.size - 1))] w fun r w'=>r=.returned (iv d)∧w'=w):Calls Tryz.prog 154 #[.string t] w fun r w'=>r=.returned (iv ((if 200<t.size then 0 else if d=0 then 0 else d+1:Nat):Int))∧w'=w:=by
 by_cases hz:200<t.size
 ·rw[if_pos hz];clear hin hd;go_enter Tryz.func154,Tryz.ntmps154;go_wp2;go_ret;exact⟨rfl,rfl⟩
 ·rw[if_neg hz];replace hin:=hin (by omega);replace hd:=hd (by omega);rcases Nat.eq_zero_or_pos d with h0 | h0
  ·rw[if_pos h0];subst h0;go_enter Tryz.func154,Tryz.ntmps154;go_wp2_with fail;refine hin.mono ?_;rintro e w1 ⟨rfl,rfl⟩;go_wp2;go_ret;exact⟨rfl,rfl⟩
  ·rw[if_neg (by omega)];go_enter Tryz.func154,Tryz.ntmps154;go_wp2_with fail;refine hin.mono ?_;rintro e w1 ⟨rfl,rfl⟩;go_wp2;go_ret;exact⟨rfl,rfl⟩
end
end Go.Proofs.YtnijcolomoobnaaGreatDoor
