/- Texts of ours, joined. -/
import Derived.Test.YtnijcolomoobnaaGreatDoorU00
set_option linter.unusedVariables false
set_option linter.unusedSimpArgs false
set_option maxRecDepth 100000
set_option maxHeartbeats 16000000
namespace Go.Proofs.YtnijcolomoobnaaGreatDoor
section
def Cy(l:List V):Prop:=∀(i:Nat) (a b:V),l[2*i]?=some a->l[2*i+2]?=some b->cmpV a b<0
def Et(v:V):Prop:=v.k=5->v.l.length % 2=0∧Cy v.l
theorem Cy.lt{l:List V}(h:Cy l):∀{i j:Nat} {a b:V},i<j->l[2*i]?=some a->l[2*j]?=some b->cmpV a b<0:=by
 intro i j;induction j with
 | zero=>intro a b hij;omega
 | succ j ih=>
  intro a b hij ha hb;by_cases hj:i=j
  ·subst hj;exact h i a b ha (by rw[show 2*i+2=2*(i+1) by omega];exact hb)
  ·have hlt:2*j<l.length:=by have:=(List.getElem?_eq_some_iff.1 hb).1;omega
   have hc:l[2*j]?=some l[2*j]:=List.getElem?_eq_getElem hlt;exact cmpV_lt_trans (ih (by omega) ha hc) (h j _ b hc (by rw[show 2*j+2=2*(j+1) by omega];exact hb))
def kat(k:V):List V->Nat
 | a :: _ :: r=>if cmpV a k<0 then kat k r+1 else 0
 | _=>0
theorem Ez(k:V):∀l:List V,2*kat k l<=l.length
 | a :: b :: r=>by
  rw[kat];have:=Ez k r;split <;> simp <;> omega
 | []=>by simp[kat]
 | [a]=>by simp[kat]
theorem Kr(k:V):∀(l:List V) (j:Nat) (a:V),j<kat k l->l[2*j]?=some a->cmpV a k<0
 | a :: b :: r,j,c,h,hc=>by
  rw[kat] at h;split at h
  ·rename_i hak;cases j with
   | zero=>simp at hc;subst hc;exact hak
   | succ j=>exact Kr k r j c (by omega) (by simpa [show 2*(j+1)=2*j+1+1 by omega] using hc)
  ·omega
 | [],j,c,h,hc=>by simp at hc
 | [a],j,c,h,hc=>by simp[kat] at h
theorem Ks(k:V):∀(l:List V) (a:V),2*kat k l+1<l.length->l[2*kat k l]?=some a->¬cmpV a k<0
 | a :: b :: r,c,h,hc=>by
  rw[kat] at h hc;by_cases hak:cmpV a k<0
  ·rw[if_pos hak] at h hc;exact Ks k r c (by simp at h;omega) (by simpa [show 2*(kat k r+1)=2*kat k r+1+1 by omega] using hc)
  ·rw[if_neg hak] at hc;simp at hc;subst hc;exact hak
 | [],c,h,hc=>by simp at hc
 | [a],c,h,hc=>by simp at h
theorem Lz{k:V}{l:List V}(hr:Cy l){i:Nat}(hi:2*i<=l.length)(h1:∀a,0<i->l[2*(i - 1)]?=some a->cmpV a k<0)(h2:∀a,2*i+1<l.length->l[2*i]?=some a->¬cmpV a k<0)(he:l.length % 2=0):kat k l=i:=by
 have hle:=Ez k l;rcases Nat.lt_trichotomy (kat k l) i with h | h | h
 ·exfalso;have hb:2*(i - 1)<l.length:=by omega
  have hb0:2*kat k l<l.length:=by omega
  have e1:=h1 _ (by omega) (List.getElem?_eq_getElem hb);have e2:=Ks k l _ (by omega) (List.getElem?_eq_getElem hb0);by_cases he:kat k l=i - 1
  ·apply e2;have:l[2*kat k l]=l[2*(i - 1)]:=by congr 1;omega
   rw[this];exact e1
  ·exact e2 (cmpV_lt_trans (hr.lt (i:=kat k l) (j:=i - 1) (by omega) (List.getElem?_eq_getElem hb0) (List.getElem?_eq_getElem hb)) e1)
 ·exact h
 ·exfalso;have hb:2*i<l.length:=by omega
  exact h2 _ (by omega) (List.getElem?_eq_getElem hb) (Kr k l i _ h (List.getElem?_eq_getElem hb))
def hit(k:V)(l:List V):Bool:=match l[2*kat k l]? with | some a=>decide (cmpV k a=0) | none=>false
theorem Da{k:V}{l:List V}(h:hit k l=true):l[2*kat k l]?=some k:=by
 unfold hit at h;rcases e:l[2*kat k l]? with _ | a
 ·rw[e] at h;cases h
 ·rw[e] at h;simp at h;rw[(Cl k a).1 h]
theorem S0{k:V}{l:List V}(hr:Cy l)(he:l.length % 2=0){i:Nat}(h:l[2*i]?=some k):kat k l=i∧hit k l=true:=by
 have hlt:=(List.getElem?_eq_some_iff.1 h).1;have hk:kat k l=i:=by
  refine Lz hr (by omega) (fun a h0 ha=>hr.lt (i:=i - 1) (j:=i) (by omega) ha h) (fun a _ ha=>?_) he;rw[h] at ha;simp only[Option.some.injEq] at ha;subst ha;rw[Dj];omega
 refine⟨hk,?_⟩;unfold hit;rw[hk,h];simp[Dj]
theorem W8{k:V}{l:List V}(h:∀i,l[2*i]?≠some k):hit k l=false:=by
 rcases e:hit k l with _ | _
 ·rfl
 ·exact absurd (Da e) (h _)
theorem Qc{k:V}{l:List V}(he:l.length % 2=0)(hn:hit k l=false){a:V}(ha:l[2*kat k l]?=some a):cmpV k a<0:=by
 have hlt:=(List.getElem?_eq_some_iff.1 ha).1;have h1:=Ks k l a (by omega) ha;have h2:=Dm k a;have h3:¬cmpV k a=0:=by
  intro h;unfold hit at hn;rw[ha] at hn;simp[h] at hn
 omega
def spl(l:List V)(f t:Nat)(xs:List V):List V:=l.take f ++ xs ++ l.drop t
theorem Gy(l:List V)(i:Nat):wts (l.drop i)<=wts l:=by
 have:=Bl (l.take i) (l.drop i);rw[List.take_append_drop] at this;omega
theorem F4(l:List V)(f t:Nat)(xs:List V):wts (spl l f t xs)<=wts l+wts xs+wts l:=by
 unfold spl;rw[Bl,Bl];have:=Dw l f;have:=Gy l t;omega
def wgV(v:V):V × Int:=if wt v<=16384 then (v,0) else (V.zero,53)
def plV(v k:V):Nat × Int:=
 if v.k=4∧k.k=1 then (if 0<=k.n∧k.n<v.l.length then (k.n.toNat,0) else (0,52))
 else if v.k=5 then (if hit k v.l=true then (2*kat k v.l+1,0) else (0,52))
 else (0,40)
theorem Kt{v k:V}(ht:Et v)(h:(plV v k).2=0):(plV v k).1<v.l.length:=by
 unfold plV at h ⊢;split
 ·split
  ·simp only;omega
  ·rename_i h1 h2;rw[if_pos h1,if_neg h2] at h;simp at h
 ·rename_i h1;rw[if_neg h1] at h;split
  ·rename_i h2;rw[if_pos h2] at h;split
   ·rename_i h3;have:=(List.getElem?_eq_some_iff.1 (Da h3)).1;have:=(ht h2).1;simp only;omega
   ·rename_i h3;rw[if_neg h3] at h;simp at h
  ·rename_i h2;rw[if_neg h2] at h;simp at h
def atV(v k:V):V × Int:=if (plV v k).2=0 then (v.l.getD (plV v k).1 V.zero,0) else (V.zero,(plV v k).2)
def putV(v k x:V):V × Int:=
 if (plV v k).2=0 then wgV (.mk v.k v.n v.t (spl v.l (plV v k).1 ((plV v k).1+1) [x]))
 else if v.k≠5 then (V.zero,(plV v k).2)
 else if 64<=v.l.length / 2 then (V.zero,53)
 else wgV (.mk v.k v.n v.t (spl v.l (2*kat k v.l) (2*kat k v.l) [k,x]))
def delV(v k:V):V × Int:=
 if v.k≠5 then (V.zero,40)
 else if hit k v.l=true then (.mk v.k v.n v.t (spl v.l (2*kat k v.l) (2*kat k v.l+2) []),0)
 else (v,0)
def Bp(v:V):Nat × Int:=if v.k=3 then (v.t.length,0) else if v.k=4 then (v.l.length,0) else if v.k=5 then (v.l.length / 2,0) else (0,40)
def pushV(v x:V):V × Int:=if v.k≠4 then (V.zero,40) else if 64<=v.l.length then (V.zero,53) else wgV (.mk v.k v.n v.t (v.l ++ [x]))
def delL(k:V):List V->List V
 | a :: b :: r=>if cmpV a k=0 then delL k r else a :: b :: delL k r
 | _=>[]
theorem Gz(k a b:V):∀l:List V,l.length % 2=0->delL k (l ++ [a,b])=delL k l ++ (if cmpV a k=0 then [] else [a,b])
 | [],_=>by simp[delL]
 | [x],h=>by simp at h
 | x :: y :: r,h=>by
  have ih:=Gz k a b r (by simp at h;omega);rw[List.cons_append,List.cons_append,delL,delL,ih];split <;> simp
theorem L0(k:V):∀l:List V,(delL k l).length<=l.length
 | []=>by simp[delL]
 | [x]=>by simp[delL]
 | x :: y :: r=>by
  have:=L0 k r;rw[delL];split <;> simp <;> omega
theorem L1(k:V):∀l:List V,wts (delL k l)<=wts l
 | []=>by simp[delL,wts]
 | [x]=>by simp[delL,wts]
 | x :: y :: r=>by
  have:=L1 k r;rw[delL];split <;> simp only[wts] <;> omega
theorem Gn(k:V):∀l:List V,l.length % 2=0->(∀i,l[2*i]?≠some k)->delL k l=l
 | [],_,_=>by simp[delL]
 | [x],h,_=>by simp at h
 | x :: y :: r,h,hn=>by
  have ih:=Gn k r (by simp at h;omega) (fun i=>by have:=hn (i+1);simpa [show 2*(i+1)=2*i+1+1 by omega] using this);have hx:¬cmpV x k=0:=fun e=>hn 0 (by rw[(Cl x k).1 e];rfl)
  rw[delL,if_neg hx,ih]
theorem Cy.tail{a b:V}{r:List V}(h:Cy (a :: b :: r)):Cy r:=fun i x y hx hy=>h (i+1) x y (by simpa [show 2*(i+1)=2*i+1+1 by omega] using hx) (by simpa [show 2*(i+1)+2=2*i+2+1+1 by omega] using hy)
theorem Cy.head{a b:V}{r:List V}(h:Cy (a :: b :: r)){i:Nat}{x:V}(hx:r[2*i]?=some x):cmpV a x<0:=h.lt (i:=0) (j:=i+1) (by omega) rfl (by simpa [show 2*(i+1)=2*i+1+1 by omega] using hx)
theorem S1{k a b:V}{r:List V}(h:cmpV a k<0):kat k (a :: b :: r)=kat k r+1∧hit k (a :: b :: r)=hit k r:=by
 have h1:kat k (a :: b :: r)=kat k r+1:=by rw[kat,if_pos h]
 refine⟨h1,?_⟩;unfold hit;rw[h1];simp[show 2*(kat k r+1)=2*kat k r+1+1 by omega]
theorem Pb{k a b:V}{r:List V}(h:¬cmpV a k<0):kat k (a :: b :: r)=0∧hit k (a :: b :: r)=decide (cmpV k a=0):=by
 have h1:kat k (a :: b :: r)=0:=by rw[kat,if_neg h]
 refine⟨h1,?_⟩;unfold hit;rw[h1];simp
theorem Pc(k:V):∀l:List V,l.length % 2=0->Cy l->delL k l=if hit k l=true then spl l (2*kat k l) (2*kat k l+2) [] else l
 | [],_,_=>by simp[delL,hit,kat,spl]
 | [x],h,_=>by simp at h
 | a :: b :: r,h,hr=>by
  have hev:r.length % 2=0:=by simp at h;omega
  rcases Int.lt_trichotomy (cmpV a k) 0 with hc | hc | hc
  ·obtain⟨h1,h2⟩:=S1 (b:=b) (r:=r) hc;have ih:=Pc k r hev hr.tail;rw[delL,if_neg (by omega),ih,h1,h2];split
   ·simp[spl,show 2*(kat k r+1)=2*kat k r+1+1 by omega,show 2*(kat k r+1)+2=2*kat k r+2+1+1 by omega]
   ·rfl
  ·obtain⟨h1,h2⟩:=Pb (b:=b) (r:=r) (show ¬cmpV a k<0 by omega);have hka:=(Cl a k).1 hc;subst hka;rw[delL,if_pos hc,h1,h2,Gn a r hev (fun i e=>by have:=hr.head e;rw[Dj] at this;omega)];simp[Dj,spl]
  ·obtain⟨h1,h2⟩:=Pb (b:=b) (r:=r) (show ¬cmpV a k<0 by omega);have h3:=Dm k a;rw[delL,if_neg (by omega),h2,Gn k r hev (fun i e=>by have:=hr.head e;omega)];rw[if_neg (by simp;omega)]
theorem Vf{v k:V}(h5:v.k=5)(he:v.l.length % 2=0)(hr:Cy v.l):delV v k=(.mk v.k v.n v.t (delL k v.l),0):=by
 unfold delV;rw[if_neg (by simp[h5]),Pc k v.l he hr];split
 ·rfl
 ·cases v;rfl
def Bm(k x:V)(l:List V)(q:Nat):List V:=if kat k l<q then l.take (2*kat k l) ++ [k,x] ++ (l.take (2*q)).drop (2*kat k l) else l.take (2*q)
theorem Io{l:List V}{q:Nat}{a b:V}(ha:l[2*q]?=some a)(hb:l[2*q+1]?=some b):l.take (2*(q+1))=l.take (2*q) ++ [a,b]:=by
 rw[show 2*(q+1)=2*q+1+1 by omega,List.take_add_one,List.take_add_one,ha,hb];simp
theorem J2(k x:V)(l:List V):Bm k x l 0=[]:=by simp[Bm]
theorem L2{k x:V}{l:List V}{q:Nat}{a b:V}(ha:l[2*q]?=some a)(hb:l[2*q+1]?=some b)(h:q<kat k l):Bm k x l (q+1)=Bm k x l q ++ [a,b]:=by
 unfold Bm;rw[if_neg (by omega),if_neg (by omega),Io ha hb]
theorem Vg{k x:V}{l:List V}{q:Nat}{a b:V}(ha:l[2*q]?=some a)(hb:l[2*q+1]?=some b)(h:q=kat k l):Bm k x l (q+1)=Bm k x l q ++ [k,x] ++ [a,b]:=by
 have hlt:=(List.getElem?_eq_some_iff.1 hb).1;unfold Bm;rw[if_pos (by omega),if_neg (by omega),Io ha hb,h,List.drop_left' (by simp;omega)]
theorem L3{k x:V}{l:List V}{q:Nat}{a b:V}(ha:l[2*q]?=some a)(hb:l[2*q+1]?=some b)(h:kat k l<q):Bm k x l (q+1)=Bm k x l q ++ [a,b]:=by
 have hlt:=(List.getElem?_eq_some_iff.1 hb).1;unfold Bm;rw[if_pos (by omega),if_pos h,Io ha hb,List.drop_append_of_le_length (by simp;omega)];simp
theorem S3{k x:V}{l:List V}{q:Nat}(hq:2*q=l.length):spl l (2*kat k l) (2*kat k l) [k,x]=if kat k l<q then Bm k x l q else Bm k x l q ++ [k,x]:=by
 have hle:=Ez k l;unfold Bm;by_cases h:kat k l<q
 ·rw[if_pos h,if_pos h,hq,List.take_length];rfl
 ·rw[if_neg h,if_neg h];have hk:2*kat k l=l.length:=by omega
  rw[hk,hq];simp[spl]
theorem S4{k x:V}{l:List V}{q:Nat}(hq:2*q<=l.length):(Bm k x l q).length=if kat k l<q then 2*q+2 else 2*q:=by
 unfold Bm;split <;> simp <;> omega
end
end Go.Proofs.YtnijcolomoobnaaGreatDoor
