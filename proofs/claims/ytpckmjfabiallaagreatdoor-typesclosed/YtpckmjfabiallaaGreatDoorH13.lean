/- Texts of ours, joined. -/
import Derived.Test.YtpckmjfabiallaaGreatDoorH11
import Derived.Deep.CutRange
set_option linter.unusedVariables false
set_option linter.unusedSimpArgs false
set_option maxRecDepth 100000
set_option maxHeartbeats 16000000
namespace Go.Proofs.YtpckmjfabiallaaGreatDoor
variable{cs:List Value}{w:World}
section
open Go.RowKit
open Ck (CE CS CF CP)
theorem Lh{B:Nat}{a:World}(h:Below B a w)(n:Nat):Below B a (w.drewN n):=h.trans ⟨rfl,rfl,rfl,AD _,λ _ _=>rfl⟩
mutual
def Li:CE->Nat
 | .mk _ _ _ _ _ _ a=>1+H7 a
def H7:List CE->Nat
 | []=>0
 | e :: r=>Li e+H7 r
end
mutual
def Ua:CS->Nat
 | .mk _ _ _ _ _ b c=>1+E7 b+E7 c
def E7:List CS->Nat
 | []=>0
 | e :: r=>Ua e+E7 r
end
theorem Jf:∀{l:List CE} {i:Nat} {e:CE},l[i]?=some e->Li e<=H7 l
 | [],i,e,h=>by simp at h
 | a :: r,0,e,h=>by simp at h;subst h;simp[H7]
 | a :: r,i+1,e,h=>by
  have:=Jf (l:=r) (i:=i) (by simpa using h);simp only[H7];omega
theorem Jg:∀{l:List CS} {i:Nat} {e:CS},l[i]?=some e->Ua e<=E7 l
 | [],i,e,h=>by simp at h
 | a :: r,0,e,h=>by simp at h;subst h;simp[E7]
 | a :: r,i+1,e,h=>by
  have:=Jg (l:=r) (i:=i) (by simpa using h);simp only[E7];omega
theorem Aw.get{B:AS}{w:World}:∀{l:List CE} {row:AR} {i:Nat} {e:CE},Aw B w l row->l[i]?=some e->∃cs,Cl B w e cs/\∀j,j<8->row[i*8+j]?=cs[j]?
 | [],row,i,e,h,hi=>by simp at hi
 | a :: r,row,0,e,h,hi=>by
  rw[Aw] at h;obtain⟨c1,c2,hc,h1,h2⟩:=h;simp at hi;subst hi;exact⟨c1,h1,λ j hj=>by rw[hc,List.getElem?_append_left (by have:=h1.len;omega)];simp⟩
 | a :: r,row,i+1,e,h,hi=>by
  rw[Aw] at h;obtain⟨c1,c2,hc,h1,h2⟩:=h;obtain⟨cs,k1,k2⟩:=Aw.get h2 (by simpa using hi);refine⟨cs,k1,λ j hj=>?_⟩;have:=h1.len;rw[hc,List.getElem?_append_right (by omega),<-k2 j hj];congr 1;omega
theorem Au.get{B:AS}{w:World}:∀{l:List CS} {row:AR} {i:Nat} {e:CS},Au B w l row->l[i]?=some e->∃cs,Co B w e cs/\∀j,j<9->row[i*9+j]?=cs[j]?
 | [],row,i,e,h,hi=>by simp at hi
 | a :: r,row,0,e,h,hi=>by
  rw[Au] at h;obtain⟨c1,c2,hc,h1,h2⟩:=h;simp at hi;subst hi;exact⟨c1,h1,λ j hj=>by rw[hc,List.getElem?_append_left (by have:=h1.len;omega)];simp⟩
 | a :: r,row,i+1,e,h,hi=>by
  rw[Au] at h;obtain⟨c1,c2,hc,h1,h2⟩:=h;obtain⟨cs,k1,k2⟩:=Au.get h2 (by simpa using hi);refine⟨cs,k1,λ j hj=>?_⟩;have:=h1.len;rw[hc,List.getElem?_append_right (by omega),<-k2 j hj];congr 1;omega
theorem Ej.len{B:AS}{e:CF}(h:Ej B w e cs):cs.length=7:=by
 obtain⟨ps,ls,bs,hc,_⟩:=h;rw[hc];rfl
theorem B6.get{B:AS}{w:World}:∀{l:List CF} {row:AR} {i:Nat} {e:CF},B6 B w l row->l[i]?=some e->∃cs,Ej B w e cs/\∀j,j<7->row[i*7+j]?=cs[j]?
 | [],row,i,e,h,hi=>by simp at hi
 | a :: r,row,0,e,h,hi=>by
  obtain⟨c1,c2,hc,h1,h2⟩:=h;simp at hi;subst hi;exact⟨c1,h1,λ j hj=>by rw[hc,List.getElem?_append_left (by have:=h1.len;omega)];simp⟩
 | a :: r,row,i+1,e,h,hi=>by
  obtain⟨c1,c2,hc,h1,h2⟩:=h;obtain⟨cs,k1,k2⟩:=B6.get h2 (by simpa using hi);refine⟨cs,k1,λ j hj=>?_⟩;have:=h1.len;rw[hc,List.getElem?_append_right (by omega),<-k2 j hj];congr 1;omega
theorem Np:∀{l:List (List UInt8 × List UInt8)} {i:Nat} {s:List UInt8 × List UInt8},l[i]?=some s->(l.flatMap Ba)[i*3]?=some (.string ⟨s.1.toArray⟩)/\(l.flatMap Ba)[i*3+1]?=some (.string ⟨s.2.toArray⟩)/\(l.flatMap Ba)[i*3+2]?=some (iv 0)
 | [],i,s,h=>by simp at h
 | a :: r,0,s,h=>by simp at h;subst h;simp[Ba]
 | a :: r,i+1,s,h=>by
  have ih:=Np (l:=r) (i:=i) (by simpa using h);have e:(a :: r).flatMap Ba=Ba a ++ r.flatMap Ba:=by simp
  have hl:(Ba a).length=3:=rfl;rw[e];refine⟨?_,?_,?_⟩
  .rw[List.getElem?_append_right (by omega),hl,show (i+1)*3 - 3=i*3 by omega];exact ih.1
  .rw[List.getElem?_append_right (by omega),hl,show (i+1)*3+1 - 3=i*3+1 by omega];exact ih.2.1
  .rw[List.getElem?_append_right (by omega),hl,show (i+1)*3+2 - 3=i*3+2 by omega];exact ih.2.2
end
end Go.Proofs.YtpckmjfabiallaaGreatDoor
