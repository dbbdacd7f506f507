/- Texts of ours, joined. -/
import Derived.Test.YtpckmjfabiallaaGreatDoorG11
set_option linter.unusedVariables false
set_option linter.unusedSimpArgs false
set_option maxRecDepth 100000
set_option maxHeartbeats 16000000
namespace Go.Proofs.YtpckmjfabiallaaGreatDoor
variable{cs:List Value}{sz:Nat}{v:Value}{w:World}
section
open Go.RowKit
theorem SlRow.under{B:AS}{n:Nat}{row:AR}(h:SlRow B w sz v n row):SlRow (λ k=>k<w.heap.size) w sz v n row:=by
 obtain⟨h1,h2⟩:=h;refine⟨h1,?_⟩;rcases h2 with h2 | ⟨g,o,cap,hv,hn,hc,hb,hg,hr⟩
 .exact AI h2
 .exact AJ ⟨g,o,cap,hv,hn,hc,hg,hg,hr⟩
mutual
theorem IsGE.under{B:AS}{w:World}:∀{e:GE} {cs:AR},IsGE B w e cs->IsGE (λ k=>k<w.heap.size) w e cs
 | .mk k o n t args,cs,h=>by
  rw[IsGE] at h ⊢;obtain⟨x,p,y,sl,row,hc,hr,ha⟩:=h;exact⟨x,p,y,sl,row,hc,hr.under,B6.under ha⟩
theorem B6.under{B:AS}{w:World}:∀{l:List GE} {cs:AR},B6 B w l cs->B6 (λ k=>k<w.heap.size) w l cs
 | [],cs,h=>by rw[B6] at h ⊢;exact h
 | e :: r,cs,h=>by
  rw[B6] at h ⊢;obtain⟨c1,c2,hc,h1,h2⟩:=h;exact⟨c1,c2,hc,IsGE.under h1,B6.under h2⟩
end
mutual
theorem IsGS.under{B:AS}{w:World}:∀{e:GS} {cs:AR},IsGS B w e cs->IsGS (λ k=>k<w.heap.size) w e cs
 | .mk k n es b c,cs,h=>by
  rw[IsGS] at h ⊢;obtain⟨x,y,p,f,s1,s2,s3,r1,r2,r3,hc,a1,a2,a3,a4,a5,a6⟩:=h;exact⟨x,y,p,f,s1,s2,s3,r1,r2,r3,hc,a1.under,a2.under,a3.under,B5.under a4,a5.under,B5.under a6⟩
theorem B5.under{B:AS}{w:World}:∀{l:List GS} {cs:AR},B5 B w l cs->B5 (λ k=>k<w.heap.size) w l cs
 | [],cs,h=>by rw[B5] at h ⊢;exact h
 | e :: r,cs,h=>by
  rw[B5] at h ⊢;obtain⟨c1,c2,hc,h1,h2⟩:=h;exact⟨c1,c2,hc,IsGS.under h1,B5.under h2⟩
end
theorem I4.under{B:AS}{l:List (List UInt8 × List UInt8)}(h:I4 B w l v):I4 (λ k=>k<w.heap.size) w l v:=by
 obtain⟨row,h1,h2⟩:=h;exact⟨row,h1.under,h2⟩
theorem B7.under{B:AS}{l:List GS}(h:B7 B w l v):B7 (λ k=>k<w.heap.size) w l v:=by
 obtain⟨row,h1,h2⟩:=h;exact⟨row,h1.under,h2.under⟩
theorem Hj.under{B:AS}{f:GF}(h:Hj B w f cs):Hj (λ k=>k<w.heap.size) w f cs:=by
 obtain⟨ps,bs,p,h1,h2,h3⟩:=h;exact⟨ps,bs,p,h1,h2.under,h3.under⟩
theorem Eh.under{B:AS}{w:World}:∀{l:List GF} {cs:AR},Eh B w l cs->Eh (λ k=>k<w.heap.size) w l cs
 | [],cs,h=>h
 | e :: r,cs,h=>by
  obtain⟨c1,c2,hc,h1,h2⟩:=h;exact⟨c1,c2,hc,h1.under,Eh.under h2⟩
theorem L7.under{B:AS}{l:List GF}(h:L7 B w l v):L7 (λ k=>k<w.heap.size) w l v:=by
 obtain⟨row,h1,h2⟩:=h;exact⟨row,h1.under,h2.under⟩
theorem P8.under{B:AS}{p:GP}(h:P8 B w p v):P8 (λ k=>k<w.heap.size) w p v:=by
 obtain⟨ss,fs,hv,h1,h2⟩:=h;exact⟨ss,fs,hv,h1.under,h2.under⟩
end
end Go.Proofs.YtpckmjfabiallaaGreatDoor
