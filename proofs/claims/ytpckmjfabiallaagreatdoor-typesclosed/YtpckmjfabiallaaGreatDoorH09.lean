/- Texts of ours, joined. -/
import Derived.Test.YtpckmjfabiallaaGreatDoorH07
import Derived.Test.YtpckmjfabiallaaGreatDoorH08
set_option linter.unusedVariables false
set_option linter.unusedSimpArgs false
set_option maxRecDepth 100000
set_option maxHeartbeats 16000000
namespace Go.Proofs.YtpckmjfabiallaaGreatDoor
variable{b i m p sz:Nat}{cs:List Value}{v:Value}{w:World}{x:List UInt8}
open List
open Tryz
section
open Go.RowKit
def Bm(l x l':AQ):Prop:=l'=l ++ x\/(16384<l'.length/\16384<(l ++ x).length)
theorem Bm.refl(l:AQ):Bm l [] l:=AI (by simp)
theorem Bm.trans{l l1 y l2:AQ}(h:Bm l x l1)(k:Bm l1 y l2):Bm l (x ++ y) l2:=by
 rcases h with rfl | ⟨h1,h2⟩
 .rcases k with rfl | ⟨k1,k2⟩
  .exact AI (by simp)
  .exact AJ ⟨k1,by simpa using k2⟩
 .rcases k with rfl | ⟨k1,k2⟩
  .exact AJ ⟨by simp;omega,by simp at h2 ⊢;omega⟩
  .exact AJ ⟨k1,by simp at h2 ⊢;omega⟩
theorem Bm.over{l:AQ}(h:Bm [] x l):(16384<l.length↔16384<x.length)/\(¬16384<l.length->l=x):=by
 rcases h with rfl | ⟨h1,h2⟩
 .simp
 .simp at h2;exact⟨⟨λ _=>h2,λ _=>h1⟩,λ h=>absurd h1 h⟩
def Wo(l s:AQ):List UInt8:=if 16384<l.length then l else l ++ s
theorem wrote_put(l s:AQ):Bm l s (Wo l s):=by
 unfold Wo;split
 .rename_i h;exact AJ ⟨h,by simp;omega⟩
 .exact AI rfl
abbrev Ct:List PanicEntry:=[{ v:=.iface 107 (.agg #[iv 11]),recovered:=false }]
def WPost(base b:Nat)(l:AQ)(tabs:Nat)(w:World)(r:Option (List UInt8))(e:Ending)(w':World):Prop:=
 match r with
 | some x=>e=.returned (.tuple #[])/\∃l',Bm l x l'/\Wr base b l' tabs w'/\FW base b w w'
 | none=>e=.panicked Ct/\∃l' tabs',Wr base b l' tabs' w'/\FW base b w w'
theorem En{base:Nat}{l:AQ}{tabs:Nat}(h:Wr base b l tabs w) :
  AA 36 #[Bh b] w λ e w'=>e=.returned (.bool (decide (16384<l.length)))/\w'=w:=by
 have a0:=h.lt;go_enter func36,ntmps36;go_wp2_with (go_at_call 64;refine (Yx h).mono ?_;rintro e w' ⟨rfl,rfl⟩);go_ret;refine⟨?_,rfl⟩;rw[show decide ((16384:Int)<(l.length:Int))=decide (16384<l.length) from decide_eq_decide.2 (by omega)];rfl
theorem Ah3{base:Nat}{l:AQ}{tabs:Nat}(h:Wr base b l tabs w)(s:ByteArray)(hs:s.size<=1099511627776) :
  AA 60 #[Bh b,.string s] w λ e w'=>e=.returned (.tuple #[])/\Wr base b (Wo l s.data.toList) tabs w'/\FW base b w w':=by
 have a3:=h.lt;unfold Wo;by_cases hov:16384<l.length
 .have hO:=En h;rw[if_pos hov];simp only[hov,decide_true] at hO;go_enter func60,ntmps60;go_wp2_with (go_at_call 36;refine hO.mono ?_;rintro e w' ⟨rfl,rfl⟩)
  go_end0
  exact⟨rfl,h,AY _ _ _⟩
 .have hO:=En h;rw[if_neg hov];simp only[hov,decide_false] at hO;go_enter func60,ntmps60;go_wp2_with (go_at_call 36;refine hO.mono ?_;rintro e w' ⟨rfl,rfl⟩);go_wp2_with (go_at_call 88;refine (fwrite_any h s (by omega)).mono ?_;rintro e w' ⟨rfl,h',a0⟩)
  go_end0
  exact⟨rfl,h',a0⟩
theorem Yy{base:Nat}{l:AQ}{tabs:Nat}(h:Wr base b l tabs w)(s:ByteArray)(hs:s.size<=1099511627776)(u:FrameMode) :
  CallsD prog 60 #[Bh b,.string s] u w λ e u' w'=>u'=u/\e=.returned (.tuple #[])/\Wr base b (Wo l s.data.toList) tabs w'/\FW base b w w':=by
 have a3:=h.lt;unfold Wo;by_cases hov:16384<l.length
 .have hO:=En h;rw[if_pos hov];simp only[hov,decide_true] at hO
  go_enter_d func60,ntmps60
  go_wp2_with (go_at_call 36;refine hO.mono ?_;rintro e w' ⟨rfl,rfl⟩)
  go_end0
  exact⟨rfl,h,AY _ _ _⟩
 .have hO:=En h;rw[if_neg hov];simp only[hov,decide_false] at hO
  go_enter_d func60,ntmps60
  go_wp2_with (go_at_call 36;refine hO.mono ?_;rintro e w' ⟨rfl,rfl⟩)
  go_wp2_with (go_at_call 88;refine (fwrite_any h s (by omega)).mono ?_;rintro e w' ⟨rfl,h',a0⟩)
  go_end0
  exact⟨rfl,h',a0⟩
theorem put_l{base:Nat}{l:AQ}{tabs:Nat}(h:Wr base b l tabs w)(x:AQ)(hs:x.length<=1099511627776) :
  AA 60 #[Bh b,.string ⟨x.toArray⟩] w λ e w'=>e=.returned (.tuple #[])/\∃l',Bm l x l'/\Wr base b l' tabs w'/\FW base b w w':=by
 refine (Ah3 h ⟨x.toArray⟩ (by show x.toArray.size<=_;simpa using hs)).mono ?_;rintro e w' ⟨rfl,h',hf⟩;exact⟨rfl,_,wrote_put l x,by simpa using h',hf⟩
theorem Yz{base:Nat}{l:AQ}{tabs:Nat}(h:Wr base b l tabs w)(x:AQ)(hs:x.length<=1099511627776)(u:FrameMode) :
  CallsD prog 60 #[Bh b,.string ⟨x.toArray⟩] u w λ e u' w'=>u'=u/\e=.returned (.tuple #[])/\∃l',Bm l x l'/\Wr base b l' tabs w'/\FW base b w w':=by
 refine (Yy h ⟨x.toArray⟩ (by show x.toArray.size<=_;simpa using hs) u).mono ?_;rintro e u' w' ⟨rfl,rfl,h',hf⟩;exact⟨rfl,rfl,_,wrote_put l x,by simpa using h',hf⟩
theorem Wp{l:AQ}{k:Nat}{l1 l2:AQ}(h:Bm l (10 :: List.replicate k 9) l1)(k1:Bm l1 [9] l2):Bm l (10 :: List.replicate (k+1) 9) l2:=by
 have:=h.trans k1;rw[replicate_succ'];simpa using this
theorem Ss{l:AQ}{k n:Nat}{l1:AQ}(h:Bm l (10 :: List.replicate k 9) l1)(hk:k<=n)(ho:16384<l1.length):Bm l (10 :: List.replicate n 9) l1:=by
 right;refine⟨ho,?_⟩;rcases h with rfl | ⟨_,h2⟩
 .simp at ho ⊢;omega
 .simp at h2 ⊢;omega
theorem P6{base:Nat}{l:AQ}{tabs:Nat}(h:Wr base b l tabs w)(ht:tabs<=1099511627776) :
  AA 127 #[Bh b] w λ e w'=>e=.returned (.tuple #[])/\∃l',Bm l (10 :: List.replicate tabs 9) l'/\Wr base b l' tabs w'/\FW base b w w':=by
 have hP:=put_l h [10] (by simp);go_enter func127,ntmps127;go_wp2_with (go_at_call 60;refine hP.mono ?_;rintro e w1 ⟨rfl,l1,a5,h1,a0⟩);clear hP
 go_loopg [2] tabs (λ g i wr=>∃(k:Nat) (lk:AQ),k<=tabs/\g=tabs - k/\i=iv k/\Bm l (10 :: List.replicate k 9) lk/\Wr base b lk tabs wr/\FW base b w wr)
 case atStart=>exact⟨0,l1,AO _,rfl,rfl,by simpa using a5,h1,a0⟩
 case round=>
  clear h1 a0 a5 h;obtain⟨k,lk,hk,rfl,rfl,a3,h1,a0⟩:=hrel;have a9:=h1.lt;obtain⟨c2,f2⟩:=h1.cells;have hO:=En h1;by_cases hlt2:k<tabs
  .have a4:(k:Int)<(tabs:Int):=by omega
   by_cases hov:16384<lk.length
   .simp only[hov,decide_true] at hO;go_wp2_with (go_at_call 36;refine hO.mono ?_;rintro e w' ⟨rfl,rfl⟩)
    go_end0
    exact⟨rfl,lk,Ss a3 hk hov,h1,a0⟩
   .simp only[hov,decide_false] at hO;have hP:=put_l h1 [9] (by simp);go_wp2_with (go_at_call 36;refine hO.mono ?_;rintro e w' ⟨rfl,rfl⟩);go_wp2_with (go_at_call 60;refine hP.mono ?_;rintro e w2 ⟨rfl,l2,a6,h2,a8⟩);go_wp2;go_roundg (tabs - (k+1))
    case measure=>omega
    case rel=>exact⟨k+1,l2,by omega,rfl,by go_num,Wp a3 a6,h2,a0.trans a8⟩
  .have a4:¬(k:Int)<(tabs:Int):=by omega
   have a7:k=tabs:=by omega
   go_wp2
   go_end0
   exact⟨rfl,lk,by rw[<-a7];exact a3,h1,a0⟩
end
section
open Go.RowKit
open Px (Ty IsTy)
abbrev betw:=@Vv.betw
abbrev pre_iff:=@Vv.pre_iff
abbrev suf_iff:=@Vv.suf_iff
abbrev betw_iff:=@Vv.betw_iff
abbrev elemT:=@Vv.elemT
abbrev tyF:=@Vv.tyF
abbrev betw_none:=@Vv.betw_none
theorem Zk:∀(f:Nat) (s:AQ),Vv.tyF f s=true->IsTy f s
 | 0,s,h=>by simp[Vv.tyF] at h
 | f+1,s,h=>by
  rw[Vv.tyF] at h;split at h
  .rename_i h1;rcases h1 with rfl | rfl | rfl
   .exact⟨_,.int⟩
   .exact⟨_,.bool⟩
   .exact⟨_,.text⟩
  .rcases he:Vv.elemT s with _ | y
   .rw[he] at h;simp at h
   .rw[he] at h;obtain⟨c,hc⟩:=Zk f y h;unfold Vv.elemT at he;rcases h1:Vv.betw s [91] [93] with _ | y1
    .rw[h1] at he;rcases h2:Vv.betw s [123,105,110,116,58] [125] with _ | y2
     .rw[h2] at he;have e:=(betw_iff _ _ _ _).1 he;have t:=Ty.map (a:=[116,101,120,116]) (AJ rfl) hc;exact⟨_,by rw[e];simpa using t⟩
     .rw[h2] at he;simp at he;subst he;have e:=(betw_iff _ _ _ _).1 h2;have t:=Ty.map (a:=[105,110,116]) (AI rfl) hc;exact⟨_,by rw[e];simpa using t⟩
    .rw[h1] at he;simp at he;subst he;have e:=(betw_iff _ _ _ _).1 h1;exact⟨_,by rw[e];exact Ty.list hc⟩
theorem Ao6{k:Nat}{y:AQ}{c:List Lx.Tok}(h:Ty k y c):Vv.tyF k y=true:=by
 induction h with
 | int=>simp[Vv.tyF]
 | bool=>simp[Vv.tyF]
 | text=>simp[Vv.tyF]
 | @list k y c h ih=>
  have e:Vv.elemT ([91] ++ y ++ [93])=some y:=by
   unfold Vv.elemT;rw[(betw_iff _ _ _ y).2 rfl]
  rw[Vv.tyF,if_neg (by simp),e];exact ih
 | @map k a y c ha h ih=>
  have e:Vv.elemT ([123] ++ a ++ [58] ++ y ++ [125])=some y:=by
   unfold Vv.elemT;rw[betw_none _ _ _ (λ z=>by simp)];rcases ha with rfl | rfl
   .rw[(betw_iff _ _ _ y).2 (by simp)]
   .rw[betw_none _ _ _ (λ z=>by simp)];exact (betw_iff _ _ _ y).2 (by simp)
  rw[Vv.tyF,if_neg (by simp),e];exact ih
theorem U6(f:Nat)(s:AQ):Vv.tyF f s=true↔IsTy f s:=⟨Zk f s,λ⟨_,h⟩=>Ao6 h⟩
theorem gType_tyF(s:AQ):gType s=Vv.tyF 4 s:=by
 unfold gType;by_cases h:IsTy 4 s
 .rw[if_pos h,(U6 4 s).2 h]
 .rw[if_neg h];rcases ht:Vv.tyF 4 s with _ | _
  .rfl
  .exact absurd ((U6 4 s).1 ht) h
abbrev between_any:=@Vv.between_any
abbrev between_yes:=@Vv.between_yes
abbrev between_no:=@Vv.between_no
abbrev element_no:=@Vv.element_no
abbrev element_yes:=@Vv.element_yes
abbrev elem_len:=@Vv.elem_len
abbrev bytes_of:=@Vv.bytes_of
abbrev istype_any:=@Vv.istype_any
theorem stype_any(s:ByteArray)(w:World)(hs:s.size<=maxLen) :
  AA 59 #[.string s] w λ e w'=>e=.returned (.bool (gType s.data.toList))/\w'=w:=by
 have h:=istype_any 4 1 rfl s w hs;rw[<-gType_tyF] at h;go_enter func59,ntmps59;go_wp2_with (go_at_call 87;refine h.mono ?_;rintro e w' ⟨rfl,rfl⟩);go_ret;exact⟨rfl,rfl⟩
end
section
open Go.RowKit
theorem SlRow.under{B:AS}{n:Nat}{row:AR}(h:SlRow B w sz v n row):SlRow (λ k=>k<w.heap.size) w sz v n row:=by
 obtain⟨h1,h2⟩:=h;refine⟨h1,?_⟩;rcases h2 with h2 | ⟨g,o,cap,hv,hn,hc,hb,hg,hr⟩
 .exact AI h2
 .exact AJ ⟨g,o,cap,hv,hn,hc,hg,hg,hr⟩
mutual
theorem IsGE.under{B:AS}{w:World}:∀{e:GE} {cs:AR},IsGE B w e cs->IsGE (λ k=>k<w.heap.size) w e cs
 | .mk k o n t args,cs,h=>by
  rw[IsGE] at h ⊢;obtain⟨x,p,y,sl,row,hc,hr,ha⟩:=h;exact⟨x,p,y,sl,row,hc,hr.under,B0.under ha⟩
theorem B0.under{B:AS}{w:World}:∀{l:List GE} {cs:AR},B0 B w l cs->B0 (λ k=>k<w.heap.size) w l cs
 | [],cs,h=>by rw[B0] at h ⊢;exact h
 | e :: r,cs,h=>by
  rw[B0] at h ⊢;obtain⟨c1,c2,hc,h1,h2⟩:=h;exact⟨c1,c2,hc,IsGE.under h1,B0.under h2⟩
end
mutual
theorem IsGS.under{B:AS}{w:World}:∀{e:GS} {cs:AR},IsGS B w e cs->IsGS (λ k=>k<w.heap.size) w e cs
 | .mk k n es b c,cs,h=>by
  rw[IsGS] at h ⊢;obtain⟨x,y,p,f,s1,s2,s3,r1,r2,r3,hc,a1,a2,a3,a4,a5,a6⟩:=h;exact⟨x,y,p,f,s1,s2,s3,r1,r2,r3,hc,a1.under,a2.under,a3.under,Bz.under a4,a5.under,Bz.under a6⟩
theorem Bz.under{B:AS}{w:World}:∀{l:List GS} {cs:AR},Bz B w l cs->Bz (λ k=>k<w.heap.size) w l cs
 | [],cs,h=>by rw[Bz] at h ⊢;exact h
 | e :: r,cs,h=>by
  rw[Bz] at h ⊢;obtain⟨c1,c2,hc,h1,h2⟩:=h;exact⟨c1,c2,hc,IsGS.under h1,Bz.under h2⟩
end
theorem Hp.under{B:AS}{l:List (List UInt8 × List UInt8)}(h:Hp B w l v):Hp (λ k=>k<w.heap.size) w l v:=by
 obtain⟨row,h1,h2⟩:=h;exact⟨row,h1.under,h2⟩
theorem B1.under{B:AS}{l:List GS}(h:B1 B w l v):B1 (λ k=>k<w.heap.size) w l v:=by
 obtain⟨row,h1,h2⟩:=h;exact⟨row,h1.under,h2.under⟩
theorem Gi.under{B:AS}{f:GF}(h:Gi B w f cs):Gi (λ k=>k<w.heap.size) w f cs:=by
 obtain⟨ps,bs,p,h1,h2,h3⟩:=h;exact⟨ps,bs,p,h1,h2.under,h3.under⟩
theorem Dz.under{B:AS}{w:World}:∀{l:List GF} {cs:AR},Dz B w l cs->Dz (λ k=>k<w.heap.size) w l cs
 | [],cs,h=>h
 | e :: r,cs,h=>by
  obtain⟨c1,c2,hc,h1,h2⟩:=h;exact⟨c1,c2,hc,h1.under,Dz.under h2⟩
theorem Kf.under{B:AS}{l:List GF}(h:Kf B w l v):Kf (λ k=>k<w.heap.size) w l v:=by
 obtain⟨row,h1,h2⟩:=h;exact⟨row,h1.under,h2.under⟩
theorem On.under{B:AS}{p:GP}(h:On B w p v):On (λ k=>k<w.heap.size) w p v:=by
 obtain⟨ss,fs,hv,h1,h2⟩:=h;exact⟨ss,fs,hv,h1.under,h2.under⟩
theorem Qx{base:Nat}{l:AQ}{tabs:Nat}(h:Wr base b l tabs w)(h0:l≠[]) :
  AA 37 #[Bh b] w λ e w'=>e=.returned (.string ⟨l.toArray⟩)/\FW base b w w':=by
 obtain⟨ag,_,p,v,hp,a4,a0⟩:=h;have a5:l.length≠0:=by simpa using h0
 obtain⟨g,cap,cur,fz,rfl,a8,hg,aa,af,a6,a9,a3⟩:∃g cap cur fz,v=sL g 0 l.length cap/\base<=g/\w.heap[g]?=some (.cells cur 5 fz)/\fz.2<=l.length*1/\l.length<=cap/\cap<=maxLen/\cur.size=cap*1/\cur.toList.take (l.length*1)=Lib.byteCells l:=by
  rcases a0.2 with⟨_,hz⟩ | ⟨g,cap,cur,fz,hv,r⟩
  .exact absurd hz a5
  .exact⟨g,cap,cur,fz,hv,r⟩
 have ad:b<w.heap.size:=(AB a4).1;have c1:w.drew.cell? ⟨b,1,none⟩=some (sL g 0 l.length cap):=(Ag (w:=w.drew) a4).2.1;have ae:(Builtin.unsafeSliceData_ #[78] 111 #[sL g 0 l.length cap]).run prog w.drew=.ok (pt g 0) w.drew:=
  Lib.run_unsafeSliceData_row _ _ _ _ _ _ (by omega)
 have ab:(Builtin.unsafeString_ #[111,3] 9 #[pt g 0,iv l.length]).run prog w.drew=.ok (.string ⟨l.toArray⟩) (w.drew.freeze ⟨g,0,none⟩ l.length):=by
  refine Lib.run_unsafeString_row w.drew 111 3 9 5 underlying111 (by kernel_rfl) g cur.size (by have a7:w.drew.heap[g]?=some (.cells cur 5 fz):=hg;simp[World.shape?,a7]) l h0 (by omega) (by unfold maxLen at a6;omega) ?_;intro j x hx;have:=a0.cells (g:=g) rfl j (.int .u8 x.toNat) (by simp[Lib.byteCells,hx]);exact this
 have hF:FW base b w (w.drew.freeze ⟨g,0,none⟩ l.length):=
  ⟨Lib.below_freeze (Below.drew (AF base w)) (p:=⟨g,0,none⟩) a8 _,Lib.OthersKept.freeze (Lib.OthersKept.drew (Lib.OthersKept.refl _ _ _)) ⟨g,0,none⟩ _ ⟨cur,fz,hg⟩⟩
 clear a0 a3 a9 aa;go_enter func37,ntmps37;go_wp2
 go_region
 all_goals
  go_wp2;go_ret;exact⟨rfl,hF⟩
end
section
open Px (TS TSim Ins)
theorem Q8(dot:Bool)(l:AQ):∀(N i c:Nat) (ts:List Lx.Tok),l.length - i<N->i<=l.length->Lx.lexGo dot (l.drop i) i c=.inl ts->∀t∈ts,i<=t.place/\t.place<=l.length:=by
 intro N;induction N with
 | zero=>intro i c ts hN;omega
 | succ N ih=>
  intro i c ts hN hi h;obtain⟨u,a5,rfl,a8,hc,a3⟩:=F6 h;have a6:=Lx.skip_le false (l.drop i);simp only[length_drop] at a6;rcases a3 with⟨hd,rfl,rfl⟩ | ⟨x,r,k,t,m,n,hd,ht,rfl,a0⟩
  .intro t ht;simp at ht;subst ht;exact⟨by simp,by show i+_<=_;omega⟩
  .have a7:=B7 ht;have a4:=congrArg List.length hd;simp at a4;rw[drop_drop,<-Nat.add_assoc] at a0;intro t2 ht2;simp only[mem_cons] at ht2;rcases ht2 with rfl | ht2
   .exact⟨by simp,by show i+_<=_;omega⟩
   .have:=ih (i+Lx.skipF false (l.drop i)+n) (c+1) a5 (by omega) (by omega) a0 t2 ht2;omega
theorem parse_bad_cases{l:AQ}{a er:Nat}(h:Px.parse l=.inr (a,er)):(Lx.lex true l=.inr (a,er)/\er≠0/\a<=l.length)\/∃ts,Lx.lex true l=.inl ts/\(∃t∈ts,t.place=a)/\(er=31\/er=32)/\a<=l.length:=by
 unfold Px.parse at h;rcases hl:Lx.lex true l with ts | ⟨a',a0⟩
 .rw[hl] at h;simp only at h;rcases hp:Px.program ts with⟨p,r⟩ | ⟨a',a0⟩
  .rw[hp] at h;simp at h
  .rw[hp] at h;simp only[Sum.inr.injEq,Prod.mk.injEq] at h;obtain⟨rfl,rfl⟩:=h;obtain⟨⟨t,ht,a3⟩,he⟩:=P1 hl hp;refine AJ ⟨ts,rfl,⟨t,ht,a3⟩,he,?_⟩;have a4:=(C6 hl).2;unfold Lx.lex at hl;rw[if_neg (by omega)] at hl;have:=Q8 true l (l.length+1) 0 0 ts (by omega) (by omega) (by simpa using hl) t ht;omega
 .rw[hl] at h;simp only[Sum.inr.injEq,Prod.mk.injEq] at h;obtain⟨rfl,rfl⟩:=h;exact AI ⟨rfl,Ag5 hl,Aj6 hl⟩
end
section
open Go.RowKit
abbrev Ky:Value:=.agg #[iv 0,sZ,sZ]
def M8(res:Px.Pr ⊕ (Nat × Nat))(w:World)(e:Ending)(w':World):Prop:=
 match res with
 | .inl p=>(∃v,e=.returned (.tuple #[v,iv 0,iv 0])/\Ec (From w.heap.size) w' p v)/\Below w.heap.size w w'
 | .inr (a,er)=>e=.returned (.tuple #[Ky,iv a,iv er])/\Below w.heap.size w w'
def Aj7:Prop:=∀(s:ByteArray) (w:World),Env w->s.size<=maxLen->AA 9 #[.string s] w λ e w'=>M8 (Px.parse s.data.toList) w e w'
theorem Ec.cells{B:AS}{p:Px.Pr}(h:Ec B w p v):∃sa sn sc fa fn fc,v=.agg #[iv p.version,.slice sa sn sc,.slice fa fn fc]:=by
 obtain⟨ss,fs,hv,h1,row,h2,h3⟩:=h;obtain⟨sa,sc,rfl⟩:=Dv.slice h1;obtain⟨fa,fc,rfl,_⟩:=h2.slice;exact⟨sa,_,sc,fa,_,fc,hv⟩
end
section
namespace Ck
open Lx (B)
open Px (Ex St Sl Pr)
def VT(t:B):Prop:=∃T:Vv.Ty,Vv.tyT T=t/\T.dp<=4
theorem Ae7{k:Nat}{y:B}{c:List Lx.Tok}(h:Px.Ty k y c):∃T:Vv.Ty,Vv.tyT T=y/\T.dp<=k:=by
 induction h with
 | int=>exact⟨.int,rfl,by simp[Vv.Ty.dp]⟩
 | bool=>exact⟨.bool,rfl,by simp[Vv.Ty.dp]⟩
 | text=>exact⟨.text,rfl,by simp[Vv.Ty.dp]⟩
 | list _ ih=>
  obtain⟨T,rfl,h⟩:=ih;exact⟨.list T,rfl,by simp[Vv.Ty.dp];omega⟩
 | map ha _ ih=>
  obtain⟨T,rfl,h⟩:=ih;rcases ha with rfl | rfl
  .exact⟨.map true T,by simp[Vv.tyT,Vv.keyT],by simp[Vv.Ty.dp];omega⟩
  .exact⟨.map false T,by simp[Vv.tyT,Vv.keyT],by simp[Vv.Ty.dp];omega⟩
theorem Lj:∀(T:Vv.Ty) (k:Nat),T.dp<=k->∃c,Px.Ty k (Vv.tyT T) c
 | .int,k+1,_=>⟨_,.int⟩
 | .bool,k+1,_=>⟨_,.bool⟩
 | .text,k+1,_=>⟨_,.text⟩
 | .list T,k+1,h=>by
  obtain⟨c,hc⟩:=Lj T k (by simp[Vv.Ty.dp] at h;exact h);exact⟨_,.list hc⟩
 | .map a T,k+1,h=>by
  obtain⟨c,hc⟩:=Lj T k (by simp[Vv.Ty.dp] at h;exact h);have:=Px.Ty.map (a:=Vv.keyT a) (by cases a <;> simp[Vv.keyT]) hc;exact⟨_,by simpa [Vv.tyT] using this⟩
 | .int,0,h=>by simp[Vv.Ty.dp] at h
 | .bool,0,h=>by simp[Vv.Ty.dp] at h
 | .text,0,h=>by simp[Vv.Ty.dp] at h
 | .list T,0,h=>by simp[Vv.Ty.dp] at h
 | .map a T,0,h=>by simp[Vv.Ty.dp] at h
theorem VT.is{t:B}(h:VT t):Px.IsTy 4 t:=by
 obtain⟨T,rfl,h⟩:=h;exact Lj T 4 h
theorem VT.of{t:B}(h:∃c,Px.Ty 4 t c):VT t:=by
 obtain⟨c,h⟩:=h;exact Ae7 h
theorem VT.int:VT tInt:=⟨.int,rfl,by simp[Vv.Ty.dp]⟩
theorem VT.bool:VT tBool:=⟨.bool,rfl,by simp[Vv.Ty.dp]⟩
theorem VT.text:VT tText:=⟨.text,rfl,by simp[Vv.Ty.dp]⟩
theorem elT_vt{t:B}(h:(Vv.elT t).2=true):VT (Vv.elT t).1:=by
 unfold Vv.elT at h ⊢;split at h
 .rename_i T e;have:=((Vv.tyOf_iff _ _).1 e).2;simp only[Vv.Ty.dp] at this;exact⟨T,rfl,by omega⟩
 .cases h
theorem mpT_vt{t:B}(h:(Vv.mpT t).2.2=true):VT (Vv.mpT t).1/\VT (Vv.mpT t).2.1:=by
 unfold Vv.mpT at h ⊢;split at h
 .rename_i k T e;have:=((Vv.tyOf_iff _ _).1 e).2;simp only[Vv.Ty.dp] at this;exact⟨⟨Vv.keyTy k,Vv.keyTy_T k,by rw[Vv.keyTy_dp];omega⟩,⟨T,rfl,by omega⟩⟩
 .cases h
theorem X3{t:B}(h:(within t).2.2=true):VT (within t).1/\VT (within t).2.1:=by
 unfold within at h ⊢;split
 .rename_i e;exact⟨VT.int,elT_vt e⟩
 .rename_i e;rw[if_neg e] at h;exact mpT_vt h
theorem Ae8{k:Nat}{t:B}(ht:VT t):VT (sig k t).1:=by
 unfold sig;split
 .exact VT.int
 .split
  .exact VT.bool
  .split
   .exact ht
   .exact VT.text
theorem Al4{o:Nat}{t:B}(ht:VT t):VT (operated o t).1:=by
 unfold operated;split
 .exact ht
 .split
  .exact VT.bool
  .split
   .exact VT.bool
   .split
    .exact ht
    .exact ht
mutual
def ClE(sts:List B)(hs:List Hd)(n:Nat)(ls:List B):CE->Prop
 | .mk k o nn t s y args=>VT y/\(k=3\/t=[])/\k≠6/\(k=4->ls[s]?=some y)/\(k=5->sts[s]?=some y)/\(k=7->s<n/\∃h,hs[s]?=some h/\h.on=false/\h.result=y/\args.map CE.type=h.params)/\ClEs sts hs n ls args
def ClEs(sts:List B)(hs:List Hd)(n:Nat)(ls:List B):List CE->Prop
 | []=>True
 | e :: r=>ClE sts hs n ls e/\ClEs sts hs n ls r
end
mutual
def ClS(sts:List B)(hs:List Hd)(n:Nat)(ls:List B):CS->Prop
 | .mk k s f num es b c=>ClEs sts hs n ls es/\(k=4\/k=6\/(f=true/\s<sts.length)\/(f=false/\s<ls.length))/\ClSs sts hs n ls b/\ClSs sts hs n ls c
def ClSs(sts:List B)(hs:List Hd)(n:Nat)(ls:List B):List CS->Prop
 | []=>True
 | e :: r=>ClS sts hs n ls e/\ClSs sts hs n ls r
end
theorem Rw{α:Type}{l m:List α}{x:α}(h:l[i]?=some x):(l ++ m)[i]?=some x:=by
 rw[List.getElem?_append_left (List.getElem?_eq_some_iff.1 h).1];exact h
mutual
theorem ClE.more{sts:List B}{hs:List Hd}{n:Nat}{ls:List B}(m:List B):∀{e:CE},ClE sts hs n ls e->ClE sts hs n (ls ++ m) e
 | .mk k o nn t s y args,h=>by
  rw[ClE] at h ⊢;obtain⟨h1,h2,h3,h4,h5,h6,h7⟩:=h;exact⟨h1,h2,h3,λ e=>Rw (h4 e),h5,h6,ClEs.more m h7⟩
theorem ClEs.more{sts:List B}{hs:List Hd}{n:Nat}{ls:List B}(m:List B):∀{l:List CE},ClEs sts hs n ls l->ClEs sts hs n (ls ++ m) l
 | [],h=>by rw[ClEs];trivial
 | e :: r,h=>by
  rw[ClEs] at h ⊢;exact⟨ClE.more m h.1,ClEs.more m h.2⟩
end
mutual
theorem ClS.more{sts:List B}{hs:List Hd}{n:Nat}{ls:List B}(m:List B):∀{e:CS},ClS sts hs n ls e->ClS sts hs n (ls ++ m) e
 | .mk k s f num es b c,h=>by
  rw[ClS] at h ⊢;obtain⟨h1,h2,h3,h4⟩:=h;exact⟨h1.more m,by rcases h2 with h2 | h2 | h2 | h2;exact AI h2;exact AJ (AI h2);exact AJ (AJ (AI h2));exact AJ (AJ (AJ ⟨h2.1,by simp;omega⟩)),ClSs.more m h3,ClSs.more m h4⟩
theorem ClSs.more{sts:List B}{hs:List Hd}{n:Nat}{ls:List B}(m:List B):∀{l:List CS},ClSs sts hs n ls l->ClSs sts hs n (ls ++ m) l
 | [],h=>by rw[ClSs];trivial
 | e :: r,h=>by
  rw[ClSs] at h ⊢;exact⟨ClS.more m h.1,ClSs.more m h.2⟩
end
theorem ClE.vt{sts:List B}{hs:List Hd}{n:Nat}{ls:List B}{e:CE}(h:ClE sts hs n ls e):VT e.type:=by
 obtain⟨k,o,nn,t,s,y,args⟩:=e;rw[ClE] at h;exact h.1
def MOk(sts ls:List B)(m:Mng):Prop:=(m.kind=1/\sts[m.slot]?=some m.type/\VT m.type)\/m.kind=2\/((m.kind=3\/m.kind=4)/\ls[m.slot]?=some m.type/\VT m.type)
def Dr(sts ls:List B)(env:Env):Prop:=∀x∈env,MOk sts ls x.2
theorem Dr.more{sts ls:List B}{env:Env}(h:Dr sts ls env)(m:List B):Dr sts (ls ++ m) env:=λ x hx=>by
 rcases h x hx with h | h | h
 .exact AI h
 .exact AJ (AI h)
 .exact AJ (AJ ⟨h.1,Rw h.2.1,h.2.2⟩)
theorem look_ok{sts ls:List B}:∀{env:Env},Dr sts ls env->∀x,(look env x).kind≠0->MOk sts ls (look env x)
 | [],h,x,h0=>by simp[look,Mng.no] at h0
 |(n,m) :: r,h,x,h0=>by
  rw[look] at h0 ⊢;split
  .exact h (n,m) (AC ..)
  .rename_i e;rw[if_neg e] at h0;exact look_ok (λ y hy=>h y (AH _ hy)) x h0
structure HOk(sts:List B)(hs:List Hd):Prop where
 res:∀h∈hs,VT h.result
theorem bd{α β:Type}{r:R α}{f:α->R β}{y:β}(h:bind r f=.inl y):∃x,r=.inl x/\f x=.inl y:=by
 rcases r with x | e
 .exact⟨x,rfl,h⟩
 .cases h
theorem nd{c:Bool}{er:Nat}{u:Unit}(h:need c p er=.inl u):c=true:=by
 cases c
 .cases h
 .rfl
mutual
def NoE:Ex->Prop
 | .mk k o n t args p=>k≠4/\k≠5/\Lk args
def Lk:List Ex->Prop
 | []=>True
 | x :: r=>NoE x/\Lk r
end
mutual
def NoS:St->Prop
 | .mk k n es b c p=>(k=1\/k=2\/k=3\/k=4\/k=5\/k=6)/\Lk es/\Ll b/\Ll c
def Ll:List St->Prop
 | []=>True
 | x :: r=>NoS x/\Ll r
end
abbrev Good(sts:List B)(hs:List Hd)(n:Nat)(ls:List B)(r:R CE):Prop:=∀y,r=.inl y->ClE sts hs n ls y
def Jh(sts:List B)(hs:List Hd)(n:Nat)(ls:List B):List Q->Prop
 | []=>True
 | q :: r=>Good sts hs n ls q.1/\Jh sts hs n ls r
theorem Jh.arg{sts:List B}{hs:List Hd}{n:Nat}{ls:List B}:∀{l:List Q} (i:Nat),Jh sts hs n ls l->Good sts hs n ls (arg l i).1
 | [],i,h,y,e=>by simp[Ck.arg] at e
 | q :: r,0,h,y,e=>h.1 y e
 | q :: r,i+1,h,y,e=>Jh.arg i h.2 y (by simpa [Ck.arg] using e)
theorem Bq{sts:List B}{hs:List Hd}{n:Nat}{ls:List B}{q:Q}(h:Good sts hs n ls q.1){t:B}{y:CE}(e:asked q t=.inl y):ClE sts hs n ls y/\y.type=t:=by
 obtain⟨x,h1,e⟩:=bd e;obtain⟨_,h2,e⟩:=bd e;have h3:=nd h2;cases e;exact⟨h _ h1,by simpa using h3⟩
theorem Rx{sts:List B}{hs:List Hd}{n:Nat}{ls:List B}:∀{l:List Q} {ts:List B} {xs:List CE},Jh sts hs n ls l->l.length=ts.length->all l ts=.inl xs->ClEs sts hs n ls xs/\xs.map CE.type=ts
 | [],[],xs,h,hl,e=>by
  simp[all] at e;subst e;exact⟨by rw[ClEs];trivial,rfl⟩
 | q :: r,t :: ts,xs,h,hl,e=>by
  rw[all] at e;obtain⟨x,h1,e⟩:=bd e;obtain⟨ys,h2,e⟩:=bd e;cases e;obtain⟨a1,a2⟩:=Bq h.1 h1;obtain⟨b1,b2⟩:=Rx h.2 (by simpa using hl) h2;exact⟨by rw[ClEs];exact⟨a1,b1⟩,by simp[a2,b2]⟩
theorem cle_nil{sts:List B}{hs:List Hd}{n:Nat}{ls:List B}:ClEs sts hs n ls []:=by rw[ClEs];trivial
theorem Dl{sts:List B}{hs:List Hd}{n:Nat}{ls:List B}{x:CE}(h:ClE sts hs n ls x):ClEs sts hs n ls [x]:=by rw[ClEs];exact⟨h,cle_nil⟩
theorem Jw{sts:List B}{hs:List Hd}{n:Nat}{ls:List B}{x y:CE}(h:ClE sts hs n ls x)(k:ClE sts hs n ls y):ClEs sts hs n ls [x,y]:=by rw[ClEs];exact⟨h,Dl k⟩
theorem Ae9(t:B):bkind t=0\/bkind t=8\/bkind t=9\/bkind t=10\/bkind t=11:=by
 unfold bkind
 repeat' split
 all_goals simp
theorem cle_mk{sts:List B}{hs:List Hd}{n:Nat}{ls:List B}{k o nn s:Nat}{y:B}{args:List CE}(hy:VT y)(h6:k≠6)(h4:k≠4)(h5:k≠5)(h7:k≠7)(ha:ClEs sts hs n ls args):ClE sts hs n ls (.mk k o nn [] s y args):=by
 rw[ClE];exact⟨hy,AJ rfl,h6,λ e=>absurd e h4,λ e=>absurd e h5,λ e=>absurd e h7,ha⟩
theorem Nq{sts ls:List B}{c:Cx}(he:Dr sts ls c.env)(hh:HOk sts c.heads)(hn:c.number<=c.heads.length){k o nn:Nat}{t:B}{qs:List Q}(h4:k≠4)(h5:k≠5)(hq:Jh sts c.heads c.number ls qs):Good sts c.heads c.number ls (comb c k o nn t p qs):=by
 intro y e;unfold comb at e;split at e
 .cases e;exact cle_mk VT.int (by decide) (by decide) (by decide) (by decide) cle_nil
 split at e
 .cases e;exact cle_mk VT.bool (by decide) (by decide) (by decide) (by decide) cle_nil
 split at e
 .cases e
  rw[ClE];exact⟨VT.text,AI rfl,by decide,by simp,by simp,by simp,cle_nil⟩
 split at e
 .obtain⟨_,h1,e⟩:=bd e;have h2:=nd h1;simp at h2;cases e;have hm:=look_ok he t h2.1;rw[ClE];split
  .rename_i k1;rcases hm with h | h | h
   .exact⟨h.2.2,AJ rfl,by decide,by simp,λ _=>h.2.1,by simp,cle_nil⟩
   .omega
   .omega
  .rename_i k1;rcases hm with h | h | h
   .exact absurd h.1 k1
   .exact absurd h h2.2
   .exact⟨h.2.2,AJ rfl,by decide,λ _=>h.2.1,by simp,by simp,cle_nil⟩
 split at e
 .split at e
  .obtain⟨_,h1,e⟩:=bd e;obtain⟨_,h2,e⟩:=bd e;obtain⟨_,h3,e⟩:=bd e;obtain⟨xs,h8,e⟩:=bd e;have h1:=nd h1;have h2:=nd h2;have h3:=nd h3;cases e;simp at h1 h2 h3;have a3:(look c.env t).slot<c.heads.length:=by omega
   have a0:c.heads[(look c.env t).slot]?=some c.heads[(look c.env t).slot]:=AN a3;have hD:c.heads.getD (look c.env t).slot ⟨false,[],[]⟩=c.heads[(look c.env t).slot]:=by rw[getD_eq_getElem?_getD,a0];rfl
   simp only[<-getD_eq_getElem?_getD,hD] at h2 h3 h8 ⊢;obtain⟨a1,a2⟩:=Rx hq h3 h8;rw[ClE];exact⟨hh.res _ (List.getElem_mem a3),AJ rfl,by decide,by simp,by simp,λ _=>⟨h1.2,_,a0,h2,rfl,a2⟩,a1⟩
  .rename_i hb;have hk:=Ae9 t;obtain⟨_,h1,e⟩:=bd e;obtain⟨x,h2,e⟩:=bd e;obtain⟨_,h3,e⟩:=bd e;have g0:=hq.arg 0 x h2;split at e
   .obtain⟨y',h8,e⟩:=bd e;cases e;exact cle_mk (Ae8 g0.vt) (by omega) (by omega) (by omega) (by omega) (Jw g0 (Bq (hq.arg 1) h8).1)
   .cases e
    exact cle_mk (Ae8 g0.vt) (by omega) (by omega) (by omega) (by omega) (Dl g0)
 split at e
 .obtain⟨x,h2,e⟩:=bd e;obtain⟨_,h3,e⟩:=bd e;obtain⟨y',h8,e⟩:=bd e;have h3:=nd h3;cases e;exact cle_mk (X3 h3).2 (by decide) (by decide) (by decide) (by decide) (Jw (hq.arg 0 x h2) (Bq (hq.arg 1) h8).1)
 split at e
 .obtain⟨x,h2,e⟩:=bd e;cases e;rename_i hk;exact cle_mk VT.int (by omega) (by omega) (by omega) (by omega) (Dl (Bq (hq.arg 0) h2).1)
 split at e
 .obtain⟨x,h2,e⟩:=bd e;cases e;rename_i hk;exact cle_mk VT.bool (by omega) (by omega) (by omega) (by omega) (Dl (Bq (hq.arg 0) h2).1)
 .obtain⟨x,h1,e⟩:=bd e;obtain⟨y',h2,e⟩:=bd e;obtain⟨_,h3,e⟩:=bd e;cases e;exact cle_mk (Al4 (hq.arg 0 x h1).vt) (by assumption) h4 h5 (by assumption) (Jw (hq.arg 0 x h1) (hq.arg 1 y' h2))
mutual
theorem Au8{sts ls:List B}{c:Cx}(he:Dr sts ls c.env)(hh:HOk sts c.heads)(hn:c.number<=c.heads.length):∀x:Ex,NoE x->Good sts c.heads c.number ls (cE c x)
 | .mk k o n t args p,h=>by
  rw[NoE] at h;rw[cE];exact Nq he hh hn h.1 h.2.1 (H8 he hh hn args h.2.2)
theorem H8{sts ls:List B}{c:Cx}(he:Dr sts ls c.env)(hh:HOk sts c.heads)(hn:c.number<=c.heads.length):∀l:List Ex,Lk l->Jh sts c.heads c.number ls (cEs c l)
 | [],_=>by rw[cEs];trivial
 | .mk k o n t args p :: r,h=>by
  rw[Lk,NoE] at h;rw[cEs];refine⟨?_,H8 he hh hn r h.2⟩;show Good _ _ _ _ (cE c _);rw[cE];exact Nq he hh hn h.1.1 h.1.2.1 (H8 he hh hn args h.1.2.2)
end
theorem Ub{sts ls:List B}{env:Env}{n:B}{kind:Nat}{t:B}(hk:kind=3\/kind=4)(ht:VT t)(he:Dr sts ls env){e:Env × List B}(h:loc env ls n p kind t=.inl e):e.2=ls ++ [t]/\Dr sts e.2 e.1:=by
 obtain⟨e1,h1,h⟩:=bd h;obtain⟨_,h2,h⟩:=bd h;obtain⟨_,h3,h1⟩:=bd h1;cases h1;cases h;refine⟨rfl,λ x hx=>?_⟩;rcases mem_append.1 hx with hx | hx
 .exact he.more [t] x hx
 .simp at hx;subst hx;exact AJ (AJ ⟨hk,by simp,ht⟩)
theorem V2{sts ls:List B}{env:Env}{n:B}{m:Mng}(he:Dr sts ls env)(h:targ env n p=.inl m):(m.kind=1/\m.slot<sts.length/\VT m.type)\/(m.kind=3/\m.slot<ls.length/\VT m.type):=by
 obtain⟨_,h1,h⟩:=bd h;obtain⟨_,h2,h⟩:=bd h;have h1:=nd h1;have h2:=nd h2;simp at h1 h2;cases h;rcases look_ok he n h1 with h | h | h
 .exact AI ⟨h.1,(AK h.2.1).1,h.2.2⟩
 .omega
 .exact AJ ⟨by omega,(AK h.2.1).1,h.2.2⟩
theorem cls_nil{sts:List B}{hs:List Hd}{n:Nat}{ls:List B}:ClSs sts hs n ls []:=by rw[ClSs];trivial
def SG(sts:List B)(hs:List Hd)(n:Nat)(ls:List B)(x:CS)(env':Env)(ls':List B):Prop:=(∃m,ls'=ls ++ m)/\Dr sts ls' env'/\ClS sts hs n ls' x
theorem Iu{sts ls:List B}{m:Mng}(h:(m.kind=1/\m.slot<sts.length/\VT m.type)\/(m.kind=3/\m.slot<ls.length/\VT m.type)){k:Nat}:k=4\/k=6\/((m.kind == 1)=true/\m.slot<sts.length)\/((m.kind == 1)=false/\m.slot<ls.length):=by
 rcases h with h | h
 .exact AJ (AJ (AI ⟨by rw[h.1];rfl,h.2.1⟩))
 .exact AJ (AJ (AJ ⟨by rw[h.1];rfl,h.2.1⟩))
mutual
theorem Al5{sts:List B}{k:Kx}(hh:HOk sts k.heads)(hn:k.number<=k.heads.length):∀(s:St) (env:Env) (ls:List B) (r:St1),Dr sts ls env->NoS s->cS k env ls s=.inl r->SG sts k.heads k.number ls r.1 r.2.1 r.2.2
 | .mk kind n es body other p,env,ls,r,he,hs,e=>by
  rw[NoS] at hs;obtain⟨hk,h1,h2,h3⟩:=hs;have hq:Jh sts k.heads k.number ls (cEs (k.at env) es):=H8 (c:=k.at env) he hh hn es h1;rw[cS] at e;split at e
  .obtain⟨x,a1,e⟩:=bd e;obtain⟨e1,a2,e⟩:=bd e;cases e;have g:=hq.arg 0 x a1;obtain⟨b1,b2⟩:=Ub (AI rfl) g.vt he a2;refine⟨⟨_,b1⟩,b2,?_⟩;show ClS sts k.heads k.number e1.2 _;rw[ClS,b1];exact⟨Dl (g.more _),AJ (AJ (AJ ⟨rfl,by simp⟩)),cls_nil,cls_nil⟩
  split at e
  .obtain⟨m,a1,e⟩:=bd e;have hm:=V2 he a1;split at e
   .obtain⟨x,a2,e⟩:=bd e;cases e;refine⟨⟨[],by simp⟩,he,?_⟩;rw[ClS];exact⟨Dl (Bq (hq.arg 0) a2).1,Iu hm,cls_nil,cls_nil⟩
   .obtain⟨_,a2,e⟩:=bd e;obtain⟨x,a3,e⟩:=bd e;obtain⟨y,a4,e⟩:=bd e;cases e;refine⟨⟨[],by simp⟩,he,?_⟩;rw[ClS];exact⟨Jw (Bq (hq.arg 0) a3).1 (Bq (hq.arg 1) a4).1,Iu hm,cls_nil,cls_nil⟩
  split at e
  .obtain⟨m,a1,e⟩:=bd e;have hm:=V2 he a1;obtain⟨_,a2,e⟩:=bd e;obtain⟨x,a3,e⟩:=bd e;cases e;refine⟨⟨[],by simp⟩,he,?_⟩;rw[ClS];exact⟨Dl (Bq (hq.arg 0) a3).1,Iu hm,cls_nil,cls_nil⟩
  split at e
  .obtain⟨x,a1,e⟩:=bd e;obtain⟨a,a2,e⟩:=bd e;obtain⟨b,a3,e⟩:=bd e;cases e;obtain⟨⟨m1,b1⟩,b2,b3⟩:=Fy hh hn body env ls a he h2 a2;obtain⟨⟨m2,c1⟩,c2,c3⟩:=Fy hh hn other env a.2.2 b (by rw[b1];exact he.more m1) h3 a3;have hl:b.2.2=ls ++ (m1 ++ m2):=by rw[c1,b1,append_assoc]
   refine⟨⟨_,hl⟩,by show Dr sts b.2.2 env;rw[hl];exact he.more _,?_⟩;show ClS sts k.heads k.number b.2.2 _;rw[ClS];refine⟨?_,AI rfl,?_,c3⟩
   .rw[hl];exact Dl ((Bq (hq.arg 0) a1).1.more _)
   .rw[c1];exact b3.more m2
  split at e
  .obtain⟨x,a1,e⟩:=bd e;obtain⟨e1,a2,e⟩:=bd e;obtain⟨a,a3,e⟩:=bd e;cases e;obtain⟨b1,b2⟩:=Ub (AJ rfl) VT.int he a2;obtain⟨⟨m1,c1⟩,c2,c3⟩:=Fy hh hn body e1.1 e1.2 a b2 h2 a3;have hl:a.2.2=ls ++ ([tInt] ++ m1):=by rw[c1,b1,append_assoc]
   refine⟨⟨_,hl⟩,by show Dr sts a.2.2 env;rw[hl];exact he.more _,?_⟩;show ClS sts k.heads k.number a.2.2 _;rw[ClS];refine⟨?_,AJ (AJ (AJ ⟨rfl,by rw[hl];simp⟩)),c3,cls_nil⟩;rw[hl];exact Dl ((Bq (hq.arg 0) a1).1.more _)
  .obtain⟨x,a1,e⟩:=bd e;cases e;refine⟨⟨[],by simp⟩,he,?_⟩;rw[ClS];exact⟨Dl (Bq (hq.arg 0) a1).1,AJ (AI (by omega)),cls_nil,cls_nil⟩
theorem Fy{sts:List B}{k:Kx}(hh:HOk sts k.heads)(hn:k.number<=k.heads.length):∀(l:List St) (env:Env) (ls:List B) (r:List CS × Env × List B),Dr sts ls env->Ll l->cSs k env ls l=.inl r->(∃m,r.2.2=ls ++ m)/\Dr sts r.2.2 r.2.1/\ClSs sts k.heads k.number r.2.2 r.1
 | [],env,ls,r,he,_,e=>by
  rw[cSs] at e;cases e;exact⟨⟨[],by simp⟩,he,cls_nil⟩
 | s :: l,env,ls,r,he,hs,e=>by
  rw[Ll] at hs;rw[cSs] at e;obtain⟨a,a1,e⟩:=bd e;obtain⟨b,a2,e⟩:=bd e;cases e;obtain⟨⟨m1,b1⟩,b2,b3⟩:=Al5 hh hn s env ls a he hs.1 a1;obtain⟨⟨m2,c1⟩,c2,c3⟩:=Fy hh hn l a.2.1 a.2.2 b b2 hs.2 a2;refine⟨⟨m1 ++ m2,by show b.2.2=_;rw[c1,b1,append_assoc]⟩,c2,?_⟩;show ClSs sts k.heads k.number b.2.2 _;rw[ClSs];exact⟨by rw[c1];exact b3.more m2,c3⟩
end
end Ck
namespace Ck
open Lx (B)
open Px (Ex St Sl Pr)
theorem Nr{sts:List B}:∀(l:List Sl) (env e:Env) (i:Nat),(∀(j:Nat) s,l[j]?=some s->sts[i+j]?=some s.type)->(∀s∈l,VT s.type)->Dr sts [] env->states env i l=.inl e->Dr sts [] e
 | [],env,e,i,h1,h2,he,h=>by cases h;exact he
 | s :: r,env,e,i,h1,h2,he,h=>by
  rw[states] at h;obtain⟨_,a1,h⟩:=bd h;obtain⟨e1,a2,h⟩:=bd h;obtain⟨_,a3,a2⟩:=bd a2;cases a2;refine Nr r _ e (i+1) (λ j s' hj=>by have:=h1 (j+1) s' (by simpa using hj);rw[show i+1+j=i+(j+1) by omega];exact this) (λ s' hs=>h2 s' (AH _ hs)) (λ x hx=>?_) h;rcases mem_append.1 hx with hx | hx
  .exact he x hx
  .simp at hx;subst hx;exact AI ⟨rfl,by have:=h1 0 s rfl;simpa using this,h2 s (AC ..)⟩
theorem Af0{sts:List B}:∀(l:List Px.Fn) (env e:Env) (i:Nat),Dr sts [] env->fns env i l=.inl e->Dr sts [] e
 | [],env,e,i,he,h=>by cases h;exact he
 | f :: r,env,e,i,he,h=>by
  rw[fns] at h;obtain⟨_,a1,h⟩:=bd h;obtain⟨e1,a2,h⟩:=bd h;obtain⟨_,a4,h⟩:=bd h;obtain⟨_,a3,a2⟩:=bd a2;cases a2;refine Af0 r _ e (i+1) (λ x hx=>?_) h;rcases mem_append.1 hx with hx | hx
  .exact he x hx
  .simp at hx;subst hx;exact AJ (AI rfl)
theorem V3{sts:List B}:∀(l:List Sl) (env:Env) (ls:List B) (e:Env × List B),(∀s∈l,VT s.type)->Dr sts ls env->locs env ls l=.inl e->e.2=ls ++ l.map (·.type)/\Dr sts e.2 e.1
 | [],env,ls,e,h2,he,h=>by cases h;exact⟨by simp,he⟩
 | s :: r,env,ls,e,h2,he,h=>by
  rw[locs] at h;obtain⟨e1,a1,h⟩:=bd h;obtain⟨b1,b2⟩:=Ub (AI rfl) (h2 s (AC ..)) he a1;obtain⟨c1,c2⟩:=V3 r e1.1 e1.2 e (λ s' hs=>h2 s' (AH _ hs)) b2 h;exact⟨by rw[c1,b1];simp,c2⟩
structure FnCl(sts:List B)(hs:List Hd)(n:Nat)(f:Px.Fn)(x:CF):Prop where
 name:x.name=f.name
 on:x.on=f.on
 par:x.params=slots f.params
 res:x.result=f.result
 loc:∃m,x.locals=f.params.map (·.type) ++ m
 body:ClSs sts hs n x.locals x.body
theorem Au2{sts:List B}{hs:List Hd}(hh:HOk sts hs)(hi:i<=hs.length){env:Env}(he:Dr sts [] env){f:Px.Fn}(hp:∀s∈f.params,VT s.type)(hb:Ll f.body){x:CF}(h:fn hs env i f=.inl x):FnCl sts hs i f x:=by
 obtain⟨e,a1,h⟩:=bd h;obtain⟨a,a2,h⟩:=bd h;cases h;obtain⟨b1,b2⟩:=V3 f.params env [] e hp he a1;obtain⟨⟨m,c1⟩,c2,c3⟩:=Fy (k:=⟨i,hs,f.result⟩) hh hi f.body e.1 e.2 a b2 hb a2;exact⟨rfl,rfl,rfl,rfl,⟨m,by show a.2.2=_;rw[c1,b1];simp⟩,c3⟩
theorem Ns{sts:List B}{hs:List Hd}(hh:HOk sts hs){env:Env}(he:Dr sts [] env):∀(l:List Px.Fn) (i:Nat) (xs:List CF),i+l.length<=hs.length->(∀f∈l,(∀s∈f.params,VT s.type)/\Ll f.body)->bodies hs env i l=.inl xs->xs.length=l.length/\∀(j:Nat) x,xs[j]?=some x->∃f,l[j]?=some f/\FnCl sts hs (i+j) f x
 | [],i,xs,hi,hf,h=>by cases h;exact⟨rfl,λ j x hx=>by simp at hx⟩
 | f :: r,i,xs,hi,hf,h=>by
  rw[bodies] at h;obtain⟨x,a1,h⟩:=bd h;obtain⟨ys,a2,h⟩:=bd h;cases h;simp at hi;have h1:=hf f (AC ..);have c1:=Au2 hh (by omega) he h1.1 h1.2 a1;obtain⟨c2,c3⟩:=Ns hh he r (i+1) ys (by omega) (λ f' hf'=>hf f' (AH _ hf')) a2;refine⟨by simp[c2],λ j y hy=>?_⟩;rcases j with _ | j
  .simp at hy;subst hy;exact⟨f,rfl,c1⟩
  .obtain⟨f',k1,k2⟩:=c3 j y (by simpa using hy);exact⟨f',by simpa using k1,by rw[show i+(j+1)=i+1+j by omega];exact k2⟩
def chd(f:CF):Hd:=⟨f.on,f.params.map Prod.snd,f.result⟩
structure CpCl(p:Pr)(c:CP):Prop where
 version:c.version=p.version
 states:c.states.length=p.states.length
 fns:c.fns.length=p.fns.length
 fn:∀(n:Nat) f,c.fns[n]?=some f->(∃m,f.locals=f.params.map Prod.snd ++ m)/\ClSs (c.states.map Prod.snd) (c.fns.map chd) n f.locals f.body
structure PrW(p:Pr):Prop where
 st:∀s∈p.states,VT s.type
 res:∀f∈p.fns,VT f.result
 par:∀f∈p.fns,∀s∈f.params,VT s.type
 body:∀f∈p.fns,Ll f.body
theorem Iv(l:List Sl):(slots l).map Prod.snd=l.map (·.type):=by unfold slots;rw[map_map];rfl
theorem check_cl{p:Pr}(hp:PrW p){c:CP}(h:check p=.inl c):CpCl p c:=by
 obtain⟨_,a1,h⟩:=bd h;obtain⟨e1,a2,h⟩:=bd h;obtain⟨e2,a3,h⟩:=bd h;obtain⟨fs,a4,h⟩:=bd h;cases h;have h1:Dr (p.states.map (·.type)) [] e1:=Nr p.states [] e1 0 (λ j s hj=>by rw[List.getElem?_map,Nat.zero_add,hj];rfl) hp.st (λ x hx=>by cases hx) a2
 have h2:=Af0 p.fns e1 e2 0 h1 a3;have hh:HOk (p.states.map (·.type)) (p.fns.map hd):=⟨λ h hm=>by obtain⟨f,hf,rfl⟩:=mem_map.1 hm;exact hp.res f hf⟩
 obtain⟨b1,b2⟩:=Ns hh h2 p.fns 0 fs (by simp) (λ f hf=>⟨hp.par f hf,hp.body f hf⟩) a4;have a0:fs.map chd=p.fns.map hd:=by
  refine ext_getElem? λ j=>?_
  rw[List.getElem?_map,List.getElem?_map];rcases hj:fs[j]? with _ | x
  .rw[List.getElem?_eq_none_iff] at hj;rw[List.getElem?_eq_none_iff.2 (by omega)];rfl
  .obtain⟨f,k1,k2⟩:=b2 j x hj;rw[k1];simp only[Option.map_some,chd,hd,k2.on,k2.par,k2.res,Iv]
 refine⟨rfl,by simp[slots],b1,λ n f hf=>?_⟩;obtain⟨g,k1,k2⟩:=b2 n f hf;obtain⟨m,hm⟩:=k2.loc;refine⟨⟨m,by rw[k2.par,Iv];exact hm⟩,?_⟩;show ClSs ((slots p.states).map Prod.snd) (fs.map chd) n f.locals f.body;rw[Iv,a0];have:=k2.body;rw[Nat.zero_add] at this;exact this
end Ck
namespace Px
open Lx (Tok B)
mutual
def PlE(n:Nat):Ex->Prop
 | .mk _ _ _ _ a p=>p<=n/\Iw n a
def Iw(n:Nat):List Ex->Prop
 | []=>True
 | e :: r=>PlE n e/\Iw n r
end
mutual
def PlS(n:Nat):St->Prop
 | .mk _ _ es b c p=>p<=n/\Iw n es/\Hf n b/\Hf n c
def Hf(n:Nat):List St->Prop
 | []=>True
 | e :: r=>PlS n e/\Hf n r
end
def PlF(n:Nat)(f:Fn):Prop:=f.place<=n/\(∀s∈f.params,s.place<=n)/\Hf n f.body
def PlP(n:Nat)(p:Pr):Prop:=(∀s∈p.states,s.place<=n)/\∀f∈p.fns,PlF n f
theorem Iw.all{n:Nat}:∀{l:List Ex},Iw n l↔∀x∈l,PlE n x
 | []=>by simp[Iw]
 | e :: r=>by simp[Iw,Iw.all (l:=r)]
theorem Hf.all{n:Nat}:∀{l:List St},Hf n l↔∀x∈l,PlS n x
 | []=>by simp[Hf]
 | e :: r=>by simp[Hf,Hf.all (l:=r)]
theorem Ek{n k o:Nat}{t:B}{a:List Ex}(hp:p<=n)(ha:∀x∈a,PlE n x):PlE n (.mk k o m t a p):=by rw[PlE];exact⟨hp,Iw.all.2 ha⟩
theorem Ry{n:Nat}{x:Ex}(h:PlE n x):∀y∈[x],PlE n y:=λ y hy=>by simp at hy;subst hy;exact h
theorem Au3{n:Nat}{x z:Ex}(h:PlE n x)(k:PlE n z):∀y∈[x,z],PlE n y:=λ y hy=>by simp at hy;rcases hy with rfl | rfl;exact h;exact k
theorem Uc{n:Nat}:∀y∈([]:List Ex),PlE n y:=λ y hy=>by cases hy
theorem Lm{n:Nat}:∀y∈([]:List St),PlS n y:=λ y hy=>by cases hy
theorem Ix{n k:Nat}{t:B}{es:List Ex}{b c:List St}(hp:p<=n)(he:∀x∈es,PlE n x)(hb:∀x∈b,PlS n x)(hc:∀x∈c,PlS n x):PlS n (.mk k t es b c p):=by rw[PlS];exact⟨hp,Iw.all.2 he,Hf.all.2 hb,Hf.all.2 hc⟩
def LT(n:Nat)(l:List Tok):Prop:=∀t∈l,t.place<=n
theorem LT.tail{n:Nat}{l:List Tok}(h:LT n l):LT n l.tail:=λ t ht=>h t (mem_of_mem_tail ht)
theorem LT.place{n:Nat}{l:List Tok}(h:LT n l):Px.place l<=n:=by
 cases l with
 | nil=>exact AO _
 | cons t r=>exact h t (AC ..)
def BdR{α:Type}(n:Nat)(J:α->Prop)(r:R α):Prop:=∀x l,r=.inl (x,l)->J x/\LT n l
def BdP{α:Type}(n:Nat)(J:α->Prop)(q:P α):Prop:=∀l,LT n l->BdR n J (q l)
theorem BdR.bind{α β:Type}{n:Nat}{P:α->Prop}{Q:β->Prop}{r:R α}{f:α->List Tok->R β}(h:BdR n P r)(hf:∀x l,P x->LT n l->BdR n Q (f x l)):BdR n Q (Px.bind r f):=by
 rcases r with⟨x,l⟩ | e
 .obtain⟨h1,h2⟩:=h x l rfl;exact hf x l h1 h2
 .intro x l e;cases e
theorem BdR.pure{α:Type}{n:Nat}{P:α->Prop}{x:α}{l:List Tok}(h:P x)(t:LT n l):BdR n P (.inl (x,l)):=λ y m e=>by cases e;exact⟨h,t⟩
theorem BdR.fail{α:Type}{n:Nat}{P:α->Prop}{e:Nat}{l:List Tok}:BdR (α:=α) n P (Px.fail e l):=λ y m e=>by cases e
theorem BdR.bad{α:Type}{n:Nat}{P:α->Prop}{e:Nat × Nat}:BdR (α:=α) n P (.inr e):=λ y m e=>by cases e
abbrev Any{α:Type}:α->Prop:=λ _=>True
theorem Ln(n k:Nat)(x:B):BdP n (Any (α:=Unit)) (needK k x):=by
 intro l h;unfold needK;split
 .exact .pure trivial h.tail
 .exact .fail
theorem Bj(n:Nat)(x:B):BdP n (Any (α:=Unit)) (need x):=Ln n 4 x
theorem E8(n:Nat):BdP n (λ t:Tok=>t.place<=n) name:=by
 intro l h;cases l with
 | nil=>exact .fail
 | cons t r=>
  simp only[name];split
  .exact .pure (h t (AC ..)) (LT.tail h)
  .exact .fail
theorem X4(n:Nat):BdP n (Any (α:=Nat)) number:=by
 intro l h;cases l with
 | nil=>exact .fail
 | cons t r=>
  simp only[number];split
  .exact .pure trivial (LT.tail h)
  .exact .fail
theorem Ar3(n:Nat):BdP n (Any (α:=B)) key:=by
 intro l h;unfold key
 repeat' split
 .exact .pure trivial h.tail
 .exact .pure trivial h.tail
 .exact .fail
theorem Ph(n:Nat):∀k,BdP n (Any (α:=B)) (typ k)
 | 0=>λ _ _=>.fail
 | k+1=>by
  intro l h;simp only[typ]
  repeat' split
  .exact .pure trivial h.tail
  .exact .pure trivial h.tail
  .exact .pure trivial h.tail
  .exact (Ph n k _ h.tail).bind λ x _ _ h1=>(Bj n _ _ h1).bind λ _ _ _ h2=>.pure trivial h2
  .exact (Ar3 n _ h.tail).bind λ x _ _ h1=>(Bj n _ _ h1).bind λ _ _ _ h2=>(Ph n k _ h2).bind λ _ _ _ h3=>(Bj n _ _ h3).bind λ _ _ _ h4=>.pure trivial h4
  .exact .fail
theorem V4(n:Nat):BdP n (λ s:Sl=>s.place<=n) slot:=λ l h=>(E8 n _ h).bind λ x _ e h1=>(Bj n _ _ h1).bind λ _ _ _ h2=>(Ph n 4 _ h2).bind λ _ _ _ h3=>.pure e h3
theorem Ar4(n m:Nat):BdP n (Any (α:=Unit)) (sep m):=by
 intro l h;unfold sep;split
 .exact .pure trivial h
 .exact Bj n _ _ h
theorem Lp{α:Type}{n:Nat}{J:α->Prop}{q:P α}(hq:BdP n J q):∀(f m:Nat) (a:List α),(∀x∈a,J x)->BdP n (λ xs:List α=>∀x∈xs,J x) (items q f m a)
 | 0,_,_,_=>λ _ _=>.bad
 | f+1,m,a,ha=>λ l h=>by
  simp only[items];split
  .exact .pure ha h.tail
  .exact (Ar4 n m _ h).bind λ _ _ _ h1=>(hq _ h1).bind λ x _ e h2=>Lp hq f (m+1) _ (λ y hy=>by
    rcases mem_append.1 hy with hy | hy
    .exact ha y hy
    .simp at hy;subst hy;exact e) _ h2
theorem Rz{n m:Nat}{q:P Ex}(hq:BdP n (PlE n) q):∀(f c:Nat) (a:Ex),PlE n a->BdP n (PlE n) (chain m q f c a)
 | 0,_,_,_=>λ _ _=>.bad
 | f+1,c,a,ha=>λ l h=>by
  cases l with
  | nil=>exact .bad
  | cons t r=>
   simp only[chain];split
   .split
    .exact .fail
    .exact (hq _ (LT.tail h)).bind λ x _ e h1=>Rz hq f (c+1) _ (Ek (h t (AC ..)) (Au3 ha e)) _ h1
   .exact .pure ha h
theorem Fz{n:Nat}{q:P Ex}(hq:BdP n (PlE n) q):BdP n (PlE n) (level m q):=λ l h=>(hq _ h).bind λ x _ e h1=>Rz hq _ _ _ e _ h1
theorem Ud{n:Nat}{q:P Ex}(hq:BdP n (PlE n) q):BdP n (PlE n) (lvl q):=Fz (Fz (Fz (Fz (Fz hq))))
theorem Af1{n:Nat}{e:P Ex}(he:BdP n (PlE n) e):∀(f:Nat) (a:Ex),PlE n a->BdP n (PlE n) (ats e f a)
 | 0,_,_=>λ _ _=>.bad
 | f+1,a,ha=>λ l h=>by
  simp only[ats];split
  .exact (he _ h.tail).bind λ x _ e1 h1=>(Bj n _ _ h1).bind λ _ _ _ h2=>Af1 he f _ (Ek h.place (Au3 ha e1)) _ h2
  .exact .pure ha h
theorem Ue{n:Nat}{e:P Ex}(he:BdP n (PlE n) e):BdP n (PlE n) (primary e):=by
 intro l h;cases l with
 | nil=>exact .fail
 | cons t r=>
  have hp:=h t (AC ..);have hr:LT n r:=LT.tail h;simp only[primary];split
  .exact .pure (Ek hp Uc) hr
  split
  .exact .pure (Ek hp Uc) hr
  split
  .exact .pure (Ek hp Uc) hr
  split
  .exact .pure (Ek hp Uc) hr
  split
  .exact (he _ hr).bind λ x _ e1 h1=>(Bj n _ _ h1).bind λ _ _ _ h2=>.pure e1 h2
  .refine (E8 n _ h).bind λ t1 l1 e1 h1=>?_
   split
   .exact (Lp he _ _ _ Uc _ h1.tail).bind λ xs _ e2 h2=>.pure (Ek e1 e2) h2
   .exact .pure (Ek e1 Uc) h1
theorem F0(n:Nat):∀k,BdP n (PlE n) (unary k)
 | 0=>λ _ _=>.fail
 | k+1=>by
  intro l h;simp only[unary];split
  .exact (F0 n k _ h.tail).bind λ x _ e h1=>.pure (Ek h.place (Ry e)) h1
  split
  .exact (F0 n k _ h.tail).bind λ x _ e h1=>.pure (Ek h.place (Ry e)) h1
  .exact (Ue (Ud (F0 n k)) _ h).bind λ x _ e h1=>Af1 (Ud (F0 n k)) _ _ e _ h1
theorem Al6(n k:Nat):BdP n (PlE n) (Lt k):=Ud (F0 n k)
theorem Ar5{n:Nat}{e:P Ex}(he:BdP n (PlE n) e):BdP n (λ xs:List Ex=>∀x∈xs,PlE n x) (opt e):=by
 intro l h;unfold opt;split
 .exact (he _ h.tail).bind λ x _ e1 h1=>(Bj n _ _ h1).bind λ _ _ _ h2=>.pure (Ry e1) h2
 .exact .pure Uc h
abbrev SsP(n:Nat):List St->Prop:=λ xs=>∀x∈xs,PlS n x
theorem Af2{n:Nat}{b:P (List St)}(hb:BdP n (SsP n) b):BdP n (SsP n) (other b):=by
 intro l h;unfold other;split
 .exact hb _ h.tail
 .exact .pure Lm h
theorem Al7{n:Nat}{e:P Ex}{b:P (List St)}(he:BdP n (PlE n) e)(hb:BdP n (SsP n) b):BdP n (PlS n) (stmt e b):=by
 intro l h;have hp:=h.place;simp only[stmt];split
 .exact (E8 n _ h.tail).bind λ _ _ _ h0=>(Bj n _ _ h0).bind λ _ _ _ h1=>(he _ h1).bind λ _ _ e2 h2=>(Bj n _ _ h2).bind λ _ _ _ h3=>.pure (Ix hp (Ry e2) Lm Lm) h3
 split
 .exact (E8 n _ h.tail).bind λ _ _ _ h0=>(Ar5 he _ h0).bind λ _ _ e1 h1=>(Bj n _ _ h1).bind λ _ _ _ h2=>(he _ h2).bind λ _ _ e3 h3=>(Bj n _ _ h3).bind λ _ _ _ h4=>.pure (Ix hp (λ y hy=>by
   rcases mem_append.1 hy with hy | hy
   .exact e1 y hy
   .simp at hy;subst hy;exact e3) Lm Lm) h4
 split
 .exact (E8 n _ h.tail).bind λ _ _ _ h0=>(Bj n _ _ h0).bind λ _ _ _ h1=>(he _ h1).bind λ _ _ e2 h2=>(Bj n _ _ h2).bind λ _ _ _ h3=>(Bj n _ _ h3).bind λ _ _ _ h4=>.pure (Ix hp (Ry e2) Lm Lm) h4
 split
 .exact (he _ h.tail).bind λ _ _ e0 h0=>(hb _ h0).bind λ _ _ e1 h1=>(Af2 hb _ h1).bind λ _ _ e2 h2=>.pure (Ix hp (Ry e0) e1 e2) h2
 split
 .exact (E8 n _ h.tail).bind λ _ _ _ h0=>(Ln n _ _ _ h0).bind λ _ _ _ h1=>(he _ h1).bind λ _ _ e2 h2=>(hb _ h2).bind λ _ _ e3 h3=>.pure (Ix hp (Ry e2) e3 Lm) h3
 split
 .exact (he _ h.tail).bind λ _ _ e0 h0=>(Bj n _ _ h0).bind λ _ _ _ h1=>.pure (Ix hp (Ry e0) Lm Lm) h1
 .exact .fail
theorem R0{n:Nat}{q:P St}(hq:BdP n (PlS n) q):∀(f:Nat) (a:List St),(∀x∈a,PlS n x)->BdP n (SsP n) (stmts q f a)
 | 0,_,_=>λ _ _=>.bad
 | f+1,a,ha=>λ l h=>by
  simp only[stmts];split
  .exact .pure ha h.tail
  .exact (hq _ h).bind λ x _ e h1=>R0 hq f _ (λ y hy=>by
    rcases mem_append.1 hy with hy | hy
    .exact ha y hy
    .simp at hy;subst hy;exact e) _ h1
theorem R1(n:Nat):∀k,BdP n (SsP n) (block k)
 | 0=>λ _ _=>.fail
 | k+1=>λ l h=>(Bj n _ _ h).bind λ _ _ _ h1=>R0 (Al7 (Al6 n k) (R1 n k)) _ _ Lm _ h1
theorem Ji(n:Nat)(on:Bool):BdP n (PlF n) (function on):=λ l h=>
 (E8 n _ h).bind λ _ _ e0 h0=>(Bj n _ _ h0).bind λ _ _ _ h1=>
  (Lp (V4 n) _ _ _ (λ y hy=>by cases hy) _ h1).bind λ _ _ e2 h2=>(Bj n _ _ h2).bind λ _ _ _ h3=>(Ph n 4 _ h3).bind λ _ _ _ h4=>(R1 n 24 _ h4).bind λ _ _ e5 h5=>.pure ⟨e0,e2,Hf.all.2 e5⟩ h5
theorem H9(n:Nat):∀(f:Nat) (p:Pr),PlP n p->BdP n (PlP n) (parts f p)
 | 0,_,_=>λ _ _=>.bad
 | f+1,p,hp=>λ l h=>by
  cases l with
  | nil=>exact .bad
  | cons t r=>
   have hr:LT n r:=LT.tail h;have a0:∀g,PlF n g->PlP n { p with fns:=p.fns ++ [g] }:=λ g hg=>⟨hp.1,λ y hy=>by
    rcases mem_append.1 hy with hy | hy
    .exact hp.2 y hy
    .simp at hy;subst hy;exact hg⟩
   have a3:∀s:Sl,s.place<=n->PlP n { p with states:=p.states ++ [s] }:=λ s hs=>⟨λ y hy=>(by
    rcases mem_append.1 hy with hy | hy
    .exact hp.1 y hy
    .simp at hy;subst hy;exact hs),hp.2⟩
   simp only[parts];split
   .exact .pure hp h
   split
   .exact (V4 n _ hr).bind λ s _ e0 h0=>(Bj n _ _ h0).bind λ _ _ _ h1=>H9 n f _ (a3 s e0) _ h1
   split
   .exact (Ji n _ _ hr).bind λ g _ e0 h0=>H9 n f _ (a0 g e0) _ h0
   split
   .exact (Ji n _ _ hr).bind λ g _ e0 h0=>H9 n f _ (a0 g e0) _ h0
   .exact .fail
theorem program_bd(n:Nat):BdP n (PlP n) program:=λ l h=>
 (Ln n _ _ _ h).bind λ _ _ _ h0=>(X4 n _ h0).bind λ _ _ _ h1=>(Bj n _ _ h1).bind λ _ _ _ h2=>H9 n _ _ ⟨λ y hy=>(by cases hy),λ y hy=>(by cases hy)⟩ _ h2
end Px
namespace Ck
open Lx (B)
open Px (Ex St Sl Pr PlE Iw PlS Hf PlF PlP)
def Lo{α:Type}(n:Nat)(r:R α):Prop:=∀a e,r=.inr (a,e)->a<=n
theorem Lo.bind{α β:Type}{n:Nat}{r:R α}{f:α->R β}(h:Lo n r)(k:∀x,Lo n (f x)):Lo n (Ck.bind r f):=by
 rcases r with x | ⟨a,e⟩
 .exact k x
 .intro a' e' h';cases h';exact h a e rfl
theorem Lo.ok{α:Type}{n:Nat}{x:α}:Lo n (.inl x:R α):=λ a e h=>by cases h
theorem Lo.need{n e:Nat}{b:Bool}(h:p<=n):Lo n (Ck.need b p e):=by
 cases b
 .intro a e' h';cases h';exact h
 .exact .ok
def QLo(n:Nat)(q:Q):Prop:=Lo n q.1/\q.2<=n
def Pi(n:Nat):List Q->Prop
 | []=>True
 | q :: r=>QLo n q/\Pi n r
theorem Pi.arg{n:Nat}:∀{l:List Q} (i:Nat),Pi n l->QLo n (Ck.arg l i)
 | [],i,h=>by simp[Ck.arg];exact⟨λ a e h=>by cases h;exact AO _,AO _⟩
 | q :: r,0,h=>h.1
 | q :: r,i+1,h=>by have:=Pi.arg i h.2;simpa [Ck.arg] using this
theorem QLo.asked{n:Nat}{q:Q}(h:QLo n q)(t:B):Lo n (Ck.asked q t):=h.1.bind λ x=>(Lo.need h.2).bind λ _=>.ok
theorem Pi.all{n:Nat}:∀{l:List Q} (ts:List B),Pi n l->Lo n (Ck.all l ts)
 | [],ts,h=>by simp[Ck.all];exact .ok
 | q :: r,[],h=>by simp[Ck.all];exact .ok
 | q :: r,t :: ts,h=>by rw[Ck.all];exact (QLo.asked h.1 t).bind λ x=>(Pi.all ts h.2).bind λ xs=>.ok
theorem V5{n:Nat}(c:Cx)(k o m:Nat)(t:B)(hp:p<=n){l:List Q}(h:Pi n l):Lo n (Ck.comb c k o m t p l):=by
 unfold Ck.comb
 repeat' split
 .exact .ok
 .exact .ok
 .exact .ok
 .exact (Lo.need hp).bind λ _=>.ok
 .exact (Lo.need hp).bind λ _=>(Lo.need hp).bind λ _=>(Lo.need hp).bind λ _=>(h.all _).bind λ xs=>.ok
 .refine (Lo.need hp).bind λ _=>(h.arg 0).1.bind λ x=>(Lo.need (h.arg 0).2).bind λ _=>?_
  split
  .exact (QLo.asked (h.arg 1) _).bind λ y=>.ok
  .exact .ok
 .exact (h.arg 0).1.bind λ x=>(Lo.need hp).bind λ _=>(QLo.asked (h.arg 1) _).bind λ y=>.ok
 .exact (QLo.asked (h.arg 0) _).bind λ x=>.ok
 .exact (QLo.asked (h.arg 0) _).bind λ x=>.ok
 .exact (h.arg 0).1.bind λ x=>(h.arg 1).1.bind λ y=>(Lo.need hp).bind λ _=>.ok
mutual
theorem Av8{n:Nat}(c:Cx):∀x:Ex,PlE n x->Lo n (cE c x)
 | .mk k o m t args p,h=>by
  rw[PlE] at h;rw[cE];exact V5 c k o m t h.1 (Pj c args h.2)
theorem Pj{n:Nat}(c:Cx):∀l:List Ex,Iw n l->Pi n (cEs c l)
 | [],_=>by rw[cEs];trivial
 | .mk k o m t args p :: r,h=>by
  rw[Iw,PlE] at h;rw[cEs];refine⟨⟨?_,h.1.1⟩,Pj c r h.2⟩;show Lo n (cE c _);rw[cE];exact V5 c k o m t h.1.1 (Pj c args h.1.2)
end
theorem Uf{n:Nat}{env:Env}{ls:List B}{x:B}{kind:Nat}{t:B}(hp:p<=n):Lo n (Ck.loc env ls x p kind t):=
 ((Lo.need hp).bind λ _=>.ok:Lo n (Ck.note env x p _)).bind λ e=>(Lo.need hp).bind λ _=>.ok
theorem Pk{n:Nat}{env:Env}{x:B}(hp:p<=n):Lo n (Ck.targ env x p):=(Lo.need hp).bind λ _=>(Lo.need hp).bind λ _=>.ok
mutual
theorem Au4{n:Nat}(k:Kx)(env:Env)(ls:List B):∀s:St,PlS n s->Lo n (cS k env ls s)
 | .mk kind x es body other p,h=>by
  rw[PlS] at h;obtain⟨hp,he,hb,hc⟩:=h;have h:=Pj (k.at env) es he;rw[cS]
  repeat' split
  .exact (h.arg 0).1.bind λ x=>(Uf hp).bind λ e=>.ok
  .exact (Pk hp).bind λ m=>(QLo.asked (h.arg 0) _).bind λ x=>.ok
  .exact (Pk hp).bind λ m=>(Lo.need hp).bind λ _=>(QLo.asked (h.arg 0) _).bind λ x=>(QLo.asked (h.arg 1) _).bind λ y=>.ok
  .exact (Pk hp).bind λ m=>(Lo.need hp).bind λ _=>(QLo.asked (h.arg 0) _).bind λ x=>.ok
  .exact (QLo.asked (h.arg 0) _).bind λ x=>(Lq k env ls body hb).bind λ a=>(Lq k env a.2.2 other hc).bind λ b=>.ok
  .exact (QLo.asked (h.arg 0) _).bind λ x=>(Uf hp).bind λ e=>(Lq k e.1 e.2 body hb).bind λ a=>.ok
  .exact (QLo.asked (h.arg 0) _).bind λ x=>.ok
theorem Lq{n:Nat}(k:Kx)(env:Env)(ls:List B):∀l:List St,Hf n l->Lo n (cSs k env ls l)
 | [],_=>.ok
 | s :: r,h=>by
  rw[Hf] at h;rw[cSs];exact (Au4 k env ls s h.1).bind λ a=>(Lq k a.2.1 a.2.2 r h.2).bind λ b=>.ok
end
theorem Nt{n:Nat}:∀(l:List Sl) (env:Env) (i:Nat),(∀s∈l,s.place<=n)->Lo n (Ck.states env i l)
 | [],env,i,_=>.ok
 | s :: r,env,i,h=>by
  have hp:=h s (AC ..);rw[Ck.states];exact (Lo.need hp).bind λ _=>Lo.bind ((Lo.need hp).bind λ _=>.ok) λ e=>Nt r e (i+1) (λ y hy=>h y (AH _ hy))
theorem Nu{n:Nat}:∀(l:List Sl) (i:Nat),(∀s∈l,s.place<=n)->Lo n (Ck.params i l)
 | [],i,_=>.ok
 | s :: r,i,h=>by
  rw[Ck.params];exact (Lo.need (h s (AC ..))).bind λ _=>Nu r (i+1) (λ y hy=>h y (AH _ hy))
theorem Af3{n:Nat}:∀(l:List Px.Fn) (env:Env) (i:Nat),(∀f∈l,PlF n f)->Lo n (Ck.fns env i l)
 | [],env,i,_=>.ok
 | f :: r,env,i,h=>by
  have hp:=h f (AC ..);rw[Ck.fns];exact (Lo.need hp.1).bind λ _=>Lo.bind ((Lo.need hp.1).bind λ _=>.ok) λ e=>(Nu f.params 0 hp.2.1).bind λ _=>Af3 r e (i+1) (λ y hy=>h y (AH _ hy))
theorem V6{n:Nat}:∀(l:List Sl) (env:Env) (ls:List B),(∀s∈l,s.place<=n)->Lo n (Ck.locs env ls l)
 | [],env,ls,_=>.ok
 | s :: r,env,ls,h=>by
  rw[Ck.locs];exact (Uf (h s (AC ..))).bind λ e=>V6 r e.1 e.2 (λ y hy=>h y (AH _ hy))
theorem Nv{n:Nat}(hs:List Hd)(env:Env):∀(l:List Px.Fn) (i:Nat),(∀f∈l,PlF n f)->Lo n (Ck.bodies hs env i l)
 | [],i,_=>.ok
 | f :: r,i,h=>by
  have hp:=h f (AC ..);rw[Ck.bodies];exact Lo.bind ((V6 f.params env [] hp.2.1).bind λ e=>(Lq _ e.1 e.2 f.body hp.2.2).bind λ a=>.ok) λ x=>(Nv hs env r (i+1) (λ y hy=>h y (AH _ hy))).bind λ xs=>.ok
theorem check_lo{n:Nat}{p:Pr}(h:PlP n p):Lo n (Ck.check p):=
 (Lo.need (AO _)).bind λ _=>(Nt p.states [] 0 h.1).bind λ e1=>(Af3 p.fns e1 0 h.2).bind λ e2=>(Nv _ e2 p.fns 0 h.2).bind λ fs=>.ok
end Ck
namespace Ck
open Px (Ex St Sl Pr WfE WfEs WfS Cg WfP Gn FormS)
mutual
theorem Af4{V:Nat->Lx.B->Nat->Prop}:∀{x:Ex},WfE V x->NoE x
 | .mk k o n t args p,h=>by
  rw[WfE] at h;rw[NoE];obtain⟨hf,ha⟩:=h;rcases hf with⟨rfl,_⟩ | ⟨rfl,_⟩ | ⟨rfl,_⟩ | ⟨rfl,_⟩ | ⟨rfl,_⟩ | ⟨rfl,_⟩ | ⟨rfl | rfl,_⟩ | ⟨rfl,_⟩ <;> exact⟨by decide,by decide,V7 ha⟩
theorem V7{V:Nat->Lx.B->Nat->Prop}:∀{l:List Ex},WfEs V l->Lk l
 | [],_=>by rw[Lk];trivial
 | x :: r,h=>by
  rw[WfEs] at h;rw[Lk];exact⟨Af4 h.1,V7 h.2⟩
end
theorem R2{V:Nat->Lx.B->Nat->Prop}:∀{l:List Ex},(∀e∈l,WfE V e)->Lk l
 | [],_=>by rw[Lk];trivial
 | x :: r,h=>by
  rw[Lk];exact⟨Af4 (h x (AC ..)),R2 λ y hy=>h y (AH _ hy)⟩
mutual
theorem Ar6{V:Nat->Lx.B->Nat->Prop}:∀{x:St},WfS V x->NoS x
 | .mk k n es b c p,h=>by
  rw[WfS] at h;rw[NoS];obtain⟨hf,h1,h2,h3⟩:=h;refine⟨?_,R2 h1,Jx h2,Jx h3⟩;rcases hf with⟨rfl,_⟩ | ⟨rfl,_⟩ | ⟨rfl,_⟩ | ⟨rfl,_⟩ | ⟨rfl,_⟩ | ⟨rfl,_⟩ <;> simp
theorem Jx{V:Nat->Lx.B->Nat->Prop}:∀{l:List St},Cg V l->Ll l
 | [],_=>by rw[Ll];trivial
 | x :: r,h=>by
  rw[Cg] at h;rw[Ll];exact⟨Ar6 h.1,Jx h.2⟩
end
theorem prW_of{V:Nat->Lx.B->Nat->Prop}{p:Pr}(h:WfP V p):PrW p where
 st:=λ s hs=>.of (h.2.1 s hs).2
 res:=λ f hf=>.of (h.2.2 f hf).2.2.1
 par:=λ f hf s hs=>.of ((h.2.2 f hf).2.1 s hs).2
 body:=λ f hf=>Jx (h.2.2 f hf).2.2.2.1
theorem gType_vt{t:Lx.B}(h:VT t):gType t=true:=by
 unfold gType;rw[if_pos h.is]
theorem tyT_len:∀T:Vv.Ty,(Vv.tyT T).length<=7*T.dp
 | .int=>by simp[Vv.tyT,Vv.Ty.dp]
 | .bool=>by simp[Vv.tyT,Vv.Ty.dp]
 | .text=>by simp[Vv.tyT,Vv.Ty.dp]
 | .list T=>by have:=tyT_len T;simp[Vv.tyT,Vv.Ty.dp];omega
 | .map a T=>by have:=tyT_len T;cases a <;> simp[Vv.tyT,Vv.keyT,Vv.Ty.dp] <;> omega
theorem VT.len{t:Lx.B}(h:VT t):t.length<=28:=by
 obtain⟨T,rfl,h⟩:=h;have:=tyT_len T;omega
theorem read_low{l:AQ}{p:Pr}(h:Px.parse l=.inl p):Px.PlP l.length p:=by
 unfold Px.parse at h;split at h
 .cases h
 .rename_i ts ht;split at h
  .rename_i p' r hp;cases h;have a3:=(C6 ht).2;have a0:=ht;unfold Lx.lex at a0;rw[if_neg (by omega)] at a0;have:=Q8 true l (l.length+1) 0 0 ts (by omega) (by omega) (by simpa using a0);exact (Px.program_bd l.length ts (λ t ht=>(this t ht).2) _ _ hp).1
  .cases h
end Ck
namespace Px
open Lx (Tok B)
mutual
def Ni(N:Nat):Ex->Prop
 | .mk k o n t args p=>args.length<=N/\He N args
def He(N:Nat):List Ex->Prop
 | []=>True
 | e :: r=>Ni N e/\He N r
end
mutual
def Rr(N:Nat):St->Prop
 | .mk k n es b c p=>(∀e∈es,Ni N e)/\b.length<=N/\c.length<=N/\Fx N b/\Fx N c
def Fx(N:Nat):List St->Prop
 | []=>True
 | s :: r=>Rr N s/\Fx N r
end
theorem It:∀l:List (List Tok),(∀a∈l,1<=a.length)->l.length<=(Bx l).length/\∀a∈l,a.length<=(Bx l).length
 | [],_=>⟨by simp[Bx],λ a ha=>by cases ha⟩
 | [a],h=>⟨by have:=h a (by simp);simp[Bx];omega,λ x hx=>by simp at hx;subst hx;simp[Bx]⟩
 | a :: b :: r,h=>by
  have ih:=It (b :: r) (λ x hx=>h x (AH _ hx));have h1:=h a (by simp);have e:(Bx (a :: b :: r)).length=a.length+1+(Bx (b :: r)).length:=by simp[Bx];omega
  refine⟨by rw[e];simp at ih ⊢;omega,λ x hx=>?_⟩;rw[e];rcases mem_cons.1 hx with rfl | hx
  .omega
  .have:=ih.2 x hx;omega
theorem Gh(b:Bool)(l:List Tok):l.length<=(within b l).length:=by
 unfold within;split
 .simp;omega
 .exact AD _
theorem Et(e:Ex):1<=(exT e).length:=by
 obtain⟨k,o,n,t,args,p⟩:=e;rw[exT];unfold exK
 repeat' split
 all_goals simp
 all_goals omega
theorem Nj:∀l:List Ex,(Ds l).length=l.length
 | []=>rfl
 | e :: r=>by simp[Ds,Nj r]
theorem Nk:∀{l:List Ex} {e:Ex},e∈l->exT e∈Ds l
 | a :: r,e,h=>by
  rw[Ds];rcases mem_cons.1 h with rfl | h
  .exact AC ..
  .exact AH _ (Nk h)
theorem Nl:∀{l:List Ex} {a:List Tok},a∈Ds l->∃e∈l,exT e=a
 | x :: r,a,h=>by
  rw[Ds] at h;rcases mem_cons.1 h with rfl | h
  .exact⟨x,AC ..,rfl⟩
  .obtain⟨e,h1,h2⟩:=Nl h;exact⟨e,AH _ h1,h2⟩
mutual
theorem Rs{V:Nat->B->Nat->Prop}{N:Nat}:∀e:Ex,WfE V e->(exT e).length<=N->Ni N e
 | .mk k o n t args p,hw,hN=>by
  rw[WfE] at hw;obtain⟨hf,ha⟩:=hw;have a0:args.length<=N/\∀x∈args,(exT x).length<=N:=by
   rw[exT] at hN;rcases hf with⟨-,-,-,hl,-⟩ | ⟨-,-,-,hl,-⟩ | ⟨-,-,-,hl,-⟩ | ⟨-,-,-,hl,-⟩ | ⟨rfl,-⟩ | ⟨rfl,-,-,-,hl⟩ | ⟨hk,-,-,-,hl⟩ | ⟨rfl,-,-,-,-,hl⟩
   .have:args=[]:=length_eq_zero_iff.1 hl;subst this;exact⟨AO _,λ x hx=>by cases hx⟩
   .have:args=[]:=length_eq_zero_iff.1 hl;subst this;exact⟨AO _,λ x hx=>by cases hx⟩
   .have:args=[]:=length_eq_zero_iff.1 hl;subst this;exact⟨AO _,λ x hx=>by cases hx⟩
   .have:args=[]:=length_eq_zero_iff.1 hl;subst this;exact⟨AO _,λ x hx=>by cases hx⟩
   .have h1:=It (Ds args) (λ a h=>by
     obtain⟨e,-,rfl⟩:=Nl h;exact Et e)
    simp[exK] at hN;rw[Nj] at h1;exact⟨by omega,λ x hx=>by have:=h1.2 _ (Nk hx);omega⟩
   .obtain⟨x,y,rfl⟩:∃x y,args=[x,y]:=by
     match args,hl with
     | [x,y],_=>exact⟨x,y,rfl⟩
    have h0:=Gh (lowE 7 (([x,y]:List Ex).getD 0 default)) ((Ds [x,y]).getD 0 []);simp[exK,Ds] at hN h0;have:=Et x;have:=Et y;refine⟨by simp;omega,λ z hz=>?_⟩;simp at hz;rcases hz with rfl | rfl
    .omega
    .omega
   .obtain⟨x,rfl⟩:=length_eq_one_iff.1 hl;have h0:=Gh (lowE 6 (([x]:List Ex).getD 0 default)) ((Ds [x]).getD 0 []);have:=Et x;have a3:1+(exT x).length<=N:=by
     rcases hk with rfl | rfl
     .simp[exK,Ds] at hN h0;omega
     .simp[exK,Ds] at hN h0;omega
    refine⟨by simp;omega,λ z hz=>?_⟩;simp at hz;subst hz;omega
   .obtain⟨x,y,rfl⟩:∃x y,args=[x,y]:=by
     match args,hl with
     | [x,y],_=>exact⟨x,y,rfl⟩
    have h0:=Gh (lowE (lv o) (([x,y]:List Ex).getD 0 default)) ((Ds [x,y]).getD 0 []);have h1:=Gh (lowE (opL o+1) (([x,y]:List Ex).getD 1 default)) ((Ds [x,y]).getD 1 []);simp[exK,Ds] at hN h0 h1;have:=Et x;have:=Et y;refine⟨by simp;omega,λ z hz=>?_⟩;simp at hz;rcases hz with rfl | rfl
    .omega
    .omega
  rw[Ni];exact⟨a0.1,Nm args ha a0.2⟩
theorem Nm{V:Nat->B->Nat->Prop}{N:Nat}:∀l:List Ex,WfEs V l->(∀x∈l,(exT x).length<=N)->He N l
 | [],_,_=>by rw[He];trivial
 | e :: r,hw,hN=>by
  rw[WfEs] at hw;rw[He];exact⟨Rs e hw.1 (hN e (AC ..)),Nm r hw.2 (λ x hx=>hN x (AH _ hx))⟩
end
theorem Ae4(s:St):1<=(stT s).length:=by
 obtain⟨k,n,es,b,c,p⟩:=s;rw[stT];unfold stK
 repeat' split
 all_goals simp
theorem stsT_le:∀l:List St,l.length<=(Ca l).length/\∀s∈l,(stT s).length<=(Ca l).length
 | []=>⟨by simp,λ s hs=>by cases hs⟩
 | s :: r=>by
  have ih:=stsT_le r;have:=Ae4 s;rw[Ca];refine⟨by simp;omega,λ x hx=>?_⟩;rw[length_append];rcases mem_cons.1 hx with rfl | hx
  .omega
  .have:=ih.2 x hx;omega
mutual
theorem Ae5{V:Nat->B->Nat->Prop}{N:Nat}:∀s:St,WfS V s->(stT s).length<=N->Rr N s
 | .mk k n es b c p,hw,hN=>by
  rw[WfS] at hw;obtain⟨hf,he,hb,hc⟩:=hw;have a0:(∀e∈es,(exT e).length<=N)/\(Ca b).length<=N/\(Ca c).length<=N:=by
   rw[stT] at hN;rcases hf with⟨rfl,-,hl,rfl,rfl⟩ | ⟨rfl,-,hl,rfl,rfl⟩ | ⟨rfl,-,hl,rfl,rfl⟩ | ⟨rfl,-,hl⟩ | ⟨rfl,-,hl,rfl⟩ | ⟨rfl,-,hl,rfl,rfl⟩
   .obtain⟨x,rfl⟩:=length_eq_one_iff.1 hl;simp[stK] at hN;exact⟨λ e he=>(by simp at he;subst he;omega),(by simp[Ca]),(by simp[Ca])⟩
   .rcases hl with hl | hl
    .obtain⟨x,rfl⟩:=length_eq_one_iff.1 hl;simp[stK] at hN;exact⟨λ e he=>(by simp at he;subst he;omega),(by simp[Ca]),(by simp[Ca])⟩
    .obtain⟨x,y,rfl⟩:∃x y,es=[x,y]:=by
      match es,hl with
      | [x,y],_=>exact⟨x,y,rfl⟩
     simp[stK] at hN;exact⟨λ e he=>(by simp at he;rcases he with rfl | rfl <;> omega),(by simp[Ca]),(by simp[Ca])⟩
   .obtain⟨x,rfl⟩:=length_eq_one_iff.1 hl;simp[stK] at hN;exact⟨λ e he=>(by simp at he;subst he;omega),(by simp[Ca]),(by simp[Ca])⟩
   .obtain⟨x,rfl⟩:=length_eq_one_iff.1 hl;rcases c with _ | ⟨c1,c2⟩
    .simp[stK,blk] at hN;exact⟨λ e he=>(by simp at he;subst he;omega),(by omega),(by simp[Ca])⟩
    .simp[stK,blk] at hN;exact⟨λ e he=>(by simp at he;subst he;omega),(by omega),(by omega)⟩
   .obtain⟨x,rfl⟩:=length_eq_one_iff.1 hl;simp[stK,blk] at hN;exact⟨λ e he=>(by simp at he;subst he;omega),(by omega),(by simp[Ca])⟩
   .obtain⟨x,rfl⟩:=length_eq_one_iff.1 hl;simp[stK] at hN;exact⟨λ e he=>(by simp at he;subst he;omega),(by simp[Ca]),(by simp[Ca])⟩
  have a4:=(stsT_le b).1;have a3:=(stsT_le c).1;rw[Rr];exact⟨λ e h=>Rs e (he e h) (a0.1 e h),by omega,by omega,stmles_of b hb a0.2.1,stmles_of c hc a0.2.2⟩
theorem stmles_of{V:Nat->B->Nat->Prop}{N:Nat}:∀l:List St,Cg V l->(Ca l).length<=N->Fx N l
 | [],_,_=>by rw[Fx];trivial
 | s :: r,hw,hN=>by
  rw[Cg] at hw;rw[Ca,length_append] at hN;rw[Fx];exact⟨Ae5 s hw.1 (by omega),stmles_of r hw.2 (by omega)⟩
end
theorem ssT_le:∀l:List Sl,l.length<=(ssT l).length
 | []=>by simp
 | s :: r=>by
  have:=ssT_le r;simp[ssT];omega
theorem fsT_le:∀l:List Fn,l.length<=(fsT l).length
 | []=>by simp
 | s :: r=>by
  have:=fsT_le r;simp[fsT];omega
theorem Al0(s:Sl):1<=(slT s).length:=by simp[slT]
theorem fnT_le(f:Fn):f.params.length<=(fnT f).length/\(Ca f.body).length<=(fnT f).length:=by
 have h:=(It (f.params.map slT) (λ a h=>by
  obtain⟨s,-,rfl⟩:=mem_map.1 h;exact Al0 s)).1
 rw[length_map] at h;simp[fnT,blk];omega
end Px
namespace Ck
open Lx (B)
open Px (Ex St Sl Pr WfE WfEs WfS Cg WfP Gn FormS)
def Nz{α:Type}(r:R α):Prop:=∀a e,r=.inr (a,e)->e≠0
theorem Nz.ok{α:Type}{x:α}:Nz (.inl x:R α):=λ a e h=>by cases h
theorem Nz.bind{α β:Type}{r:R α}{f:α->R β}(h:Nz r)(k:∀x,r=.inl x->Nz (f x)):Nz (Ck.bind r f):=by
 rcases r with x | ⟨a,e⟩
 .exact k x rfl
 .intro a' e' h';cases h';exact h a e rfl
theorem Nz.need{b:Bool}{e:Nat}(h:e≠0:=by decide):Nz (Ck.need b p e):=by
 cases b
 .intro a e' h';cases h';exact h
 .exact .ok
def R3(l:List Q):Prop:=∀q∈l,Nz q.1
theorem R3.arg{l:List Q}(h:R3 l)(hi:i<l.length):Nz (Ck.arg l i).1:=by
 unfold Ck.arg;rw[getD_eq_getElem?_getD,List.getElem?_eq_getElem hi];exact h _ (List.getElem_mem hi)
theorem Nz.asked{q:Q}(h:Nz q.1)(t:B):Nz (Ck.asked q t):=h.bind λ x _=>(Nz.need).bind λ _ _=>.ok
theorem R3.all:∀{l:List Q} (ts:List B),R3 l->Nz (Ck.all l ts)
 | [],ts,h=>by simp[Ck.all];exact .ok
 | q :: r,[],h=>by simp[Ck.all];exact .ok
 | q :: r,t :: ts,h=>by
  rw[Ck.all];exact (Nz.asked (h q (AC ..)) t).bind λ x _=>(R3.all ts λ y hy=>h y (AH _ hy)).bind λ xs _=>.ok
theorem Uj(t:B)(p:Nat){l:List Q}(h:R3 l):Nz (Ck.builtin t p l):=by
 unfold Ck.builtin;refine (Nz.need).bind λ u hu=>?_
 have hb:=nd hu;simp only[Bool.or_eq_true,Bool.and_eq_true,beq_iff_eq,Bool.not_eq_true'] at hb;refine (h.arg (by omega)).bind λ x _=>(Nz.need).bind λ _ _=>?_
 split
 .rename_i hp;rcases hb with hb | hb
  .rw[hb.2] at hp;cases hp
  .exact (Nz.asked (h.arg (by omega)) _).bind λ y _=>.ok
 .exact .ok
theorem V8(c:Cx)(k o m:Nat)(t:B)(p:Nat){l:List Q}(h:R3 l)(h2:k=12\/k=15->l.length=2)(h1:k=13\/k=14->l.length=1)(hk:k=1\/k=2\/k=3\/k=6\/k=7\/k=12\/k=13\/k=14\/k=15):Nz (Ck.comb c k o m t p l):=by
 unfold Ck.comb;split
 .exact .ok
 split
 .exact .ok
 split
 .exact .ok
 split
 .exact (Nz.need).bind λ _ _=>.ok
 split
 .split
  .exact (Nz.need).bind λ _ _=>(Nz.need).bind λ _ _=>(Nz.need).bind λ _ _=>(h.all _).bind λ xs _=>.ok
  .exact Uj t p h
 split
 .have:=h2 (by omega);exact (h.arg (by omega)).bind λ x _=>(Nz.need).bind λ _ _=>(Nz.asked (h.arg (by omega)) _).bind λ y _=>.ok
 split
 .have:=h1 (by omega);exact (Nz.asked (h.arg (by omega)) _).bind λ x _=>.ok
 split
 .have:=h1 (by omega);exact (Nz.asked (h.arg (by omega)) _).bind λ x _=>.ok
 .have:=h2 (by omega);exact (h.arg (by omega)).bind λ x _=>(h.arg (by omega)).bind λ y _=>(Nz.need).bind λ _ _=>.ok
theorem R4{V:Nat->B->Nat->Prop}{k o n:Nat}{t:B}{len:Nat}(h:Gn V k o n t len):(k=12\/k=15->len=2)/\(k=13\/k=14->len=1)/\(k=1\/k=2\/k=3\/k=6\/k=7\/k=12\/k=13\/k=14\/k=15):=by
 rcases h with⟨rfl,_⟩ | ⟨rfl,_⟩ | ⟨rfl,_⟩ | ⟨rfl,_⟩ | ⟨rfl,_⟩ | ⟨rfl,_,_,_,h⟩ | ⟨rfl | rfl,_,_,_,h⟩ | ⟨rfl,_,_,_,_,h⟩ <;> simp <;> assumption
mutual
theorem Av9{V:Nat->B->Nat->Prop}(c:Cx):∀x:Ex,WfE V x->Nz (cE c x)
 | .mk k o n t args p,h=>by
  rw[WfE] at h;rw[cE];obtain⟨h2,h1,hk⟩:=R4 h.1;exact V8 c k o n t p (Pl c args h.2) (by rw[cEs_length];exact h2) (by rw[cEs_length];exact h1) hk
theorem Pl{V:Nat->B->Nat->Prop}(c:Cx):∀l:List Ex,WfEs V l->R3 (cEs c l)
 | [],_=>by rw[cEs];exact λ q hq=>by cases hq
 | .mk k o n t args p :: r,h=>by
  rw[WfEs,WfE] at h;rw[cEs];obtain⟨h2,h1,hk⟩:=R4 h.1.1;intro q hq;rcases mem_cons.1 hq with rfl | hq
  .show Nz (cE c _);rw[cE];exact V8 c k o n t p (Pl c args h.1.2) (by rw[cEs_length];exact h2) (by rw[cEs_length];exact h1) hk
  .exact Pl c r h.2 q hq
end
theorem Uk{env:Env}{ls:List B}{x:B}{kind:Nat}{t:B}:Nz (Ck.loc env ls x p kind t):=
 ((Nz.need).bind λ _ _=>.ok:Nz (Ck.note env x p _)).bind λ e _=>(Nz.need).bind λ _ _=>.ok
theorem V9{env:Env}{x:B}:Nz (Ck.targ env x p):=(Nz.need).bind λ _ _=>(Nz.need).bind λ _ _=>.ok
mutual
theorem Au6{V:Nat->B->Nat->Prop}(k:Kx)(env:Env)(ls:List B):∀s:St,WfS V s->Nz (cS k env ls s)
 | .mk kind x es body other p,h=>by
  rw[WfS] at h;obtain⟨hf,he,hb,hc⟩:=h;have h:=Pl (k.at env) es (Px.WfEs_all.2 he);have a0:=cEs_length (k.at env) es;have hl:(es.length=1\/es.length=2)/\(kind≠2->es.length=1):=by
   rcases hf with⟨rfl,_,h,_⟩ | ⟨rfl,_,h,_⟩ | ⟨rfl,_,h,_⟩ | ⟨rfl,_,h⟩ | ⟨rfl,_,h,_⟩ | ⟨rfl,_,h,_⟩ <;> first | exact⟨h,by simp⟩ | exact⟨AI h,λ _=>h⟩
  have h0:=h.arg (i:=0) (by omega);rw[cS];split
  .exact h0.bind λ x _=>Uk.bind λ e _=>.ok
  split
  .refine V9.bind λ m _=>?_
   split
   .exact (Nz.asked h0 _).bind λ x _=>.ok
   .exact (Nz.need).bind λ _ _=>(Nz.asked h0 _).bind λ x _=>(Nz.asked (h.arg (by omega)) _).bind λ y _=>.ok
  split
  .exact V9.bind λ m _=>(Nz.need).bind λ _ _=>(Nz.asked h0 _).bind λ x _=>.ok
  split
  .exact (Nz.asked h0 _).bind λ x _=>(Ls k env ls body hb).bind λ a _=>(Ls k env a.2.2 other hc).bind λ b _=>.ok
  split
  .exact (Nz.asked h0 _).bind λ x _=>Uk.bind λ e _=>(Ls k e.1 e.2 body hb).bind λ a _=>.ok
  .exact (Nz.asked h0 _).bind λ x _=>.ok
theorem Ls{V:Nat->B->Nat->Prop}(k:Kx)(env:Env)(ls:List B):∀l:List St,Cg V l->Nz (cSs k env ls l)
 | [],_=>.ok
 | s :: r,h=>by
  rw[Cg] at h;rw[cSs];exact (Au6 k env ls s h.1).bind λ a _=>(Ls k a.2.1 a.2.2 r h.2).bind λ b _=>.ok
end
theorem Nw:∀(l:List Sl) (env:Env) (i:Nat),Nz (Ck.states env i l)
 | [],env,i=>.ok
 | s :: r,env,i=>by
  rw[Ck.states];exact (Nz.need).bind λ _ _=>Nz.bind ((Nz.need).bind λ _ _=>.ok) λ e _=>Nw r e (i+1)
theorem Nx:∀(l:List Sl) (i:Nat),Nz (Ck.params i l)
 | [],i=>.ok
 | s :: r,i=>by
  rw[Ck.params];exact (Nz.need).bind λ _ _=>Nx r (i+1)
theorem Af8:∀(l:List Px.Fn) (env:Env) (i:Nat),Nz (Ck.fns env i l)
 | [],env,i=>.ok
 | f :: r,env,i=>by
  rw[Ck.fns];exact (Nz.need).bind λ _ _=>Nz.bind ((Nz.need).bind λ _ _=>.ok) λ e _=>(Nx f.params 0).bind λ _ _=>Af8 r e (i+1)
theorem Wa:∀(l:List Sl) (env:Env) (ls:List B),Nz (Ck.locs env ls l)
 | [],env,ls=>.ok
 | s :: r,env,ls=>by
  rw[Ck.locs];exact Uk.bind λ e _=>Wa r e.1 e.2
theorem Ny{V:Nat->B->Nat->Prop}(hs:List Hd)(env:Env):∀(l:List Px.Fn) (i:Nat),(∀f∈l,Cg V f.body)->Nz (Ck.bodies hs env i l)
 | [],i,h=>.ok
 | f :: r,i,h=>by
  rw[Ck.bodies];exact Nz.bind ((Wa f.params env []).bind λ e _=>(Ls _ e.1 e.2 f.body (h f (AC ..))).bind λ a _=>.ok) λ x _=>(Ny hs env r (i+1) (λ y hy=>h y (AH _ hy))).bind λ xs _=>.ok
theorem check_nz{V:Nat->B->Nat->Prop}{p:Pr}(h:WfP V p):Nz (Ck.check p):=
 (Nz.need).bind λ _ _=>(Nw p.states [] 0).bind λ e1 _=>(Af8 p.fns e1 0).bind λ e2 _=>(Ny (V:=V) _ e2 p.fns 0 (λ f hf=>(h.2.2 f hf).2.2.2.1)).bind λ fs _=>.ok
end Ck
end
end Go.Proofs.YtpckmjfabiallaaGreatDoor
