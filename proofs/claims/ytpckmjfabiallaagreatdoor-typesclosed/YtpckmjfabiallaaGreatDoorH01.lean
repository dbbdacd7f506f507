/- Texts of ours, joined. -/
import Derived.Test.YtpckmjfabiallaaGreatDoorH00
set_option linter.unusedVariables false
set_option linter.unusedSimpArgs false
set_option maxRecDepth 100000
set_option maxHeartbeats 16000000
namespace Go.Proofs.YtpckmjfabiallaaGreatDoor
variable{b i j m p sz:Nat}{s:ByteArray}{v:Value}{w w1 w2:World}{xs:List Value}
open List
open Tryz
section
open Go.RowKit
theorem Ev{a b:ByteArray}(h:a.data.toList=b.data.toList):a=b:=by
 cases a;cases b;simp at h;congr
theorem Uq(s:ByteArray)(i:Nat)(p:UInt8->Bool):s.extract i (i+run s i p)=⟨((s.data.toList.drop i).takeWhile p).toArray⟩:=Ev (by rw[El])
theorem Yi(b:Nat)(s:ByteArray)(i:Nat)(w:World)(h:At b s i w)(hs:s.size<=16384)(hi:i<s.size) :
  AA 101 #[pt b 0] w λ e w'=>TokPost (Lx.nameR (s.data.toList.drop i)) b i w e w':=by
 by_cases hn:run s i Lx.isPart<=16
 .refine (Ag1 b s i w h hs (by omega) hn).mono ?_;rintro e w' ⟨rfl,hm⟩;exact TokPost.ok (k:=1) (t:=(s.data.toList.drop i).takeWhile Lx.isPart) (m:=0) (by unfold Lx.nameR;exact if_pos hn) (by rw[Uq]) hm
 .refine (Ye b s i w h hs (by omega) (by omega)).mono ?_;rintro e w' ⟨rfl,hm⟩;exact TokPost.bad (o:=0) (by unfold Lx.nameR;exact if_neg hn) rfl hm
theorem Se(b:Nat)(s:ByteArray)(i:Nat)(w:World)(h:At b s i w)(a3:Env w)(a4:2≠b)(hs:s.size<=16384)(hi:i<s.size)(hd:Lx.isDigit s[i]=true) :
  AA 103 #[pt b 0] w λ e w'=>TokPost (Lx.numberR (s.data.toList.drop i)) b i w e w':=by
 have a0:((s.data.toList.drop i).takeWhile Lx.isDigit).head?=some s[i]:=by
  rw[Dk s i hi,takeWhile_cons_of_pos hd];rfl
 have hc:(((s.data.toList.drop i).takeWhile Lx.isDigit).head?=some 48/\1<((s.data.toList.drop i).takeWhile Lx.isDigit).length)↔(s[i]=48/\1<run s i Lx.isDigit):=by
  rw[a0];simp[run]
 by_cases h48:s[i]=48/\1<run s i Lx.isDigit
 .refine (Lv b s i w h hs hi h48.1 h48.2).mono ?_;rintro e w' ⟨rfl,hm⟩;exact TokPost.bad (o:=0) (by unfold Lx.numberR;exact if_pos (hc.2 h48)) rfl hm
 .by_cases hv:Lx.value ((s.data.toList.drop i).takeWhile Lx.isDigit)<=9223372036854775807
  .refine (Wd b s i w h hs hi hd h48 hv).mono ?_;rintro e w' ⟨rfl,hm⟩;exact TokPost.ok (k:=2) (t:=(s.data.toList.drop i).takeWhile Lx.isDigit) (m:=Lx.value ((s.data.toList.drop i).takeWhile Lx.isDigit)) (by unfold Lx.numberR;rw[if_neg (λ a=>h48 (hc.1 a))];exact if_pos hv) (by rw[El,Uq]) hm
  .refine (Pt b s i w h a3 a4 hs hi hd h48 hv).mono ?_;rintro e w' ⟨rfl,hm⟩;exact TokPost.bad (o:=0) (by unfold Lx.numberR;rw[if_neg (λ a=>h48 (hc.1 a))];exact if_neg hv) rfl hm
theorem Yj(b:Nat)(s:ByteArray)(i:Nat)(w:World)(h:At b s i w)(hs:s.size<=16384)(hi:i<s.size) :
  AA 105 #[pt b 0] w λ e w'=>TokPost (Lx.markR dotC (s.data.toList.drop i)) b i w e w':=by
 by_cases hz:msize s i=0
 .refine (Yh b s i w h hs hi hz).mono ?_;rintro e w' ⟨rfl,hm⟩;exact TokPost.bad (o:=0) (by unfold Lx.markR;exact if_pos hz) rfl hm
 .refine (Ag2 b s i w h hs hi (by omega)).mono ?_;rintro e w' ⟨rfl,hm⟩;refine TokPost.ok (k:=4) (t:=(s.data.toList.drop i).take (Lx.markN dotC (s.data.toList.drop i))) (m:=0) (by unfold Lx.markR;exact if_neg hz) ?_ hm;have:s.extract i (i+msize s i)=⟨((s.data.toList.drop i).take (Lx.markN dotC (s.data.toList.drop i))).toArray⟩:=Ev (by
   rw[ext_list];show _=List.take (Lx.markN dotC (s.data.toList.drop i)) (s.data.toList.drop i);rw[take_drop];rfl)
  rw[this]
theorem Sf(b:Nat)(s:ByteArray)(i:Nat)(w:World)(h:At b s i w)(hs:s.size<=16384)(hi:i<s.size)(hl:Lx.isLetter s[i]=true)
  (res:Lx.R) (hcall:∀w1,Below w.heap.size w w1->AA 101 #[pt b 0] w1 λ e w'=>TokPost res b i w1 e w') :
  AA 66 #[pt b 0] w λ e w'=>TokPost res b i w e w':=by
 have aa:s.size<=maxLen:=by unfold maxLen;omega
 have a5:Below w.heap.size w (w.alloc Ce):=(AF _ _).alloc (AD _) _;have a7:=h.below a5 h.there;have a8:=C3.new w;have ab:=h.there;go_enter func66,ntmps66;go_wp2_with fail;generalize w.alloc Ce=w1 at *;refine (C5 b s i _ a7 aa hi).mono ?_;rintro e w2 ⟨rfl,n2,rfl⟩;obtain⟨t0,t1,t2,t3⟩:=a7;go_wp2_with fail
 go_quiet (fail)
 have a4:C3 w.heap.size ((w1.drewN n2).drewN nq):=a8;have a6:Below w.heap.size w ((w1.drewN n2).drewN nq):=below_drewN (below_drewN a5 _) _;generalize (w1.drewN n2).drewN nq=w3 at *;clear a8 a5 t0 t1 t2 t3;have a0:=hcall w3 a6;clear hcall;rcases res with⟨k,t,m,n⟩ | ⟨o,er⟩
 .have a0:AA 101 #[pt b 0] w3 λ e w'=>e=.returned (Cv k ⟨t.toArray⟩ m i)/\Mv b (i+n) w3 w':=a0
  go_wp2_with (first
   |(go_at_call 100;refine (isLetter_any _ _).mono ?_;rw[hl];rintro e w9 ⟨rfl,rfl⟩)
   |(go_at_call 101;refine a0.mono ?_;rintro e w4 ⟨rfl,a3⟩;have a9:=a4.mv a3 (by omega);obtain⟨x0,x1,x2,x3,d0,d1,d2,d3,f0,f1,f2,f3⟩:=a9.cells))
  exact bodyPost_ret (v:=Cv k ⟨t.toArray⟩ m i) (by simp[results,results66,go_sem,d0,d1,d2,d3,Cv]) rfl (AT rfl rfl ((a3.past a6).set4 (AD _) _ _ _ _))
 .have a0:AA 101 #[pt b 0] w3 λ e w'=>e=.panicked (Cu (i+o) er)/\∃j,Mv b j w3 w':=a0
  go_wp2_with (first
   |(go_at_call 100;refine (isLetter_any _ _).mono ?_;rw[hl];rintro e w9 ⟨rfl,rfl⟩)
   |(go_at_call 101;refine a0.mono ?_;rintro e w4 ⟨rfl,j4,a3⟩))
  exact⟨rfl,AU rfl rfl ⟨_,a3.past a6⟩⟩
theorem N6(b:Nat)(s:ByteArray)(i:Nat)(w:World)(h:At b s i w)(hs:s.size<=16384)(hi:i<s.size)(hl:Lx.isLetter s[i]=false)(hd:Lx.isDigit s[i]=true)
  (res:Lx.R) (hcall:∀w1,Below w.heap.size w w1->AA 103 #[pt b 0] w1 λ e w'=>TokPost res b i w1 e w') :
  AA 66 #[pt b 0] w λ e w'=>TokPost res b i w e w':=by
 have aa:s.size<=maxLen:=by unfold maxLen;omega
 have a5:Below w.heap.size w (w.alloc Ce):=(AF _ _).alloc (AD _) _;have a7:=h.below a5 h.there;have a8:=C3.new w;have ab:=h.there;go_enter func66,ntmps66;go_wp2_with fail;generalize w.alloc Ce=w1 at *;refine (C5 b s i _ a7 aa hi).mono ?_;rintro e w2 ⟨rfl,n2,rfl⟩;obtain⟨t0,t1,t2,t3⟩:=a7;go_wp2_with fail
 go_quiet (fail)
 have a4:C3 w.heap.size ((w1.drewN n2).drewN nq):=a8;have a6:Below w.heap.size w ((w1.drewN n2).drewN nq):=below_drewN (below_drewN a5 _) _;generalize (w1.drewN n2).drewN nq=w3 at *;clear a8 a5 t0 t1 t2 t3;have a0:=hcall w3 a6;clear hcall;rcases res with⟨k,t,m,n⟩ | ⟨o,er⟩
 .have a0:AA 103 #[pt b 0] w3 λ e w'=>e=.returned (Cv k ⟨t.toArray⟩ m i)/\Mv b (i+n) w3 w':=a0
  go_wp2_with (first
   |(go_at_call 100;refine (isLetter_any _ _).mono ?_;rw[hl];rintro e w9 ⟨rfl,rfl⟩)
   |(go_at_call 102;refine (isDigit_any _ _).mono ?_;rw[hd];rintro e w9 ⟨rfl,rfl⟩)
   |(go_at_call 103;refine a0.mono ?_;rintro e w4 ⟨rfl,a3⟩;have a9:=a4.mv a3 (by omega);obtain⟨x0,x1,x2,x3,d0,d1,d2,d3,f0,f1,f2,f3⟩:=a9.cells))
  exact bodyPost_ret (v:=Cv k ⟨t.toArray⟩ m i) (by simp[results,results66,go_sem,d0,d1,d2,d3,Cv]) rfl (AT rfl rfl ((a3.past a6).set4 (AD _) _ _ _ _))
 .have a0:AA 103 #[pt b 0] w3 λ e w'=>e=.panicked (Cu (i+o) er)/\∃j,Mv b j w3 w':=a0
  go_wp2_with (first
   |(go_at_call 100;refine (isLetter_any _ _).mono ?_;rw[hl];rintro e w9 ⟨rfl,rfl⟩)
   |(go_at_call 102;refine (isDigit_any _ _).mono ?_;rw[hd];rintro e w9 ⟨rfl,rfl⟩)
   |(go_at_call 103;refine a0.mono ?_;rintro e w4 ⟨rfl,j4,a3⟩))
  exact⟨rfl,AU rfl rfl ⟨_,a3.past a6⟩⟩
theorem Pv(w:World):AA 100 #[.int .u8 34] w λ e w'=>e=.returned (.bool false)/\w'=w:=isLetter_any 34 w
theorem Ur(w:World):AA 102 #[.int .u8 34] w λ e w'=>e=.returned (.bool false)/\w'=w:=isDigit_any 34 w
theorem N7(b:Nat)(s:ByteArray)(i:Nat)(w:World)(h:At b s i w)(hs:s.size<=16384)(hi:i<s.size)(hk:s[i]=34)
  (res:Lx.R) (hcall:∀w1,Below w.heap.size w w1->AA 104 #[pt b 0] w1 λ e w'=>TokPost res b i w1 e w') :
  AA 66 #[pt b 0] w λ e w'=>TokPost res b i w e w':=by
 have aa:s.size<=maxLen:=by unfold maxLen;omega
 have a5:Below w.heap.size w (w.alloc Ce):=(AF _ _).alloc (AD _) _;have a7:=h.below a5 h.there;have a8:=C3.new w;have ab:=h.there;go_enter func66,ntmps66;go_wp2_with fail;generalize w.alloc Ce=w1 at *;refine (C5 b s i _ a7 aa hi).mono ?_;rintro e w2 ⟨rfl,n2,rfl⟩;obtain⟨t0,t1,t2,t3⟩:=a7;go_wp2_with fail
 go_quiet (fail)
 have a4:C3 w.heap.size ((w1.drewN n2).drewN nq):=a8;have a6:Below w.heap.size w ((w1.drewN n2).drewN nq):=below_drewN (below_drewN a5 _) _;generalize (w1.drewN n2).drewN nq=w3 at *;clear a8 a5 t0 t1 t2 t3;have a0:=hcall w3 a6;clear hcall;rcases res with⟨k,t,m,n⟩ | ⟨o,er⟩
 .have a0:AA 104 #[pt b 0] w3 λ e w'=>e=.returned (Cv k ⟨t.toArray⟩ m i)/\Mv b (i+n) w3 w':=a0
  go_wp2_with (first
   |(go_at_call 100;refine (Pv _).mono ?_;rintro e w9 ⟨rfl,rfl⟩)
   |(go_at_call 102;refine (Ur _).mono ?_;rintro e w9 ⟨rfl,rfl⟩)
   |(go_at_call 104;refine a0.mono ?_;rintro e w4 ⟨rfl,a3⟩;have a9:=a4.mv a3 (by omega);obtain⟨x0,x1,x2,x3,d0,d1,d2,d3,f0,f1,f2,f3⟩:=a9.cells))
  exact bodyPost_ret (v:=Cv k ⟨t.toArray⟩ m i) (by simp[results,results66,go_sem,d0,d1,d2,d3,Cv]) rfl (AT rfl rfl ((a3.past a6).set4 (AD _) _ _ _ _))
 .have a0:AA 104 #[pt b 0] w3 λ e w'=>e=.panicked (Cu (i+o) er)/\∃j,Mv b j w3 w':=a0
  go_wp2_with (first
   |(go_at_call 100;refine (Pv _).mono ?_;rintro e w9 ⟨rfl,rfl⟩)
   |(go_at_call 102;refine (Ur _).mono ?_;rintro e w9 ⟨rfl,rfl⟩)
   |(go_at_call 104;refine a0.mono ?_;rintro e w4 ⟨rfl,j4,a3⟩))
  exact⟨rfl,AU rfl rfl ⟨_,a3.past a6⟩⟩
theorem Sg(b:Nat)(s:ByteArray)(i:Nat)(w:World)(h:At b s i w)(hs:s.size<=16384)(hi:i<s.size)(hl:Lx.isLetter s[i]=false)(hd:Lx.isDigit s[i]=false)(hk:¬(s[i].toNat:Int)=34)
  (res:Lx.R) (hcall:∀w1,Below w.heap.size w w1->AA 105 #[pt b 0] w1 λ e w'=>TokPost res b i w1 e w') :
  AA 66 #[pt b 0] w λ e w'=>TokPost res b i w e w':=by
 have aa:s.size<=maxLen:=by unfold maxLen;omega
 have a5:Below w.heap.size w (w.alloc Ce):=(AF _ _).alloc (AD _) _;have a7:=h.below a5 h.there;have a8:=C3.new w;have ab:=h.there;go_enter func66,ntmps66;go_wp2_with fail;generalize w.alloc Ce=w1 at *;refine (C5 b s i _ a7 aa hi).mono ?_;rintro e w2 ⟨rfl,n2,rfl⟩;obtain⟨t0,t1,t2,t3⟩:=a7;go_wp2_with fail
 go_quiet (fail)
 have a4:C3 w.heap.size ((w1.drewN n2).drewN nq):=a8;have a6:Below w.heap.size w ((w1.drewN n2).drewN nq):=below_drewN (below_drewN a5 _) _;generalize (w1.drewN n2).drewN nq=w3 at *;clear a8 a5 t0 t1 t2 t3;have a0:=hcall w3 a6;clear hcall;rcases res with⟨k,t,m,n⟩ | ⟨o,er⟩
 .have a0:AA 105 #[pt b 0] w3 λ e w'=>e=.returned (Cv k ⟨t.toArray⟩ m i)/\Mv b (i+n) w3 w':=a0
  go_wp2_with (first
   |(go_at_call 100;refine (isLetter_any _ _).mono ?_;rw[hl];rintro e w9 ⟨rfl,rfl⟩)
   |(go_at_call 102;refine (isDigit_any _ _).mono ?_;rw[hd];rintro e w9 ⟨rfl,rfl⟩)
   |(go_at_call 105;refine a0.mono ?_;rintro e w4 ⟨rfl,a3⟩;have a9:=a4.mv a3 (by omega);obtain⟨x0,x1,x2,x3,d0,d1,d2,d3,f0,f1,f2,f3⟩:=a9.cells))
  exact bodyPost_ret (v:=Cv k ⟨t.toArray⟩ m i) (by simp[results,results66,go_sem,d0,d1,d2,d3,Cv]) rfl (AT rfl rfl ((a3.past a6).set4 (AD _) _ _ _ _))
 .have a0:AA 105 #[pt b 0] w3 λ e w'=>e=.panicked (Cu (i+o) er)/\∃j,Mv b j w3 w':=a0
  go_wp2_with (first
   |(go_at_call 100;refine (isLetter_any _ _).mono ?_;rw[hl];rintro e w9 ⟨rfl,rfl⟩)
   |(go_at_call 102;refine (isDigit_any _ _).mono ?_;rw[hd];rintro e w9 ⟨rfl,rfl⟩)
   |(go_at_call 105;refine a0.mono ?_;rintro e w4 ⟨rfl,j4,a3⟩))
  exact⟨rfl,AU rfl rfl ⟨_,a3.past a6⟩⟩
theorem We(b:Nat)(s:ByteArray)(w:World)(h:At b s s.size w)(hs:s.size<=16384) :
  AA 66 #[pt b 0] w λ e w'=>TokPost (Lx.R.ok 5 [] 0 0) b s.size w e w':=by
 have a6:s.size<=maxLen:=by unfold maxLen;omega
 have a3:Below w.heap.size w (w.alloc Ce):=(AF _ _).alloc (AD _) _;have a0:=h.below a3 h.there;have a5:=C3.new w;have a7:=h.there;have a4:=(Mv.refl h).below' a3 (AD _);go_enter func66,ntmps66;go_wp2_with fail;generalize w.alloc Ce=w1 at *;refine (F3 b s _ a0 a6).mono ?_;rintro e w2 ⟨rfl,n2,rfl⟩;obtain⟨t0,t1,t2,t3⟩:=a0;obtain⟨x0,x1,x2,x3,d0,d1,d2,d3,f0,f1,f2,f3⟩:=a5.cells;go_wp2;exact bodyPost_ret (v:=Cv 5 ⟨#[]⟩ 0 s.size) (by simp[results,results66,go_sem,d0,d1,d2,d3,Cv]) rfl (AT rfl rfl ((a4.below' (below_drewN (AF _ _) _) (AD _)).set4 (AD _) _ _ _ _))
theorem Wg(b:Nat)(s:ByteArray)(i:Nat)(w:World)(h:At b s i w)(a3:Env w)(a6:2≠b)(hs:s.size<=16384)(hi:i<=s.size) :
  AA 66 #[pt b 0] w λ e w'=>TokPost (Lx.tokR dotC (s.data.toList.drop i)) b i w e w':=by
 by_cases hend:i=s.size
 .subst hend;rw[Ff];exact We b s w h hs
 .have a0:i<s.size:=by omega
  have a4:=Dk s i a0;have a5:∀w1,Below w.heap.size w w1->At b s i w1:=λ w1 hb=>h.below hb h.there
  have a7:∀w1,Below w.heap.size w w1->Env w1:=λ w1 hb=>a3.below hb a3.lt
  rcases hl:Lx.isLetter s[i] with _ | _
  .rcases hd:Lx.isDigit s[i] with _ | _
   .by_cases hk:s[i]=34
    .have e:Lx.tokR dotC (s.data.toList.drop i)=Lx.quoteR (s.data.toList.drop (i+1)) 1 []:=by
      rw[a4];simp only[Lx.tokR,hl,hd,Bool.false_eq_true,if_false,if_pos hk]
     rw[e];exact N7 b s i w h hs a0 hk _ λ w1 hb=>Sd b s i w1 (a5 w1 hb) hs a0
    .have e:Lx.tokR dotC (s.data.toList.drop i)=Lx.markR dotC (s.data.toList.drop i):=by
      rw[a4];simp only[Lx.tokR,hl,hd,Bool.false_eq_true,if_false,if_neg hk]
     rw[e];exact Sg b s i w h hs a0 hl hd (λ a=>hk (UInt8.toNat_inj.1 (by show s[i].toNat=34;omega))) _ λ w1 hb=>Yj b s i w1 (a5 w1 hb) hs a0
   .have e:Lx.tokR dotC (s.data.toList.drop i)=Lx.numberR (s.data.toList.drop i):=by
     rw[a4];simp only[Lx.tokR,hl,hd,Bool.false_eq_true,if_false,if_true]
    rw[e];exact N6 b s i w h hs a0 hl hd _ λ w1 hb=>Se b s i w1 (a5 w1 hb) (a7 w1 hb) a6 hs a0 hd
  .have e:Lx.tokR dotC (s.data.toList.drop i)=Lx.nameR (s.data.toList.drop i):=by
    rw[a4];simp only[Lx.tokR,hl,if_true]
   rw[e];exact Sf b s i w h hs a0 hl _ λ w1 hb=>Yi b s i w1 (a5 w1 hb) hs a0
def Em(t:Lx.Tok):List Value:=[iv t.kind,.string ⟨t.text.toArray⟩,iv t.num,iv t.place]
def Dm(ts:List Lx.Tok):List Value:=ts.flatMap Em
theorem Sh(ts:List Lx.Tok)(t:Lx.Tok):Dm (ts ++ [t])=Dm ts ++ Em t:=by simp[Dm]
theorem Us{base n R:Nat}{e:TypeId}(h:w.ownsRow base e sz v n xs)(m:Mv R j w w1)(hR:R<base):w1.ownsRow base e sz v n xs:=by
 obtain⟨h1,h2⟩:=h;refine⟨h1,?_⟩;rcases h2 with h2 | ⟨g,cap,cur,hv,hg,hh,r⟩
 .exact AI h2
 .exact AJ ⟨g,cap,cur,hv,hg,(m.kept (AB hh).1 (by omega)).trans hh,r⟩
theorem Mh{base base' n:Nat}{e:TypeId}(h:w.ownsRow base e sz v n xs)(hb:base'<=base):w.ownsRow base' e sz v n xs:=by
 obtain⟨h1,h2⟩:=h;refine⟨h1,?_⟩;rcases h2 with h2 | ⟨g,cap,cur,hv,hg,hh,r⟩
 .exact AI h2
 .exact AJ ⟨g,cap,cur,hv,by omega,hh,r⟩
theorem Bk:∀(N:Nat) (l:AQ) (o:Nat) (acc:AQ) (k:Nat) (t:AQ) (m n:Nat),l.length<=N->Lx.quoteR l o acc=Lx.R.ok k t m n->k=3/\m=0/\o+1<=n/\n<=o+l.length
 | N,[],o,acc,k,t,m,n,_,h=>by simp[Lx.quoteR,Lx.R.bad,Lx.R.ok] at h
 | 0,c :: r,o,acc,k,t,m,n,hN,h=>by simp at hN
 | N+1,c :: r,o,acc,k,t,m,n,hN,h=>by
  rw[A8] at h;simp only[length_cons] at hN ⊢;split at h
  .split at h
   .simp[Lx.R.ok] at h;omega
   .simp[Lx.R.ok,Lx.R.bad] at h
  .split at h
   .split at h
    .simp[Lx.R.ok,Lx.R.bad] at h
    .split at h
     .rename_i d r' _;have:=Bk N r' (o+2) _ k t m n (by simp at hN;omega) h;simp;omega
     .simp[Lx.R.ok,Lx.R.bad] at h
   .split at h
    .have:=Bk N r (o+1) _ k t m n (by omega) h;omega
    .simp[Lx.R.ok,Lx.R.bad] at h
theorem B7{dot:Bool}{c:UInt8}{r:AQ}{k:Nat}{t:AQ}{n:Nat}(h:Lx.tokR dot (c :: r)=Lx.R.ok k t m n):k≠5/\1<=n/\n<=r.length+1:=by
 simp only[Lx.tokR] at h;split at h
 .rename_i hl;have hp:Lx.isPart c=true:=by simp[Lx.isPart,hl]
  have a0:=Lx.tw_le (p:=Lx.isPart) (c :: r);unfold Lx.nameR at h;split at h
  .simp only[Lx.R.ok,Sum.inl.injEq,Prod.mk.injEq] at h;obtain⟨rfl,_,_,rfl⟩:=h;refine⟨by decide,?_,by simpa using a0⟩;rw[takeWhile_cons_of_pos hp];simp
  .simp[Lx.R.ok,Lx.R.bad] at h
 .split at h
  .rename_i hd;have a0:=Lx.tw_le (p:=Lx.isDigit) (c :: r);unfold Lx.numberR at h;split at h
   .simp[Lx.R.ok,Lx.R.bad] at h
   .split at h
    .simp only[Lx.R.ok,Sum.inl.injEq,Prod.mk.injEq] at h;obtain⟨rfl,_,_,rfl⟩:=h;refine⟨by decide,?_,by simpa using a0⟩;rw[takeWhile_cons_of_pos hd];simp
    .simp[Lx.R.ok,Lx.R.bad] at h
  .split at h
   .have:=Bk r.length r 1 [] k t m n (AD _) h;omega
   .unfold Lx.markR at h;split at h
    .simp[Lx.R.ok,Lx.R.bad] at h
    .rename_i hz;have a0:=Up dot (c :: r);simp only[Lx.R.ok,Sum.inl.injEq,Prod.mk.injEq] at h;obtain⟨rfl,_,_,rfl⟩:=h;exact⟨by decide,by omega,by simpa using a0⟩
theorem An0{c:Nat}{dot:Bool}(h:i+gap s i=s.size):Lx.lexGo dot (s.data.toList.drop i) i c=if c<4096 then .inl [⟨5,[],0,s.size⟩] else .inr (s.size,36):=by
 rw[Lx.lexGo_end (by rw[drop_drop];show List.drop (i+gap s i) _=[];rw[h];exact Ff s)];show (if c<4096 then _ else _)=_;have e:i+Lx.skipF false (s.data.toList.drop i)=s.size:=h;rw[e]
theorem Yk(a0:i+gap s i<s.size):(s.data.toList.drop i).drop (Lx.skipF false (s.data.toList.drop i))=s[i+gap s i] :: s.data.toList.drop (i+gap s i+1):=by
 rw[drop_drop];exact Dk s (i+gap s i) a0
theorem An1{c o er:Nat}{dot:Bool}(a0:i+gap s i<s.size)(ht:Lx.tokR dot (s.data.toList.drop (i+gap s i))=Lx.R.bad o er):Lx.lexGo dot (s.data.toList.drop i) i c=.inr (i+gap s i+o,er):=by
 rw[Dk s _ a0] at ht;exact Lx.lexGo_bad (Yk a0) ht
theorem Ar7{c k:Nat}{t:AQ}{n:Nat}{dot:Bool}(a0:i+gap s i<s.size)(ht:Lx.tokR dot (s.data.toList.drop (i+gap s i))=Lx.R.ok k t m n) :
  Lx.lexGo dot (s.data.toList.drop i) i c=if c<4096 then Lx.Out.pre [(⟨k,t,m,i+gap s i⟩:Lx.Tok)] (Lx.lexGo dot (s.data.toList.drop (i+gap s i+n)) (i+gap s i+n) (c+1)) else .inr (i+gap s i,36):=by
 rw[Dk s _ a0] at ht;have hn:=(B7 ht).2.1;rw[Lx.lexGo_ok (Yk a0) ht hn,drop_drop];show (if c<4096 then _ else _)=_;unfold gap;rw[<-Nat.add_assoc]
def Ag3(res:Lx.Out)(w:World)(e:Ending)(w':World):Prop:=
 match res with
 | .inl ts=>(∃v,e=.returned v/\w'.ownsRow w.heap.size 93 4 v ts.length (Dm ts))/\Below w.heap.size w w'
 | .inr (a,er)=>e=.panicked (Cu a er)/\Below w.heap.size w w'
structure Tk(s:ByteArray)(w:World)(i:Nat)(ts:List Lx.Tok)(v:Value)(wr:World):Prop where
 rd:At w.heap.size s i wr
 env:Env wr
 own:wr.ownsRow (w.heap.size+1) 93 4 v ts.length (Dm ts)
 old:Below w.heap.size w wr
 le:i<=s.size
 few:ts.length<=4096
theorem Mv.older(h:Below b w w1)(m:Mv b j w1 w2)(hb:b<w1.heap.size):Below b w w2:=
 h.trans ((AF b w1).setCell (p:=⟨b,1,none⟩) (AD _) (iv (j:Int)) |>.trans (m.mono (by omega)))
theorem Tk.move{ts:List Lx.Tok}{wr:World}(h:Tk s w i ts v wr)(a0:Env w)(m:Mv w.heap.size j wr w1)(hj:j<=s.size):Tk s w j ts v w1:=
 ⟨h.rd.move m,h.env.mv m (by have:=a0.lt;omega),Us h.own m (by omega),Mv.older h.old m h.rd.there,hj,h.few⟩
theorem Si(s:ByteArray)(w:World)(a4:Env w)(hs:s.size<=16384) :
  AA 40 #[.string s] w λ e w'=>Ag3 (Lx.lexGo dotC s.data.toList 0 0) w e w':=by
 have az:s.size<=maxLen:=by unfold maxLen;omega
 obtain⟨res,a0⟩:∃res,Aside (res=Lx.lexGo dotC s.data.toList 0 0):=⟨_,rfl⟩;rw[<-a0.out];go_enter func40,ntmps40;go_wp2_with fail
 go_loopg [4] (s.size+1) (λ g v wr=>∃i ts,g=s.size+1 - i/\Tk s w i ts v wr/\Aside (res=Lx.Out.pre ts (Lx.lexGo dotC (s.data.toList.drop i) i ts.length)))
 case atStart=>
  have ak:Below w.heap.size w (w.alloc (.cells #[.string s,iv 0] 115)):=(AF _ _).alloc (AD _) _;refine⟨0,[],by omega,⟨⟨by simp,by simp,by simp,by simp⟩,a4.below ak a4.lt,⟨rfl,AI ⟨rfl,rfl⟩⟩,ak,AO _,by simp⟩,?_⟩;show _=_;rw[a0.out,Lx.pre_nil];rfl
 case round=>
  clear a0;obtain⟨i,ts,rfl,hk,hr⟩:=hrel;have am:=R9 s i hk.le;have ag:=Yd w.heap.size s i wr hk.rd az hk.le;have ar:2≠w.heap.size:=by have:=a4.lt;omega
  obtain⟨i0,aw,hz⟩:=Option.map_eq_some_iff.1 (show (prog.info? 93).map (λ i=>(i.zero,i.size,i.bytes))=some (some (.agg #[iv 0,sE,iv 0,iv 0]),4,40) by kernel_rfl);simp only[Prod.mk.injEq] at hz;obtain⟨av,ax,ay⟩:=hz;go_wp2_with (go_at_call 65;refine ag.mono ?_;rintro e w1 ⟨rfl,ai⟩);have a3:=hk.move a4 ai am;clear ag ai;obtain⟨ao,cap,rfl⟩:∃ao cap,u4=.slice ao ts.length cap:=by
   rcases a3.own.2 with⟨hv,h0⟩ | ⟨g,cap,cur,hv,_⟩
   .exact⟨none,0,by rw[hv,h0]⟩
   .exact⟨_,_,hv⟩
  have a8:=Wg w.heap.size s _ w1 a3.rd a3.env ar hs am;have aq:i<=i+gap s i:=Nat.le_add_right _ _;have a7:Aside ((∃o er,i+gap s i<s.size/\Lx.tokR dotC (s.data.toList.drop (i+gap s i))=Lx.R.bad o er/\res=.inr (i+gap s i+o,er)) \/
    (∃k t m n,i+gap s i+n<=s.size/\Lx.tokR dotC (s.data.toList.drop (i+gap s i))=Lx.R.ok k t m n/\(¬ts.length<4096->res=.inr (i+gap s i,36)) /\
     (ts.length<4096->(k=5/\res=.inl (ts ++ [(⟨k,t,m,i+gap s i⟩:Lx.Tok)]))\/(k≠5/\1<=n/\res=Lx.Out.pre (ts ++ [(⟨k,t,m,i+gap s i⟩:Lx.Tok)]) (Lx.lexGo dotC (s.data.toList.drop (i+gap s i+n)) (i+gap s i+n) (ts ++ [(⟨k,t,m,i+gap s i⟩:Lx.Tok)]).length))))):=by
   show _\/_;have hr:=hr.out;by_cases hend:i+gap s i=s.size
   .right;rw[An0 hend] at hr;refine⟨5,[],0,0,by omega,by rw[hend,Ff];rfl,?_,?_⟩
    .intro h;rw[if_neg h] at hr;rw[hr,hend];rfl
    .intro h;rw[if_pos h] at hr;exact AI ⟨rfl,by rw[hr,hend];rfl⟩
   .have ab:i+gap s i<s.size:=by omega
    rcases ht:Lx.tokR dotC (s.data.toList.drop (i+gap s i)) with⟨k,t,m,n⟩ | ⟨o,er⟩
    .right;have af:=B7 (by rw[<-Dk s _ ab];exact ht);rw[Ar7 ab ht] at hr;have hl:(s.data.toList.drop (i+gap s i+1)).length+1=s.size - (i+gap s i):=by simp;omega
     refine⟨k,t,m,n,by omega,rfl,?_,?_⟩
     .intro h;rw[if_neg h] at hr;rw[hr];rfl
     .intro h;rw[if_pos h,Lx.pre_pre] at hr;exact AJ ⟨af.1,af.2.1,by rw[hr];simp⟩
    .left;rw[An1 ab ht] at hr;exact⟨o,er,ab,rfl,by rw[hr];rfl⟩
  generalize i+gap s i=j at *;rcases a7.out with⟨o,er,ab,ht,a0⟩ | ⟨k,t,m,n,al,ht,a6,a5⟩
  .rw[ht] at a8;replace a8:AA 66 #[pt w.heap.size 0] w1 λ e w'=>e=.panicked (Cu (j+o) er)/\∃j',Mv w.heap.size j' w1 w':=a8
   replace a0:=(show Aside _ from a0);clear a7 ht hr hk;go_wp2_with (go_at_call 66;refine a8.mono ?_;rintro e w2 ⟨rfl,j2,a9⟩);refine⟨rfl,?_⟩;rw[a0.out];exact⟨rfl,Mv.older a3.old a9 a3.rd.there⟩
  .rw[ht] at a8;replace a8:AA 66 #[pt w.heap.size 0] w1 λ e w'=>e=.returned (Cv k ⟨t.toArray⟩ m j)/\Mv w.heap.size (j+n) w1 w':=a8
   clear a7 ht hr hk;by_cases hc:ts.length<4096
   .replace a5:=(show Aside _ from a5 hc);clear a6;have b4:¬(ts.length:Int)=4096:=by omega
    go_wp2_with (first
     |(go_at_call 66;refine a8.mono ?_;rintro e w2 ⟨rfl,a9⟩)
     |(at_builtin;refine wpList_append_own _ rfl _ _ 49 rfl (w.heap.size+1) 93 i0 (.agg #[iv 0,sE,iv 0,iv 0]) 4 40 underlying49 aw av ax ay rfl (by decide) _ ts.length _ rfl (((Us a3.own a9 (by omega)).alloc _).alloc _) ⟨w2.heap.size+1,0,none⟩ 1 1 [iv k,.string ⟨t.toArray⟩,iv m,iv j] rfl rfl ?c1 ?c2 ?c3 ?c4 ?c5 ?_))
    case c1=>
     intro x u hx
     match x,hx with
     | 0,hx=>simp at hx;subst hx;simp[Addr.add]
     | 1,hx=>simp at hx;subst hx;simp[Addr.add]
     | 2,hx=>simp at hx;subst hx;simp[Addr.add]
     | 3,hx=>simp at hx;subst hx;simp[Addr.add]
    case c2=>intro u hu;simp at hu;rcases hu with rfl | rfl | rfl | rfl <;> rfl
    case c3=>unfold maxLen;omega
    case c4=>omega
    case c5=>have h1:=a9.size;have h2:=a3.rd.there;simp;omega
    intro v' w3 hown hgrow hnil;clear hnil;have aa:=a3.move a4 a9 al;have ae:=aa.rd.there;have hB:Below (w.heap.size+1) w2 w3:=(((AF (w.heap.size+1) w2).alloc ae _).alloc (by simp;omega) _).grown hgrow (by simp;omega) (λ x hx=>(aa.own.lt x hx).1);have ad:Tk s w (j+n) (ts ++ [⟨k,t,m,j⟩]) v' w3:=
     ⟨aa.rd.below hB (by omega),aa.env.below hB (by have:=a4.lt;omega),by simpa [Sh,Em] using hown,aa.old.trans (hB.mono (by omega)),al,by simp;omega⟩
    have aj:w3.cell? ⟨w2.heap.size,0,none⟩=some (iv k):=by
     rw[World.cell?_of_block (hgrow.block w2.heap.size (by simp;omega) (λ e=>by have:=(aa.own.lt _ e.symm).2;omega))];simp
    clear hown hgrow a8 a3 a9 hB;rcases a5.out with⟨ah,a0⟩ | ⟨ah,b3,a0⟩
    .have a0:Aside _:=(show Aside _ from a0);clear a5;subst ah;go_wp2;go_ret;rw[a0.out];exact⟨⟨v',rfl,Mh ad.own (by omega)⟩,ad.old⟩
    .have a0:Aside _:=(show Aside _ from a0);have au:¬(k:Int)=5:=by omega
     clear a5;go_wp2;go_roundg (s.size+1 - (j+n))
     case measure=>omega
     case rel=>exact⟨j+n,ts ++ [⟨k,t,m,j⟩],rfl,ad,a0⟩
   .have a0:Aside _:=(show Aside _ from a6 hc);have b0:((ts.length:Int) == 4096)=true:=by have:=a3.few;simp;omega
    clear a6 a5 hc;go_wp2_with (first
     |(go_at_call 66;refine a8.mono ?_;rintro e w2 ⟨rfl,a9⟩)
     |(go_at_call 67;refine (giveUp_any j 36 _).mono ?_;rintro e w3 ⟨rfl,rfl⟩))
    refine⟨rfl,?_⟩;rw[a0.out];exact⟨rfl,(Mv.older a3.old a9 a3.rd.there).alloc (by have:=a9.size;have:=a3.rd.there;omega) _⟩
theorem faultOf_any(a er:Nat)(w:World):AA 39 #[.iface 113 (.agg #[iv a,iv er])] w λ e w'=>e=.returned (.tuple #[iv a,iv er])/\Below w.heap.size w w':=by
 have a0:∀w1:World,(Instr.typeAssert (.iface 113 (.agg #[iv a,iv er])) 20 113 false).run prog w1=.ok (.agg #[iv a,iv er]) w1:=λ _=>by kernel_rfl
 go_enter func39,ntmps39;go_wp2
 go_quiet (fail)
 go_wp2
 go_ret2
 exact⟨rfl,below_drewN ((AF _ _).alloc (AD _) _) _⟩
theorem A3{base:Nat}{e:TypeId}{n:Nat}(h:w.ownsRow base e sz v n xs):∃ao cap,v=.slice ao n cap:=by
 rcases h.2 with⟨hv,h0⟩ | ⟨g,cap,cur,hv,_⟩
 .exact⟨none,0,by rw[hv,h0]⟩
 .exact⟨_,_,hv⟩
theorem Cs{q:Nat}(h:p≠q):(w.setCell ⟨p,0,none⟩ v).cell? ⟨q,0,none⟩=w.cell? ⟨q,0,none⟩:=
 World.cell?_setCell_other _ _ _ _ (by intro e;exact h (congrArg Addr.block e))
theorem Sj(p q r:Addr)(w:World) :
  CallsD prog 38 #[.pointer (some p),.pointer (some q),.pointer (some r)] .returning w λ e u' w'=>e=.returned (.tuple #[])/\u'=.returning/\w'=w:=by
 refine callsD_of_wpS func38 rfl λ c₀ cs hu=>?_
 apply wpS_seq;apply wpS_region;simp[wpOpsS,go_sem,recoverD,hu,ntmps38,Exit.thenS];refine wpS_of_wp ?_;go_wp2;cases c₀
 simp_all [bodyPostS,results,results38]
theorem N8(p q r:Nat)(a er:Nat)(older:List PanicEntry)(w:World)(x y z:Value)(hp:w.cell? ⟨p,0,none⟩=some x)(hq:w.cell? ⟨q,0,none⟩=some y)(hr:w.cell? ⟨r,0,none⟩=some z)
  (fp:w.frozen? ⟨p,0,none⟩=false) (fq:w.frozen? ⟨q,0,none⟩=false) (fr:w.frozen? ⟨r,0,none⟩=false) (hpq:p<q) (hqr:q<r) :
  CallsD prog 38 #[pt p 0,pt q 0,pt r 0] (.panicking ({ v:=.iface 113 (.agg #[iv a,iv er]),recovered:=false } :: older)) w λ e u' w'=>
   e=.returned (.tuple #[])/\u'=.panicking ({ v:=.iface 113 (.agg #[iv a,iv er]),recovered:=true } :: older) /\
   w'.cell? ⟨p,0,none⟩=some sZ/\w'.cell? ⟨q,0,none⟩=some (iv a)/\w'.cell? ⟨r,0,none⟩=some (iv er)/\Below p w w':=by
 refine callsD_of_wpS func38 rfl λ c₀ cs hu=>?_
 apply wpS_seq;apply wpS_region;simp[wpOpsS,go_sem,recoverD,hu,ntmps38,Exit.thenS];refine wpS_of_wp ?_;have lp:p<w.heap.size:=Lib.lt_of_cell hp;have lq:q<w.heap.size:=Lib.lt_of_cell hq;have lr:r<w.heap.size:=Lib.lt_of_cell hr;have e1:∀w1,Below (w.setCell ⟨p,0,none⟩ sZ).heap.size (w.setCell ⟨p,0,none⟩ sZ) w1 ->
   w1.cell? ⟨p,0,none⟩=some sZ/\w1.cell? ⟨q,0,none⟩=some y/\w1.cell? ⟨r,0,none⟩=some z/\w1.frozen? ⟨q,0,none⟩=false/\w1.frozen? ⟨r,0,none⟩=false:=by
  intro w1 hb;have a0:(w.setCell ⟨p,0,none⟩ sZ).heap.size=w.heap.size:=by simp[World.setCell]
  refine⟨?_,?_,?_,?_,?_⟩
  .rw[hb.cell (p:=⟨p,0,none⟩) (by rw[a0];exact lp)];exact World.cell?_setCell_same _ _ _ hp
  .rw[hb.cell (p:=⟨q,0,none⟩) (by rw[a0];exact lq),Cs (by omega)];exact hq
  .rw[hb.cell (p:=⟨r,0,none⟩) (by rw[a0];exact lr),Cs (by omega)];exact hr
  .rw[hb.frozen (p:=⟨q,0,none⟩) (by rw[a0];exact lq),World.frozen?_setCell];exact fq
  .rw[hb.frozen (p:=⟨r,0,none⟩) (by rw[a0];exact lr),World.frozen?_setCell];exact fr
 go_wp2_with (go_at_call 39;refine (faultOf_any a er _).mono ?_;rintro e w1 ⟨rfl,a3⟩;obtain⟨k1,k2,k3,k4,k5⟩:=e1 w1 a3)
 have a4:((w1.setCell ⟨q,0,none⟩ (iv a)).setCell ⟨r,0,none⟩ (iv er)).cell? ⟨p,0,none⟩=some sZ/\((w1.setCell ⟨q,0,none⟩ (iv a)).setCell ⟨r,0,none⟩ (iv er)).cell? ⟨q,0,none⟩=some (iv a) /\
   ((w1.setCell ⟨q,0,none⟩ (iv a)).setCell ⟨r,0,none⟩ (iv er)).cell? ⟨r,0,none⟩=some (iv er)/\Below p w ((w1.setCell ⟨q,0,none⟩ (iv a)).setCell ⟨r,0,none⟩ (iv er)):=by
  refine⟨?_,?_,?_,?_⟩
  .rw[Cs (by omega),Cs (by omega)];exact k1
  .rw[Cs (by omega)];exact World.cell?_setCell_same _ _ _ k2
  .refine World.cell?_setCell_same (u:=z) _ _ _ ?_;rw[Cs (by omega)];exact k3
  .have h0:Below p w w1:=((AF p w).setCell (p:=⟨p,0,none⟩) (AD _) sZ).trans (a3.mono (by simp[World.setCell];omega));exact (h0.setCell (p:=⟨q,0,none⟩) (by show p<=q;omega) _).setCell (p:=⟨r,0,none⟩) (by show p<=r;omega) _
 clear e1 a3 k1 k2 k3 k4 k5 hp hq hr fp fq fr;generalize ((w1.setCell ⟨q,0,none⟩ (iv a)).setCell ⟨r,0,none⟩ (iv er))=w2 at *;cases c₀
 simp_all [bodyPostS,results,results38]
def Ut(res:Lx.Out)(w:World)(e:Ending)(w':World):Prop:=
 match res with
 | .inl ts=>(∃v,e=.returned (.tuple #[v,iv 0,iv 0])/\w'.ownsRow w.heap.size 93 4 v ts.length (Dm ts))/\Below w.heap.size w w'
 | .inr (a,er)=>e=.returned (.tuple #[sZ,iv a,iv er])/\Below w.heap.size w w'
abbrev Ew(w:World):World:=((w.alloc (.cells #[sZ] 49)).alloc (.cells #[iv 0] 3)).alloc (.cells #[iv 0] 27)
theorem Gx(w:World):Below w.heap.size w (Ew w):=(((AF _ _).alloc (AD _) _).alloc (by simp) _).alloc (by simp;omega) _
theorem Ib(w:World):(Ew w).heap.size=w.heap.size+3:=by simp
theorem J4(h:Below (Ew w).heap.size (Ew w) w1) :
  w1.cell? ⟨w.heap.size,0,none⟩=some sZ/\w1.cell? ⟨w.heap.size+1,0,none⟩=some (iv 0)/\w1.cell? ⟨w.heap.size+1+1,0,none⟩=some (iv 0) /\
  w1.frozen? ⟨w.heap.size,0,none⟩=false/\w1.frozen? ⟨w.heap.size+1,0,none⟩=false/\w1.frozen? ⟨w.heap.size+1+1,0,none⟩=false:=by
 have hz:=Ib w;refine⟨?_,?_,?_,?_,?_,?_⟩
 .rw[h.cell (p:=⟨w.heap.size,0,none⟩) (by rw[hz];show w.heap.size<_;omega)];simp[Ew,go_sem]
 .rw[h.cell (p:=⟨w.heap.size+1,0,none⟩) (by rw[hz];show w.heap.size+1<_;omega)];simp[Ew,go_sem]
 .rw[h.cell (p:=⟨w.heap.size+1+1,0,none⟩) (by rw[hz];show w.heap.size+1+1<_;omega)];simp[Ew,go_sem]
 .rw[h.frozen (p:=⟨w.heap.size,0,none⟩) (by rw[hz];show w.heap.size<_;omega)];simp[Ew,go_sem]
 .rw[h.frozen (p:=⟨w.heap.size+1,0,none⟩) (by rw[hz];show w.heap.size+1<_;omega)];simp[Ew,go_sem]
 .rw[h.frozen (p:=⟨w.heap.size+1+1,0,none⟩) (by rw[hz];show w.heap.size+1+1<_;omega)];simp[Ew,go_sem]
theorem Yl(s:ByteArray)(w:World)(hs:16384<s.size)(hm:s.size<=maxLen) :
  AA 18 #[.string s] w λ e w'=>e=.returned (.tuple #[sZ,iv 16384,iv 3])/\Below w.heap.size w w':=by
 unfold maxLen at hm;have hb:∀o1 o2 o3,Below w.heap.size w (((w.alloc o1).alloc o2).alloc o3):=λ o1 o2 o3=>(((AF _ _).alloc (AD _) _).alloc (by simp) _).alloc (by simp;omega) _
 go_enter_defers func18,ntmps18
 go_wp2;simp[bodyPostD,Leaves,settle,results,results18,go_sem];exact hb _ _ _
theorem Wh(s:ByteArray)(w:World)(a4:Env w)(hs:s.size<=16384) :
  AA 18 #[.string s] w λ e w'=>Ut (Lx.lexGo dotC s.data.toList 0 0) w e w':=by
 have a9:∀(fn:Fn) (first cap:Array Value) (w:World),(Instr.makeFunc fn first cap).run prog w=.ok (.func fn first cap) w:=λ _ _ _ _=>rfl
 have a0:=Si s (Ew w) (a4.below (Gx w) a4.lt) hs;generalize Lx.lexGo dotC s.data.toList 0 0=res at a0 ⊢;rcases res with ts | ⟨a,er⟩
 .replace a0:AA 40 #[.string s] (Ew w) λ e w'=>(∃v,e=.returned v/\w'.ownsRow (Ew w).heap.size 93 4 v ts.length (Dm ts))/\Below (Ew w).heap.size (Ew w) w':=a0
  go_enter_defers func18,ntmps18
  go_wp2_with (go_at_call 40;refine a0.mono ?_;rintro e w1 ⟨⟨v,rfl,a3⟩,a5⟩;obtain⟨k0,k1,k2,f0,f1,f2⟩:=J4 a5;obtain⟨ao,cap,hv⟩:=A3 a3;subst hv)
  refine leaves_cons (f:=38) (args:=#[pt w.heap.size 0,pt (w.heap.size+1) 0,pt (w.heap.size+1+1) 0]) (by simp) (by simp[go_sem]) ?_;refine (Sj _ _ _ _).mono ?_;rintro e u' w'' ⟨rfl,rfl,rfl⟩;have hz:=Ib w;have g0:(((w1.setCell ⟨w.heap.size,0,none⟩ (.slice ao ts.length cap)).setCell ⟨w.heap.size+1,0,none⟩ (iv 0)).setCell ⟨w.heap.size+1+1,0,none⟩ (iv 0)).cell? ⟨w.heap.size,0,none⟩=some (.slice ao ts.length cap):=by
   rw[Cs (by omega),Cs (by omega)];exact World.cell?_setCell_same _ _ _ k0
  have g1:(((w1.setCell ⟨w.heap.size,0,none⟩ (.slice ao ts.length cap)).setCell ⟨w.heap.size+1,0,none⟩ (iv 0)).setCell ⟨w.heap.size+1+1,0,none⟩ (iv 0)).cell? ⟨w.heap.size+1,0,none⟩=some (iv 0):=by
   rw[Cs (by omega)];exact World.cell?_setCell_same _ _ _ (by rw[Cs (by omega)];exact k1)
  have g2:(((w1.setCell ⟨w.heap.size,0,none⟩ (.slice ao ts.length cap)).setCell ⟨w.heap.size+1,0,none⟩ (iv 0)).setCell ⟨w.heap.size+1+1,0,none⟩ (iv 0)).cell? ⟨w.heap.size+1+1,0,none⟩=some (iv 0):=
   World.cell?_setCell_same _ _ _ (by rw[Cs (by omega),Cs (by omega)];exact k2)
  have a6:Below w.heap.size w (((w1.setCell ⟨w.heap.size,0,none⟩ (.slice ao ts.length cap)).setCell ⟨w.heap.size+1,0,none⟩ (iv 0)).setCell ⟨w.heap.size+1+1,0,none⟩ (iv 0)):=
   ((((Gx w).trans (a5.mono (by omega))).setCell (p:=⟨w.heap.size,0,none⟩) (by show w.heap.size<=w.heap.size;omega) _).setCell (p:=⟨w.heap.size+1,0,none⟩) (by show w.heap.size<=w.heap.size+1;omega) _).setCell (p:=⟨w.heap.size+1+1,0,none⟩) (by show w.heap.size<=w.heap.size+1+1;omega) _
  have a8:=Mh (ownsRow_setCell_below (ownsRow_setCell_below (ownsRow_setCell_below a3 (a:=⟨w.heap.size,0,none⟩) (by rw[hz];show w.heap.size<_;omega) (.slice ao ts.length cap)) (a:=⟨w.heap.size+1,0,none⟩) (by rw[hz];show w.heap.size+1<_;omega) (iv 0)) (a:=⟨w.heap.size+1+1,0,none⟩) (by rw[hz];show w.heap.size+1+1<_;omega) (iv 0)) (show w.heap.size<=(Ew w).heap.size by omega);generalize (((w1.setCell ⟨w.heap.size,0,none⟩ (.slice ao ts.length cap)).setCell ⟨w.heap.size+1,0,none⟩ (iv 0)).setCell ⟨w.heap.size+1+1,0,none⟩ (iv 0))=w2 at *;simp[Leaves,settle,results,results18,go_sem,g0,g1,g2];exact⟨⟨_,rfl,a8⟩,a6⟩
 .replace a0:AA 40 #[.string s] (Ew w) λ e w'=>e=.panicked (Cu a er)/\Below (Ew w).heap.size (Ew w) w':=a0
  go_enter_defers func18,ntmps18
  go_wp2_with (go_at_call 40;refine a0.mono ?_;rintro e w1 ⟨rfl,a5⟩;obtain⟨k0,k1,k2,f0,f1,f2⟩:=J4 a5)
  refine leaves_cons (f:=38) (args:=#[pt w.heap.size 0,pt (w.heap.size+1) 0,pt (w.heap.size+1+1) 0]) (by simp) (by simp[go_sem]) ?_;refine (N8 w.heap.size (w.heap.size+1) (w.heap.size+1+1) a er [] _ _ _ _ k0 k1 k2 f0 f1 f2 (by omega) (by omega)).mono ?_;rintro e u' w'' ⟨rfl,rfl,g0,g1,g2,a7⟩;have a6:Below w.heap.size w w'':=((Gx w).trans (a5.mono (by rw[Ib];omega))).trans a7;simp[Leaves,settle,results,results18,go_sem,g0,g1,g2];exact⟨rfl,a6⟩
end
section
namespace Px
open Lx (Tok B)
inductive Ex where
 | mk (kind op num:Nat) (text:B) (args:List Ex) (place:Nat)
structure Sl where
 name:B
 type:B
 place:Nat
inductive St where
 | mk (kind:Nat) (name:B) (es:List Ex) (body other:List St) (place:Nat)
structure Fn where
 name:B
 on:Bool
 params:List Sl
 result:B
 body:List St
 place:Nat
structure Pr where
 version:Nat
 states:List Sl
 fns:List Fn
abbrev R(α:Type):=(α × List Tok) ⊕ (Nat × Nat)
abbrev P(α:Type):=List Tok->R α
def place:List Tok->Nat
 | t :: _=>t.place
 | []=>0
def fail{α:Type}(e:Nat)(l:List Tok):R α:=.inr (place l,e)
def bind{α β:Type}(r:R α)(f:α->List Tok->R β):R β:=
 match r with
 | .inl (x,l)=>f x l
 | .inr e=>.inr e
def sees(k:Nat)(x:B):List Tok->Bool
 | t :: _=>t.kind == k && t.text == x
 | []=>false
def words:List B:=[[118,101,114,115,105,111,110],[115,116,97,116,101],[102,110],[111,110],[108,101,116],[115,101,116],[100,101,108],[105,102],[101,108,115,101],[102,111,114],[116,111],[114,101,116],[116,114,117,101],[102,97,108,115,101],[105,110,116],[98,111,111,108],[116,101,120,116]]
def reserved(x:B):Bool:=words.contains x
def needK(k:Nat)(x:B)(l:List Tok):R Unit:=if sees k x l then .inl ((),l.tail) else fail 31 l
def need(x:B)(l:List Tok):R Unit:=needK 4 x l
def name(l:List Tok):R Tok:=
 match l with
 | t :: r=>if t.kind=1/\reserved t.text=false then .inl (t,r) else fail 31 l
 | []=>fail 31 l
def number(l:List Tok):R Nat:=
 match l with
 | t :: r=>if t.kind=2 then .inl (t.num,r) else fail 31 l
 | []=>fail 31 l
def key(l:List Tok):R B:=if sees 1 [105,110,116] l then .inl ([105,110,116],l.tail) else if sees 1 [116,101,120,116] l then .inl ([116,101,120,116],l.tail) else fail 31 l
def typ:Nat->P B
 | 0,l=>fail 32 l
 | k+1,l=>
  if sees 1 [105,110,116] l then .inl ([105,110,116],l.tail)
  else if sees 1 [98,111,111,108] l then .inl ([98,111,111,108],l.tail)
  else if sees 1 [116,101,120,116] l then .inl ([116,101,120,116],l.tail)
  else if sees 4 [91] l then bind (typ k l.tail) λ t l1=>bind (need [93] l1) λ _ l2=>.inl ([91] ++ t ++ [93],l2)
  else if sees 4 [123] l then bind (key l.tail) λ a l1=>bind (need [58] l1) λ _ l2=>bind (typ k l2) λ t l3=>bind (need [125] l3) λ _ l4=>.inl ([123] ++ a ++ [58] ++ t ++ [125],l4)
  else fail 31 l
def slot(l:List Tok):R Sl:=bind (name l) λ t l1=>bind (need [58] l1) λ _ l2=>bind (typ 4 l2) λ y l3=>.inl (⟨t.text,y,t.place⟩,l3)
def sep(n:Nat)(l:List Tok):R Unit:=if n=0 then .inl ((),l) else need [44] l
def items{α:Type}(q:P α):Nat->Nat->List α->P (List α)
 | 0,_,_,_=>.inr (0,0)
 | f+1,n,acc,l=>if sees 4 [41] l then .inl (acc,l.tail) else bind (sep n l) λ _ l1=>bind (q l1) λ x l2=>items q f (n+1) (acc ++ [x]) l2
def levelOf(t:Tok):Nat × Nat:=
 if t.kind=4 then
  if t.text=[124,124] then (1,1) else if t.text=[38,38] then (2,2)
  else if t.text=[61,61] then (3,3) else if t.text=[33,61] then (3,4) else if t.text=[60] then (3,5) else if t.text=[60,61] then (3,6) else if t.text=[62] then (3,7) else if t.text=[62,61] then (3,8)
  else if t.text=[43] then (4,9) else if t.text=[45] then (4,10)
  else if t.text=[42] then (5,11) else if t.text=[47] then (5,12) else if t.text=[37] then (5,13) else (0,0)
 else (0,0)
def chain(n:Nat)(q:P Ex):Nat->Nat->Ex->P Ex
 | 0,_,_,_=>.inr (0,0)
 | _+1,_,_,[]=>.inr (0,0)
 | f+1,c,acc,t :: r=>
  if (levelOf t).1=n then
   if n=3/\0<c then fail 31 (t :: r)
   else bind (q r) λ x l1=>chain n q f (c+1) (.mk 15 (levelOf t).2 0 [] [acc,x] t.place) l1
  else .inl (acc,t :: r)
def level(n:Nat)(q:P Ex)(l:List Tok):R Ex:=bind (q l) λ x l1=>chain n q (l1.length+1) 0 x l1
def lvl(q:P Ex):P Ex:=level 1 (level 2 (level 3 (level 4 (level 5 q))))
def ats(e:P Ex):Nat->Ex->P Ex
 | 0,_,_=>.inr (0,0)
 | f+1,acc,l=>if sees 4 [91] l then bind (e l.tail) λ x l1=>bind (need [93] l1) λ _ l2=>ats e f (.mk 12 0 0 [] [acc,x] (place l)) l2 else .inl (acc,l)
def primary(e:P Ex)(l:List Tok):R Ex:=
 match l with
 | []=>fail 31 l
 | t :: r=>
  if t.kind=2 then .inl (.mk 1 0 t.num [] [] t.place,r)
  else if t.kind=3 then .inl (.mk 3 0 0 t.text [] t.place,r)
  else if sees 1 [116,114,117,101] l then .inl (.mk 2 0 1 [] [] t.place,r)
  else if sees 1 [102,97,108,115,101] l then .inl (.mk 2 0 0 [] [] t.place,r)
  else if sees 4 [40] l then bind (e r) λ x l1=>bind (need [41] l1) λ _ l2=>.inl (x,l2)
  else bind (name l) λ t l1=>if sees 4 [40] l1 then bind (items e (l1.length+1) 0 [] l1.tail) λ xs l2=>.inl (.mk 7 0 0 t.text xs t.place,l2) else .inl (.mk 6 0 0 t.text [] t.place,l1)
def unary:Nat->P Ex
 | 0,l=>fail 32 l
 | k+1,l=>
  if sees 4 [45] l then bind (unary k l.tail) λ x l1=>.inl (.mk 13 0 0 [] [x] (place l),l1)
  else if sees 4 [33] l then bind (unary k l.tail) λ x l1=>.inl (.mk 14 0 0 [] [x] (place l),l1)
  else bind (primary (lvl (unary k)) l) λ x l1=>ats (lvl (unary k)) (l1.length+1) x l1
def Lt(k:Nat):P Ex:=lvl (unary k)
def opt(e:P Ex)(l:List Tok):R (List Ex):=if sees 4 [91] l then bind (e l.tail) λ x l1=>bind (need [93] l1) λ _ l2=>.inl ([x],l2) else .inl ([],l)
def other(blk:P (List St))(l:List Tok):R (List St):=if sees 1 [101,108,115,101] l then blk l.tail else .inl ([],l)
def stmt(e:P Ex)(blk:P (List St))(l:List Tok):R St:=
 if sees 1 [108,101,116] l then bind (name l.tail) λ t l1=>bind (need [61] l1) λ _ l2=>bind (e l2) λ x l3=>bind (need [59] l3) λ _ l4=>.inl (.mk 1 t.text [x] [] [] (place l),l4)
 else if sees 1 [115,101,116] l then bind (name l.tail) λ t l1=>bind (opt e l1) λ xs l2=>bind (need [61] l2) λ _ l3=>bind (e l3) λ x l4=>bind (need [59] l4) λ _ l5=>.inl (.mk 2 t.text (xs ++ [x]) [] [] (place l),l5)
 else if sees 1 [100,101,108] l then bind (name l.tail) λ t l1=>bind (need [91] l1) λ _ l2=>bind (e l2) λ x l3=>bind (need [93] l3) λ _ l4=>bind (need [59] l4) λ _ l5=>.inl (.mk 3 t.text [x] [] [] (place l),l5)
 else if sees 1 [105,102] l then bind (e l.tail) λ x l1=>bind (blk l1) λ b l2=>bind (other blk l2) λ c l3=>.inl (.mk 4 [] [x] b c (place l),l3)
 else if sees 1 [102,111,114] l then bind (name l.tail) λ t l1=>bind (needK 1 [116,111] l1) λ _ l2=>bind (e l2) λ x l3=>bind (blk l3) λ b l4=>.inl (.mk 5 t.text [x] b [] (place l),l4)
 else if sees 1 [114,101,116] l then bind (e l.tail) λ x l1=>bind (need [59] l1) λ _ l2=>.inl (.mk 6 [] [x] [] [] (place l),l2)
 else fail 31 l
def stmts(q:P St):Nat->List St->P (List St)
 | 0,_,_=>.inr (0,0)
 | f+1,acc,l=>if sees 4 [125] l then .inl (acc,l.tail) else bind (q l) λ s l1=>stmts q f (acc ++ [s]) l1
def block:Nat->P (List St)
 | 0,l=>fail 32 l
 | k+1,l=>bind (need [123] l) λ _ l1=>stmts (stmt (Lt k) (block k)) (l1.length+1) [] l1
def function(on:Bool)(l:List Tok):R Fn:=bind (name l) λ t l1=>bind (need [40] l1) λ _ l2=>bind (items slot (l2.length+1) 0 [] l2) λ ps l3=>bind (need [58] l3) λ _ l4=>
 bind (typ 4 l4) λ y l5=>bind (block 24 l5) λ b l6=>.inl (⟨t.text,on,ps,y,b,t.place⟩,l6)
def parts:Nat->Pr->P Pr
 | 0,_,_=>.inr (0,0)
 | _+1,_,[]=>.inr (0,0)
 | f+1,p,t :: r=>
  if t.kind=5 then .inl (p,t :: r)
  else if sees 1 [115,116,97,116,101] (t :: r) then bind (slot r) λ s l1=>bind (need [59] l1) λ _ l2=>parts f { p with states:=p.states ++ [s] } l2
  else if sees 1 [102,110] (t :: r) then bind (function false r) λ g l1=>parts f { p with fns:=p.fns ++ [g] } l1
  else if sees 1 [111,110] (t :: r) then bind (function true r) λ g l1=>parts f { p with fns:=p.fns ++ [g] } l1
  else fail 31 (t :: r)
def program(l:List Tok):R Pr:=bind (needK 1 [118,101,114,115,105,111,110] l) λ _ l1=>bind (number l1) λ v l2=>bind (need [59] l2) λ _ l3=>parts (l3.length+1) ⟨v,[],[]⟩ l3
def parse(b:B):Pr ⊕ (Nat × Nat):=
 match Lx.lex true b with
 | .inr x=>.inr x
 | .inl ts=>
  match program ts with
  | .inl (p,_)=>.inl p
  | .inr x=>.inr x
/- How a reading goes on. -/
def Good:List Tok->Prop
 | []=>False
 | [t]=>t.kind=5
 | t :: u :: r=>t.kind≠5/\Good (u :: r)
theorem Good.tail{t:Tok}{r:List Tok}(h:Good (t :: r))(hk:t.kind≠5):Good r:=by
 match r,h with
 | [],h=>exact absurd h hk
 | u :: r,h=>exact h.2
theorem sees_head{k:Nat}{x:B}{l:List Tok}(h:sees k x l=true):∃t r,l=t :: r/\t.kind=k/\t.text=x:=by
 match l,h with
 | t :: r,h=>simp[sees] at h;exact⟨t,r,rfl,h.1,h.2⟩
structure Adv(n:Nat)(l l':List Tok):Prop where
 good:Good l'
 suf:l' <:+ l
 less:l'.length+n<=l.length
theorem Adv.refl{l:List Tok}(h:Good l):Adv 0 l l:=⟨h,suffix_refl _,by omega⟩
theorem Adv.trans{n:Nat}{l l1 l2:List Tok}(a:Adv m l l1)(b:Adv n l1 l2):Adv (m+n) l l2:=⟨b.good,b.suf.trans a.suf,by have:=a.less;have:=b.less;omega⟩
theorem Adv.mono{n:Nat}{l l1:List Tok}(a:Adv m l l1)(h:n<=m):Adv n l l1:=⟨a.good,a.suf,by have:=a.less;omega⟩
structure Res{α:Type}(n:Nat)(l:List Tok)(r:R α):Prop where
 ok:∀x l',r=.inl (x,l')->Adv n l l'
 bad:∀a e,r=.inr (a,e)->(∃t∈l,t.place=a)/\(e=31\/e=32)
theorem Res.pure{α:Type}{n:Nat}{l l':List Tok}{x:α}(h:Adv n l l'):Res n l (.inl (x,l')):=⟨λ y l2 e=>by simp at e;rw[<-e.2];exact h,λ a e h=>by simp at h⟩
theorem Res.fail{α:Type}{n e:Nat}{l:List Tok}(h:Good l)(he:e=31\/e=32):Res (α:=α) n l (fail e l):=by
 refine⟨λ x l' h=>by simp[Px.fail] at h,λ a e' h'=>?_⟩
 match l,h with
 | t :: r,_=>
  simp[Px.fail,place] at h';exact⟨⟨t,by simp,h'.1⟩,by rw[<-h'.2];exact he⟩
theorem Res.bind{α β:Type}{m n:Nat}{l:List Tok}{r:R α}{f:α->List Tok->R β}(h:Res m l r)(hf:∀x l',r=.inl (x,l')->Adv m l l'->Res n l' (f x l')):Res (m+n) l (bind r f):=by
 match r,h,hf with
 | .inl (x,l'),h,hf=>
  have ha:=h.ok x l' rfl;have hr:=hf x l' rfl ha;refine⟨λ y l2 e=>ha.trans (hr.ok y l2 e),λ a e h'=>?_⟩;obtain⟨⟨t,ht,hp⟩,he⟩:=hr.bad a e h';exact⟨⟨t,ha.suf.subset ht,hp⟩,he⟩
 | .inr (a,e),h,_=>exact⟨λ x l' h=>by simp[Px.bind] at h,λ a' e' h'=>h.bad a' e' (by simpa [Px.bind] using h')⟩
theorem Res.mono{α:Type}{n:Nat}{l:List Tok}{r:R α}(h:Res m l r)(hn:n<=m):Res n l r:=⟨λ x l' e=>(h.ok x l' e).mono hn,h.bad⟩
theorem Res.weak{α:Type}{l:List Tok}{r:R α}(h:Res m l r):Res 0 l r:=h.mono (AO _)
theorem Res.bind1{α β:Type}{l:List Tok}{r:R α}{f:α->List Tok->R β}(h:Res 1 l r)(hf:∀x l',r=.inl (x,l')->Adv 1 l l'->Res 0 l' (f x l')):Res 1 l (Px.bind r f):=h.bind hf
theorem Res.bind0{α β:Type}{l:List Tok}{r:R α}{f:α->List Tok->R β}(h:Res 0 l r)(hf:∀x l',r=.inl (x,l')->Adv 0 l l'->Res 0 l' (f x l')):Res 0 l (Px.bind r f):=h.bind hf
theorem Res.after{α:Type}{l l1:List Tok}{r:R α}(a:Adv 1 l l1)(h:Res 0 l1 r):Res 1 l r:=by
 refine⟨λ x l' e=>a.trans (h.ok x l' e),λ b e h'=>?_⟩;obtain⟨⟨t,ht,hp⟩,he⟩:=h.bad b e h';exact⟨⟨t,a.suf.subset ht,hp⟩,he⟩
theorem Res.here{α:Type}{l:List Tok}{x:α}(h:Good l):Res 0 l (.inl (x,l)):=Res.pure (Adv.refl h)
theorem sees_adv{k:Nat}{x:B}{l:List Tok}(h:sees k x l=true)(hg:Good l)(hk:k≠5):Adv 1 l l.tail:=by
 obtain⟨t,r,rfl,h1,_⟩:=sees_head h;exact⟨hg.tail (by omega),AE _ _,by simp⟩
theorem sees1{x:B}{l:List Tok}(h:sees 1 x l=true)(hg:Good l):Adv 1 l l.tail:=sees_adv h hg (by decide)
theorem sees4{x:B}{l:List Tok}(h:sees 4 x l=true)(hg:Good l):Adv 1 l l.tail:=sees_adv h hg (by decide)
theorem F1{k:Nat}{x:B}{l:List Tok}(hg:Good l)(hk:k≠5):Res 1 l (needK k x l):=by
 unfold needK;split
 .rename_i h;exact Res.pure (sees_adv h hg hk)
 .exact Res.fail hg (AI rfl)
theorem need_res{x:B}{l:List Tok}(hg:Good l):Res 1 l (need x l):=F1 hg (by decide)
theorem name_res{l:List Tok}(hg:Good l):Res 1 l (name l):=by
 match l,hg with
 | t :: r,hg=>
  simp only[name];split
  .rename_i h;exact Res.pure ⟨hg.tail (by omega),AE _ _,by simp⟩
  .exact Res.fail hg (AI rfl)
theorem R5{l:List Tok}(hg:Good l):Res 1 l (number l):=by
 match l,hg with
 | t :: r,hg=>
  simp only[number];split
  .rename_i h;exact Res.pure ⟨hg.tail (by omega),AE _ _,by simp⟩
  .exact Res.fail hg (AI rfl)
theorem Ag0{l:List Tok}(hg:Good l):Res 1 l (key l):=by
 unfold key;split
 .rename_i h;exact Res.pure (sees1 h hg)
 .split
  .rename_i h;exact Res.pure (sees1 h hg)
  .exact Res.fail hg (AI rfl)
def Ok{α:Type}(q:P α):Prop:=∀l,Good l->Res 1 l (q l)
theorem N0:∀k,Ok (typ k)
 | 0,l,hg=>Res.fail hg (AJ rfl)
 | k+1,l,hg=>by
  simp only[typ];split
  .rename_i h;exact Res.pure (sees1 h hg)
  split
  .rename_i h;exact Res.pure (sees1 h hg)
  split
  .rename_i h;exact Res.pure (sees1 h hg)
  split
  .rename_i h;have a:=sees4 h hg;exact Res.after a ((N0 k _ a.good).weak.bind0 λ t l1 _ a1=>(need_res a1.good).weak.bind0 λ _ l2 _ a2=>Res.here a2.good)
  split
  .rename_i h;have a:=sees4 h hg;exact Res.after a ((Ag0 a.good).weak.bind0 λ t l1 _ a1=>(need_res a1.good).weak.bind0 λ _ l2 _ a2=>(N0 k _ a2.good).weak.bind0 λ _ l3 _ a3=>(need_res a3.good).weak.bind0 λ _ l4 _ a4=>Res.here a4.good)
  .exact Res.fail hg (AI rfl)
theorem slot_ok:Ok slot:=λ l hg=>(name_res hg).bind1 λ t l1 _ a1=>(need_res a1.good).weak.bind0 λ _ l2 _ a2=>(N0 4 _ a2.good).weak.bind0 λ _ l3 _ a3=>Res.here a3.good
theorem sep_res{n:Nat}{l:List Tok}(hg:Good l):Res 0 l (sep n l):=by
 unfold sep;split
 .exact Res.here hg
 .exact (need_res hg).weak
theorem Ia{α:Type}{q:P α}(hq:Ok q):∀(f n:Nat) (acc:List α) (l:List Tok),Good l->l.length<f->Res 0 l (items q f n acc l)
 | 0,_,_,_,_,h=>by omega
 | f+1,n,acc,l,hg,h=>by
  simp only[items];split
  .rename_i hs;exact (Res.pure (sees4 hs hg)).weak
  .exact (sep_res hg).bind0 λ _ l1 _ a1=>(hq l1 a1.good).bind1 (λ x l2 _ a2=>Ia hq f (n+1) _ l2 a2.good (by have:=a1.less;have:=a2.less;omega)) |>.weak
theorem Mb{n:Nat}{q:P Ex}(hq:Ok q)(hn:0<n):∀(f c:Nat) (acc:Ex) (l:List Tok),Good l->l.length<f->Res 0 l (chain n q f c acc l)
 | 0,_,_,_,_,h=>by omega
 | f+1,c,acc,[],hg,h=>by exact absurd hg (by simp[Good])
 | f+1,c,acc,t :: r,hg,h=>by
  simp only[chain];split
  .rename_i hl;split
   .exact Res.fail hg (AI rfl)
   .have hk:t.kind≠5:=by
     intro h5;have:levelOf t=(0,0):=by unfold levelOf;rw[if_neg (by omega)]
     rw[this] at hl;simp at hl;omega
    have a3:=hg.tail hk;have a0:Adv 1 (t :: r) r:=⟨a3,AE _ _,by simp⟩;exact (Res.after a0 ((hq r a3).weak.bind0 λ x l1 _ a1=>Mb hq hn f (c+1) _ l1 a1.good (by have:=a1.less;simp at h;omega))).weak
  .exact Res.here hg
theorem level_ok{n:Nat}{q:P Ex}(hq:Ok q)(hn:0<n):Ok (level n q):=λ l hg=>(hq l hg).bind1 λ x l1 _ a1=>Mb hq hn _ _ _ _ a1.good (Nat.lt_succ_self _)
theorem R6{q:P Ex}(hq:Ok q):Ok (lvl q):=level_ok (level_ok (level_ok (level_ok (level_ok hq (by decide)) (by decide)) (by decide)) (by decide)) (by decide)
theorem Ul{e:P Ex}(he:Ok e):∀(f:Nat) (acc:Ex) (l:List Tok),Good l->l.length<f->Res 0 l (ats e f acc l)
 | 0,_,_,_,h=>by omega
 | f+1,acc,l,hg,h=>by
  simp only[ats];split
  .rename_i hs;have a:=sees4 hs hg;exact (Res.after a ((he _ a.good).weak.bind0 λ x l1 _ a1=>(need_res a1.good).weak.bind0 λ _ l2 _ a2=>Ul he f _ l2 a2.good (by have:=a.less;have:=a1.less;have:=a2.less;omega))).weak
  .exact Res.here hg
theorem J0{e:P Ex}(he:Ok e):Ok (primary e):=by
 intro l hg
 match l,hg with
 | t :: r,hg=>
  simp only[primary];have a0:t.kind≠5->Adv 1 (t :: r) r:=λ hk=>⟨hg.tail hk,AE _ _,by simp⟩
  split
  .exact Res.pure (a0 (by omega))
  split
  .exact Res.pure (a0 (by omega))
  split
  .rename_i h;exact Res.pure (sees1 h hg)
  split
  .rename_i h;exact Res.pure (sees1 h hg)
  split
  .rename_i h;have a:=sees4 h hg;exact Res.after a ((he _ a.good).weak.bind0 λ x l1 _ a1=>(need_res a1.good).weak.bind0 λ _ l2 _ a2=>Res.here a2.good)
  .refine (name_res hg).bind1 λ t1 l1 _ a1=>?_
   split
   .rename_i h;have a:=sees4 h a1.good;exact (Res.after a ((Ia he _ _ _ _ a.good (by have:=a.less;omega)).bind0 λ xs l2 _ a2=>Res.here a2.good)).weak
   .exact Res.here a1.good
theorem unary_ok:∀k,Ok (unary k)
 | 0,l,hg=>Res.fail hg (AJ rfl)
 | k+1,l,hg=>by
  simp only[unary];split
  .rename_i h;have a:=sees4 h hg;exact Res.after a ((unary_ok k _ a.good).weak.bind0 λ x l1 _ a1=>Res.here a1.good)
  split
  .rename_i h;have a:=sees4 h hg;exact Res.after a ((unary_ok k _ a.good).weak.bind0 λ x l1 _ a1=>Res.here a1.good)
  .exact (J0 (R6 (unary_ok k)) l hg).bind1 λ x l1 _ a1=>Ul (R6 (unary_ok k)) _ _ _ a1.good (Nat.lt_succ_self _)
theorem expr_ok(k:Nat):Ok (Lt k):=R6 (unary_ok k)
theorem Um{e:P Ex}(he:Ok e){l:List Tok}(hg:Good l):Res 0 l (opt e l):=by
 unfold opt;split
 .rename_i h;have a:=sees4 h hg;exact (Res.after a ((he _ a.good).weak.bind0 λ x l1 _ a1=>(need_res a1.good).weak.bind0 λ _ l2 _ a2=>Res.here a2.good)).weak
 .exact Res.here hg
theorem Wc{b:P (List St)}(hb:Ok b){l:List Tok}(hg:Good l):Res 0 l (other b l):=by
 unfold other;split
 .rename_i h;have a:=sees1 h hg;exact (Res.after a (hb _ a.good).weak).weak
 .exact Res.here hg
theorem N1{e:P Ex}{b:P (List St)}(he:Ok e)(hb:Ok b):Ok (stmt e b):=by
 intro l hg;unfold stmt;split
 .rename_i h;have a:=sees1 h hg;exact Res.after a ((name_res a.good).weak.bind0 λ t l1 _ a1=>(need_res a1.good).weak.bind0 λ _ l2 _ a2=>(he _ a2.good).weak.bind0 λ x l3 _ a3=>(need_res a3.good).weak.bind0 λ _ l4 _ a4=>Res.here a4.good)
 split
 .rename_i h;have a:=sees1 h hg;exact Res.after a ((name_res a.good).weak.bind0 λ t l1 _ a1=>(Um he a1.good).bind0 λ xs l2 _ a2=>(need_res a2.good).weak.bind0 λ _ l3 _ a3=>(he _ a3.good).weak.bind0 λ x l4 _ a4=>(need_res a4.good).weak.bind0 λ _ l5 _ a5=>Res.here a5.good)
 split
 .rename_i h;have a:=sees1 h hg;exact Res.after a ((name_res a.good).weak.bind0 λ t l1 _ a1=>(need_res a1.good).weak.bind0 λ _ l2 _ a2=>(he _ a2.good).weak.bind0 λ x l3 _ a3=>(need_res a3.good).weak.bind0 λ _ l4 _ a4=>(need_res a4.good).weak.bind0 λ _ l5 _ a5=>Res.here a5.good)
 split
 .rename_i h;have a:=sees1 h hg;exact Res.after a ((he _ a.good).weak.bind0 λ x l1 _ a1=>(hb _ a1.good).weak.bind0 λ _ l2 _ a2=>(Wc hb a2.good).bind0 λ _ l3 _ a3=>Res.here a3.good)
 split
 .rename_i h;have a:=sees1 h hg;exact Res.after a ((name_res a.good).weak.bind0 λ t l1 _ a1=>(F1 a1.good (by decide)).weak.bind0 λ _ l2 _ a2=>(he _ a2.good).weak.bind0 λ x l3 _ a3=>(hb _ a3.good).weak.bind0 λ _ l4 _ a4=>Res.here a4.good)
 split
 .rename_i h;have a:=sees1 h hg;exact Res.after a ((he _ a.good).weak.bind0 λ x l1 _ a1=>(need_res a1.good).weak.bind0 λ _ l2 _ a2=>Res.here a2.good)
 .exact Res.fail hg (AI rfl)
theorem Mc{q:P St}(hq:Ok q):∀(f:Nat) (acc:List St) (l:List Tok),Good l->l.length<f->Res 0 l (stmts q f acc l)
 | 0,_,_,_,h=>by omega
 | f+1,acc,l,hg,h=>by
  simp only[stmts];split
  .rename_i hs;exact (Res.pure (sees4 hs hg)).weak
  .exact ((hq l hg).bind1 λ x l1 _ a1=>Mc hq f _ l1 a1.good (by have:=a1.less;omega)).weak
theorem Hg:∀k,Ok (block k)
 | 0,l,hg=>Res.fail hg (AJ rfl)
 | k+1,l,hg=>(need_res hg).bind1 λ _ l1 _ a1=>Mc (N1 (expr_ok k) (Hg k)) _ _ _ a1.good (Nat.lt_succ_self _)
theorem function_ok(on:Bool):Ok (function on):=λ l hg=>(name_res hg).bind1 λ t l1 _ a1=>(need_res a1.good).weak.bind0 λ _ l2 _ a2=>(Ia slot_ok _ _ _ _ a2.good (Nat.lt_succ_self _)).bind0 λ ps l3 _ a3=>(need_res a3.good).weak.bind0 λ _ l4 _ a4=>
 (N0 4 _ a4.good).weak.bind0 λ y l5 _ a5=>(Hg 24 _ a5.good).weak.bind0 λ b l6 _ a6=>Res.here a6.good
theorem F2:∀(f:Nat) (p:Pr) (l:List Tok),Good l->l.length<f->Res 0 l (parts f p l)
 | 0,_,_,_,h=>by omega
 | f+1,p,[],hg,h=>by exact absurd hg (by simp[Good])
 | f+1,p,t :: r,hg,h=>by
  simp only[parts];split
  .exact Res.here hg
  split
  .rename_i hs;have a:=sees1 hs hg;exact (Res.after a ((slot_ok _ a.good).weak.bind0 λ s l1 _ a1=>(need_res a1.good).weak.bind0 λ _ l2 _ a2=>F2 f _ l2 a2.good (by have:=a.less;have:=a1.less;have:=a2.less;omega))).weak
  split
  .rename_i hs;have a:=sees1 hs hg;exact (Res.after a ((function_ok _ _ a.good).weak.bind0 λ s l1 _ a1=>F2 f _ l1 a1.good (by have:=a.less;have:=a1.less;omega))).weak
  split
  .rename_i hs;have a:=sees1 hs hg;exact (Res.after a ((function_ok _ _ a.good).weak.bind0 λ s l1 _ a1=>F2 f _ l1 a1.good (by have:=a.less;have:=a1.less;omega))).weak
  .exact Res.fail hg (AI rfl)
theorem program_ok:Ok program:=λ l hg=>(F1 hg (by decide)).bind1 λ _ l1 _ a1=>(R5 a1.good).weak.bind0 λ v l2 _ a2=>(need_res a2.good).weak.bind0 λ _ l3 _ a3=>F2 _ _ _ a3.good (Nat.lt_succ_self _)
end Px
end
section
open Go.RowKit
theorem Uu(s:ByteArray)(w:World)(a0:Env w)(hm:s.size<=maxLen) :
  AA 18 #[.string s] w λ e w'=>Ut (Lx.lex dotC s.data.toList) w e w':=by
 have hl:s.data.toList.length=s.size:=by simp
 unfold Lx.lex;rw[hl];by_cases hs:16384<s.size
 .rw[if_pos hs];exact Yl s w hs hm
 .rw[if_neg hs];exact Wh s w a0 (by omega)
theorem Sk{base:Nat}{e:TypeId}{n:Nat}(h:w.ownsRow base e sz v n xs)(hn:0<n) :
  ∃g cap,v=sL g 0 n cap/\base<=g/\g<w.heap.size/\(∀k u,xs[k]?=some u->w.cell? ⟨g,k,none⟩=some u):=by
 obtain⟨h1,h2⟩:=h;rcases h2 with⟨_,h0⟩ | ⟨g,cap,cur,hv,hg,hh,_,_,_,ht⟩
 .omega
 .refine⟨g,cap,hv,hg,(AB hh).1,λ k u hk=>?_⟩;rw[Lib.cell_of_heap hh];rw[<-ht,List.getElem?_take] at hk;split at hk
  .simpa using hk
  .simp at hk
def plainB(l:AQ):Bool:=decide (l.length<=256) && l.all Lx.isPlain
def wordB(l:AQ):Bool:=match l with
 | []=>false
 | c :: r=>decide ((c :: r).length<=16) && (Lx.isLetter c && (c :: r).all Lx.isPart)
theorem Fg(s:ByteArray):s.data.toList.length=s.size:=by simp
theorem Ym(p:UInt8->Bool)(l:AQ):decide ((l.takeWhile p).length=l.length)=l.all p:=by
 rw[Bool.eq_iff_iff];simp only[decide_eq_true_eq];exact Lx.tw_all
theorem Wi(s:ByteArray)(w:World)(hs:s.size<=maxLen):AA 210 #[.string s] w λ e w'=>e=.returned (.bool (plainB s.data.toList))/\w'=w:=by
 have hc:=count_any s 134 Lx.isPlain w hs Am7 Am9;have hl:=Fg s;have a0:=Lx.tw_le (p:=Lx.isPlain) s.data.toList;have ha:=Ym Lx.isPlain s.data.toList;unfold plainB;rw[hl,<-ha,hl];clear ha;generalize (s.data.toList.takeWhile Lx.isPlain).length=k at *;unfold maxLen at hs;by_cases h:s.size<=256
 .go_enter func210,ntmps210;go_wp2_with (go_at_call 129;refine hc.mono ?_;rintro e w' ⟨rfl,rfl⟩);go_ret;exact⟨ret_bool (by rw[Bool.eq_iff_iff];simp;omega),rfl⟩
 .go_enter func210,ntmps210;go_wp2;go_ret;exact⟨ret_bool (by simp[h]),rfl⟩
theorem Ic(s:ByteArray)(h:0<s.size):s.data.toList=s[0] :: s.data.toList.tail:=by
 have e:=Dk s 0 h;simpa using e
theorem Yn(h:s.size=0):s=⟨#[]⟩:=Ev (by
 have:=Fg s;rw[h] at this;rw[eq_nil_of_length_eq_zero this])
theorem An2(h:0<s.size):(s.toList == [])=false:=by
 rw[ByteArray.toList_eq,Ic s h];rfl
theorem Yo(s:ByteArray)(w:World)(hs:s.size<=maxLen):AA 125 #[.string s] w λ e w'=>e=.returned (.bool (wordB s.data.toList))/\w'=w:=by
 have hc:=count_any s 130 Lx.isPart w hs X6 X7;have hl:=Fg s;have a3:=Lx.tw_le (p:=Lx.isPart) s.data.toList;have ha:=Ym Lx.isPart s.data.toList;unfold maxLen at hs;by_cases h0:0<s.size
 .have a0:=An2 h0;have hw:Aside (wordB s.data.toList=(decide (s.size<=16) && (Lx.isLetter s[0] && decide ((s.data.toList.takeWhile Lx.isPart).length=s.size)))):=by
   show _=_;rw[<-hl,ha]
   conv=>lhs;rw[Ic s h0]
   conv=>rhs;rw[Ic s h0]
   rfl
  clear ha;generalize (s.data.toList.takeWhile Lx.isPart).length=k at *;by_cases h:s.size<=16
  .rcases hlt:Lx.isLetter s[0] with _ | _
   .go_enter func125,ntmps125;go_wp2_with (first
     |(go_at_call 100;refine (isLetter_any _ _).mono ?_;rw[hlt];rintro e w' ⟨rfl,rfl⟩)
     |(go_at_call 129;refine hc.mono ?_;rintro e w' ⟨rfl,rfl⟩))
    go_ret;exact⟨ret_bool (by rw[hw.out,hlt];simp),rfl⟩
   .go_enter func125,ntmps125;go_wp2_with (first
     |(go_at_call 100;refine (isLetter_any _ _).mono ?_;rw[hlt];rintro e w' ⟨rfl,rfl⟩)
     |(go_at_call 129;refine hc.mono ?_;rintro e w' ⟨rfl,rfl⟩))
    go_ret;exact⟨ret_bool (by rw[hw.out,hlt,Bool.eq_iff_iff];simp;omega),rfl⟩
  .go_enter func125,ntmps125;go_wp2;go_ret;exact⟨ret_bool (by rw[hw.out];simp[h]),rfl⟩
 .have e:=Yn (s:=s) (by omega);subst e;go_enter func125,ntmps125;go_wp2;go_ret;exact⟨rfl,rfl⟩
def Cq(l:AQ):List UInt8:=l.flatMap λ c=>if Lx.isEsc c then [92,c] else [c]
def Ey(l:AQ):List UInt8:=34 :: Cq l ++ [34]
theorem Mi(l:AQ)(c:UInt8):Cq (l ++ [c])=Cq l ++ if Lx.isEsc c then [92,c] else [c]:=by simp[Cq]
theorem J5:∀l:AQ,(Cq l).length<=2*l.length
 | []=>by simp[Cq]
 | c :: r=>by
  have h:=J5 r;have e:Cq (c :: r)=(if Lx.isEsc c then [92,c] else [c]) ++ Cq r:=by simp[Cq]
  rw[e];split <;> simp <;> omega
theorem Wj(s:ByteArray)(k:Nat)(h:k<s.size):s.data.toList.take (k+1)=s.data.toList.take k ++ [s[k]]:=by
 rw[take_succ_eq_append_getElem (by simpa using h)];rfl
theorem Sn(l:AQ)(c:UInt8):Lib.byteCells (l ++ [c])=Lib.byteCells l ++ [.int .u8 c.toNat]:=by simp[Lib.byteCells]
theorem F5(B b:Nat)(l:AQ)(c:UInt8)(w:World)(h:IsB B b (Lib.byteCells l) w)(hl:l.length+1<=140737488355328)(hB:B<=b) :
  AA 132 #[pt b 0,.int .u8 c.toNat] w λ e w'=>e=.returned .nilIface/\(IsB B b (Lib.byteCells (l ++ [c])) w'/\Below B w w'):=by
 rw[Sn];exact Eg B b (Lib.byteCells l) c.toNat w h (by simp[Lib.byteCells];omega) (by have:=h.lt;omega)
theorem Uv(B b:Nat)(l:AQ)(w:World)(h:IsB B b (Lib.byteCells l) w)(hl:l.length+1<=140737488355328)(hB:B<=b) :
  AA 132 #[pt b 0,.int .u8 34] w λ e w'=>e=.returned .nilIface/\(IsB B b (Lib.byteCells (l ++ [34])) w'/\Below B w w'):=F5 B b l 34 w h hl hB
theorem Ag4(B b:Nat)(l:AQ)(w:World)(h:IsB B b (Lib.byteCells l) w)(hl:l.length+1<=140737488355328)(hB:B<=b) :
  AA 132 #[pt b 0,.int .u8 92] w λ e w'=>e=.returned .nilIface/\(IsB B b (Lib.byteCells (l ++ [92])) w'/\Below B w w'):=F5 B b l 92 w h hl hB
theorem Wk(s:ByteArray)(w:World)(hs:s.size<=1099511627776):AA 211 #[.string s] w λ e w'=>e=.returned (.string ⟨(Ey s.data.toList).toArray⟩)/\Below w.heap.size w w':=by
 have hl:=Fg s;have aa:Below w.heap.size w (w.alloc (.cells #[.pointer none,sZ] 82)):=(AF _ _).alloc (AD _) _;have ad:IsB w.heap.size w.heap.size (Lib.byteCells []) (w.alloc (.cells #[.pointer none,sZ] 82)):=Gl (AD _) (by show (w.heap.push _)[w.heap.size]?=_;rw[Array.getElem?_push,if_pos rfl]);go_enter func211,ntmps211;go_wp2_with (go_at_call 132;refine (Uv w.heap.size w.heap.size [] _ ad (by simp) (AD _)).mono ?_;rintro e w1 ⟨rfl,a9,ab⟩)
 go_loopg [8] s.size (λ g i wr=>∃k:Nat,k<=s.size/\g=s.size - k/\i=iv k/\IsB w.heap.size w.heap.size (Lib.byteCells (34 :: Cq (s.data.toList.take k))) wr/\Below w.heap.size w wr)
 case atStart=>exact⟨0,AO _,rfl,rfl,a9,aa.trans ab⟩
 case round=>
  obtain⟨k,hk,rfl,rfl,hi,hb⟩:=hrel;clear ad a9 aa ab;have a6:=J5 (s.data.toList.take k);have ae:(s.data.toList.take k).length<=k:=length_take_le _ _;by_cases hlt:k<s.size
  .have a5:=Wj s k hlt;rcases hp:Lx.isEsc s[k] with _ | _
   .have a7:Aside (34 :: Cq (s.data.toList.take (k+1))=(34 :: Cq (s.data.toList.take k)) ++ [s[k]]):=by
     show _=_;rw[a5,Mi,hp];rfl
    have hw:=F5 w.heap.size w.heap.size _ s[k] wr hi (by simp;omega) (AD _);clear a5;go_wp2_with (first
     |(go_at_call 159;refine (needs_any _ _).mono ?_;rw[hp];rintro e w' ⟨rfl,rfl⟩)
     |(go_at_call 132;refine hw.mono ?_;rintro e w2 ⟨rfl,a3,a4⟩))
    go_roundg (s.size - (k+1))
    case measure=>omega
    case rel=>exact⟨k+1,by omega,rfl,by go_num,by rw[a7.out];exact a3,hb.trans a4⟩
   .have a7:Aside (34 :: Cq (s.data.toList.take (k+1))=((34 :: Cq (s.data.toList.take k)) ++ [92]) ++ [s[k]]):=by
     show _=_;rw[a5,Mi,hp];simp
    have ah:=Ag4 w.heap.size w.heap.size _ wr hi (by simp;omega) (AD _);have af:∀w2,IsB w.heap.size w.heap.size (Lib.byteCells ((34 :: Cq (s.data.toList.take k)) ++ [92])) w2->_:=λ w2 h2=>F5 w.heap.size w.heap.size _ s[k] w2 h2 (by simp;omega) (AD _)
    clear a5;go_wp2_with fail;refine (needs_any _ _).mono ?_;rw[hp];rintro e w' ⟨rfl,rfl⟩;go_wp2_with fail;refine ah.mono ?_;rintro e w2 ⟨rfl,a3,a4⟩;go_wp2_with fail;refine (af w2 a3).mono ?_;rintro e w3 ⟨rfl,ai,a8⟩;go_wp2_with fail;go_roundg (s.size - (k+1))
    case measure=>omega
    case rel=>exact⟨k+1,by omega,rfl,by go_num,by rw[a7.out];exact ai,(hb.trans a4).trans a8⟩
  .have a0:s.data.toList.take k=s.data.toList:=take_of_length_le (by omega);rw[a0] at hi a6;have hw:=Uv w.heap.size w.heap.size _ wr hi (by simp;omega) (AD _);clear a0 ae hl;go_wp2_with fail;refine hw.mono ?_;rintro e w2 ⟨rfl,a3,a4⟩;have ag:=Jz w.heap.size w.heap.size _ w2 a3 (by have:=a3.lt;omega);go_wp2_with fail;refine ag.mono ?_;rintro e w3 ⟨rfl,a8⟩;go_wp2;go_ret;exact⟨rfl,(hb.trans a4).trans a8⟩
end
section
namespace Px
open Lx (Tok B)
/- Parts without their places. -/
mutual
def Ex.er:Ex->Ex
 | .mk k o n t a _=>.mk k o n t (An5 a) 0
def An5:List Ex->List Ex
 | []=>[]
 | e :: r=>e.er :: An5 r
end
mutual
def St.er:St->St
 | .mk k n es b c _=>.mk k n (An5 es) (Ag8 b) (Ag8 c) 0
def Ag8:List St->List St
 | []=>[]
 | s :: r=>s.er :: Ag8 r
end
def Sl.er(s:Sl):Sl:=⟨s.name,s.type,0⟩
def Fn.er(f:Fn):Fn:=⟨f.name,f.on,f.params.map Sl.er,f.result,Ag8 f.body,0⟩
def Pr.er(p:Pr):Pr:=⟨p.version,p.states.map Sl.er,p.fns.map Fn.er⟩
structure TS(t u:Tok):Prop where
 kind:t.kind=u.kind
 text:t.text=u.text
 num:t.num=u.num
inductive TSim:List Tok->List Tok->Prop
 | nil:TSim [] []
 | cons {t u:Tok} {l m:List Tok}:TS t u->TSim l m->TSim (t :: l) (u :: m)
end Px
end
end Go.Proofs.YtpckmjfabiallaaGreatDoor
