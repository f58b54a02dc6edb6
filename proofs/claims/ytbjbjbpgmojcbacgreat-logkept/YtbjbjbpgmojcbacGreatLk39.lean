/- A part of the proof: what it leans on. -/
import Derived.Test.YtbjbjbpgmojcbacGreatLk38
set_option maxRecDepth 8000
set_option maxHeartbeats 2000000
namespace Go.Proofs.YtbjbjbpgmojcbacGreat
open Go.RowKit
def Zbv (a:Ar.A) (w:World) (e:Ending) (w':World):Prop:=∃ v1 v2,e=.returned (.agg #[v1,v2])/\ArOwn w.heap.size w' v1 v2 a/\Below w.heap.size w w'
def SaneX (l:List Im.Act):Prop:=∀ x ∈ l,x.name.size<=140737488355328/\x.text.size<=140737488355328
theorem SaneX.at {l:List Im.Act} (h:SaneX l) {k:Nat} (hk:k<l.length):(Im.xa l k).name.size<=140737488355328/\(Im.xa l k).text.size<=140737488355328:=by
 rw [Im.Zbz hk];exact h _ (gM hk)
theorem SaneA.done {l:List Im.Act} (h:SaneX l):SaneA (Im.done l):=by
 have:∀ (l:List Im.Act) (a:Ar.A),SaneX l->SaneA a->SaneA (Im.Zro l a):=fun l=>by
  induction l with
  | nil=>intro a _ h;exact h
  | cons x l ih =>
   intro a h1 h2;refine ih _ (fun y hy=>h1 y (List.mem_cons_of_mem _ hy)) ?_;show SaneA (if _ then _ else _);split
   ·exact h2.do (h1 x (List.mem_cons_self ..)).1
   ·exact h2
 exact this l _ h Zdf
theorem Im.done_take {l:List Im.Act} {k:Nat} (h:k<l.length):Im.done (l.take (k+1))=if Im.doE (Im.done (l.take k)) (Im.xa l k)=0 then Im.doA (Im.done (l.take k)) (Im.xa l k) else Im.done (l.take k):=by
 rw [List.take_succ_eq_append_getElem h,Im.ZnA,Im.Zbz h]
structure DS (w wr:World) (v1 v2:Value) (a:Ar.A):Prop where
 o:ArOwn (w.heap.size+2) wr v1 v2 a
 x:Bx wr (w.heap.size+1) v1 v2
 r:Bx wr w.heap.size (.slice none 0 0) (.slice none 0 0)
 g:Below w.heap.size w wr
theorem DS.next {w wr w':World} {v1 v2:Value} {a:Ar.A} (h:DS w wr v1 v2 a) (G:Below wr.heap.size wr w'):DS w w' v1 v2 a:=⟨h.o.next G,h.x.next G,h.r.next G,bch h.g G (Nat.le_refl _)⟩
theorem DS.put {w wr:World} {v1 v2 u1 u2:Value} {a b:Ar.A} (h:DS w wr v1 v2 a) {lo:Nat} (O:ArOwn lo wr u1 u2 b) (hl:w.heap.size+2<=lo):DS w ((wr.setCell ⟨w.heap.size+1,0,none⟩ u1).setCell ⟨w.heap.size+1,1,none⟩ u2) u1 u2 b :=
 ⟨(O.set2 (b:=w.heap.size+1) (by omega) u1 u2).low hl,h.x.set,h.r.far (by omega) u1 u2,Zu h.g (by omega) u1 u2⟩
theorem DS.start (w:World):DS w ((w.alloc (.cells #[.slice none 0 0,.slice none 0 0] 33 (0,0))).alloc (.cells #[.slice none 0 0,.slice none 0 0] 33 (0,0))) (.slice none 0 0) (.slice none 0 0) Ar.az:=by
 have B1:=Za w (.cells #[.slice none 0 0,.slice none 0 0] 33 (0,0));have B2:=Za (w.alloc (.cells #[.slice none 0 0,.slice none 0 0] 33 (0,0))) (.cells #[.slice none 0 0,.slice none 0 0] 33 (0,0));have X:=Bx.new (w.alloc (.cells #[.slice none 0 0,.slice none 0 0] 33 (0,0))) (.slice none 0 0) (.slice none 0 0);rw [show (w.alloc (.cells #[.slice none 0 0,.slice none 0 0] 33 (0,0))).heap.size=w.heap.size+1 by simp] at X;exact ⟨ZhQ _ _,X,(Bx.new w _ _).next B2,bch B1 B2 (nl _)⟩
theorem DS.fin {w wr:World} {v1 v2:Value} {a:Ar.A} (h:DS w wr v1 v2 a):Bx ((wr.setCell ⟨w.heap.size,0,none⟩ v1).setCell ⟨w.heap.size,1,none⟩ v2) w.heap.size v1 v2/\Zbv a w (.returned (.agg #[v1,v2])) ((wr.setCell ⟨w.heap.size,0,none⟩ v1).setCell ⟨w.heap.size,1,none⟩ v2) :=
 ⟨h.r.set,_,_,rfl,(h.o.set2 (b:=w.heap.size) (by omega) v1 v2).low (by omega),Zu h.g (nl _) v1 v2⟩
theorem Zjq (ad:Option Addr) (cap:Nat) (l:List Im.Act) (w:World) (h:XSl w ad l) (hX:SaneX l) (hN:l.length<=1000) (hM:Mx w) :
 Calls Tryz.prog 22 #[.slice ad l.length cap] w fun e w'=>Zbv (Im.done l) w e w':=by
 have CD:Hid (∀ w' k p cp q cq,Below w.heap.size w w'->k<l.length->ArV w' p q (Im.done (l.take k))->Calls Tryz.prog 21 #[av p cp q cq (Im.done (l.take k)),.agg #[.int .i64 (Im.xa l k).kind,.int .i64 (Im.xa l k).n,.string (Im.xa l k).name,.string (Im.xa l k).text]] w' fun e w2=>ArSaid w' (Im.doA (Im.done (l.take k)) (Im.xa l k)) (Im.doE (Im.done (l.take k)) (Im.xa l k)) e w2):=fun w' k p cp q cq hb hk hv=>ZgB p q cp cq (Im.done (l.take k)) (Im.xa l k) w' hv (SaneA.done (fun x hx=>hX x (List.mem_of_mem_take hx))) (hX.at hk).1 (hX.at hk).2 (hM.below hb)
 have HS:Hid (∀ k,k<l.length->Im.done (l.take (k+1))=if Im.doE (Im.done (l.take k)) (Im.xa l k)=0 then Im.doA (Im.done (l.take k)) (Im.xa l k) else Im.done (l.take k)):=fun k hk=>Im.done_take hk
 have HX:Hid (∀ w' k,Below w.heap.size w w'->k<l.length->∃ b off,ad=some ⟨b,off,none⟩/\b<w'.heap.size/\XC w' b (off+k*4) (Im.xa l k)):=fun w' k hb hk=>(h.below hb).at hk
 have H0:Hid (Im.done (l.take 0)=Ar.az):=rfl;have HE:Hid (Im.done (l.take l.length)=Im.done l):=by show _=_;rw [List.take_length]
 have T0:=DS.start w;clear h hX hM;rw [<-HE.out];clear HE;unfold av at CD;generalize l.length=N at *
 obtain ⟨dk,hdk⟩:∃ dk:Nat->Ar.A,∀ k,Im.done (l.take k)=dk k:=⟨_,fun _=>rfl⟩
 simp only [hdk] at CD HS H0 |-
 clear hdk;generalize Im.xa l=xa at *;go_enter Tryz.func22,Tryz.ntmps22
 go_wp2_with fail
 generalize ((w.alloc (.cells #[.slice none 0 0,.slice none 0 0] 33 (0,0))).alloc (.cells #[.slice none 0 0,.slice none 0 0] 33 (0,0)))=w0 at *;go_loopw [10] (fun i wr=>∃ (k:Nat) (v1 v2:Value),k<=N/\i=.int .i64 k/\DS w wr v1 v2 (dk k)) (fun i _=>N - (intOf i).toNat)
 case atStart=>exact ⟨0,_,_,by omega,rfl,by rw [H0.out];exact T0⟩
 case round =>
  clear T0 H0;obtain ⟨k,v1,v2,hk,rfl,T⟩:=hrel;obtain ⟨p,cp,q,cq,rfl,rfl,hv⟩:=T.o.slices;by_cases hlt:k<N
  ·have d1:decide ((k:Int)<(N:Int))=true:=zdT (by omega);have d1':decide (k<N)=true:=zdT hlt;have hki:(k:Int)<(N:Int):=by omega
   obtain ⟨b,off,rfl,hbl,c0,c1,c2,c3⟩:=HX.out wr k T.g hlt;have HS':=Zar (HS.out k hlt);have C:Hid (∀ w',Below w.heap.size w w'->ArV w' p q (dk k)->_):=fun w' h1 h2=>CD.out w' k p cp q cq h1 hlt h2
   generalize (xa k).kind=ak at *;generalize (xa k).n=an at *;generalize (xa k).name=nm at *;generalize (xa k).text=tx at *;generalize Im.doA (dk k) (xa k)=A2 at *;generalize Im.doE (dk k) (xa k)=E at *;have GA:=Za wr (.cells #[.int .i64 ak,.int .i64 an,.string nm,.string tx] 29 (0,0));have X1:=XB.new wr 29 ak an nm tx;have T1:=T.next GA;have hv1:=hv.below GA;generalize (dk k).dicts.length=D at *;generalize (dk k).files.length=F at *;have hlo:=T.x.lt;have y0:=T1.x.c0;have y1:=T1.x.c1;obtain ⟨x0,x1,x2,x3,_⟩:=X1;clear T HX CD;go_wp2_with fail
   clear y0 y1 x0 x1 x2 x3 c0 c1 c2 c3;have hsz:(wr.alloc (.cells #[.int .i64 ak,.int .i64 an,.string nm,.string tx] 29 (0,0))).heap.size=wr.heap.size+1:=by simp
   generalize (wr.alloc (.cells #[.int .i64 ak,.int .i64 an,.string nm,.string tx] 29 (0,0)))=w1 at *;refine (C.out _ T1.g hv1).mono ?_;intro e w2 h1;obtain ⟨p2,q2,p3,q3,rfl,O2,G2⟩:=h1.own;clear h1 C;generalize A2.dicts.length=D2 at *;generalize A2.files.length=F2 at *;have GB:=Za w2 (.cells #[.slice p2 D2 q2,.slice p3 F2 q3] 33 (0,0));have T3:=(T1.next G2).next GB;have O3:=O2.next GB;have XB:=Bx.new w2 (.slice p2 D2 q2) (.slice p3 F2 q3);clear T1 O2 G2 GB hv1 hv;generalize hw3:(w2.alloc (.cells #[.slice p2 D2 q2,.slice p3 F2 q3] 33 (0,0)))=w3 at *;by_cases hE:E=0
   ·subst hE;have e2:=HS'.out;rw [if_pos rfl] at e2;have HS2:=Zar e2;clear e2;have T4:=T3.put O3 (by omega);have k0:=XB.c0;have k1:=XB.c1;have y0:=T3.x.c0;have y1:=T3.x.c1;have z0:=T3.x.f0;have z1:=T3.x.f1;have hbl2:=XB.lt;clear T3 O3 XB HS';go_wp2_with fail
    clear hw3 k0 k1 y0 y1 z0 z1;go_roundw
    case rel=>exact ⟨k+1,_,_,by omega,by go_num,by rw [HS2.out];exact T4⟩
    case measure=>simp [intOf];omega
   ·have dE:(E == 0)=false:=by simpa using hE
    have e2:=HS'.out;rw [if_neg hE] at e2;have HS2:=Zar e2;clear e2 O3 XB HS';go_wp2_with fail
    clear hw3;go_roundw
    case rel=>exact ⟨k+1,_,_,by omega,by go_num,by rw [HS2.out];exact T3⟩
    case measure=>simp [intOf];omega
  ·obtain rfl:k=N:=by omega
   have d1:decide ((k:Int)<(k:Int))=false:=by simp
   have d1':decide (k<k)=false:=by simp
   obtain ⟨X9,hq⟩:=T.fin;generalize (dk k).dicts.length=D at *;generalize (dk k).files.length=F at *;have y0:=T.x.c0;have y1:=T.x.c1;have x0:=T.r.c0;have x1:=T.r.c1;have z0:=T.r.f0;have z1:=T.r.f1;clear T hv;go_wp2_with fail
   clear y0 y1 x0 x1 z0 z1;have y0:=X9.c0;have y1:=X9.c1;generalize ((wr.setCell ⟨w.heap.size,0,none⟩ (.slice p D cp)).setCell ⟨w.heap.size,1,none⟩ (.slice q F cq))=wz at *;exact bodyPost_ret (v:=.agg #[.slice p D cp,.slice q F cq]) (by simp [results,Tryz.results22,go_sem,y0,y1]) rfl hq
namespace Im
theorem ZmA (s:ByteArray):(∀ x ∈ rplL s,okX x)/\(rplL s).length<=100/\rplN s<=s.size:=by
 unfold rplL rplN;by_cases h:16384<s.size
 ·rw [if_pos h,if_pos h];exact ⟨by simp,by simp,by omega⟩
 ·rw [if_neg h,if_neg h];obtain ⟨_,h2,h3,_⟩:=Zqs 100 s;exact ⟨h2,h3,by omega⟩
theorem Zty (x:Act):(wrtT x).size<=1100:=by
 unfold wrtT;split
 ·rename_i h
  have h1:=ZdU (Zgc.1 h);have h2:=Nm.ZD (Zce x).length (by omega);rw [Zq];simp only [actB,List.length_append];omega
 ·show 0<=_;omega
end Im
theorem Zjf (s:ByteArray):SaneX (Im.rplL s):=fun x hx=>by
 obtain ⟨_,_,h3,h4⟩:=(Im.ZmA s).1 x hx;exact ⟨by omega,by omega⟩
def Zbi (a:Ar.A) (n:Nat) (E:Int) (w:World) (e:Ending) (w':World):Prop:=∃ v1 v2,e=.returned (.tuple #[.agg #[v1,v2],.int .i64 (n:Nat),.int .i64 E])/\ArOwn w.heap.size w' v1 v2 a/\Below w.heap.size w w'
theorem RpSaid.open {l:List Im.Act} {n:Nat} {E:Int} {w w':World} {e:Ending} (h:RpSaid l n E w e w'):∃ ad cap,e=.returned (.tuple #[.slice ad l.length cap,.int .i64 (n:Nat),.int .i64 E])/\XSl w' ad l/\Below w.heap.size w w':=by
 obtain ⟨v,rfl,h2,h3⟩:=h;obtain ⟨ad,cap,rfl,hx⟩:=Zjp h2;exact ⟨ad,cap,rfl,hx,h3⟩
theorem Zen (s:ByteArray) (w:World) (hM:Mx w) :
 Calls Tryz.prog 7 #[.string s] w fun e w'=>Zbi (Im.done (Im.rplL s)) (Im.rplL s).length (Im.rplE s) w e w':=by
 have B1:=Za w (.cells #[.slice none 0 0,.slice none 0 0] 33 (0,0));have R1:=Bx.new w (.slice none 0 0) (.slice none 0 0);have C:=Zdc s (w.alloc (.cells #[.slice none 0 0,.slice none 0 0] 33 (0,0)));obtain ⟨_,hl,_⟩:=Im.ZmA s;have hX:=Zjf s;by_cases hb:16384<s.size
 ·have e1:Im.rplL s=[]:=if_pos hb;have e2:Im.rplE s=2:=if_pos hb;rw [e1,e2] at C;rw [e1,e2];clear e1 e2 hl hX hM
  have HQ:Hid (∀ w',Below w.heap.size w w'->Zbi (Im.done []) ([]:List Im.Act).length 2 w (.returned (.tuple #[.agg #[.slice none 0 0,.slice none 0 0],.int .i64 0,.int .i64 2])) w'):=fun w' h9=>⟨_,_,rfl,ZhQ _ _,h9⟩
  generalize Zbi (Im.done []) ([]:List Im.Act).length 2 w=Q at *;generalize Im.rplN s=n at *;go_enter Tryz.func7,Tryz.ntmps7
  go_wp2_with fail
  generalize (w.alloc (.cells #[.slice none 0 0,.slice none 0 0] 33 (0,0)))=w0 at *;refine C.mono ?_;intro e w1 h1;obtain ⟨ad,cap,rfl,_,G⟩:=h1.open;have R2:=R1.next G;have hq:=HQ.out _ (Zu (bch B1 G (nl _)) (b:=w.heap.size) (nl _) (.slice none 0 0) (.slice none 0 0));have X5:=R2.set (u:=.slice none 0 0) (v:=.slice none 0 0);have x0:=R2.c0;have x1:=R2.c1;have f0:=R2.f0;have f1:=R2.f1;clear C R1 R2 B1 G h1 HQ;go_wp2_with fail
  clear x0 x1 f0 f1;have y0:=X5.c0;have y1:=X5.c1;generalize ((w1.setCell ⟨w.heap.size,0,none⟩ (.slice none 0 0)).setCell ⟨w.heap.size,1,none⟩ (.slice none 0 0))=wz at *;exact bodyPost_ret (v:=.tuple #[.agg #[.slice none 0 0,.slice none 0 0],.int .i64 0,.int .i64 2]) (by simp [results,Tryz.results7,go_sem,y0,y1]) rfl hq
 ·have e2:Im.rplE s=0:=if_neg hb;rw [e2] at C;rw [e2];clear e2 hb;generalize Im.rplL s=l at *;generalize Im.rplN s=n at *;have CD:Hid (∀ w' ad cap,Below w.heap.size w w'->XSl w' ad l->Calls Tryz.prog 22 #[.slice ad l.length cap] w' fun e w2=>Zbv (Im.done l) w' e w2):=fun w' ad cap h1 h2=>Zjq ad cap l w' h2 hX (by omega) (hM.below h1)
  have HQ:Hid (∀ v1 v2 w',ArOwn w.heap.size w' v1 v2 (Im.done l)->Below w.heap.size w w'->Zbi (Im.done l) l.length 0 w (.returned (.tuple #[.agg #[v1,v2],.int .i64 (l.length:Nat),.int .i64 0])) w'):=fun v1 v2 w' h1 h2=>⟨_,_,rfl,h1,h2⟩
  generalize Zbi (Im.done l) l.length 0 w=Q at *;clear hX hM;go_enter Tryz.func7,Tryz.ntmps7
  go_wp2_with fail
  generalize (w.alloc (.cells #[.slice none 0 0,.slice none 0 0] 33 (0,0)))=w0 at *;refine C.mono ?_;intro e w1 h1;obtain ⟨ad,cap,rfl,hx,G⟩:=h1.open;have R2:=R1.next G;have B2:=bch B1 G (nl _);have C2:=CD.out w1 ad cap B2 hx;have hlt:=R2.lt;clear C R1 B1 G h1 CD hx;generalize l.length=N at *;generalize Im.done l=A at *;go_wp2_with fail
  refine C2.mono ?_;rintro e w2 ⟨v1,v2,rfl,O,G⟩;have R3:=R2.next G;have B3:=bch B2 G (nl _);have hq:=HQ.out v1 v2 _ ((O.set2 (b:=w.heap.size) hlt v1 v2).low (by omega)) (Zu B3 (b:=w.heap.size) (nl _) v1 v2);obtain ⟨p,cp,q,cq,rfl,rfl,_⟩:=O.slices;generalize A.dicts.length=D at *;generalize A.files.length=F at *;have X5:=R3.set (u:=.slice p D cp) (v:=.slice q F cq);have x0:=R3.c0;have x1:=R3.c1;have f0:=R3.f0;have f1:=R3.f1;clear C2 R2 R3 B2 B3 G O HQ;go_wp2_with fail
  clear x0 x1 f0 f1;have y0:=X5.c0;have y1:=X5.c1;generalize ((w2.setCell ⟨w.heap.size,0,none⟩ (.slice p D cp)).setCell ⟨w.heap.size,1,none⟩ (.slice q F cq))=wz at *;exact bodyPost_ret (v:=.tuple #[.agg #[.slice p D cp,.slice q F cq],.int .i64 (N:Nat),.int .i64 0]) (by simp [results,Tryz.results7,go_sem,y0,y1]) rfl hq
namespace Im
structure Kp8 (s:ByteArray) (K:List Act):Prop where
 b:s.data.toList=flat actB K
 ok:∀ x ∈ K,okX x
 n:K.length<=24
 z:s.size<=16384
theorem Zpb:Kp8 ⟨#[]⟩ []:=⟨rfl,by simp,by simp,by show 0<=_;omega⟩
theorem ZpX:rAct ⟨#[]⟩=none:=rfl
theorem Kp8.rp {s:ByteArray} {K:List Act} (h:Kp8 s K):rplL s=K/\rplN s=s.size/\rplE s=0:=by
 have hb:¬ 16384<s.size:=by have:=h.z;omega
 have hr:rep 100 s=(K,⟨#[]⟩):=ZfM h.ok (by have:=h.n;omega) (.inr ZpX) (by rw [h.b];simp);refine ⟨?_,?_,if_neg hb⟩
 ·unfold rplL;rw [if_neg hb,hr]
 ·unfold rplN;rw [if_neg hb,hr];exact Nat.sub_zero _
theorem Zsp (s:ByteArray):s.extract 0 s.size=s:=Nm.ZF (by rw [Zbk,Zq];exact List.take_length)
theorem Kp8.store {s:ByteArray} {K:List Act} (h:Kp8 s K) (hn:K.length<24) {x:Act} (hE:stoE s x=0):stoT s x=s++wrtT x/\Kp8 (stoT s x) (K++[x])/\s.size<(stoT s x).size/\(stoT s x).extract 0 s.size=s:=by
 obtain ⟨e1,e2,e3⟩:=h.rp;have hT:stoT s x=s++wrtT x:=by unfold stoT;rw [if_pos hE,e2,Zsp]
 unfold stoE at hE;rw [e3,if_neg (by simp)] at hE
 have hA:actE x=0:=by
  by_cases hA:actE x=0
  ·exact hA
  ·rw [if_pos hA] at hE;exact absurd hE hA
 rw [if_neg (by simpa using hA)] at hE;have hZ:¬ ((rplL s).length=100\/16384<rplN s+(wrtT x).size):=fun hc=>by rw [if_pos hc] at hE;cases hE
 have hW:(wrtT x).data.toList=actB x:=by unfold wrtT;rw [if_pos hA]
 have hl:(wrtT x).size=(actB x).length:=by rw [Zq,hW]
 have hp:0<(actB x).length:=List.length_pos_iff.2 (ZiT x);have hz:(s++wrtT x).size=s.size+(wrtT x).size:=by simp
 have hd:(s++wrtT x).data.toList=flat actB (K++[x]):=by
  rw [Zew,<-h.b,<-hW];simp
 rw [hT];refine ⟨rfl,⟨hd,?_,by rw [List.length_append];simp;omega,by omega⟩,by omega,?_⟩
 ·intro y hy;rcases List.mem_append.1 hy with hy | hy
  ·exact h.ok y hy
  ·rw [List.mem_singleton.1 hy];exact Zgc.1 hA
 ·apply Nm.ZF;rw [Zbk,hd,Zew,<-h.b,Zq];simp
def ZgM (K:List Act):List Value:=(List.range K.length).map (fun j=>.int .i64 (endK K (j+1):Nat))
theorem ZmD {K:List Act} {j:Nat} (h:j<K.length):(ZgM K)[j]?=some (.int .i64 (endK K (j+1):Nat)):=by simp [ZgM,h]
theorem Zku {s:ByteArray} {K:List Act} {x:Act} (h:Kp8 s (K++[x])):ZgM (K++[x])=ZgM K++[.int .i64 (s.size:Nat)]:=by
 have hl:(K++[x]).length=K.length+1:=by simp
 unfold ZgM;rw [hl,List.range_succ,List.map_append]
 congr 1
 ·refine List.map_congr_left (fun j hj=>?_);have hj':=List.mem_range.1 hj;unfold endK;rw [List.take_append_of_le_length (by omega)]
 ·simp only [List.map_cons,List.map_nil]
  congr 3
  unfold endK;rw [List.take_of_length_le (by omega),<-h.b,Zq]
theorem Kp8.cut {s:ByteArray} {K:List Act} (h:Kp8 s K) {k j:Nat} (hk:k<=s.size) (hj:j<=K.length) (ha:endK K j<=k) (hb:j=K.length\/k<endK K (j+1)):rplL (s.extract 0 k)=K.take j/\rplE (s.extract 0 k)=0:=by
 have hz:(s.extract 0 k).size<=16384:=by have:=h.z;simp;omega
 have hc:=ZsU (m:=100) (s:=s.extract 0 k) h.ok (by have:=h.n;omega) (by rw [Zbk,h.b]) hj ha hb;unfold rplL rplE;rw [if_neg (by omega),if_neg (by omega),hc];exact ⟨rfl,rfl⟩
theorem ZnW (K:List Act):endK K 0=0:=rfl
end Im
theorem XSl.take {w:World} {ad:Option Addr} {l:List Im.Act} (h:XSl w ad l) (j:Nat):XSl w ad (l.take j):=by
 rcases h with rfl | ⟨b,off,h1,h2,h3⟩
 ·exact .inl (by simp)
 ·refine .inr ⟨b,off,h1,h2,fun i hi=>?_⟩;have hi':i<l.length:=by rw [List.length_take] at hi;omega
  have:=h3 i hi';rw [Im.Zbz hi'] at this;rw [Im.Zbz hi];rw [List.getElem_take];exact this
theorem SaneX.take {l:List Im.Act} (h:SaneX l) (j:Nat):SaneX (l.take j):=fun x hx=>h x (List.mem_of_mem_take hx)
structure KS (w wr:World) (v1 v2:Value) (K:List Im.Act):Prop where
 o1:wr.ownsRow w.heap.size 29 4 v1 K.length (xcs K)
 o2:wr.ownsRow w.heap.size 3 1 v2 K.length (Im.ZgM K)
 ne:∀ j,v1.ownBlock=some j->v2.ownBlock ≠ some j
 g:Below w.heap.size w wr
theorem KS.start (w:World):KS w w (.slice none 0 0) (.slice none 0 0) []:=⟨World.ownsRow_nil _ _ _ _,World.ownsRow_nil _ _ _ _,fun j e=>by simp [Value.ownBlock] at e,Below.refl _ _⟩
theorem KS.next {w wr w':World} {v1 v2:Value} {K:List Im.Act} (h:KS w wr v1 v2 K) (G:Below wr.heap.size wr w'):KS w w' v1 v2 K:=⟨Zj h.o1 G,Zj h.o2 G,h.ne,bch h.g G (Nat.le_refl _)⟩
theorem KS.mid {w wr w5:World} {v1 v2:Value} {K:List Im.Act} {o:Obj} {g:Nat} (h:KS w wr v1 v2 K) (hg:(wr.alloc o).grownBy w5 v1.ownBlock) (hl:v1.ownBlock=some g\/g=(wr.alloc o).heap.size) :
 w5.ownsRow w.heap.size 3 1 v2 K.length (Im.ZgM K)/\v2.ownBlock ≠ some g/\Below w.heap.size w w5/\w.heap.size<=w5.heap.size:=by
 have hsz:(wr.alloc o).heap.size=wr.heap.size+1:=by simp
 have hb:=h.g.size;have B:Below w.heap.size w w5:=(h.g.alloc hb o).grown hg (by omega) (fun j hj=>(h.o1.lt j hj).1);refine ⟨(h.o2.alloc o).kept hg ?_,?_,B,B.size⟩
 ·cases hv:v2.ownBlock with
  | none=>exact .inl rfl
  | some j=>exact .inr (fun e=>h.ne j e.symm hv)
 ·intro e;rcases hl with hl | hl
  ·exact h.ne g hl e
  ·have:=(h.o2.lt g e).2;omega
theorem KS.fin {w w5 w6:World} {v2:Value} {K:List Im.Act} {o:Obj} {g g2 m cap cap2:Nat} {zs:List Value} (h1:w5.ownsRow w.heap.size 29 4 (.slice (some ⟨g,0,none⟩) K.length cap) K.length (xcs K)) (h2:w5.ownsRow w.heap.size 3 1 v2 m zs) (hne:v2.ownBlock ≠ some g) (B:Below w.heap.size w w5)
 (hg:(w5.alloc o).grownBy w6 v2.ownBlock) (ho:w6.ownsRow w.heap.size 3 1 (.slice (some ⟨g2,0,none⟩) K.length cap2) K.length (Im.ZgM K)) (hl:v2.ownBlock=some g2\/g2=(w5.alloc o).heap.size):KS w w6 (.slice (some ⟨g,0,none⟩) K.length cap) (.slice (some ⟨g2,0,none⟩) K.length cap2) K:=by
 have hsz:(w5.alloc o).heap.size=w5.heap.size+1:=by simp
 have hb:=B.size;have hg1:=(h1.lt g rfl).2;refine ⟨(h1.alloc o).kept hg (.inr (fun e=>hne e.symm)),ho,fun j e1 e2=>?_,(B.alloc hb o).grown hg (by omega) (fun j hj=>(h2.lt j hj).1)⟩;simp [Value.ownBlock] at e1 e2;subst e1 e2;rcases hl with hl | hl
 ·exact hne hl
 ·omega
theorem KS.at {w wr:World} {v1 v2:Value} {K:List Im.Act} (h:KS w wr v1 v2 K) {j:Nat} (hj:j<K.length):∃ g c,v2=.slice (some ⟨g,0,none⟩) K.length c/\g<wr.heap.size/\wr.cell? ⟨g,j,none⟩=some (.int .i64 (Im.endK K (j+1):Nat)):=by
 rcases h.o2.2 with ⟨_,h2⟩ | ⟨g,cap,cur,h1,h2,h3,_⟩
 ·omega
 ·have hc:=h.o2.cells (g:=g) (by rw [h1];rfl) j _ (Im.ZmD hj);rw [Zax] at hc;exact ⟨g,cap,h1,(aG.1 h3).1,hc⟩
structure Wtr (B p:Nat) (w:World) (v:Value) (l:List UInt8) (er:Int):Prop where
 hp:B<=p
 lt:p<w.heap.size
 c0:w.cell? ⟨p,0,none⟩=some v
 c1:w.cell? ⟨p,1,none⟩=some (.int .i64 er)
 f0:w.frozen? ⟨p,0,none⟩=false
 f1:w.frozen? ⟨p,1,none⟩=false
 own:Own8 w B v l
 ne:v.ownBlock ≠ some p
theorem Wtr.below {B p:Nat} {w w':World} {v:Value} {l:List UInt8} {er:Int} (h:Wtr B p w v l er) (G:Below w.heap.size w w'):Wtr B p w' v l er :=
 ⟨h.hp,nT h.lt G.size,(G.cell (p:=⟨p,0,none⟩) h.lt).trans h.c0,(G.cell (p:=⟨p,1,none⟩) h.lt).trans h.c1,(G.frozen (p:=⟨p,0,none⟩) h.lt).trans h.f0,(G.frozen (p:=⟨p,1,none⟩) h.lt).trans h.f1,h.own.below G,h.ne⟩
theorem Wtr.app {B p:Nat} {w w1:World} {v v':Value} {l l':List UInt8} {er:Int} (h:Wtr B p w v l er) (A:App w w1 B v v' l'):Wtr B p (w1.setCell ⟨p,0,none⟩ v') v' l' er/\Below B w (w1.setCell ⟨p,0,none⟩ v'):=by
 have hb:=A.block p h.lt (fun e=>h.ne e.symm);have k0:w1.cell? ⟨p,0,none⟩=some v:=(cB (w:=w) hb).trans h.c0;have k1:w1.cell? ⟨p,1,none⟩=some (.int .i64 er):=(cB (w:=w) hb).trans h.c1
 have hne:v'.ownBlock ≠ some p:=fun e=>by
  rcases A.at_ p e with h9 | h9
  ·exact h.ne h9
  ·have:=h.lt;omega
 refine ⟨⟨h.hp,?_,cS _ _ _ k0,(cO _ _ _ _ (by intro e;have:=congrArg Addr.off e;simp at this)).trans k1,?_,?_,?_,hne⟩,A.below.setCell h.hp _⟩
 ·have:=A.own;have h2:=cL w1 _ k0;simpa [World.setCell] using h2
 ·rw [World.frozen?_setCell];exact (fB (w:=w) hb).trans h.f0
 ·rw [World.frozen?_setCell];exact (fB (w:=w) hb).trans h.f1
 ·exact A.own.kept (by simp [World.setCell]) (fun g hg=>zhS _ _ _ _ (fun e=>hne (by rw [hg];exact congrArg some e)))
theorem Wtr.err {B p:Nat} {w:World} {v:Value} {l:List UInt8} {er:Int} (h:Wtr B p w v l er) (e:Int):Wtr B p (w.setCell ⟨p,1,none⟩ (.int .i64 e)) v l e/\Below B w (w.setCell ⟨p,1,none⟩ (.int .i64 e)):=by
 refine ⟨⟨h.hp,?_,(cO _ _ _ _ (by intro e;have:=congrArg Addr.off e;simp at this)).trans h.c0,cS _ _ _ h.c1,?_,?_,?_,h.ne⟩,(bR _ _).setCell h.hp _⟩
 ·have:=h.lt;simpa [World.setCell] using this
 ·rw [World.frozen?_setCell];exact h.f0
 ·rw [World.frozen?_setCell];exact h.f1
 ·exact h.own.kept (by simp [World.setCell]) (fun g hg=>zhS _ _ _ _ (fun e=>h.ne (by rw [hg];exact congrArg some e)))
theorem Own8.slice {w:World} {B:Nat} {v:Value} {l:List UInt8} (h:Own8 w B v l):∃ x n c,v=.slice x n c:=by
 rcases h with ⟨rfl,_⟩ | ⟨g,cap,rfl,_⟩
 ·exact ⟨_,_,_,rfl⟩
 ·exact ⟨_,_,_,rfl⟩
theorem Own8.str {w:World} {B:Nat} {v:Value} {l:List UInt8} (h:Own8 w B v l):(convert 77 9 v).run Tryz.prog w=.ok (.string ⟨l.toArray⟩) w:=by
 rcases h with ⟨rfl,rfl⟩ | ⟨g,cap,rfl,_,_,_,_,h5,_⟩
 ·exact Lib.run_convert_nil_bytes w 77 9 5 0 U77 U5 U9
 ·have:=Own8.conv h5 0 cap;simpa using this
structure WF (p:Nat) (w w':World) (v v':Value):Prop where
 blk:∀ k,k<w.heap.size->k ≠ p->v.ownBlock ≠ some k->w'.heap[k]?=w.heap[k]?
 at_:∀ g,v'.ownBlock=some g->v.ownBlock=some g\/w.heap.size<=g
 sz:w.heap.size<=w'.heap.size
theorem WF.trans {p:Nat} {a b c:World} {v1 v2 v3:Value} (h:WF p a b v1 v2) (g:WF p b c v2 v3):WF p a c v1 v3:=by
 refine ⟨fun k hk hp hv=>(g.blk k (nT hk h.sz) hp (fun e=>?_)).trans (h.blk k hk hp hv),fun x hx=>?_,nt h.sz g.sz⟩
 ·rcases h.at_ k e with h9 | h9
  ·exact hv h9
  ·omega
 ·rcases g.at_ x hx with h9 | h9
  ·exact h.at_ x h9
  ·exact .inr (nt h.sz h9)
theorem WF.of {p:Nat} {w w':World} {v:Value} (G:Below w.heap.size w w'):WF p w w' v v:=⟨fun k hk _ _=>G.block k hk,fun _ h=>.inl h,G.size⟩
theorem WF.app {B p:Nat} {w w1:World} {v v':Value} {l':List UInt8} (A:App w w1 B v v' l') (hz:w.heap.size<=w1.heap.size):WF p w (w1.setCell ⟨p,0,none⟩ v') v v' :=
 ⟨fun k hk hp hv=>(zhS _ _ _ _ hp).trans (A.block k hk (fun e=>hv e.symm)),A.at_,by simpa [World.setCell] using hz⟩
theorem WF.err {p:Nat} {w:World} {v:Value} (u:Value):WF p w (w.setCell ⟨p,1,none⟩ u) v v:=⟨fun k _ hp _=>Below.heap_setCell _ _ _ _ hp,fun _ h=>.inl h,by simp [World.setCell]⟩
def Zdk (B p:Nat) (w:World) (v:Value) (l:List UInt8) (er:Int) (e:Ending) (w':World):Prop:=e=.returned (.tuple #[])/\Below B w w'/\∃ v',Wtr B p w' v' l er/\WF p w w' v v'
theorem Zbx (B p:Nat) (w:World) (v:Value) (l:List UInt8) (er:Int) (s:ByteArray) (h:Wtr B p w v l er) (hl:l.length+s.size<=140737488355328) :
 Calls Tryz.prog 80 #[.pointer (some ⟨p,0,none⟩),.string s] w fun e w'=>Zdk B p w v (l++s.data.toList) er e w':=by
 have c0:=h.c0;have hO:=h.own;have hB:B<=w.heap.size:=nL (Nat.lt_of_le_of_lt h.hp h.lt);have hA:Hid (∀ v' w1,App w w1 B v v' (l++s.data.toList)->Wtr B p (w1.setCell ⟨p,0,none⟩ v') v' (l++s.data.toList) er/\Below B w (w1.setCell ⟨p,0,none⟩ v')):=fun v' w1 A=>h.app A
 have hC:Hid (∀ v' w1,App w w1 B v v' (l++s.data.toList)->w1.cell? ⟨p,0,none⟩=some v/\w1.frozen? ⟨p,0,none⟩=false):=fun v' w1 A=>⟨(cB (w:=w) (A.block p h.lt (fun e=>h.ne e.symm))).trans h.c0,(fB (w:=w) (A.block p h.lt (fun e=>h.ne e.symm))).trans h.f0⟩
 clear h;go_enter Tryz.func80,Tryz.ntmps80
 go_wp2_with (at_builtin;refine Zcl _ rfl _ _ rfl B v l rfl hO s rfl hl hB ?_;intro v' w1 A;obtain ⟨k0,kf⟩:=hC.out _ _ A;have A2:=hA.out _ _ A;obtain ⟨x,n,c,hv⟩:=A.own.slice;subst hv)
 go_end0
 exact ⟨rfl,A2.2,_,A2.1,WF.app A A.below.size⟩
theorem ZeP (B p:Nat) (w:World) (v:Value) (l:List UInt8) (er:Int) (h:Wtr B p w v l er) :
 Calls Tryz.prog 79 #[.pointer (some ⟨p,0,none⟩)] w fun e w'=>e=.returned (.string ⟨l.toArray⟩)/\Below w.heap.size w w':=by
 have c0:=h.c0;have hO:=h.own.str;clear h;go_enter Tryz.func79,Tryz.ntmps79
 go_wp2_with fail
 go_ret
 exact ⟨rfl,bR _ _⟩
theorem Zgp (B p:Nat) (w:World) (v:Value) (l:List UInt8) (er:Int) (s:ByteArray) (E:Int) (h:Wtr B p w v l er) (hl:l.length+s.size<=140737488355328) :
 Calls Tryz.prog 76 #[.pointer (some ⟨p,0,none⟩),.string s,.int .i64 E] w fun e w'=>Zdk B p w v (l++s.data.toList) (if er=0 then E else er) e w':=by
 have c1:=h.c1;have f1:=h.f1;have hB:B<=w.heap.size:=nL (Nat.lt_of_le_of_lt h.hp h.lt);by_cases he:er=0
 ·subst he;rw [if_pos rfl];obtain ⟨h2,G⟩:=h.err E;have C:=Zbx B p _ v l E s h2 hl;have hQ:Hid (∀ w',Below B (w.setCell ⟨p,1,none⟩ (.int .i64 E)) w'->Below B w w'):=fun w' h9=>G.trans h9
  clear h h2 G;go_enter Tryz.func76,Tryz.ntmps76
  go_wp2_with fail
  refine C.mono ?_;rintro e w1 ⟨rfl,G,v',h',F'⟩;go_wp2_with fail
  go_end0
  exact ⟨rfl,hQ.out _ G,_,h',(WF.err _).trans F'⟩
 ·rw [if_neg he];have C:=Zbx B p _ v l er s h hl;have d1:(er == 0)=false:=by simpa using he
  clear h;go_enter Tryz.func76,Tryz.ntmps76
  go_wp2_with fail
  refine C.mono ?_;rintro e w1 ⟨rfl,G,v',h',F'⟩;go_wp2_with fail
  go_end0
  exact ⟨rfl,G,_,h',F'⟩
namespace Im
def nW (n:Int):List UInt8:=if 0<=n/\n<=2147483647 then Nm.nb n.toNat else []
def nE (n:Int):Int:=if 0<=n/\n<=2147483647 then 0 else 3
def tW (s:ByteArray):List UInt8:=if s.size<=512 then tb s else []
def tE (s:ByteArray):Int:=if s.size<=512 then 0 else 2
def er1 (er E:Int):Int:=if er=0 then E else er
end Im
theorem Zcn (B p:Nat) (w:World) (v:Value) (l:List UInt8) (er n:Int) (h:Wtr B p w v l er) (hl:l.length+5<=140737488355328) :
 Calls Tryz.prog 47 #[.pointer (some ⟨p,0,none⟩),.int .i64 n] w fun e w'=>Zdk B p w v (l++Im.nW n) (Im.er1 er (Im.nE n)) e w':=by
 have hB:B<=w.heap.size:=nL (Nat.lt_of_le_of_lt h.hp h.lt)
 have C1:Calls Tryz.prog 77 #[.int .i64 n] w fun e w'=>e=.returned (.tuple #[.string ⟨(Im.nW n).toArray⟩,.int .i64 (Im.nE n)])/\Below w.heap.size w w':=by
  unfold Im.nW Im.nE;by_cases hn:0<=n/\n<=2147483647
  ·rw [if_pos hn,if_pos hn];exact Zgd n w hn.1 hn.2
  ·rw [if_neg hn,if_neg hn];exact Ztx n w (by omega)
 have hz:(Im.nW n).length<=5:=by
  unfold Im.nW;by_cases hn:0<=n/\n<=2147483647
  ·rw [if_pos hn];exact Nm.ZD _ (by omega)
  ·rw [if_neg hn];simp
 have C2:Hid (∀ w',Below w.heap.size w w'->Calls Tryz.prog 76 #[.pointer (some ⟨p,0,none⟩),.string ⟨(Im.nW n).toArray⟩,.int .i64 (Im.nE n)] w' fun e w2=>Zdk B p w' v (l++Im.nW n) (Im.er1 er (Im.nE n)) e w2):=fun w' h9=>by
  have:=Zgp B p w' v l er ⟨(Im.nW n).toArray⟩ (Im.nE n) (h.below h9) (by show l.length+(Im.nW n).toArray.size<=_;simp;omega);simpa [Im.er1] using this
 generalize Im.nW n=L at *;generalize Im.er1 er (Im.nE n)=R at *;generalize Im.nE n=E at *;clear h;go_enter Tryz.func47,Tryz.ntmps47
 go_wp2_with fail
 refine C1.mono ?_;rintro e w1 ⟨rfl,G⟩;go_wp2_with fail
 refine (C2.out _ G).mono ?_;rintro e w2 ⟨rfl,G2,v',h',F'⟩;have G3:Below B w w2:=(G.mono hB).trans G2;have F3:=(WF.of (p:=p) (v:=v) G).trans F';go_wp2_with fail
 go_end0
 exact ⟨rfl,G3,_,h',F3⟩
theorem Zhd (B p:Nat) (w:World) (v:Value) (l:List UInt8) (er:Int) (s:ByteArray) (h:Wtr B p w v l er) (hl:l.length+520<=140737488355328) (hs:s.size<=281474976710656) :
 Calls Tryz.prog 48 #[.pointer (some ⟨p,0,none⟩),.string s] w fun e w'=>Zdk B p w v (l++Im.tW s) (Im.er1 er (Im.tE s)) e w':=by
 have hB:B<=w.heap.size:=nL (Nat.lt_of_le_of_lt h.hp h.lt)
 have C1:Calls Tryz.prog 78 #[.string s] w fun e w'=>e=.returned (.tuple #[.string ⟨(Im.tW s).toArray⟩,.int .i64 (Im.tE s)])/\Below w.heap.size w w':=by
  unfold Im.tW Im.tE;by_cases hn:s.size<=512
  ·rw [if_pos hn,if_pos hn]
   have e1:(⟨(Im.tb s).toArray⟩:ByteArray)=⟨(Nm.nb s.size).toArray⟩++s:=by
    apply Nm.ZF;simp [Im.tb]
   rw [e1];exact Zpy s w hn
  ·rw [if_neg hn,if_neg hn];exact Zss s w hs (by omega)
 have hz:(Im.tW s).length<=520:=by
  unfold Im.tW;by_cases hn:s.size<=512
  ·rw [if_pos hn];have:=Nm.ZD s.size (by omega);have h2:=Im.Zq s;unfold Im.tb;rw [List.length_append];omega
  ·rw [if_neg hn];simp
 have C2:Hid (∀ w',Below w.heap.size w w'->Calls Tryz.prog 76 #[.pointer (some ⟨p,0,none⟩),.string ⟨(Im.tW s).toArray⟩,.int .i64 (Im.tE s)] w' fun e w2=>Zdk B p w' v (l++Im.tW s) (Im.er1 er (Im.tE s)) e w2):=fun w' h9=>by
  have:=Zgp B p w' v l er ⟨(Im.tW s).toArray⟩ (Im.tE s) (h.below h9) (by show l.length+(Im.tW s).toArray.size<=_;simp;omega);simpa [Im.er1] using this
 generalize Im.tW s=L at *;generalize Im.er1 er (Im.tE s)=R at *;generalize Im.tE s=E at *;clear h;go_enter Tryz.func48,Tryz.ntmps48
 go_wp2_with fail
 refine C1.mono ?_;rintro e w1 ⟨rfl,G⟩;go_wp2_with fail
 refine (C2.out _ G).mono ?_;rintro e w2 ⟨rfl,G2,v',h',F'⟩;have G3:Below B w w2:=(G.mono hB).trans G2;have F3:=(WF.of (p:=p) (v:=v) G).trans F';go_wp2_with fail
 go_end0
 exact ⟨rfl,G3,_,h',F3⟩
theorem Zhy (B p:Nat) (w:World) (v:Value) (l:List UInt8) (er:Int) (s:ByteArray) (h:Wtr B p w v l er) (hl:l.length+5+s.size<=140737488355328) :
 Calls Tryz.prog 50 #[.pointer (some ⟨p,0,none⟩),.string s] w fun e w'=>Zdk B p w v (l++Im.nW (s.size:Int)++s.data.toList) (Im.er1 er (Im.nE (s.size:Int))) e w':=by
 have hz:(Im.nW (s.size:Int)).length<=5:=by
  unfold Im.nW;by_cases hn:0<=(s.size:Int)/\(s.size:Int)<=2147483647
  ·rw [if_pos hn];exact Nm.ZD _ (by omega)
  ·rw [if_neg hn];simp
 have C1:=Zcn B p w v l er (s.size:Int) h (by omega);have C2:Hid (∀ w' v',Wtr B p w' v' (l++Im.nW (s.size:Int)) (Im.er1 er (Im.nE (s.size:Int)))->Calls Tryz.prog 80 #[.pointer (some ⟨p,0,none⟩),.string s] w' fun e w2=>Zdk B p w' v' (l++Im.nW (s.size:Int)++s.data.toList) (Im.er1 er (Im.nE (s.size:Int))) e w2):=fun w' v' h9=>Zbx B p w' v' _ _ s h9 (by rw [List.length_append];omega)
 generalize Im.er1 er (Im.nE (s.size:Int))=R at *;generalize l++Im.nW (s.size:Int)++s.data.toList=L2 at *;generalize l++Im.nW (s.size:Int)=L1 at *;clear h hz;go_enter Tryz.func50,Tryz.ntmps50
 go_wp2_with fail
 refine C1.mono ?_;rintro e w1 ⟨rfl,G,v1,h1,F1⟩;go_wp2_with fail
 refine (C2.out _ _ h1).mono ?_;rintro e w2 ⟨rfl,G2,v',h',F'⟩;have G3:=G.trans G2;have F3:=F1.trans F';go_wp2_with fail
 go_end0
 exact ⟨rfl,G3,_,h',F3⟩
theorem Zjc (w:World):∀ k,Below w.heap.size w (w.drewN k)
 | 0=>bR _ _
 | k+1=>by rw [show w.drewN (k+1)=(w.drewN k).drew from rfl];exact (Zjc w k).drew
theorem Zeo (B p:Nat) (w:World) (v:Value) (l:List UInt8) (er:Int) (h:Wtr B p w v l er) :
 Calls Tryz.prog 49 #[.pointer (some ⟨p,0,none⟩)] w fun e w'=>e=.returned (.tuple #[.string (if er=0 then ⟨l.toArray⟩ else ⟨#[]⟩),.int .i64 er])/\Below w.heap.size w w':=by
 have c1:=h.c1;by_cases he:er=0
 ·subst he;rw [if_pos rfl];have C:=ZeP B p w v l 0 h;clear h;go_enter Tryz.func49,Tryz.ntmps49
  go_wp2_with fail
  refine C.mono ?_;rintro e w1 ⟨rfl,G⟩;go_wp2_with fail
  go_ret2
  exact ⟨rfl,G⟩
 ·rw [if_neg he];have d1:(er == 0)=false:=by simpa using he
  clear h;go_enter Tryz.func49,Tryz.ntmps49
  go_wp2_with fail
  go_quiet (fail)
  go_wp2_with fail
  go_ret2
  exact ⟨rfl,Zjc _ _⟩
theorem ZmM (w:World) (T:TypeId):Wtr w.heap.size w.heap.size (w.alloc (.cells #[.slice none 0 0,.int .i64 0] T (0,0))) (.slice none 0 0) [] 0 :=
 ⟨nl _,by simp,cN _ _ _ 0,cN _ _ _ 1,fN _ _ _ _ rfl,fN _ _ _ _ rfl,Own8.nil _ _,by simp [Value.ownBlock]⟩
namespace Im
def wL (x:Act):List UInt8:=(([]++nW x.kind)++nW x.n)++tW x.name++tW x.text
def wE (x:Act):Int:=er1 (er1 (er1 (er1 0 (nE x.kind)) (nE x.n)) (tE x.name)) (tE x.text)
theorem Zuw (x:Act):wE x=actE x:=by
 unfold wE actE er1 nE tE In;by_cases h1:0<=x.kind/\x.kind<=2147483647
 ·by_cases h2:0<=x.n/\x.n<=2147483647
  ·by_cases h3:x.name.size<=512
   ·by_cases h4:x.text.size<=512
    ·simp [h1,h2,h3,h4]
    ·simp [h1,h2,h3,h4]
   ·simp [h1,h2,h3]
  ·simp [h1,h2]
 ·simp [h1]
theorem Zur {x:Act} (h:okX x):wL x=Zce x:=by
 obtain ⟨h1,h2,h3,h4⟩:=h;unfold wL Zce nW tW;unfold In at h1 h2;rw [if_pos h1,if_pos h2,if_pos h3,if_pos h4];simp
theorem Zqo (n:Int):(nW n).length<=5:=by
 unfold nW;split
 ·exact Nm.ZD _ (by omega)
 ·simp
theorem ZqO (s:ByteArray):(tW s).length<=520:=by
 unfold tW;split
 ·unfold tb;have:=Nm.ZD s.size (by omega);rw [List.length_append,<-Zq];omega
 ·simp
end Im
theorem Zdl (k n:Int) (nm tx:ByteArray) (w:World) (hn:nm.size<=281474976710656) (ht:tx.size<=281474976710656) :
 Calls Tryz.prog 19 #[.agg #[.int .i64 k,.int .i64 n,.string nm,.string tx]] w fun e w'=>e=.returned (.tuple #[.string (Im.wrtT ⟨k,n,nm,tx⟩),.int .i64 (Im.actE ⟨k,n,nm,tx⟩)])/\Below w.heap.size w w':=by
 have B1:=Za w (.cells #[.int .i64 k,.int .i64 n,.string nm,.string tx] 29 (0,0));have X1:=XB.new w 29 k n nm tx;have G2:=Za (w.alloc (.cells #[.int .i64 k,.int .i64 n,.string nm,.string tx] 29 (0,0))) (.cells #[.slice none 0 0,.int .i64 0] 81 (0,0));have T:=ZmM (w.alloc (.cells #[.int .i64 k,.int .i64 n,.string nm,.string tx] 29 (0,0))) 81;have X:=X1.next G2;have B:=bch B1 G2 (nl _);rw [show (w.alloc (.cells #[.int .i64 k,.int .i64 n,.string nm,.string tx] 29 (0,0))).heap.size=w.heap.size+1 by simp] at T;have l1:=Im.Zqo k;have l2:=Im.Zqo n;have l3:=Im.ZqO nm;have l4:=Im.ZqO tx;have C1:Hid (∀ w' v,Wtr (w.heap.size+1) (w.heap.size+1) w' v [] 0->_):=fun w' v h=>Zcn (w.heap.size+1) (w.heap.size+1) w' v [] 0 k h (by simp)
 have C2:Hid (∀ w' v,Wtr (w.heap.size+1) (w.heap.size+1) w' v ([]++Im.nW k) (Im.er1 0 (Im.nE k))->_):=fun w' v h=>Zcn (w.heap.size+1) (w.heap.size+1) w' v ([]++Im.nW k) (Im.er1 0 (Im.nE k)) n h (by simp;omega)
 have C3:Hid (∀ w' v,Wtr (w.heap.size+1) (w.heap.size+1) w' v (([]++Im.nW k)++Im.nW n) (Im.er1 (Im.er1 0 (Im.nE k)) (Im.nE n))->_):=fun w' v h=>Zhd (w.heap.size+1) (w.heap.size+1) w' v _ _ nm h (by simp;omega) hn
 have C4:Hid (∀ w' v,Wtr (w.heap.size+1) (w.heap.size+1) w' v ((([]++Im.nW k)++Im.nW n)++Im.tW nm) (Im.er1 (Im.er1 (Im.er1 0 (Im.nE k)) (Im.nE n)) (Im.tE nm))->_):=fun w' v h=>Zhd (w.heap.size+1) (w.heap.size+1) w' v _ _ tx h (by simp;omega) ht
 have C5:Hid (∀ w' v,Wtr (w.heap.size+1) (w.heap.size+1) w' v (Im.wL ⟨k,n,nm,tx⟩) (Im.wE ⟨k,n,nm,tx⟩)->_):=fun w' v h=>Zeo (w.heap.size+1) (w.heap.size+1) w' v _ _ h
 have HL:Hid (Im.wL ⟨k,n,nm,tx⟩=((([]++Im.nW k)++Im.nW n)++Im.tW nm)++Im.tW tx):=rfl;have HE:Hid (Im.wE ⟨k,n,nm,tx⟩=Im.er1 (Im.er1 (Im.er1 (Im.er1 0 (Im.nE k)) (Im.nE n)) (Im.tE nm)) (Im.tE tx)):=rfl;have HW:=Im.Zuw ⟨k,n,nm,tx⟩
 have HOK:Hid (Im.actE ⟨k,n,nm,tx⟩=0->Im.wL ⟨k,n,nm,tx⟩=Im.Zce ⟨k,n,nm,tx⟩/\(Im.Zce ⟨k,n,nm,tx⟩).length<=1044/\Im.wrtT ⟨k,n,nm,tx⟩=⟨(Im.actB ⟨k,n,nm,tx⟩).toArray⟩):=fun h0=>⟨Im.Zur (Im.Zgc.1 h0),Im.ZdU (Im.Zgc.1 h0),by unfold Im.wrtT;rw [if_pos h0]⟩
 have HNO:Hid (Im.actE ⟨k,n,nm,tx⟩ ≠ 0->Im.wrtT ⟨k,n,nm,tx⟩=⟨#[]⟩):=fun h0=>by unfold Im.wrtT;rw [if_neg h0]
 rw [HW] at C5 HE;have HB:Hid (Im.actB ⟨k,n,nm,tx⟩=Nm.nb (Im.Zce ⟨k,n,nm,tx⟩).length++Im.Zce ⟨k,n,nm,tx⟩):=rfl;clear HW B1 X1 G2 l1 l2 l3 l4 hn ht;generalize Im.wL ⟨k,n,nm,tx⟩=L at *;generalize Im.actE ⟨k,n,nm,tx⟩=E at *;generalize Im.Zce ⟨k,n,nm,tx⟩=I at *;generalize Im.actB ⟨k,n,nm,tx⟩=AB at *;generalize Im.wrtT ⟨k,n,nm,tx⟩=R at *;generalize ([]++Im.nW k)=L1 at *;generalize Im.er1 0 (Im.nE k)=E1 at *;generalize (L1++Im.nW n)=L2 at *;generalize Im.er1 E1 (Im.nE n)=E2 at *;generalize (L2++Im.tW nm)=L3 at *;generalize Im.er1 E2 (Im.tE nm)=E3 at *;obtain ⟨x0,x1,x2,x3,_⟩:=id X;go_enter Tryz.func19,Tryz.ntmps19
 go_wp2_with fail
 clear x0 x1 x2 x3;generalize ((w.alloc (.cells #[.int .i64 k,.int .i64 n,.string nm,.string tx] 29 (0,0))).alloc (.cells #[.slice none 0 0,.int .i64 0] 81 (0,0)))=w0 at *;refine (C1.out _ _ T).mono ?_;rintro e w1 ⟨rfl,G,v1,T',_⟩;have T:=T';have X:=X.block (G.block w.heap.size (by omega));have B:=B.trans (G.mono (by omega));clear T' G C1;obtain ⟨x0,x1,x2,x3,_⟩:=id X;go_wp2_with fail
 clear x0 x1 x2 x3;refine (C2.out _ _ T).mono ?_;rintro e w2 ⟨rfl,G,v2,T',_⟩;have T:=T';have X:=X.block (G.block w.heap.size (by omega));have B:=B.trans (G.mono (by omega));clear T' G C2;obtain ⟨x0,x1,x2,x3,_⟩:=id X;go_wp2_with fail
 clear x0 x1 x2 x3;refine (C3.out _ _ T).mono ?_;rintro e w3 ⟨rfl,G,v3,T',_⟩;have T:=T';have X:=X.block (G.block w.heap.size (by omega));have B:=B.trans (G.mono (by omega));clear T' G C3;obtain ⟨x0,x1,x2,x3,_⟩:=id X;go_wp2_with fail
 clear x0 x1 x2 x3;refine (C4.out _ _ T).mono ?_;rintro e w4 ⟨rfl,G,v4,T',_⟩;have T:=T';rw [<-HL.out,<-HE.out] at T;have X:=X.block (G.block w.heap.size (by omega));have B:=B.trans (G.mono (by omega));clear T' G C4;obtain ⟨x0,x1,x2,x3,_⟩:=id X;go_wp2_with fail
 clear x0 x1 x2 x3;refine (C5.out _ _ T).mono ?_;rintro e w5 ⟨rfl,G⟩;have B:=bch B G (nl _);clear G C5 T X HL HE;by_cases h0:E=0
 ·obtain ⟨e1,e2,e3⟩:=HOK.out h0;subst h0;rw [if_pos rfl,e1]
  have HR:=(show Hid _ from e3)
  clear HOK HNO e1 e3;have T:=ZmM w5 81;have GA:=Za w5 (.cells #[.slice none 0 0,.int .i64 0] 81 (0,0));have C6:=Zhy w5.heap.size w5.heap.size _ _ [] 0 ⟨I.toArray⟩ T (by rw [Im.Zq];simp;omega);have hI:((⟨I.toArray⟩:ByteArray).size:Int)=(I.length:Int):=by rw [Im.Zq]
  have hin:0<=(I.length:Int)/\(I.length:Int)<=2147483647:=⟨by omega,by omega⟩
  rw [hI,show Im.nW (I.length:Int)=Nm.nb I.length by unfold Im.nW;rw [if_pos hin,Int.toNat_natCast],show Im.er1 0 (Im.nE (I.length:Int))=0 by unfold Im.er1 Im.nE;rw [if_pos rfl,if_pos hin],show ([]++Nm.nb I.length++(⟨I.toArray⟩:ByteArray).data.toList)=AB by rw [HB.out];simp] at C6;clear hI hin HB e2;generalize (⟨I.toArray⟩:ByteArray)=S at *;go_wp2_with fail
  generalize (w5.alloc (.cells #[.slice none 0 0,.int .i64 0] 81 (0,0)))=w6 at *;refine C6.mono ?_;rintro e w7 ⟨rfl,G,v7,T7,_⟩;go_wp2_with fail
  have C7:=Zeo _ _ w7 v7 AB 0 T7;rw [if_pos rfl] at C7;refine C7.mono ?_;rintro e w8 ⟨rfl,G8⟩;go_wp2_with fail
  go_ret2
  exact ⟨by rw [HR.out];rfl,bch (bch B (GA.trans G) (nl _)) G8 (nl _)⟩
 ·rw [if_neg h0]
  have HR:=(show Hid _ from HNO.out h0)
  have dE:(E == 0)=false:=by simpa using h0
  go_wp2_with fail
  go_ret2
  exact ⟨by rw [HR.out];rfl,B⟩
end Go.Proofs.YtbjbjbpgmojcbacGreat
