import Derived.Test.YtoijpogadkogcaaGreatRi
import Derived.Test.YtoijpogadkogcaaGreatRh
namespace Go.Proofs.YtoijpogadkogcaaGreat
def kb456 (x:Bytes):Bool:=decide (4≤(x.getD 2 0).toNat) && decide ((x.getD 2 0).toNat≤6)
def m456 (l:List Bytes):Nat:=(l.filter kb456).length
theorem zay (a b:List Bytes):m456 (a++b)=m456 a+m456 b:=by unfold m456; rw [List.filter_append,List.length_append]
theorem zjq (k f i:Nat) (b:Bytes) (hk:k≤255):kb456 (frame k f i b)=(decide (4≤k) && decide (k≤6)):=by
 have e:((frame k f i b).getD 2 0).toNat=k:=by
  have:frame k f i b=Fr.enc ⟨k,f,i,b⟩:=rfl
  rw [this,zcm];simp only [List.getD_cons_succ,List.getD_cons_zero];exact zdx _ (by omega)
 unfold kb456;rw [e]
theorem zzbcj (Q:List Fr) (h:∀ f∈Q,f.kind≤3):m456 (Q.map Fr.enc)=0:=by
 unfold m456;rw [List.length_eq_zero_iff,List.filter_eq_nil_iff];intro x hx;obtain ⟨f,hf,rfl⟩:=List.mem_map.1 hx
 have:=h f hf
 have e:=zjq f.kind f.flags f.id f.body (by omega);have e2:Fr.enc f=frame f.kind f.flags f.id f.body:=rfl;rw [e2,e];simp;omega
theorem zjr (id n:Nat):m456 ((wfs id n).map Fr.enc)=0:=by
 rw [zey];split
 ·have e:=zjq 7 0 id (two n) (by omega);simp [m456,e]
 ·rfl
def Ctl7 (c c':Cs):Prop:=∃ l,c'.control=c.control++l∧m456 l=0
theorem Ctl7.rfl' (c:Cs):Ctl7 c c:=⟨[],(List.append_nil _).symm,rfl⟩
theorem Ctl7.of {c c':Cs} (h:c'.control=c.control):Ctl7 c c':=⟨[],by rw [h,List.append_nil],rfl⟩
theorem zvc (c c0:Cs) (id n:Nat) (h:c.control=c0.control):Ctl7 c0 (c.gives id n):=⟨_,by rw [zba]; show c.control++_=_; rw [h],zjr id n⟩
theorem zvd (c c0:Cs) (i code:Nat) (h:c.control=c0.control):Ctl7 c0 (c.drops i code):=by
 unfold Cs.drops;dsimp only;obtain ⟨l,h1,h2⟩:=zvc ((c.mod i fun s => { s with unread:=[],reset:=true,head:=[],bytes:=[],ending:=false,code:=code }).rings i) c0 0 (c.st i).unread.length h;exact ⟨l,h1,h2⟩
theorem zzbed (c:Cs) (fin:Bool) (id:Nat) (body:Bytes):Ctl7 c (c.comes fin id body).1:=by
 have hb:Ctl7 c { (Cs.gives { c with recv:=c.recv - body.length } 0 body.length) with recv:=c.recv }:=by
  obtain ⟨l,h1,h2⟩:=zvc { c with recv:=c.recv - body.length } c 0 body.length rfl;exact ⟨l,h1,h2⟩
 unfold Cs.comes;dsimp only;split
 ·exact Ctl7.rfl' c
 ·split
  ·exact hb
  ·split
   ·exact hb
   ·split
    ·exact Ctl7.of rfl
    ·split
     ·exact Ctl7.of rfl
     ·split <;> exact Ctl7.of rfl
theorem zsc (c:Cs) (whole:Bool) (id:Nat) (body:Bytes):Ctl7 c (c.joined whole id body).1:=by
 unfold Cs.joined;dsimp only;split
 ·exact Ctl7.of rfl
 ·split
  ·exact Ctl7.of rfl
  ·split
   ·exact Ctl7.of rfl
   ·split
    ·exact zvd _ c _ 6 rfl
    ·split <;> exact Ctl7.of rfl
theorem zzbee (c:Cs) (f:Fr) (hf:f.kind≤255):m456 (c.doneF f).1.control≤m456 c.control+(if kb456 f.enc then 1 else 0):=by
 have of7:∀ c':Cs,Ctl7 c c'→m456 c'.control≤m456 c.control+(if kb456 f.enc then 1 else 0):=fun c' ⟨l,h1,h2⟩=>by rw [h1,zay,h2]; omega
 have hkb:kb456 f.enc=(decide (4≤f.kind) && decide (f.kind≤6)):=zjq f.kind f.flags f.id f.body hf;have one:∀ (x:Bytes) (c':Cs),c'.control=c.control++[x]→(4≤f.kind∧f.kind≤6)→m456 c'.control≤m456 c.control+(if kb456 f.enc then 1 else 0):=fun x c' h1 h2=>by
  rw [h1,zay,hkb]
  have:m456 [x]≤1:=by unfold m456; exact List.length_filter_le _ _
  simp only [h2.1,h2.2,decide_true,Bool.and_self,if_true];omega
 unfold Cs.doneF Cs.done;dsimp only;by_cases q1:0 < c.now∧(f.kind≠2∨f.id≠c.now)
 ·rw [if_pos q1]; exact of7 _ (Ctl7.rfl' c)
 rw [if_neg q1];by_cases q2:7 < f.kind
 ·rw [if_pos q2]; exact of7 _ (Ctl7.rfl' c)
 rw [if_neg q2];by_cases q3:(f.kind=0∨f.kind=3)∧c.known (f.id:Int)=false
 ·rw [if_pos q3]; exact of7 _ (Ctl7.rfl' c)
 rw [if_neg q3];by_cases q4:(f.kind=4∨f.kind=5∨f.kind=6)∧f.id≠0
 ·rw [if_pos q4]; exact of7 _ (Ctl7.rfl' c)
 rw [if_neg q4];by_cases q5:f.kind=7∧f.id≠0∧c.known (f.id:Int)=false
 ·rw [if_pos q5]; exact of7 _ (Ctl7.rfl' c)
 rw [if_neg q5];by_cases q6:Cs.offSize f.kind (f.flags % 2 == 1) f.body.length=true
 ·rw [if_pos q6]; exact of7 _ (Ctl7.rfl' c)
 rw [if_neg q6];by_cases q7:f.kind=0
 ·rw [if_pos q7]; exact of7 _ (zzbed c _ _ _)
 rw [if_neg q7];by_cases q8:f.kind=1∨f.kind=2
 ·rw [if_pos q8];refine of7 _ ?_;unfold Cs.blocks;split
  ·split
   ·exact Ctl7.rfl' c
   ·exact zsc c _ _ _
  ·split
   ·exact Ctl7.rfl' c
   ·obtain ⟨l,h1,h2⟩:=zsc (c.begins (f.flags % 2 == 1) f.id) (f.flags / 2 % 2 == 1) f.id f.body;exact ⟨l,h1,h2⟩
 rw [if_neg q8];by_cases q9:f.kind=3
 ·rw [if_pos q9];refine of7 _ ?_;unfold Cs.broken;split
  ·exact Ctl7.rfl' c
  ·split
   ·exact Ctl7.rfl' c
   ·exact zvd _ c _ 0 rfl
 rw [if_neg q9];by_cases h4:f.kind=4
 ·rw [if_pos h4];unfold Cs.settings;split
  ·exact of7 _ (Ctl7.rfl' c)
  ·split
   ·exact of7 _ (Ctl7.rfl' c)
   ·exact one _ _ rfl (by omega)
 rw [if_neg h4];by_cases h5:f.kind=5
 ·rw [if_pos h5];dsimp only;split
  ·exact of7 _ (Ctl7.of rfl)
  ·exact one _ _ rfl (by omega)
 rw [if_neg h5];by_cases h6:f.kind=6
 ·rw [if_pos h6]; exact of7 _ (Ctl7.of rfl)
 rw [if_neg h6];refine of7 _ ?_;unfold Cs.window;split
 ·exact Ctl7.rfl' c
 ·split
  ·split <;> exact Ctl7.of rfl
  ·split
   ·exact Ctl7.rfl' c
   ·split
    ·exact Ctl7.rfl' c
    ·split <;> exact Ctl7.of rfl
def LK (p:Nat) (cl:Bool) (nA nB:Nat) (d e:Ds) (up down:Bytes) (wA wB:Nat→Way) (r:Nat→Bool) (h:Nat→Hdrs):Prop :=
 ∃ A B U D CA CB,Sim d A∧Sim e B∧Sys A B U D CA CB wA wB r h∧e.inn++up=encs U∧d.inn++down=encs D∧A.own=nA∧B.own=nB∧A.client=cl∧m456 A.control+m456 B.control+(m456 (U.map Fr.enc)+m456 (D.map Fr.enc))≤p
variable {p:Nat} {cl:Bool} {nA nB:Nat} {d e:Ds} {up down:Bytes} {wA wB:Nat→Way} {r:Nat→Bool} {h:Nat→Hdrs}
theorem Sys.cnt1 {A B:Cs} {U D CA CB:List Fr} (S:Sys A B U D CA CB wA wB r h) (f:Bool→Int):Sys { A with cnt:=f } B U D CA CB wA wB r h:=⟨{ S.ab with },{ S.ba with }⟩
theorem Sim.cnt {d:Ds} {c:Cs} (H:Sim d c) (f:Bool→Int):Sim d { c with cnt:=f }:=H.scal { H.sc with } rfl rfl rfl rfl rfl rfl
theorem Sys.idsA {A B:Cs} {U D CA CB:List Fr} (S:Sys A B U D CA CB wA wB r h):Ids A:=fun s hs=>by
 obtain ⟨h1,-,h3⟩:=S.ab.ids s hs;exact ⟨h1,h3⟩
theorem Sys.comA {A B:Cs} {U D CA CB:List Fr} (S:Sys A B U D CA CB wA wB r h):ComOk A:=fun h0=>by
 obtain ⟨a1,a2,a3,a4⟩:=S.ba.now h0;exact ⟨a1,(S.ba.coming _ a2).1,a4⟩
theorem Sys.mineA {A B:Cs} {U D CA CB:List Fr} (S:Sys A B U D CA CB wA wB r h) (n:Nat) (hm:(vl A.l n).mine=true):(vl A.l n).bytes=[]:=(S.ab.e2 n hm).1
theorem LK.swap (H:LK p cl nA nB d e up down wA wB r h):LK p (!cl) nB nA e d down up wB wA r h:=by
 obtain ⟨A,B,U,D,CA,CB,h1,h2,S,h3,h4,h5,h6,h7,h8⟩:=H;exact ⟨B,A,D,U,CB,CA,h2,h1,S.swap,h4,h3,h6,h5,by rw [← h7,S.ab.cl,Bool.not_not],by omega⟩
theorem LK.failed (H:LK p cl nA nB d e up down wA wB r h):d.failed=false:=by
 obtain ⟨A,B,U,D,CA,CB,h1,-⟩:=H;exact h1.sc.fl
theorem zzy (J:Ds→List Fr→Prop) (hw:∀ c p P,J c P→J { c with inn:=p } P) (hok:∀ c f P,J c (f::P)→f.Ok) (hf:∀ c P,J c P→c.failed=false) (hs:∀ c (f:Fr) P,J c (f::P)→J (c.done f.kind f.flags f.id f.body) P∧(c.done f.kind f.flags f.id f.body).inn=c.inn) (n:Nat) :
  ∀ (c:Ds) (P:List Fr) (rest:Bytes),J c P→c.inn++rest=encs P→c.inn.length≤n → ∃ P2,J (Ds.looks n c) P2∧(Ds.looks n c).inn++rest=encs P2:=by
 induction n with
 | zero=>exact fun c P rest hI he _=>⟨P,hI,he⟩
 | succ n ih =>
  intro c P rest hI he hn;have hfl:=hf c P hI;unfold Ds.looks;by_cases h6:c.inn.length < 6
  ·rw [if_pos (.inr h6)]; exact ⟨P,hI,he⟩
  rw [if_neg (by rw [hfl]; simp; omega)];dsimp only;cases P with
  | nil =>
   have:=congrArg List.length he
   simp [encs] at this;exact absurd this.1 (by intro h; rw [h] at h6; simp at h6)
  | cons f P =>
   have ho:=hok c f P hI;have hnum:Cs.num c.inn 0=f.body.length:=by
    rw [← zpo c.inn rest (by omega),he,zcq,zya f ho]
   have h64:f.body.length≤64:=ho.2.2.2;rw [hnum,if_neg (by omega)];by_cases hl:c.inn.length < 6+f.body.length
   ·rw [if_pos hl]; exact ⟨_,hI,he⟩
   ·rw [if_neg hl];have hle:=ziu f;have e0:c.inn.take (6+f.body.length)=f.enc:=by
     have:=congrArg (List.take (6+f.body.length)) he
     rw [List.take_append_of_le_length (by omega),zcq,List.take_append_of_le_length (by omega),List.take_of_length_le (l:=f.enc) (by omega)] at this;exact this
    have e1:c.inn.drop (6+f.body.length)++rest=encs P:=by
     have:=congrArg (List.drop (6+f.body.length)) he
     rw [List.drop_append_of_le_length (by omega),zcq,List.drop_append_of_le_length (by omega),List.drop_of_length_le (l:=f.enc) (by omega)] at this;simpa using this
    rw [e0];obtain ⟨q1,q2,q3,q4⟩:=ho;have g2:(f.enc.getD 2 0).toNat=f.kind:=by
     rw [zcm]; simp only [List.getD_cons_succ,List.getD_cons_zero]; exact zdx _ (by omega)
    have g3:(f.enc.getD 3 0).toNat=f.flags:=by
     rw [zcm]; simp only [List.getD_cons_succ,List.getD_cons_zero]; exact zdx _ (by omega)
    have g4:Cs.num f.enc 4=f.id:=by
     rw [zcm]; simp only [Cs.num,List.getD_cons_succ,List.getD_cons_zero,Nat.reduceAdd];rw [zdx _ (by omega),zdx _ (by omega)]; omega
    have g5:f.enc.drop 6=f.body:=by rw [zcm]; rfl
    rw [g2,g3,g4,g5];obtain ⟨hI',ei⟩:=hs _ f P (hw c (c.inn.drop (6+f.body.length)) _ hI);refine ih _ P rest hI' (by rw [ei]; exact e1) ?_;rw [ei]
    show (c.inn.drop (6+f.body.length)).length≤n
    rw [List.length_drop]; omega
theorem LK.takes {b rest:Bytes} (H:LK p cl nA nB d e (b++rest) down wA wB r h):LK p cl nA nB d (e.takes b) rest down wA wB r h:=by
 obtain ⟨A,B,U,D,CA,CB,h1,h2,S,h3,h4,h5,h6,h7,h8⟩:=H;unfold Ds.takes;rw [if_neg (by rw [h2.sc.fl]; simp)];dsimp only;obtain ⟨P2,⟨B',CB',q1,q2,q3,q5⟩,q4⟩:=zzy (fun c P => ∃ B CB,Sim c B∧Sys A B P D CA CB wA wB r h∧B.own=nB∧m456 A.control+m456 B.control+(m456 (P.map Fr.enc)+m456 (D.map Fr.enc))≤p)
  (fun c p P ⟨B,CB,k1,k2,k3,k4⟩=>⟨B.wp p,CB,k1.scal { k1.sc with inn:=rfl } rfl rfl rfl rfl rfl rfl,⟨k2.ab.wp2 p,k2.ba.wp1 p⟩,k3,k4⟩)
  (fun c f P ⟨B,CB,k1,k2,k3,k4⟩=>k2.ab.fit.ok)
  (fun c P ⟨B,CB,k1,k2,k3,k4⟩=>k1.sc.fl)
  (fun c f P ⟨B,CB,k1,k2,k3,k4⟩=>by
   have S1:=(k2.swap.cnt1 fun b=>if b then c.mCount else c.tCount).swap;have k1':=k1.cnt fun b=>if b then c.mCount else c.tCount
   obtain ⟨hz,CB',S2⟩:=S1.gets;have M:=k1'.done S1.swap.idsA S1.swap.comA rfl f.kind f.flags f.id f.body hz;refine ⟨⟨_,CB',M,S2,?_,?_⟩,?_⟩
   ·exact (zyc _ _ _ _ _).1.trans k3
   ·have hok:=S1.ab.fit.ok;have h9:=zzbee { B with cnt:=fun b=>if b then c.mCount else c.tCount } f (by have:=hok.1; omega);unfold Cs.doneF at h9;have h10:m456 ((f::P).map Fr.enc)=(if kb456 f.enc then 1 else 0)+m456 (P.map Fr.enc):=by
     rw [List.map_cons];unfold m456;rw [List.filter_cons];split <;> simp; omega
    rw [h10] at k4;have h11:m456 ({ B with cnt:=fun b=>if b then c.mCount else c.tCount }:Cs).control=m456 B.control:=rfl;omega
   ·have:=M.sc.inn
    rw [this,k1.sc.inn];have ho:=S1.ab.fit.ok
    have:=znb { B with cnt:=fun b=>if b then c.mCount else c.tCount } B.part f.enc
    rw [zjj _ f ho] at this;exact this)
  ((e.inn++b).length+1) { e with inn:=e.inn++b } U rest
  ⟨B.wp (e.inn++b),CB,h2.scal { h2.sc with inn:=rfl } rfl rfl rfl rfl rfl rfl,⟨S.ab.wp2 _,S.ba.wp1 _⟩,h6,h8⟩
  (by show (e.inn++b)++rest=_; rw [List.append_assoc]; exact h3) (by show (e.inn++b).length≤_; omega)
 exact ⟨A,B',P2,D,CA,CB',h1,q1,q2,q4,h4,h5,q3,h7,q5⟩
theorem zeq (room:Int):∀ (l:List (Nat × Nat × Nat × Bytes)) (o:Bytes),Cs.outCtl room (l.map fun f=>frame f.1 f.2.1 f.2.2.1 f.2.2.2) o=((Ds.outCtl room l o).1.map (fun f=>frame f.1 f.2.1 f.2.2.1 f.2.2.2),(Ds.outCtl room l o).2)
 | [],o=>rfl
 | (k,f,i,b)::l,o=>by
  have hl:(frame k f i b).length=6+b.length:=by
   have:=ziu ⟨k,f,i,b⟩
   exact this
  rw [List.map_cons,Cs.outCtl,Ds.outCtl];have e:(room - o.length < ((frame k f i b).length:Int)) ↔ (room - (o.length:Int) < 6+(b.length:Int)):=by rw [hl]; omega
  by_cases hc:room - (o.length:Int) < 6+(b.length:Int)
  ·rw [if_pos hc,if_pos (e.2 hc)]; rfl
  ·rw [if_neg hc,if_neg (fun x=>hc (e.1 x))];exact zeq room l _
theorem zzz (c:Cs) (room:Int) (b:Bytes) (d:Cs) (h:c.turned room=some (b,d)):d.control=c.control:=by
 unfold Cs.turned at h;obtain ⟨k,-,h⟩:=Option.bind_eq_some_iff.1 h;obtain ⟨i,-,h⟩:=Option.bind_eq_some_iff.1 h;dsimp only at h;split at h
 ·simp at h
 ·have h:Cs.rings { (c.turn i room).2 with ring:=c.ring.eraseIdx k } i=d:=congrArg Prod.snd (Option.some.inj h);rw [← h]
  show (c.turn i room).2.control=c.control
  unfold Cs.turn;dsimp only;split
  ·split <;> rfl
  ·split
   ·split <;> rfl
   ·split
    ·split <;> rfl
    ·split <;> rfl
theorem LK.outRing {CB:List Fr} {B:Cs} {U0 D:List Fr} {cl:Bool} {nA:Nat} {p:Bytes} (room:Int) (fuel:Nat):∀ (c:Ds) (A:Cs) (CA Q:List Fr),Sim c A→Sys A B (U0++Q) D CA CB wA wB r h→A.own=nA→A.client=cl→c.inn=p →
  ∃ A' Q',Sim (Ds.outRing room fuel c (encs Q)).1 A'∧Sys A' B (U0++Q') D CA CB wA wB r h∧(Ds.outRing room fuel c (encs Q)).2=encs Q'∧A'.own=nA∧A'.client=cl∧(Ds.outRing room fuel c (encs Q)).1.inn=p∧m456 A'.control=m456 A.control∧m456 (Q'.map Fr.enc)=m456 (Q.map Fr.enc):=by
 induction fuel with
 | zero=>exact fun c A CA Q k1 k2 k3 k4 k5=>⟨A,Q,k1,k2,rfl,k3,k4,k5,rfl,rfl⟩
 | succ m ih =>
  intro c A CA Q k1 k2 k3 k4 k5;rw [Ds.outRing];rcases k1.turned k2.mineA (room - (encs Q).length) with ⟨e1,-⟩ | ⟨b,c',A',e1,e2,M⟩
  ·rw [e1]; exact ⟨A,Q,k1,k2,rfl,k3,k4,k5,rfl,rfl⟩
  ·rw [e1];obtain ⟨R,hR,hRk,S2⟩:=k2.turn _ b A' e2;have hcA:A'.control=A.control:=zzz A _ b A' e2;have kk:=zrz A _ b A' e2;have hi:c'.inn=p:=by
    rw [M.sc.inn,znc A _ b A' e2,← k1.sc.inn]; exact k5
   have:=ih c' A' CA (Q++R) M (by rw [← List.append_assoc]; exact S2) (kk.1.trans k3) (kk.2.trans k4) hi
   rw [zbn,hR,hcA,List.map_append,zay,zzbcj R hRk,Nat.add_zero] at this;exact this
theorem LK.out (H:LK p cl nA nB d e up down wA wB r h) (room:Int):LK p cl nA nB (d.out room).1 e (up++(d.out room).2) down wA wB r h:=by
 obtain ⟨A,B,U,D,CA,CB,h1,h2,S,h3,h4,h5,h6,h7,h8⟩:=H;have key:=zga (fun c P=>(∃ CA,Sys c B P D CA CB wA wB r h)∧m456 c.control+m456 (P.map Fr.enc)≤m456 A.control+m456 (U.map Fr.enc)) (fun c x rr P ⟨⟨CA,T⟩,hm⟩ hx=>by
  have hc:=T.ab.ctl;rw [hx] at hc;cases CA with
  | nil=>simp at hc
  | cons f CA =>
   rw [List.map_cons] at hc;obtain ⟨e1,e2⟩:=List.cons.inj hc;refine ⟨f,e1.symm,⟨CA,?_⟩,?_⟩
   ·rw [e2];exact T.control
   ·show m456 rr+m456 ((P++[f]).map Fr.enc)≤_
    rw [hx] at hm;have e3:m456 (x::rr)=m456 [x]+m456 rr:=zay [x] rr;rw [List.map_append,zay,show [f].map Fr.enc=[x] from by rw [e1]; rfl];omega) room A.control A U [] ⟨⟨CA,by rw [List.append_nil]; exact S⟩,by rw [List.append_nil]; exact Nat.le_refl _⟩ rfl
 obtain ⟨Q,⟨⟨CA',T⟩,hm⟩,hQ⟩:=key;rw [zjh] at T hQ hm;rw [h1.sc.ctl,zeq] at T hQ;rw [show (Cs.outCtl room A.control []).1=(Ds.outCtl room d.ctl []).1.map (fun f=>frame f.1 f.2.1 f.2.2.1 f.2.2.2) from by rw [h1.sc.ctl,zeq]] at hm;dsimp only at T hQ hm;rw [List.map_append,zay] at hm;have M:Sim { d with ctl:=(Ds.outCtl room d.ctl []).1 } { A with control:=(Ds.outCtl room d.ctl []).1.map fun f=>frame f.1 f.2.1 f.2.2.1 f.2.2.2 }:=h1.scal { h1.sc with ctl:=rfl } rfl rfl rfl rfl rfl rfl;unfold Ds.out;dsimp only;split
 ·obtain ⟨A',Q',q1,q2,q3,q4,q5,q6,q7,q8⟩:=LK.outRing (p:=d.inn) room (room.toNat+1) _ _ CA' Q M T h5 h7 rfl;rw [hQ];exact ⟨A',B,U++Q',D,CA',CB,q1,h2,q2,by rw [q3,← List.append_assoc,h3,zbn],by rw [q6]; exact h4,q4,h6,q5,by rw [q7,List.map_append,zay,q8]; dsimp only; omega⟩
 ·exact ⟨_,B,U++Q,D,CA',CB,M,h2,T,by rw [hQ,← List.append_assoc,h3,zbn],h4,h5,h6,h7,by rw [List.map_append,zay]; dsimp only; omega⟩
variable {p:Nat} {cl:Bool} {nA nB:Nat} {d e:Ds} {up down:Bytes} {wA wB:Nat→Way} {r:Nat→Bool} {h:Nat→Hdrs}
theorem Sim.writable {c:Cs} (M:Sim d c) (hids:Ids c) (n:Nat) (hw:d.unwritable (d.find (n:Int))=0) :
  ∃ i,al c.l n=some i∧d.str n=some (d.find (n:Int))∧(vl c.l n).gone=false∧(vl c.l n).coming=false∧(vl c.l n).reset=false∧(vl c.l n).ending=false∧SR c.client n (d.find (n:Int)) (vl c.l n):=by
 rw [M.unwritable hids n] at hw;obtain ⟨i,-,hi,hg,he⟩:=zzbcf hw;have hg2:=hg;unfold St.gone at hg;obtain ⟨g1,g2⟩:=Bool.or_eq_false_iff.1 hg;rcases M.find hids n with ⟨h1,h2⟩ | ⟨h1,h2,h3⟩ | ⟨h1,i',s,h2,h3,h4,h5,h6⟩
 ·rw [hids.known (zcd c.l n i hi)] at h1; cases h1
 ·exfalso;rcases h3 with h3 | ⟨i',h3,h4⟩
  ·rw [hi] at h3; cases h3
  ·rcases h4 with h4 | ⟨-,h4,-⟩
   ·rw [g2] at h4; cases h4
   ·rw [g1] at h4; cases h4
 ·rw [h3];exact ⟨i,hi,h4,hg2,g2,g1,he,h6⟩
theorem LK.write (H:LK p cl nA nB d e up down wA wB r h) (n:Nat) (hw:d.unwritable (d.find (n:Int))=0) (data:Bytes) :
  LK p cl nA nB (d.write (d.find (n:Int)) data) e up down (updW wA n { (wA n) with sent:=(wA n).sent++data.take (Ds.room (d.find (n:Int)) data) }) wB r h:=by
 obtain ⟨A,B,U,D,CA,CB,h1,h2,S,h3,h4,h5,h6,h7,h8⟩:=H;obtain ⟨i,hi,hs,hg,hc,hre,hen,hr⟩:=h1.writable S.idsA n hw;have M:=h1.write hi hc hs hr hre data;have T:=S.write hi hg hen data;have et:data.take (256 - (vl A.l n).bytes.length)=data.take (Ds.room (d.find (n:Int)) data):=by
  rw [hr.da];unfold Ds.room;by_cases hle:data.length≤256 - (d.find (n:Int)).data.length
  ·rw [Nat.min_eq_left hle,List.take_of_length_le hle,List.take_of_length_le (Nat.le_refl _)]
  ·rw [Nat.min_eq_right (by omega)]
 rw [et] at T;refine ⟨_,B,U,D,CA,CB,M,h2,T,h3,?_,?_,h6,?_,h8⟩
 ·rw [M.sc.inn,show (A.write i data).part=A.part from rfl,← h1.sc.inn]; exact h4
 ·exact h5
 ·exact h7
theorem LK.endIt (H:LK p cl nA nB d e up down wA wB r h) (n:Nat) (hw:d.unwritable (d.find (n:Int))=0) :
  LK p cl nA nB (d.endIt (d.find (n:Int))) e up down (updW wA n { (wA n) with ended:=true }) wB r h:=by
 obtain ⟨A,B,U,D,CA,CB,h1,h2,S,h3,h4,h5,h6,h7,h8⟩:=H;obtain ⟨i,hi,hs,hg,hc,hre,hen,hr⟩:=h1.writable S.idsA n hw;have hm:(vl A.l n).mine=false:=by
  cases hx:(vl A.l n).mine with
  | false=>rfl
  | true =>
   rcases (S.ab.e2 n hx).2 with q | q
   ·rw [hen] at q; cases q
   ·rw [hre] at q; cases q
 have M:=h1.endIt hi hc hr hre hm;have T:=S.ended hi hg hen;refine ⟨_,B,U,D,CA,CB,M,h2,T,h3,?_,h5,h6,h7,h8⟩;rw [M.sc.inn,show (A.ended i).part=A.part from rfl,← h1.sc.inn]; exact h4
theorem Ord.none {s:Nat} {U:List Fr} (h:Ord s true U):dat s U=[]:=by
 induction U with
 | nil=>rfl
 | cons f U ih =>
  unfold Ord at h;by_cases hd:isD s f
  ·rw [if_pos hd] at h; exact absurd h.1 (by simp)
  ·rw [if_neg hd] at h;rw [dat,if_neg hd,ih h]; rfl
theorem LK.readTells (H:LK p cl nA nB d e up down wA wB r h) (n:Nat) (hn:1≤n) (most:Int) (hm:0≤most) :
  (Ds.read? (d.find (n:Int)) most=6∧(wB n).read=0) ∨
  (Ds.read? (d.find (n:Int)) most=7∧(r n=true∨(∃ c,(3,n,c)∈d.ev)∨(d.headers? (n:Int)=none∧ownB cl n=false∧(wB n).read=0))) ∨
  (Ds.read? (d.find (n:Int)) most=8∧(wB n).ended=true∧(wB n).read=(wB n).sent.length) ∨
  (Ds.read? (d.find (n:Int)) most=0 ∧ ∃ (m:Nat),m=Ds.readN (d.find (n:Int)) most∧(wB n).read+m≤(wB n).sent.length∧(d.find (n:Int)).unread.take m=((wB n).sent.drop (wB n).read).take m ∧
   LK p cl nA nB (d.read (d.find (n:Int)) m) e up down wA (updW wB n { (wB n) with read:=(wB n).read+m }) r h):=by
 obtain ⟨A,B,U,D,CA,CB,h1,h2,S,h3,h4,h5,h6,h7,h8⟩:=H;have hids:=S.idsA;have hq3:¬ hl A.l n→(wB n).read=0:=fun hx=>by
  cases hz:(wB n).read with
  | zero=>rfl
  | succ k=>exact absurd (S.ba.q3 n (by rw [hz]; omega)).1 hx
 have hq4:ownB A.client n=false→(vl A.l n).headers=[]→(wB n).read=0:=fun ho hx=>by
  cases hz:(wB n).read with
  | zero=>rfl
  | succ k=>exact absurd hx ((S.ba.q3 n (by rw [hz]; omega)).2 ho)
 have hcom:(vl A.l n).coming=true→(vl A.l n).headers=[]∧ownB A.client n=false:=fun hx=>by
  obtain ⟨a1,a2⟩:=S.ba.coming n hx;refine ⟨by rw [a1],?_⟩
  have:=S.ba.now (by omega)
  rw [a2] at this;exact this.2.2.2
 have hhd:=h1.headers? n fun hx=>(hcom hx).1;rw [h1.read? hids n most];unfold Cs.read?;rw [if_neg (by omega:¬ most < 0),zbc];cases hk:A.known (n:Int) with
 | false =>
  left;refine ⟨rfl,hq3 fun hx => ?_⟩;rw [hids.known hx] at hk; cases hk
 | true =>
  rw [if_neg (by simp)];right;cases hi:al A.l n with
  | none =>
   left;have hnl:¬ hl A.l n:=fun hx=>by unfold hl at hx; rw [zeh A.l n hi] at hx; cases hx
   refine ⟨rfl,.inr (.inr ⟨?_,?_,hq3 hnl⟩)⟩
   ·rw [hhd]; unfold Cs.headers?; rw [zbc,hi]; rfl
   ·rw [← h7];cases ho:ownB A.client n with
    | false=>rfl
    | true =>
     exfalso;refine hnl (S.ab.ownAll n hn ho ?_);unfold Cs.known at hk;have e:A.owns (n:Int).toNat=ownB A.client n:=rfl;rw [e,ho] at hk;simpa using (Bool.and_eq_true_iff.1 hk).2
  | some i =>
   dsimp only;rw [zar A n i hi];cases hg:(vl A.l n).gone with
   | true =>
    left;refine ⟨rfl,?_⟩;unfold St.gone at hg;rw [Bool.or_eq_true] at hg;have hh0:(vl A.l n).headers=[]→d.headers? (n:Int)=none:=fun hx=>by
     rw [hhd]; unfold Cs.headers?; rw [zbc,hi,Option.bind_some,zar A n i hi,hx]; rfl
    rcases hg with hg | hg
    ·rcases S.ba.z n hg with z | z | ⟨z1,z2⟩
     ·exact .inl z
     ·exact .inr (.inl (by rw [h1.sc.ev]; exact z))
     ·exact .inr (.inr ⟨hh0 z2,by rw [← h7]; exact z1,hq4 z1 z2⟩)
    ·obtain ⟨c1,c2⟩:=hcom hg;exact .inr (.inr ⟨hh0 c1,by rw [← h7]; exact c2,hq4 c2 c1⟩)
   | false =>
    right;rw [if_neg Bool.false_ne_true];have hg2:=hg;unfold St.gone at hg;obtain ⟨g1,g2⟩:=Bool.or_eq_false_iff.1 hg;by_cases hend:(vl A.l n).unread.length=0∧(vl A.l n).theirs=true
    ·rw [if_pos hend];left;obtain ⟨rest,a1,-,a3⟩:=S.ba.q n g1;obtain ⟨b1,b2⟩:=a3 (.inr hend.2);have ho:=S.ba.ord n;rw [hend.2] at ho;have hu:(vl A.l n).unread=[]:=List.eq_nil_of_length_eq_zero hend.1;rw [hu,ho.none,b1] at a1;have hl:=congrArg List.length a1;rw [List.length_drop] at hl
     have:=S.ba.q0 n
     refine ⟨rfl,b2,?_⟩;simp at hl;omega
    ·rw [if_neg hend];right;refine ⟨rfl,Ds.readN (d.find (n:Int)) most,rfl,?_⟩;obtain ⟨s,hs,hr⟩:=h1.at hi g2;have hf:d.find (n:Int)=s:=by
      rcases h1.find hids n with ⟨q1,q2⟩ | ⟨q1,q2,q3⟩ | ⟨q1,i',s',q2,q3,q4,q5,q6⟩
      ·rw [hk] at q1; cases q1
      ·exfalso;rcases q3 with q3 | ⟨i',q3,q4⟩
       ·rw [hi] at q3; cases q3
       ·rcases q4 with q4 | ⟨-,q4,-⟩
        ·rw [g2] at q4; cases q4
        ·rw [g1] at q4; cases q4
      ·rw [q3]; rw [hs] at q4; injection q4 with q4; exact q4.symm
     rw [hf];have hN:Ds.readN s most=A.readN i most.toNat:=by
      unfold Ds.readN Cs.readN;rw [zar A n i hi,hr.un]
     have hmin:A.readN i most.toNat=min most.toNat (vl A.l n).unread.length:=by
      unfold Cs.readN;rw [zar A n i hi]
     obtain ⟨r1,r2,-⟩:=S.reads hi hg2 (A.readN i most.toNat) (by rw [hmin]; omega);obtain ⟨CA',T⟩:=S.read hi hg2 most.toNat;have M:=h1.read hi g2 hs hr g1 most.toNat;rw [hN];rw [← hmin] at T;refine ⟨r1,by rw [← hr.un]; exact r2,?_⟩;have e1:=zvb A hi h1.sc.cf most.toNat;refine ⟨_,B,U,D,CA',CB,M,h2,T,h3,?_,?_,h6,?_,?_⟩
     ·rw [M.sc.inn,e1]
      show A.part++down=_
      rw [← h1.sc.inn]; exact h4
     ·rw [e1]; exact h5
     ·rw [e1]; exact h7
     ·have e2:m456 (A.read i most.toNat).control=m456 A.control:=by
       rw [e1]
       show m456 (A.control++_)=_
       rw [zay,List.map_append,zay,zjr];cases (vl A.l n).theirs
       ·show _+(m456 ((wfs n _).map Fr.enc)+0)=_
        rw [zjr]; rfl
       ·rfl
      rw [e2]; exact h8
theorem LK.reset (H:LK p cl nA nB d e up down wA wB r h) (n:Nat) (hw:d.reset? (d.find (n:Int))=0) (r':Nat→Bool) (hr':∀ s,r s=true→r' s=true) (hn:r' n=true):LK p cl nA nB (d.reset (d.find (n:Int))) e up down wA wB r' h:=by
 obtain ⟨A,B,U,D,CA,CB,h1,h2,S,h3,h4,h5,h6,h7,h8⟩:=H;have hids:=S.idsA;rw [h1.reset? hids n] at hw;unfold Cs.reset? at hw;rw [h1.sc.cf,zbc] at hw;cases hk:A.known (n:Int) with
 | false=>rw [hk] at hw; simp at hw
 | true =>
  rw [hk] at hw;cases hi:al A.l n with
  | none=>rw [hi] at hw; simp at hw
  | some i =>
   rw [hi] at hw;dsimp only at hw;rw [zar A n i hi] at hw;cases hg:(vl A.l n).gone with
   | true=>rw [hg] at hw; simp at hw
   | false =>
    have hg2:=hg;unfold St.gone at hg;obtain ⟨g1,g2⟩:=Bool.or_eq_false_iff.1 hg;obtain ⟨s,hs,hr⟩:=h1.at hi g2;have hf:d.find (n:Int)=s:=by
     rcases h1.find hids n with ⟨q1,q2⟩ | ⟨q1,q2,q3⟩ | ⟨q1,i',s',q2,q3,q4,q5,q6⟩
     ·rw [hk] at q1; cases q1
     ·exfalso;rcases q3 with q3 | ⟨i',q3,q4⟩
      ·rw [hi] at q3; cases q3
      ·rcases q4 with q4 | ⟨-,q4,-⟩
       ·rw [g2] at q4; cases q4
       ·rw [g1] at q4; cases q4
     ·rw [q3]; rw [hs] at q4; injection q4 with q4; exact q4.symm
    rw [hf];obtain ⟨CA',T⟩:=(S.knows hr').reset hi hg2 hn;have M:=h1.reset hi g2 hr g1;have e1:(A.reset i).part=A.part∧(A.reset i).own=A.own∧(A.reset i).client=A.client∧m456 (A.reset i).control=m456 A.control:=by
     unfold Cs.reset;rw [zhb A hi];refine ⟨rfl,rfl,rfl,?_⟩
     show m456 (A.control++_)=_
     rw [zay,zjr]; rfl
    refine ⟨_,B,U,D,CA',CB,M,h2,T,h3,?_,e1.2.1.trans h5,h6,e1.2.2.1.trans h7,by rw [e1.2.2.2]; exact h8⟩;rw [M.sc.inn,e1.1,← h1.sc.inn]; exact h4
theorem zjs (x:Bytes):m456 [x]≤1:=List.length_filter_le _ _
theorem LK.ping (H:LK p cl nA nB d e up down wA wB r h):LK (p+1) cl nA nB d.ping e up down wA wB r h:=by
 obtain ⟨A,B,U,D,CA,CB,h1,h2,S,h3,h4,h5,h6,h7,h8⟩:=H;obtain ⟨CA',T⟩:=S.ping;refine ⟨_,B,U,D,CA',CB,h1.ping,h2,T,h3,h4,h5,h6,h7,?_⟩
 have:m456 A.ping.control=m456 A.control+m456 [frame 5 0 0 (two ((A.pings+1) % 65536))]:=zay _ _
 have:=zjs (frame 5 0 0 (two ((A.pings+1) % 65536)))
 omega
theorem LK.away (H:LK p cl nA nB d e up down wA wB r h):LK (p+1) cl nA nB d.away e up down wA wB r h:=by
 obtain ⟨A,B,U,D,CA,CB,h1,h2,S,h3,h4,h5,h6,h7,h8⟩:=H;obtain ⟨CA',T⟩:=S.leave;refine ⟨_,B,U,D,CA',CB,h1.away,h2,T,h3,h4,h5,h6,h7,?_⟩
 have:m456 A.leave.control=m456 A.control+m456 [frame 6 0 0 (two A.peer++[UInt8.ofNat 0])]:=zay _ _
 have:=zjs (frame 6 0 0 (two A.peer++[UInt8.ofNat 0]))
 omega
theorem LK.asked (H:LK p cl nA nB d e up down wA wB r h) (r':Nat→Bool) (hr':∀ s,r s=true→r' s=true) (hev:∀ s c,(3,s,c)∈d.ev→r' s=true) :
  LK p cl nA nB d.asked e up down wA wB r' h ∧ ∀ x∈d.ev,x.1≠6∧(x.1=1→d.headers? (x.2.1:Int)=some (h x.2.1)):=by
 obtain ⟨A,B,U,D,CA,CB,h1,h2,S,h3,h4,h5,h6,h7,h8⟩:=H;refine ⟨⟨_,B,U,D,CA,CB,h1.asked,h2,(S.knows hr').asked (by rw [← h1.sc.ev]; exact hev),h3,h4,h5,h6,h7,h8⟩,fun x hx => ?_⟩;rw [h1.sc.ev] at hx;obtain ⟨a1,a2⟩:=S.ba.evs x hx;refine ⟨a1,fun h0 => ?_⟩;obtain ⟨b1,b2⟩:=a2 h0;obtain ⟨i,hi⟩:=zgy A.l x.2.1 b1;rw [h1.headers? x.2.1 fun hc=>by rw [(S.ba.coming _ hc).1]];unfold Cs.headers?;rw [zbc,hi,Option.bind_some,zar A _ i hi,b2];have hne:¬ (h x.2.1).length=0:=by
  have:=S.ab.hp x.2.1
  unfold packs at this;simp only [Bool.and_eq_true,decide_eq_true_eq] at this;omega
 rw [if_neg hne]
theorem LK.opened (H:LK p cl nA nB d e up down wA wB r h) (hd:Hdrs) (hp:packs hd=true) (ho:d.open? hd=0) (r':Nat→Bool) (hr:∀ s,s≠d.next→r' s=r s) :
  LK p cl d.next nB (d.opened hd) e up down wA wB r' (fun s=>if s=d.next then hd else h s)∧nA < d.next∧d.next≤99∧ownB cl d.next=true:=by
 obtain ⟨A,B,U,D,CA,CB,h1,h2,S,h3,h4,h5,h6,h7,h8⟩:=H;obtain ⟨n1,n2,n3⟩:=zjn S.ab;have hm:d.next≤99:=by
  unfold Ds.open? at ho;rw [hp] at ho;by_cases q1:(d.failed || d.peerLeaves || d.leaving)=true
  ·rw [if_neg (by simp),if_pos q1] at ho; cases ho
  ·rw [if_neg (by simp),if_neg q1] at ho;by_cases q2:(d.mMost:Int)≤d.mCount∨99 < d.next
   ·rw [if_pos q2] at ho; cases ho
   ·omega
 have hn:=h1.next;rw [hn] at hr hm ⊢;have hnl:¬ hl A.l A.next:=fun hx=>by
  have:=(S.ab.ids _ hx).2.2
  rw [n2] at this
  have:A.next≤A.own:=by simpa using this
  omega
 have M:=h1.opened hd hp hnl n2;have T:=S.opened hd hp hm r' hr;have e1:(A.opened hd).part=A.part∧(A.opened hd).own=A.next∧(A.opened hd).client=A.client∧(A.opened hd).control=A.control:=by rw [zll A hd hp]; exact ⟨rfl,rfl,rfl,rfl⟩
 refine ⟨⟨_,B,U,D,CA,CB,M,h2,T,h3,?_,e1.2.1,h6,e1.2.2.1.trans h7,by rw [e1.2.2.2]; exact h8⟩,by omega,hm,by rw [← h7]; exact n2⟩;rw [M.sc.inn,e1.1,← h1.sc.inn]; exact h4
theorem Sim.new (client:Bool) (n:Nat):Sim (Ds.new client n) (Cs.new client n):=by
 refine ⟨⟨rfl,rfl,rfl,rfl,rfl,rfl,rfl,rfl,rfl,rfl,rfl,rfl,rfl,rfl,rfl,rfl⟩,rfl,List.nodup_nil,fun k => ?_,fun k=>rfl⟩;constructor
 ·intro hx; cases hx
 ·rintro ⟨s,hs,-⟩; cases hs
theorem LK.new (n m:Nat) (hn:n≤6) (hm:m≤6) (r:Nat→Bool) (h:Nat→Hdrs) (hp:∀ s,packs (h s)=true):LK 2 true 0 0 (Ds.new true n) (Ds.new false m) [] [] (fun _ => {}) (fun _ => {}) r h :=
 ⟨_,_,[],[],_,_,Sim.new true n,Sim.new false m,Sys.new n m hn hm r h hp,rfl,rfl,rfl,rfl,rfl,by
  have h1:=zjs (frame 4 0 0 [UInt8.ofNat n]);have h2:=zjs (frame 4 0 0 [UInt8.ofNat m])
  show m456 [frame 4 0 0 [UInt8.ofNat n]]+m456 [frame 4 0 0 [UInt8.ofNat m]]+(0+0)≤2
  omega⟩
end Go.Proofs.YtoijpogadkogcaaGreat
