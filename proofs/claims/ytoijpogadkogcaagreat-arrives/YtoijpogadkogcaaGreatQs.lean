import Derived.Test.YtoijpogadkogcaaGreatQr
namespace Go.Proofs.YtoijpogadkogcaaGreat
open Go.RowKit
set_option maxRecDepth 100000
def Qt(q:Nat)(s:DS):Prop:=(1<=q->s.ends=false)/\(2<=q->s.data=[])
structure Ds.Ok (d:Ds) (m:Nat) (q:Nat) (B:Nat):Prop where
 fits:d.Fits m
 ids:∀ n s,d.str n=some s->s.id=n/\s.state≠0/\Qt q s
 newT:∀ id:Nat,d.side id=some false->d.tLast<id->d.str id=none
 newM:∀ id:Nat,d.side id=some true->d.mLast<id->d.str id=none
 cm:∀ i e b,d.coming=some (i,e,b)->d.str i=none/\b.length<=1000/\i<=65535/\d.side i=some false/\i<=d.tLast
 ck:∀ f∈d.ctl,f.1<=255/\f.2.1<=255
 rb:d.ring.length+m<=B
 cb:d.ctl.length+m<=B
section
variable {d d':Ds} {m m':Nat} {q:Nat} {B:Nat}
theorem Ds.Ok.mono(h:d.Ok m q B)(hm:m'<=m):d.Ok m' q B:=⟨h.fits.mono hm,h.ids,h.newT,h.newM,h.cm,h.ck,(by have:=h.rb;omega),by have:=h.cb;omega⟩
theorem Ds.Ok.same(h:d.Ok m q B)(hf:d'.Fits m')(e1:d'.str=d.str)(e2:d'.client=d.client)(e3:d'.tLast=d.tLast)(e4:d'.mLast=d.mLast)(e5:d'.coming=d.coming)(e6:∀ f∈d'.ctl,f∈d.ctl\/f.1<=255/\f.2.1<=255)(e7:d'.ring.length+m'<=d.ring.length+m)(e8:d'.ctl.length+m'<=d.ctl.length+m):d'.Ok m' q B:=by
 have es:∀ i,d'.side i=d.side i:=λi=>by unfold Ds.side;rw[e2]
 refine⟨hf,λn s hn=>h.ids n s (by rw[<-e1];exact hn),λid hi hl => ?_,λid hi hl => ?_,λi e b hc => ?_,λf hf=>(e6 f hf).elim (h.ck f) id,Nat.le_trans e7 h.rb,Nat.le_trans e8 h.cb⟩
 ·rw[e1];exact h.newT id (by rw[<-es];exact hi) (by rw[<-e3];exact hl)
 ·rw[e1];exact h.newM id (by rw[<-es];exact hi) (by rw[<-e4];exact hl)
 ·rw[e1,es,e3];exact h.cm i e b (by rw[<-e5];exact hc)
theorem zck(d:Ds)(n:Nat)(s:DS)(k:Nat):(d.setS n s).str k=if k=n then some s else d.str k:=rfl
theorem Ds.Ok.setS(h:d.Ok m q B){s0 s:DS}(hn:d.str s.id=some s0)(hs:s.Fits)(h0:s.state≠0)(hq:Qt q s):(d.setS s.id s).Ok m q B:=by
 refine⟨h.fits.setS _ _ hs,λn s' hn' => ?_,λid hi hl => ?_,λid hi hl => ?_,λi e b hc => ?_,h.ck,h.rb,h.cb⟩
 ·rw[zck] at hn';by_cases e:n=s.id
  ·rw[if_pos e] at hn';injection hn' with hn';subst hn';exact⟨e.symm,h0,hq⟩
  ·rw[if_neg e] at hn';exact h.ids n s' hn'
 ·rw[zck]
  have:=h.newT id hi hl
  rw[if_neg (λe=>by rw[e,hn] at this;cases this)];exact this
 ·rw[zck]
  have:=h.newM id hi hl
  rw[if_neg (λe=>by rw[e,hn] at this;cases this)];exact this
 ·have:=h.cm i e b hc
  rw[zck,if_neg (λe=>by rw[e,hn] at this;cases this.1)];exact this
theorem Ds.Ok.put(h:d.Ok m q B)(hc:d.coming=none){s:DS}(hs:s.Fits)(h0:s.state≠0)(hq:Qt q s)(hT:d.side s.id=some false->s.id<=d.tLast)(hM:d.side s.id=some true->s.id<=d.mLast):(d.setS s.id s).Ok m q B:=by
 refine⟨h.fits.setS _ _ hs,λn s' hn' => ?_,λid hi hl => ?_,λid hi hl => ?_,λi e b hc' => ?_,h.ck,h.rb,h.cb⟩
 ·rw[zck] at hn';by_cases e:n=s.id
  ·rw[if_pos e] at hn';injection hn' with hn';subst hn';exact⟨e.symm,h0,hq⟩
  ·rw[if_neg e] at hn';exact h.ids n s' hn'
 ·rw[zck];rw[if_neg (λe=>by have:=hT (by rw[<-e];exact hi);have hl':d.tLast<id:=hl;omega)];exact h.newT id hi hl
 ·rw[zck];rw[if_neg (λe=>by have:=hM (by rw[<-e];exact hi);have hl':d.mLast<id:=hl;omega)];exact h.newM id hi hl
 ·have:d.coming=some (i,e,b):=hc'
  rw[hc] at this;cases this
theorem zjk(d:Ds)(b:Bool)(k:Int):(d.bump b k).str=d.str/\(d.bump b k).client=d.client/\(d.bump b k).tLast=d.tLast/\(d.bump b k).mLast=d.mLast/\(d.bump b k).coming=d.coming/\(d.bump b k).ctl=d.ctl/\(d.bump b k).ring=d.ring:=by unfold Ds.bump;split<;>exact⟨rfl,rfl,rfl,rfl,rfl,rfl,rfl⟩
theorem Ds.Ok.bump(h:d.Ok (m+1) q B)(b:Bool)(k:Int)(h0:-1000<=k)(h1:k<=1000):(d.bump b k).Ok m q B:=by obtain⟨e1,e2,e3,e4,e5,e6,e7⟩:=zjk d b k;exact h.same (h.fits.bump b k h0 h1) e1 e2 e3 e4 e5 (λf hf => .inl (by rw[<-e6];exact hf)) (by rw[e7];omega) (by rw[e6];omega)
theorem Ds.Ok.lay(h:d.Ok (m+1) q B)(kind flags id:Nat)(body:Bytes)(hb:body.length<=1000)(hid:id<=65535)(hk:kind<=255)(hfl:flags<=255):(d.lay kind flags id body).Ok m q B :=
 h.same (h.fits.lay kind flags id body hb hid) rfl rfl rfl rfl rfl (λf hf=>(List.mem_append.1 hf).elim .inl (λh1 => .inr (by rw[List.mem_singleton.1 h1];exact⟨hk,hfl⟩))) (Nat.add_le_add_left (Nat.le_succ _) _) (by show (d.ctl++[_]).length+m<=_;rw[List.length_append,List.length_singleton];omega)
theorem Ds.Ok.tell(h:d.Ok (m+1) q B)(kind id code:Nat):(d.tell kind id code).Ok m q B:=h.same (h.fits.tell kind id code) rfl rfl rfl rfl rfl (λ_ hf => .inl hf) (Nat.add_le_add_left (Nat.le_succ _) _) (Nat.add_le_add_left (Nat.le_succ _) _)
theorem ztw(d:Ds)(n:Nat):(d.enter n).str=d.str/\(d.enter n).client=d.client/\(d.enter n).tLast=d.tLast/\(d.enter n).mLast=d.mLast/\(d.enter n).coming=d.coming/\(d.enter n).ctl=d.ctl/\(d.enter n).ring.length<=d.ring.length+1:=by
 unfold Ds.enter;split
 ·exact⟨rfl,rfl,rfl,rfl,rfl,rfl,Nat.le_succ _⟩
 ·exact⟨rfl,rfl,rfl,rfl,rfl,rfl,by simp⟩
theorem Ds.Ok.enter(h:d.Ok (m+1) q B)(n:Nat):(d.enter n).Ok m q B:=by obtain⟨e1,e2,e3,e4,e5,e6,e7⟩:=ztw d n;exact h.same (h.fits.enter n) e1 e2 e3 e4 e5 (λf hf => .inl (by rw[<-e6];exact hf)) (by omega) (by rw[e6];omega)
theorem ztx(d:Ds)(s:DS):(d.place s).str=d.str/\(d.place s).client=d.client/\(d.place s).tLast=d.tLast/\(d.place s).mLast=d.mLast/\(d.place s).coming=d.coming/\(d.place s).ctl=d.ctl/\(d.place s).ring.length<=d.ring.length+1:=by
 unfold Ds.place;split
 ·exact ztw _ _
 ·exact⟨rfl,rfl,rfl,rfl,rfl,rfl,Nat.le_trans (List.length_filter_le _ _) (Nat.le_succ _)⟩
theorem Ds.Ok.place(h:d.Ok (m+1) q B)(s:DS):(d.place s).Ok m q B:=by obtain⟨e1,e2,e3,e4,e5,e6,e7⟩:=ztx d s;exact h.same (h.fits.place s) e1 e2 e3 e4 e5 (λf hf => .inl (by rw[<-e6];exact hf)) (by omega) (by rw[e6];omega)
theorem Ds.Ok.give0(h:d.Ok (m+2) q B)(n:Nat)(hn:n<=1000):(d.give0 n).Ok m q B:=h.same (h.fits.give0 n hn) rfl rfl rfl rfl rfl (λf hf=>(List.mem_append.1 hf).elim .inl (λh1 => .inr (by rw[List.mem_singleton.1 h1];exact⟨by show 7<=255;omega,Nat.zero_le _⟩))) (Nat.add_le_add_left (by omega) _) (by show (d.ctl++[_]).length+m<=_;rw[List.length_append,List.length_singleton];omega)
theorem Ds.Ok.to_(h:d.Ok m q B)(n:Int)(h0:0<=n)(h1:n+1000*(m:Int)<=68719476736):Ds.Ok { d with to_:=n } m q B:=h.same (h.fits.to_ n h0 h1) rfl rfl rfl rfl rfl (λ_ hf => .inl hf) (Nat.le_refl _) (Nat.le_refl _)
theorem zzj(s:DS)(to:Nat):-1000<=Ds.shift s to/\Ds.shift s to<=1000:=by unfold Ds.shift;split<;>split<;>omega
theorem zzk(d:Ds)(b:Bool)(k:Int)(n:Nat):(d.bump b k).str n=d.str n:=by rw[(zjk d b k).1]
theorem Ds.Ok.move(h:d.Ok (m+1) q B){s0 s:DS}(hn:d.str s.id=some s0)(hs:s.Fits)(hq:Qt q s){to:Nat}(ht:to<=8)(h0:to≠0):(d.move s to).Ok m q B:=by have h1:=h.bump s.mine (Ds.shift s to) (zzj s to).1 (zzj s to).2;exact h1.setS (s:=Ds.moved s to) (s0:=s0) ((zzk _ _ _ _).trans hn) (hs.moved ht) h0 hq
theorem zzl(d:Ds)(s:DS)(to k:Nat):(d.move s to).str k=if k=s.id then some (Ds.moved s to) else d.str k:=by unfold Ds.move;rw[zck,zzk]
theorem Ds.Ok.endThere(h:d.Ok (m+1) q B){s0 s:DS}(hn:d.str s.id=some s0)(hs:s.Fits)(hq:Qt q s):(d.endThere s).Ok m q B:=by
 unfold Ds.endThere;have ht:∀ t,Ds.thereTo s=some t->t<=8/\t≠0:=λt ht=>by
  unfold Ds.thereTo at ht;split at ht
  ·injection ht with ht;omega
  ·split at ht
   ·injection ht with ht;omega
   ·split at ht
    ·injection ht with ht;omega
    ·cases ht
 cases e:Ds.thereTo s with
 | none=>exact h.mono (by omega)
 | some t=>exact h.move hn hs hq (ht t e).1 (ht t e).2
theorem Ds.Ok.takeEnd(h:d.Ok (m+2) q B){s0 s:DS}(hn:d.str s.id=some s0)(hs:s.Fits)(hq:Qt q s):(d.takeEnd s).Ok m q B:=(h.endThere hn hs hq).tell _ _ _
theorem Ds.Ok.drop(h:d.Ok (m+3) q B){s0 s:DS}(hn:d.str s.id=some s0)(hs:s.Fits)(h0:s.state≠0)(hq:Qt q s):(d.drop s).Ok m q B:=by
 unfold Ds.drop;dsimp only;have h1:((d.setS s.id { s with block:=[],data:=[] }).place { s with block:=[],data:=[] }).Ok (m+2) q B :=
  (Ds.Ok.setS (s:={ s with block:=[],data:=[] }) h hn hs.clear h0 ⟨hq.1,λ_=>rfl⟩).place _
 have hu:s.unread.length<=1000:=by have:=hs.to1;have:=hs.to0;omega
 split
 ·refine Ds.Ok.give0 ?_ _ hu;refine Ds.Ok.setS (s:={ s with block:=[],data:=[],unread:=[] }) (s0:={ s with block:=[],data:=[] }) h1 ?_ hs.clear.clearU h0 ⟨hq.1,λ_=>rfl⟩;rw[(ztx _ _).1,zck,if_pos rfl]
 ·exact h1.mono (by omega)
theorem zzbgu(h:d.Fits (m+2))(code:Nat):(d.fail code).Fits m:=by
 unfold Ds.fail;dsimp only;refine Ds.Fits.tell ?_ _ _ _;refine Ds.Fits.lay ?_ _ _ _ _ (by simp[two]) (by omega)
 have:=h.ring
 refine⟨h.mLast,h.tLast,h.mMost,h.tMost,h.mCount0,h.mCount1,h.tCount0,h.tCount1,h.from0,h.from1,h.to0,h.to1,h.ctl,?_,h.ev,Nat.zero_le _,h.pings,λ_ _ _ hc=>(by cases hc),h.bodies,λn s hs => ?_⟩
 ·show 0+1000*(m+1+1)<=68719476736;omega
 ·by_cases e:d.ring.contains n=true
  ·simp only[e,if_true] at hs;cases hd:d.str n with
   | none=>rw[hd] at hs;cases hs
   | some s1 =>
    rw[hd] at hs;simp only[Option.map_some] at hs;injection hs with hs
    subst hs;exact(h.st n s1 hd).clear
  ·simp only[e] at hs;exact h.st n s hs
theorem zsh(d:Ds)(code n:Nat):(d.fail code).str n=if d.ring.contains n then (d.str n).map (λs => { s with block:=[],data:=[] }) else d.str n:=rfl
theorem Ds.Ok.fail(h:d.Ok (m+2) q B)(code:Nat):(d.fail code).Ok m q B:=by
 refine⟨zzbgu h.fits code,λn s hn => ?_,λid hi hl => ?_,λid hi hl => ?_,λ_ _ _ hc=>(by cases hc),λf hf=>(List.mem_append.1 hf).elim (h.ck f) (λh1=>by rw[List.mem_singleton.1 h1];exact⟨by show 6<=255;omega,Nat.zero_le _⟩),(by have:=h.rb;show 0+m<=B;omega),by have:=h.cb;show (d.ctl++[_]).length+m<=B;rw[List.length_append,List.length_singleton];omega⟩
 ·rw[zsh] at hn;split at hn
  ·cases hd:d.str n with
   | none=>rw[hd] at hn;cases hn
   | some s1 =>
    rw[hd] at hn;simp only[Option.map_some] at hn;injection hn with hn
    subst hn;obtain⟨e1,e2,e3⟩:=h.ids n s1 hd;exact⟨e1,e2,e3.1,λ_=>rfl⟩
  ·exact h.ids n s hn
 ·rw[zsh,h.newT id hi hl];split<;>rfl
 ·rw[zsh,h.newM id hi hl];split<;>rfl
theorem Ds.Ok.found(h:d.Ok m q B)(id:Int):d.find id = {}\/d.find id = { state:=8 }\/d.str (d.find id).id=some (d.find id):=by
 unfold Ds.find;cases e:d.real id with
 | none =>
  dsimp only;split
  ·exact .inr (.inl rfl)
  ·exact .inl rfl
 | some s =>
  refine .inr (.inr ?_);dsimp only;unfold Ds.real at e;split at e
  ·cases e
  ·split at e
   ·unfold Ds.held at e;split at e
    ·cases e
    ·split at e
     ·rename_i s' hs' _
      injection e with e
      subst e;rw[(h.ids _ _ hs').1];exact hs'
     ·cases e
   ·cases e
theorem Ds.Ok.passOver(h:d.Ok (m+3) q B){s:DS}(hs:Ds.thereTo s=none\/d.str s.id=some s)(fin:Bool)(n:Nat)(hn:n<=1000):(d.passOver s fin n).Ok m q B:=by
 unfold Ds.passOver;dsimp only;have h1:(if 0<n then d.give0 n else d).Ok (m+1) q B:=by
  split
  ·exact h.give0 n hn
  ·exact h.mono (by omega)
 have e1:(if 0<n then d.give0 n else d).str=d.str:=by split<;>rfl
 split
 ·rcases hs with hs|hs
  ·unfold Ds.endThere;rw[hs];exact h1.mono (by omega)
  ·obtain⟨-,hb,hq⟩:=h.ids _ _ hs;exact h1.endThere (by rw[e1];exact hs) (h.fits.st _ _ hs) hq
 ·exact h1.mono (by omega)
theorem Ds.Ok.doData(h:d.Ok (m+6) q B)(fin:Bool)(id:Nat)(body:Bytes)(hb:body.length<=64):(d.doData fin id body).Ok m q B:=by
 unfold Ds.doData;dsimp only;have hfd:=h.found (id:Int);generalize d.find (id:Int)=s at *;have hto:=h.fits.to1;have hto0:=h.fits.to0;split
 ·exact Ds.Ok.fail (h.mono (by omega)) _
 rename_i h0
 split
 ·exact Ds.Ok.fail (h.mono (by omega)) _
 rename_i h1
 have hd1:Ds.Ok { d with to_:=d.to_-(body.length:Int) } (m+6) q B:=h.to_ _ (by omega) (by omega);split
 ·rename_i hr
  refine Ds.Ok.passOver (hd1.mono (by omega)) ?_ fin _ (by omega);rcases hfd with e | e | e
  ·rw[e] at h0;exact absurd rfl h0
  ·left;rw[e];rfl
  ·right;exact e
 rename_i hr
 split
 ·exact Ds.Ok.fail (hd1.mono (by omega)) _
 split
 ·exact Ds.Ok.fail (hd1.mono (by omega)) _
 rename_i h3 h4
 have hs:d.str s.id=some s:=by
  rcases hfd with e|e|e
  ·rw[e] at h0;exact absurd rfl h0
  ·rw[e] at hr;exact absurd rfl hr
  ·exact e
 have fs:=h.fits.st _ _ hs;obtain⟨-,-,hq⟩:=h.ids _ _ hs;have fs1:DS.Fits { s with to_:=s.to_-(body.length:Int),unread:=s.unread++body }:=⟨fs.id,fs.state,fs.from0,fs.from1,by show 0<=s.to_-_;omega,by show s.to_-_+((s.unread++body).length:Int)<=100;rw[List.length_append];have:=fs.to1;omega,fs.headers,fs.block,fs.data,fs.code⟩;have h2:=Ds.Ok.setS (s:={ s with to_:=s.to_-(body.length:Int),unread:=s.unread++body }) (s0:=s) hd1 hs fs1 h0 hq;split
 ·refine Ds.Ok.takeEnd (s0:={ s with to_:=s.to_-(body.length:Int),unread:=s.unread++body }) (h2.mono (by omega)) ?_ fs1 hq;rw[zck,if_pos rfl]
 ·exact h2.mono (by omega)
theorem Ds.Ok.doReset(h:d.Ok (m+6) q B)(id:Nat)(body:Bytes):(d.doReset id body).Ok m q B:=by
 unfold Ds.doReset;dsimp only;have hfd:=h.found (id:Int);generalize d.find (id:Int)=s at *;split
 ·exact Ds.Ok.fail (h.mono (by omega)) _
 rename_i h0
 split
 ·exact Ds.Ok.fail (h.mono (by omega)) _
 have hreal:s.state≠8->d.str s.id=some s:=λh8=>by
  rcases hfd with e|e|e
  ·rw[e] at h0;exact absurd rfl h0
  ·rw[e] at h8;exact absurd rfl h8
  ·exact e
 split
 ·rename_i ht
  have hs:=hreal (λe=>by rw[e] at ht;exact absurd ht (by decide));obtain⟨-,-,hq⟩:=h.ids _ _ hs;exact Ds.Ok.move (h.mono (by omega)) hs (h.fits.st _ _ hs) hq (by omega) (by omega)
 split
 ·exact h.mono (by omega)
 ·rename_i h8
  have hs:=hreal (λe=>h8 (.inr e));obtain⟨-,-,hq⟩:=h.ids _ _ hs;have fs:=h.fits.st _ _ hs;refine Ds.Ok.tell ?_ _ _ _;refine Ds.Ok.drop (s:=Ds.moved s 8) (s0:=Ds.moved s 8) (m:=m+1) ?_ ?_ (fs.moved (by omega)) (by show (8:Nat)≠0;omega) hq
  ·exact Ds.Ok.move (h.mono (by omega)) hs fs hq (by omega) (by omega)
  ·rw[zzl];exact if_pos rfl
theorem Ds.Fits.came(h:d.Fits m):Ds.Fits { d with coming:=none } m :=
 ⟨h.mLast,h.tLast,h.mMost,h.tMost,h.mCount0,h.mCount1,h.tCount0,h.tCount1,h.from0,h.from1,h.to0,h.to1,h.ctl,h.ring,h.ev,h.inn,h.pings,λ_ _ _ hc=>(by cases hc),h.bodies,h.st⟩
theorem Ds.Ok.came(h:d.Ok m q B):Ds.Ok { d with coming:=none } m q B:=⟨h.fits.came,h.ids,h.newT,h.newM,λ_ _ _ hc=>(by cases hc),h.ck,h.rb,h.cb⟩
theorem Ds.Ok.refuse(h:d.Ok (m+3) q B)(hc:d.coming=none)(id:Nat)(hid:id<=65535)(hsd:d.side id=some false)(hl:id<=d.tLast):(d.refuse id).Ok m q B:=by
 unfold Ds.refuse;dsimp only;refine Ds.Ok.place ?_ _;have hb:=h.bump false 1 (by omega) (by omega);obtain⟨e1,e2,e3,e4,e5,-,-⟩:=zjk d false 1;have hsd':(d.bump false 1).side id=some false:=by unfold Ds.side;rw[e2];exact hsd
 have hk:(d.keep false id).Ok (m+2) q B:=Ds.Ok.put (s:=Ds.begun id false) hb (by rw[e5];exact hc) (zeh id false hid) (by show (1:Nat)≠0;omega) ⟨λ_=>rfl,λ_=>rfl⟩ (λ_=>by rw[e3];exact hl) (λe=>by rw[show (Ds.begun id false).id=id from rfl,hsd'] at e;cases e);unfold Ds.breakHere;refine Ds.Ok.move (s:={ Ds.begun id false with code:=6 }) (s0:=Ds.begun id false) hk ?_ ?_ ⟨λ_=>rfl,λ_=>rfl⟩ (by show (5:Nat)<=8;omega) (by show (5:Nat)≠0;omega)
 ·unfold Ds.keep;rw[zck];exact if_pos rfl
 ·have f:=zeh id false hid;exact⟨f.id,f.state,f.from0,f.from1,f.to0,f.to1,f.headers,f.block,f.data,by show (6:Nat)<=255;omega⟩
theorem Ds.Ok.accept(h:d.Ok (m+4) q B)(hc:d.coming=none)(id:Nat)(fin:Bool)(hd:zal)(hh:hd.length<=1000)(hid:id<=65535)(hsd:d.side id=some false)(hl:id<=d.tLast):(d.accept id fin hd).Ok m q B:=by
 unfold Ds.accept;dsimp only;have hb:=h.bump false 1 (by omega) (by omega);obtain⟨e1,e2,e3,e4,e5,-,-⟩:=zjk d false 1;have hsd':(d.bump false 1).side id=some false:=by unfold Ds.side;rw[e2];exact hsd
 have hk:(d.keep false id).Ok (m+3) q B:=Ds.Ok.put (s:=Ds.begun id false) hb (by rw[e5];exact hc) (zeh id false hid) (by show (1:Nat)≠0;omega) ⟨λ_=>rfl,λ_=>rfl⟩ (λ_=>by rw[e3];exact hl) (λe=>by rw[show (Ds.begun id false).id=id from rfl,hsd'] at e;cases e);have f:=zeh id false hid;have fs:DS.Fits { Ds.begun id false with headers:=hd }:=⟨f.id,f.state,f.from0,f.from1,f.to0,f.to1,hh,f.block,f.data,f.code⟩;have h2:((d.keep false id).setS id { Ds.begun id false with headers:=hd }).Ok (m+3) q B :=
  Ds.Ok.setS (s:={ Ds.begun id false with headers:=hd }) (s0:=Ds.begun id false) hk (by unfold Ds.keep;rw[zck];exact if_pos rfl) fs (by show (1:Nat)≠0;omega) ⟨λ_=>rfl,λ_=>rfl⟩
 have h3:=h2.tell 1 id 0;split
 ·refine Ds.Ok.takeEnd (s0:={ Ds.begun id false with headers:=hd }) h3 ?_ fs ⟨λ_=>rfl,λ_=>rfl⟩
  show (if id=id then some _ else _)=_
  exact if_pos rfl
 ·exact h3.mono (by omega)
theorem Ds.Ok.takeHeaders(h:d.Ok (m+6) q B)(id:Nat)(fin whole:Bool)(sofar body:Bytes)(hid:id<=65535)(hsd:d.side id=some false)(hl:id<=d.tLast)(hst:d.str id=none):(d.takeHeaders id fin whole sofar body).Ok m q B:=by
 unfold Ds.takeHeaders;dsimp only;have hn:=h.came;split
 ·exact Ds.Ok.fail (d:={ d with coming:=none }) (hn.mono (by omega)) _
 rename_i hb
 split
 ·have f:=h.fits;have f2:Ds.Fits { d with coming:=some (id,fin,sofar++body) } (m+6):=⟨f.mLast,f.tLast,f.mMost,f.tMost,f.mCount0,f.mCount1,f.tCount0,f.tCount1,f.from0,f.from1,f.to0,f.to1,f.ctl,f.ring,f.ev,f.inn,f.pings,λi e b hc=>by
   have hc':some (id,fin,sofar++body)=some (i,e,b):=hc;simp only[Option.some.injEq,Prod.mk.injEq] at hc';obtain⟨rfl,_,rfl⟩:=hc';exact⟨hid,by omega⟩,f.bodies,f.st⟩
  refine Ds.Ok.mono ⟨f2,h.ids,h.newT,h.newM,λi e b hc => ?_,h.ck,h.rb,h.cb⟩ (by omega);have hc':some (id,fin,sofar++body)=some (i,e,b):=hc;simp only[Option.some.injEq,Prod.mk.injEq] at hc';obtain⟨rfl,_,rfl⟩:=hc';exact⟨hst,by omega,hid,hsd,hl⟩
 split
 ·exact Ds.Ok.fail (d:={ d with coming:=none }) (hn.mono (by omega)) _
 ·rename_i hd hu
  have hu:=(ztu _ _ hu).2;split
  ·exact Ds.Ok.refuse (d:={ d with coming:=none }) (hn.mono (by omega)) rfl id hid hsd hl
  ·exact Ds.Ok.accept (d:={ d with coming:=none }) (hn.mono (by omega)) rfl id fin hd (by omega) hid hsd hl
theorem Ds.Ok.doOpen(h:d.Ok (m+6) q B)(hc:d.coming=none)(fin whole:Bool)(id:Nat)(body:Bytes)(hid:id<=65535):(d.doOpen fin whole id body).Ok m q B:=by
 unfold Ds.doOpen;split
 ·rename_i hs
  have f:=h.fits;have f2:Ds.Fits { d with tLast:=id } (m+6):=⟨f.mLast,hid,f.mMost,f.tMost,f.mCount0,f.mCount1,f.tCount0,f.tCount1,f.from0,f.from1,f.to0,f.to1,f.ctl,f.ring,f.ev,f.inn,f.pings,f.coming,f.bodies,f.st⟩;refine Ds.Ok.takeHeaders (d:={ d with tLast:=id }) ⟨f2,h.ids,λi hi hl => ?_,h.newM,λi e b hc' => ?_,h.ck,h.rb,h.cb⟩ id fin whole [] body hid hs.1 (Nat.le_refl _) (h.newT id hs.1 hs.2)
  ·have hl':id<i:=hl;exact h.newT i hi (by omega)
  ·have hc'':d.coming=some (i,e,b):=hc';rw[hc] at hc'';cases hc''
 ·exact Ds.Ok.fail (h.mono (by omega)) _
theorem Ds.Ok.doMore(h:d.Ok (m+6) q B)(whole:Bool)(body:Bytes):(d.doMore whole body).Ok m q B:=by
 unfold Ds.doMore;split
 ·exact Ds.Ok.fail (h.mono (by omega)) _
 ·rename_i i e b hc
  obtain⟨a1,-,a3,a4,a5⟩:=h.cm i e b hc;exact h.takeHeaders i e whole b body a3 a4 a5 a1
theorem Ds.Ok.doWindow(h:d.Ok (m+6) q B)(id:Nat)(body:Bytes):(d.doWindow id body).Ok m q B:=by
 unfold Ds.doWindow;dsimp only;have hfd:=h.found (id:Int);generalize d.find (id:Int)=s at *;have f:=h.fits;split
 ·exact Ds.Ok.fail (h.mono (by omega)) _
 split
 ·exact Ds.Ok.fail (h.mono (by omega)) _
 split
 ·exact Ds.Ok.fail (h.mono (by omega)) _
 split
 ·split
  ·exact Ds.Ok.fail (h.mono (by omega)) _
  ·rename_i hw
   refine Ds.Ok.mono (h.same (m':=m+6) ?_ rfl rfl rfl rfl rfl (λ_ hf => .inl hf) (Nat.le_refl _) (Nat.le_refl _)) (by omega);exact⟨f.mLast,f.tLast,f.mMost,f.tMost,f.mCount0,f.mCount1,f.tCount0,f.tCount1,by have:=f.from0;show (0:Int)<=d.from_+_;omega,by show d.from_+_<=(1000:Int);omega,f.to0,f.to1,f.ctl,f.ring,f.ev,f.inn,f.pings,f.coming,f.bodies,f.st⟩
 split
 ·rename_i hs1
  have hs:d.str s.id=some s:=by
   rcases hfd with e|e|e
   ·rw[e] at hs1;exact absurd hs1 (by decide)
   ·rw[e] at hs1;exact absurd hs1 (by decide)
   ·exact e
  obtain⟨-,h0,hq⟩:=h.ids _ _ hs;have fs:=f.st _ _ hs;split
  ·exact Ds.Ok.fail (h.mono (by omega)) _
  ·rename_i hw
   refine Ds.Ok.mono (Ds.Ok.setS (s:={ s with from_:=s.from_+(Cs.num body 0:Int) }) (s0:=s) h hs ?_ h0 hq) (by omega);exact⟨fs.id,fs.state,by have:=fs.from0;show (0:Int)<=s.from_+_;omega,by show s.from_+_<=(1000:Int);omega,fs.to0,fs.to1,fs.headers,fs.block,fs.data,fs.code⟩
 ·exact h.mono (by omega)
theorem Ds.Ok.done(h:d.Ok (m+6) q B)(kind flags id:Nat)(body:Bytes)(hid:id<=65535)(hb:body.length<=64):(d.done kind flags id body).Ok m q B:=by
 unfold Ds.done;dsimp only;split
 ·exact Ds.Ok.fail (h.mono (by omega)) _
 rename_i ho
 split
 ·exact h.doData _ _ _ hb
 split
 ·rename_i h1
  refine h.doOpen ?_ _ _ _ _ hid;unfold Ds.off at ho;split at ho
  ·assumption
  ·rw[h1] at ho;exact absurd rfl ho
 split
 ·exact h.doMore _ _
 split
 ·exact h.doReset _ _
 split
 ·unfold Ds.doSettings;split
  ·exact Ds.Ok.fail (h.mono (by omega)) _
  split
  ·split
   ·exact Ds.Ok.fail (h.mono (by omega)) _
   ·exact h.mono (by omega)
  split
  ·exact Ds.Ok.fail (h.mono (by omega)) _
  split
  ·exact Ds.Ok.fail (h.mono (by omega)) _
  ·rename_i h6
   refine Ds.Ok.mono (Ds.Ok.lay (m:=m+5) ?_ _ _ _ _ (by simp) (by omega) (by omega) (by omega)) (by omega);exact h.same (h.fits.most _ (by omega)) rfl rfl rfl rfl rfl (λ_ hf => .inl hf) (Nat.le_refl _) (Nat.le_refl _)
 split
 ·unfold Ds.doPing;split
  ·exact Ds.Ok.fail (h.mono (by omega)) _
  split
  ·exact Ds.Ok.fail (h.mono (by omega)) _
  split
  ·exact Ds.Ok.mono (Ds.Ok.tell (m:=m+5) h _ _ _) (by omega)
  ·exact Ds.Ok.mono (Ds.Ok.lay (m:=m+5) h _ _ _ _ (by omega) (by omega) (by omega) (by omega)) (by omega)
 split
 ·unfold Ds.doAway;split
  ·exact Ds.Ok.fail (h.mono (by omega)) _
  split
  ·exact Ds.Ok.fail (h.mono (by omega)) _
  ·refine Ds.Ok.mono (Ds.Ok.tell (m:=m+5) ?_ _ _ _) (by omega);exact h.same h.fits.left rfl rfl rfl rfl rfl (λ_ hf => .inl hf) (Nat.le_refl _) (Nat.le_refl _)
 split
 ·exact h.doWindow _ _
 ·exact h.mono (by omega)
theorem Ds.Ok.inn(h:d.Ok m q B)(x:Bytes)(hx:x.length<=68719476736):Ds.Ok { d with inn:=x } m q B:=by have f:=h.fits;exact h.same ⟨f.mLast,f.tLast,f.mMost,f.tMost,f.mCount0,f.mCount1,f.tCount0,f.tCount1,f.from0,f.from1,f.to0,f.to1,f.ctl,f.ring,f.ev,hx,f.pings,f.coming,f.bodies,f.st⟩ rfl rfl rfl rfl rfl (λ_ hf => .inl hf) (Nat.le_refl _) (Nat.le_refl _)
theorem zzbdn(b:Bytes)(k:Nat):Cs.num b k<=65535:=by have:=(b.getD k 0).toNat_lt;have:=(b.getD (k+1) 0).toNat_lt;unfold Cs.num;omega
theorem zzbgv(d:Ds)(h:Cs.num d.inn 0<=64):(zei d).length<=64:=by unfold zei;rw[List.length_drop,List.length_take];omega
theorem Ds.Ok.step(h:d.Ok (m+6) q B)(h64:Cs.num d.inn 0<=64):(zbd d).Ok m q B:=by
 unfold zbd;refine Ds.Ok.done (d:=zcg d) (h.inn _ ?_) _ _ _ _ (zzbdn _ _) (zzbgv d h64)
 have:=h.fits.inn
 rw[List.length_drop];omega
def GoodB(q:Nat)(B:Nat)(d:Ds):Prop:=d.Ok (6+d.inn.length) q B
theorem zmp(q:Nat)(B:Nat):GoodD (GoodB q B) where
 fits:=λd h=>h.fits.mono (by omega)
 st0:=λd h n s hn=>(h.ids n s hn).2.1
 new:=λd h id _ hs hl=>h.newT id hs hl
 cm:=λd h i e b hc=>⟨(h.cm i e b hc).1,(h.cm i e b hc).2.1,(h.cm i e b hc).2.2.1⟩
 next:=λd h hf h6 h64 hw hf'=>by
  have h1:d.Ok (d.inn.length+6) q B:=Ds.Ok.mono h (by omega);have h2:=h1.step h64;have hk:Kin (zcg d).inn (zbd d):=zet (zcg d) _ _ _ _;rcases hk with hk | hk
  ·rw[hk] at hf';cases hf'
  ·refine Ds.Ok.mono h2 ?_;rw[hk];unfold zcg;dsimp only;rw[List.length_drop];omega
theorem Ds.Ok.looks(f:Nat):∀ (d:Ds),d.Ok (m+d.inn.length+2) q B->(Ds.looks f d).Ok m q B:=by
 induction f with
 | zero=>intro d h;exact h.mono (by omega)
 | succ f ih =>
  intro d h;by_cases h0:d.failed=true\/d.inn.length<6
  ·rw[zbb _ _ h0];exact h.mono (by omega)
  have hf:d.failed=false:=by cases e:d.failed with
   | true=>exact absurd (.inl e) h0
   | false=>rfl
  have h6:6<=d.inn.length:=by
   by_cases e:d.inn.length<6
   ·exact absurd (.inr e) h0
   ·omega
  by_cases h64:64<Cs.num d.inn 0
  ·rw[zej f d hf h6 h64];exact Ds.Ok.fail (h.mono (by omega)) _
  by_cases hw:d.inn.length<6+Cs.num d.inn 0
  ·rw[zeu f d hf h6 (by omega) hw];exact h.mono (by omega)
  rw[zdo f d hf h6 (by omega) (by omega)];have h2:(zbd d).Ok (m+d.inn.length-4) q B:=Ds.Ok.step (h.mono (by omega)) (by omega);have hk:Kin (zcg d).inn (zbd d):=zet (zcg d) _ _ _ _;rcases hk with hk | hk
  ·rw[zbb _ _ (.inl hk)];exact h2.mono (by omega)
  ·refine ih _ (h2.mono ?_);rw[hk];unfold zcg;dsimp only;rw[List.length_drop];omega
theorem Ds.Ok.takes(b:Bytes)(h:d.Ok (m+d.inn.length+b.length+2) q B)(hl:d.inn.length+b.length<=68719476736):(d.takes b).Ok m q B:=by
 unfold Ds.takes;split
 ·exact h.mono (by omega)
 ·dsimp only;have hlen:(d.inn++b).length=d.inn.length+b.length:=List.length_append;refine Ds.Ok.looks _ _ ?_;refine Ds.Ok.mono (h.inn (d.inn++b) (by omega)) ?_
  show m+(d.inn++b).length+2<=_
  omega
end
def Ds.wi(d:Ds)(p:Bytes):Ds:={ d with inn:=p }
def Smd(p:Bytes)(x y:Ds):Prop:=(x.failed=false/\y=x.wi p)\/(x.failed=true/\y=x)
theorem zzbdo(d:Ds)(p:Bytes)(m:Bool)(k:Int):(d.wi p).bump m k=(d.bump m k).wi p:=by unfold Ds.bump;split<;>rfl
theorem zqf(d:Ds)(p:Bytes)(s:DS)(t:Nat):(d.wi p).move s t=(d.move s t).wi p:=by unfold Ds.move;rw[zzbdo];rfl
theorem zrg(d:Ds)(p:Bytes)(s:DS):(d.wi p).endThere s=(d.endThere s).wi p:=by
 unfold Ds.endThere;split
 ·exact zqf _ _ _ _
 ·rfl
theorem zzbjp(d:Ds)(p:Bytes)(n:Nat):(d.wi p).enter n=(d.enter n).wi p:=by
 unfold Ds.enter
 show (if d.ring.contains n=true then _ else _)=_
 split<;>rfl
theorem zzm(d:Ds)(p:Bytes)(s:DS):(d.wi p).place s=(d.place s).wi p:=by
 unfold Ds.place;split
 ·exact zzbjp _ _ _
 ·rfl
theorem zzblc(d:Ds)(p:Bytes)(s:DS):(d.wi p).drop s=(d.drop s).wi p:=by unfold Ds.drop;dsimp only;have e:=zzm (d.setS s.id { s with block:=[],data:=[] }) p { s with block:=[],data:=[] };have e':((d.wi p).setS s.id { s with block:=[],data:=[] }).place { s with block:=[],data:=[] }=((d.setS s.id { s with block:=[],data:=[] }).place { s with block:=[],data:=[] }).wi p:=e;rw[e'];split<;>rfl
theorem zzn(d:Ds)(p:Bytes)(s:DS)(c:Nat):(d.wi p).breakHere s c=(d.breakHere s c).wi p:=zqf _ _ _ _
theorem zty(d:Ds)(p:Bytes)(s:DS):(d.wi p).takeEnd s=(d.takeEnd s).wi p:=by unfold Ds.takeEnd;rw[zrg];rfl
theorem zzbbs(d:Ds)(p:Bytes)(s:DS)(fin:Bool)(n:Nat):(d.wi p).passOver s fin n=(d.passOver s fin n).wi p:=by
 unfold Ds.passOver;dsimp only;have e:(if 0<n then (d.wi p).give0 n else d.wi p)=(if 0<n then d.give0 n else d).wi p:=by split<;>rfl
 rw[e,zrg];split<;>rfl
theorem zzbdp(d:Ds)(p:Bytes)(m:Bool)(id:Nat):(d.wi p).keep m id=(d.keep m id).wi p:=by unfold Ds.keep;rw[zzbdo];rfl
theorem zzbgw(d:Ds)(p:Bytes)(id:Nat):(d.wi p).refuse id=(d.refuse id).wi p:=by unfold Ds.refuse;dsimp only;rw[zzbdp,zzn,zzm]
theorem zzbgx(d:Ds)(p:Bytes)(id:Nat)(fin:Bool)(h:zal):(d.wi p).accept id fin h=(d.accept id fin h).wi p:=by
 unfold Ds.accept;dsimp only;rw[zzbdp];split
 ·exact zty (((d.keep false id).setS id { Ds.begun id false with headers:=h }).tell 1 id 0) p _
 ·rfl
theorem zmq(d:Ds)(m:Bool)(k:Int):(d.bump m k).failed=d.failed:=by unfold Ds.bump;split<;>rfl
theorem zqg(d:Ds)(s:DS)(t:Nat):(d.move s t).failed=d.failed:=zmq _ _ _
theorem zrh(d:Ds)(s:DS):(d.endThere s).failed=d.failed:=by
 unfold Ds.endThere;split
 ·exact zqg _ _ _
 ·rfl
theorem zzo(d:Ds)(n:Nat):(d.enter n).failed=d.failed:=by unfold Ds.enter;split<;>rfl
theorem zsi(d:Ds)(s:DS):(d.place s).failed=d.failed:=by
 unfold Ds.place;split
 ·exact zzo _ _
 ·rfl
theorem zzbld(d:Ds)(s:DS):(d.drop s).failed=d.failed:=by
 unfold Ds.drop;dsimp only;split
 ·exact(zsi _ _).trans rfl
 ·exact(zsi _ _).trans rfl
theorem zzp(d:Ds)(s:DS)(c:Nat):(d.breakHere s c).failed=d.failed:=zqg _ _ _
theorem ztz(d:Ds)(s:DS):(d.takeEnd s).failed=d.failed:=zrh _ _
theorem zzbbt(d:Ds)(s:DS)(fin:Bool)(n:Nat):(d.passOver s fin n).failed=d.failed:=by
 unfold Ds.passOver;dsimp only;split
 ·rw[zrh];split<;>rfl
 ·split<;>rfl
theorem zzbgy(d:Ds)(id:Nat):(d.refuse id).failed=d.failed:=by unfold Ds.refuse;dsimp only;rw[zsi,zzp];exact zmq _ _ _
theorem zzbgz(d:Ds)(id:Nat)(fin:Bool)(h:zal):(d.accept id fin h).failed=d.failed:=by
 unfold Ds.accept;dsimp only;split
 ·rw[ztz];exact zmq _ _ _
 ·exact zmq _ _ _
theorem Smd.of{p:Bytes}{x y:Ds}(h1:x.failed=false)(h2:y=x.wi p):Smd p x y:=.inl ⟨h1,h2⟩
theorem Smd.fail(p:Bytes)(d:Ds)(c:Nat):Smd p (d.fail c) ((d.wi p).fail c):=.inr ⟨rfl,rfl⟩
theorem Smd.ite{p:Bytes}{q:Prop}[Decidable q]{a b a' b':Ds}(ha:Smd p a a')(hb:Smd p b b'):Smd p (if q then a else b) (if q then a' else b'):=by split<;>assumption
section
variable {d:Ds} (p:Bytes)
theorem zzbeu(hf:d.failed=false)(fin:Bool)(id:Nat)(body:Bytes):Smd p (d.doData fin id body) ((d.wi p).doData fin id body):=by unfold Ds.doData;have e:(d.wi p).find (id:Int)=d.find (id:Int):=rfl;have e2:(d.wi p).to_=d.to_:=rfl;dsimp only;rw[e,e2];generalize d.find (id:Int)=s;refine Smd.ite (Smd.fail _ _ _) (Smd.ite (Smd.fail _ _ _) (Smd.ite (Smd.of ((zzbbt _ _ _ _).trans hf) (zzbbs { d with to_:=d.to_-(body.length:Int) } p s fin _)) (Smd.ite (Smd.fail p { d with to_:=d.to_-(body.length:Int) } _) (Smd.ite (Smd.fail p { d with to_:=d.to_-(body.length:Int) } _) (Smd.ite (Smd.of ((ztz _ _).trans hf) (zty (Ds.setS { d with to_:=d.to_-(body.length:Int) } _ _) p _)) (Smd.of hf rfl))))))
theorem zzbbu(hf:d.failed=false)(id:Nat)(body:Bytes):Smd p (d.doReset id body) ((d.wi p).doReset id body):=by unfold Ds.doReset;have e:(d.wi p).find (id:Int)=d.find (id:Int):=rfl;dsimp only;rw[e];generalize d.find (id:Int)=s;refine Smd.ite (Smd.fail _ _ _) (Smd.ite (Smd.fail _ _ _) (Smd.ite (Smd.of ((zqg _ _ _).trans hf) (zqf _ _ _ _)) (Smd.ite (Smd.of hf rfl) (Smd.of (((zzbld _ _).trans (zqg _ _ _)).trans hf) ?_))));rw[zqf,zzblc];rfl
theorem zll(hf:d.failed=false)(id:Nat)(fin whole:Bool)(sofar body:Bytes):Smd p (d.takeHeaders id fin whole sofar body) ((d.wi p).takeHeaders id fin whole sofar body):=by
 unfold Ds.takeHeaders;dsimp only;refine Smd.ite (Smd.fail p { d with coming:=some (id,fin,sofar++body) } _) (Smd.ite (Smd.of hf rfl) ?_);cases unpacks (sofar++body) with
 | none=>exact Smd.fail p { d with coming:=some (id,fin,sofar++body) } _
 | some h =>
  show Smd p (if (d.tMost:Int)<=d.tCount\/d.leaving=true then _ else _) (if (d.tMost:Int)<=d.tCount\/d.leaving=true then _ else _)
  exact Smd.ite (Smd.of ((zzbgy _ _).trans hf) (zzbgw { d with coming:=none } p id)) (Smd.of ((zzbgz _ _ _ _).trans hf) (zzbgx { d with coming:=none } p id fin h))
theorem zzbev(hf:d.failed=false)(fin whole:Bool)(id:Nat)(body:Bytes):Smd p (d.doOpen fin whole id body) ((d.wi p).doOpen fin whole id body):=by
 unfold Ds.doOpen
 show Smd p (if d.side id=some false/\d.tLast<id then _ else _) (if d.side id=some false/\d.tLast<id then _ else _)
 exact Smd.ite (zll (d:={ d with tLast:=id }) p hf id fin whole [] body) (Smd.fail _ _ _)
theorem zzbew(hf:d.failed=false)(whole:Bool)(body:Bytes):Smd p (d.doMore whole body) ((d.wi p).doMore whole body):=by
 unfold Ds.doMore;have e:(d.wi p).coming=d.coming:=rfl;rw[e];split
 ·exact Smd.fail _ _ _
 ·exact zll p hf _ _ _ _ _
theorem zzq(hf:d.failed=false)(id:Nat)(body:Bytes):Smd p (d.doWindow id body) ((d.wi p).doWindow id body):=by unfold Ds.doWindow;have e:(d.wi p).find (id:Int)=d.find (id:Int):=rfl;have e2:(d.wi p).from_=d.from_:=rfl;dsimp only;rw[e,e2];generalize d.find (id:Int)=s;exact Smd.ite (Smd.fail _ _ _) (Smd.ite (Smd.fail _ _ _) (Smd.ite (Smd.fail _ _ _) (Smd.ite (Smd.ite (Smd.fail _ _ _) (Smd.of hf rfl)) (Smd.ite (Smd.ite (Smd.fail _ _ _) (Smd.of hf rfl)) (Smd.of hf rfl)))))
theorem zzbjq(hf:d.failed=false)(kind flags id:Nat)(body:Bytes):Smd p (d.done kind flags id body) ((d.wi p).done kind flags id body):=by
 unfold Ds.done;have e:(d.wi p).off kind id=d.off kind id:=rfl;dsimp only;rw[e];refine Smd.ite (Smd.fail _ _ _) (Smd.ite (zzbeu p hf _ _ _) (Smd.ite (zzbev p hf _ _ _ _) (Smd.ite (zzbew p hf _ _) (Smd.ite (zzbbu p hf _ _) (Smd.ite ?_ (Smd.ite ?_ (Smd.ite ?_ (Smd.ite (zzq p hf _ _) (Smd.of hf rfl)))))))))
 ·unfold Ds.doSettings;exact Smd.ite (Smd.fail _ _ _) (Smd.ite (Smd.ite (Smd.fail _ _ _) (Smd.of hf rfl)) (Smd.ite (Smd.fail _ _ _) (Smd.ite (Smd.fail _ _ _) (Smd.of hf rfl))))
 ·unfold Ds.doPing;exact Smd.ite (Smd.fail _ _ _) (Smd.ite (Smd.fail _ _ _) (Smd.ite (Smd.of hf rfl) (Smd.of hf rfl)))
 ·unfold Ds.doAway;exact Smd.ite (Smd.fail _ _ _) (Smd.ite (Smd.fail _ _ _) (Smd.of hf rfl))
end
theorem zpo(d:Ds)(hw:6+Cs.num d.inn 0<=d.inn.length):(zbd d).failed=true\/(zbd d).inn.length+6<=d.inn.length:=by
 have hk:Kin (zcg d).inn (zbd d):=zet (zcg d) _ _ _ _;rcases hk with hk | hk
 ·exact .inl hk
 ·right;rw[hk];unfold zcg;dsimp only;rw[List.length_drop];omega
theorem zri(f g:Nat)(c:Ds)(hf:c.inn.length<=f)(hg:c.inn.length<=g):Ds.looks f c=Ds.looks g c:=by
 induction f generalizing g c with
 | zero=>rw[zbb 0 c (.inr (by omega)),zbb g c (.inr (by omega))]
 | succ f ih =>
  by_cases h1:c.failed=true\/c.inn.length<6
  ·rw[zbb _ c h1,zbb _ c h1]
  ·have hfa:c.failed=false:=by cases hx:c.failed;rfl;exact absurd (.inl hx) h1
   have h6:6<=c.inn.length:=by omega
   obtain⟨g',rfl⟩:∃ g',g=g'+1:=⟨g-1,by omega⟩;by_cases h64:Cs.num c.inn 0<=64
   ·by_cases hw:6+Cs.num c.inn 0<=c.inn.length
    ·rw[zdo f c hfa h6 h64 hw,zdo g' c hfa h6 h64 hw];rcases zpo c hw with hx | hx
     ·rw[zbb _ _ (.inl hx),zbb _ _ (.inl hx)]
     ·exact ih g' (zbd c) (by omega) (by omega)
    ·rw[zeu f c hfa h6 h64 (by omega),zeu g' c hfa h6 h64 (by omega)]
   ·rw[zej f c hfa h6 (by omega),zej g' c hfa h6 (by omega)]
theorem zkt(f:Nat)(c:Ds):(Ds.looks f c).failed=true\/(Ds.looks f c).inn.length<=c.inn.length:=by
 induction f generalizing c with
 | zero=>exact .inr (Nat.le_refl _)
 | succ f ih =>
  by_cases h1:c.failed=true\/c.inn.length<6
  ·rw[zbb _ c h1];exact .inr (Nat.le_refl _)
  ·have hfa:c.failed=false:=by cases hx:c.failed;rfl;exact absurd (.inl hx) h1
   have h6:6<=c.inn.length:=by omega
   by_cases h64:Cs.num c.inn 0<=64
   ·by_cases hw:6+Cs.num c.inn 0<=c.inn.length
    ·rw[zdo f c hfa h6 h64 hw];rcases zpo c hw with hx | hx
     ·rw[zbb _ _ (.inl hx)];exact .inl hx
     ·rcases ih (zbd c) with hy|hy
      ·exact .inl hy
      ·right;omega
    ·rw[zeu f c hfa h6 h64 (by omega)];exact .inr (Nat.le_refl _)
   ·rw[zej f c hfa h6 (by omega)];exact .inl rfl
theorem zsj(p b:Bytes)(k:Nat)(h:k+2<=p.length):Cs.num (p++b) k=Cs.num p k:=by unfold Cs.num;simp only[List.getD_eq_getElem?_getD];rw[List.getElem?_append_left (by omega),List.getElem?_append_left (by omega)]
theorem zwj(p b:Bytes)(k:Nat)(h:k<p.length):(p++b).getD k 0=p.getD k 0:=by simp only[List.getD_eq_getElem?_getD];rw[List.getElem?_append_left h]
theorem zzbex(c:Ds)(b:Bytes)(hfa:c.failed=false)(h6:6<=c.inn.length)(hw:6+Cs.num c.inn 0<=c.inn.length):(zbd c).failed=true/\zbd (c.wi (c.inn++b))=zbd c\/(zbd c).failed=false/\zbd (c.wi (c.inn++b))=(zbd c).wi ((zbd c).inn++b):=by
 have h:=zzbjq (d:=zcg c) ((c.inn++b).drop (6+Cs.num c.inn 0)) hfa (c.inn.getD 2 0).toNat (c.inn.getD 3 0).toNat (Cs.num c.inn 4) (zei c);have e:zbd (c.wi (c.inn++b))=((zcg c).wi ((c.inn++b).drop (6+Cs.num c.inn 0))).done (c.inn.getD 2 0).toNat (c.inn.getD 3 0).toNat (Cs.num c.inn 4) (zei c):=by
  unfold zbd;have hn:Cs.num (c.wi (c.inn++b)).inn 0=Cs.num c.inn 0:=zsj c.inn b 0 (by omega);have e4:Cs.num (c.wi (c.inn++b)).inn 4=Cs.num c.inn 4:=zsj c.inn b 4 (by omega);have e2:(c.wi (c.inn++b)).inn.getD 2 0=c.inn.getD 2 0:=zwj c.inn b 2 (by omega);have e3:(c.wi (c.inn++b)).inn.getD 3 0=c.inn.getD 3 0:=zwj c.inn b 3 (by omega);have eb:zei (c.wi (c.inn++b))=zei c:=by
   unfold zei;rw[hn]
   show ((c.inn++b).take _).drop 6=_
   rw[List.take_append_of_le_length hw]
  have er:zcg (c.wi (c.inn++b))=(zcg c).wi ((c.inn++b).drop (6+Cs.num c.inn 0)):=by unfold zcg;rw[hn];rfl
  rw[e2,e3,e4,eb,er]
 rw[<-e] at h;rcases h with ⟨h1,h2⟩ | ⟨h1,h2⟩
 ·right;refine⟨h1,h2.trans ?_⟩;have hk:Kin (zcg c).inn (zbd c):=zet (zcg c) _ _ _ _;rcases hk with hk | hk
  ·have h1':(zbd c).failed=false:=h1;rw[hk] at h1';cases h1'
  ·show (zbd c).wi _=_
   rw[hk,List.drop_append_of_le_length hw];rfl
 ·exact .inl ⟨h1,h2⟩
theorem zzbbv(n:Nat)(c:Ds)(b:Bytes)(hn:c.inn.length<=n)(hfa:c.failed=false)(F f:Nat)(hF:(c.inn++b).length<=F)(hf:c.inn.length<=f) :
  Ds.looks F (c.wi (c.inn++b))=if (Ds.looks f c).failed then Ds.looks f c else Ds.looks F ((Ds.looks f c).wi ((Ds.looks f c).inn++b)):=by
 induction n generalizing c F f with
 | zero =>
  rw[zbb f c (.inr (by omega)),if_neg (by rw[hfa];simp)]
 | succ n ih =>
  rw[List.length_append] at hF;by_cases h6:6<=c.inn.length
  ·obtain⟨f',rfl⟩:∃ f',f=f'+1:=⟨f-1,by omega⟩;obtain⟨F',rfl⟩:∃ F',F=F'+1:=⟨F-1,by omega⟩;have hnum:Cs.num (c.wi (c.inn++b)).inn 0=Cs.num c.inn 0:=zsj c.inn b 0 (by omega);have hlen:(c.wi (c.inn++b)).inn.length=c.inn.length+b.length:=List.length_append;by_cases h64:Cs.num c.inn 0<=64
   ·by_cases hw:6+Cs.num c.inn 0<=c.inn.length
    ·rw[zdo F' (c.wi (c.inn++b)) hfa (by omega) (by omega) (by omega),zdo f' c hfa h6 h64 hw];rcases zzbex c b hfa h6 hw with ⟨hx,ex⟩ | ⟨hx,ex⟩
     ·rw[ex,zbb f' _ (.inl hx),zbb F' _ (.inl hx),if_pos hx]
     ·have hp:(zbd c).inn.length+6<=c.inn.length:=by
       rcases zpo c hw with hy|hy
       ·rw[hy] at hx;cases hx
       ·exact hy
      rw[ex,ih (zbd c) (by omega) hx F' f' (by rw[List.length_append];omega) (by omega)];split
      ·rfl
      ·rename_i hnf
       rcases zkt f' (zbd c) with hy|hy
       ·exact absurd hy hnf
       ·exact zri _ _ _ (by show ((Ds.looks f' (zbd c)).inn++b).length<=_;rw[List.length_append];omega) (by show ((Ds.looks f' (zbd c)).inn++b).length<=_;rw[List.length_append];omega)
    ·rw[zeu f' c hfa h6 h64 (by omega),if_neg (by rw[hfa];simp)]
   ·rw[zej F' (c.wi (c.inn++b)) hfa (by omega) (by omega),zej f' c hfa h6 (by omega),if_pos (show (c.fail 3).failed=true from rfl)];rfl
  ·rw[zbb f c (.inr (by omega)),if_neg (by rw[hfa];simp)]
theorem zfp(c:Ds)(a b:Bytes):c.takes (a++b)=(c.takes a).takes b:=by
 unfold Ds.takes;by_cases hfa:c.failed=true
 ·rw[if_pos hfa,if_pos hfa,if_pos hfa]
 ·have hff:c.failed=false:=by cases hx:c.failed;rfl;exact absurd hx hfa
  rw[if_neg hfa,if_neg hfa];dsimp only;have h1:=zzbbv (c.inn++a).length (c.wi (c.inn++a)) b (Nat.le_refl _) hff (((c.inn++a)++b).length+1) ((c.inn++a).length+1) (Nat.le_succ _) (Nat.le_succ _);have e1:({ c with inn:=c.inn++(a++b) }:Ds)=(c.wi (c.inn++a)).wi ((c.wi (c.inn++a)).inn++b):=by
   show c.wi (c.inn++(a++b))=c.wi ((c.inn++a)++b)
   rw[List.append_assoc]
  have hl:(c.inn++(a++b)).length=((c.inn++a)++b).length:=by rw[List.append_assoc]
  rw[e1]
  show Ds.looks ((c.inn++(a++b)).length+1) ((c.wi (c.inn++a)).wi ((c.wi (c.inn++a)).inn++b))=_
  rw[hl,h1];have key:∀ Z:Ds,(Z.failed=true\/Z.inn.length<=(c.inn++a).length)->(if Z.failed=true then Z else Ds.looks (((c.inn++a)++b).length+1) (Z.wi (Z.inn++b)))=(if Z.failed=true then Z else Ds.looks ((Z.inn++b).length+1) (Z.wi (Z.inn++b))):=λZ hZ=>by
   split
   ·rfl
   ·rename_i hnf
    rcases hZ with hZ|hZ
    ·exact absurd hZ hnf
    refine zri _ _ _ ?_ (Nat.le_succ _);have e2:((c.inn++a)++b).length=(c.inn++a).length+b.length:=List.length_append;have e3:(Z.inn++b).length=Z.inn.length+b.length:=List.length_append
    show (Z.inn++b).length<=_
    omega
  exact key _ (zkt ((c.inn++a).length+1) (c.wi (c.inn++a)))
end Go.Proofs.YtoijpogadkogcaaGreat
